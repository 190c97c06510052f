/-
  Package rec: Find, Put.
-/
import Derived.Test.YtnladolpcocchaaRecP
namespace Go.Proofs.Ytnladolpcocchaa
open Go.RowKit
set_option linter.unusedSimpArgs false
set_option linter.unusedVariables false
set_option maxRecDepth 10000
set_option synthInstance.maxSize 2000

def FindPost (w : World) (l : List Rc) (v : Int) (e : Ending) (w' : World) : Prop :=
  (if firstP (fun i => i == v) l < l.length then ∃ r', e = .returned (.tuple #[.agg #[.int .i64 r'.id, .int .i64 r'.inc, .int .i64 r'.st, .int .i64 r'.lo, .int .i64 r'.hi, .bool r'.cut, .slice r'.p r'.bag.length r'.cap], .bool true]) ∧ rk r' = rk (l.getD (firstP (fun i => i == v) l) zr) ∧ ROk w' r'
   else e = .returned (.tuple #[.agg #[.int .i64 0, .int .i64 0, .int .i64 0, .int .i64 0, .int .i64 0, .bool false, .slice none 0 0], .bool false])) ∧ Below w.heap.size w w'

set_option maxHeartbeats 4000000 in
theorem find_any (p : Option Addr) (c : Nat) (l : List Rc) (v : Int) (w : World) (hp : RIn w p l) (hn : l.length ≤ maxLen) (hs : ∀ x ∈ l, x.bag.length ≤ 1099511627776) :
    Calls Try.prog 11 #[.slice p l.length c, .int .i64 v] w (FindPost w l v) := by
  have HP := Hid.mk' (show ∀ e w', FindPost w l v e w' = ((if firstP (fun i => i == v) l < l.length then ∃ r', e = .returned (.tuple #[.agg #[.int .i64 r'.id, .int .i64 r'.inc, .int .i64 r'.st, .int .i64 r'.lo, .int .i64 r'.hi, .bool r'.cut, .slice r'.p r'.bag.length r'.cap], .bool true]) ∧ rk r' = rk (l.getD (firstP (fun i => i == v) l) zr) ∧ ROk w' r' else e = .returned (.tuple #[.agg #[.int .i64 0, .int .i64 0, .int .i64 0, .int .i64 0, .int .i64 0, .bool false, .slice none 0 0], .bool false])) ∧ Below w.heap.size w w') from fun _ _ => rfl)
  have HI : Hid (InB w zr (w.alloc (.cells #[.int .i64 0, .int .i64 0, .int .i64 0, .int .i64 0, .int .i64 0, .bool false, .slice none 0 0] 34))) := InB.start w zr
  have N := placeOf_any p c l v _ (hp.below HI.out.below) hn
  have hle := firstP_le (fun i => i == v) l
  simp only [maxLen] at hn
  generalize FindPost w l v = Q at HP ⊢
  generalize firstP (fun i => i == v) l = k at HP N hle
  go_enter Try.func11, Try.ntmps11
  go_wp2_with fail
  refine N.mono ?_
  rintro e w1 ⟨rfl, hb1⟩
  have HI1 := Hid.mk' (HI.out.on hb1)
  clear HI hb1 N
  by_cases t : k < l.length
  · have d : ((k : Int) == (l.length : Int)) = false := by simp; omega
    have d' : ¬ (k : Int) = (l.length : Int) := by omega
    obtain ⟨b, o, rfl, hc⟩ := (hp.below HI1.out.below).at (by omega)
    obtain ⟨hx, hok⟩ := hc k t
    have hsk := hs (l.getD k zr) (by simp [List.getD, t])
    generalize l.getD k zr = y at HP hx hok hsk
    obtain ⟨e0, e1, e2, e3, e4, e5, e6⟩ := hx
    have O := rown_any y w1 hok hsk
    clear hc hok hsk
    go_wp2_with fail
    refine O.mono ?_
    rintro e w2 ⟨r', rfl, hrk, hra, hb2⟩
    have HI2 := Hid.mk' (HI1.out.on hb2)
    have HA := Hid.mk' hra
    have HK := Hid.mk' hrk
    have HL := Hid.mk' (lt_of_cell (box_cells HI1.out.box).1)
    clear e0 e1 e2 e3 e4 e5 e6 hra hrk hb2 O HI1
    obtain ⟨d0, d1, d2, d3, d4, d5, d6⟩ := box_cells HI2.out.box
    simp only [zr, List.length_nil] at d0 d1 d2 d3 d4 d5 d6
    obtain ⟨f0, f1, f2, f3, f4, f5, f6⟩ := box_frozen HI2.out.box
    go_wp2_with fail
    refine bodyPost_ret (v := .tuple #[.agg #[.int .i64 r'.id, .int .i64 r'.inc, .int .i64 r'.st, .int .i64 r'.lo, .int .i64 r'.hi, .bool r'.cut, .slice r'.p r'.bag.length r'.cap], .bool true]) (by simp [results, Try.results11, go_sem, *]) rfl ?_
    rw [HP.out, if_pos t]
    refine ⟨⟨r', rfl, HK.out, ((HA.out.mono (Nat.le_of_lt HL.out)).fr (S := fun k => k = w.heap.size) ?_ fun i q => Nat.le_of_eq q).ok⟩, ?_⟩
    · exact (((((((Fr.refl (fun k => k = w.heap.size) w2).setCell (.inl rfl) _).setCell (.inl rfl) _).setCell (.inl rfl) _).setCell (.inl rfl) _).setCell (.inl rfl) _).setCell (.inl rfl) _).setCell (.inl rfl) _
    · exact ((((((HI2.out.below.setCell (by simp) _).setCell (by simp) _).setCell (by simp) _).setCell (by simp) _).setCell (by simp) _).setCell (by simp) _).setCell (by simp) _
  · have d : ((k : Int) == (l.length : Int)) = true := by simp; omega
    have HT := Hid.mk' t
    clear t hle
    obtain ⟨d0, d1, d2, d3, d4, d5, d6⟩ := box_cells HI1.out.box
    simp only [zr, List.length_nil] at d0 d1 d2 d3 d4 d5 d6
    obtain ⟨f0, f1, f2, f3, f4, f5, f6⟩ := box_frozen HI1.out.box
    go_wp2_with fail
    refine bodyPost_ret (v := .tuple #[.agg #[.int .i64 0, .int .i64 0, .int .i64 0, .int .i64 0, .int .i64 0, .bool false, .slice none 0 0], .bool false]) (by simp [results, Try.results11, go_sem, *]) rfl ?_
    rw [HP.out, if_neg HT.out]
    refine ⟨rfl, ?_⟩
    exact ((((((HI1.out.below.setCell (by simp) _).setCell (by simp) _).setCell (by simp) _).setCell (by simp) _).setCell (by simp) _).setCell (by simp) _).setCell (by simp) _
end Go.Proofs.Ytnladolpcocchaa
