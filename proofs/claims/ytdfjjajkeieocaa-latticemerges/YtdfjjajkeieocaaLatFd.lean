/-
  The statements' own 'find': what all records of an id in two lists come to.
-/
import Derived.Test.YtdfjjajkeieocaaLatG
import Derived.Test.YtdfjjajkeieocaaLaw09
import Derived.Test.YtdfjjajkeieocaaRecP
namespace Go.Proofs.Ytdfjjajkeieocaa
open Go.RowKit
set_option linter.unusedSimpArgs false
set_option linter.unusedVariables false
set_option maxRecDepth 10000
set_option synthInstance.maxSize 2000

/-- The answer's box, and the join's so far. -/
structure FndS (w : World) (r : Rc) (X : World) : Prop where
  below : Below w.heap.size w X
  ba : Bx X w.heap.size zr
  bo : Bx X (w.heap.size + 1) r
theorem FndS.on {w X X' : World} {r : Rc} (h : FndS w r X) (k : Below X.heap.size X X') : FndS w r X' := ⟨h.below.trans (k.mono h.below.size), h.ba.on k, h.bo.on k⟩
theorem FndS.start (w : World) : FndS w zr ((w.alloc (.cells #[.int .i64 0, .int .i64 0, .int .i64 0, .int .i64 0, .int .i64 0, .bool false, .slice none 0 0] 27)).alloc (.cells #[.int .i64 0, .int .i64 0, .int .i64 0, .int .i64 0, .int .i64 0, .bool false, .slice none 0 0] 27)) := by
  have h := InB2.start w zr zr
  exact ⟨h.below, ⟨h.ba⟩, ⟨h.bb⟩⟩
theorem FndS.set {w X : World} {r : Rc} (h : FndS w r X) (s : Rc) {g : Nat} (hg : g = w.heap.size + 1) : FndS w s (((((((X.setCell ⟨g, 0, none⟩ (.int .i64 s.id)).setCell ⟨g, 1, none⟩ (.int .i64 s.inc)).setCell ⟨g, 2, none⟩ (.int .i64 s.st)).setCell ⟨g, 3, none⟩ (.int .i64 s.lo)).setCell ⟨g, 4, none⟩ (.int .i64 s.hi)).setCell ⟨g, 5, none⟩ (.bool s.cut)).setCell ⟨g, 6, none⟩ (.slice s.p s.bag.length s.cap)) := by
  subst hg
  have k := (Fr.refl (fun k => k = w.heap.size + 1) X).seven (b := w.heap.size + 1) (o := 0) rfl s
  simp only [Nat.zero_add] at k
  exact ⟨bel_seven h.below (by omega) s, ⟨by rw [k.block _ h.ba.lt (by omega)]; exact h.ba.it⟩, ⟨box_set7 h.bo.it s⟩⟩

def FindP (w : World) (o : Option RK) (e : Ending) (w' : World) : Prop := ∃ r : Rc, ∃ ok : Bool, e = .returned (.tuple #[.agg #[.int .i64 r.id, .int .i64 r.inc, .int .i64 r.st, .int .i64 r.lo, .int .i64 r.hi, .bool r.cut, .slice r.p r.bag.length r.cap], .bool ok]) ∧ (o = if ok then some (rk r) else none) ∧ ROk w r ∧ Below w.heap.size w w'

theorem rapp_left (a b : List Rc) (k : Nat) (h : k < a.length) : (a ++ b).getD k zr = a.getD k zr := by simp [List.getD, List.getElem?_append, h]
theorem rapp_right (a b : List Rc) (k : Nat) (h : ¬ k < a.length) : (a ++ b).getD k zr = b.getD (k - a.length) zr := by simp [List.getD, List.getElem?_append, h]

set_option maxHeartbeats 8000000 in
theorem lfind_any (p : Option Addr) (c : Nat) (x : List Rc) (q : Option Addr) (d : Nat) (y : List Rc) (v : Int) (w : World) (hp : RIn w p x) (hq : RIn w q y) (hn : x.length ≤ 1000) (hm : y.length ≤ 1000) :
    Calls Try.prog 24 #[.slice p x.length c, .slice q y.length d, .int .i64 v] w (FindP w (gK (rks (x ++ y)) v)) := by
  have HP := Hid.mk' (show ∀ e w', FindP w (gK (rks (x ++ y)) v) e w' = ∃ r : Rc, ∃ ok : Bool, e = .returned (.tuple #[.agg #[.int .i64 r.id, .int .i64 r.inc, .int .i64 r.st, .int .i64 r.lo, .int .i64 r.hi, .bool r.cut, .slice r.p r.bag.length r.cap], .bool ok]) ∧ (gK (rks (x ++ y)) v = if ok then some (rk r) else none) ∧ ROk w r ∧ Below w.heap.size w w' from fun _ _ => rfl)
  generalize FindP w (gK (rks (x ++ y)) v) = Post at HP ⊢
  have HX := Hid.mk' hp
  have HY := Hid.mk' hq
  have HF := Hid.mk' (FndS.start w)
  have hsum : IntKind.i64.wrap ((x.length : Int) + (y.length : Int)) = (x.length : Int) + (y.length : Int) := by rw [IntKind.wrap_i64]; omega
  have HLA := Hid.mk' (show (x ++ y).length = x.length + y.length by simp)
  clear hp hq
  go_enter Try.func24, Try.ntmps24
  go_wp2_with fail
  go_loopw [9, 10] (fun o i W => ∃ k : Nat, ∃ r : Rc, ∃ ok : Bool, k ≤ x.length + y.length ∧ i = .int .i64 k ∧ o = .bool ok ∧ Hid (gK (rks ((x ++ y).take k)) v = if ok then some (rk r) else none) ∧ Hid (ROk w r) ∧ Hid (FndS w r W)) (fun _ i _ => x.length + y.length - (intOf i).toNat)
  case atStart => exact ⟨0, zr, false, by omega, rfl, rfl, Hid.mk' (by simp [rks, gK]), zr_ok _, HF⟩
  case round =>
    obtain ⟨k, r, ok, hk, rfl, rfl, HG, HR, HS⟩ := hrel
    clear HF
    by_cases t : k < x.length + y.length
    · have ti : (k : Int) < (x.length : Int) + (y.length : Int) := by omega
      have td : decide ((k : Int) < (x.length : Int) + (y.length : Int)) = true := by simpa using ti
      obtain ⟨bq, hbq⟩ : ∃ bq, decide (k < x.length) = bq := ⟨_, rfl⟩
      have HBQ := Hid.mk' hbq
      obtain ⟨e, he⟩ : ∃ e, (x ++ y).getD k zr = e := ⟨_, rfl⟩
      have HE := Hid.mk' (show rks ((x ++ y).take (k + 1)) = rks ((x ++ y).take k) ++ [rk e] by rw [rtake_next _ k (by rw [HLA.out]; exact t), rks_append, he]; rfl)
      have HB0 := Hid.mk' ((Below.refl wr.heap.size wr).alloc (Nat.le_refl _) (.cells #[.int .i64 e.id, .int .i64 e.inc, .int .i64 e.st, .int .i64 e.lo, .int .i64 e.hi, .bool e.cut, .slice e.p e.bag.length e.cap] 27))
      have HBX := Hid.mk' (Bx.new wr e)
      have HOE : Hid (ROk w e) := by
        by_cases t1 : k < x.length
        · rw [← he, rapp_left _ _ _ t1]; exact HX.out.oks _ (by simp [List.getD, t1])
        · rw [← he, rapp_right _ _ _ t1]; exact HY.out.oks _ (by simp [List.getD, show k - x.length < y.length by omega])
      go_upto_if 25 with fail
      clear hbq
      go_cut [11] (fun t wx => t = .pointer (some ⟨wr.heap.size, 0, none⟩) ∧ Hid (Below wr.heap.size wr wx) ∧ Hid (Bx wx wr.heap.size e))
      case first =>
        cases bq
        · have t1 : ¬ k < x.length := by have h := HBQ.out; simp at h; omega
          obtain ⟨j, hj⟩ : ∃ j, k = x.length + j := ⟨k - x.length, by omega⟩
          have s9 : IntKind.i64.wrap ((k : Int) - (x.length : Int)) = (j : Int) := by rw [IntKind.wrap_i64]; omega
          have hjl : j < y.length := by omega
          obtain ⟨b, o, rfl, hc⟩ := (HY.out.below HS.out.below).at (by omega)
          obtain ⟨hx, _⟩ := hc j hjl
          rw [show y.getD j zr = e by rw [← he, rapp_right _ _ _ t1, show k - x.length = j by omega]] at hx
          obtain ⟨e0, e1, e2, e3, e4, e5, e6⟩ := hx
          have hlt : b < wr.heap.size := lt_of_cell e0
          clear hc he hj t1
          go_wp2_with fail
          go_meet
          exact ⟨rfl, HB0, HBX⟩
        · have t1 : k < x.length := by have h := HBQ.out; simp at h; omega
          obtain ⟨b, o, rfl, hc⟩ := (HX.out.below HS.out.below).at (by omega)
          obtain ⟨hx, _⟩ := hc k t1
          rw [show x.getD k zr = e by rw [← he, rapp_left _ _ _ t1]] at hx
          obtain ⟨e0, e1, e2, e3, e4, e5, e6⟩ := hx
          have hlt : b < wr.heap.size := lt_of_cell e0
          clear hc he
          go_wp2_with fail
          go_meet
          exact ⟨rfl, HB0, HBX⟩
      case rest =>
      obtain ⟨rfl, HB1, HX1⟩ := hcut
      clear HB0 HBX he
      have HS1 := Hid.mk' (HS.out.on HB1.out)
      obtain ⟨c0, c1, c2, c3, c4, c5, c6⟩ := HX1.out.cells
      obtain ⟨o0, o1, o2, o3, o4, o5, o6⟩ := HS1.out.bo.cells
      obtain ⟨f0, f1, f2, f3, f4, f5, f6⟩ := HS1.out.bo.frozen
      have hne : w.heap.size + 1 ≠ wr.heap.size := by have := HS.out.bo.lt; omega
      by_cases te : e.id = v
      · have de : (e.id == v) = true := by simpa using te
        cases ok
        · have HG2 := Hid.mk' (show gK (rks ((x ++ y).take (k + 1))) v = if true then some (rk e) else none by rw [HE.out, gK_snoc, HG.out]; simp [sg, oj, te, rk])
          have HS2 := Hid.mk' (HS1.out.set e rfl)
          clear te HG HE
          go_wp2_with fail
          go_roundw
          case rel => exact ⟨k + 1, e, true, by omega, by go_num, rfl, HG2, HOE, HS2⟩
          case measure => simp [intOf]; omega
        · have J := ljoin_any r e wc (HR.out.below HS1.out.below) (HOE.out.below HS1.out.below)
          have HZO := Hid.mk' (joinR_ok HR.out HOE.out)
          have HG2 := Hid.mk' (show gK (rks ((x ++ y).take (k + 1))) v = if true then some (rk (joinR r e)) else none by rw [HE.out, gK_snoc, HG.out]; simp [sg, oj, show (rk e).id = v from te, rk_join])
          generalize joinR r e = z at J HZO HG2
          clear te HG HE
          go_wp2_with fail
          refine J.mono ?_
          clear J c0 c1 c2 c3 c4 c5 c6 o0 o1 o2 o3 o4 o5 o6 f0 f1 f2 f3 f4 f5 f6
          rintro e1 w2 ⟨rfl, hb2⟩
          have HS3 := Hid.mk' (HS1.out.on hb2)
          have HS4 := Hid.mk' (HS3.out.set z rfl)
          obtain ⟨o0, o1, o2, o3, o4, o5, o6⟩ := HS3.out.bo.cells
          obtain ⟨f0, f1, f2, f3, f4, f5, f6⟩ := HS3.out.bo.frozen
          clear hb2
          go_wp2_with fail
          go_roundw
          case rel => exact ⟨k + 1, z, true, by omega, by go_num, rfl, HG2, HZO, HS4⟩
          case measure => simp [intOf]; omega
      · have de : (e.id == v) = false := by simpa using te
        have HG2 := Hid.mk' (show gK (rks ((x ++ y).take (k + 1))) v = if ok then some (rk r) else none by rw [HE.out, gK_snoc, HG.out]; simp [sg, show ¬ (rk e).id = v from te, oj_none])
        clear te HG HE
        go_wp2_with fail
        go_roundw
        case rel => exact ⟨k + 1, r, ok, by omega, by go_num, rfl, HG2, HR, HS1⟩
        case measure => simp [intOf]; omega
    · obtain rfl : k = x.length + y.length := by omega
      have HGE := Hid.mk' (show gK (rks (x ++ y)) v = if ok then some (rk r) else none by have h := HG.out; rwa [List.take_of_length_le (by rw [HLA.out]; omega)] at h)
      obtain ⟨o0, o1, o2, o3, o4, o5, o6⟩ := HS.out.bo.cells
      obtain ⟨f0, f1, f2, f3, f4, f5, f6⟩ := HS.out.ba.frozen
      obtain ⟨c0, c1, c2, c3, c4, c5, c6⟩ := HS.out.ba.cells
      simp only [zr, List.length_nil] at c0 c1 c2 c3 c4 c5 c6
      clear HG
      go_wp2_with fail
      refine bodyPost_ret (v := .tuple #[.agg #[.int .i64 r.id, .int .i64 r.inc, .int .i64 r.st, .int .i64 r.lo, .int .i64 r.hi, .bool r.cut, .slice r.p r.bag.length r.cap], .bool ok]) (by simp [results, Try.results24, go_sem, *]) rfl ?_
      rw [HP.out]
      exact ⟨r, ok, rfl, HGE.out, HR.out, bel_seven HS.out.below (Nat.le_refl _) r⟩
end Go.Proofs.Ytdfjjajkeieocaa
