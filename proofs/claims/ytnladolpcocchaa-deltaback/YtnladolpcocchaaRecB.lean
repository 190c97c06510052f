/-
  Package rec: Bare, own.
-/
import Derived.Test.YtnladolpcocchaaRecF
namespace Go.Proofs.Ytnladolpcocchaa
open Go.RowKit
set_option linter.unusedSimpArgs false
set_option linter.unusedVariables false
set_option maxRecDepth 10000
set_option synthInstance.maxSize 2000


theorem FIn.fr {S : Nat → Prop} {w w' : World} {p : Option Addr} {l : List Fd} (h : FIn w p l) (k : Fr S w w') (h1 : 0 < l.length → ∀ a, p = some a → ¬ S a.block) (h2 : ∀ f ∈ l, 0 < f.d.length → ∀ a, f.p = some a → ¬ S a.block) : FIn w' p l := fun hl => by
  obtain ⟨b, o, rfl, hc⟩ := h.at hl
  have hn := h1 hl _ rfl
  refine FIn.of (fun i hi => ?_) hl
  obtain ⟨e1, e2, e3⟩ := hc i hi
  exact ⟨by rw [k.cell (p := ⟨b, o + i * 2, none⟩) (lt_of_cell e1) hn]; exact e1, by rw [k.cell (p := ⟨b, o + i * 2 + 1, none⟩) (lt_of_cell e2) hn]; exact e2, e3.fr k (h2 _ (by simp [List.getD, hi]))⟩

/-- All of its bag lies behind block B. -/
structure ROkA (B : Nat) (w : World) (r : Rc) : Prop where
  ok : ROk w r
  off : ∀ a, r.p = some a → B < a.block
  offs : ∀ f ∈ r.bag, 0 < f.d.length → ∀ a, f.p = some a → B < a.block

theorem ROkA.below {B : Nat} {w w' : World} {r : Rc} (h : ROkA B w r) (k : Below w.heap.size w w') : ROkA B w' r := ⟨h.ok.below k, h.off, h.offs⟩
theorem ROkA.mono {B B' : Nat} {w : World} {r : Rc} (h : ROkA B w r) (hb : B' ≤ B) : ROkA B' w r := ⟨h.ok, fun a ha => by have := h.off a ha; omega, fun f hf hl a ha => by have := h.offs f hf hl a ha; omega⟩
theorem ROkA.fr {B : Nat} {S : Nat → Prop} {w w' : World} {r : Rc} (h : ROkA B w r) (k : Fr S w w') (hs : ∀ i, S i → i ≤ B) : ROkA B w' r :=
  ⟨⟨h.ok.id, h.ok.inc, h.ok.st, h.ok.lo, h.ok.hi, h.ok.len, h.ok.cap, h.ok.nil, h.ok.fin.fr k (fun _ a ha q => by have := h.off a ha; have := hs _ q; omega) (fun f hf hl a ha q => by have := h.offs f hf hl a ha; have := hs _ q; omega), h.ok.few⟩, h.off, h.offs⟩

/-- Seven stores into one block. -/
theorem Fr.seven {S : Nat → Prop} {w X : World} (h : Fr S w X) {b o : Nat} (hb : S b) (r : Rc) :
    Fr S w (((((((X.setCell ⟨b, o, none⟩ (.int .i64 r.id)).setCell ⟨b, o + 1, none⟩ (.int .i64 r.inc)).setCell ⟨b, o + 2, none⟩ (.int .i64 r.st)).setCell ⟨b, o + 3, none⟩ (.int .i64 r.lo)).setCell ⟨b, o + 4, none⟩ (.int .i64 r.hi)).setCell ⟨b, o + 5, none⟩ (.bool r.cut)).setCell ⟨b, o + 6, none⟩ (.slice r.p r.bag.length r.cap)) :=
  ((((((h.setCell (p := ⟨b, o, none⟩) (.inl hb) _).setCell (p := ⟨b, o + 1, none⟩) (.inl hb) _).setCell (p := ⟨b, o + 2, none⟩) (.inl hb) _).setCell (p := ⟨b, o + 3, none⟩) (.inl hb) _).setCell (p := ⟨b, o + 4, none⟩) (.inl hb) _).setCell (p := ⟨b, o + 5, none⟩) (.inl hb) _).setCell (p := ⟨b, o + 6, none⟩) (.inl hb) _

def OwnPost (w : World) (r : Rc) (e : Ending) (w' : World) : Prop := ∃ r', e = .returned (.agg #[.int .i64 r'.id, .int .i64 r'.inc, .int .i64 r'.st, .int .i64 r'.lo, .int .i64 r'.hi, .bool r'.cut, .slice r'.p r'.bag.length r'.cap]) ∧ rk r' = rk r ∧ ROkA w.heap.size w' r' ∧ Below w.heap.size w w'

set_option maxHeartbeats 1600000 in
theorem rown_any (r : Rc) (w : World) (hr : ROk w r) (hn : r.bag.length ≤ 1099511627776) : Calls Try.prog 24 #[.agg #[.int .i64 r.id, .int .i64 r.inc, .int .i64 r.st, .int .i64 r.lo, .int .i64 r.hi, .bool r.cut, .slice r.p r.bag.length r.cap]] w (OwnPost w r) := by
  have HI : Hid (InB2 w r zr ((w.alloc (.cells #[.int .i64 r.id, .int .i64 r.inc, .int .i64 r.st, .int .i64 r.lo, .int .i64 r.hi, .bool r.cut, .slice r.p r.bag.length r.cap] 34)).alloc (.cells #[.int .i64 0, .int .i64 0, .int .i64 0, .int .i64 0, .int .i64 0, .bool false, .slice none 0 0] 34))) := InB2.start w r zr
  have C := copy_any r.p r.cap r.bag _ (hr.fin.below HI.out.below) hn
  rw [show ((w.alloc (.cells #[.int .i64 r.id, .int .i64 r.inc, .int .i64 r.st, .int .i64 r.lo, .int .i64 r.hi, .bool r.cut, .slice r.p r.bag.length r.cap] 34)).alloc (.cells #[.int .i64 0, .int .i64 0, .int .i64 0, .int .i64 0, .int .i64 0, .bool false, .slice none 0 0] 34)).heap.size = w.heap.size + 2 by simp] at C
  go_enter Try.func24, Try.ntmps24
  go_wp2_with fail
  refine C.mono ?_
  rintro e w1 ⟨rfl, l', hk, hrow, hok, hb1⟩
  have HI1 := Hid.mk' (HI.out.on (by simpa using hb1))
  have HA : Hid (ROkA (w.heap.size + 1) w1 ⟨r.id, r.inc, r.st, r.lo, r.hi, r.cut, some ⟨w.heap.size + 2, 0, none⟩, r.bag.length, l'⟩) :=
    ⟨⟨hr.id, hr.inc, hr.st, hr.lo, hr.hi, by have h := congrArg List.length hk; rw [kys_len, kys_len] at h; simp only; omega, Nat.le_trans hr.len hr.cap, by simp, FIn.of_row hrow fun f hf => (hok f hf).ok, by have h := congrArg List.length hk; rw [kys_len, kys_len] at h; have := hr.few; simp only; omega⟩, fun a ha => by cases ha; simp, fun f hf hl a ha => by have := (hok f hf).off hl a ha; omega⟩
  have HK := Hid.mk' hk
  have HL := Hid.mk' (show r.bag.length = l'.length by rw [← kys_len, ← hk, kys_len])
  clear hb1 HI C hk hrow hok
  obtain ⟨c0, c1, c2, c3, c4, c5, c6⟩ := box_cells HI1.out.ba
  obtain ⟨g0, g1, g2, g3, g4, g5, g6⟩ := box_frozen HI1.out.ba
  obtain ⟨d0, d1, d2, d3, d4, d5, d6⟩ := box_cells HI1.out.bb
  simp only [zr, List.length_nil] at d0 d1 d2 d3 d4 d5 d6
  obtain ⟨f0, f1, f2, f3, f4, f5, f6⟩ := box_frozen HI1.out.bb
  go_wp2_with fail
  refine bodyPost_ret (v := .agg #[.int .i64 r.id, .int .i64 r.inc, .int .i64 r.st, .int .i64 r.lo, .int .i64 r.hi, .bool r.cut, .slice (some ⟨w.heap.size + 2, 0, none⟩) r.bag.length r.bag.length]) (by simp [results, Try.results24, go_sem, *]) rfl ?_
  refine ⟨_, by rw [HL.out], by simp [rk, HK.out], (HA.out.fr (S := fun k => k = w.heap.size ∨ k = w.heap.size + 1) ?_ ?_).mono (by omega), ?_⟩
  · have s1 := (Fr.refl (fun k => k = w.heap.size ∨ k = w.heap.size + 1) w1).setCell (p := ⟨w.heap.size, 6, none⟩) (.inl (.inl rfl)) (.slice (some ⟨w.heap.size + 2, 0, none⟩) r.bag.length r.bag.length)
    exact ((((((s1.setCell (.inl (.inr rfl)) _).setCell (.inl (.inr rfl)) _).setCell (.inl (.inr rfl)) _).setCell (.inl (.inr rfl)) _).setCell (.inl (.inr rfl)) _).setCell (.inl (.inr rfl)) _).setCell (.inl (.inr rfl)) _
  · intro i q
    rcases q with q | q <;> omega
  · exact (((((((HI1.out.below.setCell (by simp) _).setCell (by simp) _).setCell (by simp) _).setCell (by simp) _).setCell (by simp) _).setCell (by simp) _).setCell (by simp) _).setCell (by simp) _
end Go.Proofs.Ytnladolpcocchaa
