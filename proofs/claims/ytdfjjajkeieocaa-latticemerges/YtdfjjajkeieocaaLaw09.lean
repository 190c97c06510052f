/-
  Stage 9: the statements' own 'awake'; Join as it is used.
-/
import Derived.Test.YtdfjjajkeieocaaLatJ
namespace Go.Proofs.Ytdfjjajkeieocaa
open Go.RowKit
set_option linter.unusedSimpArgs false
set_option linter.unusedVariables false
set_option maxRecDepth 10000
set_option synthInstance.maxSize 2000

theorem join2_yes (a b : Rc) (w : World) (ha : ROk w a) (hb : ROk w b) (hna : a.bag.length ≤ 1099511627776) (hnb : b.bag.length ≤ 1099511627776) (hid : a.id = b.id) :
    Calls Try.prog 20 #[.agg #[.int .i64 a.id, .int .i64 a.inc, .int .i64 a.st, .int .i64 a.lo, .int .i64 a.hi, .bool a.cut, .slice a.p a.bag.length a.cap], .agg #[.int .i64 b.id, .int .i64 b.inc, .int .i64 b.st, .int .i64 b.lo, .int .i64 b.hi, .bool b.cut, .slice b.p b.bag.length b.cap]] w fun e w' => ∃ r', e = .returned (.tuple #[.agg #[.int .i64 r'.id, .int .i64 r'.inc, .int .i64 r'.st, .int .i64 r'.lo, .int .i64 r'.hi, .bool r'.cut, .slice r'.p r'.bag.length r'.cap], .bool true]) ∧ rk r' = joinK (rk a) (rk b) ∧ ROkA w.heap.size w' r' ∧ Below w.heap.size w w' := by
  refine (join2_any a b w ha hb hna hnb).mono ?_
  rintro e w' ⟨h1, h2⟩
  rw [if_pos hid] at h1
  obtain ⟨r', h3, h4, h5⟩ := h1
  exact ⟨r', h3, h4, h5, h2⟩
theorem join2_no (a b : Rc) (w : World) (ha : ROk w a) (hb : ROk w b) (hna : a.bag.length ≤ 1099511627776) (hnb : b.bag.length ≤ 1099511627776) (hid : ¬ a.id = b.id) :
    Calls Try.prog 20 #[.agg #[.int .i64 a.id, .int .i64 a.inc, .int .i64 a.st, .int .i64 a.lo, .int .i64 a.hi, .bool a.cut, .slice a.p a.bag.length a.cap], .agg #[.int .i64 b.id, .int .i64 b.inc, .int .i64 b.st, .int .i64 b.lo, .int .i64 b.hi, .bool b.cut, .slice b.p b.bag.length b.cap]] w fun e w' => e = .returned (.tuple #[.agg #[.int .i64 0, .int .i64 0, .int .i64 0, .int .i64 0, .int .i64 0, .bool false, .slice none 0 0], .bool false]) ∧ Below w.heap.size w w' := by
  refine (join2_any a b w ha hb hna hnb).mono ?_
  rintro e w' ⟨h1, h2⟩
  rw [if_neg hid] at h1
  exact ⟨h1, h2⟩

/-- A block that is one record. -/
structure Bx (X : World) (k : Nat) (r : Rc) : Prop where
  it : X.heap[k]? = some (.cells #[.int .i64 r.id, .int .i64 r.inc, .int .i64 r.st, .int .i64 r.lo, .int .i64 r.hi, .bool r.cut, .slice r.p r.bag.length r.cap] 27 (0, 0))
theorem Bx.lt {X : World} {k : Nat} {r : Rc} (h : Bx X k r) : k < X.heap.size := (Array.getElem?_eq_some_iff.1 h.it).1
theorem Bx.on {X X' : World} {k : Nat} {r : Rc} (h : Bx X k r) (b : Below X.heap.size X X') : Bx X' k r := ⟨by rw [b.block _ h.lt]; exact h.it⟩
theorem Bx.new (X : World) (r : Rc) : Bx (X.alloc (.cells #[.int .i64 r.id, .int .i64 r.inc, .int .i64 r.st, .int .i64 r.lo, .int .i64 r.hi, .bool r.cut, .slice r.p r.bag.length r.cap] 27)) X.heap.size r := ⟨heap_alloc_new _ _⟩
theorem Bx.cells {X : World} {k : Nat} {r : Rc} (h : Bx X k r) : X.cell? ⟨k, 0, none⟩ = some (.int .i64 r.id) ∧ X.cell? ⟨k, 1, none⟩ = some (.int .i64 r.inc) ∧ X.cell? ⟨k, 2, none⟩ = some (.int .i64 r.st) ∧ X.cell? ⟨k, 3, none⟩ = some (.int .i64 r.lo) ∧ X.cell? ⟨k, 4, none⟩ = some (.int .i64 r.hi) ∧ X.cell? ⟨k, 5, none⟩ = some (.bool r.cut) ∧ X.cell? ⟨k, 6, none⟩ = some (.slice r.p r.bag.length r.cap) := box_cells h.it
theorem Bx.frozen {X : World} {k : Nat} {r : Rc} (h : Bx X k r) : X.frozen? ⟨k, 0, none⟩ = false ∧ X.frozen? ⟨k, 1, none⟩ = false ∧ X.frozen? ⟨k, 2, none⟩ = false ∧ X.frozen? ⟨k, 3, none⟩ = false ∧ X.frozen? ⟨k, 4, none⟩ = false ∧ X.frozen? ⟨k, 5, none⟩ = false ∧ X.frozen? ⟨k, 6, none⟩ = false := box_frozen h.it

def rj (i s : Int) (c : Bool) : Rc := ⟨0, i, s, 0, 0, c, none, 0, []⟩
theorem rj_ok (w : World) (i s : Int) (c : Bool) (h : (Lit.int .i64 i).wf = true) (k : (Lit.int .i64 s).wf = true) : ROk w (rj i s c) := ⟨show (Lit.int .i64 0).wf = true by decide, h, k, show (Lit.int .i64 0).wf = true by decide, show (Lit.int .i64 0).wf = true by decide, Nat.le_refl _, by simp [rj, maxLen], fun _ => rfl, FIn.empty _ _, by simp [rj]⟩
def rf (g : Nat) : Rc := ⟨0, 4, 0, 0, 0, false, some ⟨g, 0, none⟩, 1, [⟨40, none, 0, []⟩]⟩
theorem rf_ok {w : World} {g : Nat} (h : w.heap[g]? = some (.cells #[.int .i64 40, .slice none 0 0] 49 (0, 0))) : ROk w (rf g) :=
  ⟨show (Lit.int .i64 0).wf = true by decide, show (Lit.int .i64 4).wf = true by decide, show (Lit.int .i64 0).wf = true by decide, show (Lit.int .i64 0).wf = true by decide, show (Lit.int .i64 0).wf = true by decide, Nat.le_refl _, by simp [rf, maxLen], fun h => by simp [rf] at h,
    FIn.of_row (l := [⟨40, none, 0, []⟩]) h (by intro f hf; simp at hf; subst hf; exact ⟨by decide, Nat.le_refl _, by simp [maxLen], fun _ => rfl, BIn.empty _ _, isB.nil, by simp⟩), by simp [rf]⟩
theorem rk1 : joinK (rk (rj 4 2 false)) (rk (rj 5 0 false)) = (0, 5, 0, 0, 0, false, []) := by decide
theorem rk2 : joinK (rk (rj 4 2 false)) (rk (rj 4 0 false)) = (0, 4, 2, 0, 0, false, []) := by decide
theorem rk3 (g : Nat) : joinK (rk (rj 4 0 true)) (rk (rf g)) = (0, 4, 0, 0, 0, false, [(40, [])]) := by
  rw [show rk (rf g) = (0, 4, 0, 0, 0, false, [(40, [])]) from rfl]
  decide
theorem rk_parts {r : Rc} {a b c d e : Int} {u : Bool} {k : List Key} (h : rk r = (a, b, c, d, e, u, k)) : r.inc = b ∧ r.st = c ∧ r.cut = u ∧ r.bag.length = k.length := by
  simp only [rk, Prod.mk.injEq] at h
  obtain ⟨h1, h2, h3, h4, h5, h6, h7⟩ := h
  exact ⟨h2, h3, h6, by rw [← h7, kys_len]⟩

set_option maxHeartbeats 4000000 in
theorem awake9_any (w : World) : Calls Try.prog 19 #[] w fun e w' => e = .returned (.bool true) ∧ Below w.heap.size w w' := by
  have J1 := fun X => join2_yes (rj 4 2 false) (rj 5 0 false) X (rj_ok _ _ _ _ (by decide) (by decide)) (rj_ok _ _ _ _ (by decide) (by decide)) (by simp [rj]) (by simp [rj]) rfl
  have J2 := fun X => join2_yes (rj 4 2 false) (rj 4 0 false) X (rj_ok _ _ _ _ (by decide) (by decide)) (rj_ok _ _ _ _ (by decide) (by decide)) (by simp [rj]) (by simp [rj]) rfl
  have J3 := fun X g (h : X.heap[g]? = some (.cells #[.int .i64 40, .slice none 0 0] 49 (0, 0))) => join2_yes (rj 4 0 true) (rf g) X (rj_ok _ _ _ _ (by decide) (by decide)) (rf_ok h) (by simp [rj]) (by simp [rf]) rfl
  simp only [rk1] at J1
  simp only [rk2] at J2
  simp only [rk3] at J3
  simp only [rj, rf, List.length_nil, List.length_cons, Nat.zero_add] at J1 J2 J3
  go_enter Try.func19, Try.ntmps19
  go_wp2_with fail
  refine (J1 _).mono ?_
  rintro e w1 ⟨r1, rfl, hk1, _, hb1⟩
  have HK1 := Hid.mk' (rk_parts hk1)
  have HB1 := Hid.mk' hb1
  have HX1 := Hid.mk' (Bx.new w1 r1)
  clear hk1 hb1 J1
  go_wp2_with fail
  refine (J2 _).mono ?_
  rintro e w2 ⟨r2, rfl, hk2, _, hb2⟩
  have HK2 := Hid.mk' (rk_parts hk2)
  have HB2 := Hid.mk' ((HB1.out.alloc HB1.out.size (.cells #[.int .i64 r1.id, .int .i64 r1.inc, .int .i64 r1.st, .int .i64 r1.lo, .int .i64 r1.hi, .bool r1.cut, .slice r1.p r1.bag.length r1.cap] 27)).trans (hb2.mono (by have := HB1.out.size; simp; omega)))
  have HX12 := Hid.mk' (HX1.out.on hb2)
  have HX2 := Hid.mk' (Bx.new w2 r2)
  have HF := heap_alloc_new (w2.alloc (.cells #[.int .i64 r2.id, .int .i64 r2.inc, .int .i64 r2.st, .int .i64 r2.lo, .int .i64 r2.hi, .bool r2.cut, .slice r2.p r2.bag.length r2.cap] 27)) (.cells #[.int .i64 40, .slice none 0 0] 49)
  have hsz : (w2.alloc (.cells #[.int .i64 r2.id, .int .i64 r2.inc, .int .i64 r2.st, .int .i64 r2.lo, .int .i64 r2.hi, .bool r2.cut, .slice r2.p r2.bag.length r2.cap] 27)).heap.size = w2.heap.size + 1 := by simp
  rw [hsz] at HF
  have J3' := J3 _ _ HF
  have HF3 := Hid.mk' ((Below.refl (w2.heap.size + 1) (w2.alloc (.cells #[.int .i64 r2.id, .int .i64 r2.inc, .int .i64 r2.st, .int .i64 r2.lo, .int .i64 r2.hi, .bool r2.cut, .slice r2.p r2.bag.length r2.cap] 27))).alloc (by simp) (.cells #[.int .i64 40, .slice none 0 0] 49))
  clear hk2 hb2 J2 HX1 HF hsz J3
  go_wp2_with fail
  refine J3'.mono ?_
  clear J3'
  rintro e w3 ⟨r3, rfl, hk3, _, hb3⟩
  have HK3 := Hid.mk' (rk_parts hk3)
  have HA := (HB2.out.alloc HB2.out.size (.cells #[.int .i64 r2.id, .int .i64 r2.inc, .int .i64 r2.st, .int .i64 r2.lo, .int .i64 r2.hi, .bool r2.cut, .slice r2.p r2.bag.length r2.cap] 27))
  have HB3 := Hid.mk' ((HA.trans (HF3.out.mono (by have := HB2.out.size; omega))).trans (hb3.mono (by have := HB2.out.size; simp; omega)))
  have HX13 := Hid.mk' (((HX12.out.on ((Below.refl _ _).alloc (Nat.le_refl _) (.cells #[.int .i64 r2.id, .int .i64 r2.inc, .int .i64 r2.st, .int .i64 r2.lo, .int .i64 r2.hi, .bool r2.cut, .slice r2.p r2.bag.length r2.cap] 27))).on (by simpa using HF3.out)).on hb3)
  have HX23 := Hid.mk' ((HX2.out.on (by simpa using HF3.out)).on hb3)
  clear hk3 hb3 HA HB1 HB2 HF3 HX12 HX2
  obtain ⟨i1, s1, _, _⟩ := HK1.out
  obtain ⟨_, s2, _, _⟩ := HK2.out
  obtain ⟨_, _, u3, n3⟩ := HK3.out
  obtain ⟨_, c1, c2, _, _, _, _⟩ := HX13.out.cells
  obtain ⟨_, _, d2, _, _, _, _⟩ := HX23.out.cells
  have hl1 := HX13.out.lt
  have hl2 := HX23.out.lt
  rw [i1] at c1
  rw [s1] at c2
  rw [s2] at d2
  simp only [List.length_cons, List.length_nil, Nat.zero_add] at n3
  rw [u3, n3]
  clear i1 s1 s2 u3 n3
  go_wp2_with fail
  go_ret
  exact ⟨rfl, HB3.out.alloc HB3.out.size _⟩
end Go.Proofs.Ytdfjjajkeieocaa
