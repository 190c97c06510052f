/-
  Package lattice: heavier, join, Join, Below; the statements' own 'join'.
-/
import Derived.Test.YtdfjjajkeieocaaLatM
import Derived.Test.YtdfjjajkeieocaaRecB
namespace Go.Proofs.Ytdfjjajkeieocaa
open Go.RowKit
set_option linter.unusedSimpArgs false
set_option linter.unusedVariables false
set_option maxRecDepth 10000
set_option synthInstance.maxSize 2000

/-- Two records that were laid for a call, and the one that is answered. -/
structure InB3 (w : World) (a b c : Rc) (X : World) : Prop where
  below : Below w.heap.size w X
  ba : X.heap[w.heap.size]? = some (.cells #[.int .i64 a.id, .int .i64 a.inc, .int .i64 a.st, .int .i64 a.lo, .int .i64 a.hi, .bool a.cut, .slice a.p a.bag.length a.cap] 27 (0, 0))
  bb : X.heap[w.heap.size + 1]? = some (.cells #[.int .i64 b.id, .int .i64 b.inc, .int .i64 b.st, .int .i64 b.lo, .int .i64 b.hi, .bool b.cut, .slice b.p b.bag.length b.cap] 27 (0, 0))
  bc : X.heap[w.heap.size + 2]? = some (.cells #[.int .i64 c.id, .int .i64 c.inc, .int .i64 c.st, .int .i64 c.lo, .int .i64 c.hi, .bool c.cut, .slice c.p c.bag.length c.cap] 27 (0, 0))

theorem InB3.of {w X : World} {a b : Rc} (h : InB2 w a b X) (hs : X.heap.size = w.heap.size + 2) (c : Rc) : InB3 w a b c (X.alloc (.cells #[.int .i64 c.id, .int .i64 c.inc, .int .i64 c.st, .int .i64 c.lo, .int .i64 c.hi, .bool c.cut, .slice c.p c.bag.length c.cap] 27)) := by
  have k := h.on ((Below.refl _ _).alloc (Nat.le_refl _) (.cells #[.int .i64 c.id, .int .i64 c.inc, .int .i64 c.st, .int .i64 c.lo, .int .i64 c.hi, .bool c.cut, .slice c.p c.bag.length c.cap] 27))
  refine ⟨k.below, k.ba, k.bb, ?_⟩
  have := heap_alloc_new X (.cells #[.int .i64 c.id, .int .i64 c.inc, .int .i64 c.st, .int .i64 c.lo, .int .i64 c.hi, .bool c.cut, .slice c.p c.bag.length c.cap] 27)
  rwa [hs] at this
theorem InB3.start (w : World) (a b : Rc) : InB3 w a b zr (((w.alloc (.cells #[.int .i64 a.id, .int .i64 a.inc, .int .i64 a.st, .int .i64 a.lo, .int .i64 a.hi, .bool a.cut, .slice a.p a.bag.length a.cap] 27)).alloc (.cells #[.int .i64 b.id, .int .i64 b.inc, .int .i64 b.st, .int .i64 b.lo, .int .i64 b.hi, .bool b.cut, .slice b.p b.bag.length b.cap] 27)).alloc (.cells #[.int .i64 0, .int .i64 0, .int .i64 0, .int .i64 0, .int .i64 0, .bool false, .slice none 0 0] 27)) :=
  InB3.of (InB2.start w a b) (by simp) zr
theorem InB3.on {w X X' : World} {a b c : Rc} (h : InB3 w a b c X) (k : Below X.heap.size X X') : InB3 w a b c X' :=
  ⟨h.below.trans (k.mono h.below.size), by rw [k.block _ (Array.getElem?_eq_some_iff.1 h.ba).1]; exact h.ba, by rw [k.block _ (Array.getElem?_eq_some_iff.1 h.bb).1]; exact h.bb, by rw [k.block _ (Array.getElem?_eq_some_iff.1 h.bc).1]; exact h.bc⟩
theorem InB3.two {w X : World} {a b c : Rc} (h : InB3 w a b c X) : InB2 w a b X := ⟨h.below, h.ba, h.bb⟩

/-- Seven stores into one block. -/
theorem bel_seven {B : Nat} {w X : World} (h : Below B w X) {b : Nat} (hb : B ≤ b) (r : Rc) :
    Below B w (((((((X.setCell ⟨b, 0, none⟩ (.int .i64 r.id)).setCell ⟨b, 1, none⟩ (.int .i64 r.inc)).setCell ⟨b, 2, none⟩ (.int .i64 r.st)).setCell ⟨b, 3, none⟩ (.int .i64 r.lo)).setCell ⟨b, 4, none⟩ (.int .i64 r.hi)).setCell ⟨b, 5, none⟩ (.bool r.cut)).setCell ⟨b, 6, none⟩ (.slice r.p r.bag.length r.cap)) :=
  ((((((h.setCell (p := ⟨b, 0, none⟩) hb _).setCell (p := ⟨b, 1, none⟩) hb _).setCell (p := ⟨b, 2, none⟩) hb _).setCell (p := ⟨b, 3, none⟩) hb _).setCell (p := ⟨b, 4, none⟩) hb _).setCell (p := ⟨b, 5, none⟩) hb _).setCell (p := ⟨b, 6, none⟩) hb _

theorem box_set7 {X : World} {b : Nat} {r0 : Rc} {t : TypeId} (h : X.heap[b]? = some (.cells #[.int .i64 r0.id, .int .i64 r0.inc, .int .i64 r0.st, .int .i64 r0.lo, .int .i64 r0.hi, .bool r0.cut, .slice r0.p r0.bag.length r0.cap] t (0, 0))) (r : Rc) :
    (((((((X.setCell ⟨b, 0, none⟩ (.int .i64 r.id)).setCell ⟨b, 1, none⟩ (.int .i64 r.inc)).setCell ⟨b, 2, none⟩ (.int .i64 r.st)).setCell ⟨b, 3, none⟩ (.int .i64 r.lo)).setCell ⟨b, 4, none⟩ (.int .i64 r.hi)).setCell ⟨b, 5, none⟩ (.bool r.cut)).setCell ⟨b, 6, none⟩ (.slice r.p r.bag.length r.cap)).heap[b]? = some (.cells #[.int .i64 r.id, .int .i64 r.inc, .int .i64 r.st, .int .i64 r.lo, .int .i64 r.hi, .bool r.cut, .slice r.p r.bag.length r.cap] t (0, 0)) := by
  have h0 := fset_at (i := 0) h (.int .i64 r.id)
  have h1 := fset_at (i := 1) h0 (.int .i64 r.inc)
  have h2 := fset_at (i := 2) h1 (.int .i64 r.st)
  have h3 := fset_at (i := 3) h2 (.int .i64 r.lo)
  have h4 := fset_at (i := 4) h3 (.int .i64 r.hi)
  have h5 := fset_at (i := 5) h4 (.bool r.cut)
  have h6 := fset_at (i := 6) h5 (.slice r.p r.bag.length r.cap)
  rw [h6]
  simp

/-- The three, and one more. -/
structure InB4 (w : World) (a b c d : Rc) (X : World) : Prop where
  three : InB3 w a b c X
  bd : X.heap[w.heap.size + 3]? = some (.cells #[.int .i64 d.id, .int .i64 d.inc, .int .i64 d.st, .int .i64 d.lo, .int .i64 d.hi, .bool d.cut, .slice d.p d.bag.length d.cap] 27 (0, 0))

theorem InB4.set {w X : World} {a b c d : Rc} (h : InB4 w a b c d X) (r : Rc) {g : Nat} (hg : g = w.heap.size + 3) : InB4 w a b c r (((((((X.setCell ⟨g, 0, none⟩ (.int .i64 r.id)).setCell ⟨g, 1, none⟩ (.int .i64 r.inc)).setCell ⟨g, 2, none⟩ (.int .i64 r.st)).setCell ⟨g, 3, none⟩ (.int .i64 r.lo)).setCell ⟨g, 4, none⟩ (.int .i64 r.hi)).setCell ⟨g, 5, none⟩ (.bool r.cut)).setCell ⟨g, 6, none⟩ (.slice r.p r.bag.length r.cap)) := by
  subst hg
  have k := (Fr.refl (fun k => k = w.heap.size + 3) X).seven (b := w.heap.size + 3) (o := 0) rfl r
  simp only [Nat.zero_add] at k
  refine ⟨⟨bel_seven h.three.below (by omega) r, ?_, ?_, ?_⟩, box_set7 h.bd r⟩
  · rw [k.block _ (Array.getElem?_eq_some_iff.1 h.three.ba).1 (by omega)]; exact h.three.ba
  · rw [k.block _ (Array.getElem?_eq_some_iff.1 h.three.bb).1 (by omega)]; exact h.three.bb
  · rw [k.block _ (Array.getElem?_eq_some_iff.1 h.three.bc).1 (by omega)]; exact h.three.bc

theorem heav_no {a b : Rc} (h : ¬ weighK (rk a) (rk b) < 0) : heavR a b = a := by simp [heavR, h]
theorem heav_yes {a b : Rc} (h : weighK (rk a) (rk b) < 0) : heavR a b = b := by simp [heavR, h]

set_option maxHeartbeats 4000000 in
theorem heavier_any (a b : Rc) (w : World) (ha : ROk w a) (hb : ROk w b) : Calls Try.prog 57 #[.agg #[.int .i64 a.id, .int .i64 a.inc, .int .i64 a.st, .int .i64 a.lo, .int .i64 a.hi, .bool a.cut, .slice a.p a.bag.length a.cap], .agg #[.int .i64 b.id, .int .i64 b.inc, .int .i64 b.st, .int .i64 b.lo, .int .i64 b.hi, .bool b.cut, .slice b.p b.bag.length b.cap]] w fun e w' => e = .returned (.agg #[.int .i64 (heavR a b).id, .int .i64 (heavR a b).inc, .int .i64 (heavR a b).st, .int .i64 (heavR a b).lo, .int .i64 (heavR a b).hi, .bool (heavR a b).cut, .slice (heavR a b).p (heavR a b).bag.length (heavR a b).cap]) ∧ Below w.heap.size w w' := by
  have HI := Hid.mk' (InB3.start w a b)
  have W := fun X (h : InB3 w a b zr X) => rweigh_any a b X (ha.below h.below) (hb.below h.below)
  have HN := Hid.mk' (heav_no (a := a) (b := b))
  have HY := Hid.mk' (heav_yes (a := a) (b := b))
  generalize weighK (rk a) (rk b) = c at W HN HY
  generalize heavR a b = h at HN HY ⊢
  go_enter Try.func57, Try.ntmps57
  go_wp2_with fail
  refine (W _ HI.out).mono ?_
  rintro e w1 ⟨rfl, hb1⟩
  have HI1 := Hid.mk' (HI.out.on hb1)
  clear HI hb1 W
  obtain ⟨c0, c1, c2, c3, c4, c5, c6⟩ := box_cells HI1.out.ba
  obtain ⟨d0, d1, d2, d3, d4, d5, d6⟩ := box_cells HI1.out.bb
  obtain ⟨e0, e1, e2, e3, e4, e5, e6⟩ := box_cells HI1.out.bc
  simp only [zr, List.length_nil] at e0 e1 e2 e3 e4 e5 e6
  obtain ⟨f0, f1, f2, f3, f4, f5, f6⟩ := box_frozen HI1.out.bc
  by_cases t : c < 0
  · obtain rfl := (HY.out t)
    go_wp2_with fail
    refine bodyPost_ret (v := .agg #[.int .i64 h.id, .int .i64 h.inc, .int .i64 h.st, .int .i64 h.lo, .int .i64 h.hi, .bool h.cut, .slice h.p h.bag.length h.cap]) (by simp [results, Try.results57, go_sem, *]) rfl ⟨rfl, ?_⟩
    exact bel_seven HI1.out.below (by omega) h
  · obtain rfl := (HN.out (by omega))
    go_wp2_with fail
    refine bodyPost_ret (v := .agg #[.int .i64 h.id, .int .i64 h.inc, .int .i64 h.st, .int .i64 h.lo, .int .i64 h.hi, .bool h.cut, .slice h.p h.bag.length h.cap]) (by simp [results, Try.results57, go_sem, *]) rfl ⟨rfl, ?_⟩
    exact bel_seven HI1.out.below (by omega) h

theorem join_a {a b : Rc} (h : b.inc < a.inc) : joinR a b = a := by simp [joinR, h]
theorem join_b {a b : Rc} (h : a.inc < b.inc) : joinR a b = b := by simp [joinR, h, show ¬ b.inc < a.inc by omega]
theorem join_h {a b : Rc} (h : ¬ a.inc < b.inc) (k : ¬ b.inc < a.inc) : joinR a b = { heavR a b with st := max a.st b.st } := by simp [joinR, h, k]

set_option maxHeartbeats 4000000 in
theorem join_any (a b : Rc) (w : World) (ha : ROk w a) (hb : ROk w b) : Calls Try.prog 40 #[.agg #[.int .i64 a.id, .int .i64 a.inc, .int .i64 a.st, .int .i64 a.lo, .int .i64 a.hi, .bool a.cut, .slice a.p a.bag.length a.cap], .agg #[.int .i64 b.id, .int .i64 b.inc, .int .i64 b.st, .int .i64 b.lo, .int .i64 b.hi, .bool b.cut, .slice b.p b.bag.length b.cap]] w fun e w' => e = .returned (.agg #[.int .i64 (joinR a b).id, .int .i64 (joinR a b).inc, .int .i64 (joinR a b).st, .int .i64 (joinR a b).lo, .int .i64 (joinR a b).hi, .bool (joinR a b).cut, .slice (joinR a b).p (joinR a b).bag.length (joinR a b).cap]) ∧ Below w.heap.size w w' := by
  have HI := Hid.mk' (InB3.start w a b)
  have W := fun X (h : InB3 w a b zr X) => heavier_any a b X (ha.below h.below) (hb.below h.below)
  by_cases t1 : b.inc < a.inc
  · rw [join_a t1]
    go_enter Try.func40, Try.ntmps40
    go_wp2_with fail
    refine bodyPost_ret (v := .agg #[.int .i64 a.id, .int .i64 a.inc, .int .i64 a.st, .int .i64 a.lo, .int .i64 a.hi, .bool a.cut, .slice a.p a.bag.length a.cap]) (by simp [results, Try.results40, go_sem, *]) rfl ⟨rfl, ?_⟩
    exact (InB3.of (InB2.start w a b) (by simp) a).below
  by_cases t2 : a.inc < b.inc
  · rw [join_b t2]
    go_enter Try.func40, Try.ntmps40
    go_wp2_with fail
    refine bodyPost_ret (v := .agg #[.int .i64 b.id, .int .i64 b.inc, .int .i64 b.st, .int .i64 b.lo, .int .i64 b.hi, .bool b.cut, .slice b.p b.bag.length b.cap]) (by simp [results, Try.results40, go_sem, *]) rfl ⟨rfl, ?_⟩
    exact (InB3.of (InB2.start w a b) (by simp) b).below
  rw [join_h t2 t1]
  generalize heavR a b = h at W ⊢
  have hx : ∃ x, max a.st b.st = x ∧ ((a.st < b.st ∧ x = b.st) ∨ (¬ a.st < b.st ∧ x = a.st)) := ⟨_, rfl, by omega⟩
  obtain ⟨x, hx, hx2⟩ := hx
  rw [hx]
  have HX := Hid.mk' hx2
  clear hx2
  go_enter Try.func40, Try.ntmps40
  go_wp2_with fail
  refine (W _ HI.out).mono ?_
  rintro e w1 ⟨rfl, hb1⟩
  have HI1 := Hid.mk' (HI.out.on hb1)
  clear HI hb1 W
  obtain ⟨c0, c1, c2, c3, c4, c5, c6⟩ := box_cells HI1.out.ba
  obtain ⟨d0, d1, d2, d3, d4, d5, d6⟩ := box_cells HI1.out.bb
  obtain ⟨e0, e1, e2, e3, e4, e5, e6⟩ := box_cells HI1.out.bc
  simp only [zr, List.length_nil] at e0 e1 e2 e3 e4 e5 e6
  obtain ⟨f0, f1, f2, f3, f4, f5, f6⟩ := box_frozen HI1.out.bc
  have hlt := lt_of_cell e0
  have hlt1 := lt_of_cell d0
  have hlt2 := lt_of_cell c0
  go_wp2_with fail
  refine bodyPost_ret (v := .agg #[.int .i64 h.id, .int .i64 h.inc, .int .i64 x, .int .i64 h.lo, .int .i64 h.hi, .bool h.cut, .slice h.p h.bag.length h.cap]) (by simp [results, Try.results40, go_sem, *]) rfl ⟨rfl, ?_⟩
  exact (bel_seven HI1.out.below (b := w.heap.size + 1 + 1) (by omega) ⟨h.id, h.inc, x, h.lo, h.hi, h.cut, h.p, h.cap, h.bag⟩).alloc (by simp; omega) _

theorem weigh_rev (a b : Rc) : (0 < weighK (rk b) (rk a)) ↔ (weighK (rk a) (rk b) < 0) := by
  have : weighK (rk b) (rk a) = - weighK (rk a) (rk b) := load_ord.anti _ _
  omega

set_option maxHeartbeats 4000000 in
theorem ljoin_any (a b : Rc) (w : World) (ha : ROk w a) (hb : ROk w b) : Calls Try.prog 22 #[.agg #[.int .i64 a.id, .int .i64 a.inc, .int .i64 a.st, .int .i64 a.lo, .int .i64 a.hi, .bool a.cut, .slice a.p a.bag.length a.cap], .agg #[.int .i64 b.id, .int .i64 b.inc, .int .i64 b.st, .int .i64 b.lo, .int .i64 b.hi, .bool b.cut, .slice b.p b.bag.length b.cap]] w fun e w' => e = .returned (.agg #[.int .i64 (joinR a b).id, .int .i64 (joinR a b).inc, .int .i64 (joinR a b).st, .int .i64 (joinR a b).lo, .int .i64 (joinR a b).hi, .bool (joinR a b).cut, .slice (joinR a b).p (joinR a b).bag.length (joinR a b).cap]) ∧ Below w.heap.size w w' := by
  have HI := Hid.mk' (InB3.start w a b)
  have W := fun X (h : InB3 w a b zr X) => rweigh_any b a X (hb.below h.below) (ha.below h.below)
  by_cases t1 : b.inc < a.inc
  · rw [join_a t1]
    go_enter Try.func22, Try.ntmps22
    go_wp2_with fail
    refine bodyPost_ret (v := .agg #[.int .i64 a.id, .int .i64 a.inc, .int .i64 a.st, .int .i64 a.lo, .int .i64 a.hi, .bool a.cut, .slice a.p a.bag.length a.cap]) (by simp [results, Try.results22, go_sem, *]) rfl ⟨rfl, ?_⟩
    exact (InB3.of (InB2.start w a b) (by simp) a).below
  by_cases t2 : a.inc < b.inc
  · rw [join_b t2]
    go_enter Try.func22, Try.ntmps22
    go_wp2_with fail
    refine bodyPost_ret (v := .agg #[.int .i64 b.id, .int .i64 b.inc, .int .i64 b.st, .int .i64 b.lo, .int .i64 b.hi, .bool b.cut, .slice b.p b.bag.length b.cap]) (by simp [results, Try.results22, go_sem, *]) rfl ⟨rfl, ?_⟩
    exact (InB3.of (InB2.start w a b) (by simp) b).below
  rw [join_h t2 t1]
  have HN := Hid.mk' (show ¬ 0 < weighK (rk b) (rk a) → heavR a b = a from fun h => heav_no (fun h2 => h ((weigh_rev a b).2 h2)))
  have HY := Hid.mk' (show 0 < weighK (rk b) (rk a) → heavR a b = b from fun h => heav_yes ((weigh_rev a b).1 h))
  generalize weighK (rk b) (rk a) = c at W HN HY
  generalize heavR a b = h at HN HY ⊢
  have hx : ∃ x, max a.st b.st = x ∧ ((b.st < a.st ∧ x = a.st) ∨ (¬ b.st < a.st ∧ x = b.st)) := ⟨_, rfl, by omega⟩
  obtain ⟨x, hx, hx2⟩ := hx
  rw [hx]
  clear hx
  have HI0 := Hid.mk' (HI.out.on ((Below.refl _ _).alloc (Nat.le_refl _) (.cells #[.int .i64 a.id, .int .i64 a.inc, .int .i64 a.st, .int .i64 a.lo, .int .i64 a.hi, .bool a.cut, .slice a.p a.bag.length a.cap] 27)))
  have HD := Hid.mk' (heap_alloc_new (((w.alloc (.cells #[.int .i64 a.id, .int .i64 a.inc, .int .i64 a.st, .int .i64 a.lo, .int .i64 a.hi, .bool a.cut, .slice a.p a.bag.length a.cap] 27)).alloc (.cells #[.int .i64 b.id, .int .i64 b.inc, .int .i64 b.st, .int .i64 b.lo, .int .i64 b.hi, .bool b.cut, .slice b.p b.bag.length b.cap] 27)).alloc (.cells #[.int .i64 0, .int .i64 0, .int .i64 0, .int .i64 0, .int .i64 0, .bool false, .slice none 0 0] 27)) (.cells #[.int .i64 a.id, .int .i64 a.inc, .int .i64 a.st, .int .i64 a.lo, .int .i64 a.hi, .bool a.cut, .slice a.p a.bag.length a.cap] 27))
  have hsz : (((w.alloc (.cells #[.int .i64 a.id, .int .i64 a.inc, .int .i64 a.st, .int .i64 a.lo, .int .i64 a.hi, .bool a.cut, .slice a.p a.bag.length a.cap] 27)).alloc (.cells #[.int .i64 b.id, .int .i64 b.inc, .int .i64 b.st, .int .i64 b.lo, .int .i64 b.hi, .bool b.cut, .slice b.p b.bag.length b.cap] 27)).alloc (.cells #[.int .i64 0, .int .i64 0, .int .i64 0, .int .i64 0, .int .i64 0, .bool false, .slice none 0 0] 27)).heap.size = w.heap.size + 3 := by simp
  rw [hsz] at HD
  clear hsz
  have hX2 := Hid.mk' hx2
  clear hx2
  go_enter Try.func22, Try.ntmps22
  go_wp2_with fail
  refine (W _ HI0.out).mono ?_
  rintro e w1 ⟨rfl, hb1⟩
  have HI1 := Hid.mk' (HI0.out.on hb1)
  have HD1 := HD.out
  rw [← hb1.block _ (Array.getElem?_eq_some_iff.1 HD.out).1] at HD1
  have hb1' := Hid.mk' HD1
  clear HI HI0 hb1 W HD HD1
  obtain ⟨c0, c1, c2, c3, c4, c5, c6⟩ := box_cells HI1.out.ba
  obtain ⟨d0, d1, d2, d3, d4, d5, d6⟩ := box_cells HI1.out.bb
  obtain ⟨e0, e1, e2, e3, e4, e5, e6⟩ := box_cells HI1.out.bc
  simp only [zr, List.length_nil] at e0 e1 e2 e3 e4 e5 e6
  obtain ⟨f0, f1, f2, f3, f4, f5, f6⟩ := box_frozen HI1.out.bc
  obtain ⟨g0, g1, g2, g3, g4, g5, g6⟩ := box_cells hb1'.out
  obtain ⟨k0, k1, k2, k3, k4, k5, k6⟩ := box_frozen hb1'.out
  have HI4 : Hid (InB4 w a b zr a w1) := ⟨HI1.out, hb1'.out⟩
  clear HI1 hb1' e0 e1 e2 e3 e4 e5 e6 f0 f1 f2 f3 f4 f5 f6
  go_upto_if 22 with fail
  go_cut [23] (fun t wx => Hid (InB4 w a b zr h wx))
  case first =>
    by_cases t : 0 < c
    · obtain rfl := HY.out t
      go_wp2_with fail
      go_meet
      exact HI4.out.set h rfl
    · obtain rfl := HN.out (by omega)
      go_wp2_with fail
      go_meet
      exact HI4
  case rest =>
  clear HI4 HN HY c0 c1 c2 c3 c4 c5 c6 d0 d1 d2 d3 d4 d5 d6 g0 g1 g2 g3 g4 g5 g6 k0 k1 k2 k3 k4 k5 k6
  obtain ⟨_, _, c2, _, _, _, _⟩ := box_cells hcut.out.three.ba
  obtain ⟨_, _, d2, _, _, _, _⟩ := box_cells hcut.out.three.bb
  obtain ⟨e0, e1, e2, e3, e4, e5, e6⟩ := box_cells hcut.out.three.bc
  simp only [zr, List.length_nil] at e0 e1 e2 e3 e4 e5 e6
  obtain ⟨f0, f1, f2, f3, f4, f5, f6⟩ := box_frozen hcut.out.three.bc
  obtain ⟨g0, g1, g2, g3, g4, g5, g6⟩ := box_cells hcut.out.bd
  obtain ⟨k0, k1, k2, k3, k4, k5, k6⟩ := box_frozen hcut.out.bd
  have HBL := Hid.mk' hcut.out.three.below
  have HS := hX2.out
  clear hX2 hcut
  rcases HS with ⟨u, rfl⟩ | ⟨u, rfl⟩
  · go_wp2_with fail
    refine bodyPost_ret (v := .agg #[.int .i64 h.id, .int .i64 h.inc, .int .i64 a.st, .int .i64 h.lo, .int .i64 h.hi, .bool h.cut, .slice h.p h.bag.length h.cap]) (by simp [results, Try.results22, go_sem, *]) rfl ⟨rfl, ?_⟩
    exact bel_seven (HBL.out.setCell (by simp; omega) _) (by omega) ⟨h.id, h.inc, a.st, h.lo, h.hi, h.cut, h.p, h.cap, h.bag⟩
  · go_wp2_with fail
    refine bodyPost_ret (v := .agg #[.int .i64 h.id, .int .i64 h.inc, .int .i64 b.st, .int .i64 h.lo, .int .i64 h.hi, .bool h.cut, .slice h.p h.bag.length h.cap]) (by simp [results, Try.results22, go_sem, *]) rfl ⟨rfl, ?_⟩
    exact bel_seven (HBL.out.setCell (by simp; omega) _) (by omega) ⟨h.id, h.inc, b.st, h.lo, h.hi, h.cut, h.p, h.cap, h.bag⟩
end Go.Proofs.Ytdfjjajkeieocaa
