/-
  Proved: the statement on layer 8's records (RecParts) returns true at every input, and leaves its arguments as they were. No condition.
-/
import Derived.Test.YtecdagmeobiahabRows
import Derived.Test.YtecdagmeobiahabLaw08
import Derived.Test.YtecdagmeobiahabRecX
import Derived.ShutString
import Derived.ChangeOld
namespace Go.Proofs.Ytecdagmeobiahab.recParts
open Go.ChangeShapes Go.WideShapes Go.ChangeAt Go.RowKit
open Go.ChangeMaps (open_string shut_string)
set_option linter.unusedVariables false
set_option synthInstance.maxSize 2000
set_option linter.unusedSimpArgs false

theorem akin_core (a b : Rc) : decide (rk (coreR a) = rk (coreR b)) = akinK a b := by
  rw [Bool.eq_iff_iff]
  simp only [decide_eq_true_eq, rk_eq, akinK, Bool.and_eq_true, coreR]
  constructor <;> intro h <;> simp_all

theorem inb2_s {w X : World} {a b : Rc} (h : InB2 w a b X) : X.cell? ⟨w.heap.size, 0, none⟩ = some (.int .i64 a.id) ∧ X.cell? ⟨w.heap.size, 1, none⟩ = some (.int .i64 a.inc) ∧ X.cell? ⟨w.heap.size, 2, none⟩ = some (.int .i64 a.st) ∧ X.cell? ⟨w.heap.size, 3, none⟩ = some (.int .i64 a.lo) ∧ X.cell? ⟨w.heap.size, 4, none⟩ = some (.int .i64 a.hi) ∧ X.cell? ⟨w.heap.size, 5, none⟩ = some (.bool a.cut) ∧ X.cell? ⟨w.heap.size, 6, none⟩ = some (.slice a.p a.bag.length a.cap) ∧ X.cell? ⟨w.heap.size + 1, 0, none⟩ = some (.int .i64 b.id) ∧ X.cell? ⟨w.heap.size + 1, 1, none⟩ = some (.int .i64 b.inc) ∧ X.cell? ⟨w.heap.size + 1, 2, none⟩ = some (.int .i64 b.st) ∧ X.cell? ⟨w.heap.size + 1, 3, none⟩ = some (.int .i64 b.lo) ∧ X.cell? ⟨w.heap.size + 1, 4, none⟩ = some (.int .i64 b.hi) ∧ X.cell? ⟨w.heap.size + 1, 5, none⟩ = some (.bool b.cut) ∧ X.cell? ⟨w.heap.size + 1, 6, none⟩ = some (.slice b.p b.bag.length b.cap) ∧ Hid (InB2 w a b X) := by
  obtain ⟨c0, c1, c2, c3, c4, c5, c6⟩ := box_cells h.ba
  obtain ⟨d0, d1, d2, d3, d4, d5, d6⟩ := box_cells h.bb
  exact ⟨c0, c1, c2, c3, c4, c5, c6, d0, d1, d2, d3, d4, d5, d6, h⟩

set_option maxHeartbeats 8000000 in
set_option maxRecDepth 10000 in
theorem walk (a b : Rc) (w : World) (ha : ROk w a) (hb : ROk w b) :
    Calls Try.prog 3 #[.agg #[.int .i64 a.id, .int .i64 a.inc, .int .i64 a.st, .int .i64 a.lo, .int .i64 a.hi, .bool a.cut, .slice a.p a.bag.length a.cap], .agg #[.int .i64 b.id, .int .i64 b.inc, .int .i64 b.st, .int .i64 b.lo, .int .i64 b.hi, .bool b.cut, .slice b.p b.bag.length b.cap]] w fun e w' => e = .returned (.bool true) ∧ Below w.heap.size w w' := by
  have AW := fun X => awake8_any X
  have HI := Hid.mk' (InB2.start w a b)
  have F := lfew_any (some ⟨w.heap.size + 2, 0, none⟩) 2 [a, b] (((w.alloc (.cells #[.int .i64 a.id, .int .i64 a.inc, .int .i64 a.st, .int .i64 a.lo, .int .i64 a.hi, .bool a.cut, .slice a.p a.bag.length a.cap] 26)).alloc (.cells #[.int .i64 b.id, .int .i64 b.inc, .int .i64 b.st, .int .i64 b.lo, .int .i64 b.hi, .bool b.cut, .slice b.p b.bag.length b.cap] 26)).alloc (.cells #[.int .i64 a.id, .int .i64 a.inc, .int .i64 a.st, .int .i64 a.lo, .int .i64 a.hi, .bool a.cut, .slice a.p a.bag.length a.cap, .int .i64 b.id, .int .i64 b.inc, .int .i64 b.st, .int .i64 b.lo, .int .i64 b.hi, .bool b.cut, .slice b.p b.bag.length b.cap] 26)) (by
    have hb2 := (Below.refl ((w.alloc (.cells #[.int .i64 a.id, .int .i64 a.inc, .int .i64 a.st, .int .i64 a.lo, .int .i64 a.hi, .bool a.cut, .slice a.p a.bag.length a.cap] 26)).alloc (.cells #[.int .i64 b.id, .int .i64 b.inc, .int .i64 b.st, .int .i64 b.lo, .int .i64 b.hi, .bool b.cut, .slice b.p b.bag.length b.cap] 26)).heap.size ((w.alloc (.cells #[.int .i64 a.id, .int .i64 a.inc, .int .i64 a.st, .int .i64 a.lo, .int .i64 a.hi, .bool a.cut, .slice a.p a.bag.length a.cap] 26)).alloc (.cells #[.int .i64 b.id, .int .i64 b.inc, .int .i64 b.st, .int .i64 b.lo, .int .i64 b.hi, .bool b.cut, .slice b.p b.bag.length b.cap] 26))).alloc (Nat.le_refl _) (.cells #[.int .i64 a.id, .int .i64 a.inc, .int .i64 a.st, .int .i64 a.lo, .int .i64 a.hi, .bool a.cut, .slice a.p a.bag.length a.cap, .int .i64 b.id, .int .i64 b.inc, .int .i64 b.st, .int .i64 b.lo, .int .i64 b.hi, .bool b.cut, .slice b.p b.bag.length b.cap] 26)
    have hbb := HI.out.below.trans (hb2.mono HI.out.below.size)
    have hrow := heap_alloc_new ((w.alloc (.cells #[.int .i64 a.id, .int .i64 a.inc, .int .i64 a.st, .int .i64 a.lo, .int .i64 a.hi, .bool a.cut, .slice a.p a.bag.length a.cap] 26)).alloc (.cells #[.int .i64 b.id, .int .i64 b.inc, .int .i64 b.st, .int .i64 b.lo, .int .i64 b.hi, .bool b.cut, .slice b.p b.bag.length b.cap] 26)) (.cells #[.int .i64 a.id, .int .i64 a.inc, .int .i64 a.st, .int .i64 a.lo, .int .i64 a.hi, .bool a.cut, .slice a.p a.bag.length a.cap, .int .i64 b.id, .int .i64 b.inc, .int .i64 b.st, .int .i64 b.lo, .int .i64 b.hi, .bool b.cut, .slice b.p b.bag.length b.cap] 26)
    rw [show ((w.alloc (.cells #[.int .i64 a.id, .int .i64 a.inc, .int .i64 a.st, .int .i64 a.lo, .int .i64 a.hi, .bool a.cut, .slice a.p a.bag.length a.cap] 26)).alloc (.cells #[.int .i64 b.id, .int .i64 b.inc, .int .i64 b.st, .int .i64 b.lo, .int .i64 b.hi, .bool b.cut, .slice b.p b.bag.length b.cap] 26)).heap.size = w.heap.size + 2 by simp] at hrow
    exact RIn.of_row (l := [a, b]) hrow (by intro f hf; simp at hf; rcases hf with rfl | rfl; exact ha.below hbb; exact hb.below hbb)) (by simp [maxLen])
  have HI1 := Hid.mk' (HI.out.on ((Below.refl _ _).alloc (Nat.le_refl _) (.cells #[.int .i64 a.id, .int .i64 a.inc, .int .i64 a.st, .int .i64 a.lo, .int .i64 a.hi, .bool a.cut, .slice a.p a.bag.length a.cap, .int .i64 b.id, .int .i64 b.inc, .int .i64 b.st, .int .i64 b.lo, .int .i64 b.hi, .bool b.cut, .slice b.p b.bag.length b.cap] 26)))
  clear HI
  obtain ⟨fw, hfw⟩ : ∃ fw, fewR (rks [a, b]) = fw := ⟨_, rfl⟩
  rw [hfw] at F
  have HF := Hid.mk' hfw
  clear hfw
  go_enter Try.func3, Try.ntmps3
  go_wp2_with fail
  refine F.mono ?_
  rintro e w1 ⟨rfl, rfl⟩
  clear F
  cases fw
  · go_wp2_with fail
    refine (AW _).mono ?_
    rintro e w2 ⟨rfl, hb2⟩
    have HB2 := Hid.mk' (HI1.out.on hb2).below
    clear hb2
    go_wp2_with fail
    go_ret
    exact ⟨rfl, HB2.out⟩
  have hfa := (fewR_yes HF.out).2
  have hza : szK (kys a.bag) ≤ 4611686018427387904 := by have := (hfa a (by simp)).2; omega
  clear hfa HF
  have V := fun X (h : InB2 w a b X) => rvalid_any a X (ha.below h.below) hza
  have M := fun X (h : InB2 w a b X) => lmay_any a X (ha.below h.below) hza
  have SM := fun X (h : InB2 w a b X) => rsame_any a b X (ha.below h.below) (hb.below h.below)
  have AL := fun X (h : InB2 w a b X) => lalike_any a b X (ha.below h.below) (hb.below h.below)
  have AK := fun X => akin_any a b X
  have AC := fun X => lalike_any (coreR a) (coreR b) X (coreR_ok ha) (coreR_ok hb)
  rw [akin_core a b] at AC
  have ACC := fun X => lalike_any (coreR a) (coreR a) X (coreR_ok ha) (coreR_ok ha)
  have ABB := fun X => lalike_any (bareR a) (bareR a) X (bareR_ok ha) (bareR_ok ha)
  rw [show decide (rk (coreR a) = rk (coreR a)) = true by simp] at ACC
  rw [show decide (rk (bareR a) = rk (bareR a)) = true by simp] at ABB
  simp only [coreR, List.length_nil] at AC ACC
  simp only [bareR, List.length_nil] at ABB
  have CA := fun X => core_any a X
  have CB := fun X => core_any b X
  have BA := fun X => bare_any a X
  generalize mayR (rk a) = vm at V M
  generalize decide (rk a = rk b) = vs at SM AL
  generalize akinK a b = vk at AK AC
  clear hza
  go_wp2_with fail
  refine (CA _).mono ?_
  rintro e w2 ⟨rfl, hb2⟩
  have HI2 := Hid.mk' (HI1.out.on hb2)
  clear HI1 hb2
  have HI3 := Hid.mk' (HI2.out.on ((Below.refl _ _).alloc (Nat.le_refl _) (.cells #[.int .i64 a.id, .int .i64 a.inc, .int .i64 a.st, .int .i64 a.lo, .int .i64 a.hi, .bool false, .slice none 0 0] 26)))
  have HC3 := Hid.mk' (heap_alloc_new w2 (.cells #[.int .i64 a.id, .int .i64 a.inc, .int .i64 a.st, .int .i64 a.lo, .int .i64 a.hi, .bool false, .slice none 0 0] 26))
  obtain ⟨c0, c1, c2, c3, c4, c5, c6⟩ := box_cells HI2.out.ba
  have hl2 : w.heap.size < w2.heap.size := lt_of_cell c0
  go_wp2_with fail
  refine (BA _).mono ?_
  rintro e w4 ⟨rfl, hb4⟩
  have HI4 := Hid.mk' (HI3.out.on hb4)
  have HC4 := Hid.mk' (show w4.heap[w2.heap.size]? = some (.cells #[.int .i64 a.id, .int .i64 a.inc, .int .i64 a.st, .int .i64 a.lo, .int .i64 a.hi, .bool false, .slice none 0 0] 26 (0, 0)) by rw [hb4.block _ (by simp)]; exact HC3.out)
  clear HI2 HI3 HC3 hb4 hl2 c0 c1 c2 c3 c4 c5 c6
  generalize hbc : (a.cut || decide (0 < a.bag.length)) = bc at ABB
  have HBC := Hid.mk' hbc
  clear hbc
  have HI5 := Hid.mk' (HI4.out.on ((Below.refl _ _).alloc (Nat.le_refl _) (.cells #[.int .i64 a.id, .int .i64 a.inc, .int .i64 a.st, .int .i64 a.lo, .int .i64 a.hi, .bool bc, .slice none 0 0] 26)))
  have HD5 := Hid.mk' (heap_alloc_new w4 (.cells #[.int .i64 a.id, .int .i64 a.inc, .int .i64 a.st, .int .i64 a.lo, .int .i64 a.hi, .bool bc, .slice none 0 0] 26))
  obtain ⟨c0, c1, c2, c3, c4, c5, c6⟩ := box_cells HI4.out.ba
  obtain ⟨e0, e1, e2, e3, e4, e5, e6⟩ := box_cells (r := coreR a) HC4.out
  simp only [coreR, List.length_nil] at e0 e1 e2 e3 e4 e5 e6
  have hl4 : w.heap.size < w4.heap.size := lt_of_cell c0
  have hl5 : w2.heap.size < w4.heap.size := lt_of_cell e0
  go_wp2_with fail
  refine (ACC _).mono ?_
  rintro e w6 ⟨rfl, hb6⟩
  have HI6 := Hid.mk' (HI5.out.on hb6)
  have HD6 := Hid.mk' (show w6.heap[w4.heap.size]? = some (.cells #[.int .i64 a.id, .int .i64 a.inc, .int .i64 a.st, .int .i64 a.lo, .int .i64 a.hi, .bool bc, .slice none 0 0] 26 (0, 0)) by rw [hb6.block _ (by simp)]; exact HD5.out)
  clear HI4 HI5 HC4 HD5 hb6 hl4 hl5 c0 c1 c2 c3 c4 c5 c6 e0 e1 e2 e3 e4 e5 e6
  obtain ⟨c0, c1, c2, c3, c4, c5, c6⟩ := box_cells HI6.out.ba
  obtain ⟨e0, e1, e2, e3, e4, e5, e6⟩ := box_cells (r := ⟨a.id, a.inc, a.st, a.lo, a.hi, bc, none, 0, []⟩) HD6.out
  simp only [List.length_nil] at e0 e1 e2 e3 e4 e5 e6
  obtain ⟨cu, hcu⟩ : ∃ cu, a.cut = cu := ⟨_, rfl⟩
  rw [hcu] at c5
  have HBV := Hid.mk' (show bc = (cu || decide (0 < a.bag.length)) by rw [← HBC.out, hcu])
  clear hcu HBC
  cases cu
  case true =>
    obtain rfl : bc = true := by rw [HBV.out]; simp
    go_wp2_with fail
    refine (ABB _).mono ?_
    rintro e w7 ⟨rfl, hb7⟩
    have HI7 := Hid.mk' (HI6.out.on hb7)
    clear HI6 HD6 hb7 c0 c1 c2 c3 c4 c5 c6 e0 e1 e2 e3 e4 e5 e6 ABB ACC
    go_wp2_with fail
    have hS0 := inb2_s (HI7.out.on (Below.refl _ _).drew)
    refine wp_region_held_drew (S := fun X => X.cell? ⟨w.heap.size, 0, none⟩ = some (.int .i64 a.id) ∧ X.cell? ⟨w.heap.size, 1, none⟩ = some (.int .i64 a.inc) ∧ X.cell? ⟨w.heap.size, 2, none⟩ = some (.int .i64 a.st) ∧ X.cell? ⟨w.heap.size, 3, none⟩ = some (.int .i64 a.lo) ∧ X.cell? ⟨w.heap.size, 4, none⟩ = some (.int .i64 a.hi) ∧ X.cell? ⟨w.heap.size, 5, none⟩ = some (.bool a.cut) ∧ X.cell? ⟨w.heap.size, 6, none⟩ = some (.slice a.p a.bag.length a.cap) ∧ X.cell? ⟨w.heap.size + 1, 0, none⟩ = some (.int .i64 b.id) ∧ X.cell? ⟨w.heap.size + 1, 1, none⟩ = some (.int .i64 b.inc) ∧ X.cell? ⟨w.heap.size + 1, 2, none⟩ = some (.int .i64 b.st) ∧ X.cell? ⟨w.heap.size + 1, 3, none⟩ = some (.int .i64 b.lo) ∧ X.cell? ⟨w.heap.size + 1, 4, none⟩ = some (.int .i64 b.hi) ∧ X.cell? ⟨w.heap.size + 1, 5, none⟩ = some (.bool b.cut) ∧ X.cell? ⟨w.heap.size + 1, 6, none⟩ = some (.slice b.p b.bag.length b.cap) ∧ Hid (InB2 w a b X)) (by kernel_rfl) hS0 (fun hS => ?_)
    clear hS0 HI7
    generalize w7.drew = wd at hS ⊢
    refine wpAnyH_take (i := 0) (v := ?v0_35) rfl (by kernel_rfl) (by kernel_rfl) (by kernel_rfl) (fun _ _ _ h => h) (Or.inl ⟨by rfl, ?hy0_35⟩) (by assumption) ?rest0_35
    case hy0_35 => (intro w hSw; (try dsimp only at hSw); go_simp; try (with_reducible rfl))
    simp only [Act.put, List.getElem_toArray, List.getElem_cons_zero, List.getElem_cons_succ, List.setIfInBounds_toArray, List.set_cons_zero, List.set_cons_succ]
    refine wpAnyH_take (i := 2) (v := ?v2_36) rfl (by kernel_rfl) (by kernel_rfl) (by kernel_rfl) (fun _ _ _ h => h) (Or.inl ⟨by rfl, ?hy2_36⟩) (by assumption) ?rest2_36
    case hy2_36 => (intro w hSw; (try dsimp only at hSw); go_simp; try (with_reducible rfl))
    simp only [Act.put, List.getElem_toArray, List.getElem_cons_zero, List.getElem_cons_succ, List.setIfInBounds_toArray, List.set_cons_zero, List.set_cons_succ]
    refine wpAnyH_ready (rs := [1]) (by kernel_rfl) (by simp) ?_
    refine (AllReadyH.cons rfl (fun K hK => ?_) AllReadyH.nil)
    go_simp
    refine (V _ hS.2.2.2.2.2.2.2.2.2.2.2.2.2.2.out).mono ?_
    rintro e x1 ⟨rfl, hb1⟩
    have hI1 := hS.2.2.2.2.2.2.2.2.2.2.2.2.2.2.out.on hb1
    clear hb1
    go_wp2_with fail
    refine hK.out _ _ ?_ (fun hS' => ?_)
    · exact inb2_s hI1
    clear hK K
    try simp only [Act.put, List.getElem_toArray, List.getElem_cons_zero, List.getElem_cons_succ, List.setIfInBounds_toArray, List.set_cons_zero, List.set_cons_succ]
    replace hS := hS'
    clear hS'
    refine wpAnyH_ready (rs := [3]) (by kernel_rfl) (by simp) ?_
    refine (AllReadyH.cons rfl (fun K hK => ?_) AllReadyH.nil)
    go_simp
    refine (M _ hS.2.2.2.2.2.2.2.2.2.2.2.2.2.2.out).mono ?_
    rintro e x3 ⟨rfl, hb1⟩
    have hI3 := hS.2.2.2.2.2.2.2.2.2.2.2.2.2.2.out.on hb1
    clear hb1
    go_wp2_with fail
    refine hK.out _ _ ?_ (fun hS' => ?_)
    · exact inb2_s hI3
    clear hK K
    try simp only [Act.put, List.getElem_toArray, List.getElem_cons_zero, List.getElem_cons_succ, List.setIfInBounds_toArray, List.set_cons_zero, List.set_cons_succ]
    replace hS := hS'
    clear hS'
    refine wpAnyH_take (i := 4) (v := ?v4_37) rfl (by kernel_rfl) (by kernel_rfl) (by kernel_rfl) (fun _ _ _ h => h) (Or.inl ⟨by rfl, ?hy4_37⟩) (by assumption) ?rest4_37
    case hy4_37 => (intro w hSw; (try dsimp only at hSw); go_simp; try (with_reducible rfl))
    simp only [Act.put, List.getElem_toArray, List.getElem_cons_zero, List.getElem_cons_succ, List.setIfInBounds_toArray, List.set_cons_zero, List.set_cons_succ]
    refine wpAnyH_take (i := 5) (v := ?v5_38) rfl (by kernel_rfl) (by kernel_rfl) (by kernel_rfl) (fun _ _ _ h => h) (Or.inl ⟨by rfl, ?hy5_38⟩) (by assumption) ?rest5_38
    case hy5_38 => (intro w hSw; (try dsimp only at hSw); go_simp; try (with_reducible rfl))
    simp only [Act.put, List.getElem_toArray, List.getElem_cons_zero, List.getElem_cons_succ, List.setIfInBounds_toArray, List.set_cons_zero, List.set_cons_succ]
    refine wpAnyH_take (i := 6) (v := ?v6_39) rfl (by kernel_rfl) (by kernel_rfl) (by kernel_rfl) (fun _ _ _ h => h) (Or.inl ⟨by rfl, ?hy6_39⟩) (by assumption) ?rest6_39
    case hy6_39 => (intro w hSw; (try dsimp only at hSw); go_simp; try (with_reducible rfl))
    simp only [Act.put, List.getElem_toArray, List.getElem_cons_zero, List.getElem_cons_succ, List.setIfInBounds_toArray, List.set_cons_zero, List.set_cons_succ]
    refine wpAnyH_take (i := 7) (v := ?v7_40) rfl (by kernel_rfl) (by kernel_rfl) (by kernel_rfl) (fun _ _ _ h => h) (Or.inl ⟨by rfl, ?hy7_40⟩) (by assumption) ?rest7_40
    case hy7_40 => (intro w hSw; (try dsimp only at hSw); go_simp; try (with_reducible rfl))
    simp only [Act.put, List.getElem_toArray, List.getElem_cons_zero, List.getElem_cons_succ, List.setIfInBounds_toArray, List.set_cons_zero, List.set_cons_succ]
    refine wpAnyH_take (i := 9) (v := ?v9_41) rfl (by kernel_rfl) (by kernel_rfl) (by kernel_rfl) (fun _ _ _ h => h) (Or.inl ⟨by rfl, ?hy9_41⟩) (by assumption) ?rest9_41
    case hy9_41 => (intro w hSw; (try dsimp only at hSw); go_simp; try (with_reducible rfl))
    simp only [Act.put, List.getElem_toArray, List.getElem_cons_zero, List.getElem_cons_succ, List.setIfInBounds_toArray, List.set_cons_zero, List.set_cons_succ]
    refine wpAnyH_take (i := 10) (v := ?v10_42) rfl (by kernel_rfl) (by kernel_rfl) (by kernel_rfl) (fun _ _ _ h => h) (Or.inl ⟨by rfl, ?hy10_42⟩) (by assumption) ?rest10_42
    case hy10_42 => (intro w hSw; (try dsimp only at hSw); go_simp; try (with_reducible rfl))
    simp only [Act.put, List.getElem_toArray, List.getElem_cons_zero, List.getElem_cons_succ, List.setIfInBounds_toArray, List.set_cons_zero, List.set_cons_succ]
    refine wpAnyH_ready (rs := [8]) (by kernel_rfl) (by simp) ?_
    refine (AllReadyH.cons rfl (fun K hK => ?_) AllReadyH.nil)
    go_simp
    refine (SM _ hS.2.2.2.2.2.2.2.2.2.2.2.2.2.2.out).mono ?_
    rintro e x8 ⟨rfl, hb1⟩
    have hI8 := hS.2.2.2.2.2.2.2.2.2.2.2.2.2.2.out.on hb1
    clear hb1
    go_wp2_with fail
    refine hK.out _ _ ?_ (fun hS' => ?_)
    · exact inb2_s hI8
    clear hK K
    try simp only [Act.put, List.getElem_toArray, List.getElem_cons_zero, List.getElem_cons_succ, List.setIfInBounds_toArray, List.set_cons_zero, List.set_cons_succ]
    replace hS := hS'
    clear hS'
    refine wpAnyH_ready (rs := [11]) (by kernel_rfl) (by simp) ?_
    refine (AllReadyH.cons rfl (fun K hK => ?_) AllReadyH.nil)
    go_simp
    refine (AL _ hS.2.2.2.2.2.2.2.2.2.2.2.2.2.2.out).mono ?_
    rintro e x11 ⟨rfl, hb1⟩
    have hI11 := hS.2.2.2.2.2.2.2.2.2.2.2.2.2.2.out.on hb1
    clear hb1
    go_wp2_with fail
    refine hK.out _ _ ?_ (fun hS' => ?_)
    · exact inb2_s hI11
    clear hK K
    try simp only [Act.put, List.getElem_toArray, List.getElem_cons_zero, List.getElem_cons_succ, List.setIfInBounds_toArray, List.set_cons_zero, List.set_cons_succ]
    replace hS := hS'
    clear hS'
    refine wpAnyH_take (i := 12) (v := ?v12_43) rfl (by kernel_rfl) (by kernel_rfl) (by kernel_rfl) (fun _ _ _ h => h) (Or.inl ⟨by rfl, ?hy12_43⟩) (by assumption) ?rest12_43
    case hy12_43 => (intro w hSw; (try dsimp only at hSw); go_simp; try (with_reducible rfl))
    simp only [Act.put, List.getElem_toArray, List.getElem_cons_zero, List.getElem_cons_succ, List.setIfInBounds_toArray, List.set_cons_zero, List.set_cons_succ]
    refine wpAnyH_take (i := 13) (v := ?v13_44) rfl (by kernel_rfl) (by kernel_rfl) (by kernel_rfl) (fun _ _ _ h => h) (Or.inl ⟨by rfl, ?hy13_44⟩) (by assumption) ?rest13_44
    case hy13_44 => (intro w hSw; (try dsimp only at hSw); go_simp; try (with_reducible rfl))
    simp only [Act.put, List.getElem_toArray, List.getElem_cons_zero, List.getElem_cons_succ, List.setIfInBounds_toArray, List.set_cons_zero, List.set_cons_succ]
    refine wpAnyH_take (i := 14) (v := ?v14_45) rfl (by kernel_rfl) (by kernel_rfl) (by kernel_rfl) (fun _ _ _ h => h) (Or.inl ⟨by rfl, ?hy14_45⟩) (by assumption) ?rest14_45
    case hy14_45 => (intro w hSw; (try dsimp only at hSw); go_simp; try (with_reducible rfl))
    simp only [Act.put, List.getElem_toArray, List.getElem_cons_zero, List.getElem_cons_succ, List.setIfInBounds_toArray, List.set_cons_zero, List.set_cons_succ]
    refine wpAnyH_take (i := 15) (v := ?v15_46) rfl (by kernel_rfl) (by kernel_rfl) (by kernel_rfl) (fun _ _ _ h => h) (Or.inl ⟨by rfl, ?hy15_46⟩) (by assumption) ?rest15_46
    case hy15_46 => (intro w hSw; (try dsimp only at hSw); go_simp; try (with_reducible rfl))
    simp only [Act.put, List.getElem_toArray, List.getElem_cons_zero, List.getElem_cons_succ, List.setIfInBounds_toArray, List.set_cons_zero, List.set_cons_succ]
    refine wpAnyH_take (i := 16) (v := ?v16_47) rfl (by kernel_rfl) (by kernel_rfl) (by kernel_rfl) (fun _ _ _ h => h) (Or.inl ⟨by rfl, ?hy16_47⟩) (by assumption) ?rest16_47
    case hy16_47 => (intro w hSw; (try dsimp only at hSw); go_simp; try (with_reducible rfl))
    simp only [Act.put, List.getElem_toArray, List.getElem_cons_zero, List.getElem_cons_succ, List.setIfInBounds_toArray, List.set_cons_zero, List.set_cons_succ]
    refine wpAnyH_take (i := 18) (v := ?v18_48) rfl (by kernel_rfl) (by kernel_rfl) (by kernel_rfl) (fun _ _ _ h => h) (Or.inl ⟨by rfl, ?hy18_48⟩) (by assumption) ?rest18_48
    case hy18_48 => (intro w hSw; (try dsimp only at hSw); go_simp; try (with_reducible rfl))
    simp only [Act.put, List.getElem_toArray, List.getElem_cons_zero, List.getElem_cons_succ, List.setIfInBounds_toArray, List.set_cons_zero, List.set_cons_succ]
    refine wpAnyH_take (i := 20) (v := ?v20_49) rfl (by kernel_rfl) (by kernel_rfl) (by kernel_rfl) (fun _ _ _ h => h) (Or.inl ⟨by rfl, ?hy20_49⟩) (by assumption) ?rest20_49
    case hy20_49 => (intro w hSw; (try dsimp only at hSw); go_simp; try (with_reducible rfl))
    simp only [Act.put, List.getElem_toArray, List.getElem_cons_zero, List.getElem_cons_succ, List.setIfInBounds_toArray, List.set_cons_zero, List.set_cons_succ]
    refine wpAnyH_ready (rs := [17]) (by kernel_rfl) (by simp) ?_
    refine (AllReadyH.cons rfl (fun K hK => ?_) AllReadyH.nil)
    go_simp
    refine (AK _).mono ?_
    rintro e x17 ⟨rfl, hb1⟩
    have hI17 := hS.2.2.2.2.2.2.2.2.2.2.2.2.2.2.out.on hb1
    clear hb1
    go_wp2_with fail
    refine hK.out _ _ ?_ (fun hS' => ?_)
    · exact inb2_s hI17
    clear hK K
    try simp only [Act.put, List.getElem_toArray, List.getElem_cons_zero, List.getElem_cons_succ, List.setIfInBounds_toArray, List.set_cons_zero, List.set_cons_succ]
    replace hS := hS'
    clear hS'
    refine wpAnyH_ready (rs := [19]) (by kernel_rfl) (by simp) ?_
    refine (AllReadyH.cons rfl (fun K hK => ?_) AllReadyH.nil)
    go_simp
    refine (CA _).mono ?_
    rintro e x19 ⟨rfl, hb1⟩
    have hI19 := hS.2.2.2.2.2.2.2.2.2.2.2.2.2.2.out.on hb1
    clear hb1
    go_wp2_with fail
    refine hK.out _ _ ?_ (fun hS' => ?_)
    · exact inb2_s hI19
    clear hK K
    try simp only [Act.put, List.getElem_toArray, List.getElem_cons_zero, List.getElem_cons_succ, List.setIfInBounds_toArray, List.set_cons_zero, List.set_cons_succ]
    replace hS := hS'
    clear hS'
    refine wpAnyH_ready (rs := [21]) (by kernel_rfl) (by simp) ?_
    refine (AllReadyH.cons rfl (fun K hK => ?_) AllReadyH.nil)
    go_simp
    refine (CB _).mono ?_
    rintro e x21 ⟨rfl, hb1⟩
    have hI21 := hS.2.2.2.2.2.2.2.2.2.2.2.2.2.2.out.on hb1
    clear hb1
    go_wp2_with fail
    refine hK.out _ _ ?_ (fun hS' => ?_)
    · exact inb2_s hI21
    clear hK K
    try simp only [Act.put, List.getElem_toArray, List.getElem_cons_zero, List.getElem_cons_succ, List.setIfInBounds_toArray, List.set_cons_zero, List.set_cons_succ]
    replace hS := hS'
    clear hS'
    refine wpAnyH_ready (rs := [22]) (by kernel_rfl) (by simp) ?_
    refine (AllReadyH.cons rfl (fun K hK => ?_) AllReadyH.nil)
    go_simp
    refine (AC _).mono ?_
    rintro e x22 ⟨rfl, hb1⟩
    have hI22 := hS.2.2.2.2.2.2.2.2.2.2.2.2.2.2.out.on hb1
    clear hb1
    go_wp2_with fail
    refine hK.out _ _ ?_ (fun hS' => ?_)
    · exact inb2_s hI22
    clear hK K
    try simp only [Act.put, List.getElem_toArray, List.getElem_cons_zero, List.getElem_cons_succ, List.setIfInBounds_toArray, List.set_cons_zero, List.set_cons_succ]
    replace hS := hS'
    clear hS'
    refine wpAnyH_take (i := 23) (v := ?v23_50) rfl (by kernel_rfl) (by kernel_rfl) (by kernel_rfl) (fun _ _ _ h => h) (Or.inl ⟨by rfl, ?hy23_50⟩) (by assumption) ?rest23_50
    case hy23_50 => (intro w hSw; (try dsimp only at hSw); go_simp; try (with_reducible rfl))
    simp only [Act.put, List.getElem_toArray, List.getElem_cons_zero, List.getElem_cons_succ, List.setIfInBounds_toArray, List.set_cons_zero, List.set_cons_succ]
    refine wpAnyH_take (i := 24) (v := ?v24_51) rfl (by kernel_rfl) (by kernel_rfl) (by kernel_rfl) (fun _ _ _ h => h) (Or.inl ⟨by rfl, ?hy24_51⟩) (by assumption) ?rest24_51
    case hy24_51 => (intro w hSw; (try dsimp only at hSw); go_simp; try (with_reducible rfl))
    simp only [Act.put, List.getElem_toArray, List.getElem_cons_zero, List.getElem_cons_succ, List.setIfInBounds_toArray, List.set_cons_zero, List.set_cons_succ]
    refine wpAnyH_take (i := 25) (v := ?v25_52) rfl (by kernel_rfl) (by kernel_rfl) (by kernel_rfl) (fun _ _ _ h => h) (Or.inl ⟨by rfl, ?hy25_52⟩) (by assumption) ?rest25_52
    case hy25_52 => (intro w hSw; (try dsimp only at hSw); go_simp; try (with_reducible rfl))
    simp only [Act.put, List.getElem_toArray, List.getElem_cons_zero, List.getElem_cons_succ, List.setIfInBounds_toArray, List.set_cons_zero, List.set_cons_succ]
    refine wpAnyH_ready (rs := [26]) (by kernel_rfl) (by simp) ?_
    refine (AllReadyH.cons rfl (fun K hK => ?_) AllReadyH.nil)
    go_simp
    refine (AW _).mono ?_
    rintro e x26 ⟨rfl, hb1⟩
    have hI26 := hS.2.2.2.2.2.2.2.2.2.2.2.2.2.2.out.on hb1
    clear hb1
    go_wp2_with fail
    refine hK.out _ _ ?_ (fun hS' => ?_)
    · exact inb2_s hI26
    clear hK K
    try simp only [Act.put, List.getElem_toArray, List.getElem_cons_zero, List.getElem_cons_succ, List.setIfInBounds_toArray, List.set_cons_zero, List.set_cons_succ]
    replace hS := hS'
    clear hS'
    refine wpAnyH_take (i := 27) (v := ?v27_53) rfl (by kernel_rfl) (by kernel_rfl) (by kernel_rfl) (fun _ _ _ h => h) (Or.inl ⟨by rfl, ?hy27_53⟩) (by assumption) ?rest27_53
    case hy27_53 => (intro w hSw; (try dsimp only at hSw); go_simp; try (with_reducible rfl))
    simp only [Act.put, List.getElem_toArray, List.getElem_cons_zero, List.getElem_cons_succ, List.setIfInBounds_toArray, List.set_cons_zero, List.set_cons_succ]
    refine wpAnyH_take (i := 28) (v := ?v28_54) rfl (by kernel_rfl) (by kernel_rfl) (by kernel_rfl) (fun _ _ _ h => h) (Or.inl ⟨by rfl, ?hy28_54⟩) (by assumption) ?rest28_54
    case hy28_54 => (intro w hSw; (try dsimp only at hSw); go_simp; try (with_reducible rfl))
    simp only [Act.put, List.getElem_toArray, List.getElem_cons_zero, List.getElem_cons_succ, List.setIfInBounds_toArray, List.set_cons_zero, List.set_cons_succ]
    refine wpAnyH_done (by kernel_rfl) ?_ _
    go_wp2
    go_ret
    exact ⟨rfl, hS.2.2.2.2.2.2.2.2.2.2.2.2.2.2.out.below⟩
  case false =>
    by_cases t : 0 < a.bag.length
    · obtain rfl : bc = true := by rw [HBV.out]; simp [t]
      clear HBV
      go_wp2_with fail
      refine (ABB _).mono ?_
      rintro e w7 ⟨rfl, hb7⟩
      have HI7 := Hid.mk' (HI6.out.on hb7)
      clear HI6 HD6 hb7 c0 c1 c2 c3 c4 c5 c6 e0 e1 e2 e3 e4 e5 e6 ABB ACC
      go_wp2_with fail
      have hS0 := inb2_s (HI7.out.on (Below.refl _ _).drew)
      refine wp_region_held_drew (S := fun X => X.cell? ⟨w.heap.size, 0, none⟩ = some (.int .i64 a.id) ∧ X.cell? ⟨w.heap.size, 1, none⟩ = some (.int .i64 a.inc) ∧ X.cell? ⟨w.heap.size, 2, none⟩ = some (.int .i64 a.st) ∧ X.cell? ⟨w.heap.size, 3, none⟩ = some (.int .i64 a.lo) ∧ X.cell? ⟨w.heap.size, 4, none⟩ = some (.int .i64 a.hi) ∧ X.cell? ⟨w.heap.size, 5, none⟩ = some (.bool a.cut) ∧ X.cell? ⟨w.heap.size, 6, none⟩ = some (.slice a.p a.bag.length a.cap) ∧ X.cell? ⟨w.heap.size + 1, 0, none⟩ = some (.int .i64 b.id) ∧ X.cell? ⟨w.heap.size + 1, 1, none⟩ = some (.int .i64 b.inc) ∧ X.cell? ⟨w.heap.size + 1, 2, none⟩ = some (.int .i64 b.st) ∧ X.cell? ⟨w.heap.size + 1, 3, none⟩ = some (.int .i64 b.lo) ∧ X.cell? ⟨w.heap.size + 1, 4, none⟩ = some (.int .i64 b.hi) ∧ X.cell? ⟨w.heap.size + 1, 5, none⟩ = some (.bool b.cut) ∧ X.cell? ⟨w.heap.size + 1, 6, none⟩ = some (.slice b.p b.bag.length b.cap) ∧ Hid (InB2 w a b X)) (by kernel_rfl) hS0 (fun hS => ?_)
      clear hS0 HI7
      generalize w7.drew = wd at hS ⊢
      refine wpAnyH_take (i := 0) (v := ?v0_55) rfl (by kernel_rfl) (by kernel_rfl) (by kernel_rfl) (fun _ _ _ h => h) (Or.inl ⟨by rfl, ?hy0_55⟩) (by assumption) ?rest0_55
      case hy0_55 => (intro w hSw; (try dsimp only at hSw); go_simp; try (with_reducible rfl))
      simp only [Act.put, List.getElem_toArray, List.getElem_cons_zero, List.getElem_cons_succ, List.setIfInBounds_toArray, List.set_cons_zero, List.set_cons_succ]
      refine wpAnyH_take (i := 2) (v := ?v2_56) rfl (by kernel_rfl) (by kernel_rfl) (by kernel_rfl) (fun _ _ _ h => h) (Or.inl ⟨by rfl, ?hy2_56⟩) (by assumption) ?rest2_56
      case hy2_56 => (intro w hSw; (try dsimp only at hSw); go_simp; try (with_reducible rfl))
      simp only [Act.put, List.getElem_toArray, List.getElem_cons_zero, List.getElem_cons_succ, List.setIfInBounds_toArray, List.set_cons_zero, List.set_cons_succ]
      refine wpAnyH_ready (rs := [1]) (by kernel_rfl) (by simp) ?_
      refine (AllReadyH.cons rfl (fun K hK => ?_) AllReadyH.nil)
      go_simp
      refine (V _ hS.2.2.2.2.2.2.2.2.2.2.2.2.2.2.out).mono ?_
      rintro e x1 ⟨rfl, hb1⟩
      have hI1 := hS.2.2.2.2.2.2.2.2.2.2.2.2.2.2.out.on hb1
      clear hb1
      go_wp2_with fail
      refine hK.out _ _ ?_ (fun hS' => ?_)
      · exact inb2_s hI1
      clear hK K
      try simp only [Act.put, List.getElem_toArray, List.getElem_cons_zero, List.getElem_cons_succ, List.setIfInBounds_toArray, List.set_cons_zero, List.set_cons_succ]
      replace hS := hS'
      clear hS'
      refine wpAnyH_ready (rs := [3]) (by kernel_rfl) (by simp) ?_
      refine (AllReadyH.cons rfl (fun K hK => ?_) AllReadyH.nil)
      go_simp
      refine (M _ hS.2.2.2.2.2.2.2.2.2.2.2.2.2.2.out).mono ?_
      rintro e x3 ⟨rfl, hb1⟩
      have hI3 := hS.2.2.2.2.2.2.2.2.2.2.2.2.2.2.out.on hb1
      clear hb1
      go_wp2_with fail
      refine hK.out _ _ ?_ (fun hS' => ?_)
      · exact inb2_s hI3
      clear hK K
      try simp only [Act.put, List.getElem_toArray, List.getElem_cons_zero, List.getElem_cons_succ, List.setIfInBounds_toArray, List.set_cons_zero, List.set_cons_succ]
      replace hS := hS'
      clear hS'
      refine wpAnyH_take (i := 4) (v := ?v4_57) rfl (by kernel_rfl) (by kernel_rfl) (by kernel_rfl) (fun _ _ _ h => h) (Or.inl ⟨by rfl, ?hy4_57⟩) (by assumption) ?rest4_57
      case hy4_57 => (intro w hSw; (try dsimp only at hSw); go_simp; try (with_reducible rfl))
      simp only [Act.put, List.getElem_toArray, List.getElem_cons_zero, List.getElem_cons_succ, List.setIfInBounds_toArray, List.set_cons_zero, List.set_cons_succ]
      refine wpAnyH_take (i := 5) (v := ?v5_58) rfl (by kernel_rfl) (by kernel_rfl) (by kernel_rfl) (fun _ _ _ h => h) (Or.inl ⟨by rfl, ?hy5_58⟩) (by assumption) ?rest5_58
      case hy5_58 => (intro w hSw; (try dsimp only at hSw); go_simp; try (with_reducible rfl))
      simp only [Act.put, List.getElem_toArray, List.getElem_cons_zero, List.getElem_cons_succ, List.setIfInBounds_toArray, List.set_cons_zero, List.set_cons_succ]
      refine wpAnyH_take (i := 6) (v := ?v6_59) rfl (by kernel_rfl) (by kernel_rfl) (by kernel_rfl) (fun _ _ _ h => h) (Or.inl ⟨by rfl, ?hy6_59⟩) (by assumption) ?rest6_59
      case hy6_59 => (intro w hSw; (try dsimp only at hSw); go_simp; try (with_reducible rfl))
      simp only [Act.put, List.getElem_toArray, List.getElem_cons_zero, List.getElem_cons_succ, List.setIfInBounds_toArray, List.set_cons_zero, List.set_cons_succ]
      refine wpAnyH_take (i := 7) (v := ?v7_60) rfl (by kernel_rfl) (by kernel_rfl) (by kernel_rfl) (fun _ _ _ h => h) (Or.inl ⟨by rfl, ?hy7_60⟩) (by assumption) ?rest7_60
      case hy7_60 => (intro w hSw; (try dsimp only at hSw); go_simp; try (with_reducible rfl))
      simp only [Act.put, List.getElem_toArray, List.getElem_cons_zero, List.getElem_cons_succ, List.setIfInBounds_toArray, List.set_cons_zero, List.set_cons_succ]
      refine wpAnyH_take (i := 9) (v := ?v9_61) rfl (by kernel_rfl) (by kernel_rfl) (by kernel_rfl) (fun _ _ _ h => h) (Or.inl ⟨by rfl, ?hy9_61⟩) (by assumption) ?rest9_61
      case hy9_61 => (intro w hSw; (try dsimp only at hSw); go_simp; try (with_reducible rfl))
      simp only [Act.put, List.getElem_toArray, List.getElem_cons_zero, List.getElem_cons_succ, List.setIfInBounds_toArray, List.set_cons_zero, List.set_cons_succ]
      refine wpAnyH_take (i := 10) (v := ?v10_62) rfl (by kernel_rfl) (by kernel_rfl) (by kernel_rfl) (fun _ _ _ h => h) (Or.inl ⟨by rfl, ?hy10_62⟩) (by assumption) ?rest10_62
      case hy10_62 => (intro w hSw; (try dsimp only at hSw); go_simp; try (with_reducible rfl))
      simp only [Act.put, List.getElem_toArray, List.getElem_cons_zero, List.getElem_cons_succ, List.setIfInBounds_toArray, List.set_cons_zero, List.set_cons_succ]
      refine wpAnyH_ready (rs := [8]) (by kernel_rfl) (by simp) ?_
      refine (AllReadyH.cons rfl (fun K hK => ?_) AllReadyH.nil)
      go_simp
      refine (SM _ hS.2.2.2.2.2.2.2.2.2.2.2.2.2.2.out).mono ?_
      rintro e x8 ⟨rfl, hb1⟩
      have hI8 := hS.2.2.2.2.2.2.2.2.2.2.2.2.2.2.out.on hb1
      clear hb1
      go_wp2_with fail
      refine hK.out _ _ ?_ (fun hS' => ?_)
      · exact inb2_s hI8
      clear hK K
      try simp only [Act.put, List.getElem_toArray, List.getElem_cons_zero, List.getElem_cons_succ, List.setIfInBounds_toArray, List.set_cons_zero, List.set_cons_succ]
      replace hS := hS'
      clear hS'
      refine wpAnyH_ready (rs := [11]) (by kernel_rfl) (by simp) ?_
      refine (AllReadyH.cons rfl (fun K hK => ?_) AllReadyH.nil)
      go_simp
      refine (AL _ hS.2.2.2.2.2.2.2.2.2.2.2.2.2.2.out).mono ?_
      rintro e x11 ⟨rfl, hb1⟩
      have hI11 := hS.2.2.2.2.2.2.2.2.2.2.2.2.2.2.out.on hb1
      clear hb1
      go_wp2_with fail
      refine hK.out _ _ ?_ (fun hS' => ?_)
      · exact inb2_s hI11
      clear hK K
      try simp only [Act.put, List.getElem_toArray, List.getElem_cons_zero, List.getElem_cons_succ, List.setIfInBounds_toArray, List.set_cons_zero, List.set_cons_succ]
      replace hS := hS'
      clear hS'
      refine wpAnyH_take (i := 12) (v := ?v12_63) rfl (by kernel_rfl) (by kernel_rfl) (by kernel_rfl) (fun _ _ _ h => h) (Or.inl ⟨by rfl, ?hy12_63⟩) (by assumption) ?rest12_63
      case hy12_63 => (intro w hSw; (try dsimp only at hSw); go_simp; try (with_reducible rfl))
      simp only [Act.put, List.getElem_toArray, List.getElem_cons_zero, List.getElem_cons_succ, List.setIfInBounds_toArray, List.set_cons_zero, List.set_cons_succ]
      refine wpAnyH_take (i := 13) (v := ?v13_64) rfl (by kernel_rfl) (by kernel_rfl) (by kernel_rfl) (fun _ _ _ h => h) (Or.inl ⟨by rfl, ?hy13_64⟩) (by assumption) ?rest13_64
      case hy13_64 => (intro w hSw; (try dsimp only at hSw); go_simp; try (with_reducible rfl))
      simp only [Act.put, List.getElem_toArray, List.getElem_cons_zero, List.getElem_cons_succ, List.setIfInBounds_toArray, List.set_cons_zero, List.set_cons_succ]
      refine wpAnyH_take (i := 14) (v := ?v14_65) rfl (by kernel_rfl) (by kernel_rfl) (by kernel_rfl) (fun _ _ _ h => h) (Or.inl ⟨by rfl, ?hy14_65⟩) (by assumption) ?rest14_65
      case hy14_65 => (intro w hSw; (try dsimp only at hSw); go_simp; try (with_reducible rfl))
      simp only [Act.put, List.getElem_toArray, List.getElem_cons_zero, List.getElem_cons_succ, List.setIfInBounds_toArray, List.set_cons_zero, List.set_cons_succ]
      refine wpAnyH_take (i := 15) (v := ?v15_66) rfl (by kernel_rfl) (by kernel_rfl) (by kernel_rfl) (fun _ _ _ h => h) (Or.inl ⟨by rfl, ?hy15_66⟩) (by assumption) ?rest15_66
      case hy15_66 => (intro w hSw; (try dsimp only at hSw); go_simp; try (with_reducible rfl))
      simp only [Act.put, List.getElem_toArray, List.getElem_cons_zero, List.getElem_cons_succ, List.setIfInBounds_toArray, List.set_cons_zero, List.set_cons_succ]
      refine wpAnyH_take (i := 16) (v := ?v16_67) rfl (by kernel_rfl) (by kernel_rfl) (by kernel_rfl) (fun _ _ _ h => h) (Or.inl ⟨by rfl, ?hy16_67⟩) (by assumption) ?rest16_67
      case hy16_67 => (intro w hSw; (try dsimp only at hSw); go_simp; try (with_reducible rfl))
      simp only [Act.put, List.getElem_toArray, List.getElem_cons_zero, List.getElem_cons_succ, List.setIfInBounds_toArray, List.set_cons_zero, List.set_cons_succ]
      refine wpAnyH_take (i := 18) (v := ?v18_68) rfl (by kernel_rfl) (by kernel_rfl) (by kernel_rfl) (fun _ _ _ h => h) (Or.inl ⟨by rfl, ?hy18_68⟩) (by assumption) ?rest18_68
      case hy18_68 => (intro w hSw; (try dsimp only at hSw); go_simp; try (with_reducible rfl))
      simp only [Act.put, List.getElem_toArray, List.getElem_cons_zero, List.getElem_cons_succ, List.setIfInBounds_toArray, List.set_cons_zero, List.set_cons_succ]
      refine wpAnyH_take (i := 20) (v := ?v20_69) rfl (by kernel_rfl) (by kernel_rfl) (by kernel_rfl) (fun _ _ _ h => h) (Or.inl ⟨by rfl, ?hy20_69⟩) (by assumption) ?rest20_69
      case hy20_69 => (intro w hSw; (try dsimp only at hSw); go_simp; try (with_reducible rfl))
      simp only [Act.put, List.getElem_toArray, List.getElem_cons_zero, List.getElem_cons_succ, List.setIfInBounds_toArray, List.set_cons_zero, List.set_cons_succ]
      refine wpAnyH_ready (rs := [17]) (by kernel_rfl) (by simp) ?_
      refine (AllReadyH.cons rfl (fun K hK => ?_) AllReadyH.nil)
      go_simp
      refine (AK _).mono ?_
      rintro e x17 ⟨rfl, hb1⟩
      have hI17 := hS.2.2.2.2.2.2.2.2.2.2.2.2.2.2.out.on hb1
      clear hb1
      go_wp2_with fail
      refine hK.out _ _ ?_ (fun hS' => ?_)
      · exact inb2_s hI17
      clear hK K
      try simp only [Act.put, List.getElem_toArray, List.getElem_cons_zero, List.getElem_cons_succ, List.setIfInBounds_toArray, List.set_cons_zero, List.set_cons_succ]
      replace hS := hS'
      clear hS'
      refine wpAnyH_ready (rs := [19]) (by kernel_rfl) (by simp) ?_
      refine (AllReadyH.cons rfl (fun K hK => ?_) AllReadyH.nil)
      go_simp
      refine (CA _).mono ?_
      rintro e x19 ⟨rfl, hb1⟩
      have hI19 := hS.2.2.2.2.2.2.2.2.2.2.2.2.2.2.out.on hb1
      clear hb1
      go_wp2_with fail
      refine hK.out _ _ ?_ (fun hS' => ?_)
      · exact inb2_s hI19
      clear hK K
      try simp only [Act.put, List.getElem_toArray, List.getElem_cons_zero, List.getElem_cons_succ, List.setIfInBounds_toArray, List.set_cons_zero, List.set_cons_succ]
      replace hS := hS'
      clear hS'
      refine wpAnyH_ready (rs := [21]) (by kernel_rfl) (by simp) ?_
      refine (AllReadyH.cons rfl (fun K hK => ?_) AllReadyH.nil)
      go_simp
      refine (CB _).mono ?_
      rintro e x21 ⟨rfl, hb1⟩
      have hI21 := hS.2.2.2.2.2.2.2.2.2.2.2.2.2.2.out.on hb1
      clear hb1
      go_wp2_with fail
      refine hK.out _ _ ?_ (fun hS' => ?_)
      · exact inb2_s hI21
      clear hK K
      try simp only [Act.put, List.getElem_toArray, List.getElem_cons_zero, List.getElem_cons_succ, List.setIfInBounds_toArray, List.set_cons_zero, List.set_cons_succ]
      replace hS := hS'
      clear hS'
      refine wpAnyH_ready (rs := [22]) (by kernel_rfl) (by simp) ?_
      refine (AllReadyH.cons rfl (fun K hK => ?_) AllReadyH.nil)
      go_simp
      refine (AC _).mono ?_
      rintro e x22 ⟨rfl, hb1⟩
      have hI22 := hS.2.2.2.2.2.2.2.2.2.2.2.2.2.2.out.on hb1
      clear hb1
      go_wp2_with fail
      refine hK.out _ _ ?_ (fun hS' => ?_)
      · exact inb2_s hI22
      clear hK K
      try simp only [Act.put, List.getElem_toArray, List.getElem_cons_zero, List.getElem_cons_succ, List.setIfInBounds_toArray, List.set_cons_zero, List.set_cons_succ]
      replace hS := hS'
      clear hS'
      refine wpAnyH_take (i := 23) (v := ?v23_70) rfl (by kernel_rfl) (by kernel_rfl) (by kernel_rfl) (fun _ _ _ h => h) (Or.inl ⟨by rfl, ?hy23_70⟩) (by assumption) ?rest23_70
      case hy23_70 => (intro w hSw; (try dsimp only at hSw); go_simp; try (with_reducible rfl))
      simp only [Act.put, List.getElem_toArray, List.getElem_cons_zero, List.getElem_cons_succ, List.setIfInBounds_toArray, List.set_cons_zero, List.set_cons_succ]
      refine wpAnyH_take (i := 24) (v := ?v24_71) rfl (by kernel_rfl) (by kernel_rfl) (by kernel_rfl) (fun _ _ _ h => h) (Or.inl ⟨by rfl, ?hy24_71⟩) (by assumption) ?rest24_71
      case hy24_71 => (intro w hSw; (try dsimp only at hSw); go_simp; try (with_reducible rfl))
      simp only [Act.put, List.getElem_toArray, List.getElem_cons_zero, List.getElem_cons_succ, List.setIfInBounds_toArray, List.set_cons_zero, List.set_cons_succ]
      refine wpAnyH_take (i := 25) (v := ?v25_72) rfl (by kernel_rfl) (by kernel_rfl) (by kernel_rfl) (fun _ _ _ h => h) (Or.inl ⟨by rfl, ?hy25_72⟩) (by assumption) ?rest25_72
      case hy25_72 => (intro w hSw; (try dsimp only at hSw); go_simp; try (with_reducible rfl))
      simp only [Act.put, List.getElem_toArray, List.getElem_cons_zero, List.getElem_cons_succ, List.setIfInBounds_toArray, List.set_cons_zero, List.set_cons_succ]
      refine wpAnyH_ready (rs := [26]) (by kernel_rfl) (by simp) ?_
      refine (AllReadyH.cons rfl (fun K hK => ?_) AllReadyH.nil)
      go_simp
      refine (AW _).mono ?_
      rintro e x26 ⟨rfl, hb1⟩
      have hI26 := hS.2.2.2.2.2.2.2.2.2.2.2.2.2.2.out.on hb1
      clear hb1
      go_wp2_with fail
      refine hK.out _ _ ?_ (fun hS' => ?_)
      · exact inb2_s hI26
      clear hK K
      try simp only [Act.put, List.getElem_toArray, List.getElem_cons_zero, List.getElem_cons_succ, List.setIfInBounds_toArray, List.set_cons_zero, List.set_cons_succ]
      replace hS := hS'
      clear hS'
      refine wpAnyH_take (i := 27) (v := ?v27_73) rfl (by kernel_rfl) (by kernel_rfl) (by kernel_rfl) (fun _ _ _ h => h) (Or.inl ⟨by rfl, ?hy27_73⟩) (by assumption) ?rest27_73
      case hy27_73 => (intro w hSw; (try dsimp only at hSw); go_simp; try (with_reducible rfl))
      simp only [Act.put, List.getElem_toArray, List.getElem_cons_zero, List.getElem_cons_succ, List.setIfInBounds_toArray, List.set_cons_zero, List.set_cons_succ]
      refine wpAnyH_take (i := 28) (v := ?v28_74) rfl (by kernel_rfl) (by kernel_rfl) (by kernel_rfl) (fun _ _ _ h => h) (Or.inl ⟨by rfl, ?hy28_74⟩) (by assumption) ?rest28_74
      case hy28_74 => (intro w hSw; (try dsimp only at hSw); go_simp; try (with_reducible rfl))
      simp only [Act.put, List.getElem_toArray, List.getElem_cons_zero, List.getElem_cons_succ, List.setIfInBounds_toArray, List.set_cons_zero, List.set_cons_succ]
      refine wpAnyH_done (by kernel_rfl) ?_ _
      go_wp2
      go_ret
      exact ⟨rfl, hS.2.2.2.2.2.2.2.2.2.2.2.2.2.2.out.below⟩
    · obtain rfl : bc = false := by rw [HBV.out]; simp [t]
      clear HBV
      go_wp2_with fail
      refine (ABB _).mono ?_
      rintro e w7 ⟨rfl, hb7⟩
      have HI7 := Hid.mk' (HI6.out.on hb7)
      clear HI6 HD6 hb7 c0 c1 c2 c3 c4 c5 c6 e0 e1 e2 e3 e4 e5 e6 ABB ACC
      go_wp2_with fail
      have hS0 := inb2_s (HI7.out.on (Below.refl _ _).drew)
      refine wp_region_held_drew (S := fun X => X.cell? ⟨w.heap.size, 0, none⟩ = some (.int .i64 a.id) ∧ X.cell? ⟨w.heap.size, 1, none⟩ = some (.int .i64 a.inc) ∧ X.cell? ⟨w.heap.size, 2, none⟩ = some (.int .i64 a.st) ∧ X.cell? ⟨w.heap.size, 3, none⟩ = some (.int .i64 a.lo) ∧ X.cell? ⟨w.heap.size, 4, none⟩ = some (.int .i64 a.hi) ∧ X.cell? ⟨w.heap.size, 5, none⟩ = some (.bool a.cut) ∧ X.cell? ⟨w.heap.size, 6, none⟩ = some (.slice a.p a.bag.length a.cap) ∧ X.cell? ⟨w.heap.size + 1, 0, none⟩ = some (.int .i64 b.id) ∧ X.cell? ⟨w.heap.size + 1, 1, none⟩ = some (.int .i64 b.inc) ∧ X.cell? ⟨w.heap.size + 1, 2, none⟩ = some (.int .i64 b.st) ∧ X.cell? ⟨w.heap.size + 1, 3, none⟩ = some (.int .i64 b.lo) ∧ X.cell? ⟨w.heap.size + 1, 4, none⟩ = some (.int .i64 b.hi) ∧ X.cell? ⟨w.heap.size + 1, 5, none⟩ = some (.bool b.cut) ∧ X.cell? ⟨w.heap.size + 1, 6, none⟩ = some (.slice b.p b.bag.length b.cap) ∧ Hid (InB2 w a b X)) (by kernel_rfl) hS0 (fun hS => ?_)
      clear hS0 HI7
      generalize w7.drew = wd at hS ⊢
      refine wpAnyH_take (i := 0) (v := ?v0_75) rfl (by kernel_rfl) (by kernel_rfl) (by kernel_rfl) (fun _ _ _ h => h) (Or.inl ⟨by rfl, ?hy0_75⟩) (by assumption) ?rest0_75
      case hy0_75 => (intro w hSw; (try dsimp only at hSw); go_simp; try (with_reducible rfl))
      simp only [Act.put, List.getElem_toArray, List.getElem_cons_zero, List.getElem_cons_succ, List.setIfInBounds_toArray, List.set_cons_zero, List.set_cons_succ]
      refine wpAnyH_take (i := 2) (v := ?v2_76) rfl (by kernel_rfl) (by kernel_rfl) (by kernel_rfl) (fun _ _ _ h => h) (Or.inl ⟨by rfl, ?hy2_76⟩) (by assumption) ?rest2_76
      case hy2_76 => (intro w hSw; (try dsimp only at hSw); go_simp; try (with_reducible rfl))
      simp only [Act.put, List.getElem_toArray, List.getElem_cons_zero, List.getElem_cons_succ, List.setIfInBounds_toArray, List.set_cons_zero, List.set_cons_succ]
      refine wpAnyH_ready (rs := [1]) (by kernel_rfl) (by simp) ?_
      refine (AllReadyH.cons rfl (fun K hK => ?_) AllReadyH.nil)
      go_simp
      refine (V _ hS.2.2.2.2.2.2.2.2.2.2.2.2.2.2.out).mono ?_
      rintro e x1 ⟨rfl, hb1⟩
      have hI1 := hS.2.2.2.2.2.2.2.2.2.2.2.2.2.2.out.on hb1
      clear hb1
      go_wp2_with fail
      refine hK.out _ _ ?_ (fun hS' => ?_)
      · exact inb2_s hI1
      clear hK K
      try simp only [Act.put, List.getElem_toArray, List.getElem_cons_zero, List.getElem_cons_succ, List.setIfInBounds_toArray, List.set_cons_zero, List.set_cons_succ]
      replace hS := hS'
      clear hS'
      refine wpAnyH_ready (rs := [3]) (by kernel_rfl) (by simp) ?_
      refine (AllReadyH.cons rfl (fun K hK => ?_) AllReadyH.nil)
      go_simp
      refine (M _ hS.2.2.2.2.2.2.2.2.2.2.2.2.2.2.out).mono ?_
      rintro e x3 ⟨rfl, hb1⟩
      have hI3 := hS.2.2.2.2.2.2.2.2.2.2.2.2.2.2.out.on hb1
      clear hb1
      go_wp2_with fail
      refine hK.out _ _ ?_ (fun hS' => ?_)
      · exact inb2_s hI3
      clear hK K
      try simp only [Act.put, List.getElem_toArray, List.getElem_cons_zero, List.getElem_cons_succ, List.setIfInBounds_toArray, List.set_cons_zero, List.set_cons_succ]
      replace hS := hS'
      clear hS'
      refine wpAnyH_take (i := 4) (v := ?v4_77) rfl (by kernel_rfl) (by kernel_rfl) (by kernel_rfl) (fun _ _ _ h => h) (Or.inl ⟨by rfl, ?hy4_77⟩) (by assumption) ?rest4_77
      case hy4_77 => (intro w hSw; (try dsimp only at hSw); go_simp; try (with_reducible rfl))
      simp only [Act.put, List.getElem_toArray, List.getElem_cons_zero, List.getElem_cons_succ, List.setIfInBounds_toArray, List.set_cons_zero, List.set_cons_succ]
      refine wpAnyH_take (i := 5) (v := ?v5_78) rfl (by kernel_rfl) (by kernel_rfl) (by kernel_rfl) (fun _ _ _ h => h) (Or.inl ⟨by rfl, ?hy5_78⟩) (by assumption) ?rest5_78
      case hy5_78 => (intro w hSw; (try dsimp only at hSw); go_simp; try (with_reducible rfl))
      simp only [Act.put, List.getElem_toArray, List.getElem_cons_zero, List.getElem_cons_succ, List.setIfInBounds_toArray, List.set_cons_zero, List.set_cons_succ]
      refine wpAnyH_take (i := 6) (v := ?v6_79) rfl (by kernel_rfl) (by kernel_rfl) (by kernel_rfl) (fun _ _ _ h => h) (Or.inl ⟨by rfl, ?hy6_79⟩) (by assumption) ?rest6_79
      case hy6_79 => (intro w hSw; (try dsimp only at hSw); go_simp; try (with_reducible rfl))
      simp only [Act.put, List.getElem_toArray, List.getElem_cons_zero, List.getElem_cons_succ, List.setIfInBounds_toArray, List.set_cons_zero, List.set_cons_succ]
      refine wpAnyH_take (i := 7) (v := ?v7_80) rfl (by kernel_rfl) (by kernel_rfl) (by kernel_rfl) (fun _ _ _ h => h) (Or.inl ⟨by rfl, ?hy7_80⟩) (by assumption) ?rest7_80
      case hy7_80 => (intro w hSw; (try dsimp only at hSw); go_simp; try (with_reducible rfl))
      simp only [Act.put, List.getElem_toArray, List.getElem_cons_zero, List.getElem_cons_succ, List.setIfInBounds_toArray, List.set_cons_zero, List.set_cons_succ]
      refine wpAnyH_take (i := 9) (v := ?v9_81) rfl (by kernel_rfl) (by kernel_rfl) (by kernel_rfl) (fun _ _ _ h => h) (Or.inl ⟨by rfl, ?hy9_81⟩) (by assumption) ?rest9_81
      case hy9_81 => (intro w hSw; (try dsimp only at hSw); go_simp; try (with_reducible rfl))
      simp only [Act.put, List.getElem_toArray, List.getElem_cons_zero, List.getElem_cons_succ, List.setIfInBounds_toArray, List.set_cons_zero, List.set_cons_succ]
      refine wpAnyH_take (i := 10) (v := ?v10_82) rfl (by kernel_rfl) (by kernel_rfl) (by kernel_rfl) (fun _ _ _ h => h) (Or.inl ⟨by rfl, ?hy10_82⟩) (by assumption) ?rest10_82
      case hy10_82 => (intro w hSw; (try dsimp only at hSw); go_simp; try (with_reducible rfl))
      simp only [Act.put, List.getElem_toArray, List.getElem_cons_zero, List.getElem_cons_succ, List.setIfInBounds_toArray, List.set_cons_zero, List.set_cons_succ]
      refine wpAnyH_ready (rs := [8]) (by kernel_rfl) (by simp) ?_
      refine (AllReadyH.cons rfl (fun K hK => ?_) AllReadyH.nil)
      go_simp
      refine (SM _ hS.2.2.2.2.2.2.2.2.2.2.2.2.2.2.out).mono ?_
      rintro e x8 ⟨rfl, hb1⟩
      have hI8 := hS.2.2.2.2.2.2.2.2.2.2.2.2.2.2.out.on hb1
      clear hb1
      go_wp2_with fail
      refine hK.out _ _ ?_ (fun hS' => ?_)
      · exact inb2_s hI8
      clear hK K
      try simp only [Act.put, List.getElem_toArray, List.getElem_cons_zero, List.getElem_cons_succ, List.setIfInBounds_toArray, List.set_cons_zero, List.set_cons_succ]
      replace hS := hS'
      clear hS'
      refine wpAnyH_ready (rs := [11]) (by kernel_rfl) (by simp) ?_
      refine (AllReadyH.cons rfl (fun K hK => ?_) AllReadyH.nil)
      go_simp
      refine (AL _ hS.2.2.2.2.2.2.2.2.2.2.2.2.2.2.out).mono ?_
      rintro e x11 ⟨rfl, hb1⟩
      have hI11 := hS.2.2.2.2.2.2.2.2.2.2.2.2.2.2.out.on hb1
      clear hb1
      go_wp2_with fail
      refine hK.out _ _ ?_ (fun hS' => ?_)
      · exact inb2_s hI11
      clear hK K
      try simp only [Act.put, List.getElem_toArray, List.getElem_cons_zero, List.getElem_cons_succ, List.setIfInBounds_toArray, List.set_cons_zero, List.set_cons_succ]
      replace hS := hS'
      clear hS'
      refine wpAnyH_take (i := 12) (v := ?v12_83) rfl (by kernel_rfl) (by kernel_rfl) (by kernel_rfl) (fun _ _ _ h => h) (Or.inl ⟨by rfl, ?hy12_83⟩) (by assumption) ?rest12_83
      case hy12_83 => (intro w hSw; (try dsimp only at hSw); go_simp; try (with_reducible rfl))
      simp only [Act.put, List.getElem_toArray, List.getElem_cons_zero, List.getElem_cons_succ, List.setIfInBounds_toArray, List.set_cons_zero, List.set_cons_succ]
      refine wpAnyH_take (i := 13) (v := ?v13_84) rfl (by kernel_rfl) (by kernel_rfl) (by kernel_rfl) (fun _ _ _ h => h) (Or.inl ⟨by rfl, ?hy13_84⟩) (by assumption) ?rest13_84
      case hy13_84 => (intro w hSw; (try dsimp only at hSw); go_simp; try (with_reducible rfl))
      simp only [Act.put, List.getElem_toArray, List.getElem_cons_zero, List.getElem_cons_succ, List.setIfInBounds_toArray, List.set_cons_zero, List.set_cons_succ]
      refine wpAnyH_take (i := 14) (v := ?v14_85) rfl (by kernel_rfl) (by kernel_rfl) (by kernel_rfl) (fun _ _ _ h => h) (Or.inl ⟨by rfl, ?hy14_85⟩) (by assumption) ?rest14_85
      case hy14_85 => (intro w hSw; (try dsimp only at hSw); go_simp; try (with_reducible rfl))
      simp only [Act.put, List.getElem_toArray, List.getElem_cons_zero, List.getElem_cons_succ, List.setIfInBounds_toArray, List.set_cons_zero, List.set_cons_succ]
      refine wpAnyH_take (i := 15) (v := ?v15_86) rfl (by kernel_rfl) (by kernel_rfl) (by kernel_rfl) (fun _ _ _ h => h) (Or.inl ⟨by rfl, ?hy15_86⟩) (by assumption) ?rest15_86
      case hy15_86 => (intro w hSw; (try dsimp only at hSw); go_simp; try (with_reducible rfl))
      simp only [Act.put, List.getElem_toArray, List.getElem_cons_zero, List.getElem_cons_succ, List.setIfInBounds_toArray, List.set_cons_zero, List.set_cons_succ]
      refine wpAnyH_take (i := 16) (v := ?v16_87) rfl (by kernel_rfl) (by kernel_rfl) (by kernel_rfl) (fun _ _ _ h => h) (Or.inl ⟨by rfl, ?hy16_87⟩) (by assumption) ?rest16_87
      case hy16_87 => (intro w hSw; (try dsimp only at hSw); go_simp; try (with_reducible rfl))
      simp only [Act.put, List.getElem_toArray, List.getElem_cons_zero, List.getElem_cons_succ, List.setIfInBounds_toArray, List.set_cons_zero, List.set_cons_succ]
      refine wpAnyH_take (i := 18) (v := ?v18_88) rfl (by kernel_rfl) (by kernel_rfl) (by kernel_rfl) (fun _ _ _ h => h) (Or.inl ⟨by rfl, ?hy18_88⟩) (by assumption) ?rest18_88
      case hy18_88 => (intro w hSw; (try dsimp only at hSw); go_simp; try (with_reducible rfl))
      simp only [Act.put, List.getElem_toArray, List.getElem_cons_zero, List.getElem_cons_succ, List.setIfInBounds_toArray, List.set_cons_zero, List.set_cons_succ]
      refine wpAnyH_take (i := 20) (v := ?v20_89) rfl (by kernel_rfl) (by kernel_rfl) (by kernel_rfl) (fun _ _ _ h => h) (Or.inl ⟨by rfl, ?hy20_89⟩) (by assumption) ?rest20_89
      case hy20_89 => (intro w hSw; (try dsimp only at hSw); go_simp; try (with_reducible rfl))
      simp only [Act.put, List.getElem_toArray, List.getElem_cons_zero, List.getElem_cons_succ, List.setIfInBounds_toArray, List.set_cons_zero, List.set_cons_succ]
      refine wpAnyH_ready (rs := [17]) (by kernel_rfl) (by simp) ?_
      refine (AllReadyH.cons rfl (fun K hK => ?_) AllReadyH.nil)
      go_simp
      refine (AK _).mono ?_
      rintro e x17 ⟨rfl, hb1⟩
      have hI17 := hS.2.2.2.2.2.2.2.2.2.2.2.2.2.2.out.on hb1
      clear hb1
      go_wp2_with fail
      refine hK.out _ _ ?_ (fun hS' => ?_)
      · exact inb2_s hI17
      clear hK K
      try simp only [Act.put, List.getElem_toArray, List.getElem_cons_zero, List.getElem_cons_succ, List.setIfInBounds_toArray, List.set_cons_zero, List.set_cons_succ]
      replace hS := hS'
      clear hS'
      refine wpAnyH_ready (rs := [19]) (by kernel_rfl) (by simp) ?_
      refine (AllReadyH.cons rfl (fun K hK => ?_) AllReadyH.nil)
      go_simp
      refine (CA _).mono ?_
      rintro e x19 ⟨rfl, hb1⟩
      have hI19 := hS.2.2.2.2.2.2.2.2.2.2.2.2.2.2.out.on hb1
      clear hb1
      go_wp2_with fail
      refine hK.out _ _ ?_ (fun hS' => ?_)
      · exact inb2_s hI19
      clear hK K
      try simp only [Act.put, List.getElem_toArray, List.getElem_cons_zero, List.getElem_cons_succ, List.setIfInBounds_toArray, List.set_cons_zero, List.set_cons_succ]
      replace hS := hS'
      clear hS'
      refine wpAnyH_ready (rs := [21]) (by kernel_rfl) (by simp) ?_
      refine (AllReadyH.cons rfl (fun K hK => ?_) AllReadyH.nil)
      go_simp
      refine (CB _).mono ?_
      rintro e x21 ⟨rfl, hb1⟩
      have hI21 := hS.2.2.2.2.2.2.2.2.2.2.2.2.2.2.out.on hb1
      clear hb1
      go_wp2_with fail
      refine hK.out _ _ ?_ (fun hS' => ?_)
      · exact inb2_s hI21
      clear hK K
      try simp only [Act.put, List.getElem_toArray, List.getElem_cons_zero, List.getElem_cons_succ, List.setIfInBounds_toArray, List.set_cons_zero, List.set_cons_succ]
      replace hS := hS'
      clear hS'
      refine wpAnyH_ready (rs := [22]) (by kernel_rfl) (by simp) ?_
      refine (AllReadyH.cons rfl (fun K hK => ?_) AllReadyH.nil)
      go_simp
      refine (AC _).mono ?_
      rintro e x22 ⟨rfl, hb1⟩
      have hI22 := hS.2.2.2.2.2.2.2.2.2.2.2.2.2.2.out.on hb1
      clear hb1
      go_wp2_with fail
      refine hK.out _ _ ?_ (fun hS' => ?_)
      · exact inb2_s hI22
      clear hK K
      try simp only [Act.put, List.getElem_toArray, List.getElem_cons_zero, List.getElem_cons_succ, List.setIfInBounds_toArray, List.set_cons_zero, List.set_cons_succ]
      replace hS := hS'
      clear hS'
      refine wpAnyH_take (i := 23) (v := ?v23_90) rfl (by kernel_rfl) (by kernel_rfl) (by kernel_rfl) (fun _ _ _ h => h) (Or.inl ⟨by rfl, ?hy23_90⟩) (by assumption) ?rest23_90
      case hy23_90 => (intro w hSw; (try dsimp only at hSw); go_simp; try (with_reducible rfl))
      simp only [Act.put, List.getElem_toArray, List.getElem_cons_zero, List.getElem_cons_succ, List.setIfInBounds_toArray, List.set_cons_zero, List.set_cons_succ]
      refine wpAnyH_take (i := 24) (v := ?v24_91) rfl (by kernel_rfl) (by kernel_rfl) (by kernel_rfl) (fun _ _ _ h => h) (Or.inl ⟨by rfl, ?hy24_91⟩) (by assumption) ?rest24_91
      case hy24_91 => (intro w hSw; (try dsimp only at hSw); go_simp; try (with_reducible rfl))
      simp only [Act.put, List.getElem_toArray, List.getElem_cons_zero, List.getElem_cons_succ, List.setIfInBounds_toArray, List.set_cons_zero, List.set_cons_succ]
      refine wpAnyH_take (i := 25) (v := ?v25_92) rfl (by kernel_rfl) (by kernel_rfl) (by kernel_rfl) (fun _ _ _ h => h) (Or.inl ⟨by rfl, ?hy25_92⟩) (by assumption) ?rest25_92
      case hy25_92 => (intro w hSw; (try dsimp only at hSw); go_simp; try (with_reducible rfl))
      simp only [Act.put, List.getElem_toArray, List.getElem_cons_zero, List.getElem_cons_succ, List.setIfInBounds_toArray, List.set_cons_zero, List.set_cons_succ]
      refine wpAnyH_ready (rs := [26]) (by kernel_rfl) (by simp) ?_
      refine (AllReadyH.cons rfl (fun K hK => ?_) AllReadyH.nil)
      go_simp
      refine (AW _).mono ?_
      rintro e x26 ⟨rfl, hb1⟩
      have hI26 := hS.2.2.2.2.2.2.2.2.2.2.2.2.2.2.out.on hb1
      clear hb1
      go_wp2_with fail
      refine hK.out _ _ ?_ (fun hS' => ?_)
      · exact inb2_s hI26
      clear hK K
      try simp only [Act.put, List.getElem_toArray, List.getElem_cons_zero, List.getElem_cons_succ, List.setIfInBounds_toArray, List.set_cons_zero, List.set_cons_succ]
      replace hS := hS'
      clear hS'
      refine wpAnyH_take (i := 27) (v := ?v27_93) rfl (by kernel_rfl) (by kernel_rfl) (by kernel_rfl) (fun _ _ _ h => h) (Or.inl ⟨by rfl, ?hy27_93⟩) (by assumption) ?rest27_93
      case hy27_93 => (intro w hSw; (try dsimp only at hSw); go_simp; try (with_reducible rfl))
      simp only [Act.put, List.getElem_toArray, List.getElem_cons_zero, List.getElem_cons_succ, List.setIfInBounds_toArray, List.set_cons_zero, List.set_cons_succ]
      refine wpAnyH_take (i := 28) (v := ?v28_94) rfl (by kernel_rfl) (by kernel_rfl) (by kernel_rfl) (fun _ _ _ h => h) (Or.inl ⟨by rfl, ?hy28_94⟩) (by assumption) ?rest28_94
      case hy28_94 => (intro w hSw; (try dsimp only at hSw); go_simp; try (with_reducible rfl))
      simp only [Act.put, List.getElem_toArray, List.getElem_cons_zero, List.getElem_cons_succ, List.setIfInBounds_toArray, List.set_cons_zero, List.set_cons_succ]
      refine wpAnyH_done (by kernel_rfl) ?_ _
      go_wp2
      go_ret
      exact ⟨rfl, hS.2.2.2.2.2.2.2.2.2.2.2.2.2.2.out.below⟩

theorem own : ownKnob Try.prog.godebug = none := by kernel_rfl
theorem laidOut : laidOutB Try.prog = true := by kernel_rfl

set_option maxRecDepth 100000 in
theorem lifted (os : Os) (started : os.Started) (H : Type) (enc : TypeId × Value → H) :
    ReturnsInHanded {} Try.checked os 3 .any (Rows.recPartsSpec.pre6 enc Try.prog Try.f3 Rows.recPartsRow.domain false) (Rows.recPartsSpec.post enc Try.prog Try.f3 false true false false) := by
  refine returnsInHanded_of_change_sized (C := Try.checked) own started (by kernel_rfl) Try.func3
    (ChangeSpec.witness6 (enc := enc) (C := Try.checked) false ⟨#[], #[.agg #[.int .i64 0, .int .i64 0, .int .i64 0, .int .i64 0, .int .i64 0, .bool false, .slice none 0 0], .agg #[.int .i64 0, .int .i64 0, .int .i64 0, .int .i64 0, .int .i64 0, .bool false, .slice none 0 0]], []⟩ 8 (by kernel_rfl) (by kernel_rfl) (by kernel_rfl) (by kernel_rfl)) ?_
  intro W base args ds gs before hval0 hW hcnd hsz0 _
  have hz : ∀ (j : Nat) t d, Try.f3.params.toList[j]? = some t → ds[j]? = some d → ∀ n ∈ d.weights Try.prog t, n ≤ reachBytes := fun j t d ht hd n hn => by
    have := List.all_eq_true.1 hsz0 n (DataW.weights_mem_each (j := j) (t := t) (d := d) (by rw [List.getElem?_append_left (List.getElem?_eq_some_iff.1 ht).1]; exact ht) (by rw [List.getElem?_append_left (List.getElem?_eq_some_iff.1 hd).1]; exact hd) n hn)
    simpa using this
  have hval : ∀ (j : Nat) t v, Try.f3.params[j]? = some t → args[j]? = some v → Value.okWide Try.prog W .any base t v := hval0
  have hW' := hW
  obtain ⟨p, q, hA0, hV, rfl, hfz, hnd⟩ := hW
  have hA : DataW.TrodAll enc Try.prog W 0 (fun _ => true) true Try.f3.params.toList args.toList ds p := hA0
  rw [Try.params3] at hA hval hz
  obtain ⟨v0, vs0, d0, ds0, p0x, q0, hargs, rfl, rfl, h0, r0⟩ := trodAll_cons hA
  obtain ⟨v1, vs1, d1, ds1, p1x, q1, rfl, rfl, rfl, h1, r1⟩ := trodAll_cons r0
  obtain ⟨rfl, rfl, rfl⟩ := trodAll_nil r1
  obtain rfl : args = #[v0, v1] := by cases args; simp_all
  obtain ⟨rfl, rfl⟩ := trodVars_none hV
  obtain ⟨cs0, rfl, _⟩ := okWide_struct Try.underlying26 (hval 0 26 v0 rfl rfl)
  have k0 := h0
  have lt0 : ∀ x ∈ p0x, x.block < W.heap.size := by obtain ⟨m, hm⟩ := k0; exact DataW.trod_lt m _ _ _ hm
  obtain ⟨a0, rfl, w0⟩ : ∃ a : Rc, cs0 = #[.int .i64 a.id, .int .i64 a.inc, .int .i64 a.st, .int .i64 a.lo, .int .i64 a.hi, .bool a.cut, .slice a.p a.bag.length a.cap] ∧ ROk W a := by
    obtain ⟨fuel, hf⟩ := h0
    obtain ⟨a, hcs, h1⟩ := opensZ_rc _ _ _ hf (hz 0 26 d0 rfl rfl)
    exact ⟨a, by cases cs0; simpa [Value.cells, Rc.cells] using hcs, h1⟩
  obtain ⟨cs1, rfl, _⟩ := okWide_struct Try.underlying26 (hval 1 26 v1 rfl rfl)
  have k1 := h1
  have lt1 : ∀ x ∈ p1x, x.block < W.heap.size := by obtain ⟨m, hm⟩ := k1; exact DataW.trod_lt m _ _ _ hm
  obtain ⟨a1, rfl, w1⟩ : ∃ a : Rc, cs1 = #[.int .i64 a.id, .int .i64 a.inc, .int .i64 a.st, .int .i64 a.lo, .int .i64 a.hi, .bool a.cut, .slice a.p a.bag.length a.cap] ∧ ROk W a := by
    obtain ⟨fuel, hf⟩ := h1
    obtain ⟨a, hcs, h1⟩ := opensZ_rc _ _ _ hf (hz 1 26 d1 rfl rfl)
    exact ⟨a, by cases cs1; simpa [Value.cells, Rc.cells] using hcs, h1⟩
  clear hA0 hval0
  refine (walk a0 a1 W w0 w1).mono fun e W' ⟨he, bel⟩ => ?_
  subst he
  exact ⟨_, rfl, _, _, _, [], _, [], hW', trodAll_mk1 (shut_bool Try.underlying4 _), (trodAll_cons_mk (Below.trod laidOut (by kernel_rfl) (of_decide_eq_true (by kernel_rfl)) k0 bel lt0) (trodAll_cons_mk (Below.trod laidOut (by kernel_rfl) (of_decide_eq_true (by kernel_rfl)) k1 bel lt1) trodAll_mk0)), rfl, bel.frame _, fun h => by cases h⟩

theorem over : Rows.recPartsRow.holds Try.pinned (OpenSpec.ofChange Rows.recPartsSpec) :=
  OpenClaim.holds_of_wide 3 Try.f3 rfl rfl rfl rfl rfl rfl rfl ⟨rfl, rfl, rfl, rfl, rfl⟩ rfl rfl rfl rfl rfl (by kernel_rfl) Try.func3 (by kernel_rfl)
    (of_decide_eq_true (by kernel_rfl)) (by unfold Func.isWrapper; first | (rw [if_pos (by decide +kernel)]; kernel_rfl) | (rw [if_neg (by decide +kernel)]; exact ⟨rfl, rfl⟩))
    (fun os started H enc _ => lifted os started H enc)

/-- The given statement. -/
theorem proved : Rows.RecPartsSaid := over
#print axioms proved
end Go.Proofs.Ytecdagmeobiahab.recParts
