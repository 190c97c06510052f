/-
  Proved: the statement on layer 8's loads (RecWeighs) returns true at every input, and leaves its arguments as they were. No condition.
-/
import Derived.Test.YtecdagmeobiahabRows
import Derived.Test.YtecdagmeobiahabLaw08
import Derived.Test.YtecdagmeobiahabRecW
import Derived.Test.YtecdagmeobiahabRecX
import Derived.ShutString
import Derived.ChangeOld
namespace Go.Proofs.Ytecdagmeobiahab.recWeighs
open Go.ChangeShapes Go.WideShapes Go.ChangeAt Go.RowKit
open Go.ChangeMaps (open_string shut_string)
set_option linter.unusedVariables false
set_option synthInstance.maxSize 2000
set_option linter.unusedSimpArgs false

theorem weigh_zero (a b : Rc) : (weighK (rk a) (rk b) == 0) = (decide (a.cut = b.cut) && decide (a.lo = b.lo) && decide (a.hi = b.hi) && decide (kys a.bag = kys b.bag)) := by
  rw [Bool.eq_iff_iff]
  simp only [beq_iff_eq, weighK, load_ord.eq, loadR, rk, Prod.mk.injEq, Bool.and_eq_true, decide_eq_true_eq]
  have hu : uncR a.cut = uncR b.cut ↔ a.cut = b.cut := by cases a.cut <;> cases b.cut <;> simp [uncR]
  rw [hu]
  constructor <;> intro h <;> simp_all [RK.lo, RK.hi, RK.bag]

set_option maxHeartbeats 8000000 in
set_option maxRecDepth 10000 in
theorem walk (a b : Rc) (w : World) (ha : ROk w a) (hb : ROk w b) :
    Calls Try.prog 4 #[.agg #[.int .i64 a.id, .int .i64 a.inc, .int .i64 a.st, .int .i64 a.lo, .int .i64 a.hi, .bool a.cut, .slice a.p a.bag.length a.cap], .agg #[.int .i64 b.id, .int .i64 b.inc, .int .i64 b.st, .int .i64 b.lo, .int .i64 b.hi, .bool b.cut, .slice b.p b.bag.length b.cap]] w fun e w' => e = .returned (.bool true) ∧ Below w.heap.size w w' := by
  have AW := fun X => awake8_any X
  have HI := Hid.mk' (InB2.start w a b)
  have W01 := fun X (h : InB2 w a b X) => rweigh_any a b X (ha.below h.below) (hb.below h.below)
  have W10 := fun X (h : InB2 w a b X) => rweigh_any b a X (hb.below h.below) (ha.below h.below)
  have L01 := fun X (h : InB2 w a b X) => lweigh_any a b X (ha.below h.below) (hb.below h.below)
  have S01 := fun X (h : InB2 w a b X) => same_any a.p b.p a.cap b.cap a.bag b.bag X (ha.fin.below h.below) (hb.fin.below h.below) (Nat.le_trans ha.len ha.cap) (Nat.le_trans hb.len hb.cap)
  have F := lfew_any (some ⟨w.heap.size + 2, 0, none⟩) 2 [a, b] (((w.alloc (.cells #[.int .i64 a.id, .int .i64 a.inc, .int .i64 a.st, .int .i64 a.lo, .int .i64 a.hi, .bool a.cut, .slice a.p a.bag.length a.cap] 26)).alloc (.cells #[.int .i64 b.id, .int .i64 b.inc, .int .i64 b.st, .int .i64 b.lo, .int .i64 b.hi, .bool b.cut, .slice b.p b.bag.length b.cap] 26)).alloc (.cells #[.int .i64 a.id, .int .i64 a.inc, .int .i64 a.st, .int .i64 a.lo, .int .i64 a.hi, .bool a.cut, .slice a.p a.bag.length a.cap, .int .i64 b.id, .int .i64 b.inc, .int .i64 b.st, .int .i64 b.lo, .int .i64 b.hi, .bool b.cut, .slice b.p b.bag.length b.cap] 26)) (by
    have hb2 := (Below.refl ((w.alloc (.cells #[.int .i64 a.id, .int .i64 a.inc, .int .i64 a.st, .int .i64 a.lo, .int .i64 a.hi, .bool a.cut, .slice a.p a.bag.length a.cap] 26)).alloc (.cells #[.int .i64 b.id, .int .i64 b.inc, .int .i64 b.st, .int .i64 b.lo, .int .i64 b.hi, .bool b.cut, .slice b.p b.bag.length b.cap] 26)).heap.size ((w.alloc (.cells #[.int .i64 a.id, .int .i64 a.inc, .int .i64 a.st, .int .i64 a.lo, .int .i64 a.hi, .bool a.cut, .slice a.p a.bag.length a.cap] 26)).alloc (.cells #[.int .i64 b.id, .int .i64 b.inc, .int .i64 b.st, .int .i64 b.lo, .int .i64 b.hi, .bool b.cut, .slice b.p b.bag.length b.cap] 26))).alloc (Nat.le_refl _) (.cells #[.int .i64 a.id, .int .i64 a.inc, .int .i64 a.st, .int .i64 a.lo, .int .i64 a.hi, .bool a.cut, .slice a.p a.bag.length a.cap, .int .i64 b.id, .int .i64 b.inc, .int .i64 b.st, .int .i64 b.lo, .int .i64 b.hi, .bool b.cut, .slice b.p b.bag.length b.cap] 26)
    have hbb := HI.out.below.trans (hb2.mono HI.out.below.size)
    have hrow := heap_alloc_new ((w.alloc (.cells #[.int .i64 a.id, .int .i64 a.inc, .int .i64 a.st, .int .i64 a.lo, .int .i64 a.hi, .bool a.cut, .slice a.p a.bag.length a.cap] 26)).alloc (.cells #[.int .i64 b.id, .int .i64 b.inc, .int .i64 b.st, .int .i64 b.lo, .int .i64 b.hi, .bool b.cut, .slice b.p b.bag.length b.cap] 26)) (.cells #[.int .i64 a.id, .int .i64 a.inc, .int .i64 a.st, .int .i64 a.lo, .int .i64 a.hi, .bool a.cut, .slice a.p a.bag.length a.cap, .int .i64 b.id, .int .i64 b.inc, .int .i64 b.st, .int .i64 b.lo, .int .i64 b.hi, .bool b.cut, .slice b.p b.bag.length b.cap] 26)
    rw [show ((w.alloc (.cells #[.int .i64 a.id, .int .i64 a.inc, .int .i64 a.st, .int .i64 a.lo, .int .i64 a.hi, .bool a.cut, .slice a.p a.bag.length a.cap] 26)).alloc (.cells #[.int .i64 b.id, .int .i64 b.inc, .int .i64 b.st, .int .i64 b.lo, .int .i64 b.hi, .bool b.cut, .slice b.p b.bag.length b.cap] 26)).heap.size = w.heap.size + 2 by simp] at hrow
    exact RIn.of_row (l := [a, b]) hrow (by intro f hf; simp at hf; rcases hf with rfl | rfl; exact ha.below hbb; exact hb.below hbb)) (by simp [maxLen])
  have HI1 := Hid.mk' (HI.out.on ((Below.refl _ _).alloc (Nat.le_refl _) (.cells #[.int .i64 a.id, .int .i64 a.inc, .int .i64 a.st, .int .i64 a.lo, .int .i64 a.hi, .bool a.cut, .slice a.p a.bag.length a.cap, .int .i64 b.id, .int .i64 b.inc, .int .i64 b.st, .int .i64 b.lo, .int .i64 b.hi, .bool b.cut, .slice b.p b.bag.length b.cap] 26)))
  have hrg := load_ord.rng (loadR (rk a)) (loadR (rk b))
  have hrg' : weighK (rk a) (rk b) = -1 ∨ weighK (rk a) (rk b) = 0 ∨ weighK (rk a) (rk b) = 1 := hrg
  have han : weighK (rk b) (rk a) = - weighK (rk a) (rk b) := load_ord.anti _ _
  have hz := weigh_zero a b
  rw [han] at W10
  clear hrg han
  generalize weighK (rk a) (rk b) = c at W01 W10 L01 hrg' hz
  have q5 : (a.cut == b.cut) = decide (a.cut = b.cut) := by cases a.cut <;> cases b.cut <;> rfl
  have q3 : (a.lo == b.lo) = decide (a.lo = b.lo) := rfl
  have q4 : (a.hi == b.hi) = decide (a.hi = b.hi) := rfl
  generalize decide (a.cut = b.cut) = b5 at hz q5
  generalize decide (a.lo = b.lo) = b3 at hz q3
  generalize decide (a.hi = b.hi) = b4 at hz q4
  generalize decide (kys a.bag = kys b.bag) = b6 at hz S01
  have HZ := Hid.mk' hz
  have HR := Hid.mk' hrg'
  clear hz hrg' HI
  go_enter Try.func4, Try.ntmps4
  go_wp2_with fail
  refine F.mono ?_
  rintro e w1 ⟨rfl, rfl⟩
  clear F
  cases fewR (rks [a, b])
  · go_wp2_with fail
    refine (AW _).mono ?_
    rintro e w2 ⟨rfl, hb2⟩
    have HB2 := Hid.mk' (HI1.out.on hb2).below
    clear hb2
    go_wp2_with fail
    go_ret
    exact ⟨rfl, HB2.out⟩
  go_wp2_with fail
  refine (W01 _ HI1.out).mono ?_
  rintro e w2 ⟨rfl, hb2⟩
  have HI2 := Hid.mk' (HI1.out.on hb2)
  clear HI1 hb2 W01
  obtain ⟨c0, c1, c2, c3, c4, c5, c6⟩ := box_cells HI2.out.ba
  obtain ⟨d0, d1, d2, d3, d4, d5, d6⟩ := box_cells HI2.out.bb
  cases b5
  case false =>
    have HV := Hid.mk' (show (c == 0) = false by rw [HZ.out]; simp)
    go_wp2_with fail
    refine (L01 _ HI2.out).mono ?_
    rintro e w4 ⟨rfl, hb4⟩
    have HI4 := Hid.mk' (HI2.out.on hb4)
    clear hb4 c0 c1 c2 c3 c4 c5 c6 d0 d1 d2 d3 d4 d5 d6
    obtain ⟨c0, c1, c2, c3, c4, c5, c6⟩ := box_cells HI4.out.ba
    obtain ⟨d0, d1, d2, d3, d4, d5, d6⟩ := box_cells HI4.out.bb
    go_wp2_with fail
    refine (W10 _ HI4.out).mono ?_
    rintro e w5 ⟨rfl, hb5⟩
    have HI5 := Hid.mk' (HI4.out.on hb5)
    clear hb5 c0 c1 c2 c3 c4 c5 c6 d0 d1 d2 d3 d4 d5 d6
    have hv := HV.out
    have hwn : IntKind.i64.wrap (-c) = -c := by rw [IntKind.wrap_i64]; rcases HR.out with h | h | h <;> omega
    go_wp2_with fail
    refine (AW _).mono ?_
    rintro e w6 ⟨rfl, hb6⟩
    have HB6 := Hid.mk' (HI5.out.on hb6).below
    clear hb6
    go_wp2_with fail
    go_ret
    exact ⟨rfl, HB6.out⟩
  cases b3
  case false =>
    have HV := Hid.mk' (show (c == 0) = false by rw [HZ.out]; simp)
    go_wp2_with fail
    refine (L01 _ HI2.out).mono ?_
    rintro e w4 ⟨rfl, hb4⟩
    have HI4 := Hid.mk' (HI2.out.on hb4)
    clear hb4 c0 c1 c2 c3 c4 c5 c6 d0 d1 d2 d3 d4 d5 d6
    obtain ⟨c0, c1, c2, c3, c4, c5, c6⟩ := box_cells HI4.out.ba
    obtain ⟨d0, d1, d2, d3, d4, d5, d6⟩ := box_cells HI4.out.bb
    go_wp2_with fail
    refine (W10 _ HI4.out).mono ?_
    rintro e w5 ⟨rfl, hb5⟩
    have HI5 := Hid.mk' (HI4.out.on hb5)
    clear hb5 c0 c1 c2 c3 c4 c5 c6 d0 d1 d2 d3 d4 d5 d6
    have hv := HV.out
    have hwn : IntKind.i64.wrap (-c) = -c := by rw [IntKind.wrap_i64]; rcases HR.out with h | h | h <;> omega
    go_wp2_with fail
    refine (AW _).mono ?_
    rintro e w6 ⟨rfl, hb6⟩
    have HB6 := Hid.mk' (HI5.out.on hb6).below
    clear hb6
    go_wp2_with fail
    go_ret
    exact ⟨rfl, HB6.out⟩
  cases b4
  case false =>
    have HV := Hid.mk' (show (c == 0) = false by rw [HZ.out]; simp)
    go_wp2_with fail
    refine (L01 _ HI2.out).mono ?_
    rintro e w4 ⟨rfl, hb4⟩
    have HI4 := Hid.mk' (HI2.out.on hb4)
    clear hb4 c0 c1 c2 c3 c4 c5 c6 d0 d1 d2 d3 d4 d5 d6
    obtain ⟨c0, c1, c2, c3, c4, c5, c6⟩ := box_cells HI4.out.ba
    obtain ⟨d0, d1, d2, d3, d4, d5, d6⟩ := box_cells HI4.out.bb
    go_wp2_with fail
    refine (W10 _ HI4.out).mono ?_
    rintro e w5 ⟨rfl, hb5⟩
    have HI5 := Hid.mk' (HI4.out.on hb5)
    clear hb5 c0 c1 c2 c3 c4 c5 c6 d0 d1 d2 d3 d4 d5 d6
    have hv := HV.out
    have hwn : IntKind.i64.wrap (-c) = -c := by rw [IntKind.wrap_i64]; rcases HR.out with h | h | h <;> omega
    go_wp2_with fail
    refine (AW _).mono ?_
    rintro e w6 ⟨rfl, hb6⟩
    have HB6 := Hid.mk' (HI5.out.on hb6).below
    clear hb6
    go_wp2_with fail
    go_ret
    exact ⟨rfl, HB6.out⟩
  go_wp2_with fail
  refine (S01 _ HI2.out).mono ?_
  rintro e w3 ⟨rfl, hb3⟩
  have HI3 := Hid.mk' (HI2.out.on hb3)
  have HV := Hid.mk' (show (c == 0) = b6 by rw [HZ.out]; simp)
  clear HI2 hb3 c0 c1 c2 c3 c4 c5 c6 d0 d1 d2 d3 d4 d5 d6
  obtain ⟨c0, c1, c2, c3, c4, c5, c6⟩ := box_cells HI3.out.ba
  obtain ⟨d0, d1, d2, d3, d4, d5, d6⟩ := box_cells HI3.out.bb
  have HI2 := HI3
  go_wp2_with fail
  refine (L01 _ HI2.out).mono ?_
  rintro e w4 ⟨rfl, hb4⟩
  have HI4 := Hid.mk' (HI2.out.on hb4)
  clear hb4 c0 c1 c2 c3 c4 c5 c6 d0 d1 d2 d3 d4 d5 d6
  obtain ⟨c0, c1, c2, c3, c4, c5, c6⟩ := box_cells HI4.out.ba
  obtain ⟨d0, d1, d2, d3, d4, d5, d6⟩ := box_cells HI4.out.bb
  go_wp2_with fail
  refine (W10 _ HI4.out).mono ?_
  rintro e w5 ⟨rfl, hb5⟩
  have HI5 := Hid.mk' (HI4.out.on hb5)
  clear hb5 c0 c1 c2 c3 c4 c5 c6 d0 d1 d2 d3 d4 d5 d6
  have hv := HV.out
  have hwn : IntKind.i64.wrap (-c) = -c := by rw [IntKind.wrap_i64]; rcases HR.out with h | h | h <;> omega
  go_wp2_with fail
  refine (AW _).mono ?_
  rintro e w6 ⟨rfl, hb6⟩
  have HB6 := Hid.mk' (HI5.out.on hb6).below
  clear hb6
  go_wp2_with fail
  go_ret
  exact ⟨rfl, HB6.out⟩

theorem own : ownKnob Try.prog.godebug = none := by kernel_rfl
theorem laidOut : laidOutB Try.prog = true := by kernel_rfl

set_option maxRecDepth 100000 in
theorem lifted (os : Os) (started : os.Started) (H : Type) (enc : TypeId × Value → H) :
    ReturnsInHanded {} Try.checked os 4 .any (Rows.recWeighsSpec.pre6 enc Try.prog Try.f4 Rows.recWeighsRow.domain false) (Rows.recWeighsSpec.post enc Try.prog Try.f4 false true false false) := by
  refine returnsInHanded_of_change_sized (C := Try.checked) own started (by kernel_rfl) Try.func4
    (ChangeSpec.witness6 (enc := enc) (C := Try.checked) false ⟨#[], #[.agg #[.int .i64 0, .int .i64 0, .int .i64 0, .int .i64 0, .int .i64 0, .bool false, .slice none 0 0], .agg #[.int .i64 0, .int .i64 0, .int .i64 0, .int .i64 0, .int .i64 0, .bool false, .slice none 0 0]], []⟩ 8 (by kernel_rfl) (by kernel_rfl) (by kernel_rfl) (by kernel_rfl)) ?_
  intro W base args ds gs before hval0 hW hcnd hsz0 _
  have hz : ∀ (j : Nat) t d, Try.f4.params.toList[j]? = some t → ds[j]? = some d → ∀ n ∈ d.weights Try.prog t, n ≤ reachBytes := fun j t d ht hd n hn => by
    have := List.all_eq_true.1 hsz0 n (DataW.weights_mem_each (j := j) (t := t) (d := d) (by rw [List.getElem?_append_left (List.getElem?_eq_some_iff.1 ht).1]; exact ht) (by rw [List.getElem?_append_left (List.getElem?_eq_some_iff.1 hd).1]; exact hd) n hn)
    simpa using this
  have hval : ∀ (j : Nat) t v, Try.f4.params[j]? = some t → args[j]? = some v → Value.okWide Try.prog W .any base t v := hval0
  have hW' := hW
  obtain ⟨p, q, hA0, hV, rfl, hfz, hnd⟩ := hW
  have hA : DataW.TrodAll enc Try.prog W 0 (fun _ => true) true Try.f4.params.toList args.toList ds p := hA0
  rw [Try.params4] at hA hval hz
  obtain ⟨v0, vs0, d0, ds0, p0x, q0, hargs, rfl, rfl, h0, r0⟩ := trodAll_cons hA
  obtain ⟨v1, vs1, d1, ds1, p1x, q1, rfl, rfl, rfl, h1, r1⟩ := trodAll_cons r0
  obtain ⟨rfl, rfl, rfl⟩ := trodAll_nil r1
  obtain rfl : args = #[v0, v1] := by cases args; simp_all
  obtain ⟨rfl, rfl⟩ := trodVars_none hV
  obtain ⟨cs0, rfl, _⟩ := okWide_struct Try.underlying26 (hval 0 26 v0 rfl rfl)
  have k0 := h0
  have lt0 : ∀ x ∈ p0x, x.block < W.heap.size := by obtain ⟨m, hm⟩ := k0; exact DataW.trod_lt m _ _ _ hm
  obtain ⟨a0, rfl, w0⟩ : ∃ a : Rc, cs0 = #[.int .i64 a.id, .int .i64 a.inc, .int .i64 a.st, .int .i64 a.lo, .int .i64 a.hi, .bool a.cut, .slice a.p a.bag.length a.cap] ∧ ROk W a := by
    obtain ⟨fuel, hf⟩ := h0
    obtain ⟨a, hcs, h1⟩ := opensZ_rc _ _ _ hf (hz 0 26 d0 rfl rfl)
    exact ⟨a, by cases cs0; simpa [Value.cells, Rc.cells] using hcs, h1⟩
  obtain ⟨cs1, rfl, _⟩ := okWide_struct Try.underlying26 (hval 1 26 v1 rfl rfl)
  have k1 := h1
  have lt1 : ∀ x ∈ p1x, x.block < W.heap.size := by obtain ⟨m, hm⟩ := k1; exact DataW.trod_lt m _ _ _ hm
  obtain ⟨a1, rfl, w1⟩ : ∃ a : Rc, cs1 = #[.int .i64 a.id, .int .i64 a.inc, .int .i64 a.st, .int .i64 a.lo, .int .i64 a.hi, .bool a.cut, .slice a.p a.bag.length a.cap] ∧ ROk W a := by
    obtain ⟨fuel, hf⟩ := h1
    obtain ⟨a, hcs, h1⟩ := opensZ_rc _ _ _ hf (hz 1 26 d1 rfl rfl)
    exact ⟨a, by cases cs1; simpa [Value.cells, Rc.cells] using hcs, h1⟩
  clear hA0 hval0
  refine (walk a0 a1 W w0 w1).mono fun e W' ⟨he, bel⟩ => ?_
  subst he
  exact ⟨_, rfl, _, _, _, [], _, [], hW', trodAll_mk1 (shut_bool Try.underlying4 _), (trodAll_cons_mk (Below.trod laidOut (by kernel_rfl) (of_decide_eq_true (by kernel_rfl)) k0 bel lt0) (trodAll_cons_mk (Below.trod laidOut (by kernel_rfl) (of_decide_eq_true (by kernel_rfl)) k1 bel lt1) trodAll_mk0)), rfl, bel.frame _, fun h => by cases h⟩

theorem over : Rows.recWeighsRow.holds Try.pinned (OpenSpec.ofChange Rows.recWeighsSpec) :=
  OpenClaim.holds_of_wide 4 Try.f4 rfl rfl rfl rfl rfl rfl rfl ⟨rfl, rfl, rfl, rfl, rfl⟩ rfl rfl rfl rfl rfl (by kernel_rfl) Try.func4 (by kernel_rfl)
    (of_decide_eq_true (by kernel_rfl)) (by unfold Func.isWrapper; first | (rw [if_pos (by decide +kernel)]; kernel_rfl) | (rw [if_neg (by decide +kernel)]; exact ⟨rfl, rfl⟩))
    (fun os started H enc _ => lifted os started H enc)

/-- The given statement. -/
theorem proved : Rows.RecWeighsSaid := over
#print axioms proved
end Go.Proofs.Ytecdagmeobiahab.recWeighs
