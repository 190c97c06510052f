/-
  Proved: the statement on layer 6's order (BagChains) returns true at every input, and leaves its arguments as they were. No condition.
-/
import Derived.Test.YtecdagmeobiahaaRows
import Derived.Test.YtecdagmeobiahaaLaw06b
import Derived.ShutString
import Derived.ChangeOld
namespace Go.Proofs.Ytecdagmeobiahaa.bagChains
open Go.ChangeShapes Go.WideShapes Go.ChangeAt Go.RowKit
open Go.ChangeMaps (open_string shut_string)
set_option linter.unusedVariables false
set_option linter.unusedSimpArgs false

set_option maxHeartbeats 4000000 in
theorem walk (p0 : Option Addr) (c0 : Nat) (l0 : List Fd) (p1 : Option Addr) (c1 : Nat) (l1 : List Fd) (p2 : Option Addr) (c2 : Nat) (l2 : List Fd) (w : World) (hlc0 : l0.length ≤ c0) (hcm0 : c0 ≤ maxLen) (hp0 : p0 = none → c0 = 0) (hin0 : FIn w p0 l0) (hlc1 : l1.length ≤ c1) (hcm1 : c1 ≤ maxLen) (hp1 : p1 = none → c1 = 0) (hin1 : FIn w p1 l1) (hlc2 : l2.length ≤ c2) (hcm2 : c2 ≤ maxLen) (hp2 : p2 = none → c2 = 0) (hin2 : FIn w p2 l2) :
    Calls Try.prog 5 #[.slice p0 l0.length c0, .slice p1 l1.length c1, .slice p2 l2.length c2] w fun e w' => e = .returned (.bool true) ∧ Below w.heap.size w w' := by
  have n0 := Nat.le_trans hlc0 hcm0
  have n1 := Nat.le_trans hlc1 hcm1
  have n2 := Nat.le_trans hlc2 hcm2
  have F0 := few_any p0 c0 l0 w hin0 n0
  have F1 := few_any p1 c1 l1 w hin1 n1
  have F2 := few_any p2 c2 l2 w hin2 n2
  have AW := fun X => awake6_any X
  have C01 := fun X (h : Below w.heap.size w X) => compare_any p0 p1 c0 c1 l0 l1 X (hin0.below h) (hin1.below h) n0 n1
  have C12 := fun X (h : Below w.heap.size w X) => compare_any p1 p2 c1 c2 l1 l2 X (hin1.below h) (hin2.below h) n1 n2
  have C02 := fun X (h : Below w.heap.size w X) => compare_any p0 p2 c0 c2 l0 l2 X (hin0.below h) (hin2.below h) n0 n2
  have HC := Hid.mk' (cmpK_ord.chain (kys l0) (kys l1) (kys l2))
  generalize cmpK (kys l0) (kys l1) = x at C01 HC
  generalize cmpK (kys l1) (kys l2) = y at C12 HC
  generalize cmpK (kys l0) (kys l2) = z at C02 HC
  clear hlc0 hcm0 hp0 hin0 hlc1 hcm1 hp1 hin1 hlc2 hcm2 hp2 hin2 n0 n1 n2
  go_enter Try.func5, Try.ntmps5
  go_wp2_with fail
  refine F0.mono ?_
  rintro e w1 ⟨rfl, rfl⟩
  cases fewK (kys l0)
  · go_wp2_with (go_at_call 10; refine (AW _).mono ?_; rintro e w' ⟨rfl, hb⟩)
    go_ret
    exact ⟨rfl, hb⟩
  go_wp2_with fail
  refine F1.mono ?_
  rintro e w1 ⟨rfl, rfl⟩
  cases fewK (kys l1)
  · go_wp2_with (go_at_call 10; refine (AW _).mono ?_; rintro e w' ⟨rfl, hb⟩)
    go_ret
    exact ⟨rfl, hb⟩
  go_wp2_with fail
  refine F2.mono ?_
  rintro e w1 ⟨rfl, rfl⟩
  cases fewK (kys l2)
  · go_wp2_with (go_at_call 10; refine (AW _).mono ?_; rintro e w' ⟨rfl, hb⟩)
    go_ret
    exact ⟨rfl, hb⟩
  clear F0 F1 F2
  go_wp2_with fail
  refine (C01 _ (Below.refl _ _)).mono ?_
  rintro e w1 ⟨rfl, hb1⟩
  have HB1 := Hid.mk' hb1
  clear hb1
  by_cases t1 : 0 < x
  · go_wp2_with (go_at_call 10; refine (AW _).mono ?_; rintro e w' ⟨rfl, hb⟩)
    go_ret
    exact ⟨rfl, HB1.out.trans (hb.mono HB1.out.size)⟩
  have d1 : decide (0 < x) = false := decide_eq_false t1
  go_wp2_with fail
  refine (C12 _ HB1.out).mono ?_
  rintro e w2 ⟨rfl, hb2⟩
  have HB2 := Hid.mk' (HB1.out.trans (hb2.mono HB1.out.size))
  clear hb2 HB1
  by_cases t2 : 0 < y
  · go_wp2_with (go_at_call 10; refine (AW _).mono ?_; rintro e w' ⟨rfl, hb⟩)
    go_ret
    exact ⟨rfl, HB2.out.trans (hb.mono HB2.out.size)⟩
  obtain ⟨hz, hxz⟩ := HC.out (by omega) (by omega)
  go_wp2_with fail
  refine (C02 _ HB2.out).mono ?_
  rintro e w3 ⟨rfl, hb3⟩
  have HB3 := Hid.mk' (HB2.out.trans (hb3.mono HB2.out.size))
  clear hb3 HB2
  go_wp2_with fail
  refine (C02 _ HB3.out).mono ?_
  rintro e w4 ⟨rfl, hb4⟩
  have HB4 := Hid.mk' (HB3.out.trans (hb4.mono HB3.out.size))
  clear hb4 HB3
  by_cases t3 : z < 0
  · clear hxz
    go_wp2_with (go_at_call 10; refine (AW _).mono ?_; rintro e w' ⟨rfl, hb⟩)
    go_ret
    exact ⟨rfl, HB4.out.trans (hb.mono HB4.out.size)⟩
  obtain rfl : x = 0 := by omega
  have d3 : decide (z < 0) = false := decide_eq_false t3
  clear hxz
  go_wp2_with fail
  refine (C01 _ HB4.out).mono ?_
  rintro e w5 ⟨rfl, hb5⟩
  have HB5 := Hid.mk' (HB4.out.trans (hb5.mono HB4.out.size))
  clear hb5 HB4
  go_wp2_with (go_at_call 10; refine (AW _).mono ?_; rintro e w' ⟨rfl, hb⟩)
  go_ret
  exact ⟨rfl, HB5.out.trans (hb.mono HB5.out.size)⟩

theorem own : ownKnob Try.prog.godebug = none := by kernel_rfl
theorem laidOut : laidOutB Try.prog = true := by kernel_rfl

set_option maxRecDepth 100000 in
theorem lifted (os : Os) (started : os.Started) (H : Type) (enc : TypeId × Value → H) :
    ReturnsInHanded {} Try.checked os 5 .any (Rows.bagChainsSpec.pre6 enc Try.prog Try.f5 Rows.bagChainsRow.domain false) (Rows.bagChainsSpec.post enc Try.prog Try.f5 false true false false) := by
  refine returnsInHanded_of_change_sized (C := Try.checked) own started (by kernel_rfl) Try.func5
    (ChangeSpec.witness6 (enc := enc) (C := Try.checked) false ⟨#[], #[.slice none 0 0, .slice none 0 0, .slice none 0 0], []⟩ 8 (by kernel_rfl) (by kernel_rfl) (by kernel_rfl) (by kernel_rfl)) ?_
  intro W base args ds gs before hval0 hW hcnd hsz0 _
  have hz : ∀ (j : Nat) t d, Try.f5.params.toList[j]? = some t → ds[j]? = some d → ∀ n ∈ d.weights Try.prog t, n ≤ reachBytes := fun j t d ht hd n hn => by
    have := List.all_eq_true.1 hsz0 n (DataW.weights_mem_each (j := j) (t := t) (d := d) (by rw [List.getElem?_append_left (List.getElem?_eq_some_iff.1 ht).1]; exact ht) (by rw [List.getElem?_append_left (List.getElem?_eq_some_iff.1 hd).1]; exact hd) n hn)
    simpa using this
  have hval : ∀ (j : Nat) t v, Try.f5.params[j]? = some t → args[j]? = some v → Value.okWide Try.prog W .any base t v := hval0
  have hW' := hW
  obtain ⟨p, q, hA0, hV, rfl, hfz, hnd⟩ := hW
  have hA : DataW.TrodAll enc Try.prog W 0 (fun _ => true) true Try.f5.params.toList args.toList ds p := hA0
  rw [Try.params5] at hA hval hz
  obtain ⟨v0, vs0, d0, ds0, p0x, q0, hargs, rfl, rfl, h0, r0⟩ := trodAll_cons hA
  obtain ⟨v1, vs1, d1, ds1, p1x, q1, rfl, rfl, rfl, h1, r1⟩ := trodAll_cons r0
  obtain ⟨v2, vs2, d2, ds2, p2x, q2, rfl, rfl, rfl, h2, r2⟩ := trodAll_cons r1
  obtain ⟨rfl, rfl, rfl⟩ := trodAll_nil r2
  obtain rfl : args = #[v0, v1, v2] := by cases args; simp_all
  obtain ⟨rfl, rfl⟩ := trodVars_none hV
  obtain ⟨p0, len0, c0, rfl⟩ := okWide_slice Try.underlying22 (hval 0 22 v0 rfl rfl)
  have k0 := h0
  have lt0 : ∀ x ∈ p0x, x.block < W.heap.size := by obtain ⟨m, hm⟩ := k0; exact DataW.trod_lt m _ _ _ hm
  obtain ⟨l0, rfl, hlc0, hcm0, hp0, hin0⟩ : ∃ l : List Fd, l.length = len0 ∧ len0 ≤ c0 ∧ c0 ≤ maxLen ∧ (p0 = none → c0 = 0) ∧ LIn W p0 2 shFd l := by
    haveI : Inhabited Fd := ⟨zf⟩
    obtain ⟨fuel, hf⟩ := h0
    obtain ⟨l, p, c, hcs, hl1, hl2, hl3, _, hl4⟩ := opensZ_slice (size := 2) (bytes := 32) Try.underlying22 (by kernel_rfl) (by kernel_rfl) (by decide) opensZ_fd _ _ _ hf (hz 0 22 d0 rfl rfl)
    simp [Value.cells] at hcs
    obtain ⟨rfl, rfl, rfl⟩ := hcs
    exact ⟨l, rfl, hl1, hl2, hl3, hl4⟩
  obtain ⟨p1, len1, c1, rfl⟩ := okWide_slice Try.underlying22 (hval 1 22 v1 rfl rfl)
  have k1 := h1
  have lt1 : ∀ x ∈ p1x, x.block < W.heap.size := by obtain ⟨m, hm⟩ := k1; exact DataW.trod_lt m _ _ _ hm
  obtain ⟨l1, rfl, hlc1, hcm1, hp1, hin1⟩ : ∃ l : List Fd, l.length = len1 ∧ len1 ≤ c1 ∧ c1 ≤ maxLen ∧ (p1 = none → c1 = 0) ∧ LIn W p1 2 shFd l := by
    haveI : Inhabited Fd := ⟨zf⟩
    obtain ⟨fuel, hf⟩ := h1
    obtain ⟨l, p, c, hcs, hl1, hl2, hl3, _, hl4⟩ := opensZ_slice (size := 2) (bytes := 32) Try.underlying22 (by kernel_rfl) (by kernel_rfl) (by decide) opensZ_fd _ _ _ hf (hz 1 22 d1 rfl rfl)
    simp [Value.cells] at hcs
    obtain ⟨rfl, rfl, rfl⟩ := hcs
    exact ⟨l, rfl, hl1, hl2, hl3, hl4⟩
  obtain ⟨p2, len2, c2, rfl⟩ := okWide_slice Try.underlying22 (hval 2 22 v2 rfl rfl)
  have k2 := h2
  have lt2 : ∀ x ∈ p2x, x.block < W.heap.size := by obtain ⟨m, hm⟩ := k2; exact DataW.trod_lt m _ _ _ hm
  obtain ⟨l2, rfl, hlc2, hcm2, hp2, hin2⟩ : ∃ l : List Fd, l.length = len2 ∧ len2 ≤ c2 ∧ c2 ≤ maxLen ∧ (p2 = none → c2 = 0) ∧ LIn W p2 2 shFd l := by
    haveI : Inhabited Fd := ⟨zf⟩
    obtain ⟨fuel, hf⟩ := h2
    obtain ⟨l, p, c, hcs, hl1, hl2, hl3, _, hl4⟩ := opensZ_slice (size := 2) (bytes := 32) Try.underlying22 (by kernel_rfl) (by kernel_rfl) (by decide) opensZ_fd _ _ _ hf (hz 2 22 d2 rfl rfl)
    simp [Value.cells] at hcs
    obtain ⟨rfl, rfl, rfl⟩ := hcs
    exact ⟨l, rfl, hl1, hl2, hl3, hl4⟩
  clear hA0 hval0
  refine (walk p0 c0 l0 p1 c1 l1 p2 c2 l2 W hlc0 hcm0 hp0 hin0 hlc1 hcm1 hp1 hin1 hlc2 hcm2 hp2 hin2).mono fun e W' ⟨he, bel⟩ => ?_
  subst he
  exact ⟨_, rfl, _, _, _, [], _, [], hW', trodAll_mk1 (shut_bool Try.underlying4 _), (trodAll_cons_mk (Below.trod laidOut (by kernel_rfl) (of_decide_eq_true (by kernel_rfl)) k0 bel lt0) (trodAll_cons_mk (Below.trod laidOut (by kernel_rfl) (of_decide_eq_true (by kernel_rfl)) k1 bel lt1) (trodAll_cons_mk (Below.trod laidOut (by kernel_rfl) (of_decide_eq_true (by kernel_rfl)) k2 bel lt2) trodAll_mk0))), rfl, bel.frame _, fun h => by cases h⟩

theorem over : Rows.bagChainsRow.holds Try.pinned (OpenSpec.ofChange Rows.bagChainsSpec) :=
  OpenClaim.holds_of_wide 5 Try.f5 rfl rfl rfl rfl rfl rfl rfl ⟨rfl, rfl, rfl, rfl, rfl⟩ rfl rfl rfl rfl rfl (by kernel_rfl) Try.func5 (by kernel_rfl)
    (of_decide_eq_true (by kernel_rfl)) (by unfold Func.isWrapper; first | (rw [if_pos (by decide +kernel)]; kernel_rfl) | (rw [if_neg (by decide +kernel)]; exact ⟨rfl, rfl⟩))
    (fun os started H enc _ => lifted os started H enc)

/-- The given statement. -/
theorem proved : Rows.BagChainsSaid := over
#print axioms proved
end Go.Proofs.Ytecdagmeobiahaa.bagChains
