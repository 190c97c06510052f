/-
  Proved: the statement on layer 2's reading from a reader (VarintFroms) returns true at every input, and leaves its arguments as they were. No condition.
-/
import Derived.Test.YtllaajajjodimaaRows
import Derived.Test.YtllaajajjodimaaLaw02
import Derived.Test.YtllaajajjodimaaVarFrom
import Derived.Test.YtllaajajjodimaaShapes
import Derived.ShutString
import Derived.ChangeOld
namespace Go.Proofs.Ytllaajajjodimaa.varintFroms
open Go.ChangeShapes Go.WideShapes Go.ChangeAt Go.RowKit
open Go.ChangeMaps (open_string shut_string)
set_option linter.unusedVariables false
set_option linter.unusedSimpArgs false

set_option maxHeartbeats 2000000 in
theorem walk (p0 : Option Addr) (c0 : Nat) (l0 : List Int) (a1 : Int) (w : World) (hlc0 : l0.length ≤ c0) (hcm0 : c0 ≤ maxLen) (hp0 : p0 = none → c0 = 0) (hin0 : LIn w p0 1 (shInt .u8) l0) (w1 : (Lit.int .i64 a1).wf = true) :
    Calls Try.prog 6 #[.slice p0 l0.length c0, .int .i64 a1] w fun e w' => e = .returned (.bool true) ∧ Below w.heap.size w w' := by
  unfold maxLen at hcm0
  have h1 := bounds_i64 w1
  have hB0 := hin0.bytes
  have hb0 := hin0.isB
  clear hin0 w1
  by_cases t1 : 40 < (l0.length : Int)
  · have AW := awake2_any w
    go_enter Try.func6, Try.ntmps6
    go_wp2_with (go_at_call 11; refine AW.mono ?_; rintro e w' ⟨rfl, hb⟩)
    go_ret
    exact ⟨rfl, hb⟩
  have R := read_at p0 c0 l0 w hB0 hb0 (by omega)
  have HB0 := Hid.mk' hB0
  have HI0 := Hid.mk' hb0
  clear hB0 hb0
  by_cases hno : getE l0 ≠ 0 ∨ a1 < 0 ∨ a1 < getW l0
  · go_enter Try.func6, Try.ntmps6
    go_wp2_with fail
    refine R.mono ?_
    rintro e w2 ⟨b, rfl, hb, hb2, hR, hB2⟩
    have F := from_no w2.heap.size b l0 a1 w2 (hR.mono fun i q => q.2) hb2 (Nat.le_refl _) HI0.out (by omega) hno
    have hlow := Hid.mk' (show ∀ x : World, Fr (fun k => k = b) w2 x → Below w.heap.size w2 x from fun x f => f.below (fun i q => by omega) hB2.size)
    have HB2 := Hid.mk' hB2
    clear R hR hB2
    go_wp2_with fail
    refine F.mono ?_
    rintro e w3 ⟨rfl, hR3, hF3⟩
    have hB3 := HB2.out.trans (hlow.out _ hF3)
    have G := get_any p0 c0 l0 w3 (HB0.out.below hB3) HI0.out (by omega)
    have hWb := fun q => getW_bd l0 HI0.out q
    have hno' : (getE l0 ≠ 0) ∨ (getE l0 = 0 ∧ a1 < 0) ∨ (getE l0 = 0 ∧ 0 ≤ a1 ∧ a1 < getW l0) := by
      by_cases q : getE l0 = 0
      · by_cases q2 : a1 < 0
        · exact .inr (.inl ⟨q, q2⟩)
        · exact .inr (.inr ⟨q, by omega, by omega⟩)
      · exact .inl q
    have AW := awake2_any w3
    have HB3 := Hid.mk' hB3
    clear F hR3 hF3 hB3 hlow HB2 hno HB0 HI0
    generalize getE l0 = E at G hno' hWb
    generalize getW l0 = V at G hno' hWb
    generalize getN l0 = M at G hWb
    rcases hno' with q | ⟨rfl, q⟩ | ⟨rfl, q, q2⟩
    · have qb : (E != 0) = true := by simp [q]
      clear q hWb
      go_wp2_with (first | (go_at_call 12; refine G.mono ?_; rintro e w' ⟨rfl, rfl⟩) | (go_at_call 11; refine AW.mono ?_; rintro e w4 ⟨rfl, hb4⟩))
      go_ret
      exact ⟨rfl, HB3.out.trans (hb4.mono HB3.out.size)⟩
    · clear hWb
      go_wp2_with (first | (go_at_call 12; refine G.mono ?_; rintro e w' ⟨rfl, rfl⟩) | (go_at_call 11; refine AW.mono ?_; rintro e w4 ⟨rfl, hb4⟩))
      go_ret
      exact ⟨rfl, HB3.out.trans (hb4.mono HB3.out.size)⟩
    · have hV := hWb rfl
      clear hWb
      go_wp2_with (first | (go_at_call 12; refine G.mono ?_; rintro e w' ⟨rfl, rfl⟩) | (go_at_call 11; refine AW.mono ?_; rintro e w4 ⟨rfl, hb4⟩))
      go_ret
      exact ⟨rfl, HB3.out.trans (hb4.mono HB3.out.size)⟩
  · have hE : getE l0 = 0 := by omega
    have m0 : 0 ≤ a1 := by omega
    have hWm : getW l0 ≤ a1 := by omega
    obtain ⟨v0, v1, _, gn, gl⟩ := getW_bd l0 HI0.out hE
    clear hno
    go_enter Try.func6, Try.ntmps6
    go_wp2_with fail
    refine R.mono ?_
    rintro e w2 ⟨b, rfl, hb, hb2, hR, hB2⟩
    have F := from_ok w2.heap.size b l0 a1 w2 (hR.mono fun i q => q.2) hb2 (Nat.le_refl _) HI0.out (by omega) hE m0 hWm
    have hlow := Hid.mk' (show ∀ x : World, Fr (fun k => k = b) w2 x → Below w.heap.size w2 x from fun x f => f.below (fun i q => by omega) hB2.size)
    have HB2 := Hid.mk' hB2
    clear R hR hB2
    go_wp2_with fail
    refine F.mono ?_
    rintro e w3 ⟨rfl, hR3, hF3⟩
    have hB3 := HB2.out.trans (hlow.out _ hF3)
    have G := get_any p0 c0 l0 w3 (HB0.out.below hB3) HI0.out (by omega)
    have L := left_any b _ _ w3 hR3
    rw [hE, gn] at G
    rw [List.length_drop] at L
    have AW := awake2_any w3
    have HB3 := Hid.mk' hB3
    clear F hR3 hF3 hB3 hlow HB2 HB0 HI0 hE gn
    generalize getW l0 = V at G hWm v0 v1 ⊢
    generalize nextN l0 = M at G L gl
    go_wp2_with (first | (go_at_call 12; refine G.mono ?_; rintro e w' ⟨rfl, rfl⟩) | (go_at_call 15; refine L.mono ?_; rintro e w' ⟨rfl, rfl⟩) | (go_at_call 11; refine AW.mono ?_; rintro e w4 ⟨rfl, hb4⟩))
    go_ret
    exact ⟨rfl, HB3.out.trans (hb4.mono HB3.out.size)⟩

theorem own : ownKnob Try.prog.godebug = none := by kernel_rfl
theorem laidOut : laidOutB Try.prog = true := by kernel_rfl

set_option maxRecDepth 100000 in
theorem lifted (os : Os) (started : os.Started) (H : Type) (enc : TypeId × Value → H) :
    ReturnsInHanded {} Try.checked os 6 .any (Rows.varintFromsSpec.pre6 enc Try.prog Try.f6 Rows.varintFromsRow.domain false) (Rows.varintFromsSpec.post enc Try.prog Try.f6 false true false false) := by
  refine returnsInHanded_of_change (C := Try.checked) own started (by kernel_rfl) Try.func6
    (ChangeSpec.witness6 (enc := enc) (C := Try.checked) false ⟨#[], #[.slice none 0 0, .int .i64 0], []⟩ 8 (by kernel_rfl) (by kernel_rfl) (by kernel_rfl) (by kernel_rfl)) ?_
  intro W base args ds gs before hval0 hW hcnd _
  have hval : ∀ (j : Nat) t v, Try.f6.params[j]? = some t → args[j]? = some v → Value.okWide Try.prog W .any base t v := hval0
  have hW' := hW
  obtain ⟨p, q, hA0, hV, rfl, hfz, hnd⟩ := hW
  have hA : DataW.TrodAll enc Try.prog W 0 (fun _ => true) true Try.f6.params.toList args.toList ds p := hA0
  rw [Try.params6] at hA hval
  obtain ⟨v0, vs0, d0, ds0, p0x, q0, hargs, rfl, rfl, h0, r0⟩ := trodAll_cons hA
  obtain ⟨v1, vs1, d1, ds1, p1x, q1, rfl, rfl, rfl, h1, r1⟩ := trodAll_cons r0
  obtain ⟨rfl, rfl, rfl⟩ := trodAll_nil r1
  obtain rfl : args = #[v0, v1] := by cases args; simp_all
  obtain ⟨rfl, rfl⟩ := trodVars_none hV
  obtain ⟨p0, len0, c0, rfl⟩ := okWide_slice Try.underlying23 (hval 0 23 v0 rfl rfl)
  have k0 := h0
  have lt0 : ∀ x ∈ p0x, x.block < W.heap.size := by obtain ⟨m, hm⟩ := k0; exact DataW.trod_lt m _ _ _ hm
  obtain ⟨l0, rfl, hlc0, hcm0, hp0, hin0⟩ : ∃ l : List Int, l.length = len0 ∧ len0 ≤ c0 ∧ c0 ≤ maxLen ∧ (p0 = none → c0 = 0) ∧ LIn W p0 1 (shInt .u8) l := by
    obtain ⟨fuel, hf⟩ := h0
    obtain ⟨l, p, c, hcs, hl1, hl2, hl3, hl4⟩ := opens_slice (size := 1) Try.underlying23 (by kernel_rfl) (by decide) (opens_int Try.underlying5) _ _ _ hf
    simp [Value.cells] at hcs
    obtain ⟨rfl, rfl, rfl⟩ := hcs
    exact ⟨l, rfl, hl1, hl2, hl3, hl4⟩
  obtain ⟨a1, rfl, rfl, rfl, w1⟩ := open_int Try.underlying3 (hval 1 3 v1 rfl rfl) h1
  clear hA0 hval0
  refine (walk p0 c0 l0 a1 W hlc0 hcm0 hp0 hin0 w1).mono fun e W' ⟨he, bel⟩ => ?_
  subst he
  exact ⟨_, rfl, _, _, _, [], _, [], hW', trodAll_mk1 (shut_bool Try.underlying4 _), (trodAll_cons_mk (Below.trod laidOut (by kernel_rfl) (of_decide_eq_true (by kernel_rfl)) k0 bel lt0) (trodAll_cons_mk (shut_int Try.underlying3 w1) trodAll_mk0)), rfl, bel.frame _, fun h => by cases h⟩

theorem over : Rows.varintFromsRow.holds Try.pinned (OpenSpec.ofChange Rows.varintFromsSpec) :=
  OpenClaim.holds_of_wide 6 Try.f6 rfl rfl rfl rfl rfl rfl rfl ⟨rfl, rfl, rfl, rfl, rfl⟩ rfl rfl rfl rfl rfl (by kernel_rfl) Try.func6 (by kernel_rfl)
    (of_decide_eq_true (by kernel_rfl)) (by unfold Func.isWrapper; first | (rw [if_pos (by decide +kernel)]; kernel_rfl) | (rw [if_neg (by decide +kernel)]; exact ⟨rfl, rfl⟩))
    (fun os started H enc _ => lifted os started H enc)

/-- The given statement. -/
theorem proved : Rows.VarintFromsSaid := over
#print axioms proved
end Go.Proofs.Ytllaajajjodimaa.varintFroms
