/-
  Proved: the statement on layer 2's forms (VarintForms) returns true at every input, and leaves its argument as it was. No condition.
-/
import Derived.Test.YtllaajajjodimaaRows
import Derived.Test.YtllaajajjodimaaLaw02
import Derived.Test.YtllaajajjodimaaShapes
import Derived.ShutString
import Derived.ChangeOld
import Derived.Deep.RegionWith
import Derived.Deep.DrawnRows
namespace Go.Proofs.Ytllaajajjodimaa.varintForms
open Go.ChangeShapes Go.WideShapes Go.ChangeAt Go.RowKit
open Go.ChangeMaps (open_string shut_string)
set_option linter.unusedVariables false
set_option linter.unusedSimpArgs false
attribute [local go_sem ↓] Go.wp_at_zero Go.wp_at_succ

set_option maxHeartbeats 4000000 in
theorem walk (a0 : Int) (w : World) (w0 : (Lit.int .u64 a0).wf = true) :
    Calls Try.prog 3 #[.int .u64 a0] w fun e w' => e = .returned (.bool true) ∧ Below w.heap.size w w' := by
  have h0 := bounds_u64 w0
  clear w0
  have F := form_any a0 w (by omega) (by omega)
  have O := fun wx => of_any a0 wx (by omega) (by omega)
  have L := fun wx => len_any a0 wx (by omega) (by omega)
  have hb := L7_bd a0
  have HFl := Hid.mk' (formV_len a0)
  have HO := Hid.mk' O
  have HL := Hid.mk' L
  clear O L
  go_enter Try.func3, Try.ntmps3
  go_wp2_with fail
  refine F.mono ?_
  rintro e w1 ⟨p, c, rfl, hP, hpn, hB1⟩
  clear F
  have hconv : ∀ x, Below w1.heap.size w1 x → (convert 23 9 (.slice p (L7 a0) c)).run Try.prog x = .ok (.string (strOfNums (formV a0))) x := fun x hx => by
    have := (hP.below hx).convert (P := Try.prog) c 23 5 9 Try.underlying23 Try.underlying5 Try.underlying9
    rw [HFl.out] at this
    exact this
  have hconv2 : ∀ x g, x.heap[g]? = some (.cells (cellsB (formV a0)) 5 (0, 0)) → (convert 23 9 (.slice (some ⟨g, 0, none⟩) (L7 a0) (L7 a0))).run Try.prog x = .ok (.string (strOfNums (formV a0))) x := fun x g hg => by
    have := (BIn.of_block (rest := []) (by simpa [cellsB] using hg)).convert (P := Try.prog) (L7 a0) 23 5 9 Try.underlying23 Try.underlying5 Try.underlying9
    rw [HFl.out] at this
    exact this
  have HC := Hid.mk' hconv
  have HC2 := Hid.mk' hconv2
  have HB1 := Hid.mk' hB1
  have hs1 := hB1.size
  clear hconv hconv2 hP hpn hB1
  generalize L7 a0 = n at HC HC2 HO HL hb HFl ⊢
  generalize formV a0 = f at HC HC2 HO HFl ⊢
  go_wp2_with fail
  have hca := HC.out w1.drew ((Below.refl _ _).drew)
  go_region_with (first
      | (go_at_call 9; refine (HO.out _).mono ?_; rintro e w2 ⟨rfl, hblk, hb2'⟩; have hb2 := ((Below.refl w1.heap.size w1).drew).trans hb2'; have hc2 : (convert 23 9 (.slice (some ⟨w1.heap.size, 0, none⟩) n n)).run Try.prog w2 = .ok (.string (strOfNums f)) w2 := HC2.out w2 _ hblk; have hcb := HC.out w2 hb2)
      | (go_at_call 10; refine (HL.out _).mono ?_; rintro e w' ⟨rfl, rfl⟩)
      | (go_at_call 11; refine (awake2_any _).mono ?_; rintro e w3 ⟨rfl, hb3'⟩; have hb3 := hb2.trans (hb3'.mono hb2.size)))
  all_goals
    go_wp2
    go_ret
    exact ⟨rfl, HB1.out.trans (hb3.mono hs1)⟩

theorem own : ownKnob Try.prog.godebug = none := by kernel_rfl
theorem laidOut : laidOutB Try.prog = true := by kernel_rfl

set_option maxRecDepth 100000 in
theorem lifted (os : Os) (started : os.Started) (H : Type) (enc : TypeId × Value → H) :
    ReturnsInHanded {} Try.checked os 3 .any (Rows.varintFormsSpec.pre6 enc Try.prog Try.f3 Rows.varintFormsRow.domain false) (Rows.varintFormsSpec.post enc Try.prog Try.f3 false true false false) := by
  refine returnsInHanded_of_change (C := Try.checked) own started (by kernel_rfl) Try.func3
    (ChangeSpec.witness6 (enc := enc) (C := Try.checked) false ⟨#[], #[.int .u64 0], []⟩ 8 (by kernel_rfl) (by kernel_rfl) (by kernel_rfl) (by kernel_rfl)) ?_
  intro W base args ds gs before hval0 hW hcnd _
  have hval : ∀ (j : Nat) t v, Try.f3.params[j]? = some t → args[j]? = some v → Value.okWide Try.prog W .any base t v := hval0
  have hW' := hW
  obtain ⟨p, q, hA0, hV, rfl, hfz, hnd⟩ := hW
  have hA : DataW.TrodAll enc Try.prog W 0 (fun _ => true) true Try.f3.params.toList args.toList ds p := hA0
  rw [Try.params3] at hA hval
  obtain ⟨v0, vs0, d0, ds0, p0x, q0, hargs, rfl, rfl, h0, r0⟩ := trodAll_cons hA
  obtain ⟨rfl, rfl, rfl⟩ := trodAll_nil r0
  obtain rfl : args = #[v0] := by cases args; simp_all
  obtain ⟨rfl, rfl⟩ := trodVars_none hV
  obtain ⟨a0, rfl, rfl, rfl, w0⟩ := open_int Try.underlying22 (hval 0 22 v0 rfl rfl) h0
  clear hA0 hval0
  refine (walk a0 W w0).mono fun e W' ⟨he, bel⟩ => ?_
  subst he
  exact ⟨_, rfl, _, _, _, [], _, [], hW', trodAll_mk1 (shut_bool Try.underlying4 _), (trodAll_cons_mk (shut_int Try.underlying22 w0) trodAll_mk0), rfl, bel.frame _, fun h => by cases h⟩

theorem over : Rows.varintFormsRow.holds Try.pinned (OpenSpec.ofChange Rows.varintFormsSpec) :=
  OpenClaim.holds_of_wide 3 Try.f3 rfl rfl rfl rfl rfl rfl rfl ⟨rfl, rfl, rfl, rfl, rfl⟩ rfl rfl rfl rfl rfl (by kernel_rfl) Try.func3 (by kernel_rfl)
    (of_decide_eq_true (by kernel_rfl)) (by unfold Func.isWrapper; first | (rw [if_pos (by decide +kernel)]; kernel_rfl) | (rw [if_neg (by decide +kernel)]; exact ⟨rfl, rfl⟩))
    (fun os started H enc _ => lifted os started H enc)

/-- The given statement. -/
theorem proved : Rows.VarintFormsSaid := over
#print axioms proved
end Go.Proofs.Ytllaajajjodimaa.varintForms
