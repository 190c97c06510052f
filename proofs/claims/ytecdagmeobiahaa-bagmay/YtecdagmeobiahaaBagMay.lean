/-
  Proved: the statement on layer 6's bags that may be (BagMay) returns true at every input, and leaves its arguments as they were. No condition.
-/
import Derived.Test.YtecdagmeobiahaaRows
import Derived.Test.YtecdagmeobiahaaLaw06b
import Derived.ShutString
import Derived.ChangeOld
namespace Go.Proofs.Ytecdagmeobiahaa.bagMay
open Go.ChangeShapes Go.WideShapes Go.ChangeAt Go.RowKit
open Go.ChangeMaps (open_string shut_string)
set_option linter.unusedVariables false
set_option linter.unusedSimpArgs false

set_option maxHeartbeats 4000000 in
theorem walk (p0 : Option Addr) (c0 : Nat) (l0 : List Fd) (w : World) (hlc0 : l0.length ≤ c0) (hcm0 : c0 ≤ maxLen) (hp0 : p0 = none → c0 = 0) (hin0 : FIn w p0 l0) :
    Calls Try.prog 3 #[.slice p0 l0.length c0] w fun e w' => e = .returned (.bool true) ∧ Below w.heap.size w w' := by
  have n0 := Nat.le_trans hlc0 hcm0
  have F0 := few_any p0 c0 l0 w hin0 n0
  have AW := fun X => awake6_any X
  by_cases tf : fewK (kys l0) = true
  case neg =>
    have tf' : fewK (kys l0) = false := by simpa using tf
    rw [tf'] at F0
    go_enter Try.func3, Try.ntmps3
    go_wp2_with fail
    refine F0.mono ?_
    rintro e w1 ⟨rfl, rfl⟩
    go_wp2_with (go_at_call 10; refine (AW _).mono ?_; rintro e w' ⟨rfl, hb⟩)
    go_ret
    exact ⟨rfl, hb⟩
  obtain ⟨m0, z0⟩ := few_yes tf
  rw [tf] at F0
  have V := fun X (h : Below w.heap.size w X) => valid_any p0 c0 l0 X (hin0.below h) n0 (by omega)
  have M := fun X (h : Below w.heap.size w X) => mayR_any p0 c0 l0 X (hin0.below h) n0 (by omega)
  have Z := fun X (h : Below w.heap.size w X) => size_any p0 c0 l0 X (hin0.below h) n0 (by omega)
  have Y := fun X (h : Below w.heap.size w X) => sizeR_any p0 c0 l0 X (hin0.below h) n0 (by omega)
  have L := fun X (h : Below w.heap.size w X) => light_any p0 c0 l0 X (hin0.below h) n0 (by omega)
  have C := fun X (h : Below w.heap.size w X) => copy_any p0 c0 l0 X (hin0.below h) (by omega)
  have A := fun X (h : Below w.heap.size w X) g (l' : List Fd) (hk : kys l' = kys l0) (hf : FIn X (some ⟨g, 0, none⟩) l') => alike_any (some ⟨g, 0, none⟩) p0 l0.length c0 l' l0 X hf (hin0.below h) (by rw [← kys_len, hk, kys_len]; exact n0) n0
  have S := fun X (h : Below w.heap.size w X) g (l' : List Fd) (hk : kys l' = kys l0) (hf : FIn X (some ⟨g, 0, none⟩) l') => same_any p0 (some ⟨g, 0, none⟩) c0 l0.length l0 l' X (hin0.below h) hf n0 (by rw [← kys_len, hk, kys_len]; exact n0)
  have HLn := Hid.mk' (show ∀ l' : List Fd, kys l' = kys l0 → l'.length = l0.length from fun l' h => by rw [← kys_len, h, kys_len])
  generalize mayK (kys l0) = m at V M
  have hd : ∀ z : Nat, decide (z ≤ 1024) = decide ((z : Int) ≤ 1024) := fun z => by congr 1; simp; omega
  rw [hd] at L
  generalize szK (kys l0) = z at Z Y L z0
  clear hlc0 hcm0 hp0 hin0 n0 tf hd
  obtain ⟨li, hli⟩ : ∃ li, decide ((z : Int) ≤ 1024) = li := ⟨_, rfl⟩
  rw [hli] at L
  go_enter Try.func3, Try.ntmps3
  go_wp2_with fail
  refine F0.mono ?_
  rintro e w1 ⟨rfl, rfl⟩
  clear F0
  go_wp2_with fail
  refine (V _ (Below.refl _ _)).mono ?_
  rintro e w1 ⟨rfl, hb1⟩
  have HB1 := Hid.mk' hb1
  clear hb1
  go_wp2_with fail
  refine (M _ HB1.out).mono ?_
  rintro e w2 ⟨rfl, hb2⟩
  have HB2 := Hid.mk' (HB1.out.trans (hb2.mono HB1.out.size))
  clear hb2 HB1
  go_wp2_with fail
  refine (Z _ HB2.out).mono ?_
  rintro e w3 ⟨rfl, hb3⟩
  have HB3 := Hid.mk' (HB2.out.trans (hb3.mono HB2.out.size))
  clear hb3 HB2
  go_wp2_with fail
  refine (Y _ HB3.out).mono ?_
  rintro e w4 ⟨rfl, rfl⟩
  go_wp2_with fail
  refine (L _ HB3.out).mono ?_
  rintro e w4 ⟨rfl, hb4⟩
  have HB4 := Hid.mk' (HB3.out.trans (hb4.mono HB3.out.size))
  clear hb4 HB3
  go_wp2_with fail
  refine (Y _ HB4.out).mono ?_
  rintro e w5 ⟨rfl, rfl⟩
  go_wp2_with fail
  refine (C _ HB4.out).mono ?_
  rintro e w5 ⟨rfl, l', hkl, hrow, hok, hb5⟩
  have hb5' := HB4.out.trans (hb5.mono HB4.out.size)
  have A1 := A _ hb5' _ l' hkl (FIn.of_row hrow fun x hx => (hok x hx).ok)
  rw [HLn.out l' hkl, decide_eq_true hkl] at A1
  have HB5 := Hid.mk' hb5'
  clear hkl hrow hok hb5 hb5' HB4
  go_wp2_with fail
  refine A1.mono ?_
  rintro e w6 ⟨rfl, hb6⟩
  have HB6 := Hid.mk' (HB5.out.trans (hb6.mono HB5.out.size))
  clear hb6 HB5 A1
  go_wp2_with fail
  refine (C _ HB6.out).mono ?_
  rintro e w7 ⟨rfl, l2, hkl, hrow, hok, hb7⟩
  have hb7' := HB6.out.trans (hb7.mono HB6.out.size)
  have S1 := S _ hb7' _ l2 hkl (FIn.of_row hrow fun x hx => (hok x hx).ok)
  rw [HLn.out l2 hkl, decide_eq_true hkl.symm] at S1
  have HB7 := Hid.mk' hb7'
  clear hkl hrow hok hb7 hb7' HB6
  go_wp2_with fail
  refine S1.mono ?_
  rintro e w8 ⟨rfl, hb8⟩
  have HB8 := Hid.mk' (HB7.out.trans (hb8.mono HB7.out.size))
  clear hb8 HB7 S1
  go_wp2_with (go_at_call 10; refine (AW _).mono ?_; rintro e w' ⟨rfl, hb⟩)
  go_ret
  exact ⟨rfl, HB8.out.trans (hb.mono HB8.out.size)⟩

theorem own : ownKnob Try.prog.godebug = none := by kernel_rfl
theorem laidOut : laidOutB Try.prog = true := by kernel_rfl

set_option maxRecDepth 100000 in
theorem lifted (os : Os) (started : os.Started) (H : Type) (enc : TypeId × Value → H) :
    ReturnsInHanded {} Try.checked os 3 .any (Rows.bagMaySpec.pre6 enc Try.prog Try.f3 Rows.bagMayRow.domain false) (Rows.bagMaySpec.post enc Try.prog Try.f3 false true false false) := by
  refine returnsInHanded_of_change_sized (C := Try.checked) own started (by kernel_rfl) Try.func3
    (ChangeSpec.witness6 (enc := enc) (C := Try.checked) false ⟨#[], #[.slice none 0 0], []⟩ 8 (by kernel_rfl) (by kernel_rfl) (by kernel_rfl) (by kernel_rfl)) ?_
  intro W base args ds gs before hval0 hW hcnd hsz0 _
  have hz : ∀ (j : Nat) t d, Try.f3.params.toList[j]? = some t → ds[j]? = some d → ∀ n ∈ d.weights Try.prog t, n ≤ reachBytes := fun j t d ht hd n hn => by
    have := List.all_eq_true.1 hsz0 n (DataW.weights_mem_each (j := j) (t := t) (d := d) (by rw [List.getElem?_append_left (List.getElem?_eq_some_iff.1 ht).1]; exact ht) (by rw [List.getElem?_append_left (List.getElem?_eq_some_iff.1 hd).1]; exact hd) n hn)
    simpa using this
  have hval : ∀ (j : Nat) t v, Try.f3.params[j]? = some t → args[j]? = some v → Value.okWide Try.prog W .any base t v := hval0
  have hW' := hW
  obtain ⟨p, q, hA0, hV, rfl, hfz, hnd⟩ := hW
  have hA : DataW.TrodAll enc Try.prog W 0 (fun _ => true) true Try.f3.params.toList args.toList ds p := hA0
  rw [Try.params3] at hA hval hz
  obtain ⟨v0, vs0, d0, ds0, p0x, q0, hargs, rfl, rfl, h0, r0⟩ := trodAll_cons hA
  obtain ⟨rfl, rfl, rfl⟩ := trodAll_nil r0
  obtain rfl : args = #[v0] := by cases args; simp_all
  obtain ⟨rfl, rfl⟩ := trodVars_none hV
  obtain ⟨p0, len0, c0, rfl⟩ := okWide_slice Try.underlying22 (hval 0 22 v0 rfl rfl)
  have k0 := h0
  have lt0 : ∀ x ∈ p0x, x.block < W.heap.size := by obtain ⟨m, hm⟩ := k0; exact DataW.trod_lt m _ _ _ hm
  obtain ⟨l0, rfl, hlc0, hcm0, hp0, hin0⟩ : ∃ l : List Fd, l.length = len0 ∧ len0 ≤ c0 ∧ c0 ≤ maxLen ∧ (p0 = none → c0 = 0) ∧ LIn W p0 2 shFd l := by
    haveI : Inhabited Fd := ⟨zf⟩
    obtain ⟨fuel, hf⟩ := h0
    obtain ⟨l, p, c, hcs, hl1, hl2, hl3, _, hl4⟩ := opensZ_slice (size := 2) (bytes := 32) Try.underlying22 (by kernel_rfl) (by kernel_rfl) (by decide) opensZ_fd _ _ _ hf (hz 0 22 d0 rfl rfl)
    simp [Value.cells] at hcs
    obtain ⟨rfl, rfl, rfl⟩ := hcs
    exact ⟨l, rfl, hl1, hl2, hl3, hl4⟩
  clear hA0 hval0
  refine (walk p0 c0 l0 W hlc0 hcm0 hp0 hin0).mono fun e W' ⟨he, bel⟩ => ?_
  subst he
  exact ⟨_, rfl, _, _, _, [], _, [], hW', trodAll_mk1 (shut_bool Try.underlying4 _), (trodAll_cons_mk (Below.trod laidOut (by kernel_rfl) (of_decide_eq_true (by kernel_rfl)) k0 bel lt0) trodAll_mk0), rfl, bel.frame _, fun h => by cases h⟩

theorem over : Rows.bagMayRow.holds Try.pinned (OpenSpec.ofChange Rows.bagMaySpec) :=
  OpenClaim.holds_of_wide 3 Try.f3 rfl rfl rfl rfl rfl rfl rfl ⟨rfl, rfl, rfl, rfl, rfl⟩ rfl rfl rfl rfl rfl (by kernel_rfl) Try.func3 (by kernel_rfl)
    (of_decide_eq_true (by kernel_rfl)) (by unfold Func.isWrapper; first | (rw [if_pos (by decide +kernel)]; kernel_rfl) | (rw [if_neg (by decide +kernel)]; exact ⟨rfl, rfl⟩))
    (fun os started H enc _ => lifted os started H enc)

/-- The given statement. -/
theorem proved : Rows.BagMaySaid := over
#print axioms proved
end Go.Proofs.Ytecdagmeobiahaa.bagMay
