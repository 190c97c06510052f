/-
  Proved: the statement on layer 8's names (RecNames) returns true at every input, and leaves its arguments as they were. No condition.
-/
import Derived.Test.YtecdagmeobiahabRows
import Derived.Test.YtecdagmeobiahabLaw08
import Derived.ShutString
import Derived.ChangeOld
namespace Go.Proofs.Ytecdagmeobiahab.recNames
open Go.ChangeShapes Go.WideShapes Go.ChangeAt Go.RowKit
open Go.ChangeMaps (open_string shut_string)
set_option linter.unusedVariables false
set_option synthInstance.maxSize 2000
set_option linter.unusedSimpArgs false

/-- The last place below k whose name is s. -/
def fndS (s : ByteArray) : Nat → Int
  | 0 => -1
  | k + 1 => if stS k = s then (k : Int) else fndS s k

theorem fnd_stat (s : ByteArray) : (0 ≤ fndS s 4 ∧ statS s = (fndS s 4, true)) ∨ (fndS s 4 < 0 ∧ statS s = (0, false)) := by
  by_cases a1 : aliveS = s
  · subst a1; exact .inl (by decide)
  by_cases a2 : suspectS = s
  · subst a2; exact .inl (by decide)
  by_cases a3 : deadS = s
  · subst a3; exact .inl (by decide)
  by_cases a4 : leftS = s
  · subst a4; exact .inl (by decide)
  refine .inr ?_
  have e0 : stS ((0 : Nat) : Int) = aliveS := rfl
  have e1 : stS ((1 : Nat) : Int) = suspectS := rfl
  have e2 : stS ((2 : Nat) : Int) = deadS := rfl
  have e3 : stS ((3 : Nat) : Int) = leftS := rfl
  have hf : fndS s 4 = -1 := by simp only [fndS, e0, e1, e2, e3, if_neg a1, if_neg a2, if_neg a3, if_neg a4]
  rw [hf]
  exact ⟨by omega, by simp [statS, a1, a2, a3, a4]⟩

/-- The four names, laid in a slice. -/
structure InN (w : World) (b : Nat) (X : World) : Prop where
  row : X.heap[b]? = some (.cells #[.string ⟨#[97, 108, 105, 118, 101]⟩, .string ⟨#[115, 117, 115, 112, 101, 99, 116]⟩, .string ⟨#[100, 101, 97, 100]⟩, .string ⟨#[108, 101, 102, 116]⟩] 9 (0, 0))
  below : Below w.heap.size w X
theorem InN.on {w X X' : World} {b : Nat} (h : InN w b X) (k : Below X.heap.size X X') : InN w b X' :=
  ⟨by rw [k.block _ (Array.getElem?_eq_some_iff.1 h.row).1]; exact h.row, h.below.trans (k.mono h.below.size)⟩
theorem InN.cell {w X : World} {b : Nat} (h : InN w b X) (k : Nat) (hk : k < 4) : X.cell? ⟨b, k, none⟩ = some (.string (stS k)) := by
  obtain ⟨h0, h1, h2, h3⟩ := four_texts h.row
  match k, hk with
  | 0, _ => exact h0
  | 1, _ => exact h1
  | 2, _ => exact h2
  | 3, _ => exact h3

set_option maxHeartbeats 4000000 in
set_option maxRecDepth 10000 in
theorem walk (a0 : Int) (a1 : ByteArray) (w : World) (w0 : (Lit.int .i64 a0).wf = true) (w1 : a1.size ≤ maxLen) :
    Calls Try.prog 5 #[.int .i64 a0, .string a1] w fun e w' => e = .returned (.bool true) ∧ Below w.heap.size w w' := by
  have AW := fun X => awake8_any X
  have N0 := fun X => rname_any a0 X
  have ST := fun X => status_any a1 X
  have HE := Hid.mk' (show ¬ (0 ≤ a0 ∧ a0 ≤ 3) → stS a0 = ⟨#[]⟩ from fun t => by unfold stS; rw [if_neg (by omega), if_neg (by omega), if_neg (by omega), if_neg (by omega)])
  have HFS := Hid.mk' (fnd_stat a1)
  simp only [maxLen] at w1
  clear w0
  by_cases t0 : 20 < a1.size
  · go_enter Try.func5, Try.ntmps5
    go_wp2_with fail
    refine (AW _).mono ?_
    rintro e w2 ⟨rfl, hb2⟩
    go_wp2_with fail
    go_ret
    exact ⟨rfl, hb2⟩
  go_enter Try.func5, Try.ntmps5
  go_wp2_with fail
  refine (N0 _).mono ?_
  rintro e x1 ⟨rfl, hb1⟩
  have HB1 := Hid.mk' hb1
  clear hb1 N0 w1
  generalize statS a1 = z at ST HFS
  obtain ⟨zs, zk⟩ := z
  go_wp2_with fail
  refine (ST _).mono ?_
  rintro e x2 ⟨rfl, hb2⟩
  have HB2 := Hid.mk' (HB1.out.trans (hb2.mono HB1.out.size))
  clear hb2 HB1 ST
  by_cases t1 : 0 ≤ a0 ∧ a0 ≤ 3
  · have b0 : ¬ a0 < 0 := by omega
    have b1 : ¬ 3 < a0 := by omega
    clear t1 HE
    generalize stS a0 = ty
    have HI : Hid (InN w x2.heap.size (x2.alloc (.cells #[.string ⟨#[97, 108, 105, 118, 101]⟩, .string ⟨#[115, 117, 115, 112, 101, 99, 116]⟩, .string ⟨#[100, 101, 97, 100]⟩, .string ⟨#[108, 101, 102, 116]⟩] 9))) := ⟨heap_alloc_new x2 _, HB2.out.alloc HB2.out.size _⟩
    clear HB2
    go_wp2_with fail
    go_loopw [9, 10] (fun n i W => ∃ k : Nat, k ≤ 4 ∧ i = .int .i64 k ∧ n = .int .i64 (fndS a1 k) ∧ Hid (InN w x2.heap.size W)) (fun n i _ => 4 - (intOf i).toNat)
    case atStart => exact ⟨0, by omega, rfl, rfl, HI⟩
    case round =>
      obtain ⟨k, hk, rfl, rfl, HI⟩ := hrel
      by_cases t : k < 4
      · have N1 := fun X => rname_any k X
        have hS0 : wr.drew.cell? ⟨x2.heap.size, k, none⟩ = some (.string (stS k)) ∧ Hid (InN w x2.heap.size wr.drew) := ⟨HI.out.cell k t, HI.out.on (Below.refl _ _).drew⟩
        have HF := Hid.mk' (show fndS a1 (k + 1) = if stS k = a1 then (k : Int) else fndS a1 k from rfl)
        have e1 := textR_eq (stS k) a1
        generalize stS k = y at N1 hS0 HF e1
        have e0 : (y.toList != y.toList) = false := by simp
        generalize fndS a1 k = f0 at HF ⊢
        clear HI
        go_wp2_with fail
        refine wp_region_held_drew (S := fun X => X.cell? ⟨x2.heap.size, k, none⟩ = some (.string y) ∧ Hid (InN w x2.heap.size X)) (by kernel_rfl) hS0 (fun hS => ?_)
        clear hS0
        generalize wr.drew = wd at hS ⊢
        refine wpAnyH_take (i := 0) (v := ?v0_35) rfl (by kernel_rfl) (by kernel_rfl) (by kernel_rfl) (fun _ _ _ h => h) (Or.inl ⟨by rfl, ?hy0_35⟩) (by assumption) ?rest0_35
        case hy0_35 => (intro w hSw; (try dsimp only at hSw); go_simp; try (with_reducible rfl))
        simp only [Act.put, List.getElem_toArray, List.getElem_cons_zero, List.getElem_cons_succ, List.setIfInBounds_toArray, List.set_cons_zero, List.set_cons_succ]
        refine wpAnyH_take (i := 2) (v := ?v2_36) rfl (by kernel_rfl) (by kernel_rfl) (by kernel_rfl) (fun _ _ _ h => h) (Or.inl ⟨by rfl, ?hy2_36⟩) (by assumption) ?rest2_36
        case hy2_36 => (intro w hSw; (try dsimp only at hSw); go_simp; try (with_reducible rfl))
        simp only [Act.put, List.getElem_toArray, List.getElem_cons_zero, List.getElem_cons_succ, List.setIfInBounds_toArray, List.set_cons_zero, List.set_cons_succ]
        refine wpAnyH_take (i := 3) (v := ?v3_37) rfl (by kernel_rfl) (by kernel_rfl) (by kernel_rfl) (fun _ _ _ h => h) (Or.inl ⟨by rfl, ?hy3_37⟩) (by assumption) ?rest3_37
        case hy3_37 => (intro w hSw; (try dsimp only at hSw); go_simp; try (with_reducible rfl))
        simp only [Act.put, List.getElem_toArray, List.getElem_cons_zero, List.getElem_cons_succ, List.setIfInBounds_toArray, List.set_cons_zero, List.set_cons_succ]
        refine wpAnyH_take (i := 4) (v := ?v4_38) rfl (by kernel_rfl) (by kernel_rfl) (by kernel_rfl) (fun _ _ _ h => h) (Or.inl ⟨by rfl, ?hy4_38⟩) (by assumption) ?rest4_38
        case hy4_38 => (intro w hSw; (try dsimp only at hSw); go_simp; try (with_reducible rfl))
        simp only [Act.put, List.getElem_toArray, List.getElem_cons_zero, List.getElem_cons_succ, List.setIfInBounds_toArray, List.set_cons_zero, List.set_cons_succ]
        refine wpAnyH_take (i := 5) (v := ?v5_39) rfl (by kernel_rfl) (by kernel_rfl) (by kernel_rfl) (fun _ _ _ h => h) (Or.inl ⟨by rfl, ?hy5_39⟩) (by assumption) ?rest5_39
        case hy5_39 => (intro w hSw; (try dsimp only at hSw); go_simp; try (with_reducible rfl))
        simp only [Act.put, List.getElem_toArray, List.getElem_cons_zero, List.getElem_cons_succ, List.setIfInBounds_toArray, List.set_cons_zero, List.set_cons_succ]
        refine wpAnyH_ready (rs := [1]) (by kernel_rfl) (by simp) ?_
        refine (AllReadyH.cons rfl (fun K hK => ?_) AllReadyH.nil)
        go_simp
        refine (N1 _).mono ?_
        rintro e w3 ⟨rfl, hb3⟩
        have hI3 := hS.2.out.on hb3
        have hc3 : w3.cell? ⟨x2.heap.size, k, none⟩ = some (.string y) := by rw [hb3.cell (p := ⟨x2.heap.size, k, none⟩) (lt_of_cell hS.1)]; exact hS.1
        clear hb3
        go_wp2_with fail
        refine hK.out _ _ ?_ (fun hS' => ?_)
        · exact ⟨hc3, hI3⟩
        clear hK K
        try simp only [Act.put, List.getElem_toArray, List.getElem_cons_zero, List.getElem_cons_succ, List.setIfInBounds_toArray, List.set_cons_zero, List.set_cons_succ]
        replace hS := hS'
        clear hS'
        refine wpAnyH_take (i := 6) (v := ?v6_40) rfl (by kernel_rfl) (by kernel_rfl) (by kernel_rfl) (fun _ _ _ h => h) (Or.inl ⟨by rfl, ?hy6_40⟩) (by assumption) ?rest6_40
        case hy6_40 => (intro w hSw; (try dsimp only at hSw); go_simp; try (with_reducible rfl))
        simp only [Act.put, List.getElem_toArray, List.getElem_cons_zero, List.getElem_cons_succ, List.setIfInBounds_toArray, List.set_cons_zero, List.set_cons_succ]
        refine wpAnyH_done (by kernel_rfl) ?_ _
        obtain ⟨hc, hI⟩ := hS
        by_cases t2 : y = a1
        · rw [decide_eq_true t2] at e1
          have HV := Hid.mk' (show fndS a1 (k + 1) = (k : Int) by rw [HF.out, if_pos t2])
          clear t2 HF
          go_wp2_with fail
          go_roundw
          case rel => exact ⟨k + 1, by omega, by go_num, by rw [HV.out], hI⟩
          case measure => simp [intOf]; omega
        · rw [decide_eq_false t2] at e1
          have HV := Hid.mk' (show fndS a1 (k + 1) = f0 by rw [HF.out, if_neg t2])
          clear t2 HF
          go_wp2_with fail
          go_roundw
          case rel => exact ⟨k + 1, by omega, by go_num, by rw [HV.out], hI⟩
          case measure => simp [intOf]; omega
      · obtain rfl : k = 4 := by omega
        have hfs := HFS.out
        generalize fndS a1 4 = f0 at hfs ⊢
        rcases hfs with ⟨h1, h2⟩ | ⟨h1, h2⟩
        · simp only [Prod.mk.injEq] at h2
          obtain ⟨rfl, rfl⟩ := h2
          go_wp2_with fail
          refine (AW _).mono ?_
          rintro e w4 ⟨rfl, hb4⟩
          have HB4 := Hid.mk' (HI.out.on hb4).below
          clear hb4
          go_wp2_with fail
          go_ret
          exact ⟨rfl, HB4.out⟩
        · simp only [Prod.mk.injEq] at h2
          obtain ⟨rfl, rfl⟩ := h2
          have d1 : decide (0 ≤ f0) = false := by simp; omega
          go_wp2_with fail
          refine (AW _).mono ?_
          rintro e w4 ⟨rfl, hb4⟩
          have HB4 := Hid.mk' (HI.out.on hb4).below
          clear hb4
          go_wp2_with fail
          go_ret
          exact ⟨rfl, HB4.out⟩
  · have he := HE.out t1
    rw [he]
    have hor : a0 < 0 ∨ ¬ a0 < 0 ∧ 3 < a0 := by omega
    clear t1 HE he
    rcases hor with hor | ⟨hor, hor2⟩
    · skip
      have HI : Hid (InN w x2.heap.size (x2.alloc (.cells #[.string ⟨#[97, 108, 105, 118, 101]⟩, .string ⟨#[115, 117, 115, 112, 101, 99, 116]⟩, .string ⟨#[100, 101, 97, 100]⟩, .string ⟨#[108, 101, 102, 116]⟩] 9))) := ⟨heap_alloc_new x2 _, HB2.out.alloc HB2.out.size _⟩
      clear HB2
      go_wp2_with fail
      go_loopw [9, 10] (fun n i W => ∃ k : Nat, k ≤ 4 ∧ i = .int .i64 k ∧ n = .int .i64 (fndS a1 k) ∧ Hid (InN w x2.heap.size W)) (fun n i _ => 4 - (intOf i).toNat)
      case atStart => exact ⟨0, by omega, rfl, rfl, HI⟩
      case round =>
        obtain ⟨k, hk, rfl, rfl, HI⟩ := hrel
        by_cases t : k < 4
        · have N1 := fun X => rname_any k X
          have hS0 : wr.drew.cell? ⟨x2.heap.size, k, none⟩ = some (.string (stS k)) ∧ Hid (InN w x2.heap.size wr.drew) := ⟨HI.out.cell k t, HI.out.on (Below.refl _ _).drew⟩
          have HF := Hid.mk' (show fndS a1 (k + 1) = if stS k = a1 then (k : Int) else fndS a1 k from rfl)
          have e1 := textR_eq (stS k) a1
          generalize stS k = y at N1 hS0 HF e1
          have e0 : (y.toList != y.toList) = false := by simp
          generalize fndS a1 k = f0 at HF ⊢
          clear HI
          go_wp2_with fail
          refine wp_region_held_drew (S := fun X => X.cell? ⟨x2.heap.size, k, none⟩ = some (.string y) ∧ Hid (InN w x2.heap.size X)) (by kernel_rfl) hS0 (fun hS => ?_)
          clear hS0
          generalize wr.drew = wd at hS ⊢
          refine wpAnyH_take (i := 0) (v := ?v0_41) rfl (by kernel_rfl) (by kernel_rfl) (by kernel_rfl) (fun _ _ _ h => h) (Or.inl ⟨by rfl, ?hy0_41⟩) (by assumption) ?rest0_41
          case hy0_41 => (intro w hSw; (try dsimp only at hSw); go_simp; try (with_reducible rfl))
          simp only [Act.put, List.getElem_toArray, List.getElem_cons_zero, List.getElem_cons_succ, List.setIfInBounds_toArray, List.set_cons_zero, List.set_cons_succ]
          refine wpAnyH_take (i := 2) (v := ?v2_42) rfl (by kernel_rfl) (by kernel_rfl) (by kernel_rfl) (fun _ _ _ h => h) (Or.inl ⟨by rfl, ?hy2_42⟩) (by assumption) ?rest2_42
          case hy2_42 => (intro w hSw; (try dsimp only at hSw); go_simp; try (with_reducible rfl))
          simp only [Act.put, List.getElem_toArray, List.getElem_cons_zero, List.getElem_cons_succ, List.setIfInBounds_toArray, List.set_cons_zero, List.set_cons_succ]
          refine wpAnyH_take (i := 3) (v := ?v3_43) rfl (by kernel_rfl) (by kernel_rfl) (by kernel_rfl) (fun _ _ _ h => h) (Or.inl ⟨by rfl, ?hy3_43⟩) (by assumption) ?rest3_43
          case hy3_43 => (intro w hSw; (try dsimp only at hSw); go_simp; try (with_reducible rfl))
          simp only [Act.put, List.getElem_toArray, List.getElem_cons_zero, List.getElem_cons_succ, List.setIfInBounds_toArray, List.set_cons_zero, List.set_cons_succ]
          refine wpAnyH_take (i := 4) (v := ?v4_44) rfl (by kernel_rfl) (by kernel_rfl) (by kernel_rfl) (fun _ _ _ h => h) (Or.inl ⟨by rfl, ?hy4_44⟩) (by assumption) ?rest4_44
          case hy4_44 => (intro w hSw; (try dsimp only at hSw); go_simp; try (with_reducible rfl))
          simp only [Act.put, List.getElem_toArray, List.getElem_cons_zero, List.getElem_cons_succ, List.setIfInBounds_toArray, List.set_cons_zero, List.set_cons_succ]
          refine wpAnyH_take (i := 5) (v := ?v5_45) rfl (by kernel_rfl) (by kernel_rfl) (by kernel_rfl) (fun _ _ _ h => h) (Or.inl ⟨by rfl, ?hy5_45⟩) (by assumption) ?rest5_45
          case hy5_45 => (intro w hSw; (try dsimp only at hSw); go_simp; try (with_reducible rfl))
          simp only [Act.put, List.getElem_toArray, List.getElem_cons_zero, List.getElem_cons_succ, List.setIfInBounds_toArray, List.set_cons_zero, List.set_cons_succ]
          refine wpAnyH_ready (rs := [1]) (by kernel_rfl) (by simp) ?_
          refine (AllReadyH.cons rfl (fun K hK => ?_) AllReadyH.nil)
          go_simp
          refine (N1 _).mono ?_
          rintro e w3 ⟨rfl, hb3⟩
          have hI3 := hS.2.out.on hb3
          have hc3 : w3.cell? ⟨x2.heap.size, k, none⟩ = some (.string y) := by rw [hb3.cell (p := ⟨x2.heap.size, k, none⟩) (lt_of_cell hS.1)]; exact hS.1
          clear hb3
          go_wp2_with fail
          refine hK.out _ _ ?_ (fun hS' => ?_)
          · exact ⟨hc3, hI3⟩
          clear hK K
          try simp only [Act.put, List.getElem_toArray, List.getElem_cons_zero, List.getElem_cons_succ, List.setIfInBounds_toArray, List.set_cons_zero, List.set_cons_succ]
          replace hS := hS'
          clear hS'
          refine wpAnyH_take (i := 6) (v := ?v6_46) rfl (by kernel_rfl) (by kernel_rfl) (by kernel_rfl) (fun _ _ _ h => h) (Or.inl ⟨by rfl, ?hy6_46⟩) (by assumption) ?rest6_46
          case hy6_46 => (intro w hSw; (try dsimp only at hSw); go_simp; try (with_reducible rfl))
          simp only [Act.put, List.getElem_toArray, List.getElem_cons_zero, List.getElem_cons_succ, List.setIfInBounds_toArray, List.set_cons_zero, List.set_cons_succ]
          refine wpAnyH_done (by kernel_rfl) ?_ _
          obtain ⟨hc, hI⟩ := hS
          by_cases t2 : y = a1
          · rw [decide_eq_true t2] at e1
            have HV := Hid.mk' (show fndS a1 (k + 1) = (k : Int) by rw [HF.out, if_pos t2])
            clear t2 HF
            go_wp2_with fail
            go_roundw
            case rel => exact ⟨k + 1, by omega, by go_num, by rw [HV.out], hI⟩
            case measure => simp [intOf]; omega
          · rw [decide_eq_false t2] at e1
            have HV := Hid.mk' (show fndS a1 (k + 1) = f0 by rw [HF.out, if_neg t2])
            clear t2 HF
            go_wp2_with fail
            go_roundw
            case rel => exact ⟨k + 1, by omega, by go_num, by rw [HV.out], hI⟩
            case measure => simp [intOf]; omega
        · obtain rfl : k = 4 := by omega
          have hfs := HFS.out
          generalize fndS a1 4 = f0 at hfs ⊢
          rcases hfs with ⟨h1, h2⟩ | ⟨h1, h2⟩
          · simp only [Prod.mk.injEq] at h2
            obtain ⟨rfl, rfl⟩ := h2
            go_wp2_with fail
            refine (AW _).mono ?_
            rintro e w4 ⟨rfl, hb4⟩
            have HB4 := Hid.mk' (HI.out.on hb4).below
            clear hb4
            go_wp2_with fail
            go_ret
            exact ⟨rfl, HB4.out⟩
          · simp only [Prod.mk.injEq] at h2
            obtain ⟨rfl, rfl⟩ := h2
            have d1 : decide (0 ≤ f0) = false := by simp; omega
            go_wp2_with fail
            refine (AW _).mono ?_
            rintro e w4 ⟨rfl, hb4⟩
            have HB4 := Hid.mk' (HI.out.on hb4).below
            clear hb4
            go_wp2_with fail
            go_ret
            exact ⟨rfl, HB4.out⟩
    · skip
      have HI : Hid (InN w x2.heap.size (x2.alloc (.cells #[.string ⟨#[97, 108, 105, 118, 101]⟩, .string ⟨#[115, 117, 115, 112, 101, 99, 116]⟩, .string ⟨#[100, 101, 97, 100]⟩, .string ⟨#[108, 101, 102, 116]⟩] 9))) := ⟨heap_alloc_new x2 _, HB2.out.alloc HB2.out.size _⟩
      clear HB2
      go_wp2_with fail
      go_loopw [9, 10] (fun n i W => ∃ k : Nat, k ≤ 4 ∧ i = .int .i64 k ∧ n = .int .i64 (fndS a1 k) ∧ Hid (InN w x2.heap.size W)) (fun n i _ => 4 - (intOf i).toNat)
      case atStart => exact ⟨0, by omega, rfl, rfl, HI⟩
      case round =>
        obtain ⟨k, hk, rfl, rfl, HI⟩ := hrel
        by_cases t : k < 4
        · have N1 := fun X => rname_any k X
          have hS0 : wr.drew.cell? ⟨x2.heap.size, k, none⟩ = some (.string (stS k)) ∧ Hid (InN w x2.heap.size wr.drew) := ⟨HI.out.cell k t, HI.out.on (Below.refl _ _).drew⟩
          have HF := Hid.mk' (show fndS a1 (k + 1) = if stS k = a1 then (k : Int) else fndS a1 k from rfl)
          have e1 := textR_eq (stS k) a1
          generalize stS k = y at N1 hS0 HF e1
          have e0 : (y.toList != y.toList) = false := by simp
          generalize fndS a1 k = f0 at HF ⊢
          clear HI
          go_wp2_with fail
          refine wp_region_held_drew (S := fun X => X.cell? ⟨x2.heap.size, k, none⟩ = some (.string y) ∧ Hid (InN w x2.heap.size X)) (by kernel_rfl) hS0 (fun hS => ?_)
          clear hS0
          generalize wr.drew = wd at hS ⊢
          refine wpAnyH_take (i := 0) (v := ?v0_47) rfl (by kernel_rfl) (by kernel_rfl) (by kernel_rfl) (fun _ _ _ h => h) (Or.inl ⟨by rfl, ?hy0_47⟩) (by assumption) ?rest0_47
          case hy0_47 => (intro w hSw; (try dsimp only at hSw); go_simp; try (with_reducible rfl))
          simp only [Act.put, List.getElem_toArray, List.getElem_cons_zero, List.getElem_cons_succ, List.setIfInBounds_toArray, List.set_cons_zero, List.set_cons_succ]
          refine wpAnyH_take (i := 2) (v := ?v2_48) rfl (by kernel_rfl) (by kernel_rfl) (by kernel_rfl) (fun _ _ _ h => h) (Or.inl ⟨by rfl, ?hy2_48⟩) (by assumption) ?rest2_48
          case hy2_48 => (intro w hSw; (try dsimp only at hSw); go_simp; try (with_reducible rfl))
          simp only [Act.put, List.getElem_toArray, List.getElem_cons_zero, List.getElem_cons_succ, List.setIfInBounds_toArray, List.set_cons_zero, List.set_cons_succ]
          refine wpAnyH_take (i := 3) (v := ?v3_49) rfl (by kernel_rfl) (by kernel_rfl) (by kernel_rfl) (fun _ _ _ h => h) (Or.inl ⟨by rfl, ?hy3_49⟩) (by assumption) ?rest3_49
          case hy3_49 => (intro w hSw; (try dsimp only at hSw); go_simp; try (with_reducible rfl))
          simp only [Act.put, List.getElem_toArray, List.getElem_cons_zero, List.getElem_cons_succ, List.setIfInBounds_toArray, List.set_cons_zero, List.set_cons_succ]
          refine wpAnyH_take (i := 4) (v := ?v4_50) rfl (by kernel_rfl) (by kernel_rfl) (by kernel_rfl) (fun _ _ _ h => h) (Or.inl ⟨by rfl, ?hy4_50⟩) (by assumption) ?rest4_50
          case hy4_50 => (intro w hSw; (try dsimp only at hSw); go_simp; try (with_reducible rfl))
          simp only [Act.put, List.getElem_toArray, List.getElem_cons_zero, List.getElem_cons_succ, List.setIfInBounds_toArray, List.set_cons_zero, List.set_cons_succ]
          refine wpAnyH_take (i := 5) (v := ?v5_51) rfl (by kernel_rfl) (by kernel_rfl) (by kernel_rfl) (fun _ _ _ h => h) (Or.inl ⟨by rfl, ?hy5_51⟩) (by assumption) ?rest5_51
          case hy5_51 => (intro w hSw; (try dsimp only at hSw); go_simp; try (with_reducible rfl))
          simp only [Act.put, List.getElem_toArray, List.getElem_cons_zero, List.getElem_cons_succ, List.setIfInBounds_toArray, List.set_cons_zero, List.set_cons_succ]
          refine wpAnyH_ready (rs := [1]) (by kernel_rfl) (by simp) ?_
          refine (AllReadyH.cons rfl (fun K hK => ?_) AllReadyH.nil)
          go_simp
          refine (N1 _).mono ?_
          rintro e w3 ⟨rfl, hb3⟩
          have hI3 := hS.2.out.on hb3
          have hc3 : w3.cell? ⟨x2.heap.size, k, none⟩ = some (.string y) := by rw [hb3.cell (p := ⟨x2.heap.size, k, none⟩) (lt_of_cell hS.1)]; exact hS.1
          clear hb3
          go_wp2_with fail
          refine hK.out _ _ ?_ (fun hS' => ?_)
          · exact ⟨hc3, hI3⟩
          clear hK K
          try simp only [Act.put, List.getElem_toArray, List.getElem_cons_zero, List.getElem_cons_succ, List.setIfInBounds_toArray, List.set_cons_zero, List.set_cons_succ]
          replace hS := hS'
          clear hS'
          refine wpAnyH_take (i := 6) (v := ?v6_52) rfl (by kernel_rfl) (by kernel_rfl) (by kernel_rfl) (fun _ _ _ h => h) (Or.inl ⟨by rfl, ?hy6_52⟩) (by assumption) ?rest6_52
          case hy6_52 => (intro w hSw; (try dsimp only at hSw); go_simp; try (with_reducible rfl))
          simp only [Act.put, List.getElem_toArray, List.getElem_cons_zero, List.getElem_cons_succ, List.setIfInBounds_toArray, List.set_cons_zero, List.set_cons_succ]
          refine wpAnyH_done (by kernel_rfl) ?_ _
          obtain ⟨hc, hI⟩ := hS
          by_cases t2 : y = a1
          · rw [decide_eq_true t2] at e1
            have HV := Hid.mk' (show fndS a1 (k + 1) = (k : Int) by rw [HF.out, if_pos t2])
            clear t2 HF
            go_wp2_with fail
            go_roundw
            case rel => exact ⟨k + 1, by omega, by go_num, by rw [HV.out], hI⟩
            case measure => simp [intOf]; omega
          · rw [decide_eq_false t2] at e1
            have HV := Hid.mk' (show fndS a1 (k + 1) = f0 by rw [HF.out, if_neg t2])
            clear t2 HF
            go_wp2_with fail
            go_roundw
            case rel => exact ⟨k + 1, by omega, by go_num, by rw [HV.out], hI⟩
            case measure => simp [intOf]; omega
        · obtain rfl : k = 4 := by omega
          have hfs := HFS.out
          generalize fndS a1 4 = f0 at hfs ⊢
          rcases hfs with ⟨h1, h2⟩ | ⟨h1, h2⟩
          · simp only [Prod.mk.injEq] at h2
            obtain ⟨rfl, rfl⟩ := h2
            go_wp2_with fail
            refine (AW _).mono ?_
            rintro e w4 ⟨rfl, hb4⟩
            have HB4 := Hid.mk' (HI.out.on hb4).below
            clear hb4
            go_wp2_with fail
            go_ret
            exact ⟨rfl, HB4.out⟩
          · simp only [Prod.mk.injEq] at h2
            obtain ⟨rfl, rfl⟩ := h2
            have d1 : decide (0 ≤ f0) = false := by simp; omega
            go_wp2_with fail
            refine (AW _).mono ?_
            rintro e w4 ⟨rfl, hb4⟩
            have HB4 := Hid.mk' (HI.out.on hb4).below
            clear hb4
            go_wp2_with fail
            go_ret
            exact ⟨rfl, HB4.out⟩

theorem own : ownKnob Try.prog.godebug = none := by kernel_rfl
theorem laidOut : laidOutB Try.prog = true := by kernel_rfl

set_option maxRecDepth 100000 in
theorem lifted (os : Os) (started : os.Started) (H : Type) (enc : TypeId × Value → H) :
    ReturnsInHanded {} Try.checked os 5 .any (Rows.recNamesSpec.pre6 enc Try.prog Try.f5 Rows.recNamesRow.domain false) (Rows.recNamesSpec.post enc Try.prog Try.f5 false true false false) := by
  refine returnsInHanded_of_change (C := Try.checked) own started (by kernel_rfl) Try.func5
    (ChangeSpec.witness6 (enc := enc) (C := Try.checked) false ⟨#[], #[.int .i64 0, .string ByteArray.empty], []⟩ 8 (by kernel_rfl) (by kernel_rfl) (by kernel_rfl) (by kernel_rfl)) ?_
  intro W base args ds gs before hval0 hW hcnd _
  have hval : ∀ (j : Nat) t v, Try.f5.params[j]? = some t → args[j]? = some v → Value.okWide Try.prog W .any base t v := hval0
  have hW' := hW
  obtain ⟨p, q, hA0, hV, rfl, hfz, hnd⟩ := hW
  have hA : DataW.TrodAll enc Try.prog W 0 (fun _ => true) true Try.f5.params.toList args.toList ds p := hA0
  rw [Try.params5] at hA hval
  obtain ⟨v0, vs0, d0, ds0, p0x, q0, hargs, rfl, rfl, h0, r0⟩ := trodAll_cons hA
  obtain ⟨v1, vs1, d1, ds1, p1x, q1, rfl, rfl, rfl, h1, r1⟩ := trodAll_cons r0
  obtain ⟨rfl, rfl, rfl⟩ := trodAll_nil r1
  obtain rfl : args = #[v0, v1] := by cases args; simp_all
  obtain ⟨rfl, rfl⟩ := trodVars_none hV
  obtain ⟨a0, rfl, rfl, rfl, w0⟩ := open_int Try.underlying3 (hval 0 3 v0 rfl rfl) h0
  obtain ⟨a1, rfl, rfl, rfl, w1⟩ := open_string Try.underlying9 (hval 1 9 v1 rfl rfl) h1
  clear hA0 hval0
  refine (walk a0 a1 W w0 w1).mono fun e W' ⟨he, bel⟩ => ?_
  subst he
  exact ⟨_, rfl, _, _, _, [], _, [], hW', trodAll_mk1 (shut_bool Try.underlying4 _), (trodAll_cons_mk (shut_int Try.underlying3 w0) (trodAll_cons_mk (shut_string Try.underlying9 w1) trodAll_mk0)), rfl, bel.frame _, fun h => by cases h⟩

theorem over : Rows.recNamesRow.holds Try.pinned (OpenSpec.ofChange Rows.recNamesSpec) :=
  OpenClaim.holds_of_wide 5 Try.f5 rfl rfl rfl rfl rfl rfl rfl ⟨rfl, rfl, rfl, rfl, rfl⟩ rfl rfl rfl rfl rfl (by kernel_rfl) Try.func5 (by kernel_rfl)
    (of_decide_eq_true (by kernel_rfl)) (by unfold Func.isWrapper; first | (rw [if_pos (by decide +kernel)]; kernel_rfl) | (rw [if_neg (by decide +kernel)]; exact ⟨rfl, rfl⟩))
    (fun os started H enc _ => lifted os started H enc)

/-- The given statement. -/
theorem proved : Rows.RecNamesSaid := over
#print axioms proved
end Go.Proofs.Ytecdagmeobiahab.recNames
