/-
  Stage 12: the statements' own lay.
-/
import Derived.Test.YtflllegengomnaaLaw12
import Derived.Deep.RegionHeld3
import Derived.RegionCalls
namespace Go.Proofs.Ytflllegengomnaa
open Go.RowKit
set_option linter.unusedSimpArgs false
set_option linter.unusedVariables false
set_option maxRecDepth 10000

theorem acc_off {X : World} {B : Nat} {v : Value} {l : List Int} (h : Acc X B v l) {a : Addr} (ha : a.block < B) : ¬ v.ownBlock = some a.block := fun q => by
  have := h.above _ q
  omega

set_option maxHeartbeats 4000000 in
theorem lay_any (p : Option Addr) (c : Nat) (l : List Fd) (w : World) (hp : FIn w p l) (hn : l.length ≤ maxLen) (hz : (joinK (kys l)).length + 100 ≤ 140737488355328) :
    Calls Try.prog 10 #[.slice p l.length c] w fun e w' => ∃ p' c', e = .returned (.slice p' (joinK (kys l)).length c') ∧ BIn w' p' (joinK (kys l)) ∧ (p' = none → c' = 0) ∧ Below w.heap.size w w' := by
  simp only [maxLen] at hn
  go_enter Try.func10, Try.ntmps10
  go_wp2
  go_loopw [3, 4] (fun v i W => ∃ k : Nat, k ≤ l.length ∧ i = .int .i64 k ∧ Hid (Acc W w.heap.size v (joinK (kys (l.take k)))) ∧ Hid (Below w.heap.size w W)) (fun _ i _ => l.length - (intOf i).toNat)
  case atStart => exact ⟨0, by omega, rfl, Acc.nil _ _, Below.refl _ _⟩
  case round =>
    obtain ⟨k, hk, rfl, HA, HB⟩ := hrel
    by_cases t : k < l.length
    · obtain ⟨b, o, rfl, hc0⟩ := hp.at (by omega)
      obtain ⟨e0, e1, hx⟩ := hc0 k t
      have HJ := Hid.mk' (joinK_next l k t)
      have HLE := Hid.mk' (joinK_take_le l (k + 1))
      generalize l.getD k zf = y at e0 e1 hx HJ
      have HLT := Hid.mk' (show b < w.heap.size from lt_of_cell e0)
      have HE0 := Hid.mk' e0
      have HE1 := Hid.mk' e1
      have HX := Hid.mk' hx
      have hfew := hx.few
      have HSZ := Hid.mk' (show (joinK (kys (l.take k))).length + 3 + y.d.length + 100 ≤ 140737488355328 by have h := HLE.out; rw [HJ.out, List.length_append, encK_len] at h; simp only [ky] at h; omega)
      clear hc0 e0 e1 hx HLE
      have HAd : Hid (Acc wr.drew w.heap.size u3 (joinK (kys (l.take k)))) := HA.out.below (Below.refl _ _).drew
      have HBd : Hid (Below w.heap.size w wr.drew) := HB.out.drew
      have hS0 : wr.drew.cell? ⟨b, o + k * 2, none⟩ = some (.int .i64 y.tag) ∧ wr.drew.cell? ⟨b, o + k * 2 + 1, none⟩ = some (.slice y.p y.d.length y.cap) := ⟨by rw [HBd.out.cell (p := ⟨b, o + k * 2, none⟩) HLT.out]; exact HE0.out, by rw [HBd.out.cell (p := ⟨b, o + k * 2 + 1, none⟩) HLT.out]; exact HE1.out⟩
      go_upto_region 5 with fail
      go_wp2_with fail
      refine wp_region_held_drew (S := fun X => X.cell? ⟨b, o + k * 2, none⟩ = some (.int .i64 y.tag) ∧ X.cell? ⟨b, o + k * 2 + 1, none⟩ = some (.slice y.p y.d.length y.cap)) (by kernel_rfl) hS0 (fun hS => ?_)
      clear hS0
      generalize wr.drew = wd at hS HAd HBd ⊢
      have q1 : (y.d.length : Int).tdiv 256 = (y.d.length : Int) / 256 := Int.tdiv_eq_ediv_of_nonneg (by omega)
      have q2 : (y.d.length : Int).tmod 256 = (y.d.length : Int) % 256 := Int.tmod_eq_emod_of_nonneg (by omega)
      have q3 : IntKind.i64.wrap ((y.d.length : Int) / 256) = (y.d.length : Int) / 256 := by rw [IntKind.wrap_i64]; omega
      have q4 : IntKind.u8.wrap ((y.d.length : Int) / 256) = (y.d.length : Int) / 256 % 256 := by rw [IntKind.wrap_u8]
      have q5 : IntKind.u8.wrap ((y.d.length : Int) % 256) = (y.d.length : Int) % 256 := by rw [IntKind.wrap_u8]; omega
      have q6 : IntKind.u8.wrap y.tag = y.tag % 256 := by rw [IntKind.wrap_u8]
      refine wpAnyH_take (i := 0) (v := ?v0_9) rfl (by kernel_rfl) (by kernel_rfl) (by kernel_rfl) (fun _ _ _ h => h) (Or.inl ⟨by rfl, ?hy0_9⟩) (by assumption) ?rest0_9
      case hy0_9 => (intro w hSw; (try dsimp only at hSw); go_simp; try (with_reducible rfl))
      simp only [Act.put, List.getElem_toArray, List.getElem_cons_zero, List.getElem_cons_succ, List.setIfInBounds_toArray, List.set_cons_zero, List.set_cons_succ]
      refine wpAnyH_take (i := 1) (v := ?v1_10) rfl (by kernel_rfl) (by kernel_rfl) (by kernel_rfl) (fun _ _ _ h => h) (Or.inl ⟨by rfl, ?hy1_10⟩) (by assumption) ?rest1_10
      case hy1_10 => (intro w hSw; (try dsimp only at hSw); go_simp; try (with_reducible rfl))
      simp only [Act.put, List.getElem_toArray, List.getElem_cons_zero, List.getElem_cons_succ, List.setIfInBounds_toArray, List.set_cons_zero, List.set_cons_succ]
      refine wpAnyH_take (i := 2) (v := ?v2_11) rfl (by kernel_rfl) (by kernel_rfl) (by kernel_rfl) (fun _ _ _ h => h) (Or.inl ⟨by rfl, ?hy2_11⟩) (by assumption) ?rest2_11
      case hy2_11 => (intro w hSw; (try dsimp only at hSw); go_simp; try (with_reducible rfl))
      simp only [Act.put, List.getElem_toArray, List.getElem_cons_zero, List.getElem_cons_succ, List.setIfInBounds_toArray, List.set_cons_zero, List.set_cons_succ]
      refine wpAnyH_take (i := 3) (v := ?v3_12) rfl (by kernel_rfl) (by kernel_rfl) (by kernel_rfl) (fun _ _ _ h => h) (Or.inl ⟨by rfl, ?hy3_12⟩) (by assumption) ?rest3_12
      case hy3_12 => (intro w hSw; (try dsimp only at hSw); go_simp; try (with_reducible rfl))
      simp only [Act.put, List.getElem_toArray, List.getElem_cons_zero, List.getElem_cons_succ, List.setIfInBounds_toArray, List.set_cons_zero, List.set_cons_succ]
      refine wpAnyH_take (i := 4) (v := ?v4_13) rfl (by kernel_rfl) (by kernel_rfl) (by kernel_rfl) (fun _ _ _ h => h) (Or.inl ⟨by rfl, ?hy4_13⟩) (by assumption) ?rest4_13
      case hy4_13 => (intro w hSw; (try dsimp only at hSw); go_simp; try (with_reducible rfl))
      simp only [Act.put, List.getElem_toArray, List.getElem_cons_zero, List.getElem_cons_succ, List.setIfInBounds_toArray, List.set_cons_zero, List.set_cons_succ]
      refine wpAnyH_take (i := 5) (v := ?v5_14) rfl (by kernel_rfl) (by kernel_rfl) (by kernel_rfl) (fun _ _ _ h => h) (Or.inl ⟨by rfl, ?hy5_14⟩) (by assumption) ?rest5_14
      case hy5_14 => (intro w hSw; (try dsimp only at hSw); go_simp; try (with_reducible rfl))
      simp only [Act.put, List.getElem_toArray, List.getElem_cons_zero, List.getElem_cons_succ, List.setIfInBounds_toArray, List.set_cons_zero, List.set_cons_succ]
      refine wpAnyH_take (i := 6) (v := ?v6_15) rfl (by kernel_rfl) (by kernel_rfl) (by kernel_rfl) (fun _ _ _ h => h) (Or.inl ⟨by rfl, ?hy6_15⟩) (by assumption) ?rest6_15
      case hy6_15 => (intro w hSw; (try dsimp only at hSw); go_simp; try (with_reducible rfl))
      simp only [Act.put, List.getElem_toArray, List.getElem_cons_zero, List.getElem_cons_succ, List.setIfInBounds_toArray, List.set_cons_zero, List.set_cons_succ]
      refine wpAnyH_take (i := 7) (v := ?v7_16) rfl (by kernel_rfl) (by kernel_rfl) (by kernel_rfl) (fun _ _ _ h => h) (Or.inl ⟨by rfl, ?hy7_16⟩) (by assumption) ?rest7_16
      case hy7_16 => (intro w hSw; (try dsimp only at hSw); go_simp; try (with_reducible rfl))
      simp only [Act.put, List.getElem_toArray, List.getElem_cons_zero, List.getElem_cons_succ, List.setIfInBounds_toArray, List.set_cons_zero, List.set_cons_succ]
      refine wpAnyH_take (i := 8) (v := ?v8_17) rfl (by kernel_rfl) (by kernel_rfl) (by kernel_rfl) (fun _ _ _ h => h) (Or.inl ⟨by rfl, ?hy8_17⟩) (by assumption) ?rest8_17
      case hy8_17 => (intro w hSw; (try dsimp only at hSw); go_simp; try (with_reducible rfl))
      simp only [Act.put, List.getElem_toArray, List.getElem_cons_zero, List.getElem_cons_succ, List.setIfInBounds_toArray, List.set_cons_zero, List.set_cons_succ]
      refine wpAnyH_take (i := 9) (v := ?v9_18) rfl (by kernel_rfl) (by kernel_rfl) (by kernel_rfl) (fun _ _ _ h => h) (Or.inl ⟨by rfl, ?hy9_18⟩) (by assumption) ?rest9_18
      case hy9_18 => (intro w hSw; (try dsimp only at hSw); go_simp; try (with_reducible rfl))
      simp only [Act.put, List.getElem_toArray, List.getElem_cons_zero, List.getElem_cons_succ, List.setIfInBounds_toArray, List.set_cons_zero, List.set_cons_succ]
      refine wpAnyH_take (i := 10) (v := ?v10_19) rfl (by kernel_rfl) (by kernel_rfl) (by kernel_rfl) (fun _ _ _ h => h) (Or.inl ⟨by rfl, ?hy10_19⟩) (by assumption) ?rest10_19
      case hy10_19 => (intro w hSw; (try dsimp only at hSw); go_simp; try (with_reducible rfl))
      simp only [Act.put, List.getElem_toArray, List.getElem_cons_zero, List.getElem_cons_succ, List.setIfInBounds_toArray, List.set_cons_zero, List.set_cons_succ]
      refine wpAnyH_take (i := 11) (v := ?v11_20) rfl (by kernel_rfl) (by kernel_rfl) (by kernel_rfl) (fun _ _ _ h => h) (Or.inl ⟨by rfl, ?hy11_20⟩) (by assumption) ?rest11_20
      case hy11_20 => (intro w hSw; (try dsimp only at hSw); go_simp; try (with_reducible rfl))
      simp only [Act.put, List.getElem_toArray, List.getElem_cons_zero, List.getElem_cons_succ, List.setIfInBounds_toArray, List.set_cons_zero, List.set_cons_succ]
      refine wpAnyH_take (i := 12) (v := ?v12_21) rfl (by kernel_rfl) (by kernel_rfl) (by kernel_rfl) (fun _ _ _ h => h) (Or.inl ⟨by rfl, ?hy12_21⟩) (by assumption) ?rest12_21
      case hy12_21 => (intro w hSw; (try dsimp only at hSw); go_simp; try (with_reducible rfl))
      simp only [Act.put, List.getElem_toArray, List.getElem_cons_zero, List.getElem_cons_succ, List.setIfInBounds_toArray, List.set_cons_zero, List.set_cons_succ]
      refine wpAnyH_take (i := 13) (v := ?v13_22) rfl (by kernel_rfl) (by kernel_rfl) (by kernel_rfl) (fun _ _ _ h => h) (Or.inl ⟨by rfl, ?hy13_22⟩) (by assumption) ?rest13_22
      case hy13_22 => (intro w hSw; (try dsimp only at hSw); go_simp; try (with_reducible rfl))
      simp only [Act.put, List.getElem_toArray, List.getElem_cons_zero, List.getElem_cons_succ, List.setIfInBounds_toArray, List.set_cons_zero, List.set_cons_succ]
      refine wpAnyH_take (i := 14) (v := ?v14_23) rfl (by kernel_rfl) (by kernel_rfl) (by kernel_rfl) (fun _ _ _ h => h) (Or.inl ⟨by rfl, ?hy14_23⟩) (by assumption) ?rest14_23
      case hy14_23 => (intro w hSw; (try dsimp only at hSw); go_simp; try (with_reducible rfl))
      simp only [Act.put, List.getElem_toArray, List.getElem_cons_zero, List.getElem_cons_succ, List.setIfInBounds_toArray, List.set_cons_zero, List.set_cons_succ]
      refine wpAnyH_take (i := 15) (v := ?v15_24) rfl (by kernel_rfl) (by kernel_rfl) (by kernel_rfl) (fun _ _ _ h => h) (Or.inl ⟨by rfl, ?hy15_24⟩) (by assumption) ?rest15_24
      case hy15_24 => (intro w hSw; (try dsimp only at hSw); go_simp; try (with_reducible rfl))
      simp only [Act.put, List.getElem_toArray, List.getElem_cons_zero, List.getElem_cons_succ, List.setIfInBounds_toArray, List.set_cons_zero, List.set_cons_succ]
      refine wpAnyH_take (i := 16) (v := ?v16_25) rfl (by kernel_rfl) (by kernel_rfl) (by kernel_rfl) (fun _ _ _ h => h) (Or.inl ⟨by rfl, ?hy16_25⟩) (by assumption) ?rest16_25
      case hy16_25 => (intro w hSw; (try dsimp only at hSw); go_simp; try (with_reducible rfl))
      simp only [Act.put, List.getElem_toArray, List.getElem_cons_zero, List.getElem_cons_succ, List.setIfInBounds_toArray, List.set_cons_zero, List.set_cons_succ]
      refine wpAnyH_take (i := 17) (v := ?v17_26) rfl (by kernel_rfl) (by kernel_rfl) (by kernel_rfl) (fun _ _ _ h => h) (Or.inl ⟨by rfl, ?hy17_26⟩) (by assumption) ?rest17_26
      case hy17_26 => (intro w hSw; (try dsimp only at hSw); go_simp; try (with_reducible rfl))
      simp only [Act.put, List.getElem_toArray, List.getElem_cons_zero, List.getElem_cons_succ, List.setIfInBounds_toArray, List.set_cons_zero, List.set_cons_succ]
      refine wpAnyH_take (i := 18) (v := ?v18_27) rfl (by kernel_rfl) (by kernel_rfl) (by kernel_rfl) (fun _ _ _ h => h) (Or.inl ⟨by rfl, ?hy18_27⟩) (by assumption) ?rest18_27
      case hy18_27 => (intro w hSw; (try dsimp only at hSw); go_simp; try (with_reducible rfl))
      simp only [Act.put, List.getElem_toArray, List.getElem_cons_zero, List.getElem_cons_succ, List.setIfInBounds_toArray, List.set_cons_zero, List.set_cons_succ]
      refine wpAnyH_take (i := 19) (v := ?v19_28) rfl (by kernel_rfl) (by kernel_rfl) (by kernel_rfl) (fun _ _ _ h => h) (Or.inl ⟨by rfl, ?hy19_28⟩) (by assumption) ?rest19_28
      case hy19_28 => (intro w hSw; (try dsimp only at hSw); go_simp; try (with_reducible rfl))
      simp only [Act.put, List.getElem_toArray, List.getElem_cons_zero, List.getElem_cons_succ, List.setIfInBounds_toArray, List.set_cons_zero, List.set_cons_succ]
      refine wpAnyH_take (i := 20) (v := ?v20_29) rfl (by kernel_rfl) (by kernel_rfl) (by kernel_rfl) (fun _ _ _ h => h) (Or.inl ⟨by rfl, ?hy20_29⟩) (by assumption) ?rest20_29
      case hy20_29 => (intro w hSw; (try dsimp only at hSw); go_simp; try (with_reducible rfl))
      simp only [Act.put, List.getElem_toArray, List.getElem_cons_zero, List.getElem_cons_succ, List.setIfInBounds_toArray, List.set_cons_zero, List.set_cons_succ]
      refine wpAnyH_take (i := 21) (v := ?v21_30) rfl (by kernel_rfl) (by kernel_rfl) (by kernel_rfl) (fun _ _ _ h => h) (Or.inl ⟨by rfl, ?hy21_30⟩) (by assumption) ?rest21_30
      case hy21_30 => (intro w hSw; (try dsimp only at hSw); go_simp; try (with_reducible rfl))
      simp only [Act.put, List.getElem_toArray, List.getElem_cons_zero, List.getElem_cons_succ, List.setIfInBounds_toArray, List.set_cons_zero, List.set_cons_succ]
      refine wpAnyH_take (i := 22) (v := ?v22_31) rfl (by kernel_rfl) (by kernel_rfl) (by kernel_rfl) (fun _ _ _ h => h) (Or.inl ⟨by rfl, ?hy22_31⟩) (by assumption) ?rest22_31
      case hy22_31 => (intro w hSw; (try dsimp only at hSw); go_simp; try (with_reducible rfl))
      simp only [Act.put, List.getElem_toArray, List.getElem_cons_zero, List.getElem_cons_succ, List.setIfInBounds_toArray, List.set_cons_zero, List.set_cons_succ]
      refine wpAnyH_ready (rs := [23]) (by kernel_rfl) (by simp) ?_
      refine (AllReadyH.cons rfl (fun K hK => ?_) AllReadyH.nil)
      go_simp
      have hba := (Below.refl wd.heap.size wd).alloc (Nat.le_refl _) (.cells #[.int .u8 (y.tag % 256), .int .u8 ((y.d.length : Int) / 256 % 256), .int .u8 ((y.d.length : Int) % 256)] 5)
      have HN3 := Hid.mk' (show BIn (wd.alloc (.cells #[.int .u8 (y.tag % 256), .int .u8 ((y.d.length : Int) / 256 % 256), .int .u8 ((y.d.length : Int) % 256)] 5)) (some ⟨wd.heap.size, 0, none⟩) [y.tag % 256, (y.d.length : Int) / 256 % 256, (y.d.length : Int) % 256] from BIn.of_block (rest := []) (e := 5) (f := (0, 0)) (by simpa using heap_alloc_new wd _))
      have HA3 := Hid.mk' (HAd.out.below hba)
      have HB3 := Hid.mk' (HBd.out.trans (hba.mono HBd.out.size))
      have hS3 : (wd.alloc (.cells #[.int .u8 (y.tag % 256), .int .u8 ((y.d.length : Int) / 256 % 256), .int .u8 ((y.d.length : Int) % 256)] 5)).cell? ⟨b, o + k * 2, none⟩ = some (.int .i64 y.tag) ∧ (wd.alloc (.cells #[.int .u8 (y.tag % 256), .int .u8 ((y.d.length : Int) / 256 % 256), .int .u8 ((y.d.length : Int) % 256)] 5)).cell? ⟨b, o + k * 2 + 1, none⟩ = some (.slice y.p y.d.length y.cap) := ⟨by rw [HB3.out.cell (p := ⟨b, o + k * 2, none⟩) HLT.out]; exact HE0.out, by rw [HB3.out.cell (p := ⟨b, o + k * 2 + 1, none⟩) HLT.out]; exact HE1.out⟩
      clear hba HAd HBd
      refine hK.out _ _ ?_ (fun hS' => ?_)
      · exact hS3
      clear hK K
      try simp only [Act.put, List.getElem_toArray, List.getElem_cons_zero, List.getElem_cons_succ, List.setIfInBounds_toArray, List.set_cons_zero, List.set_cons_succ]
      replace hS := hS'
      clear hS'
      refine wpAnyH_ready (rs := [24]) (by kernel_rfl) (by simp) ?_
      refine (AllReadyH.cons rfl (fun K hK => ?_) AllReadyH.nil)
      generalize wd.alloc (.cells #[.int .u8 (y.tag % 256), .int .u8 ((y.d.length : Int) / 256 % 256), .int .u8 ((y.d.length : Int) % 256)] 5) = we at hS HN3 HA3 HB3 ⊢
      refine step_acc (by rfl) (.tmp 11) (.tmp 34) (by rfl) w.heap.size u3 (joinK (kys (l.take k))) (by rfl) HA3.out HB3.out.size (some ⟨wd.heap.size, 0, none⟩) 3 [y.tag % 256, (y.d.length : Int) / 256 % 256, (y.d.length : Int) % 256] (by rfl) (by simp) HN3.out (by have := HSZ.out; simp only [List.length_cons, List.length_nil]; omega) (fun v4 w4 hA4 hB4 _ => ?_)
      have HA4 := Hid.mk' hA4
      have HB4 := Hid.mk' (HB3.out.trans hB4)
      have hS4 : w4.cell? ⟨b, o + k * 2, none⟩ = some (.int .i64 y.tag) ∧ w4.cell? ⟨b, o + k * 2 + 1, none⟩ = some (.slice y.p y.d.length y.cap) := ⟨by rw [HB4.out.cell (p := ⟨b, o + k * 2, none⟩) HLT.out]; exact HE0.out, by rw [HB4.out.cell (p := ⟨b, o + k * 2 + 1, none⟩) HLT.out]; exact HE1.out⟩
      clear hA4 hB4 HA3 HB3 HN3
      go_simp
      refine hK.out _ _ ?_ (fun hS' => ?_)
      · exact hS4
      clear hK K
      try simp only [Act.put, List.getElem_toArray, List.getElem_cons_zero, List.getElem_cons_succ, List.setIfInBounds_toArray, List.set_cons_zero, List.set_cons_succ]
      replace hS := hS'
      clear hS'
      refine wpAnyH_take (i := 25) (v := ?v25_32) rfl (by kernel_rfl) (by kernel_rfl) (by kernel_rfl) (fun _ _ _ h => h) (Or.inl ⟨by rfl, ?hy25_32⟩) (by assumption) ?rest25_32
      case hy25_32 => (intro w hSw; (try dsimp only at hSw); go_simp; try (with_reducible rfl))
      simp only [Act.put, List.getElem_toArray, List.getElem_cons_zero, List.getElem_cons_succ, List.setIfInBounds_toArray, List.set_cons_zero, List.set_cons_succ]
      refine wpAnyH_done (by kernel_rfl) ?_ _
      obtain ⟨f0, f1⟩ := hS
      clear hS4
      go_wp2_with (at_builtin; refine wpList_acc (by rfl) (.tmp 36) (.tmp 41) (by rfl) w.heap.size v4 (joinK (kys (l.take k)) ++ [y.tag % 256, (y.d.length : Int) / 256 % 256, (y.d.length : Int) % 256]) (by rfl) HA4.out HB4.out.size y.p y.cap y.d (by rfl) HX.out.nil (HX.out.below HB4.out).bin (by have := HSZ.out; simp only [List.length_append, List.length_cons, List.length_nil]; omega) ?_)
      intro v5 w5 hA5 hB5
      have HA5 := Hid.mk' (show Acc w5 w.heap.size v5 (joinK (kys (l.take (k + 1)))) by
        rw [HJ.out, show encK (ky y) = y.tag % 256 :: (y.d.length : Int) / 256 % 256 :: (y.d.length : Int) % 256 :: y.d from rfl]
        exact hA5)
      have HB5 := Hid.mk' (HB4.out.trans hB5)
      clear hA5 hB5 HA4 HB4
      go_wp2_with fail
      go_roundw
      case rel => exact ⟨k + 1, by omega, by go_num, HA5, HB5⟩
      case measure => simp [intOf]; omega
    · obtain rfl : k = l.length := by omega
      rw [List.take_of_length_le (Nat.le_refl _)] at HA
      obtain ⟨p', c', rfl, hbi, hp0, _⟩ := HA.out.slice
      clear HA
      go_wp2
      go_ret
      exact ⟨p', c', rfl, hbi, hp0, HB.out⟩
end Go.Proofs.Ytflllegengomnaa
