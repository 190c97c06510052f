/-
  Package gen1: the body of a message that fits; Encode; Fits.
-/
import Derived.Test.YtmfkdohfejklhaaDoorGen1Q
import Derived.Deep.RegionHeld3
import Derived.RegionCalls
namespace Go.Proofs.YtmfkdohfejklhaaDoor
open Go.RowKit
set_option linter.unusedSimpArgs false
set_option linter.unusedVariables false
set_option maxRecDepth 10000
set_option synthInstance.maxSize 2000

set_option maxHeartbeats 8000000 in
theorem gbody_any (m : Mg) (w : World) (hm : MOk w m) (hf : (mv m).fit1) :
    Calls Tryd.prog 19 #[.agg #[.int .i64 m.kind, .int .i64 m.frm, .int .i64 m.inc, .int .i64 m.lo, .int .i64 m.hi, .int .i64 m.seq, .int .i64 m.tgt, .int .i64 m.life, .int .i64 m.epoch, .int .i64 m.base, .slice m.p m.recs.length m.cap]] w fun e w' => ∃ g, e = .returned (.slice (some ⟨g, 0, none⟩) (body1 (mv m)).length (body1 (mv m)).length) ∧ BIn w' (some ⟨g, 0, none⟩) (body1 (mv m)) ∧ Below w.heap.size w w' := by
  have HI := Hid.mk' (InM.start w m)
  have hlist := list_may hf.1.2.2
  have hs := okS_yes hf.1.2.1
  have HCO := Hid.mk' (fun X => code_yes m.lo m.hi X hf.1.2.1)
  have hn := hf.1.1
  unfold MV.nums at hn
  simp only [mv] at hn hs
  have HR := Hid.mk' (show ∀ k, k < m.recs.length → mayR (rk (m.recs.getD k zr)) = true from fun k hk => hlist.2 _ (by simp only [mv, rks, List.mem_map]; exact ⟨m.recs.getD k zr, by simp [List.getD, hk], rfl⟩))
  have HIn := Hid.mk' (show ∀ k, k < m.recs.length → (m.recs.getD k zr).inc ≤ 65535 from fun k hk => (hf.2.2.2.2.2 (rk (m.recs.getD k zr)) (by simp only [mv, rks, List.mem_map]; exact ⟨m.recs.getD k zr, by simp [List.getD, hk], rfl⟩)).1)
  have hl255 : m.recs.length ≤ 255 := by have := hlist.1; simpa [mv, rks_len] using this
  have HP := Hid.mk' hm.rin
  have HHD := Hid.mk' (show headB (mv m) = digB 1 m.kind ++ digB 2 m.frm ++ digB 6 m.inc ++ digB 1 (16 * m.lo + m.hi) ++ digB 2 m.seq ++ digB 2 m.tgt ++ digB 1 (m.recs.length : Int) by
    rw [dig1 m.kind (by omega) (by omega), dig1 (16 * m.lo + m.hi) (by omega) (by omega), dig1 (m.recs.length : Int) (by omega) (by omega), show 16 * m.lo + m.hi = m.lo * 16 + m.hi by omega]
    simp only [headB, mv, rks_len])
  have k1 : 0 ≤ m.kind ∧ m.kind ≤ 255 := by omega
  have k2 : 0 ≤ m.frm ∧ m.frm ≤ 65535 := by omega
  have k3 : 0 ≤ m.inc ∧ m.inc ≤ 281474976710655 := by omega
  have k4 : 0 ≤ 16 * m.lo + m.hi ∧ 16 * m.lo + m.hi ≤ 255 := by omega
  have k5 : 0 ≤ m.seq ∧ m.seq ≤ 65535 := by omega
  have k6 : 0 ≤ m.tgt ∧ m.tgt ≤ 65535 := by omega
  have HK := Hid.mk' (And.intro k1 (And.intro k2 (And.intro k3 (And.intro k4 (And.intro k5 k6)))))
  clear hlist hs hn hf hm k1 k2 k3 k4 k5 k6
  go_enter Tryd.func19, Tryd.ntmps19
  go_wp2_with fail
  refine (writeX _ (w.heap.size + 1) (by simp)).mono ?_
  rintro e w1 ⟨b, rfl, HW1, hB⟩
  have HI1 := Hid.mk' (HI.out.onB hB)
  clear hB HI
  go_wp2_with fail
  have hS0 := (HI1.out.on (Below.refl _ _).drew).five
  have HWd := Hid.mk' (HW1.out.below (Below.refl _ _).drew)
  refine wp_region_held_drew (S := fun X => X.cell? ⟨w.heap.size, 0, none⟩ = some (.int .i64 m.kind) ∧ X.cell? ⟨w.heap.size, 1, none⟩ = some (.int .i64 m.frm) ∧ X.cell? ⟨w.heap.size, 2, none⟩ = some (.int .i64 m.inc) ∧ X.cell? ⟨w.heap.size, 3, none⟩ = some (.int .i64 m.lo) ∧ X.cell? ⟨w.heap.size, 4, none⟩ = some (.int .i64 m.hi) ∧ Hid (InM w m X)) (by kernel_rfl) hS0 (fun hS => ?_)
  clear hS0 HI1 HW1
  generalize w1.drew = wd at hS HWd ⊢
  refine wpAnyH_take (i := 0) (v := ?v0_84) rfl (by kernel_rfl) (by kernel_rfl) (by kernel_rfl) (fun _ _ _ h => h) (Or.inl ⟨by rfl, ?hy0_84⟩) (by assumption) ?rest0_84
  case hy0_84 => (intro w hSw; (try dsimp only at hSw); go_simp; try (with_reducible rfl))
  simp only [Act.put, List.getElem_toArray, List.getElem_cons_zero, List.getElem_cons_succ, List.setIfInBounds_toArray, List.set_cons_zero, List.set_cons_succ]
  refine wpAnyH_take (i := 1) (v := ?v1_85) rfl (by kernel_rfl) (by kernel_rfl) (by kernel_rfl) (fun _ _ _ h => h) (Or.inl ⟨by rfl, ?hy1_85⟩) (by assumption) ?rest1_85
  case hy1_85 => (intro w hSw; (try dsimp only at hSw); go_simp; try (with_reducible rfl))
  simp only [Act.put, List.getElem_toArray, List.getElem_cons_zero, List.getElem_cons_succ, List.setIfInBounds_toArray, List.set_cons_zero, List.set_cons_succ]
  refine wpAnyH_take (i := 2) (v := ?v2_86) rfl (by kernel_rfl) (by kernel_rfl) (by kernel_rfl) (fun _ _ _ h => h) (Or.inl ⟨by rfl, ?hy2_86⟩) (by assumption) ?rest2_86
  case hy2_86 => (intro w hSw; (try dsimp only at hSw); go_simp; try (with_reducible rfl))
  simp only [Act.put, List.getElem_toArray, List.getElem_cons_zero, List.getElem_cons_succ, List.setIfInBounds_toArray, List.set_cons_zero, List.set_cons_succ]
  refine wpAnyH_take (i := 4) (v := ?v4_87) rfl (by kernel_rfl) (by kernel_rfl) (by kernel_rfl) (fun _ _ _ h => h) (Or.inl ⟨by rfl, ?hy4_87⟩) (by assumption) ?rest4_87
  case hy4_87 => (intro w hSw; (try dsimp only at hSw); go_simp; try (with_reducible rfl))
  simp only [Act.put, List.getElem_toArray, List.getElem_cons_zero, List.getElem_cons_succ, List.setIfInBounds_toArray, List.set_cons_zero, List.set_cons_succ]
  refine wpAnyH_take (i := 5) (v := ?v5_88) rfl (by kernel_rfl) (by kernel_rfl) (by kernel_rfl) (fun _ _ _ h => h) (Or.inl ⟨by rfl, ?hy5_88⟩) (by assumption) ?rest5_88
  case hy5_88 => (intro w hSw; (try dsimp only at hSw); go_simp; try (with_reducible rfl))
  simp only [Act.put, List.getElem_toArray, List.getElem_cons_zero, List.getElem_cons_succ, List.setIfInBounds_toArray, List.set_cons_zero, List.set_cons_succ]
  refine wpAnyH_take (i := 7) (v := ?v7_89) rfl (by kernel_rfl) (by kernel_rfl) (by kernel_rfl) (fun _ _ _ h => h) (Or.inl ⟨by rfl, ?hy7_89⟩) (by assumption) ?rest7_89
  case hy7_89 => (intro w hSw; (try dsimp only at hSw); go_simp; try (with_reducible rfl))
  simp only [Act.put, List.getElem_toArray, List.getElem_cons_zero, List.getElem_cons_succ, List.setIfInBounds_toArray, List.set_cons_zero, List.set_cons_succ]
  refine wpAnyH_take (i := 8) (v := ?v8_90) rfl (by kernel_rfl) (by kernel_rfl) (by kernel_rfl) (fun _ _ _ h => h) (Or.inl ⟨by rfl, ?hy8_90⟩) (by assumption) ?rest8_90
  case hy8_90 => (intro w hSw; (try dsimp only at hSw); go_simp; try (with_reducible rfl))
  simp only [Act.put, List.getElem_toArray, List.getElem_cons_zero, List.getElem_cons_succ, List.setIfInBounds_toArray, List.set_cons_zero, List.set_cons_succ]
  refine wpAnyH_take (i := 10) (v := ?v10_91) rfl (by kernel_rfl) (by kernel_rfl) (by kernel_rfl) (fun _ _ _ h => h) (Or.inl ⟨by rfl, ?hy10_91⟩) (by assumption) ?rest10_91
  case hy10_91 => (intro w hSw; (try dsimp only at hSw); go_simp; try (with_reducible rfl))
  simp only [Act.put, List.getElem_toArray, List.getElem_cons_zero, List.getElem_cons_succ, List.setIfInBounds_toArray, List.set_cons_zero, List.set_cons_succ]
  refine wpAnyH_take (i := 11) (v := ?v11_92) rfl (by kernel_rfl) (by kernel_rfl) (by kernel_rfl) (fun _ _ _ h => h) (Or.inl ⟨by rfl, ?hy11_92⟩) (by assumption) ?rest11_92
  case hy11_92 => (intro w hSw; (try dsimp only at hSw); go_simp; try (with_reducible rfl))
  simp only [Act.put, List.getElem_toArray, List.getElem_cons_zero, List.getElem_cons_succ, List.setIfInBounds_toArray, List.set_cons_zero, List.set_cons_succ]
  refine wpAnyH_ready (rs := [3]) (by kernel_rfl) (by simp) ?_
  refine (AllReadyH.cons rfl (fun K hK => ?_) AllReadyH.nil)
  go_simp
  refine (numB_ok (w.heap.size + 1) b [] 1 m.kind wd HWd.out (by omega) (by omega) HK.out.1.1 (lt1 HK.out.1.2) (by have := HK.out.1.2; omega) (by simp)).mono ?_
  rintro e x3 ⟨rfl, hW3, hB3⟩
  have hI3 := (hS.2.2.2.2.2.out.onB hB3).five
  have HW3 := Hid.mk' hW3
  clear hW3 hB3 HWd
  go_wp2_with fail
  refine hK.out _ _ ?_ (fun hS' => ?_)
  · exact hI3
  clear hK K
  try simp only [Act.put, List.getElem_toArray, List.getElem_cons_zero, List.getElem_cons_succ, List.setIfInBounds_toArray, List.set_cons_zero, List.set_cons_succ]
  replace hS := hS'
  clear hS'
  refine wpAnyH_ready (rs := [6]) (by kernel_rfl) (by simp) ?_
  refine (AllReadyH.cons rfl (fun K hK => ?_) AllReadyH.nil)
  go_simp
  refine (numB_ok (w.heap.size + 1) b _ 2 m.frm x3 HW3.out (by omega) (by omega) HK.out.2.1.1 (lt2 HK.out.2.1.2) (by have := HK.out.2.1.2; omega) (by simp only [List.length_append, digB_len, List.length_nil]; omega)).mono ?_
  rintro e x6 ⟨rfl, hW6, hB6⟩
  have hI6 := (hS.2.2.2.2.2.out.onB hB6).five
  have HW6 := Hid.mk' hW6
  clear hW6 hB6 HW3 hI3
  go_wp2_with fail
  refine hK.out _ _ ?_ (fun hS' => ?_)
  · exact hI6
  clear hK K
  try simp only [Act.put, List.getElem_toArray, List.getElem_cons_zero, List.getElem_cons_succ, List.setIfInBounds_toArray, List.set_cons_zero, List.set_cons_succ]
  replace hS := hS'
  clear hS'
  refine wpAnyH_ready (rs := [9]) (by kernel_rfl) (by simp) ?_
  refine (AllReadyH.cons rfl (fun K hK => ?_) AllReadyH.nil)
  go_simp
  refine (numB_ok (w.heap.size + 1) b _ 6 m.inc x6 HW6.out (by omega) (by omega) HK.out.2.2.1.1 (lt6 HK.out.2.2.1.2) (by have := HK.out.2.2.1.2; omega) (by simp only [List.length_append, digB_len, List.length_nil]; omega)).mono ?_
  rintro e x9 ⟨rfl, hW9, hB9⟩
  have hI9 := (hS.2.2.2.2.2.out.onB hB9).five
  have HW9 := Hid.mk' hW9
  clear hW9 hB9 HW6 hI6
  go_wp2_with fail
  refine hK.out _ _ ?_ (fun hS' => ?_)
  · exact hI9
  clear hK K
  try simp only [Act.put, List.getElem_toArray, List.getElem_cons_zero, List.getElem_cons_succ, List.setIfInBounds_toArray, List.set_cons_zero, List.set_cons_succ]
  replace hS := hS'
  clear hS'
  refine wpAnyH_ready (rs := [12]) (by kernel_rfl) (by simp) ?_
  refine (AllReadyH.cons rfl (fun K hK => ?_) AllReadyH.nil)
  go_simp
  refine (HCO.out x9).mono ?_
  rintro e x12 ⟨rfl, hB12⟩
  have hI12 := (hS.2.2.2.2.2.out.on hB12).five
  have HW12 := Hid.mk' (HW9.out.below hB12)
  clear hB12 HW9 hI9
  go_wp2_with fail
  refine hK.out _ _ ?_ (fun hS' => ?_)
  · exact hI12
  clear hK K
  try simp only [Act.put, List.getElem_toArray, List.getElem_cons_zero, List.getElem_cons_succ, List.setIfInBounds_toArray, List.set_cons_zero, List.set_cons_succ]
  replace hS := hS'
  clear hS'
  refine wpAnyH_ready (rs := [13]) (by kernel_rfl) (by simp) ?_
  refine (AllReadyH.cons rfl (fun K hK => ?_) AllReadyH.nil)
  go_simp
  refine (numB_ok (w.heap.size + 1) b _ 1 (16 * m.lo + m.hi) x12 HW12.out (by omega) (by omega) HK.out.2.2.2.1.1 (lt1 HK.out.2.2.2.1.2) (by have := HK.out.2.2.2.1.2; omega) (by simp only [List.length_append, digB_len, List.length_nil]; omega)).mono ?_
  rintro e x13 ⟨rfl, hW13, hB13⟩
  have hI13 := (hS.2.2.2.2.2.out.onB hB13).five
  have HW13 := Hid.mk' hW13
  clear hW13 hB13 HW12 hI12
  go_wp2_with fail
  refine hK.out _ _ ?_ (fun hS' => ?_)
  · exact hI13
  clear hK K
  try simp only [Act.put, List.getElem_toArray, List.getElem_cons_zero, List.getElem_cons_succ, List.setIfInBounds_toArray, List.set_cons_zero, List.set_cons_succ]
  replace hS := hS'
  clear hS'
  refine wpAnyH_done (by kernel_rfl) ?_ _
  clear hI13
  have HI2 := hS.2.2.2.2.2
  clear hS
  go_wp2_with fail
  have hS0 := (HI2.out.on (Below.refl _ _).drew).three
  have HWd := Hid.mk' (HW13.out.below (Below.refl _ _).drew)
  refine wp_region_held_drew (S := fun X => X.cell? ⟨w.heap.size, 5, none⟩ = some (.int .i64 m.seq) ∧ X.cell? ⟨w.heap.size, 6, none⟩ = some (.int .i64 m.tgt) ∧ X.cell? ⟨w.heap.size, 10, none⟩ = some (.slice m.p m.recs.length m.cap) ∧ Hid (InM w m X)) (by kernel_rfl) hS0 (fun hS => ?_)
  clear hS0 HI2 HW13
  generalize x13.drew = we at hS HWd ⊢
  refine wpAnyH_take (i := 0) (v := ?v0_93) rfl (by kernel_rfl) (by kernel_rfl) (by kernel_rfl) (fun _ _ _ h => h) (Or.inl ⟨by rfl, ?hy0_93⟩) (by assumption) ?rest0_93
  case hy0_93 => (intro w hSw; (try dsimp only at hSw); go_simp; try (with_reducible rfl))
  simp only [Act.put, List.getElem_toArray, List.getElem_cons_zero, List.getElem_cons_succ, List.setIfInBounds_toArray, List.set_cons_zero, List.set_cons_succ]
  refine wpAnyH_take (i := 1) (v := ?v1_94) rfl (by kernel_rfl) (by kernel_rfl) (by kernel_rfl) (fun _ _ _ h => h) (Or.inl ⟨by rfl, ?hy1_94⟩) (by assumption) ?rest1_94
  case hy1_94 => (intro w hSw; (try dsimp only at hSw); go_simp; try (with_reducible rfl))
  simp only [Act.put, List.getElem_toArray, List.getElem_cons_zero, List.getElem_cons_succ, List.setIfInBounds_toArray, List.set_cons_zero, List.set_cons_succ]
  refine wpAnyH_take (i := 2) (v := ?v2_95) rfl (by kernel_rfl) (by kernel_rfl) (by kernel_rfl) (fun _ _ _ h => h) (Or.inl ⟨by rfl, ?hy2_95⟩) (by assumption) ?rest2_95
  case hy2_95 => (intro w hSw; (try dsimp only at hSw); go_simp; try (with_reducible rfl))
  simp only [Act.put, List.getElem_toArray, List.getElem_cons_zero, List.getElem_cons_succ, List.setIfInBounds_toArray, List.set_cons_zero, List.set_cons_succ]
  refine wpAnyH_take (i := 4) (v := ?v4_96) rfl (by kernel_rfl) (by kernel_rfl) (by kernel_rfl) (fun _ _ _ h => h) (Or.inl ⟨by rfl, ?hy4_96⟩) (by assumption) ?rest4_96
  case hy4_96 => (intro w hSw; (try dsimp only at hSw); go_simp; try (with_reducible rfl))
  simp only [Act.put, List.getElem_toArray, List.getElem_cons_zero, List.getElem_cons_succ, List.setIfInBounds_toArray, List.set_cons_zero, List.set_cons_succ]
  refine wpAnyH_take (i := 5) (v := ?v5_97) rfl (by kernel_rfl) (by kernel_rfl) (by kernel_rfl) (fun _ _ _ h => h) (Or.inl ⟨by rfl, ?hy5_97⟩) (by assumption) ?rest5_97
  case hy5_97 => (intro w hSw; (try dsimp only at hSw); go_simp; try (with_reducible rfl))
  simp only [Act.put, List.getElem_toArray, List.getElem_cons_zero, List.getElem_cons_succ, List.setIfInBounds_toArray, List.set_cons_zero, List.set_cons_succ]
  refine wpAnyH_take (i := 7) (v := ?v7_98) rfl (by kernel_rfl) (by kernel_rfl) (by kernel_rfl) (fun _ _ _ h => h) (Or.inl ⟨by rfl, ?hy7_98⟩) (by assumption) ?rest7_98
  case hy7_98 => (intro w hSw; (try dsimp only at hSw); go_simp; try (with_reducible rfl))
  simp only [Act.put, List.getElem_toArray, List.getElem_cons_zero, List.getElem_cons_succ, List.setIfInBounds_toArray, List.set_cons_zero, List.set_cons_succ]
  refine wpAnyH_take (i := 8) (v := ?v8_99) rfl (by kernel_rfl) (by kernel_rfl) (by kernel_rfl) (fun _ _ _ h => h) (Or.inl ⟨by rfl, ?hy8_99⟩) (by assumption) ?rest8_99
  case hy8_99 => (intro w hSw; (try dsimp only at hSw); go_simp; try (with_reducible rfl))
  simp only [Act.put, List.getElem_toArray, List.getElem_cons_zero, List.getElem_cons_succ, List.setIfInBounds_toArray, List.set_cons_zero, List.set_cons_succ]
  refine wpAnyH_take (i := 9) (v := ?v9_100) rfl (by kernel_rfl) (by kernel_rfl) (by kernel_rfl) (fun _ _ _ h => h) (Or.inl ⟨by rfl, ?hy9_100⟩) (by assumption) ?rest9_100
  case hy9_100 => (intro w hSw; (try dsimp only at hSw); go_simp; try (with_reducible rfl))
  simp only [Act.put, List.getElem_toArray, List.getElem_cons_zero, List.getElem_cons_succ, List.setIfInBounds_toArray, List.set_cons_zero, List.set_cons_succ]
  refine wpAnyH_ready (rs := [3]) (by kernel_rfl) (by simp) ?_
  refine (AllReadyH.cons rfl (fun K hK => ?_) AllReadyH.nil)
  go_simp
  refine (numB_ok (w.heap.size + 1) b _ 2 m.seq we HWd.out (by omega) (by omega) HK.out.2.2.2.2.1.1 (lt2 HK.out.2.2.2.2.1.2) (by have := HK.out.2.2.2.2.1.2; omega) (by simp only [List.length_append, digB_len, List.length_nil]; omega)).mono ?_
  rintro e y3 ⟨rfl, hW3, hB3⟩
  have hI3 := (hS.2.2.2.out.onB hB3).three
  have HW3 := Hid.mk' hW3
  clear hW3 hB3 HWd
  go_wp2_with fail
  refine hK.out _ _ ?_ (fun hS' => ?_)
  · exact hI3
  clear hK K
  try simp only [Act.put, List.getElem_toArray, List.getElem_cons_zero, List.getElem_cons_succ, List.setIfInBounds_toArray, List.set_cons_zero, List.set_cons_succ]
  replace hS := hS'
  clear hS'
  refine wpAnyH_ready (rs := [6]) (by kernel_rfl) (by simp) ?_
  refine (AllReadyH.cons rfl (fun K hK => ?_) AllReadyH.nil)
  go_simp
  refine (numB_ok (w.heap.size + 1) b _ 2 m.tgt y3 HW3.out (by omega) (by omega) HK.out.2.2.2.2.2.1 (lt2 HK.out.2.2.2.2.2.2) (by have := HK.out.2.2.2.2.2.2; omega) (by simp only [List.length_append, digB_len, List.length_nil]; omega)).mono ?_
  rintro e y6 ⟨rfl, hW6, hB6⟩
  have hI6 := (hS.2.2.2.out.onB hB6).three
  have HW6 := Hid.mk' hW6
  clear hW6 hB6 HW3 hI3
  go_wp2_with fail
  refine hK.out _ _ ?_ (fun hS' => ?_)
  · exact hI6
  clear hK K
  try simp only [Act.put, List.getElem_toArray, List.getElem_cons_zero, List.getElem_cons_succ, List.setIfInBounds_toArray, List.set_cons_zero, List.set_cons_succ]
  replace hS := hS'
  clear hS'
  refine wpAnyH_ready (rs := [10]) (by kernel_rfl) (by simp) ?_
  refine (AllReadyH.cons rfl (fun K hK => ?_) AllReadyH.nil)
  go_simp
  refine (numB_ok (w.heap.size + 1) b _ 1 (m.recs.length : Int) y6 HW6.out (by omega) (by omega) (by omega) (lt1 (by omega)) (by omega) (by simp only [List.length_append, digB_len, List.length_nil]; omega)).mono ?_
  rintro e y10 ⟨rfl, hW10, hB10⟩
  have hI10 := (hS.2.2.2.out.onB hB10).three
  have HW10 := Hid.mk' hW10
  clear hW10 hB10 HW6 hI6
  go_wp2_with fail
  refine hK.out _ _ ?_ (fun hS' => ?_)
  · exact hI10
  clear hK K
  try simp only [Act.put, List.getElem_toArray, List.getElem_cons_zero, List.getElem_cons_succ, List.setIfInBounds_toArray, List.set_cons_zero, List.set_cons_succ]
  replace hS := hS'
  clear hS'
  refine wpAnyH_done (by kernel_rfl) ?_ _
  clear hI10
  have HI3 := hS.2.2.2
  clear hS
  rw [List.nil_append, ← HHD.out] at HW10
  have HAK := Hid.mk' (show WrB y10 (w.heap.size + 1) b (bodyK m 0) false by rw [show bodyK m 0 = headB (mv m) by simp [bodyK, rks]]; exact HW10.out)
  clear HW10 HHD HK HCO
  obtain ⟨c0, c1, c2, c3, c4, c5, c6, c7, c8, c9, c10⟩ := mbox_cells HI3.out.box
  go_wp2_with fail
  clear c0 c1 c2 c3 c4 c5 c6 c7 c8 c9 c10
  go_loopw [37] (fun i W => ∃ k : Nat, k ≤ m.recs.length ∧ i = .int .i64 k ∧ Hid (WrB W (w.heap.size + 1) b (bodyK m k) false) ∧ Hid (InM w m W)) (fun i _ => m.recs.length - (intOf i).toNat)
  case atStart => exact ⟨0, by omega, rfl, HAK, HI3⟩
  case round =>
    obtain ⟨k, hk, rfl, HA, HX⟩ := hrel
    clear HAK HI3
    by_cases t : k < m.recs.length
    · obtain ⟨b0, o, hbo, hc⟩ := (HP.out.below HX.out.below).at (by omega)
      obtain ⟨hx, hok⟩ := hc k t
      rw [hbo]
      have hy := HR.out k t
      have hyi := HIn.out k t
      have HNX := Hid.mk' (bodyK_next m k t)
      have HBL := Hid.mk' (bodyK_len m k)
      generalize m.recs.getD k zr = y at hx hok hy hyi HNX
      obtain ⟨e0, e1, e2, e3, e4, e5, e6⟩ := hx
      obtain ⟨y1, y2, y3, y4, y5, y6, y7, y8⟩ := fit_rec hy
      have HLB := lastB_range hy
      have HMK := Hid.mk' (fun X => mark_any y X ⟨y4, y5⟩ ⟨by omega, by omega⟩ ⟨by omega, by omega⟩)
      clear hc hok hbo hy
      have HX1 := Hid.mk' (HX.out.on ((Below.refl _ _).alloc (Nat.le_refl _) (.cells #[.int .i64 y.id, .int .i64 y.inc, .int .i64 y.st, .int .i64 y.lo, .int .i64 y.hi, .bool y.cut, .slice y.p y.bag.length y.cap] 43)))
      have HA1 := Hid.mk' (WrN.of HA.out (.cells #[.int .i64 y.id, .int .i64 y.inc, .int .i64 y.st, .int .i64 y.lo, .int .i64 y.hi, .bool y.cut, .slice y.p y.bag.length y.cap] 43))
      have HG1 := Hid.mk' (heap_alloc_new wr (.cells #[.int .i64 y.id, .int .i64 y.inc, .int .i64 y.st, .int .i64 y.lo, .int .i64 y.hi, .bool y.cut, .slice y.p y.bag.length y.cap] 43))
      have HLQ := Hid.mk' (show 0 ≤ lastB (rk y) ∧ lastB (rk y) ≤ 127 from ⟨HLB.1, HLB.2.1⟩)
      clear HLB
      obtain ⟨lb, hlb⟩ : ∃ lb, lastB (rk y) = lb := ⟨_, rfl⟩
      rw [hlb] at HNX HLQ HMK
      have HNX2 := Hid.mk' (show bodyK m (k + 1) = bodyK m k ++ digB 2 y.id ++ digB 2 y.inc ++ digB 1 lb by
        rcases HNX.out with h | h
        · exact h
        · exact absurd ⟨HLQ.out.1, by have := HLQ.out.2; omega⟩ h)
      clear HNX HA HX hlb
      go_wp2_with fail
      have hS0 : _ ∧ Hid (InM w m ((wr.alloc (.cells #[.int .i64 y.id, .int .i64 y.inc, .int .i64 y.st, .int .i64 y.lo, .int .i64 y.hi, .bool y.cut, .slice y.p y.bag.length y.cap] 43)).drew)) ∧ Hid (((wr.alloc (.cells #[.int .i64 y.id, .int .i64 y.inc, .int .i64 y.st, .int .i64 y.lo, .int .i64 y.hi, .bool y.cut, .slice y.p y.bag.length y.cap] 43)).drew).heap[wr.heap.size]? = some (.cells #[.int .i64 y.id, .int .i64 y.inc, .int .i64 y.st, .int .i64 y.lo, .int .i64 y.hi, .bool y.cut, .slice y.p y.bag.length y.cap] 43 (0, 0))) := ⟨rec_seven (X := (wr.alloc (.cells #[.int .i64 y.id, .int .i64 y.inc, .int .i64 y.st, .int .i64 y.lo, .int .i64 y.hi, .bool y.cut, .slice y.p y.bag.length y.cap] 43)).drew) HG1.out, HX1.out.on (Below.refl _ _).drew, HG1.out⟩
      have HAd := Hid.mk' (HA1.out.below (Below.refl _ _).drew)
      refine wp_region_held_drew (S := fun X => (X.cell? ⟨wr.heap.size, 0, none⟩ = some (.int .i64 y.id) ∧ X.cell? ⟨wr.heap.size, 1, none⟩ = some (.int .i64 y.inc) ∧ X.cell? ⟨wr.heap.size, 2, none⟩ = some (.int .i64 y.st) ∧ X.cell? ⟨wr.heap.size, 3, none⟩ = some (.int .i64 y.lo) ∧ X.cell? ⟨wr.heap.size, 4, none⟩ = some (.int .i64 y.hi) ∧ X.cell? ⟨wr.heap.size, 5, none⟩ = some (.bool y.cut) ∧ X.cell? ⟨wr.heap.size, 6, none⟩ = some (.slice y.p y.bag.length y.cap)) ∧ Hid (InM w m X) ∧ Hid (X.heap[wr.heap.size]? = some (.cells #[.int .i64 y.id, .int .i64 y.inc, .int .i64 y.st, .int .i64 y.lo, .int .i64 y.hi, .bool y.cut, .slice y.p y.bag.length y.cap] 43 (0, 0)))) (by kernel_rfl) hS0 (fun hS => ?_)
      clear hS0 HA1 HX1 HG1 e0 e1 e2 e3 e4 e5 e6
      generalize (wr.alloc (.cells #[.int .i64 y.id, .int .i64 y.inc, .int .i64 y.st, .int .i64 y.lo, .int .i64 y.hi, .bool y.cut, .slice y.p y.bag.length y.cap] 43)).drew = wd at hS HAd ⊢
      refine wpAnyH_take (i := 0) (v := ?v0_101) rfl (by kernel_rfl) (by kernel_rfl) (by kernel_rfl) (fun _ _ _ h => h) (Or.inl ⟨by rfl, ?hy0_101⟩) (by assumption) ?rest0_101
      case hy0_101 => (intro w hSw; (try dsimp only at hSw); go_simp; try (with_reducible rfl))
      simp only [Act.put, List.getElem_toArray, List.getElem_cons_zero, List.getElem_cons_succ, List.setIfInBounds_toArray, List.set_cons_zero, List.set_cons_succ]
      refine wpAnyH_take (i := 1) (v := ?v1_102) rfl (by kernel_rfl) (by kernel_rfl) (by kernel_rfl) (fun _ _ _ h => h) (Or.inl ⟨by rfl, ?hy1_102⟩) (by assumption) ?rest1_102
      case hy1_102 => (intro w hSw; (try dsimp only at hSw); go_simp; try (with_reducible rfl))
      simp only [Act.put, List.getElem_toArray, List.getElem_cons_zero, List.getElem_cons_succ, List.setIfInBounds_toArray, List.set_cons_zero, List.set_cons_succ]
      refine wpAnyH_take (i := 2) (v := ?v2_103) rfl (by kernel_rfl) (by kernel_rfl) (by kernel_rfl) (fun _ _ _ h => h) (Or.inl ⟨by rfl, ?hy2_103⟩) (by assumption) ?rest2_103
      case hy2_103 => (intro w hSw; (try dsimp only at hSw); go_simp; try (with_reducible rfl))
      simp only [Act.put, List.getElem_toArray, List.getElem_cons_zero, List.getElem_cons_succ, List.setIfInBounds_toArray, List.set_cons_zero, List.set_cons_succ]
      refine wpAnyH_take (i := 4) (v := ?v4_104) rfl (by kernel_rfl) (by kernel_rfl) (by kernel_rfl) (fun _ _ _ h => h) (Or.inl ⟨by rfl, ?hy4_104⟩) (by assumption) ?rest4_104
      case hy4_104 => (intro w hSw; (try dsimp only at hSw); go_simp; try (with_reducible rfl))
      simp only [Act.put, List.getElem_toArray, List.getElem_cons_zero, List.getElem_cons_succ, List.setIfInBounds_toArray, List.set_cons_zero, List.set_cons_succ]
      refine wpAnyH_take (i := 5) (v := ?v5_105) rfl (by kernel_rfl) (by kernel_rfl) (by kernel_rfl) (fun _ _ _ h => h) (Or.inl ⟨by rfl, ?hy5_105⟩) (by assumption) ?rest5_105
      case hy5_105 => (intro w hSw; (try dsimp only at hSw); go_simp; try (with_reducible rfl))
      simp only [Act.put, List.getElem_toArray, List.getElem_cons_zero, List.getElem_cons_succ, List.setIfInBounds_toArray, List.set_cons_zero, List.set_cons_succ]
      refine wpAnyH_take (i := 7) (v := ?v7_106) rfl (by kernel_rfl) (by kernel_rfl) (by kernel_rfl) (fun _ _ _ h => h) (Or.inl ⟨by rfl, ?hy7_106⟩) (by assumption) ?rest7_106
      case hy7_106 => (intro w hSw; (try dsimp only at hSw); go_simp; try (with_reducible rfl))
      simp only [Act.put, List.getElem_toArray, List.getElem_cons_zero, List.getElem_cons_succ, List.setIfInBounds_toArray, List.set_cons_zero, List.set_cons_succ]
      refine wpAnyH_ready (rs := [3]) (by kernel_rfl) (by simp) ?_
      refine (AllReadyH.cons rfl (fun K hK => ?_) AllReadyH.nil)
      go_simp
      refine (numN (w.heap.size + 1) b wr.heap.size (bodyK m k) 2 y.id wd HAd.out (by omega) (by omega) y1 (lt2 (by omega)) (by omega) (by have := HBL.out; omega)).mono ?_
      rintro e x3 ⟨rfl, hA3, hB3, hE3⟩
      have hG3 := hE3.trans hS.2.2.out
      have hI3 := hS.2.1.out.onB hB3
      have HA3 := Hid.mk' hA3
      clear hA3 hB3 hE3 HAd
      go_wp2_with fail
      refine hK.out _ _ ?_ (fun hS' => ?_)
      · exact ⟨rec_seven hG3, hI3, hG3⟩
      clear hK K
      try simp only [Act.put, List.getElem_toArray, List.getElem_cons_zero, List.getElem_cons_succ, List.setIfInBounds_toArray, List.set_cons_zero, List.set_cons_succ]
      replace hS := hS'
      clear hS'
      refine wpAnyH_ready (rs := [6]) (by kernel_rfl) (by simp) ?_
      refine (AllReadyH.cons rfl (fun K hK => ?_) AllReadyH.nil)
      go_simp
      refine (numN (w.heap.size + 1) b wr.heap.size (bodyK m k ++ digB 2 y.id) 2 y.inc x3 HA3.out (by omega) (by omega) y3 (lt2 (by omega)) (by omega) (by have := HBL.out; simp only [List.length_append, digB_len]; omega)).mono ?_
      rintro e x6 ⟨rfl, hA6, hB6, hE6⟩
      have hG6 := hE6.trans hS.2.2.out
      have hI6 := hS.2.1.out.onB hB6
      have HA6 := Hid.mk' hA6
      clear hA6 hB6 hE6 HA3 hG3 hI3
      go_wp2_with fail
      refine hK.out _ _ ?_ (fun hS' => ?_)
      · exact ⟨rec_seven hG6, hI6, hG6⟩
      clear hK K
      try simp only [Act.put, List.getElem_toArray, List.getElem_cons_zero, List.getElem_cons_succ, List.setIfInBounds_toArray, List.set_cons_zero, List.set_cons_succ]
      replace hS := hS'
      clear hS'
      refine wpAnyH_ready (rs := [8]) (by kernel_rfl) (by simp) ?_
      refine (AllReadyH.cons rfl (fun K hK => ?_) AllReadyH.nil)
      go_simp
      refine (HMK.out x6).mono ?_
      rintro e x8 ⟨rfl, hB8⟩
      have hG8 := (hB8.block wr.heap.size (Array.getElem?_eq_some_iff.1 hS.2.2.out).1).trans hS.2.2.out
      have hI8 := hS.2.1.out.on hB8
      have HA8 := Hid.mk' (HA6.out.below hB8)
      clear hB8 HA6 hG6 hI6
      go_wp2_with fail
      refine hK.out _ _ ?_ (fun hS' => ?_)
      · exact ⟨rec_seven hG8, hI8, hG8⟩
      clear hK K
      try simp only [Act.put, List.getElem_toArray, List.getElem_cons_zero, List.getElem_cons_succ, List.setIfInBounds_toArray, List.set_cons_zero, List.set_cons_succ]
      replace hS := hS'
      clear hS'
      refine wpAnyH_ready (rs := [9]) (by kernel_rfl) (by simp) ?_
      refine (AllReadyH.cons rfl (fun K hK => ?_) AllReadyH.nil)
      go_simp
      refine (numN (w.heap.size + 1) b wr.heap.size (bodyK m k ++ digB 2 y.id ++ digB 2 y.inc) 1 lb x8 HA8.out (by omega) (by omega) HLQ.out.1 (lt1 (by have := HLQ.out.2; omega)) (by have := HLQ.out.2; omega) (by have := HBL.out; simp only [List.length_append, digB_len]; omega)).mono ?_
      rintro e x9 ⟨rfl, hA9, hB9, hE9⟩
      have hG9 := hE9.trans hS.2.2.out
      have hI9 := hS.2.1.out.onB hB9
      have HA9 := Hid.mk' hA9.b
      clear hA9 hB9 hE9 HA8 hG8 hI8
      go_wp2_with fail
      refine hK.out _ _ ?_ (fun hS' => ?_)
      · exact ⟨rec_seven hG9, hI9, hG9⟩
      clear hK K
      try simp only [Act.put, List.getElem_toArray, List.getElem_cons_zero, List.getElem_cons_succ, List.setIfInBounds_toArray, List.set_cons_zero, List.set_cons_succ]
      replace hS := hS'
      clear hS'
      refine wpAnyH_done (by kernel_rfl) ?_ _
      rw [← HNX2.out] at HA9
      have HI9 := hS.2.1
      clear hS hG9 hI9
      go_wp2
      go_roundw
      case rel => exact ⟨k + 1, by omega, by go_num, HA9, HI9⟩
      case measure => simp [intOf]; omega
    · obtain rfl : k = m.recs.length := by omega
      have hbl := bodyK_len m m.recs.length
      have BX := bytesX _ _ _ _ HA.out (by omega)
      rw [bodyK_all] at BX
      have HXB := Hid.mk' HX.out.below
      clear HA HX hbl
      obtain ⟨bd, hbd⟩ : ∃ bd, body1 (mv m) = bd := ⟨_, rfl⟩
      rw [hbd] at BX
      have HBD := Hid.mk' hbd
      clear hbd
      go_wp2_with fail
      refine BX.mono ?_
      rintro e w9 ⟨g, rfl, hb1, hb2⟩
      have HB9 := Hid.mk' (HXB.out.trans (hb2.mono HXB.out.size))
      have HB1 := Hid.mk' hb1
      clear hb1 hb2 BX HXB
      go_wp2_with fail
      go_ret
      obtain rfl := HBD.out
      exact ⟨g, rfl, HB1.out, HB9.out⟩

theorem mv_recs {m : Mg} {P : RK → Prop} (h : ∀ r ∈ (mv m).recs, P r) : ∀ x ∈ m.recs, P (rk x) := fun x hx => h _ (List.mem_map_of_mem hx)

set_option maxHeartbeats 4000000 in
theorem gencode_any (m : Mg) (w : World) (hm : MOk w m) (hz : ∀ x ∈ m.recs, szK (kys x.bag) ≤ 4611686018427387904) (hK : Kd w) :
    Calls Tryd.prog 9 #[.agg #[.int .i64 m.kind, .int .i64 m.frm, .int .i64 m.inc, .int .i64 m.lo, .int .i64 m.hi, .int .i64 m.seq, .int .i64 m.tgt, .int .i64 m.life, .int .i64 m.epoch, .int .i64 m.base, .slice m.p m.recs.length m.cap]] w fun e w' =>
      ∃ p c b err, e = .returned (.tuple #[.slice p b.length c, .int .i64 err]) ∧ BIn w' p b ∧ isB b ∧ (p = none → c = 0) ∧ b.length ≤ c ∧ c ≤ maxLen ∧ b.length ≤ 100000 ∧ Below w.heap.size w w' ∧
        ((fit1 m = true ∧ err = 0 ∧ b = body1 (mv m)) ∨ (mayM m = false ∧ err = 1 ∧ b = []) ∨ (mayM m = true ∧ fit1 m = false ∧ err = 14 ∧ b = [])) := by
  have HI := Hid.mk' (InM.start w m)
  have V := fun X (h : InM w m X) => mvalid_any m X (hm.below h.below) hz (hK.below h.below)
  have R := fun X (h : InM w m X) => room_any m X (hm.below h.below)
  have B := Hid.mk' (fun X (h : InM w m X) (hf : fit1 m = true) => gbody_any m X (hm.below h.below) ((fit1_iff m).1 hf))
  have HF := Hid.mk' (fit1_room m)
  have HBB := Hid.mk' (show fit1 m = true → isB (body1 (mv m)) ∧ (body1 (mv m)).length ≤ 100000 from fun hf => by
    have h := (fit1_iff m).1 hf
    have hl := list_may h.1.2.2
    have hs := okS_yes h.1.2.1
    have hn := h.1.1
    unfold MV.nums at hn
    refine ⟨?_, by rw [body1_len]; omega⟩
    unfold body1 headB
    have one : ∀ v : Int, 0 ≤ v ∧ v < 256 → isB [v] := fun v hv x hx => by simp at hx; subst hx; exact hv
    refine isB.append (isB.append (isB.append (isB.append (isB.append (isB.append (isB.append (one _ (by omega)) (digB_isB _ _)) (digB_isB _ _)) (one _ (by omega))) (digB_isB _ _)) (digB_isB _ _)) (one _ (by omega))) ?_
    intro x hx
    obtain ⟨r, hr, hxr⟩ := List.mem_flatMap.1 hx
    have hb := lastB_range (hl.2 r hr)
    exact isB.append (isB.append (digB_isB 2 r.id) (digB_isB 2 r.inc)) (one (lastB r) (by omega)) x hxr)
  obtain ⟨v, hv⟩ : ∃ v, mayM m = v := ⟨_, rfl⟩
  obtain ⟨q, hq⟩ : ∃ q, roomM m = q := ⟨_, rfl⟩
  rw [hv] at V HF
  rw [hq] at R HF
  have HMV := Hid.mk' hv
  clear hK hz hm hv hq
  go_enter Tryd.func9, Tryd.ntmps9
  go_wp2_with fail
  refine (V _ HI.out).mono ?_
  rintro e w1 ⟨rfl, hb1⟩
  have HI1 := Hid.mk' (HI.out.on hb1)
  clear hb1 HI V
  cases v
  · go_wp2_with fail
    go_ret2
    exact ⟨none, 0, [], 1, rfl, BIn.empty _ _, isB.nil, fun _ => rfl, Nat.le_refl _, by simp [maxLen], by simp, HI1.out.below, .inr (.inl ⟨HMV.out, rfl, rfl⟩)⟩
  obtain ⟨c0, c1, c2, c3, c4, c5, c6, c7, c8, c9, c10⟩ := mbox_cells HI1.out.box
  go_wp2_with fail
  refine (R _ HI1.out).mono ?_
  clear c0 c1 c2 c3 c4 c5 c6 c7 c8 c9 c10
  rintro e w2 ⟨rfl, hb2⟩
  have HI2 := Hid.mk' (HI1.out.on hb2)
  clear hb2 HI1 R
  cases q
  · go_wp2_with fail
    go_ret2
    exact ⟨none, 0, [], 14, rfl, BIn.empty _ _, isB.nil, fun _ => rfl, Nat.le_refl _, by simp [maxLen], by simp, HI2.out.below, .inr (.inr ⟨HMV.out, by rw [HF.out]; rfl, rfl, rfl⟩)⟩
  have BX := B.out _ HI2.out (by rw [HF.out]; rfl)
  obtain ⟨bd, hbd⟩ : ∃ bd, body1 (mv m) = bd := ⟨_, rfl⟩
  rw [hbd] at BX HBB
  have HBD := Hid.mk' hbd
  clear hbd B
  obtain ⟨c0, c1, c2, c3, c4, c5, c6, c7, c8, c9, c10⟩ := mbox_cells HI2.out.box
  go_wp2_with fail
  refine BX.mono ?_
  clear BX c0 c1 c2 c3 c4 c5 c6 c7 c8 c9 c10
  rintro e w3 ⟨g, rfl, hb3, hw3⟩
  have HB3 := Hid.mk' hb3
  have HW3 := Hid.mk' (HI2.out.below.trans (hw3.mono HI2.out.below.size))
  clear hb3 hw3
  go_wp2_with fail
  go_ret2
  have hbb := HBB.out (by rw [HF.out]; rfl)
  exact ⟨some ⟨g, 0, none⟩, bd.length, bd, 0, rfl, HB3.out, hbb.1, by simp, Nat.le_refl _, by simp only [maxLen]; omega, hbb.2, HW3.out, .inl ⟨by rw [HF.out]; rfl, rfl, HBD.out.symm⟩⟩

set_option maxHeartbeats 4000000 in
theorem gfits_any (m : Mg) (w : World) (hm : MOk w m) (hz : ∀ x ∈ m.recs, szK (kys x.bag) ≤ 4611686018427387904) (hK : Kd w) :
    Calls Tryd.prog 10 #[.agg #[.int .i64 m.kind, .int .i64 m.frm, .int .i64 m.inc, .int .i64 m.lo, .int .i64 m.hi, .int .i64 m.seq, .int .i64 m.tgt, .int .i64 m.life, .int .i64 m.epoch, .int .i64 m.base, .slice m.p m.recs.length m.cap]] w fun e w' => e = .returned (.bool (fit1 m)) ∧ Below w.heap.size w w' := by
  have HI := Hid.mk' (InM.start w m)
  have V := fun X (h : InM w m X) => mvalid_any m X (hm.below h.below) hz (hK.below h.below)
  have R := fun X (h : InM w m X) => room_any m X (hm.below h.below)
  have HF := Hid.mk' (fit1_room m)
  generalize fit1 m = f at HF ⊢
  generalize mayM m = v at V HF
  generalize roomM m = q at R HF
  clear hK hz hm
  go_enter Tryd.func10, Tryd.ntmps10
  go_wp2_with fail
  refine (V _ HI.out).mono ?_
  rintro e w1 ⟨rfl, hb1⟩
  have HI1 := Hid.mk' (HI.out.on hb1)
  clear hb1 HI V
  cases v
  · go_wp2_with fail
    go_ret
    exact ⟨by rw [HF.out]; rfl, HI1.out.below⟩
  obtain ⟨c0, c1, c2, c3, c4, c5, c6, c7, c8, c9, c10⟩ := mbox_cells HI1.out.box
  go_wp2_with fail
  refine (R _ HI1.out).mono ?_
  clear c0 c1 c2 c3 c4 c5 c6 c7 c8 c9 c10
  rintro e w2 ⟨rfl, hb2⟩
  have HI2 := Hid.mk' (HI1.out.on hb2)
  clear hb2 HI1 R
  go_wp2_with fail
  go_ret
  exact ⟨by rw [HF.out]; rfl, HI2.out.below⟩
end Go.Proofs.YtmfkdohfejklhaaDoor
