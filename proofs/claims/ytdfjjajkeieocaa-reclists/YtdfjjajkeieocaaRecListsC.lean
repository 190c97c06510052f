/-
  The statement on layer 8, lists: a part of its walk.
-/
import Derived.Test.YtdfjjajkeieocaaRecListsA
namespace Go.Proofs.Ytdfjjajkeieocaa.recLists
open Go.ChangeShapes Go.WideShapes Go.ChangeAt Go.RowKit
open Go.ChangeMaps (open_string shut_string)
set_option linter.unusedVariables false
set_option maxRecDepth 10000
set_option synthInstance.maxSize 2000
set_option linter.unusedSimpArgs false

set_option maxHeartbeats 16000000 in
set_option maxRecDepth 10000 in
def part3 (p0 : Option Addr) (c0 : Nat) (l : List Rc) (r : Rc) (v : Int) (w : World) : PSigma fun P : Prop => PSigma fun Q : Prop => (Both P Q → (part1 p0 c0 l r v w).2.1) := by
  refine' ⟨_, _, fun hR => ?_⟩
  case refine'_3 =>
  intro hp0 Q' hl20 HFL HFR HIN HOK HN0 HLC HCM K hK wr u27 u28 u29 u30 u31 u32 u33 u34 u35 u36 u37 u38 u39 u40 u41 u42 u43 u44 u45 u46 u47 u48 u49 u50 u51 u52 u53 u54 u55 u56 u57 u58 u59 u60 u61 u62 u63 u64 u65 u66 u67 u68 u69 u70 u71 u72 u73 u74 u75 u76 u77 u78 u79 u80 u81 u82 u83 u84 u85 u86 u87 u88 u89 u90 u91 u92 u93 u94 k sv ra rs ru hk HS HA HSM HAB HX t
  obtain rfl : k = l.length := by omega
  have HSV := Hid.mk' (show sortR (-1) (rks l) = sv from by have h := HS.out; rw [h]; simp [rks, sortR])
  have HAL := Hid.mk' HA.out.all
  clear HS HA t hk
  have FI := find_any p0 c0 l v wr (HIN.out.below HX.out.below) HN0.out (fun x hx => by have := (HFL.out x hx).1; omega)
  go_wp2_with fail
  refine FI.mono ?_
  clear FI
  rintro e w1 hf
  obtain ⟨f, ok, rfl, hok, hfk, hfo, hb1⟩ := find_use hf
  have HX1 := Hid.mk' (HX.out.on hb1)
  have HFK := Hid.mk' hfk
  have HFO := Hid.mk' hfo
  have HO := Hid.mk' hok
  clear hf hok hfk hfo hb1 HX
  obtain ⟨k, hk0⟩ : ∃ k, firstP (fun i => i == v) l = k := ⟨_, rfl⟩
  rw [hk0] at HAL HFK HO
  clear hk0
  go_upto_region 19 with fail
  go_cut [132] (fun t wx => t = .bool false ∧ Hid (InB w r wx))
  case first =>
    have SO := fun X (h : InB w1 f X) => sorted_any p0 c0 l X (HIN.out.below (HX1.out.on h.below).below) HN0.out (fun x hx => by have := (HFL.out x hx).2; omega)
    rw [HSV.out] at SO
    have d0 : (sv != sv) = false := by simp
    cases ok
    · have hra : ra = -1 := by
        have h := HO.out
        rcases HAL.out with h1 | h1
        · exact h1.1
        · simp [h1.1] at h
      have AL : ∀ X, InB w1 f X → Calls Try.prog 14 #[.agg #[.int .i64 f.id, .int .i64 f.inc, .int .i64 f.st, .int .i64 f.lo, .int .i64 f.hi, .bool f.cut, .slice f.p f.bag.length f.cap], .agg #[.int .i64 0, .int .i64 0, .int .i64 0, .int .i64 0, .int .i64 0, .bool false, .slice none 0 0]] X fun e w' => e = .returned (.bool true) ∧ Below X.heap.size X w' := fun X h => by
        have h2 := lalike_any f zr X (HFO.out.below h.below) (zr_ok _)
        have h3 : rk f = rk zr := by
          have h4 := HO.out
          rw [HFK.out, if_neg (by simpa using h4.symm)]
        rw [decide_eq_true h3] at h2
        exact h2
      subst hra
      have hS0 := ((InB.start w1 f).on (Below.refl _ _).drew).s
      refine wp_region_held_drew (S := fun X => X.cell? ⟨w1.heap.size, 0, none⟩ = some (.int .i64 f.id) ∧ X.cell? ⟨w1.heap.size, 1, none⟩ = some (.int .i64 f.inc) ∧ X.cell? ⟨w1.heap.size, 2, none⟩ = some (.int .i64 f.st) ∧ X.cell? ⟨w1.heap.size, 3, none⟩ = some (.int .i64 f.lo) ∧ X.cell? ⟨w1.heap.size, 4, none⟩ = some (.int .i64 f.hi) ∧ X.cell? ⟨w1.heap.size, 5, none⟩ = some (.bool f.cut) ∧ X.cell? ⟨w1.heap.size, 6, none⟩ = some (.slice f.p f.bag.length f.cap) ∧ Hid (InB w1 f X)) (by kernel_rfl) hS0 (fun hS => ?_)
      clear hS0
      generalize (w1.alloc (.cells #[.int .i64 f.id, .int .i64 f.inc, .int .i64 f.st, .int .i64 f.lo, .int .i64 f.hi, .bool f.cut, .slice f.p f.bag.length f.cap] 27)).drew = wd at hS ⊢
      refine wpAnyH_take (i := 0) (v := ?v0_85) rfl (by kernel_rfl) (by kernel_rfl) (by kernel_rfl) (fun _ _ _ h => h) (Or.inl ⟨by rfl, ?hy0_85⟩) (by assumption) ?rest0_85
      case hy0_85 => (intro w hSw; (try dsimp only at hSw); go_simp; try (with_reducible rfl))
      simp only [Act.put, List.getElem_toArray, List.getElem_cons_zero, List.getElem_cons_succ, List.setIfInBounds_toArray, List.set_cons_zero, List.set_cons_succ]
      refine wpAnyH_take (i := 2) (v := ?v2_86) rfl (by kernel_rfl) (by kernel_rfl) (by kernel_rfl) (fun _ _ _ h => h) (Or.inl ⟨by rfl, ?hy2_86⟩) (by assumption) ?rest2_86
      case hy2_86 => (intro w hSw; (try dsimp only at hSw); go_simp; try (with_reducible rfl))
      simp only [Act.put, List.getElem_toArray, List.getElem_cons_zero, List.getElem_cons_succ, List.setIfInBounds_toArray, List.set_cons_zero, List.set_cons_succ]
      refine wpAnyH_ready (rs := [1]) (by kernel_rfl) (by simp) ?_
      refine (AllReadyH.cons rfl (fun K hK => ?_) AllReadyH.nil)
      go_simp
      refine (SO _ hS.2.2.2.2.2.2.2.out).mono ?_
      rintro e w3 ⟨rfl, hb3⟩
      have hI3 := (hS.2.2.2.2.2.2.2.out.on hb3).s
      clear hb3
      go_wp2_with fail
      refine hK.out _ _ ?_ (fun hS' => ?_)
      · exact hI3
      clear hK K
      try simp only [Act.put, List.getElem_toArray, List.getElem_cons_zero, List.getElem_cons_succ, List.setIfInBounds_toArray, List.set_cons_zero, List.set_cons_succ]
      replace hS := hS'
      clear hS'
      refine wpAnyH_take (i := 3) (v := ?v3_87) rfl (by kernel_rfl) (by kernel_rfl) (by kernel_rfl) (fun _ _ _ h => h) (Or.inl ⟨by rfl, ?hy3_87⟩) (by assumption) ?rest3_87
      case hy3_87 => (intro w hSw; (try dsimp only at hSw); go_simp; try (with_reducible rfl))
      simp only [Act.put, List.getElem_toArray, List.getElem_cons_zero, List.getElem_cons_succ, List.setIfInBounds_toArray, List.set_cons_zero, List.set_cons_succ]
      refine wpAnyH_take (i := 4) (v := ?v4_88) rfl (by kernel_rfl) (by kernel_rfl) (by kernel_rfl) (fun _ _ _ h => h) (Or.inl ⟨by rfl, ?hy4_88⟩) (by assumption) ?rest4_88
      case hy4_88 => (intro w hSw; (try dsimp only at hSw); go_simp; try (with_reducible rfl))
      simp only [Act.put, List.getElem_toArray, List.getElem_cons_zero, List.getElem_cons_succ, List.setIfInBounds_toArray, List.set_cons_zero, List.set_cons_succ]
      refine wpAnyH_take (i := 5) (v := ?v5_89) rfl (by kernel_rfl) (by kernel_rfl) (by kernel_rfl) (fun _ _ _ h => h) (Or.inl ⟨by rfl, ?hy5_89⟩) (by assumption) ?rest5_89
      case hy5_89 => (intro w hSw; (try dsimp only at hSw); go_simp; try (with_reducible rfl))
      simp only [Act.put, List.getElem_toArray, List.getElem_cons_zero, List.getElem_cons_succ, List.setIfInBounds_toArray, List.set_cons_zero, List.set_cons_succ]
      refine wpAnyH_take (i := 6) (v := ?v6_90) rfl (by kernel_rfl) (by kernel_rfl) (by kernel_rfl) (fun _ _ _ h => h) (Or.inl ⟨by rfl, ?hy6_90⟩) (by assumption) ?rest6_90
      case hy6_90 => (intro w hSw; (try dsimp only at hSw); go_simp; try (with_reducible rfl))
      simp only [Act.put, List.getElem_toArray, List.getElem_cons_zero, List.getElem_cons_succ, List.setIfInBounds_toArray, List.set_cons_zero, List.set_cons_succ]
      refine wpAnyH_take (i := 7) (v := ?v7_91) rfl (by kernel_rfl) (by kernel_rfl) (by kernel_rfl) (fun _ _ _ h => h) (Or.inl ⟨by rfl, ?hy7_91⟩) (by assumption) ?rest7_91
      case hy7_91 => (intro w hSw; (try dsimp only at hSw); go_simp; try (with_reducible rfl))
      simp only [Act.put, List.getElem_toArray, List.getElem_cons_zero, List.getElem_cons_succ, List.setIfInBounds_toArray, List.set_cons_zero, List.set_cons_succ]
      refine wpAnyH_take (i := 8) (v := ?v8_92) rfl (by kernel_rfl) (by kernel_rfl) (by kernel_rfl) (fun _ _ _ h => h) (Or.inl ⟨by rfl, ?hy8_92⟩) (by assumption) ?rest8_92
      case hy8_92 => (intro w hSw; (try dsimp only at hSw); go_simp; try (with_reducible rfl))
      simp only [Act.put, List.getElem_toArray, List.getElem_cons_zero, List.getElem_cons_succ, List.setIfInBounds_toArray, List.set_cons_zero, List.set_cons_succ]
      refine wpAnyH_take (i := 9) (v := ?v9_93) rfl (by kernel_rfl) (by kernel_rfl) (by kernel_rfl) (fun _ _ _ h => h) (Or.inl ⟨by rfl, ?hy9_93⟩) (by assumption) ?rest9_93
      case hy9_93 => (intro w hSw; (try dsimp only at hSw); go_simp; try (with_reducible rfl))
      simp only [Act.put, List.getElem_toArray, List.getElem_cons_zero, List.getElem_cons_succ, List.setIfInBounds_toArray, List.set_cons_zero, List.set_cons_succ]
      refine wpAnyH_take (i := 10) (v := ?v10_94) rfl (by kernel_rfl) (by kernel_rfl) (by kernel_rfl) (fun _ _ _ h => h) (Or.inl ⟨by rfl, ?hy10_94⟩) (by assumption) ?rest10_94
      case hy10_94 => (intro w hSw; (try dsimp only at hSw); go_simp; try (with_reducible rfl))
      simp only [Act.put, List.getElem_toArray, List.getElem_cons_zero, List.getElem_cons_succ, List.setIfInBounds_toArray, List.set_cons_zero, List.set_cons_succ]
      refine wpAnyH_take (i := 11) (v := ?v11_95) rfl (by kernel_rfl) (by kernel_rfl) (by kernel_rfl) (fun _ _ _ h => h) (Or.inl ⟨by rfl, ?hy11_95⟩) (by assumption) ?rest11_95
      case hy11_95 => (intro w hSw; (try dsimp only at hSw); go_simp; try (with_reducible rfl))
      simp only [Act.put, List.getElem_toArray, List.getElem_cons_zero, List.getElem_cons_succ, List.setIfInBounds_toArray, List.set_cons_zero, List.set_cons_succ]
      refine wpAnyH_take (i := 12) (v := ?v12_96) rfl (by kernel_rfl) (by kernel_rfl) (by kernel_rfl) (fun _ _ _ h => h) (Or.inl ⟨by rfl, ?hy12_96⟩) (by assumption) ?rest12_96
      case hy12_96 => (intro w hSw; (try dsimp only at hSw); go_simp; try (with_reducible rfl))
      simp only [Act.put, List.getElem_toArray, List.getElem_cons_zero, List.getElem_cons_succ, List.setIfInBounds_toArray, List.set_cons_zero, List.set_cons_succ]
      refine wpAnyH_take (i := 13) (v := undef) rfl (by kernel_rfl) (by kernel_rfl) (by kernel_rfl) (fun _ _ _ h => h) (Or.inr ⟨by rfl, rfl⟩) (by assumption) ?_
      simp only [Act.put, List.getElem_toArray, List.getElem_cons_zero, List.getElem_cons_succ, List.setIfInBounds_toArray, List.set_cons_zero, List.set_cons_succ]
      refine wpAnyH_take (i := 14) (v := undef) rfl (by kernel_rfl) (by kernel_rfl) (by kernel_rfl) (fun _ _ _ h => h) (Or.inr ⟨by rfl, rfl⟩) (by assumption) ?_
      simp only [Act.put, List.getElem_toArray, List.getElem_cons_zero, List.getElem_cons_succ, List.setIfInBounds_toArray, List.set_cons_zero, List.set_cons_succ]
      refine wpAnyH_take (i := 15) (v := undef) rfl (by kernel_rfl) (by kernel_rfl) (by kernel_rfl) (fun _ _ _ h => h) (Or.inr ⟨by rfl, rfl⟩) (by assumption) ?_
      simp only [Act.put, List.getElem_toArray, List.getElem_cons_zero, List.getElem_cons_succ, List.setIfInBounds_toArray, List.set_cons_zero, List.set_cons_succ]
      refine wpAnyH_take (i := 16) (v := undef) rfl (by kernel_rfl) (by kernel_rfl) (by kernel_rfl) (fun _ _ _ h => h) (Or.inr ⟨by rfl, rfl⟩) (by assumption) ?_
      simp only [Act.put, List.getElem_toArray, List.getElem_cons_zero, List.getElem_cons_succ, List.setIfInBounds_toArray, List.set_cons_zero, List.set_cons_succ]
      refine wpAnyH_take (i := 17) (v := undef) rfl (by kernel_rfl) (by kernel_rfl) (by kernel_rfl) (fun _ _ _ h => h) (Or.inr ⟨by rfl, rfl⟩) (by assumption) ?_
      simp only [Act.put, List.getElem_toArray, List.getElem_cons_zero, List.getElem_cons_succ, List.setIfInBounds_toArray, List.set_cons_zero, List.set_cons_succ]
      refine wpAnyH_take (i := 18) (v := undef) rfl (by kernel_rfl) (by kernel_rfl) (by kernel_rfl) (fun _ _ _ h => h) (Or.inr ⟨by rfl, rfl⟩) (by assumption) ?_
      simp only [Act.put, List.getElem_toArray, List.getElem_cons_zero, List.getElem_cons_succ, List.setIfInBounds_toArray, List.set_cons_zero, List.set_cons_succ]
      refine wpAnyH_take (i := 19) (v := undef) rfl (by kernel_rfl) (by kernel_rfl) (by kernel_rfl) (fun _ _ _ h => h) (Or.inr ⟨by rfl, rfl⟩) (by assumption) ?_
      simp only [Act.put, List.getElem_toArray, List.getElem_cons_zero, List.getElem_cons_succ, List.setIfInBounds_toArray, List.set_cons_zero, List.set_cons_succ]
      refine wpAnyH_take (i := 20) (v := ?v20_97) rfl (by kernel_rfl) (by kernel_rfl) (by kernel_rfl) (fun _ _ _ h => h) (Or.inl ⟨by rfl, ?hy20_97⟩) (by assumption) ?rest20_97
      case hy20_97 => (intro w hSw; (try dsimp only at hSw); go_simp; try (with_reducible rfl))
      simp only [Act.put, List.getElem_toArray, List.getElem_cons_zero, List.getElem_cons_succ, List.setIfInBounds_toArray, List.set_cons_zero, List.set_cons_succ]
      refine wpAnyH_take (i := 21) (v := ?v21_98) rfl (by kernel_rfl) (by kernel_rfl) (by kernel_rfl) (fun _ _ _ h => h) (Or.inl ⟨by rfl, ?hy21_98⟩) (by assumption) ?rest21_98
      case hy21_98 => (intro w hSw; (try dsimp only at hSw); go_simp; try (with_reducible rfl))
      simp only [Act.put, List.getElem_toArray, List.getElem_cons_zero, List.getElem_cons_succ, List.setIfInBounds_toArray, List.set_cons_zero, List.set_cons_succ]
      refine wpAnyH_take (i := 22) (v := ?v22_99) rfl (by kernel_rfl) (by kernel_rfl) (by kernel_rfl) (fun _ _ _ h => h) (Or.inl ⟨by rfl, ?hy22_99⟩) (by assumption) ?rest22_99
      case hy22_99 => (intro w hSw; (try dsimp only at hSw); go_simp; try (with_reducible rfl))
      simp only [Act.put, List.getElem_toArray, List.getElem_cons_zero, List.getElem_cons_succ, List.setIfInBounds_toArray, List.set_cons_zero, List.set_cons_succ]
      refine wpAnyH_take (i := 23) (v := ?v23_100) rfl (by kernel_rfl) (by kernel_rfl) (by kernel_rfl) (fun _ _ _ h => h) (Or.inl ⟨by rfl, ?hy23_100⟩) (by assumption) ?rest23_100
      case hy23_100 => (intro w hSw; (try dsimp only at hSw); go_simp; try (with_reducible rfl))
      simp only [Act.put, List.getElem_toArray, List.getElem_cons_zero, List.getElem_cons_succ, List.setIfInBounds_toArray, List.set_cons_zero, List.set_cons_succ]
      refine wpAnyH_take (i := 24) (v := ?v24_101) rfl (by kernel_rfl) (by kernel_rfl) (by kernel_rfl) (fun _ _ _ h => h) (Or.inl ⟨by rfl, ?hy24_101⟩) (by assumption) ?rest24_101
      case hy24_101 => (intro w hSw; (try dsimp only at hSw); go_simp; try (with_reducible rfl))
      simp only [Act.put, List.getElem_toArray, List.getElem_cons_zero, List.getElem_cons_succ, List.setIfInBounds_toArray, List.set_cons_zero, List.set_cons_succ]
      refine wpAnyH_take (i := 25) (v := ?v25_102) rfl (by kernel_rfl) (by kernel_rfl) (by kernel_rfl) (fun _ _ _ h => h) (Or.inl ⟨by rfl, ?hy25_102⟩) (by assumption) ?rest25_102
      case hy25_102 => (intro w hSw; (try dsimp only at hSw); go_simp; try (with_reducible rfl))
      simp only [Act.put, List.getElem_toArray, List.getElem_cons_zero, List.getElem_cons_succ, List.setIfInBounds_toArray, List.set_cons_zero, List.set_cons_succ]
      refine wpAnyH_take (i := 26) (v := ?v26_103) rfl (by kernel_rfl) (by kernel_rfl) (by kernel_rfl) (fun _ _ _ h => h) (Or.inl ⟨by rfl, ?hy26_103⟩) (by assumption) ?rest26_103
      case hy26_103 => (intro w hSw; (try dsimp only at hSw); go_simp; try (with_reducible rfl))
      simp only [Act.put, List.getElem_toArray, List.getElem_cons_zero, List.getElem_cons_succ, List.setIfInBounds_toArray, List.set_cons_zero, List.set_cons_succ]
      refine wpAnyH_take (i := 27) (v := ?v27_104) rfl (by kernel_rfl) (by kernel_rfl) (by kernel_rfl) (fun _ _ _ h => h) (Or.inl ⟨by rfl, ?hy27_104⟩) (by assumption) ?rest27_104
      case hy27_104 => (intro w hSw; (try dsimp only at hSw); go_simp; try (with_reducible rfl))
      simp only [Act.put, List.getElem_toArray, List.getElem_cons_zero, List.getElem_cons_succ, List.setIfInBounds_toArray, List.set_cons_zero, List.set_cons_succ]
      refine wpAnyH_ready (rs := [28]) (by kernel_rfl) (by simp) ?_
      refine (AllReadyH.cons rfl (fun K hK => ?_) AllReadyH.nil)
      go_simp
      refine (AL _ hS.2.2.2.2.2.2.2.out).mono ?_
      rintro e w3 ⟨rfl, hb3⟩
      have hI3 := (hS.2.2.2.2.2.2.2.out.on hb3).s
      clear hb3
      go_wp2_with fail
      refine hK.out _ _ ?_ (fun hS' => ?_)
      · exact hI3
      clear hK K
      try simp only [Act.put, List.getElem_toArray, List.getElem_cons_zero, List.getElem_cons_succ, List.setIfInBounds_toArray, List.set_cons_zero, List.set_cons_succ]
      replace hS := hS'
      clear hS'
      refine wpAnyH_take (i := 29) (v := ?v29_105) rfl (by kernel_rfl) (by kernel_rfl) (by kernel_rfl) (fun _ _ _ h => h) (Or.inl ⟨by rfl, ?hy29_105⟩) (by assumption) ?rest29_105
      case hy29_105 => (intro w hSw; (try dsimp only at hSw); go_simp; try (with_reducible rfl))
      simp only [Act.put, List.getElem_toArray, List.getElem_cons_zero, List.getElem_cons_succ, List.setIfInBounds_toArray, List.set_cons_zero, List.set_cons_succ]
      refine wpAnyH_take (i := 30) (v := ?v30_106) rfl (by kernel_rfl) (by kernel_rfl) (by kernel_rfl) (fun _ _ _ h => h) (Or.inl ⟨by rfl, ?hy30_106⟩) (by assumption) ?rest30_106
      case hy30_106 => (intro w hSw; (try dsimp only at hSw); go_simp; try (with_reducible rfl))
      simp only [Act.put, List.getElem_toArray, List.getElem_cons_zero, List.getElem_cons_succ, List.setIfInBounds_toArray, List.set_cons_zero, List.set_cons_succ]
      refine wpAnyH_take (i := 31) (v := ?v31_107) rfl (by kernel_rfl) (by kernel_rfl) (by kernel_rfl) (fun _ _ _ h => h) (Or.inl ⟨by rfl, ?hy31_107⟩) (by assumption) ?rest31_107
      case hy31_107 => (intro w hSw; (try dsimp only at hSw); go_simp; try (with_reducible rfl))
      simp only [Act.put, List.getElem_toArray, List.getElem_cons_zero, List.getElem_cons_succ, List.setIfInBounds_toArray, List.set_cons_zero, List.set_cons_succ]
      refine wpAnyH_done (by kernel_rfl) ?_ _
      go_wp2_with fail
      go_meet
      exact ⟨rfl, HX1.out.on hS.2.2.2.2.2.2.2.out.below⟩
    · have hra : k < l.length ∧ ra = (k : Nat) := by
        rcases HAL.out with h1 | h1
        · have h := HO.out
          rw [h1.2] at h
          simp at h
        · exact h1
      clear HAL HO
      obtain ⟨hk, rfl⟩ := hra
      have HFK2 := Hid.mk' (show rk f = rk (l.getD (k) zr) from by rw [HFK.out, if_pos hk])
      clear HFK
      obtain ⟨b, o, rfl, hc⟩ := (HIN.out.below HX1.out.below).at (by omega)
      obtain ⟨hx, hyo⟩ := hc k hk
      clear hc
      generalize l.getD k zr = y at HFK2 hx hyo
      have AL : ∀ X, InB w1 f X → Calls Try.prog 14 #[.agg #[.int .i64 f.id, .int .i64 f.inc, .int .i64 f.st, .int .i64 f.lo, .int .i64 f.hi, .bool f.cut, .slice f.p f.bag.length f.cap], .agg #[.int .i64 y.id, .int .i64 y.inc, .int .i64 y.st, .int .i64 y.lo, .int .i64 y.hi, .bool y.cut, .slice y.p y.bag.length y.cap]] X fun e w' => e = .returned (.bool true) ∧ Below X.heap.size X w' := fun X h => by
        have h2 := lalike_any f y X (HFO.out.below h.below) (hyo.below h.below)
        rw [decide_eq_true HFK2.out] at h2
        exact h2
      have HSX := Hid.mk' (show ∀ X, InB w1 f X → X.cell? ⟨b, o + k * 7, none⟩ = some (.int .i64 y.id) ∧ X.cell? ⟨b, o + k * 7 + 1, none⟩ = some (.int .i64 y.inc) ∧ X.cell? ⟨b, o + k * 7 + 2, none⟩ = some (.int .i64 y.st) ∧ X.cell? ⟨b, o + k * 7 + 3, none⟩ = some (.int .i64 y.lo) ∧ X.cell? ⟨b, o + k * 7 + 4, none⟩ = some (.int .i64 y.hi) ∧ X.cell? ⟨b, o + k * 7 + 5, none⟩ = some (.bool y.cut) ∧ X.cell? ⟨b, o + k * 7 + 6, none⟩ = some (.slice y.p y.bag.length y.cap) ∧ X.cell? ⟨w1.heap.size, 0, none⟩ = some (.int .i64 f.id) ∧ X.cell? ⟨w1.heap.size, 1, none⟩ = some (.int .i64 f.inc) ∧ X.cell? ⟨w1.heap.size, 2, none⟩ = some (.int .i64 f.st) ∧ X.cell? ⟨w1.heap.size, 3, none⟩ = some (.int .i64 f.lo) ∧ X.cell? ⟨w1.heap.size, 4, none⟩ = some (.int .i64 f.hi) ∧ X.cell? ⟨w1.heap.size, 5, none⟩ = some (.bool f.cut) ∧ X.cell? ⟨w1.heap.size, 6, none⟩ = some (.slice f.p f.bag.length f.cap) ∧ Hid (InB w1 f X) from fun X h => by
        obtain ⟨e0, e1, e2, e3, e4, e5, e6⟩ := hx.below h.below
        exact ⟨e0, e1, e2, e3, e4, e5, e6, h.s⟩)
      have dk : decide ((0 : Int) ≤ (k : Int)) = true := by simp
      clear hx hyo
      have hS0 := HSX.out _ ((InB.start w1 f).on (Below.refl _ _).drew)
      refine wp_region_held_drew (S := fun X => X.cell? ⟨b, o + k * 7, none⟩ = some (.int .i64 y.id) ∧ X.cell? ⟨b, o + k * 7 + 1, none⟩ = some (.int .i64 y.inc) ∧ X.cell? ⟨b, o + k * 7 + 2, none⟩ = some (.int .i64 y.st) ∧ X.cell? ⟨b, o + k * 7 + 3, none⟩ = some (.int .i64 y.lo) ∧ X.cell? ⟨b, o + k * 7 + 4, none⟩ = some (.int .i64 y.hi) ∧ X.cell? ⟨b, o + k * 7 + 5, none⟩ = some (.bool y.cut) ∧ X.cell? ⟨b, o + k * 7 + 6, none⟩ = some (.slice y.p y.bag.length y.cap) ∧ X.cell? ⟨w1.heap.size, 0, none⟩ = some (.int .i64 f.id) ∧ X.cell? ⟨w1.heap.size, 1, none⟩ = some (.int .i64 f.inc) ∧ X.cell? ⟨w1.heap.size, 2, none⟩ = some (.int .i64 f.st) ∧ X.cell? ⟨w1.heap.size, 3, none⟩ = some (.int .i64 f.lo) ∧ X.cell? ⟨w1.heap.size, 4, none⟩ = some (.int .i64 f.hi) ∧ X.cell? ⟨w1.heap.size, 5, none⟩ = some (.bool f.cut) ∧ X.cell? ⟨w1.heap.size, 6, none⟩ = some (.slice f.p f.bag.length f.cap) ∧ Hid (InB w1 f X)) (by kernel_rfl) hS0 (fun hS => ?_)
      clear hS0
      generalize (w1.alloc (.cells #[.int .i64 f.id, .int .i64 f.inc, .int .i64 f.st, .int .i64 f.lo, .int .i64 f.hi, .bool f.cut, .slice f.p f.bag.length f.cap] 27)).drew = wd at hS ⊢
      refine wpAnyH_take (i := 0) (v := ?v0_108) rfl (by kernel_rfl) (by kernel_rfl) (by kernel_rfl) (fun _ _ _ h => h) (Or.inl ⟨by rfl, ?hy0_108⟩) (by assumption) ?rest0_108
      case hy0_108 => (intro w hSw; (try dsimp only at hSw); go_simp; try (with_reducible rfl))
      simp only [Act.put, List.getElem_toArray, List.getElem_cons_zero, List.getElem_cons_succ, List.setIfInBounds_toArray, List.set_cons_zero, List.set_cons_succ]
      refine wpAnyH_take (i := 2) (v := ?v2_109) rfl (by kernel_rfl) (by kernel_rfl) (by kernel_rfl) (fun _ _ _ h => h) (Or.inl ⟨by rfl, ?hy2_109⟩) (by assumption) ?rest2_109
      case hy2_109 => (intro w hSw; (try dsimp only at hSw); go_simp; try (with_reducible rfl))
      simp only [Act.put, List.getElem_toArray, List.getElem_cons_zero, List.getElem_cons_succ, List.setIfInBounds_toArray, List.set_cons_zero, List.set_cons_succ]
      refine wpAnyH_ready (rs := [1]) (by kernel_rfl) (by simp) ?_
      refine (AllReadyH.cons rfl (fun K hK => ?_) AllReadyH.nil)
      go_simp
      refine (SO _ hS.2.2.2.2.2.2.2.2.2.2.2.2.2.2.out).mono ?_
      rintro e w3 ⟨rfl, hb3⟩
      have hI3 := HSX.out _ (hS.2.2.2.2.2.2.2.2.2.2.2.2.2.2.out.on hb3)
      clear hb3
      go_wp2_with fail
      refine hK.out _ _ ?_ (fun hS' => ?_)
      · exact hI3
      clear hK K
      try simp only [Act.put, List.getElem_toArray, List.getElem_cons_zero, List.getElem_cons_succ, List.setIfInBounds_toArray, List.set_cons_zero, List.set_cons_succ]
      replace hS := hS'
      clear hS'
      refine wpAnyH_take (i := 3) (v := ?v3_110) rfl (by kernel_rfl) (by kernel_rfl) (by kernel_rfl) (fun _ _ _ h => h) (Or.inl ⟨by rfl, ?hy3_110⟩) (by assumption) ?rest3_110
      case hy3_110 => (intro w hSw; (try dsimp only at hSw); go_simp; try (with_reducible rfl))
      simp only [Act.put, List.getElem_toArray, List.getElem_cons_zero, List.getElem_cons_succ, List.setIfInBounds_toArray, List.set_cons_zero, List.set_cons_succ]
      refine wpAnyH_take (i := 4) (v := ?v4_111) rfl (by kernel_rfl) (by kernel_rfl) (by kernel_rfl) (fun _ _ _ h => h) (Or.inl ⟨by rfl, ?hy4_111⟩) (by assumption) ?rest4_111
      case hy4_111 => (intro w hSw; (try dsimp only at hSw); go_simp; try (with_reducible rfl))
      simp only [Act.put, List.getElem_toArray, List.getElem_cons_zero, List.getElem_cons_succ, List.setIfInBounds_toArray, List.set_cons_zero, List.set_cons_succ]
      refine wpAnyH_take (i := 5) (v := ?v5_112) rfl (by kernel_rfl) (by kernel_rfl) (by kernel_rfl) (fun _ _ _ h => h) (Or.inl ⟨by rfl, ?hy5_112⟩) (by assumption) ?rest5_112
      case hy5_112 => (intro w hSw; (try dsimp only at hSw); go_simp; try (with_reducible rfl))
      simp only [Act.put, List.getElem_toArray, List.getElem_cons_zero, List.getElem_cons_succ, List.setIfInBounds_toArray, List.set_cons_zero, List.set_cons_succ]
      refine wpAnyH_take (i := 6) (v := ?v6_113) rfl (by kernel_rfl) (by kernel_rfl) (by kernel_rfl) (fun _ _ _ h => h) (Or.inl ⟨by rfl, ?hy6_113⟩) (by assumption) ?rest6_113
      case hy6_113 => (intro w hSw; (try dsimp only at hSw); go_simp; try (with_reducible rfl))
      simp only [Act.put, List.getElem_toArray, List.getElem_cons_zero, List.getElem_cons_succ, List.setIfInBounds_toArray, List.set_cons_zero, List.set_cons_succ]
      refine wpAnyH_take (i := 7) (v := ?v7_114) rfl (by kernel_rfl) (by kernel_rfl) (by kernel_rfl) (fun _ _ _ h => h) (Or.inl ⟨by rfl, ?hy7_114⟩) (by assumption) ?rest7_114
      case hy7_114 => (intro w hSw; (try dsimp only at hSw); go_simp; try (with_reducible rfl))
      simp only [Act.put, List.getElem_toArray, List.getElem_cons_zero, List.getElem_cons_succ, List.setIfInBounds_toArray, List.set_cons_zero, List.set_cons_succ]
      refine wpAnyH_take (i := 8) (v := ?v8_115) rfl (by kernel_rfl) (by kernel_rfl) (by kernel_rfl) (fun _ _ _ h => h) (Or.inl ⟨by rfl, ?hy8_115⟩) (by assumption) ?rest8_115
      case hy8_115 => (intro w hSw; (try dsimp only at hSw); go_simp; try (with_reducible rfl))
      simp only [Act.put, List.getElem_toArray, List.getElem_cons_zero, List.getElem_cons_succ, List.setIfInBounds_toArray, List.set_cons_zero, List.set_cons_succ]
      refine wpAnyH_take (i := 9) (v := ?v9_116) rfl (by kernel_rfl) (by kernel_rfl) (by kernel_rfl) (fun _ _ _ h => h) (Or.inl ⟨by rfl, ?hy9_116⟩) (by assumption) ?rest9_116
      case hy9_116 => (intro w hSw; (try dsimp only at hSw); go_simp; try (with_reducible rfl))
      simp only [Act.put, List.getElem_toArray, List.getElem_cons_zero, List.getElem_cons_succ, List.setIfInBounds_toArray, List.set_cons_zero, List.set_cons_succ]
      refine wpAnyH_take (i := 10) (v := ?v10_117) rfl (by kernel_rfl) (by kernel_rfl) (by kernel_rfl) (fun _ _ _ h => h) (Or.inl ⟨by rfl, ?hy10_117⟩) (by assumption) ?rest10_117
      case hy10_117 => (intro w hSw; (try dsimp only at hSw); go_simp; try (with_reducible rfl))
      simp only [Act.put, List.getElem_toArray, List.getElem_cons_zero, List.getElem_cons_succ, List.setIfInBounds_toArray, List.set_cons_zero, List.set_cons_succ]
      refine wpAnyH_take (i := 11) (v := ?v11_118) rfl (by kernel_rfl) (by kernel_rfl) (by kernel_rfl) (fun _ _ _ h => h) (Or.inl ⟨by rfl, ?hy11_118⟩) (by assumption) ?rest11_118
      case hy11_118 => (intro w hSw; (try dsimp only at hSw); go_simp; try (with_reducible rfl))
      simp only [Act.put, List.getElem_toArray, List.getElem_cons_zero, List.getElem_cons_succ, List.setIfInBounds_toArray, List.set_cons_zero, List.set_cons_succ]
      refine wpAnyH_take (i := 12) (v := ?v12_119) rfl (by kernel_rfl) (by kernel_rfl) (by kernel_rfl) (fun _ _ _ h => h) (Or.inl ⟨by rfl, ?hy12_119⟩) (by assumption) ?rest12_119
      case hy12_119 => (intro w hSw; (try dsimp only at hSw); go_simp; try (with_reducible rfl))
      simp only [Act.put, List.getElem_toArray, List.getElem_cons_zero, List.getElem_cons_succ, List.setIfInBounds_toArray, List.set_cons_zero, List.set_cons_succ]
      refine wpAnyH_take (i := 13) (v := ?v13_120) rfl (by kernel_rfl) (by kernel_rfl) (by kernel_rfl) (fun _ _ _ h => h) (Or.inl ⟨by rfl, ?hy13_120⟩) (by assumption) ?rest13_120
      case hy13_120 => (intro w hSw; (try dsimp only at hSw); go_simp; try (with_reducible rfl))
      simp only [Act.put, List.getElem_toArray, List.getElem_cons_zero, List.getElem_cons_succ, List.setIfInBounds_toArray, List.set_cons_zero, List.set_cons_succ]
      refine wpAnyH_take (i := 14) (v := ?v14_121) rfl (by kernel_rfl) (by kernel_rfl) (by kernel_rfl) (fun _ _ _ h => h) (Or.inl ⟨by rfl, ?hy14_121⟩) (by assumption) ?rest14_121
      case hy14_121 => (intro w hSw; (try dsimp only at hSw); go_simp; try (with_reducible rfl))
      simp only [Act.put, List.getElem_toArray, List.getElem_cons_zero, List.getElem_cons_succ, List.setIfInBounds_toArray, List.set_cons_zero, List.set_cons_succ]
      refine wpAnyH_take (i := 15) (v := ?v15_122) rfl (by kernel_rfl) (by kernel_rfl) (by kernel_rfl) (fun _ _ _ h => h) (Or.inl ⟨by rfl, ?hy15_122⟩) (by assumption) ?rest15_122
      case hy15_122 => (intro w hSw; (try dsimp only at hSw); go_simp; try (with_reducible rfl))
      simp only [Act.put, List.getElem_toArray, List.getElem_cons_zero, List.getElem_cons_succ, List.setIfInBounds_toArray, List.set_cons_zero, List.set_cons_succ]
      refine wpAnyH_take (i := 16) (v := ?v16_123) rfl (by kernel_rfl) (by kernel_rfl) (by kernel_rfl) (fun _ _ _ h => h) (Or.inl ⟨by rfl, ?hy16_123⟩) (by assumption) ?rest16_123
      case hy16_123 => (intro w hSw; (try dsimp only at hSw); go_simp; try (with_reducible rfl))
      simp only [Act.put, List.getElem_toArray, List.getElem_cons_zero, List.getElem_cons_succ, List.setIfInBounds_toArray, List.set_cons_zero, List.set_cons_succ]
      refine wpAnyH_take (i := 17) (v := ?v17_124) rfl (by kernel_rfl) (by kernel_rfl) (by kernel_rfl) (fun _ _ _ h => h) (Or.inl ⟨by rfl, ?hy17_124⟩) (by assumption) ?rest17_124
      case hy17_124 => (intro w hSw; (try dsimp only at hSw); go_simp; try (with_reducible rfl))
      simp only [Act.put, List.getElem_toArray, List.getElem_cons_zero, List.getElem_cons_succ, List.setIfInBounds_toArray, List.set_cons_zero, List.set_cons_succ]
      refine wpAnyH_ready (rs := [18]) (by kernel_rfl) (by simp) ?_
      refine (AllReadyH.cons rfl (fun K hK => ?_) AllReadyH.nil)
      go_simp
      refine (AL _ hS.2.2.2.2.2.2.2.2.2.2.2.2.2.2.out).mono ?_
      rintro e w3 ⟨rfl, hb3⟩
      have hI3 := HSX.out _ (hS.2.2.2.2.2.2.2.2.2.2.2.2.2.2.out.on hb3)
      clear hb3
      go_wp2_with fail
      refine hK.out _ _ ?_ (fun hS' => ?_)
      · exact hI3
      clear hK K
      try simp only [Act.put, List.getElem_toArray, List.getElem_cons_zero, List.getElem_cons_succ, List.setIfInBounds_toArray, List.set_cons_zero, List.set_cons_succ]
      replace hS := hS'
      clear hS'
      refine wpAnyH_take (i := 19) (v := ?v19_125) rfl (by kernel_rfl) (by kernel_rfl) (by kernel_rfl) (fun _ _ _ h => h) (Or.inl ⟨by rfl, ?hy19_125⟩) (by assumption) ?rest19_125
      case hy19_125 => (intro w hSw; (try dsimp only at hSw); go_simp; try (with_reducible rfl))
      simp only [Act.put, List.getElem_toArray, List.getElem_cons_zero, List.getElem_cons_succ, List.setIfInBounds_toArray, List.set_cons_zero, List.set_cons_succ]
      refine wpAnyH_take (i := 20) (v := ?v20_126) rfl (by kernel_rfl) (by kernel_rfl) (by kernel_rfl) (fun _ _ _ h => h) (Or.inl ⟨by rfl, ?hy20_126⟩) (by assumption) ?rest20_126
      case hy20_126 => (intro w hSw; (try dsimp only at hSw); go_simp; try (with_reducible rfl))
      simp only [Act.put, List.getElem_toArray, List.getElem_cons_zero, List.getElem_cons_succ, List.setIfInBounds_toArray, List.set_cons_zero, List.set_cons_succ]
      refine wpAnyH_take (i := 21) (v := ?v21_127) rfl (by kernel_rfl) (by kernel_rfl) (by kernel_rfl) (fun _ _ _ h => h) (Or.inl ⟨by rfl, ?hy21_127⟩) (by assumption) ?rest21_127
      case hy21_127 => (intro w hSw; (try dsimp only at hSw); go_simp; try (with_reducible rfl))
      simp only [Act.put, List.getElem_toArray, List.getElem_cons_zero, List.getElem_cons_succ, List.setIfInBounds_toArray, List.set_cons_zero, List.set_cons_succ]
      refine wpAnyH_take (i := 22) (v := ?v22_128) rfl (by kernel_rfl) (by kernel_rfl) (by kernel_rfl) (fun _ _ _ h => h) (Or.inl ⟨by rfl, ?hy22_128⟩) (by assumption) ?rest22_128
      case hy22_128 => (intro w hSw; (try dsimp only at hSw); go_simp; try (with_reducible rfl))
      simp only [Act.put, List.getElem_toArray, List.getElem_cons_zero, List.getElem_cons_succ, List.setIfInBounds_toArray, List.set_cons_zero, List.set_cons_succ]
      refine wpAnyH_take (i := 23) (v := ?v23_129) rfl (by kernel_rfl) (by kernel_rfl) (by kernel_rfl) (fun _ _ _ h => h) (Or.inl ⟨by rfl, ?hy23_129⟩) (by assumption) ?rest23_129
      case hy23_129 => (intro w hSw; (try dsimp only at hSw); go_simp; try (with_reducible rfl))
      simp only [Act.put, List.getElem_toArray, List.getElem_cons_zero, List.getElem_cons_succ, List.setIfInBounds_toArray, List.set_cons_zero, List.set_cons_succ]
      refine wpAnyH_take (i := 24) (v := ?v24_130) rfl (by kernel_rfl) (by kernel_rfl) (by kernel_rfl) (fun _ _ _ h => h) (Or.inl ⟨by rfl, ?hy24_130⟩) (by assumption) ?rest24_130
      case hy24_130 => (intro w hSw; (try dsimp only at hSw); go_simp; try (with_reducible rfl))
      simp only [Act.put, List.getElem_toArray, List.getElem_cons_zero, List.getElem_cons_succ, List.setIfInBounds_toArray, List.set_cons_zero, List.set_cons_succ]
      refine wpAnyH_take (i := 25) (v := ?v25_131) rfl (by kernel_rfl) (by kernel_rfl) (by kernel_rfl) (fun _ _ _ h => h) (Or.inl ⟨by rfl, ?hy25_131⟩) (by assumption) ?rest25_131
      case hy25_131 => (intro w hSw; (try dsimp only at hSw); go_simp; try (with_reducible rfl))
      simp only [Act.put, List.getElem_toArray, List.getElem_cons_zero, List.getElem_cons_succ, List.setIfInBounds_toArray, List.set_cons_zero, List.set_cons_succ]
      refine wpAnyH_take (i := 26) (v := undef) rfl (by kernel_rfl) (by kernel_rfl) (by kernel_rfl) (fun _ _ _ h => h) (Or.inr ⟨by rfl, rfl⟩) (by assumption) ?_
      simp only [Act.put, List.getElem_toArray, List.getElem_cons_zero, List.getElem_cons_succ, List.setIfInBounds_toArray, List.set_cons_zero, List.set_cons_succ]
      refine wpAnyH_take (i := 27) (v := undef) rfl (by kernel_rfl) (by kernel_rfl) (by kernel_rfl) (fun _ _ _ h => h) (Or.inr ⟨by rfl, rfl⟩) (by assumption) ?_
      simp only [Act.put, List.getElem_toArray, List.getElem_cons_zero, List.getElem_cons_succ, List.setIfInBounds_toArray, List.set_cons_zero, List.set_cons_succ]
      refine wpAnyH_take (i := 28) (v := undef) rfl (by kernel_rfl) (by kernel_rfl) (by kernel_rfl) (fun _ _ _ h => h) (Or.inr ⟨by rfl, rfl⟩) (by assumption) ?_
      simp only [Act.put, List.getElem_toArray, List.getElem_cons_zero, List.getElem_cons_succ, List.setIfInBounds_toArray, List.set_cons_zero, List.set_cons_succ]
      refine wpAnyH_take (i := 29) (v := undef) rfl (by kernel_rfl) (by kernel_rfl) (by kernel_rfl) (fun _ _ _ h => h) (Or.inr ⟨by rfl, rfl⟩) (by assumption) ?_
      simp only [Act.put, List.getElem_toArray, List.getElem_cons_zero, List.getElem_cons_succ, List.setIfInBounds_toArray, List.set_cons_zero, List.set_cons_succ]
      refine wpAnyH_take (i := 30) (v := ?v30_132) rfl (by kernel_rfl) (by kernel_rfl) (by kernel_rfl) (fun _ _ _ h => h) (Or.inl ⟨by rfl, ?hy30_132⟩) (by assumption) ?rest30_132
      case hy30_132 => (intro w hSw; (try dsimp only at hSw); go_simp; try (with_reducible rfl))
      simp only [Act.put, List.getElem_toArray, List.getElem_cons_zero, List.getElem_cons_succ, List.setIfInBounds_toArray, List.set_cons_zero, List.set_cons_succ]
      refine wpAnyH_take (i := 31) (v := ?v31_133) rfl (by kernel_rfl) (by kernel_rfl) (by kernel_rfl) (fun _ _ _ h => h) (Or.inl ⟨by rfl, ?hy31_133⟩) (by assumption) ?rest31_133
      case hy31_133 => (intro w hSw; (try dsimp only at hSw); go_simp; try (with_reducible rfl))
      simp only [Act.put, List.getElem_toArray, List.getElem_cons_zero, List.getElem_cons_succ, List.setIfInBounds_toArray, List.set_cons_zero, List.set_cons_succ]
      refine wpAnyH_done (by kernel_rfl) ?_ _
      go_wp2_with fail
      go_meet
      exact ⟨rfl, HX1.out.on hS.2.2.2.2.2.2.2.2.2.2.2.2.2.2.out.below⟩
  case rest =>
  obtain ⟨rfl, HX2⟩ := hcut
  clear HX1 HFK HFO HO HAL
  rename_i Q2 Ka ha Kb hb Kc hc
  clear ha Ka Q2
  go_wp2_with fail
  go_loopw [14, 15] (fun a i W => ∃ k : Nat, k ≤ l.length ∧ i = .int .i64 k ∧ Hid (OwnL W wc.heap.size a (wlK l r rs ru k)) ∧ Hid (Below wc.heap.size wc W)) (fun _ i _ => l.length - (intOf i).toNat)
  case atStart => exact ⟨0, by omega, rfl, OwnR.nil _ _ _ _, Below.refl _ _⟩
  case round =>
    obtain ⟨k, hk, rfl, HW, HB⟩ := hrel
    by_cases t : k < l.length
    · rename_i owr ou27 ou28 ou29 ou30 ou31 ou32 ou33 ou34 ou35 ou36 ou37 ou38 ou39 ou40 ou41 ou42 ou43 ou44 ou45 ou46 ou47 ou48 ou49 ou50 ou51 ou52 ou53 ou54 ou55 ou56 ou57 ou58 ou59 ou60 ou61 ou62 ou63 ou64 ou65 ou66 ou67 ou68 ou69 ou70 ou71 ou72 ou73 ou74 ou75 ou76 ou77 ou78 ou79 ou80 ou81 ou82 ou83 ou84 ou85 ou86 ou87 ou88 ou89 ou90 ou91 ou92 ou93 ou94 ok_1 ou133 ou134 ou135 ou136 ou137 ou138 ou139 ou140 ou141 ou142 ou143 ou144 ou145 ou146 ou147 ou148 ou149 ou150 ou151 ou152 ou153 ou154 ou155 ou156 ou157 ou158 ou159 ou160 ou161 ou162 ou163 ou164 oK oa
      revert t; revert HB; revert HW; revert hk; revert k; revert u164; revert u163; revert u162; revert u161; revert u160; revert u159; revert u158; revert u157; revert u156; revert u155; revert u154; revert u153; revert u152; revert u151; revert u150; revert u149; revert u148; revert u147; revert u146; revert u145; revert u144; revert u143; revert u142; revert u141; revert u140; revert u139; revert u138; revert u137; revert u136; revert u135; revert u134; revert u133; revert u14; revert wr; revert oa; revert oK; revert HX2; revert u215; revert u214; revert u213; revert u212; revert u211; revert u210; revert u209; revert u208; revert u207; revert u206; revert u205; revert u204; revert u203; revert u202; revert u201; revert u200; revert u199; revert u198; revert u197; revert u196; revert u195; revert u194; revert u193; revert u192; revert u191; revert u190; revert u189; revert u188; revert u187; revert u186; revert u185; revert u184; revert u183; revert u182; revert u181; revert u180; revert u179; revert u178; revert u177; revert u176; revert u175; revert u174; revert u173; revert u172; revert u171; revert u170; revert u169; revert u168; revert u167; revert u166; revert u165; revert ou164; revert ou163; revert ou162; revert ou161; revert ou160; revert ou159; revert ou158; revert ou157; revert ou156; revert ou155; revert ou154; revert ou153; revert ou152; revert ou151; revert ou150; revert ou149; revert ou148; revert ou147; revert ou146; revert ou145; revert ou144; revert ou143; revert ou142; revert ou141; revert ou140; revert ou139; revert ou138; revert ou137; revert ou136; revert ou135; revert ou134; revert ou133; revert u131; revert u130; revert u129; revert u128; revert u127; revert u126; revert u125; revert u124; revert u123; revert u122; revert u121; revert u120; revert u119; revert u118; revert u117; revert u116; revert u115; revert u114; revert u113; revert u112; revert u111; revert u110; revert u109; revert u108; revert u107; revert u106; revert u105; revert u104; revert u103; revert u102; revert u101; revert u100; revert u99; revert u98; revert u97; revert u96; revert u95; revert u94; revert u93; revert u92; revert u91; revert u90; revert u89; revert u88; revert u87; revert u86; revert u85; revert u84; revert u83; revert u82; revert u81; revert u80; revert u79; revert u78; revert u77; revert u76; revert u75; revert u74; revert u73; revert u72; revert u71; revert u70; revert u69; revert u68; revert u67; revert u66; revert u65; revert u64; revert u63; revert u62; revert u61; revert u60; revert u59; revert u58; revert u57; revert u56; revert u55; revert u54; revert u53; revert u52; revert u51; revert u50; revert u49; revert u48; revert u47; revert u46; revert u45; revert u44; revert u43; revert u42; revert u41; revert u40; revert u39; revert u38; revert u37; revert u36; revert u35; revert u34; revert u33; revert u32; revert u31; revert u30; revert u29; revert u28; revert u27; revert u26; revert u25; revert u24; revert u23; revert u22; revert u21; revert u20; revert u19; revert u18; revert u17; revert wc; revert ok_1; revert ok; revert f; revert w1; revert HSV; revert HAB; revert HSM; revert ru; revert rs; revert ra; revert sv; revert ou94; revert ou93; revert ou92; revert ou91; revert ou90; revert ou89; revert ou88; revert ou87; revert ou86; revert ou85; revert ou84; revert ou83; revert ou82; revert ou81; revert ou80; revert ou79; revert ou78; revert ou77; revert ou76; revert ou75; revert ou74; revert ou73; revert ou72; revert ou71; revert ou70; revert ou69; revert ou68; revert ou67; revert ou66; revert ou65; revert ou64; revert ou63; revert ou62; revert ou61; revert ou60; revert ou59; revert ou58; revert ou57; revert ou56; revert ou55; revert ou54; revert ou53; revert ou52; revert ou51; revert ou50; revert ou49; revert ou48; revert ou47; revert ou46; revert ou45; revert ou44; revert ou43; revert ou42; revert ou41; revert ou40; revert ou39; revert ou38; revert ou37; revert ou36; revert ou35; revert ou34; revert ou33; revert ou32; revert ou31; revert ou30; revert ou29; revert ou28; revert ou27; revert owr; revert K; revert HCM; revert HLC; revert HN0; revert HOK; revert HIN; revert HFR; revert HFL; revert hl20; revert Q'; revert hp0
      exact hR.hp
    · rename_i owr ou27 ou28 ou29 ou30 ou31 ou32 ou33 ou34 ou35 ou36 ou37 ou38 ou39 ou40 ou41 ou42 ou43 ou44 ou45 ou46 ou47 ou48 ou49 ou50 ou51 ou52 ou53 ou54 ou55 ou56 ou57 ou58 ou59 ou60 ou61 ou62 ou63 ou64 ou65 ou66 ou67 ou68 ou69 ou70 ou71 ou72 ou73 ou74 ou75 ou76 ou77 ou78 ou79 ou80 ou81 ou82 ou83 ou84 ou85 ou86 ou87 ou88 ou89 ou90 ou91 ou92 ou93 ou94 ok_1 ou133 ou134 ou135 ou136 ou137 ou138 ou139 ou140 ou141 ou142 ou143 ou144 ou145 ou146 ou147 ou148 ou149 ou150 ou151 ou152 ou153 ou154 ou155 ou156 ou157 ou158 ou159 ou160 ou161 ou162 ou163 ou164 oK oa
      revert t; revert HB; revert HW; revert hk; revert k; revert u164; revert u163; revert u162; revert u161; revert u160; revert u159; revert u158; revert u157; revert u156; revert u155; revert u154; revert u153; revert u152; revert u151; revert u150; revert u149; revert u148; revert u147; revert u146; revert u145; revert u144; revert u143; revert u142; revert u141; revert u140; revert u139; revert u138; revert u137; revert u136; revert u135; revert u134; revert u133; revert u14; revert wr; revert oa; revert oK; revert HX2; revert u215; revert u214; revert u213; revert u212; revert u211; revert u210; revert u209; revert u208; revert u207; revert u206; revert u205; revert u204; revert u203; revert u202; revert u201; revert u200; revert u199; revert u198; revert u197; revert u196; revert u195; revert u194; revert u193; revert u192; revert u191; revert u190; revert u189; revert u188; revert u187; revert u186; revert u185; revert u184; revert u183; revert u182; revert u181; revert u180; revert u179; revert u178; revert u177; revert u176; revert u175; revert u174; revert u173; revert u172; revert u171; revert u170; revert u169; revert u168; revert u167; revert u166; revert u165; revert ou164; revert ou163; revert ou162; revert ou161; revert ou160; revert ou159; revert ou158; revert ou157; revert ou156; revert ou155; revert ou154; revert ou153; revert ou152; revert ou151; revert ou150; revert ou149; revert ou148; revert ou147; revert ou146; revert ou145; revert ou144; revert ou143; revert ou142; revert ou141; revert ou140; revert ou139; revert ou138; revert ou137; revert ou136; revert ou135; revert ou134; revert ou133; revert u131; revert u130; revert u129; revert u128; revert u127; revert u126; revert u125; revert u124; revert u123; revert u122; revert u121; revert u120; revert u119; revert u118; revert u117; revert u116; revert u115; revert u114; revert u113; revert u112; revert u111; revert u110; revert u109; revert u108; revert u107; revert u106; revert u105; revert u104; revert u103; revert u102; revert u101; revert u100; revert u99; revert u98; revert u97; revert u96; revert u95; revert u94; revert u93; revert u92; revert u91; revert u90; revert u89; revert u88; revert u87; revert u86; revert u85; revert u84; revert u83; revert u82; revert u81; revert u80; revert u79; revert u78; revert u77; revert u76; revert u75; revert u74; revert u73; revert u72; revert u71; revert u70; revert u69; revert u68; revert u67; revert u66; revert u65; revert u64; revert u63; revert u62; revert u61; revert u60; revert u59; revert u58; revert u57; revert u56; revert u55; revert u54; revert u53; revert u52; revert u51; revert u50; revert u49; revert u48; revert u47; revert u46; revert u45; revert u44; revert u43; revert u42; revert u41; revert u40; revert u39; revert u38; revert u37; revert u36; revert u35; revert u34; revert u33; revert u32; revert u31; revert u30; revert u29; revert u28; revert u27; revert u26; revert u25; revert u24; revert u23; revert u22; revert u21; revert u20; revert u19; revert u18; revert u17; revert wc; revert ok_1; revert ok; revert f; revert w1; revert HSV; revert HAB; revert HSM; revert ru; revert rs; revert ra; revert sv; revert ou94; revert ou93; revert ou92; revert ou91; revert ou90; revert ou89; revert ou88; revert ou87; revert ou86; revert ou85; revert ou84; revert ou83; revert ou82; revert ou81; revert ou80; revert ou79; revert ou78; revert ou77; revert ou76; revert ou75; revert ou74; revert ou73; revert ou72; revert ou71; revert ou70; revert ou69; revert ou68; revert ou67; revert ou66; revert ou65; revert ou64; revert ou63; revert ou62; revert ou61; revert ou60; revert ou59; revert ou58; revert ou57; revert ou56; revert ou55; revert ou54; revert ou53; revert ou52; revert ou51; revert ou50; revert ou49; revert ou48; revert ou47; revert ou46; revert ou45; revert ou44; revert ou43; revert ou42; revert ou41; revert ou40; revert ou39; revert ou38; revert ou37; revert ou36; revert ou35; revert ou34; revert ou33; revert ou32; revert ou31; revert ou30; revert ou29; revert ou28; revert ou27; revert owr; revert K; revert HCM; revert HLC; revert HN0; revert HOK; revert HIN; revert HFR; revert HFL; revert hl20; revert Q'; revert hp0
      exact hR.hq
end Go.Proofs.Ytdfjjajkeieocaa.recLists
