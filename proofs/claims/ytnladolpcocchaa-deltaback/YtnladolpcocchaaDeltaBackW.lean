/-
  The statement on layer 14, the delta over the base: its walk, from what is wanted of the program.
-/
import Derived.Test.YtnladolpcocchaaLaw14
import Derived.Test.YtnladolpcocchaaRecU
import Derived.Test.YtnladolpcocchaaRecL
import Derived.Deep.RegionHeld3
import Derived.RegionCalls
namespace Go.Proofs.Ytnladolpcocchaa
open Go.RowKit
set_option linter.unusedSimpArgs false
set_option linter.unusedVariables false
set_option maxRecDepth 10000
set_option synthInstance.maxSize 2000

/-- 'append(v, l...)' of records that lie wherever, as a step of a region that draws its order. -/
theorem step_ownRs {W : World} {ops : Array Oper} {o : Oper} {a : Act} {K : Act → World → Prop} {Q : Exit → Act → World → Prop} {E : Prop} (hgd : o.guard = none) (s x : Operand)
    (ho : o.op = .call { callee := .builtin .append, args := #[s, x], argTypes := #[22, 22] })
    {B : Nat} {v : Value} {A : List Rc} (hs : a.eval s = v) (h3 : OwnR 34 7 W B v A.length (A.flatMap Rc.cells)) (hB : B ≤ W.heap.size) (l : List Rc) (p : Option Addr) (n cp : Nat) (hn : l.length = n) (hx : a.eval x = .slice p n cp) (hp : p = none → cp = 0) (hin : RIn W p l) (hl : A.length ≤ 1000) (hl2 : l.length ≤ 1000)
    (h : ∀ v' w', OwnR 34 7 w' B v' (A ++ l).length ((A ++ l).flatMap Rc.cells) → Below B W w' → K (a.put o.dst v') w') :
    if Region.wanted o (yielded ops a.tmps) = true then Oper.wp Try.prog o a W K Q else E := by
  subst hn
  obtain ⟨i0, hi, hz0, hz1, hz2⟩ := info_parts infoR
  refine step_append_fr hgd s x 22 ho 34 i0 _ 7 72 Try.underlying22 hi hz0 hz1 hz2 rfl (by decide) v A.length _ hs h3.owns p l.length cp (l.flatMap Rc.cells) hx hp (flatR_len _) hin.news (flatR_one _) (by unfold maxLen; omega) (by omega) (fun v' w' hA => ?_)
  obtain ⟨k1, k2⟩ := h3.next hB hA
  refine h v' w' ?_ k2
  rw [List.length_append, flatR_append]
  exact k1
theorem own_empty (W : World) (g : Nat) (hg : W.heap.size = g) : OwnR 34 7 (W.alloc (.cells #[] 34)) g (.slice (some ⟨g, 0, none⟩) 0 0) ([] : List Rc).length (([] : List Rc).flatMap Rc.cells) := by
  subst hg
  exact ⟨⟨by simp, .inr ⟨W.heap.size, 0, #[], rfl, Nat.zero_le _, heap_alloc_new _ _, Nat.le_refl _, by simp [maxLen], by simp, by simp⟩⟩, fun k hk => by cases hk; exact Nat.le_refl _⟩
theorem diff_small {b n : List RK} (h : SmK n) : SmK (diffK b n) := h.sub (List.length_filter_le _ _) fun r hr => (List.mem_filter.1 hr).1
theorem both_diff {b n : List RK} (hb : sortR (-1) b = true) (hn : sortR (-1) n = true) : bothS b (diffK b n) = true := by
  rw [bothS, hb, diffK, sort_filter _ hn]; rfl

set_option maxHeartbeats 8000000 in
theorem back_walk0 (O : DeltaOk) (p0 : Option Addr) (c0 : Nat) (b : List Rc) (p1 : Option Addr) (c1 : Nat) (n : List Rc) (v : Int) (w : World) (hlc0 : b.length ≤ c0) (hcm0 : c0 ≤ maxLen) (hp0 : p0 = none → c0 = 0) (hin0 : RIn w p0 b) (hlc1 : n.length ≤ c1) (hcm1 : c1 ≤ maxLen) (hp1 : p1 = none → c1 = 0) (hin1 : RIn w p1 n) (hv : (Lit.int .i64 v).wf = true) :
    Calls Try.prog 5 #[.slice p0 b.length c0, .slice p1 n.length c1, .int .i64 v] w fun e w' => e = .returned (.bool true) ∧ Below w.heap.size w w' := by
  have AW := Hid.mk' (fun X => awake14_any O X)
  have F0 := lfew_any p0 c0 b w hin0 (Nat.le_trans hlc0 hcm0)
  have F1 := lfew_any p1 c1 n w hin1 (Nat.le_trans hlc1 hcm1)
  have HS0 := Hid.mk' (SmK.of_few (l := b))
  have HS1 := Hid.mk' (SmK.of_few (l := n))
  have HI0 := Hid.mk' hin0
  have HI1 := Hid.mk' hin1
  have GN := Hid.mk' (fun X (k : Below w.heap.size w X) (h0 : SmK (rks b)) (h1 : SmK (rks n)) => O.gone p0 c0 b p1 c1 n X (hin0.below k) hlc0 hcm0 hp0 h0 (hin1.below k) hlc1 hcm1 hp1 h1)
  have DF := Hid.mk' (fun X (k : Below w.heap.size w X) (h0 : SmK (rks b)) (h1 : SmK (rks n)) => O.diff p0 c0 b p1 c1 n X (hin0.below k) hlc0 hcm0 hp0 h0 (hin1.below k) hlc1 hcm1 hp1 h1)
  have OV := Hid.mk' (fun X (k : Below w.heap.size w X) (h0 : SmK (rks b)) (q : Option Addr) (e : Nat) (d : List Rc) (hin : RIn X q d) (hl : d.length ≤ e) (hm : e ≤ maxLen) (hq : q = none → e = 0) (h1 : SmK (rks d)) => O.over p0 c0 b q e d X (hin0.below k) hlc0 hcm0 hp0 h0 hin hl hm hq h1)
  have HCM := Hid.mk' (And.intro (Nat.le_trans hlc0 hcm0) (Nat.le_trans hlc1 hcm1))
  have S0 := Hid.mk' (fun X (h0 : SmK (rks b)) (k : Below w.heap.size w X) => sorted_any p0 c0 b X (hin0.below k) (Nat.le_trans hlc0 hcm0) (fun x hx => by have := (h0.bags x hx).2; omega))
  have S1 := Hid.mk' (fun X (h1 : SmK (rks n)) (k : Below w.heap.size w X) => sorted_any p1 c1 n X (hin1.below k) (Nat.le_trans hlc1 hcm1) (fun x hx => by have := (h1.bags x hx).2; omega))
  generalize fewR (rks b) = f0 at F0 HS0
  generalize fewR (rks n) = f1 at F1 HS1
  have bv := bounds_i64 hv
  clear hin0 hin1 hlc0 hlc1 hcm0 hcm1 hp0 hp1 O hv
  go_enter Try.func5, Try.ntmps5
  go_wp2_with fail
  refine F0.mono ?_
  rintro e w1 ⟨rfl, rfl⟩
  cases f0
  · go_wp2_with fail
    refine (AW.out _).mono ?_
    rintro e w2 ⟨rfl, hb2⟩
    go_wp2_with fail
    go_ret
    exact ⟨rfl, hb2⟩
  go_wp2_with fail
  refine F1.mono ?_
  rintro e w1 ⟨rfl, rfl⟩
  cases f1
  · go_wp2_with fail
    refine (AW.out _).mono ?_
    rintro e w2 ⟨rfl, hb2⟩
    go_wp2_with fail
    go_ret
    exact ⟨rfl, hb2⟩
  have hs0 := HS0.out (by first | rfl | trivial)
  have hs1 := HS1.out (by first | rfl | trivial)
  have H0 := Hid.mk' hs0
  have H1 := Hid.mk' hs1
  have S0X := S0.out w hs0 (Below.refl _ _)
  have S1X := Hid.mk' (fun X k => S1.out X hs1 k)
  obtain ⟨sb, hsb⟩ : ∃ s, sortR (-1) (rks b) = s := ⟨_, rfl⟩
  obtain ⟨sn, hsn⟩ : ∃ s, sortR (-1) (rks n) = s := ⟨_, rfl⟩
  rw [hsb] at S0X
  rw [hsn] at S1X
  have HSB := Hid.mk' hsb
  have HSN := Hid.mk' hsn
  clear hs0 hs1 F0 F1 HS0 HS1 S0 S1 hsb hsn
  go_wp2_with fail
  refine S0X.mono ?_
  clear S0X
  rintro e w1 ⟨rfl, hb1⟩
  have HB1 := Hid.mk' hb1
  clear hb1
  cases sb
  · go_wp2_with fail
    refine (AW.out _).mono ?_
    rintro e w2 ⟨rfl, hb2⟩
    have HB2 := Hid.mk' (HB1.out.trans (hb2.mono HB1.out.size))
    clear hb2
    go_wp2_with fail
    go_ret
    exact ⟨rfl, HB2.out⟩
  go_wp2_with fail
  refine (S1X.out w1 HB1.out).mono ?_
  rintro e w2 ⟨rfl, hb2⟩
  have HB2 := Hid.mk' (HB1.out.trans (hb2.mono HB1.out.size))
  clear hb2 HB1 S1X
  cases sn
  · go_wp2_with fail
    refine (AW.out _).mono ?_
    rintro e w3 ⟨rfl, hb3⟩
    have HB3 := Hid.mk' (HB2.out.trans (hb3.mono HB2.out.size))
    clear hb3
    go_wp2_with fail
    go_ret
    exact ⟨rfl, HB3.out⟩
  have hbs : bothS (rks b) (rks n) = true := by rw [bothS, HSB.out, HSN.out]; rfl
  have GNX := GN.out w2 HB2.out H0.out H1.out
  have DFX := Hid.mk' (fun X k => DF.out X k H0.out H1.out)
  rw [hbs] at GNX DFX
  clear GN DF hbs
  go_wp2_with fail
  refine GNX.mono ?_
  clear GNX
  intro e w3 hgn
  obtain ⟨pg, cg, G, rfl, _, hGl, hGm, hGk, hb3⟩ := hgn
  rw [if_pos rfl] at hGk
  have hG2 : G.length ≤ 9223372036854775807 := by simp only [maxLen] at hGm; omega
  have HB3 := Hid.mk' (HB2.out.trans (hb3.mono HB2.out.size))
  have HGK := Hid.mk' hGk
  clear hb3 hGl hGm hGk HB2
  by_cases t : 0 < G.length
  · have t' : (0 : Int) < (G.length : Int) := by omega
    go_wp2_with fail
    refine (AW.out _).mono ?_
    rintro e w4 ⟨rfl, hb4⟩
    have HB4 := Hid.mk' (HB3.out.trans (hb4.mono HB3.out.size))
    clear hb4
    go_wp2_with fail
    go_ret
    exact ⟨rfl, HB4.out⟩
  have t' : ¬ (0 : Int) < (G.length : Int) := by omega
  have HG0 := Hid.mk' (show goneK (rks b) (rks n) = [] by rw [← HGK.out]; exact List.eq_nil_of_length_eq_zero (by omega))
  have DFY := DFX.out w3 HB3.out
  clear t DFX HGK
  go_wp2_with fail
  refine DFY.mono ?_
  clear DFY
  intro e w4 hdf
  obtain ⟨pD, cD, D, rfl, hD, hDl, hDm, hDn, hDk, hb4⟩ := hdf
  rw [if_pos rfl] at hDk
  have HB4 := Hid.mk' (HB3.out.trans (hb4.mono HB3.out.size))
  have HD := Hid.mk' hD
  have HDC := Hid.mk' (And.intro hDl (And.intro hDm hDn))
  have HDK := Hid.mk' hDk
  have HDS := Hid.mk' (show SmK (rks D) by rw [hDk]; exact diff_small H1.out)
  have hDlen := HDS.out.len
  have OVX := OV.out w4 HB4.out H0.out pD cD D hD hDl hDm hDn HDS.out
  rw [show bothS (rks b) (rks D) = true by rw [hDk]; exact both_diff HSB.out HSN.out] at OVX
  clear hb4 hD hDl hDm hDn hDk HB3
  go_wp2_with fail
  refine OVX.mono ?_
  clear OVX
  intro e w5 hov
  obtain ⟨pE, cE, E, rfl, hE, hEl, hEm, hEn, hEk, hb5⟩ := hov
  rw [if_pos rfl, HDK.out, over_diff HSB.out HSN.out HG0.out] at hEk
  have HB5 := Hid.mk' (HB4.out.trans (hb5.mono HB4.out.size))
  have HD5 := Hid.mk' (HD.out.below hb5)
  have AL := allAlike_any pE p1 cE c1 E n w5 hE (HI1.out.below HB5.out) (Nat.le_trans hEl hEm) HCM.out.2
  rw [show decide (rks E = rks n) = true by rw [hEk]; simp] at AL
  clear hb5 hE hEl hEm hEn hEk HB4 HD
  go_wp2_with fail
  refine AL.mono ?_
  clear AL
  rintro e w6 ⟨rfl, hb6⟩
  have HB6 := Hid.mk' (HB5.out.trans (hb6.mono HB5.out.size))
  have HD6 := Hid.mk' (HD5.out.below hb6)
  clear hb6 HB5 HD5
  by_cases u : v < 0
  · go_wp2_with fail
    refine (AW.out _).mono ?_
    rintro e w7 ⟨rfl, hb7⟩
    have HB7 := Hid.mk' (HB6.out.trans (hb7.mono HB6.out.size))
    clear hb7
    go_wp2_with fail
    go_ret
    exact ⟨rfl, HB7.out⟩
  obtain ⟨k, rfl⟩ := Int.eq_ofNat_of_zero_le (show 0 ≤ v by omega)
  by_cases u2 : D.length ≤ k
  · have u3 : (D.length : Int) ≤ (k : Int) := by omega
    go_wp2_with fail
    refine (AW.out _).mono ?_
    rintro e w7 ⟨rfl, hb7⟩
    have HB7 := Hid.mk' (HB6.out.trans (hb7.mono HB6.out.size))
    clear hb7
    go_wp2_with fail
    go_ret
    exact ⟨rfl, HB7.out⟩
  have u3 : ¬ (D.length : Int) ≤ (k : Int) := by omega
  have hk : k < D.length := by omega
  have hkc : (k : Int) ≤ (cD : Int) := by have := HDC.out.1; omega
  obtain ⟨qk, hqk⟩ : ∃ q, (if cD = k + 1 then pD else Option.map (fun x => x.add ((k + 1) * 7)) pD) = q := ⟨_, rfl⟩
  have hin2 := drop_in HDC.out.1 hqk HD6.out
  have hnil2 := drop_nil HDC.out.2.2 hqk
  have HIN1 := Hid.mk' (HD6.out.take k)
  have HIN2 := Hid.mk' hin2
  have HNIL2 := Hid.mk' hnil2
  clear hin2 hnil2
  have hk1 : (k : Int) + 1 ≤ (D.length : Int) := by omega
  have hk0 : 0 ≤ (k : Int) + 1 := by omega
  have hwr : IntKind.i64.wrap ((k : Int) + 1) = (k : Int) + 1 := by rw [IntKind.wrap_i64]; omega
  have htn : ((k : Int) + 1).toNat = k + 1 := by omega
  go_wp2_with fail
  have HBd := Hid.mk' (show Below w.heap.size w w6.drew from HB6.out.drew)
  have HD6d := Hid.mk' (HD6.out.below (Below.refl _ _).drew)
  have HI1d := Hid.mk' (HIN1.out.below (Below.refl _ _).drew)
  have HI2d := Hid.mk' (HIN2.out.below (Below.refl _ _).drew)
  refine wp_region_held_drew (S := fun _ => True) (by kernel_rfl) trivial (fun hS => ?_)
  generalize w6.drew = wd at HBd HI1d HI2d HD6d ⊢
  refine wpAnyH_take (i := 1) (v := ?v1_44) rfl (by kernel_rfl) (by kernel_rfl) (by kernel_rfl) (fun _ _ _ h => h) (Or.inl ⟨by rfl, ?hy1_44⟩) (by assumption) ?rest1_44
  case hy1_44 => (intro w hSw; (try dsimp only at hSw); go_simp; try (with_reducible rfl))
  simp only [Act.put, List.getElem_toArray, List.getElem_cons_zero, List.getElem_cons_succ, List.setIfInBounds_toArray, List.set_cons_zero, List.set_cons_succ]
  refine wpAnyH_take (i := 2) (v := ?v2_45) rfl (by kernel_rfl) (by kernel_rfl) (by kernel_rfl) (fun _ _ _ h => h) (Or.inl ⟨by rfl, ?hy2_45⟩) (by assumption) ?rest2_45
  case hy2_45 => (intro w hSw; (try dsimp only at hSw); go_simp; try (with_reducible rfl))
  simp only [Act.put, List.getElem_toArray, List.getElem_cons_zero, List.getElem_cons_succ, List.setIfInBounds_toArray, List.set_cons_zero, List.set_cons_succ]
  refine wpAnyH_take (i := 3) (v := ?v3_46) rfl (by kernel_rfl) (by kernel_rfl) (by kernel_rfl) (fun _ _ _ h => h) (Or.inl ⟨by rfl, ?hy3_46⟩) (by assumption) ?rest3_46
  case hy3_46 => (intro w hSw; (try dsimp only at hSw); go_simp; try (with_reducible rfl))
  simp only [Act.put, List.getElem_toArray, List.getElem_cons_zero, List.getElem_cons_succ, List.setIfInBounds_toArray, List.set_cons_zero, List.set_cons_succ]
  refine wpAnyH_take (i := 5) (v := ?v5_47) rfl (by kernel_rfl) (by kernel_rfl) (by kernel_rfl) (fun _ _ _ h => h) (Or.inl ⟨by rfl, ?hy5_47⟩) (by assumption) ?rest5_47
  case hy5_47 => (intro w hSw; (try dsimp only at hSw); go_simp; try (with_reducible rfl))
  simp only [Act.put, List.getElem_toArray, List.getElem_cons_zero, List.getElem_cons_succ, List.setIfInBounds_toArray, List.set_cons_zero, List.set_cons_succ]
  refine wpAnyH_take (i := 6) (v := ?v6_48) rfl (by kernel_rfl) (by kernel_rfl) (by kernel_rfl) (fun _ _ _ h => h) (Or.inl ⟨by rfl, ?hy6_48⟩) (by assumption) ?rest6_48
  case hy6_48 => (intro w hSw; (try dsimp only at hSw); go_simp; try (with_reducible rfl))
  simp only [Act.put, List.getElem_toArray, List.getElem_cons_zero, List.getElem_cons_succ, List.setIfInBounds_toArray, List.set_cons_zero, List.set_cons_succ]
  refine wpAnyH_take (i := 7) (v := ?v7_49) rfl (by kernel_rfl) (by kernel_rfl) (by kernel_rfl) (fun _ _ _ h => h) (Or.inl ⟨by rfl, ?hy7_49⟩) (by assumption) ?rest7_49
  case hy7_49 => (intro w hSw; (try dsimp only at hSw); go_simp; try (with_reducible rfl))
  simp only [Act.put, List.getElem_toArray, List.getElem_cons_zero, List.getElem_cons_succ, List.setIfInBounds_toArray, List.set_cons_zero, List.set_cons_succ]
  refine wpAnyH_take (i := 8) (v := ?v8_50) rfl (by kernel_rfl) (by kernel_rfl) (by kernel_rfl) (fun _ _ _ h => h) (Or.inl ⟨by rfl, ?hy8_50⟩) (by assumption) ?rest8_50
  case hy8_50 => (intro w hSw; (try dsimp only at hSw); go_simp; try (with_reducible rfl))
  simp only [Act.put, List.getElem_toArray, List.getElem_cons_zero, List.getElem_cons_succ, List.setIfInBounds_toArray, List.set_cons_zero, List.set_cons_succ]
  refine wpAnyH_ready (rs := [0]) (by kernel_rfl) (by simp) ?_
  refine (AllReadyH.cons rfl (fun K hK => ?_) AllReadyH.nil)
  go_simp
  have HO0 := Hid.mk' (own_empty wd wd.heap.size rfl)
  have hb0 := (Below.refl wd.heap.size wd).alloc (Nat.le_refl _) (.cells #[] 34)
  have HB0 := Hid.mk' hb0
  have HS0 := Hid.mk' hb0.size
  have HI10 := Hid.mk' (HI1d.out.below hb0)
  have HI20 := Hid.mk' (HI2d.out.below hb0)
  clear hb0
  refine hK.out _ _ ?_ (fun hS' => ?_)
  · exact trivial
  clear hK K
  try simp only [Act.put, List.getElem_toArray, List.getElem_cons_zero, List.getElem_cons_succ, List.setIfInBounds_toArray, List.set_cons_zero, List.set_cons_succ]
  replace hS := hS'
  clear hS'
  refine wpAnyH_ready (rs := [4]) (by kernel_rfl) (by simp) ?_
  refine (AllReadyH.cons rfl (fun K hK => ?_) AllReadyH.nil)
  refine step_ownRs (by rfl) (.tmp 78) (.tmp 81) (by rfl) (by rfl) HO0.out HS0.out (D.take k) pD k cD (by rw [List.length_take]; omega) (by rfl) HDC.out.2.2 HI10.out (by simp) (by rw [List.length_take]; omega) (fun v4 x4 hO4 hb4 => ?_)
  rw [List.nil_append] at hO4
  have HO4 := Hid.mk' hO4
  have HB4' := Hid.mk' (HB0.out.trans hb4)
  have HI24 := Hid.mk' (HI2d.out.below HB4'.out)
  clear hO4 hb4 HO0 HB0 HS0 HI10 HI20
  go_simp
  refine hK.out _ _ ?_ (fun hS' => ?_)
  · exact trivial
  clear hK K
  try simp only [Act.put, List.getElem_toArray, List.getElem_cons_zero, List.getElem_cons_succ, List.setIfInBounds_toArray, List.set_cons_zero, List.set_cons_succ]
  replace hS := hS'
  clear hS'
  refine wpAnyH_ready (rs := [9]) (by kernel_rfl) (by simp) ?_
  refine (AllReadyH.cons rfl (fun K hK => ?_) AllReadyH.nil)
  refine step_ownRs (by rfl) (.tmp 82) (.tmp 86) (by rfl) (by rfl) HO4.out HB4'.out.size (D.drop (k + 1)) qk (D.length - (k + 1)) (cD - (k + 1)) (by rw [List.length_drop]) (by rfl) HNIL2.out HI24.out (by rw [List.length_take]; omega) (by rw [List.length_drop]; omega) (fun v9 x9 hO9 hb9 => ?_)
  have HO9 := Hid.mk' hO9
  have HB9' := Hid.mk' (HB4'.out.trans hb9)
  clear hO9 hb9 HO4 HB4' HI24
  go_simp
  refine hK.out _ _ ?_ (fun hS' => ?_)
  · exact trivial
  clear hK K
  try simp only [Act.put, List.getElem_toArray, List.getElem_cons_zero, List.getElem_cons_succ, List.setIfInBounds_toArray, List.set_cons_zero, List.set_cons_succ]
  replace hS := hS'
  clear hS'
  refine wpAnyH_take (i := 10) (v := ?v10_51) rfl (by kernel_rfl) (by kernel_rfl) (by kernel_rfl) (fun _ _ _ h => h) (Or.inl ⟨by rfl, ?hy10_51⟩) (by assumption) ?rest10_51
  case hy10_51 => (intro w hSw; (try dsimp only at hSw); go_simp; try (with_reducible rfl))
  simp only [Act.put, List.getElem_toArray, List.getElem_cons_zero, List.getElem_cons_succ, List.setIfInBounds_toArray, List.set_cons_zero, List.set_cons_succ]
  refine wpAnyH_done (by kernel_rfl) ?_ _
  have HB9 := Hid.mk' (HBd.out.trans (HB9'.out.mono HBd.out.size))
  have hsh : rks (D.take k ++ D.drop (k + 1)) = (rks D).take k ++ (rks D).drop (k + 1) := by
    rw [rks_append]; simp [rks, List.map_take, List.map_drop]
  have hkd : k < (diffK (rks b) (rks n)).length := by rw [← HDK.out, rks_len]; exact hk
  obtain ⟨hless1, hless2⟩ := over_less HSB.out HSN.out hkd
  rw [← HDK.out, ← hsh] at hless1 hless2
  obtain ⟨pS, cS, rfl, hSin, hSn, hSl, hSm⟩ := own_rin HO9.out (fun x hx => by
    have hx2 : x ∈ D := by
      rcases List.mem_append.1 hx with q | q
      · exact List.mem_of_mem_take q
      · exact List.mem_of_mem_drop q
    exact (HD6d.out.oks x hx2).below HB9'.out)
  have HSS := Hid.mk' (show SmK (rks (D.take k ++ D.drop (k + 1))) from HDS.out.sub (by simp only [rks_len, List.length_append, List.length_take, List.length_drop]; omega) (fun r hr => by
    rw [hsh] at hr
    rcases List.mem_append.1 hr with q | q
    · exact List.mem_of_mem_take q
    · exact List.mem_of_mem_drop q))
  have OVX := OV.out x9 HB9.out H0.out pS cS _ hSin hSl hSm hSn HSS.out
  rw [show bothS (rks b) (rks (D.take k ++ D.drop (k + 1))) = true by rw [bothS, HSB.out, hless1]; rfl] at OVX
  have HLS := Hid.mk' hless2
  generalize D.take k ++ D.drop (k + 1) = Sh at OVX HLS
  clear hSin hSn hSl hSm HO9 HB9' hless1 hless2 hsh hkd HSS HD6 HD6d HIN1 HIN2 HI1d HI2d hqk hS
  go_wp2_with fail
  refine OVX.mono ?_
  clear OVX
  intro e x10 hov
  obtain ⟨pF, cF, F, rfl, hF, hFl, hFm, _, hFk, hb10⟩ := hov
  rw [if_pos rfl] at hFk
  have HB10 := Hid.mk' (HB9.out.trans (hb10.mono HB9.out.size))
  have AL := allAlike_any pF p1 cF c1 F n x10 hF (HI1.out.below HB10.out) (Nat.le_trans hFl hFm) HCM.out.2
  rw [show decide (rks F = rks n) = false by rw [hFk]; exact decide_eq_false HLS.out] at AL
  clear hb10 hF hFl hFm hFk
  go_wp2_with fail
  refine AL.mono ?_
  clear AL
  rintro e x11 ⟨rfl, hb11⟩
  have HB11 := Hid.mk' (HB10.out.trans (hb11.mono HB10.out.size))
  clear hb11
  go_wp2_with fail
  refine (AW.out _).mono ?_
  rintro e x12 ⟨rfl, hb12⟩
  have HB12 := Hid.mk' (HB11.out.trans (hb12.mono HB11.out.size))
  clear hb12
  go_wp2_with fail
  go_ret
  exact ⟨rfl, HB12.out⟩
end Go.Proofs.Ytnladolpcocchaa
