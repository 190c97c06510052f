/-
  The statement on layer 14, a delta over a base: its walk, from what is wanted of the program.
-/
import Derived.Test.YtnladolpcocchaaLaw14
import Derived.Test.YtnladolpcocchaaRecU
import Derived.Test.YtnladolpcocchaaRecL
namespace Go.Proofs.Ytnladolpcocchaa
open Go.RowKit
set_option linter.unusedSimpArgs false
set_option linter.unusedVariables false
set_option maxRecDepth 10000
set_option synthInstance.maxSize 2000

theorem over_next (b : List RK) (d : List Rc) (k : Nat) (h : k < d.length) : overK b (rks (d.take (k + 1))) = putM (rk (d.getD k zr)) (overK b (rks (d.take k))) := by
  rw [rtake_next d k h, rks_append, overK, List.foldl_append]
  rfl
theorem putM_len (r : RK) (l : List RK) : (putM r l).length ≤ l.length + 1 := by
  induction l with
  | nil => rw [putM_nil]; simp
  | cons x t ih =>
    rw [putM_cons r x t (fun _ _ _ => trivial)]
    split
    · simp
    · split
      · simp
      · simp only [List.length_cons]; omega
theorem putM_mem (r : RK) : ∀ (l : List RK) (x : RK), x ∈ putM r l → x = r ∨ x ∈ l
  | [], x, h => by rw [putM_nil] at h; simp at h; exact .inl h
  | y :: t, x, h => by
    rw [putM_cons r y t (fun _ _ _ => trivial)] at h
    split at h
    · rcases List.mem_cons.1 h with q | q
      · exact .inl q
      · exact .inr (by simp [q])
    · split at h
      · rcases List.mem_cons.1 h with q | q
        · exact .inl q
        · exact .inr q
      · rcases List.mem_cons.1 h with q | q
        · exact .inr (by simp [q])
        · rcases putM_mem r t x q with z | z
          · exact .inl z
          · exact .inr (by simp [z])
/-- What has been laid so far is small. -/
theorem over_small {b d : List Rc} (hb : SmK (rks b)) (hd : SmK (rks d)) : ∀ k, k ≤ d.length → (overK (rks b) (rks (d.take k))).length ≤ b.length + k ∧ ∀ r ∈ overK (rks b) (rks (d.take k)), r.bag.length ≤ 1000 ∧ szK r.bag ≤ 1000000
  | 0, _ => by
    have e : overK (rks b) (rks (d.take 0)) = rks b := by simp [overK, rks]
    rw [e, rks_len]
    exact ⟨by omega, hb.2⟩
  | k + 1, h => by
    obtain ⟨h1, h2⟩ := over_small hb hd k (by omega)
    rw [over_next _ d k (by omega)]
    have hl := putM_len (rk (d.getD k zr)) (overK (rks b) (rks (d.take k)))
    refine ⟨by omega, fun r hr => ?_⟩
    rcases putM_mem _ _ r hr with rfl | q
    · exact hd.2 _ (List.mem_map_of_mem (by simp [List.getD, show k < d.length by omega]))
    · exact h2 r q

set_option maxHeartbeats 8000000 in
theorem lays_walk0 (O : DeltaOk) (p0 : Option Addr) (c0 : Nat) (b : List Rc) (p1 : Option Addr) (c1 : Nat) (d : List Rc) (w : World) (hlc0 : b.length ≤ c0) (hcm0 : c0 ≤ maxLen) (hp0 : p0 = none → c0 = 0) (hin0 : RIn w p0 b) (hlc1 : d.length ≤ c1) (hcm1 : c1 ≤ maxLen) (hp1 : p1 = none → c1 = 0) (hin1 : RIn w p1 d) :
    Calls Try.prog 4 #[.slice p0 b.length c0, .slice p1 d.length c1] w fun e w' => e = .returned (.bool true) ∧ Below w.heap.size w w' := by
  have AW := Hid.mk' (fun X => awake14_any O X)
  have F0 := lfew_any p0 c0 b w hin0 (Nat.le_trans hlc0 hcm0)
  have F1 := lfew_any p1 c1 d w hin1 (Nat.le_trans hlc1 hcm1)
  have HS0 := Hid.mk' (SmK.of_few (l := b))
  have HS1 := Hid.mk' (SmK.of_few (l := d))
  have HI0 := Hid.mk' hin0
  have HI1 := Hid.mk' hin1
  have OV := Hid.mk' (fun (h0 : SmK (rks b)) (h1 : SmK (rks d)) => O.over p0 c0 b p1 c1 d w hin0 hlc0 hcm0 hp0 h0 hin1 hlc1 hcm1 hp1 h1)
  have HCM := Hid.mk' (And.intro (Nat.le_trans hlc0 hcm0) (Nat.le_trans hlc1 hcm1))
  generalize fewR (rks b) = f0 at F0 HS0
  generalize fewR (rks d) = f1 at F1 HS1
  have q1 : b.length ≤ 9223372036854775807 := by have := Nat.le_trans hlc0 hcm0; simp only [maxLen] at this; omega
  have q2 : d.length ≤ 9223372036854775807 := by have := Nat.le_trans hlc1 hcm1; simp only [maxLen] at this; omega
  clear hin0 hin1 hlc0 hlc1 hcm0 hcm1 hp0 hp1 O
  go_enter Try.func4, Try.ntmps4
  go_wp2_with fail
  refine F0.mono ?_
  rintro e w1 ⟨rfl, rfl⟩
  cases f0
  · go_wp2_with fail
    refine (AW.out _).mono ?_
    rintro e w2 ⟨rfl, hb2⟩
    go_wp2_with fail
    go_ret
    exact ⟨rfl, hb2⟩
  go_wp2_with fail
  refine F1.mono ?_
  rintro e w1 ⟨rfl, rfl⟩
  cases f1
  · go_wp2_with fail
    refine (AW.out _).mono ?_
    rintro e w2 ⟨rfl, hb2⟩
    go_wp2_with fail
    go_ret
    exact ⟨rfl, hb2⟩
  have hs0 := HS0.out (by first | rfl | trivial)
  have hs1 := HS1.out (by first | rfl | trivial)
  have OVX := OV.out hs0 hs1
  have H0 := Hid.mk' hs0
  have H1 := Hid.mk' hs1
  have hl0 := hs0.len
  have hl1 := hs1.len
  obtain ⟨np, hnp⟩ : ∃ np, GivesR w (bothS (rks b) (rks d)) (overK (rks b) (rks d)) = np := ⟨_, rfl⟩
  have HNP := Hid.mk' hnp
  rw [hnp] at OVX
  clear hs0 hs1 hnp F0 F1 HS0 HS1 OV
  go_wp2_with fail
  refine OVX.mono ?_
  clear OVX
  intro e w2 hov
  rw [← HNP.out] at hov
  obtain ⟨pD, cD, D, rfl, hD, hDl, hDm, hDn, hDk, hb2⟩ := hov
  have HB2 := Hid.mk' hb2
  have HD := Hid.mk' hD
  have HDK := Hid.mk' hDk
  have hDl2 : D.length ≤ 9223372036854775807 := by simp only [maxLen] at hDm; omega
  have S0 := sorted_any p0 c0 b w2 (HI0.out.below hb2) HCM.out.1 (fun x hx => by have := (H0.out.bags x hx).2; omega)
  have S1 := Hid.mk' (fun X (h : Below w2.heap.size w2 X) => sorted_any p1 c1 d X ((HI1.out.below hb2).below h) HCM.out.2 (fun x hx => by have := (H1.out.bags x hx).2; omega))
  obtain ⟨sb, hsb⟩ : ∃ s, sortR (-1) (rks b) = s := ⟨_, rfl⟩
  obtain ⟨sd, hsd⟩ : ∃ s, sortR (-1) (rks d) = s := ⟨_, rfl⟩
  have hbs : bothS (rks b) (rks d) = (sb && sd) := by rw [bothS, hsb, hsd]
  rw [hbs] at HDK ⊢
  rw [hsb] at S0
  rw [hsd] at S1
  clear hb2 hD hDk hDn HNP hsb hsd hbs
  cases sb
  case false =>
    have e : D = [] := by
      have h := HDK.out
      rw [Bool.false_and, if_neg (by simp)] at h
      exact List.map_eq_nil_iff.1 h
    subst e
    rw [Bool.false_and]
    clear S1 HDK HD
    go_wp2_with fail
    refine S0.mono ?_
    clear S0
    rintro e w3 ⟨rfl, hb3⟩
    have HB3 := Hid.mk' (HB2.out.trans (hb3.mono HB2.out.size))
    clear hb3
    go_wp2_with fail
    refine (AW.out _).mono ?_
    rintro e w4 ⟨rfl, hb4⟩
    have HB4 := Hid.mk' (HB3.out.trans (hb4.mono HB3.out.size))
    clear hb4
    go_wp2_with fail
    go_ret
    exact ⟨rfl, HB4.out⟩
  rw [Bool.true_and] at HDK ⊢
  go_wp2_with fail
  refine S0.mono ?_
  clear S0
  rintro e w3 ⟨rfl, hb3⟩
  have HB3 := Hid.mk' (HB2.out.trans (hb3.mono HB2.out.size))
  have S1X := S1.out w3 hb3
  have HD3 := Hid.mk' (HD.out.below hb3)
  clear hb3 S1 HD HB2
  go_wp2_with fail
  refine S1X.mono ?_
  clear S1X
  rintro e w4 ⟨rfl, hb4⟩
  have HB4 := Hid.mk' (HB3.out.trans (hb4.mono HB3.out.size))
  have HD4 := Hid.mk' (HD3.out.below hb4)
  clear hb4 HD3 HB3
  cases sd
  case false =>
    have e : D = [] := by
      have h := HDK.out
      rw [if_neg (by simp)] at h
      exact List.map_eq_nil_iff.1 h
    subst e
    clear HDK HD4
    go_wp2_with fail
    refine (AW.out _).mono ?_
    rintro e w5 ⟨rfl, hb5⟩
    have HB5 := Hid.mk' (HB4.out.trans (hb5.mono HB4.out.size))
    clear hb5
    go_wp2_with fail
    go_ret
    exact ⟨rfl, HB5.out⟩
  rw [if_pos rfl] at HDK
  have CP := rcopy_any p0 c0 b w4 (HI0.out.below HB4.out) (by omega) (fun x hx => by have := (H0.out.bags x hx).1; omega)
  obtain ⟨np, hnp⟩ : ∃ np, CopyPost w4 b = np := ⟨_, rfl⟩
  have HNP := Hid.mk' hnp
  rw [hnp] at CP
  clear hnp
  go_wp2_with fail
  refine CP.mono ?_
  clear CP
  intro e w5 hcp
  rw [← HNP.out] at hcp
  obtain ⟨g, l1, rfl, hk1, hin1, hb5⟩ := hcp
  have HB5 := Hid.mk' (HB4.out.trans (hb5.mono HB4.out.size))
  have HD5 := Hid.mk' (HD4.out.below hb5)
  have HIN := Hid.mk' hin1
  have HK1 := Hid.mk' hk1
  clear hb5 hin1 hk1 HD4 HB4 HNP
  go_wp2_with fail
  go_loopw [7, 8] (fun v i W => ∃ (k g : Nat) (l' : List Rc), k ≤ d.length ∧ i = .int .i64 k ∧ v = .slice (some ⟨g, 0, none⟩) l'.length l'.length ∧ Hid (RIn W (some ⟨g, 0, none⟩) l') ∧ Hid (rks l' = overK (rks b) (rks (d.take k))) ∧ Hid (Below w5.heap.size w5 W)) (fun _ i _ => d.length - (intOf i).toNat)
  case atStart => exact ⟨0, g, l1, by omega, rfl, rfl, HIN, Hid.mk' (by rw [HK1.out]; simp [overK, rks]), Below.refl _ _⟩
  case round =>
    obtain ⟨k, g', l', hk, rfl, rfl, HR, HK, HBW⟩ := hrel
    clear HIN HK1
    have HSM := Hid.mk' (over_small H0.out H1.out k hk)
    have hll : l'.length ≤ 2000 := by
      have h1 := congrArg List.length HK.out
      rw [rks_len] at h1
      have := HSM.out.1
      omega
    have HBG := Hid.mk' (HB5.out.trans (HBW.out.mono HB5.out.size))
    by_cases t : k < d.length
    · obtain ⟨bb, oo, hbo, hc⟩ := (HI1.out.below HBG.out).at (by omega)
      obtain ⟨hx, hok⟩ := hc k t
      have hyb := (H1.out.bags (d.getD k zr) (by simp [List.getD, t])).1
      have HN := Hid.mk' (over_next (rks b) d k t)
      subst hbo
      generalize d.getD k zr = y at hx hok hyb HN
      obtain ⟨e0, e1, e2, e3, e4, e5, e6⟩ := hx
      have PU := rput_any (some ⟨g', 0, none⟩) l'.length l' y wr HR.out hok (Nat.le_refl _) (by simp only [maxLen]; omega) (by simp) (by omega) (fun x hx => by
        have h1 := HSM.out.2 (rk x) (by rw [← HK.out]; exact List.mem_map_of_mem hx)
        have h2 : (rk x).bag.length = x.bag.length := kys_len _
        omega) (by omega)
      obtain ⟨np, hnp⟩ : ∃ np, CopyPost wr (putL y l') = np := ⟨_, rfl⟩
      have HNP := Hid.mk' hnp
      rw [hnp] at PU
      clear hnp hc hok HBG HSM
      go_wp2_with fail
      refine PU.mono ?_
      clear PU e0 e1 e2 e3 e4 e5 e6
      intro e w6 hcp
      rw [← HNP.out] at hcp
      obtain ⟨g2, l2, rfl, hk2, hin2, hb6⟩ := hcp
      have HK2 := Hid.mk' (show rks l2 = overK (rks b) (rks (d.take (k + 1))) by rw [hk2, putL_rks, HN.out, HK.out])
      have HIN2 := Hid.mk' hin2
      have HB6 := Hid.mk' (HBW.out.trans (hb6.mono HBW.out.size))
      clear hk2 hin2 hb6 HR HK HBW HNP HN
      go_wp2_with fail
      go_roundw
      case rel => exact ⟨k + 1, g2, l2, by omega, by go_num, rfl, HIN2, HK2, HB6⟩
      case measure => simp [intOf]; omega
    · obtain rfl : k = d.length := by omega
      rw [List.take_of_length_le (Nat.le_refl _)] at HK
      have AL := allAlike_any pD (some ⟨g', 0, none⟩) cD l'.length D l' wr (HD5.out.below HBW.out) HR.out (by simp only [maxLen]; omega) (by simp only [maxLen]; omega)
      rw [show decide (rks D = rks l') = true by rw [HDK.out, HK.out]; simp] at AL
      clear HK HR HBW HSM HDK HD5
      go_wp2_with fail
      refine AL.mono ?_
      clear AL
      rintro e w7 ⟨rfl, hb7⟩
      have HB7 := Hid.mk' (HBG.out.trans (hb7.mono HBG.out.size))
      clear hb7
      go_wp2_with fail
      refine (AW.out _).mono ?_
      rintro e w8 ⟨rfl, hb8⟩
      have HB8 := Hid.mk' (HB7.out.trans (hb8.mono HB7.out.size))
      clear hb8
      go_wp2_with fail
      go_ret
      exact ⟨rfl, HB8.out⟩
end Go.Proofs.Ytnladolpcocchaa
