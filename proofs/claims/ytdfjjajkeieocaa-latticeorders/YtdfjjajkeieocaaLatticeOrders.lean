/-
  Proved: the statement on the order in which layer 9's lists are merged (LatticeOrders) returns true at every input, and leaves its arguments as they were. No condition.
-/
import Derived.Test.YtdfjjajkeieocaaRows
import Derived.Test.YtdfjjajkeieocaaLatMg
import Derived.Test.YtdfjjajkeieocaaLatO
import Derived.Test.YtdfjjajkeieocaaRecX
import Derived.ShutString
import Derived.ChangeOld
namespace Go.Proofs.Ytdfjjajkeieocaa.latticeOrders
open Go.ChangeShapes Go.WideShapes Go.ChangeAt Go.RowKit
open Go.ChangeMaps (open_string shut_string)
set_option linter.unusedVariables false
set_option synthInstance.maxSize 2000
set_option linter.unusedSimpArgs false

/-- What is known of a list that came in. -/
structure Lst (w : World) (p : Option Addr) (c : Nat) (l : List Rc) : Prop where
  inn : RIn w p l
  nil : p = none → c = 0
  len : l.length ≤ 20
  few : ∀ x ∈ l, x.bag.length ≤ 40 ∧ szK (kys x.bag) ≤ 5000
theorem Lst.pt {w X : World} {p : Option Addr} {c : Nat} {l : List Rc} (h : Lst w p c l) (k : Below w.heap.size w X) : PtOk X ⟨p, c, l⟩ :=
  ⟨h.inn.below k, h.nil, by have := h.len; simp only; omega, fun x hx => by have := h.few x hx; omega⟩
theorem Lst.bags {w : World} {p : Option Addr} {c : Nat} {l : List Rc} (h : Lst w p c l) : ∀ r ∈ rks l, szK r.bag ≤ 5000 := fun r hr => by
  obtain ⟨x, hx, rfl⟩ := List.mem_map.1 hr
  exact (h.few x hx).2
theorem szs {l : List Rc} (h : ∀ r ∈ rks l, szK r.bag ≤ 5000) : ∀ x ∈ l, szK (kys x.bag) ≤ 5000 := fun x hx => h (rk x) (List.mem_map.2 ⟨x, hx, rfl⟩)

set_option maxHeartbeats 16000000 in
set_option maxRecDepth 10000 in
theorem walk (p0 : Option Addr) (c0 : Nat) (l : List Rc) (p1 : Option Addr) (c1 : Nat) (m : List Rc) (p2 : Option Addr) (c2 : Nat) (z : List Rc) (w : World) (hlc0 : l.length ≤ c0) (hcm0 : c0 ≤ maxLen) (hp0 : p0 = none → c0 = 0) (hin0 : RIn w p0 l) (hlc1 : m.length ≤ c1) (hcm1 : c1 ≤ maxLen) (hp1 : p1 = none → c1 = 0) (hin1 : RIn w p1 m) (hlc2 : z.length ≤ c2) (hcm2 : c2 ≤ maxLen) (hp2 : p2 = none → c2 = 0) (hin2 : RIn w p2 z) :
    Calls Try.prog 7 #[.slice p0 l.length c0, .slice p1 m.length c1, .slice p2 z.length c2] w fun e w' => e = .returned (.bool true) ∧ Below w.heap.size w w' := by
  have AW := fun X => awake9_any X
  have n0 := Nat.le_trans hlc0 hcm0
  have F0 := lfew_any p0 c0 l w hin0 n0
  obtain ⟨f0, hf0⟩ : ∃ f, fewR (rks l) = f := ⟨_, rfl⟩
  rw [hf0] at F0
  have HF0 := Hid.mk' hf0
  have HI0 := Hid.mk' hin0
  have HP0 := Hid.mk' hp0
  have HN0 := Hid.mk' n0
  have n1 := Nat.le_trans hlc1 hcm1
  have F1 := lfew_any p1 c1 m w hin1 n1
  obtain ⟨f1, hf1⟩ : ∃ f, fewR (rks m) = f := ⟨_, rfl⟩
  rw [hf1] at F1
  have HF1 := Hid.mk' hf1
  have HI1 := Hid.mk' hin1
  have HP1 := Hid.mk' hp1
  have HN1 := Hid.mk' n1
  have n2 := Nat.le_trans hlc2 hcm2
  have F2 := lfew_any p2 c2 z w hin2 n2
  obtain ⟨f2, hf2⟩ : ∃ f, fewR (rks z) = f := ⟨_, rfl⟩
  rw [hf2] at F2
  have HF2 := Hid.mk' hf2
  have HI2 := Hid.mk' hin2
  have HP2 := Hid.mk' hp2
  have HN2 := Hid.mk' n2
  clear hf0 n0 hin0 hlc0 hcm0 hp0 hf1 n1 hin1 hlc1 hcm1 hp1 hf2 n2 hin2 hlc2 hcm2 hp2
  go_enter Try.func7, Try.ntmps7
  go_wp2_with fail
  refine F0.mono ?_
  rintro e x0 ⟨rfl, rfl⟩
  clear F0
  cases f0
  · go_wp2_with fail
    refine (AW _).mono ?_
    rintro e xe ⟨rfl, hbe⟩
    have HBE := Hid.mk' hbe
    clear hbe
    go_wp2_with fail
    go_ret
    exact ⟨rfl, HBE.out⟩
  go_wp2_with fail
  refine F1.mono ?_
  rintro e x1 ⟨rfl, rfl⟩
  clear F1
  cases f1
  · go_wp2_with fail
    refine (AW _).mono ?_
    rintro e xe ⟨rfl, hbe⟩
    have HBE := Hid.mk' hbe
    clear hbe
    go_wp2_with fail
    go_ret
    exact ⟨rfl, HBE.out⟩
  go_wp2_with fail
  refine F2.mono ?_
  rintro e x2 ⟨rfl, rfl⟩
  clear F2
  cases f2
  · go_wp2_with fail
    refine (AW _).mono ?_
    rintro e xe ⟨rfl, hbe⟩
    have HBE := Hid.mk' hbe
    clear hbe
    go_wp2_with fail
    go_ret
    exact ⟨rfl, HBE.out⟩
  have HL0 := Hid.mk' (show Lst w p0 c0 l from ⟨HI0.out, HP0.out, (fewR_yes HF0.out).1, (fewR_yes HF0.out).2⟩)
  have S0 := fun X (h : Below w.heap.size w X) => sorted_any p0 c0 l X (HI0.out.below h) HN0.out (fun x hx => by have := (HL0.out.few x hx).2; omega)
  obtain ⟨s0, hs0⟩ : ∃ s, sortR (-1) (rks l) = s := ⟨_, rfl⟩
  rw [hs0] at S0
  have HS0 := Hid.mk' hs0
  have HL1 := Hid.mk' (show Lst w p1 c1 m from ⟨HI1.out, HP1.out, (fewR_yes HF1.out).1, (fewR_yes HF1.out).2⟩)
  have S1 := fun X (h : Below w.heap.size w X) => sorted_any p1 c1 m X (HI1.out.below h) HN1.out (fun x hx => by have := (HL1.out.few x hx).2; omega)
  obtain ⟨s1, hs1⟩ : ∃ s, sortR (-1) (rks m) = s := ⟨_, rfl⟩
  rw [hs1] at S1
  have HS1 := Hid.mk' hs1
  have HL2 := Hid.mk' (show Lst w p2 c2 z from ⟨HI2.out, HP2.out, (fewR_yes HF2.out).1, (fewR_yes HF2.out).2⟩)
  have S2 := fun X (h : Below w.heap.size w X) => sorted_any p2 c2 z X (HI2.out.below h) HN2.out (fun x hx => by have := (HL2.out.few x hx).2; omega)
  obtain ⟨s2, hs2⟩ : ∃ s, sortR (-1) (rks z) = s := ⟨_, rfl⟩
  rw [hs2] at S2
  have HS2 := Hid.mk' hs2
  clear hs0 HF0 HI0 HP0 hs1 HF1 HI1 HP1 hs2 HF2 HI2 HP2
  have HB0 := Hid.mk' (Below.refl w.heap.size w)
  go_wp2_with fail
  refine (S0 _ HB0.out).mono ?_
  rintro e y0 ⟨rfl, hb⟩
  have HB1 := Hid.mk' (HB0.out.trans (hb.mono HB0.out.size))
  clear hb S0 HB0
  cases s0
  · go_wp2_with fail
    refine (AW _).mono ?_
    rintro e xe ⟨rfl, hbe⟩
    have HBE := Hid.mk' (HB1.out.trans (hbe.mono HB1.out.size))
    clear hbe
    go_wp2_with fail
    go_ret
    exact ⟨rfl, HBE.out⟩
  go_wp2_with fail
  refine (S1 _ HB1.out).mono ?_
  rintro e y1 ⟨rfl, hb⟩
  have HB2 := Hid.mk' (HB1.out.trans (hb.mono HB1.out.size))
  clear hb S1 HB1
  cases s1
  · go_wp2_with fail
    refine (AW _).mono ?_
    rintro e xe ⟨rfl, hbe⟩
    have HBE := Hid.mk' (HB2.out.trans (hbe.mono HB2.out.size))
    clear hbe
    go_wp2_with fail
    go_ret
    exact ⟨rfl, HBE.out⟩
  go_wp2_with fail
  refine (S2 _ HB2.out).mono ?_
  rintro e y2 ⟨rfl, hb⟩
  have HB3 := Hid.mk' (HB2.out.trans (hb.mono HB2.out.size))
  clear hb S2 HB2
  cases s2
  · go_wp2_with fail
    refine (AW _).mono ?_
    rintro e xe ⟨rfl, hbe⟩
    have HBE := Hid.mk' (HB3.out.trans (hbe.mono HB3.out.size))
    clear hbe
    go_wp2_with fail
    go_ret
    exact ⟨rfl, HBE.out⟩
  have HL0s := Hid.mk' (sortR_asc HS0.out)
  have HL1s := Hid.mk' (sortR_asc HS1.out)
  have HL2s := Hid.mk' (sortR_asc HS2.out)
  have M0 := mergeS [⟨p0, c0, l⟩, ⟨p1, c1, m⟩, ⟨p2, c2, z⟩] y2 (by
    intro q hq
    simp only [List.mem_cons, List.not_mem_nil, or_false] at hq
    rcases hq with rfl | rfl | rfl
    · exact HL0.out.pt HB3.out
    · exact HL1.out.pt HB3.out
    · exact HL2.out.pt HB3.out
    ) (by simp) rfl 3 rfl
  simp only [List.map_cons, List.map_nil] at M0
  go_wp2_with fail
  refine M0.mono ?_
  clear M0
  rintro e m0 ⟨hc, hb⟩
  rw [if_pos (show allSorted [⟨p0, c0, l⟩, ⟨p1, c1, m⟩, ⟨p2, c2, z⟩] = true by simp only [allSorted, List.all_cons, List.all_nil, HS0.out, HS1.out, HS2.out]; rfl)] at hc
  obtain ⟨q0, d0, r0, rfl, hin, hasc, heq, hlen, hfw, hnil⟩ := hc
  have hba := (Below.refl y2.heap.size y2).alloc (Nat.le_refl _) (.cells #[.slice p0 l.length c0, .slice p1 m.length c1, .slice p2 z.length c2] 22)
  have HX0 := Hid.mk' (hba.trans (hb.mono (by simp)))
  have HBm0 := Hid.mk' (HB3.out.trans (HX0.out.mono HB3.out.size))
  have HMG0 := Hid.mk' (show Mrg (rks r0) (rks l ++ (rks m ++ (rks z ++ []))) from ⟨hasc, fun x => by rw [heq x]; simp only [allR, List.flatMap_cons, List.flatMap_nil, rks_append]; rfl⟩)
  have HIN0 := Hid.mk' hin
  have HNL0 := Hid.mk' hnil
  have HLEN0 := Hid.mk' (show r0.length ≤ 200 from by have h0 := HL0.out.len; have h1 := HL1.out.len; have h2 := HL2.out.len; simp only [allR, List.flatMap_cons, List.flatMap_nil, List.length_append, List.length_nil] at hlen; omega)
  have HFW0 := Hid.mk' hfw
  clear hba hb hin hasc heq hlen hfw hnil
  have M1 := mergeS [⟨p2, c2, z⟩, ⟨p0, c0, l⟩, ⟨p1, c1, m⟩, ⟨p0, c0, l⟩] m0 (by
    intro q hq
    simp only [List.mem_cons, List.not_mem_nil, or_false] at hq
    rcases hq with rfl | rfl | rfl | rfl
    · exact HL2.out.pt HBm0.out
    · exact HL0.out.pt HBm0.out
    · exact HL1.out.pt HBm0.out
    · exact HL0.out.pt HBm0.out
    ) (by simp) rfl 4 rfl
  simp only [List.map_cons, List.map_nil] at M1
  go_wp2_with fail
  refine M1.mono ?_
  clear M1
  rintro e m1 ⟨hc, hb⟩
  rw [if_pos (show allSorted [⟨p2, c2, z⟩, ⟨p0, c0, l⟩, ⟨p1, c1, m⟩, ⟨p0, c0, l⟩] = true by simp only [allSorted, List.all_cons, List.all_nil, HS0.out, HS1.out, HS2.out]; rfl)] at hc
  obtain ⟨q1, d1, r1, rfl, hin, hasc, heq, hlen, hfw, hnil⟩ := hc
  have hba := (Below.refl m0.heap.size m0).alloc (Nat.le_refl _) (.cells #[.slice p2 z.length c2, .slice p0 l.length c0, .slice p1 m.length c1, .slice p0 l.length c0] 22)
  have HX1 := Hid.mk' (hba.trans (hb.mono (by simp)))
  have HBm1 := Hid.mk' (HBm0.out.trans (HX1.out.mono HBm0.out.size))
  have HMG1 := Hid.mk' (show Mrg (rks r1) (rks z ++ (rks l ++ (rks m ++ (rks l ++ [])))) from ⟨hasc, fun x => by rw [heq x]; simp only [allR, List.flatMap_cons, List.flatMap_nil, rks_append]; rfl⟩)
  have HIN1 := Hid.mk' hin
  have HNL1 := Hid.mk' hnil
  have HLEN1 := Hid.mk' (show r1.length ≤ 200 from by have h0 := HL0.out.len; have h1 := HL1.out.len; have h2 := HL2.out.len; simp only [allR, List.flatMap_cons, List.flatMap_nil, List.length_append, List.length_nil] at hlen; omega)
  have HFW1 := Hid.mk' hfw
  clear hba hb hin hasc heq hlen hfw hnil
  have M2 := mergeS [⟨p1, c1, m⟩, ⟨p2, c2, z⟩] m1 (by
    intro q hq
    simp only [List.mem_cons, List.not_mem_nil, or_false] at hq
    rcases hq with rfl | rfl
    · exact HL1.out.pt HBm1.out
    · exact HL2.out.pt HBm1.out
    ) (by simp) rfl 2 rfl
  simp only [List.map_cons, List.map_nil] at M2
  go_wp2_with fail
  refine M2.mono ?_
  clear M2
  rintro e m2 ⟨hc, hb⟩
  rw [if_pos (show allSorted [⟨p1, c1, m⟩, ⟨p2, c2, z⟩] = true by simp only [allSorted, List.all_cons, List.all_nil, HS1.out, HS2.out]; rfl)] at hc
  obtain ⟨q2, d2, r2, rfl, hin, hasc, heq, hlen, hfw, hnil⟩ := hc
  have hba := (Below.refl m1.heap.size m1).alloc (Nat.le_refl _) (.cells #[.slice p1 m.length c1, .slice p2 z.length c2] 22)
  have HX2 := Hid.mk' (hba.trans (hb.mono (by simp)))
  have HBm2 := Hid.mk' (HBm1.out.trans (HX2.out.mono HBm1.out.size))
  have HMG2 := Hid.mk' (show Mrg (rks r2) (rks m ++ (rks z ++ [])) from ⟨hasc, fun x => by rw [heq x]; simp only [allR, List.flatMap_cons, List.flatMap_nil, rks_append]; rfl⟩)
  have HIN2 := Hid.mk' hin
  have HNL2 := Hid.mk' hnil
  have HLEN2 := Hid.mk' (show r2.length ≤ 200 from by have h0 := HL0.out.len; have h1 := HL1.out.len; have h2 := HL2.out.len; simp only [allR, List.flatMap_cons, List.flatMap_nil, List.length_append, List.length_nil] at hlen; omega)
  have HFW2 := Hid.mk' hfw
  clear hba hb hin hasc heq hlen hfw hnil
  have HYM := Hid.mk' (show ∀ r ∈ rks m ++ (rks z ++ []), (mayR r = true ∧ -1 < r.id) ∧ szK r.bag ≤ 5000 from fun r hr => by
    simp only [List.mem_append, List.not_mem_nil, or_false] at hr
    rcases hr with hr | hr
    · exact ⟨HL1s.out.2 r hr, HL1.out.bags r hr⟩
    · exact ⟨HL2s.out.2 r hr, HL2.out.bags r hr⟩)
  have HYS := Hid.mk' (HMG2.out.sorted (fun r hr => (HYM.out r hr).1))
  have HYB := Hid.mk' (szs (HMG2.out.bags (fun r hr => (HYM.out r hr).2)))
  have M3 := mergeS [⟨p0, c0, l⟩, ⟨q2, d2, r2⟩] m2 (by
    intro q hq
    simp only [List.mem_cons, List.not_mem_nil, or_false] at hq
    rcases hq with rfl | rfl
    · exact HL0.out.pt HBm2.out
    · exact ⟨HIN2.out, HNL2.out, by have := HLEN2.out; simp only; omega, fun x hx => ⟨HFW2.out x hx, by have := HYB.out x hx; omega⟩⟩
    ) (by simp) rfl 2 rfl
  simp only [List.map_cons, List.map_nil] at M3
  go_wp2_with fail
  refine M3.mono ?_
  clear M3
  rintro e m3 ⟨hc, hb⟩
  rw [if_pos (show allSorted [⟨p0, c0, l⟩, ⟨q2, d2, r2⟩] = true by simp only [allSorted, List.all_cons, List.all_nil, HS0.out, HYS.out]; rfl)] at hc
  obtain ⟨q3, d3, r3, rfl, hin, hasc, heq, hlen, hfw, hnil⟩ := hc
  have hba := (Below.refl m2.heap.size m2).alloc (Nat.le_refl _) (.cells #[.slice p0 l.length c0, .slice q2 r2.length d2] 22)
  have HX3 := Hid.mk' (hba.trans (hb.mono (by simp)))
  have HBm3 := Hid.mk' (HBm2.out.trans (HX3.out.mono HBm2.out.size))
  have HMG3 := Hid.mk' (show Mrg (rks r3) (rks l ++ (rks r2 ++ [])) from ⟨hasc, fun x => by rw [heq x]; simp only [allR, List.flatMap_cons, List.flatMap_nil, rks_append]; rfl⟩)
  have HIN3 := Hid.mk' hin
  have HNL3 := Hid.mk' hnil
  have HLEN3 := Hid.mk' (show r3.length ≤ 300 from by have h0 := HL0.out.len; have h1 := HLEN2.out; simp only [allR, List.flatMap_cons, List.flatMap_nil, List.length_append, List.length_nil] at hlen; omega)
  have HFW3 := Hid.mk' hfw
  clear hba hb hin hasc heq hlen hfw hnil
  have HE1 := Hid.mk' (show rks r0 = rks r1 from HMG0.out.same HMG1.out (order_eq _ _ _))
  have HE3 := Hid.mk' (show rks r0 = rks r3 from HMG0.out.same HMG3.out (late_eq _ _ _ _ HMG2.out.eq))
  have HA0 := Hid.mk' (show RIn m3 q0 r0 from ((HIN0.out.below HX1.out).below HX2.out).below HX3.out)
  have HA1 := Hid.mk' (show RIn m3 q1 r1 from (HIN1.out.below HX2.out).below HX3.out)
  have hbig : ∀ n : Nat, n ≤ 300 → n ≤ maxLen := fun n h => by unfold maxLen; omega
  have HBIG := Hid.mk' hbig
  clear hbig
  have A1 := allAlike_any q0 q1 d0 d1 r0 r1 m3 HA0.out HA1.out (HBIG.out _ (by have := HLEN0.out; omega)) (HBIG.out _ (by have := HLEN1.out; omega))
  rw [decide_eq_true HE1.out] at A1
  have A3 := fun X (h : Below m3.heap.size m3 X) => allAlike_any q0 q3 d0 d3 r0 r3 X (HA0.out.below h) (HIN3.out.below h) (HBIG.out _ (by have := HLEN0.out; omega)) (HBIG.out _ HLEN3.out)
  rw [decide_eq_true HE3.out] at A3
  go_wp2_with fail
  refine (A1).mono ?_
  rintro e n1 ⟨rfl, hb⟩
  have HZ1 := Hid.mk' hb
  clear hb
  clear A1
  go_wp2_with fail
  refine (A3 _ HZ1.out).mono ?_
  rintro e n2 ⟨rfl, hb⟩
  have HZ2 := Hid.mk' (HZ1.out.trans (hb.mono HZ1.out.size))
  clear hb
  clear A3 HZ1
  have U0 := fun X (h : Below m3.heap.size m3 X) => under_any p0 q0 c0 d0 l r0 X (HL0.out.inn.below (HBm3.out.trans (h.mono HBm3.out.size))) (HA0.out.below h) HN0.out (HBIG.out _ (by have := HLEN0.out; omega))
  rw [show underK l r0 = true from under_yes (fun r hr => HMG0.out.over r (by simp only [List.mem_append, List.not_mem_nil, or_false]; exact .inl hr))] at U0
  have U1 := fun X (h : Below m3.heap.size m3 X) => under_any p1 q0 c1 d0 m r0 X (HL1.out.inn.below (HBm3.out.trans (h.mono HBm3.out.size))) (HA0.out.below h) HN1.out (HBIG.out _ (by have := HLEN0.out; omega))
  rw [show underK m r0 = true from under_yes (fun r hr => HMG0.out.over r (by simp only [List.mem_append, List.not_mem_nil, or_false]; exact .inr (.inl hr)))] at U1
  have U2 := fun X (h : Below m3.heap.size m3 X) => under_any p2 q0 c2 d0 z r0 X (HL2.out.inn.below (HBm3.out.trans (h.mono HBm3.out.size))) (HA0.out.below h) HN2.out (HBIG.out _ (by have := HLEN0.out; omega))
  rw [show underK z r0 = true from under_yes (fun r hr => HMG0.out.over r (by simp only [List.mem_append, List.not_mem_nil, or_false]; exact .inr (.inr hr)))] at U2
  go_wp2_with fail
  refine (U0 _ HZ2.out).mono ?_
  rintro e n3 ⟨rfl, hb⟩
  have HZ3 := Hid.mk' (HZ2.out.trans (hb.mono HZ2.out.size))
  clear hb
  clear U0 HZ2
  go_wp2_with fail
  refine (U1 _ HZ3.out).mono ?_
  rintro e n4 ⟨rfl, hb⟩
  have HZ4 := Hid.mk' (HZ3.out.trans (hb.mono HZ3.out.size))
  clear hb
  clear U1 HZ3
  go_wp2_with fail
  refine (U2 _ HZ4.out).mono ?_
  rintro e n5 ⟨rfl, hb⟩
  have HZ5 := Hid.mk' (HZ4.out.trans (hb.mono HZ4.out.size))
  clear hb
  clear U2 HZ4
  have V := under_any q0 p0 d0 c0 r0 l n5 (HA0.out.below HZ5.out) (HL0.out.inn.below (HBm3.out.trans (HZ5.out.mono HBm3.out.size))) (HBIG.out _ (by have := HLEN0.out; omega)) HN0.out
  obtain ⟨u, hu⟩ : ∃ u, underK r0 l = u := ⟨_, rfl⟩
  rw [hu] at V
  have HU := Hid.mk' hu
  clear hu
  go_wp2_with fail
  refine (V).mono ?_
  rintro e n6 ⟨rfl, hb⟩
  have HZ6 := Hid.mk' (HZ5.out.trans (hb.mono HZ5.out.size))
  clear hb
  clear V HZ5
  have HBW6 := Hid.mk' (HBm3.out.trans (HZ6.out.mono HBm3.out.size))
  cases u
  · go_wp2_with fail
    refine (AW _).mono ?_
    rintro e xe ⟨rfl, hbe⟩
    have HBE := Hid.mk' (HBW6.out.trans (hbe.mono HBW6.out.size))
    clear hbe
    go_wp2_with fail
    go_ret
    exact ⟨rfl, HBE.out⟩
  have W := allAlike_any q0 p0 d0 c0 r0 l n6 (HA0.out.below HZ6.out) (HL0.out.inn.below HBW6.out) (HBIG.out _ (by have := HLEN0.out; omega)) HN0.out
  rw [decide_eq_true (under_same HMG0.out HL0s.out.1 (fun r hr => by simp only [List.mem_append]; exact .inl hr) HU.out)] at W
  clear HBW6
  go_wp2_with fail
  refine (W).mono ?_
  rintro e n7 ⟨rfl, hb⟩
  have HZ7 := Hid.mk' (HZ6.out.trans (hb.mono HZ6.out.size))
  clear hb
  clear W HZ6
  have HBW7 := Hid.mk' (HBm3.out.trans (HZ7.out.mono HBm3.out.size))
  go_wp2_with fail
  refine (AW _).mono ?_
  rintro e xe ⟨rfl, hbe⟩
  have HBE := Hid.mk' (HBW7.out.trans (hbe.mono HBW7.out.size))
  clear hbe
  go_wp2_with fail
  go_ret
  exact ⟨rfl, HBE.out⟩

theorem own : ownKnob Try.prog.godebug = none := by kernel_rfl
theorem laidOut : laidOutB Try.prog = true := by kernel_rfl

set_option maxRecDepth 100000 in
theorem lifted (os : Os) (started : os.Started) (H : Type) (enc : TypeId × Value → H) :
    ReturnsInHanded {} Try.checked os 7 .any (Rows.latticeOrdersSpec.pre6 enc Try.prog Try.f7 Rows.latticeOrdersRow.domain false) (Rows.latticeOrdersSpec.post enc Try.prog Try.f7 false true false false) := by
  refine returnsInHanded_of_change_sized (C := Try.checked) own started (by kernel_rfl) Try.func7
    (ChangeSpec.witness6 (enc := enc) (C := Try.checked) false ⟨#[], #[.slice none 0 0, .slice none 0 0, .slice none 0 0], []⟩ 8 (by kernel_rfl) (by kernel_rfl) (by kernel_rfl) (by kernel_rfl)) ?_
  intro W base args ds gs before hval0 hW hcnd hsz0 _
  have hz : ∀ (j : Nat) t d, Try.f7.params.toList[j]? = some t → ds[j]? = some d → ∀ n ∈ d.weights Try.prog t, n ≤ reachBytes := fun j t d ht hd n hn => by
    have := List.all_eq_true.1 hsz0 n (DataW.weights_mem_each (j := j) (t := t) (d := d) (by rw [List.getElem?_append_left (List.getElem?_eq_some_iff.1 ht).1]; exact ht) (by rw [List.getElem?_append_left (List.getElem?_eq_some_iff.1 hd).1]; exact hd) n hn)
    simpa using this
  have hval : ∀ (j : Nat) t v, Try.f7.params[j]? = some t → args[j]? = some v → Value.okWide Try.prog W .any base t v := hval0
  have hW' := hW
  obtain ⟨p, q, hA0, hV, rfl, hfz, hnd⟩ := hW
  have hA : DataW.TrodAll enc Try.prog W 0 (fun _ => true) true Try.f7.params.toList args.toList ds p := hA0
  rw [Try.params7] at hA hval hz
  obtain ⟨v0, vs0, d0, ds0, p0x, q0, hargs, rfl, rfl, h0, r0⟩ := trodAll_cons hA
  obtain ⟨v1, vs1, d1, ds1, p1x, q1, rfl, rfl, rfl, h1, r1⟩ := trodAll_cons r0
  obtain ⟨v2, vs2, d2, ds2, p2x, q2, rfl, rfl, rfl, h2, r2⟩ := trodAll_cons r1
  obtain ⟨rfl, rfl, rfl⟩ := trodAll_nil r2
  obtain rfl : args = #[v0, v1, v2] := by cases args; simp_all
  obtain ⟨rfl, rfl⟩ := trodVars_none hV
  obtain ⟨p0, len0, c0, rfl⟩ := okWide_slice Try.underlying22 (hval 0 22 v0 rfl rfl)
  have k0 := h0
  have lt0 : ∀ x ∈ p0x, x.block < W.heap.size := by obtain ⟨m, hm⟩ := k0; exact DataW.trod_lt m _ _ _ hm
  obtain ⟨l0, rfl, hlc0, hcm0, hp0, hin0⟩ : ∃ l : List Rc, l.length = len0 ∧ len0 ≤ c0 ∧ c0 ≤ maxLen ∧ (p0 = none → c0 = 0) ∧ LIn W p0 7 shRc l := by
    haveI : Inhabited Rc := ⟨zr⟩
    obtain ⟨fuel, hf⟩ := h0
    obtain ⟨l, p, c, hcs, hl1, hl2, hl3, _, hl4⟩ := opensZ_slice (size := 7) (bytes := 72) Try.underlying22 (by kernel_rfl) (by kernel_rfl) (by decide) opensZ_rc _ _ _ hf (hz 0 22 d0 rfl rfl)
    simp [Value.cells] at hcs
    obtain ⟨rfl, rfl, rfl⟩ := hcs
    exact ⟨l, rfl, hl1, hl2, hl3, hl4⟩
  obtain ⟨p1, len1, c1, rfl⟩ := okWide_slice Try.underlying22 (hval 1 22 v1 rfl rfl)
  have k1 := h1
  have lt1 : ∀ x ∈ p1x, x.block < W.heap.size := by obtain ⟨m, hm⟩ := k1; exact DataW.trod_lt m _ _ _ hm
  obtain ⟨l1, rfl, hlc1, hcm1, hp1, hin1⟩ : ∃ l : List Rc, l.length = len1 ∧ len1 ≤ c1 ∧ c1 ≤ maxLen ∧ (p1 = none → c1 = 0) ∧ LIn W p1 7 shRc l := by
    haveI : Inhabited Rc := ⟨zr⟩
    obtain ⟨fuel, hf⟩ := h1
    obtain ⟨l, p, c, hcs, hl1, hl2, hl3, _, hl4⟩ := opensZ_slice (size := 7) (bytes := 72) Try.underlying22 (by kernel_rfl) (by kernel_rfl) (by decide) opensZ_rc _ _ _ hf (hz 1 22 d1 rfl rfl)
    simp [Value.cells] at hcs
    obtain ⟨rfl, rfl, rfl⟩ := hcs
    exact ⟨l, rfl, hl1, hl2, hl3, hl4⟩
  obtain ⟨p2, len2, c2, rfl⟩ := okWide_slice Try.underlying22 (hval 2 22 v2 rfl rfl)
  have k2 := h2
  have lt2 : ∀ x ∈ p2x, x.block < W.heap.size := by obtain ⟨m, hm⟩ := k2; exact DataW.trod_lt m _ _ _ hm
  obtain ⟨l2, rfl, hlc2, hcm2, hp2, hin2⟩ : ∃ l : List Rc, l.length = len2 ∧ len2 ≤ c2 ∧ c2 ≤ maxLen ∧ (p2 = none → c2 = 0) ∧ LIn W p2 7 shRc l := by
    haveI : Inhabited Rc := ⟨zr⟩
    obtain ⟨fuel, hf⟩ := h2
    obtain ⟨l, p, c, hcs, hl1, hl2, hl3, _, hl4⟩ := opensZ_slice (size := 7) (bytes := 72) Try.underlying22 (by kernel_rfl) (by kernel_rfl) (by decide) opensZ_rc _ _ _ hf (hz 2 22 d2 rfl rfl)
    simp [Value.cells] at hcs
    obtain ⟨rfl, rfl, rfl⟩ := hcs
    exact ⟨l, rfl, hl1, hl2, hl3, hl4⟩
  clear hA0 hval0
  refine (walk p0 c0 l0 p1 c1 l1 p2 c2 l2 W hlc0 hcm0 hp0 hin0 hlc1 hcm1 hp1 hin1 hlc2 hcm2 hp2 hin2).mono fun e W' ⟨he, bel⟩ => ?_
  subst he
  exact ⟨_, rfl, _, _, _, [], _, [], hW', trodAll_mk1 (shut_bool Try.underlying4 _), (trodAll_cons_mk (Below.trod laidOut (by kernel_rfl) (of_decide_eq_true (by kernel_rfl)) k0 bel lt0) (trodAll_cons_mk (Below.trod laidOut (by kernel_rfl) (of_decide_eq_true (by kernel_rfl)) k1 bel lt1) (trodAll_cons_mk (Below.trod laidOut (by kernel_rfl) (of_decide_eq_true (by kernel_rfl)) k2 bel lt2) trodAll_mk0))), rfl, bel.frame _, fun h => by cases h⟩

theorem over : Rows.latticeOrdersRow.holds Try.pinned (OpenSpec.ofChange Rows.latticeOrdersSpec) :=
  OpenClaim.holds_of_wide 7 Try.f7 rfl rfl rfl rfl rfl rfl rfl ⟨rfl, rfl, rfl, rfl, rfl⟩ rfl rfl rfl rfl rfl (by kernel_rfl) Try.func7 (by kernel_rfl)
    (of_decide_eq_true (by kernel_rfl)) (by unfold Func.isWrapper; first | (rw [if_pos (by decide +kernel)]; kernel_rfl) | (rw [if_neg (by decide +kernel)]; exact ⟨rfl, rfl⟩))
    (fun os started H enc _ => lifted os started H enc)

/-- The given statement. -/
theorem proved : Rows.LatticeOrdersSaid := over
#print axioms proved
end Go.Proofs.Ytdfjjajkeieocaa.latticeOrders
