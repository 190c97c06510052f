/-
  The statement on layer 8, lists: a part of its walk.
-/
import Derived.Test.YtdfjjajkeieocaaRecListsC
namespace Go.Proofs.Ytdfjjajkeieocaa.recLists
open Go.ChangeShapes Go.WideShapes Go.ChangeAt Go.RowKit
open Go.ChangeMaps (open_string shut_string)
set_option linter.unusedVariables false
set_option synthInstance.maxSize 2000
set_option linter.unusedSimpArgs false

set_option maxHeartbeats 16000000 in
set_option maxRecDepth 10000 in
theorem part5 (p0 : Option Addr) (c0 : Nat) (l : List Rc) (r : Rc) (v : Int) (w : World) : (part3 p0 c0 l r v w).2.1 := by
  intro hp0 Q' hl20 HFL HFR HIN HOK HN0 HLC HCM K owr ou27 ou28 ou29 ou30 ou31 ou32 ou33 ou34 ou35 ou36 ou37 ou38 ou39 ou40 ou41 ou42 ou43 ou44 ou45 ou46 ou47 ou48 ou49 ou50 ou51 ou52 ou53 ou54 ou55 ou56 ou57 ou58 ou59 ou60 ou61 ou62 ou63 ou64 ou65 ou66 ou67 ou68 ou69 ou70 ou71 ou72 ou73 ou74 ou75 ou76 ou77 ou78 ou79 ou80 ou81 ou82 ou83 ou84 ou85 ou86 ou87 ou88 ou89 ou90 ou91 ou92 ou93 ou94 sv ra rs ru HSM HAB HSV w1 f ok ok_1 wc u17 u18 u19 u20 u21 u22 u23 u24 u25 u26 u27 u28 u29 u30 u31 u32 u33 u34 u35 u36 u37 u38 u39 u40 u41 u42 u43 u44 u45 u46 u47 u48 u49 u50 u51 u52 u53 u54 u55 u56 u57 u58 u59 u60 u61 u62 u63 u64 u65 u66 u67 u68 u69 u70 u71 u72 u73 u74 u75 u76 u77 u78 u79 u80 u81 u82 u83 u84 u85 u86 u87 u88 u89 u90 u91 u92 u93 u94 u95 u96 u97 u98 u99 u100 u101 u102 u103 u104 u105 u106 u107 u108 u109 u110 u111 u112 u113 u114 u115 u116 u117 u118 u119 u120 u121 u122 u123 u124 u125 u126 u127 u128 u129 u130 u131 ou133 ou134 ou135 ou136 ou137 ou138 ou139 ou140 ou141 ou142 ou143 ou144 ou145 ou146 ou147 ou148 ou149 ou150 ou151 ou152 ou153 ou154 ou155 ou156 ou157 ou158 ou159 ou160 ou161 ou162 ou163 ou164 u165 u166 u167 u168 u169 u170 u171 u172 u173 u174 u175 u176 u177 u178 u179 u180 u181 u182 u183 u184 u185 u186 u187 u188 u189 u190 u191 u192 u193 u194 u195 u196 u197 u198 u199 u200 u201 u202 u203 u204 u205 u206 u207 u208 u209 u210 u211 u212 u213 u214 u215 HX2 oK oa wr u14 u133 u134 u135 u136 u137 u138 u139 u140 u141 u142 u143 u144 u145 u146 u147 u148 u149 u150 u151 u152 u153 u154 u155 u156 u157 u158 u159 u160 u161 u162 u163 u164 k hk HW HB t
  have AW := fun X => awake8_any X
  obtain rfl : k = l.length := by omega
  have HPUT := Hid.mk' (wl_put HSM.out HAB.out)
  have hlen := wl_len l r rs ru l.length
  generalize wlK l r rs ru l.length = A at HW HPUT hlen
  have hl1 : A.length ≤ 1000 := by omega
  have HX3 := Hid.mk' (HX2.out.on HB.out)
  have HPM := Hid.mk' (fun x (h : x ∈ putL r l) => putL_mem h)
  have HPL := Hid.mk' (show (putL r l).length ≤ 21 from by have := putL_len r l; omega)
  have PU := fun X (h : InB w r X) => rput_any p0 c0 l r X (HIN.out.below h.below) (HOK.out.below h.below) HLC.out HCM.out hp0 (by omega) (fun x hx => by have := (HFL.out x hx).1; omega) (by have := HFR.out.1; omega)
  have HSP := Hid.mk' (fun (h : mayR (rk r) = true) (h2 : sortR (-1) (rks l) = true) => sort_put r h l (-1) h2 (may_id h))
  generalize putL r l = P at HPUT HPM HPL PU HSP
  clear hlen HSM HAB t hk
  go_upto_region 29 with fail
  go_cut [170] (fun t wx => t = .bool (decide (rs < 0 ∧ ru < 0)) ∧ wx = wr)
  case first =>
    by_cases q1 : rs < 0
    · have d1 : decide (rs < 0) = true := by simpa using q1
      go_wp2_with fail
      go_meet
      exact ⟨by simp [q1], rfl⟩
    · have d1 : decide (rs < 0) = false := by simpa using q1
      go_wp2_with fail
      go_meet
      exact ⟨by rw [decide_eq_false (show ¬ (rs < 0 ∧ ru < 0) by omega)], rfl⟩
  case rest =>
  obtain ⟨rfl, rfl⟩ := hcut
  obtain ⟨qb, hqb⟩ : ∃ qb, decide (rs < 0 ∧ ru < 0) = qb := ⟨_, rfl⟩
  rw [hqb]
  have HQB := Hid.mk' hqb
  clear hqb
  go_upto_if 170 with fail
  go_cut [14] (fun a wx => ∃ B, Hid (OwnL wx B a P) ∧ Hid (InB w r wx))
  case first =>
    cases qb
    · have HE := Hid.mk' (show A = P from by
        have h := HPUT.out
        rw [if_neg (by simpa using HQB.out), List.append_nil] at h
        exact h)
      go_wp2_with fail
      go_meet
      exact ⟨_, by rw [← HE.out]; exact HW, HX3⟩
    · have HE := Hid.mk' (show A ++ [r] = P from by
        have h := HPUT.out
        rw [if_pos (by simpa using HQB.out)] at h
        exact h)
      obtain ⟨g0, g1, g2, g3, g4, g5, g6⟩ := box_cells HX3.out.box
      go_wp2_with (at_builtin; refine wpList_addR (by rfl) (.tmp 171) (.tmp 173) (by rfl) (by rfl) (by exact HW.out) (by exact HB.out.size) r (by rfl) (by exact hl1) ?_)
      intro a1 x1 h3 hx3
      have HW1 := Hid.mk' h3
      have HX4 := Hid.mk' (HX2.out.on (HB.out.trans hx3))
      clear h3 hx3 g0 g1 g2 g3 g4 g5 g6
      go_wp2_with fail
      go_meet
      exact ⟨_, by rw [← HE.out]; exact HW1, HX4⟩
  case rest =>
  obtain ⟨B, HO2, HX4⟩ := hcut
  obtain ⟨p2, c2, rfl, hin2, hn2, hlc2, hcm2⟩ := own_rin (l := P) HO2.out (fun x hx => by
    rcases HPM.out x hx with rfl | h
    · exact HOK.out.below HX4.out.below
    · exact (HIN.out.below HX4.out.below).oks x h)
  have HIN2 := Hid.mk' hin2
  have PU2 := PU _ HX4.out
  obtain ⟨g0, g1, g2, g3, g4, g5, g6⟩ := box_cells HX4.out.box
  clear PU hin2 hn2 hlc2 hcm2 HO2 HX2 HX3 HB HW HPUT hl1 HQB
  go_wp2_with fail
  refine PU2.mono ?_
  clear PU2
  rintro e w2 ⟨g, l', rfl, hrk, hin3, hb2⟩
  have HRK := Hid.mk' hrk
  have HN := Hid.mk' (show l.length ≤ maxLen ∧ l'.length ≤ maxLen ∧ P.length ≤ maxLen from by
    have h1 : (rks l').length = (rks P).length := by rw [hrk]
    rw [rks_len, rks_len] at h1
    have := HPL.out
    unfold maxLen
    omega)
  have HALL := Hid.mk' (show ∀ X, Below w2.heap.size w2 X → InB w r X ∧ RIn X p0 l ∧ RIn X p2 P ∧ RIn X (some ⟨g, 0, none⟩) l' from fun X h =>
    ⟨(HX4.out.on hb2).on h, HIN.out.below ((HX4.out.on hb2).on h).below, (HIN2.out.below hb2).below h, hin3.below h⟩)
  clear hrk hin3 hb2 HIN2 HX4 g0 g1 g2 g3 g4 g5 g6
  go_upto_region 32 with fail
  go_cut [200] (fun t wx => t = .bool false ∧ Hid (Below w2.heap.size w2 wx))
  case first =>
    have AA := allAlike_any (some ⟨g, 0, none⟩) p2 l'.length c2 l' P w2 (HALL.out _ (Below.refl _ _)).2.2.2 (HALL.out _ (Below.refl _ _)).2.2.1 HN.out.2.1 HN.out.2.2
    rw [decide_eq_true HRK.out] at AA
    go_wp2_with fail
    refine AA.mono ?_
    clear AA
    rintro e w3 ⟨rfl, hb3⟩
    have CP := rcopy_any p0 c0 l w3 (HALL.out _ hb3).2.1 (by omega) (fun x hx => by have := (HFL.out x hx).1; omega)
    have HB3 := Hid.mk' hb3
    clear hb3
    go_wp2_with fail
    refine CP.mono ?_
    clear CP
    rintro e w4 ⟨g', l2, rfl, hrk2, hin4, hb4⟩
    have HB4 := Hid.mk' (HB3.out.trans (hb4.mono HB3.out.size))
    have AA := allAlike_any (some ⟨g', 0, none⟩) p0 l2.length c0 l2 l w4 hin4 (HALL.out _ HB4.out).2.1 (by
      have h1 : (rks l2).length = (rks l).length := by rw [hrk2]
      rw [rks_len, rks_len] at h1
      unfold maxLen
      omega) HN.out.1
    rw [decide_eq_true hrk2] at AA
    clear hrk2 hin4 hb4 HB3
    go_wp2_with fail
    refine AA.mono ?_
    clear AA
    rintro e w5 ⟨rfl, hb5⟩
    have HB5 := Hid.mk' (HB4.out.trans (hb5.mono HB4.out.size))
    clear hb5 HB4
    cases sv
    · go_wp2_with fail
      go_meet
      exact ⟨rfl, HB5⟩
    · have MY := lmay_any r w5 (HOK.out.below (HALL.out _ HB5.out).1.below) (by have := HFR.out.2; omega)
      obtain ⟨g0, g1, g2, g3, g4, g5, g6⟩ := box_cells (HALL.out _ HB5.out).1.box
      have HSP2 := Hid.mk' (fun h => HSP.out h HSV.out)
      clear HSP HSV
      generalize mayR (rk r) = m at MY HSP2
      go_wp2_with fail
      refine MY.mono ?_
      clear MY g0 g1 g2 g3 g4 g5 g6
      rintro e w6 ⟨rfl, hb6⟩
      have HB6 := Hid.mk' (HB5.out.trans (hb6.mono HB5.out.size))
      clear hb6 HB5
      cases m
      · go_wp2_with fail
        go_meet
        exact ⟨rfl, HB6⟩
      · have SO := sorted_any (some ⟨g, 0, none⟩) l'.length l' w6 (HALL.out _ HB6.out).2.2.2 HN.out.2.1 (rks_size HRK.out (fun x hx => by
          rcases HPM.out x hx with rfl | h
          · have := HFR.out.2; omega
          · have := (HFL.out x h).2; omega))
        rw [HRK.out, HSP2.out rfl] at SO
        go_wp2_with fail
        refine SO.mono ?_
        clear SO
        rintro e w7 ⟨rfl, hb7⟩
        have HB7 := Hid.mk' (HB6.out.trans (hb7.mono HB6.out.size))
        clear hb7 HB6
        go_wp2_with fail
        go_meet
        exact ⟨rfl, HB7⟩
  case rest =>
  obtain ⟨rfl, HB3⟩ := hcut
  have E1 := requal_any (some ⟨g, 0, none⟩) p2 l'.length c2 l' P _ (HALL.out _ HB3.out).2.2.2 (HALL.out _ HB3.out).2.2.1 HN.out.2.1 HN.out.2.2
  rw [decide_eq_true HRK.out] at E1
  have E2 := fun X (h : Below w2.heap.size w2 X) => requal_any p0 (some ⟨g, 0, none⟩) c0 l'.length l l' X (HALL.out _ h).2.1 (HALL.out _ h).2.2.2 HN.out.1 HN.out.2.1
  rw [HRK.out] at E2
  have E3 := fun X (h : Below w2.heap.size w2 X) => allAlike_any p0 p2 c0 c2 l P X (HALL.out _ h).2.1 (HALL.out _ h).2.2.1 HN.out.1 HN.out.2.2
  generalize decide (rks l = rks P) = dd at E2 E3
  go_wp2_with fail
  refine E1.mono ?_
  clear E1
  rintro e w3 ⟨rfl, hb3⟩
  have HB4 := Hid.mk' (HB3.out.trans (hb3.mono HB3.out.size))
  clear hb3 HB3
  have F2 := E2 _ HB4.out
  clear E2
  go_wp2_with fail
  refine F2.mono ?_
  clear F2
  rintro e w4 ⟨rfl, hb4⟩
  have HB5 := Hid.mk' (HB4.out.trans (hb4.mono HB4.out.size))
  clear hb4 HB4
  have F3 := E3 _ HB5.out
  clear E3
  go_wp2_with fail
  refine F3.mono ?_
  clear F3
  rintro e w5 ⟨rfl, hb5⟩
  have HB6 := Hid.mk' (HB5.out.trans (hb5.mono HB5.out.size))
  clear hb5 HB5
  go_wp2_with fail
  refine (AW _).mono ?_
  rintro e w6 ⟨rfl, hb6⟩
  have HB7 := Hid.mk' (HALL.out _ (HB6.out.trans (hb6.mono HB6.out.size))).1.below
  clear hb6 HB6
  go_wp2_with fail
  go_ret
  exact ⟨rfl, HB7.out⟩
end Go.Proofs.Ytdfjjajkeieocaa.recLists
