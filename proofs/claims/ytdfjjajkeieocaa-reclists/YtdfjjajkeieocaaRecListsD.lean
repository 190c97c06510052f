/-
  The statement on layer 8, lists: a part of its walk.
-/
import Derived.Test.YtdfjjajkeieocaaRecListsC
namespace Go.Proofs.Ytdfjjajkeieocaa.recLists
open Go.ChangeShapes Go.WideShapes Go.ChangeAt Go.RowKit
open Go.ChangeMaps (open_string shut_string)
set_option linter.unusedVariables false
set_option synthInstance.maxSize 2000
set_option linter.unusedSimpArgs false

set_option maxHeartbeats 16000000 in
set_option maxRecDepth 10000 in
theorem part4 (p0 : Option Addr) (c0 : Nat) (l : List Rc) (r : Rc) (v : Int) (w : World) : (part3 p0 c0 l r v w).1 := by
  intro hp0 Q' hl20 HFL HFR HIN HOK HN0 HLC HCM K owr ou27 ou28 ou29 ou30 ou31 ou32 ou33 ou34 ou35 ou36 ou37 ou38 ou39 ou40 ou41 ou42 ou43 ou44 ou45 ou46 ou47 ou48 ou49 ou50 ou51 ou52 ou53 ou54 ou55 ou56 ou57 ou58 ou59 ou60 ou61 ou62 ou63 ou64 ou65 ou66 ou67 ou68 ou69 ou70 ou71 ou72 ou73 ou74 ou75 ou76 ou77 ou78 ou79 ou80 ou81 ou82 ou83 ou84 ou85 ou86 ou87 ou88 ou89 ou90 ou91 ou92 ou93 ou94 sv ra rs ru HSM HAB HSV w1 f ok ok_1 wc u17 u18 u19 u20 u21 u22 u23 u24 u25 u26 u27 u28 u29 u30 u31 u32 u33 u34 u35 u36 u37 u38 u39 u40 u41 u42 u43 u44 u45 u46 u47 u48 u49 u50 u51 u52 u53 u54 u55 u56 u57 u58 u59 u60 u61 u62 u63 u64 u65 u66 u67 u68 u69 u70 u71 u72 u73 u74 u75 u76 u77 u78 u79 u80 u81 u82 u83 u84 u85 u86 u87 u88 u89 u90 u91 u92 u93 u94 u95 u96 u97 u98 u99 u100 u101 u102 u103 u104 u105 u106 u107 u108 u109 u110 u111 u112 u113 u114 u115 u116 u117 u118 u119 u120 u121 u122 u123 u124 u125 u126 u127 u128 u129 u130 u131 ou133 ou134 ou135 ou136 ou137 ou138 ou139 ou140 ou141 ou142 ou143 ou144 ou145 ou146 ou147 ou148 ou149 ou150 ou151 ou152 ou153 ou154 ou155 ou156 ou157 ou158 ou159 ou160 ou161 ou162 ou163 ou164 u165 u166 u167 u168 u169 u170 u171 u172 u173 u174 u175 u176 u177 u178 u179 u180 u181 u182 u183 u184 u185 u186 u187 u188 u189 u190 u191 u192 u193 u194 u195 u196 u197 u198 u199 u200 u201 u202 u203 u204 u205 u206 u207 u208 u209 u210 u211 u212 u213 u214 u215 HX2 oK oa wr u14 u133 u134 u135 u136 u137 u138 u139 u140 u141 u142 u143 u144 u145 u146 u147 u148 u149 u150 u151 u152 u153 u154 u155 u156 u157 u158 u159 u160 u161 u162 u163 u164 k hk HW HB t
  obtain ⟨b, o, rfl, hc⟩ := (HIN.out.below HX2.out.below).at (by omega)
  obtain ⟨hx, _⟩ := hc k t
  clear hc
  have HWL := Hid.mk' (show wlK l r rs ru (k + 1) = (wlK l r rs ru k ++ (if (k : Int) = rs ∨ (rs < 0 ∧ (k : Int) = ru) then [r] else [])) ++ (if (k : Int) = rs then [] else [l.getD k zr]) from rfl)
  have hlen := wl_len l r rs ru k
  generalize wlK l r rs ru k = A at HW HWL hlen
  generalize l.getD k zr = y at HWL hx
  have hl1 : A.length ≤ 1000 := by omega
  have hl2 : (A ++ [r]).length ≤ 1000 := by simp; omega
  have HRD := Hid.mk' (show ∀ X, Below wc.heap.size wc X → RAt X b (o + k * 7) y from fun X h => hx.below h)
  clear hx hlen
  obtain ⟨g0, g1, g2, g3, g4, g5, g6⟩ := box_cells (HX2.out.on HB.out).box
  obtain ⟨e0, e1, e2, e3, e4, e5, e6⟩ := HRD.out _ HB.out
  by_cases q1 : (k : Int) = rs
  · have d1 : ((k : Int) == rs) = true := by simpa using q1
    have d2 : ((k : Int) != rs) = false := by simp [q1]
    have HE := Hid.mk' (show wlK l r rs ru (k + 1) = A ++ [r] from by rw [HWL.out, if_pos (Or.inl q1), if_pos q1, List.append_nil])
    clear HWL q1
    go_wp2_with (at_builtin; refine wpList_addR (by rfl) (.tmp 151) (.tmp 153) (by rfl) (by rfl) (by exact HW.out) (by exact HB.out.size) r (by rfl) (by exact hl1) ?_)
    intro a1 x1 h3 hx3
    have HW1 := Hid.mk' h3
    have HB1 := Hid.mk' (HB.out.trans hx3)
    clear h3 hx3
    clear g0 g1 g2 g3 g4 g5 g6 e0 e1 e2 e3 e4 e5 e6
    go_wp2_with fail
    go_roundw
    case rel => exact ⟨k + 1, by omega, by go_num, by rw [HE.out]; exact HW1, HB1⟩
    case measure => simp [intOf]; omega
  · have d1 : ((k : Int) == rs) = false := by simpa using q1
    have d2 : ((k : Int) != rs) = true := by simpa using q1
    by_cases q2 : rs < 0
    · have d3 : decide (rs < 0) = true := by simpa using q2
      by_cases q3 : (k : Int) = ru
      · have d4 : ((k : Int) == ru) = true := by simpa using q3
        have HE := Hid.mk' (show wlK l r rs ru (k + 1) = (A ++ [r]) ++ [y] from by rw [HWL.out, if_pos (Or.inr ⟨q2, q3⟩), if_neg q1])
        clear HWL q1 q3
        go_wp2_with (at_builtin; refine wpList_addR (by rfl) (.tmp 151) (.tmp 153) (by rfl) (by rfl) (by exact HW.out) (by exact HB.out.size) r (by rfl) (by exact hl1) ?_)
        intro a1 x1 h3 hx3
        have HW1 := Hid.mk' h3
        have HB1 := Hid.mk' (HB.out.trans hx3)
        clear h3 hx3
        clear g0 g1 g2 g3 g4 g5 g6 e0 e1 e2 e3 e4 e5 e6
        obtain ⟨e0, e1, e2, e3, e4, e5, e6⟩ := HRD.out _ HB1.out
        generalize A ++ [r] = A1 at HE HW1 hl2
        go_wp2_with (at_builtin; refine wpList_addR (by rfl) (.tmp 158) (.tmp 163) (by rfl) (by rfl) (by exact HW1.out) (by exact HB1.out.size) y (by rfl) (by exact hl2) ?_)
        intro a2 x2 h3 hx3
        have HW2 := Hid.mk' h3
        have HB2 := Hid.mk' (HB1.out.trans hx3)
        clear h3 hx3
        clear e0 e1 e2 e3 e4 e5 e6
        go_wp2_with fail
        go_roundw
        case rel => exact ⟨k + 1, by omega, by go_num, by rw [HE.out]; exact HW2, HB2⟩
        case measure => simp [intOf]; omega
      · have d4 : ((k : Int) == ru) = false := by simpa using q3
        have HE := Hid.mk' (show wlK l r rs ru (k + 1) = A ++ [y] from by rw [HWL.out, if_neg (by omega), if_neg q1, List.append_nil])
        clear HWL q1 q3
        go_wp2_with (at_builtin; refine wpList_addR (by rfl) (.tmp 158) (.tmp 163) (by rfl) (by rfl) (by exact HW.out) (by exact HB.out.size) y (by rfl) (by exact hl1) ?_)
        intro a1 x1 h3 hx3
        have HW1 := Hid.mk' h3
        have HB1 := Hid.mk' (HB.out.trans hx3)
        clear h3 hx3
        clear g0 g1 g2 g3 g4 g5 g6 e0 e1 e2 e3 e4 e5 e6
        go_wp2_with fail
        go_roundw
        case rel => exact ⟨k + 1, by omega, by go_num, by rw [HE.out]; exact HW1, HB1⟩
        case measure => simp [intOf]; omega
    · have d3 : decide (rs < 0) = false := by simpa using q2
      have HE := Hid.mk' (show wlK l r rs ru (k + 1) = A ++ [y] from by rw [HWL.out, if_neg (by omega), if_neg q1, List.append_nil])
      clear HWL q1
      go_wp2_with (at_builtin; refine wpList_addR (by rfl) (.tmp 158) (.tmp 163) (by rfl) (by rfl) (by exact HW.out) (by exact HB.out.size) y (by rfl) (by exact hl1) ?_)
      intro a1 x1 h3 hx3
      have HW1 := Hid.mk' h3
      have HB1 := Hid.mk' (HB.out.trans hx3)
      clear h3 hx3
      clear g0 g1 g2 g3 g4 g5 g6 e0 e1 e2 e3 e4 e5 e6
      go_wp2_with fail
      go_roundw
      case rel => exact ⟨k + 1, by omega, by go_num, by rw [HE.out]; exact HW1, HB1⟩
      case measure => simp [intOf]; omega
end Go.Proofs.Ytdfjjajkeieocaa.recLists
