/-
  Stage 10: the statements' own May: a part of its walk.
-/
import Derived.Test.YtjkimmflngiijaaDoorLaw10M3
namespace Go.Proofs.YtjkimmflngiijaaDoor
open Go.RowKit
set_option linter.unusedSimpArgs false
set_option linter.unusedVariables false
set_option maxRecDepth 10000
set_option synthInstance.maxSize 2000

set_option maxHeartbeats 16000000 in
theorem mayPart4 (m : Mg) (w : World) : (mayPart3 m w).1 := by
  intro q rD rE HE rR h0 h1 h4 L4 sr HR C oQ w2 HI1 c0 c1 c2 c3 c4 c5 c6 c7 c8 c9 c10 ou3 ou4 ou5 ou6 ou7 ou8 ou9 ou10 ou11 ou12 ou13 ou14 ou15 ou16 ou17 ou18 ou19 ou20 ou21 ou22 ou23 ou24 ou25 ou26 ou27 ou28 ou29 ou30 ou31 ou32 ou33 ou34 ou35 ou36 ou37 ou38 ou39 ou40 ou41 ou42 ou43 ou44 ou45 ou46 ou47 ou48 ou49 ou50 ou51 ou52 ou53 ou54 ou55 ou56 ou57 ou58 ou59 ou60 ou61 ou62 ou63 ou64 ou65 ou66 ou67 ou68 ou69 ou70 ou71 ou72 ou73 ou74 ou75 ou77 ou78 ou79 ou80 ou81 ou82 ou83 ou84 ou85 ou86 ou87 ou88 ou89 ou90 ou91 ou92 ou93 ou94 ou95 ou96 ou97 ou98 ou99 ou100 ou101 ou102 ou103 ou104 ou105 ou106 ou107 ou108 ou109 ou110 ou111 ou112 ou113 ou114 ou115 ou116 ou117 ou118 ou119 ou120 ou121 ou122 ou123 ou124 ou125 ou126 ou127 ou128 ou129 ou130 ou131 ou132 ou133 ou134 ou135 ou136 ou137 ou138 ou139 ou140 ou141 ou142 ou143 ou144 ou145 ou146 ou147 ou148 ou149 ou150 ou151 ou152 ou153 ou154 ou155 ou156 ou157 ou158 ou159 ou160 ou161 ou162 ou163 ou164 ou165 ou166 ou167 ou168 ou169 ou170 ou171 ou172 ou173 ou174 ou175 ou176 ou177 ou178 oh ou3_1 ou4_1 ou5_1 ou6_1 ou7_1 ou8_1 ou9_1 ou10_1 ou11_1 ou12_1 ou13_1 ou14_1 ou15_1 ou16_1 ou17_1 ou18_1 ou19_1 ou20_1 ou21_1 ou22_1 ou23_1 ou24_1 ou25_1 ou26_1 ou27_1 ou28_1 ou29_1 ou30_1 ou31_1 ou32_1 ou33_1 ou34_1 ou35_1 ou36_1 ou37_1 ou38_1 ou39_1 ou40_1 ou41_1 ou42_1 ou43_1 ou44_1 ou45_1 ou46_1 ou47_1 ou48_1 ou49_1 ou50_1 ou51_1 ou52_1 ou53_1 ou54_1 ou55_1 ou56_1 ou57_1 ou58_1 ou59_1 ou60_1 ou61_1 ou62_1 ou63_1 ou64_1 ou65_1 ou66_1 ou67_1 ou68_1 ou69_1 ou70_1 ou71_1 ou72_1 ou73_1 ou74_1 ou75_1 ou76 ou77_1 ou78_1 ou79_1 ou80_1 ou81_1 ou82_1 ou83_1 ou84_1 ou85_1 ou86_1 ou87_1 ou88_1 ou90_1 ou91_1 ou92_1 ou93_1 ou94_1 ou95_1 ou96_1 ou97_1 ou98_1 ou99_1 ou100_1 ou101_1 ou102_1 ou103_1 ou104_1 ou105_1 ou106_1 ou107_1 ou108_1 ou109_1 ou110_1 ou111_1 u112 ou113_1 ou114_1 ou115_1 ou116_1 ou117_1 ou118_1 ou119_1 ou120_1 ou121_1 ou122_1 ou123_1 ou124_1 ou125_1 ou126_1 ou127_1 ou128_1 ou129_1 ou130_1 ou131_1 ou132_1 ou133_1 ou134_1 ou135_1 ou136_1 ou137_1 ou138_1 ou139_1 ou140_1 ou141_1 ou142_1 ou143_1 ou144_1 ou145_1 ou146_1 ou147_1 ou148_1 ou149_1 ou150_1 ou151_1 ou152_1 ou153_1 ou154_1 ou155_1 ou156_1 ou157_1 ou158_1 ou159_1 ou160_1 ou161_1 ou162_1 ou163_1 ou164_1 ou165_1 ou166_1 ou167_1 ou168_1 ou169_1 ou170_1 ou171_1 ou172_1 ou173_1 ou174_1 ou175_1 ou176_1 ou177_1 ou178_1 oh_1 u3 u4 u5 u6 u7 u8 u9 u10 u11 u12 u13 u14 u15 u16 u17 u18 u19 u20 u21 u22 u23 u24 u25 u26 u27 u28 u29 u30 u31 u32 u33 u34 u35 u36 u37 u38 u39 u40 u41 u42 u43 u44 u45 u46 u47 u48 u49 u50 u51 u52 u53 u54 u55 u56 u57 u58 u59 u60 u61 u62 u63 u64 u65 u66 u67 u68 u69 u70 u71 u72 u73 u74 u75 u76 u77 u78 u79 u80 u81 u82 u83 u84 u85 u86 u87 u88 u89 u90 u91 u92 u93 u94 u95 u96 u97 u98 u99 u100 u101 u102 u103 u104 u105 u106 u107 u108 u109 u110 u111 u113 u114 u115 u116 u117 u118 u119 u120 u121 u122 u123 u124 u125 u126 u127 u128 u129 u130 u131 u132 u133 u134 u135 u136 u137 u138 u139 u140 u141 u142 u143 u144 u145 u146 u147 u148 u149 u150 u151 u152 u153 u154 u155 u156 u157 u158 u159 u160 u161 u162 u163 u164 u165 u166 u167 u168 u169 u170 u171 u172 u173 u174 u175 u176 u177 u178 HQ oh_1_1 oK oa oK_1 oa_1 oJ oK_1_1 oa_1_1 oa_1_1_1 oK_1_1_1 oa_1_1_1_1 HD L2
  by_cases e0 : m.epoch = 0
  · have d0 : (m.epoch == 0) = true := by simp [e0]
    by_cases l0 : 0 < m.life
    · skip
      obtain rfl : rD = false := by rw [HD.out]; simp [l0, e0]
      try clear k9
      try clear e0
      try clear k7
      clear HD HQ
      go_wp2_with fail
      go_meet
      exact ⟨by first | rfl | (congr 1; simp; omega), rfl⟩
    by_cases k9 : m.kind = 9
    · have d9 : (m.kind == 9) = true := by simp [k9]
      obtain rfl : rD = false := by rw [HD.out]; simp [l0, e0, k9]
      try clear k9
      try clear e0
      try clear k7
      clear HD HQ
      go_wp2_with fail
      go_meet
      exact ⟨by first | rfl | (congr 1; simp; omega), rfl⟩
    · have d9 : (m.kind == 9) = false := by simp [k9]
      obtain rfl : rD = true := by rw [HD.out]; simp [l0, e0, k9]
      try clear k9
      try clear e0
      try clear k7
      clear HD HQ
      go_wp2_with fail
      go_meet
      exact ⟨by first | rfl | (congr 1; simp; omega), rfl⟩
  · have d0 : (m.epoch == 0) = false := by simp [e0]
    by_cases k9 : m.kind = 9
    · have d9 : (m.kind == 9) = true := by simp [k9]
      obtain rfl : rD = true := by rw [HD.out]; simp [e0, k9]
      try clear k9
      try clear e0
      try clear k7
      clear HD HQ
      go_wp2_with fail
      go_meet
      exact ⟨by first | rfl | (congr 1; simp; omega), rfl⟩
    · have d9 : (m.kind == 9) = false := by simp [k9]
      obtain rfl : rD = true := by rw [HD.out]; simp [e0, k9]
      try clear k9
      try clear e0
      try clear k7
      clear HD HQ
      go_wp2_with fail
      go_meet
      exact ⟨by first | rfl | (congr 1; simp; omega), rfl⟩
end Go.Proofs.YtjkimmflngiijaaDoor
