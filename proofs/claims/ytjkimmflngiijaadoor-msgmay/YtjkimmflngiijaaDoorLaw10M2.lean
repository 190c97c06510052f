/-
  Stage 10: the statements' own May: a part of its walk.
-/
import Derived.Test.YtjkimmflngiijaaDoorLaw10M1
namespace Go.Proofs.YtjkimmflngiijaaDoor
open Go.RowKit
set_option linter.unusedSimpArgs false
set_option linter.unusedVariables false
set_option maxRecDepth 10000
set_option synthInstance.maxSize 2000

set_option maxHeartbeats 16000000 in
def mayPart2 (m : Mg) (w : World) : PSigma fun P : Prop => (MHeld P → (mayPart1 m w).1) := by
  refine' ⟨_, fun hP => ?_⟩
  case refine'_2 =>
  intro q rB HB rC HC rD rE HE rR h0 h1 h2 HD L2 h4 L4 sr HR C oQ oK oa oK_1 oa_1 w2 HI1 c0 c1 c2 c3 c4 c5 c6 c7 c8 c9 c10 u3 u4 u5 u6 u7 u8 u9 u10 u11 u12 u13 u14 u15 u16 u17 u18 u19 u20 u21 u22 u23 u24 u25 u26 u27 u28 u29 u30 u31 u32 u33 u34 u35 u36 u37 u38 u39 u40 u41 u42 u43 u44 u45 u46 u47 u48 u49 u50 u51 u52 u53 u54 u55 u56 u57 u58 u59 u60 u61 u62 u63 u64 u65 u66 u67 u68 u69 u70 u71 u72 u73 u74 u75 u77 u78 u79 u80 u81 u82 u83 u84 u85 u86 u87 u88 u89 u90 u91 u92 u93 u94 u95 u96 u97 u98 u99 u100 u101 u102 u103 u104 u105 u106 u107 u108 u109 u110 u111 u112 u113 u114 u115 u116 u117 u118 u119 u120 u121 u122 u123 u124 u125 u126 u127 u128 u129 u130 u131 u132 u133 u134 u135 u136 u137 u138 u139 u140 u141 u142 u143 u144 u145 u146 u147 u148 u149 u150 u151 u152 u153 u154 u155 u156 u157 u158 u159 u160 u161 u162 u163 u164 u165 u166 u167 u168 u169 u170 u171 u172 u173 u174 u175 u176 u177 u178 HQ
  go_upto_region 5 with fail
  go_cut [89] (fun t wx => t = .bool (!rB) ∧ w2 = wx)
  case first =>
    by_cases k3 : m.kind = 3
    · have d3 : (m.kind == 3) = true := by simp [k3]
      by_cases t0 : m.tgt < 1
      · obtain rfl : rB = false := by rw [HB.out]; simp [k3]; omega
        clear k3 HB HQ
        go_wp2_with fail
        go_meet
        exact ⟨by first | rfl | (congr 1; simp; omega), rfl⟩
      by_cases t1 : 3 < m.tgt
      · obtain rfl : rB = false := by rw [HB.out]; simp [k3]; omega
        clear k3 HB HQ
        go_wp2_with fail
        go_meet
        exact ⟨by first | rfl | (congr 1; simp; omega), rfl⟩
      · obtain rfl : rB = true := by rw [HB.out]; simp [k3]; omega
        clear k3 HB HQ
        go_wp2_with fail
        go_meet
        exact ⟨by first | rfl | (congr 1; simp; omega), rfl⟩
    · have d3 : (m.kind == 3) = false := by simp [k3]
      obtain rfl : rB = true := by rw [HB.out]; simp [k3]
      clear HB HQ
      go_wp2_with fail
      go_meet
      exact ⟨by first | rfl | (congr 1; simp; omega), rfl⟩
  case rest =>
  obtain ⟨rfl, rfl⟩ := hcut
  clear HB
  cases rB
  · obtain rfl : q = false := by rw [HQ.out]; simp
    clear HQ
    go_wp2_with fail
    go_ret
    exact ⟨rfl, HI1.out.below⟩
  go_upto_region 7 with fail
  go_cut [112] (fun t wx => t = .bool (!rC) ∧ w2 = wx)
  case first =>
    by_cases t0 : m.life < 0
    · obtain rfl : rC = false := by rw [HC.out]; exact decide_eq_false (by omega)
      clear HC HQ
      go_wp2_with fail
      go_meet
      exact ⟨by first | rfl | (congr 1; simp; omega), rfl⟩
    by_cases t1 : 281474976710655 < m.life
    · obtain rfl : rC = false := by rw [HC.out]; exact decide_eq_false (by omega)
      clear HC HQ
      go_wp2_with fail
      go_meet
      exact ⟨by first | rfl | (congr 1; simp; omega), rfl⟩
    by_cases t2 : m.epoch < 0
    · obtain rfl : rC = false := by rw [HC.out]; exact decide_eq_false (by omega)
      clear HC HQ
      go_wp2_with fail
      go_meet
      exact ⟨by first | rfl | (congr 1; simp; omega), rfl⟩
    by_cases t3 : 65535 < m.epoch
    · obtain rfl : rC = false := by rw [HC.out]; exact decide_eq_false (by omega)
      clear HC HQ
      go_wp2_with fail
      go_meet
      exact ⟨by first | rfl | (congr 1; simp; omega), rfl⟩
    by_cases t4 : m.base < 0
    · obtain rfl : rC = false := by rw [HC.out]; exact decide_eq_false (by omega)
      clear HC HQ
      go_wp2_with fail
      go_meet
      exact ⟨by first | rfl | (congr 1; simp; omega), rfl⟩
    obtain rfl : rC = true := by rw [HC.out]; exact decide_eq_true (by omega)
    clear HC HQ
    go_wp2_with fail
    go_meet
    exact ⟨by first | rfl | (congr 1; simp; omega), rfl⟩
  case rest =>
  obtain ⟨rfl, rfl⟩ := hcut
  clear HC
  cases rC
  · obtain rfl : q = false := by rw [HQ.out]; simp
    clear HQ
    go_wp2_with fail
    go_ret
    exact ⟨rfl, HI1.out.below⟩
  rename_i ou3 ou4 ou5 ou6 ou7 ou8 ou9 ou10 ou11 ou12 ou13 ou14 ou15 ou16 ou17 ou18 ou19 ou20 ou21 ou22 ou23 ou24 ou25 ou26 ou27 ou28 ou29 ou30 ou31 ou32 ou33 ou34 ou35 ou36 ou37 ou38 ou39 ou40 ou41 ou42 ou43 ou44 ou45 ou46 ou47 ou48 ou49 ou50 ou51 ou52 ou53 ou54 ou55 ou56 ou57 ou58 ou59 ou60 ou61 ou62 ou63 ou64 ou65 ou66 ou67 ou68 ou69 ou70 ou71 ou72 ou73 ou74 ou75 ou77 ou78 ou79 ou80 ou81 ou82 ou83 ou84 ou85 ou86 ou87 ou88 ou89 ou90 ou91 ou92 ou93 ou94 ou95 ou96 ou97 ou98 ou99 ou100 ou101 ou102 ou103 ou104 ou105 ou106 ou107 ou108 ou109 ou110 ou111 ou112 ou113 ou114 ou115 ou116 ou117 ou118 ou119 ou120 ou121 ou122 ou123 ou124 ou125 ou126 ou127 ou128 ou129 ou130 ou131 ou132 ou133 ou134 ou135 ou136 ou137 ou138 ou139 ou140 ou141 ou142 ou143 ou144 ou145 ou146 ou147 ou148 ou149 ou150 ou151 ou152 ou153 ou154 ou155 ou156 ou157 ou158 ou159 ou160 ou161 ou162 ou163 ou164 ou165 ou166 ou167 ou168 ou169 ou170 ou171 ou172 ou173 ou174 ou175 ou176 ou177 ou178 oh ou3_1 ou4_1 ou5_1 ou6_1 ou7_1 ou8_1 ou9_1 ou10_1 ou11_1 ou12_1 ou13_1 ou14_1 ou15_1 ou16_1 ou17_1 ou18_1 ou19_1 ou20_1 ou21_1 ou22_1 ou23_1 ou24_1 ou25_1 ou26_1 ou27_1 ou28_1 ou29_1 ou30_1 ou31_1 ou32_1 ou33_1 ou34_1 ou35_1 ou36_1 ou37_1 ou38_1 ou39_1 ou40_1 ou41_1 ou42_1 ou43_1 ou44_1 ou45_1 ou46_1 ou47_1 ou48_1 ou49_1 ou50_1 ou51_1 ou52_1 ou53_1 ou54_1 ou55_1 ou56_1 ou57_1 ou58_1 ou59_1 ou60_1 ou61_1 ou62_1 ou63_1 ou64_1 ou65_1 ou66_1 ou67_1 ou68_1 ou69_1 ou70_1 ou71_1 ou72_1 ou73_1 ou74_1 ou75_1 ou76 ou77_1 ou78_1 ou79_1 ou80_1 ou81_1 ou82_1 ou83_1 ou84_1 ou85_1 ou86_1 ou87_1 ou88_1 ou90_1 ou91_1 ou92_1 ou93_1 ou94_1 ou95_1 ou96_1 ou97_1 ou98_1 ou99_1 ou100_1 ou101_1 ou102_1 ou103_1 ou104_1 ou105_1 ou106_1 ou107_1 ou108_1 ou109_1 ou110_1 ou111_1 ou113_1 ou114_1 ou115_1 ou116_1 ou117_1 ou118_1 ou119_1 ou120_1 ou121_1 ou122_1 ou123_1 ou124_1 ou125_1 ou126_1 ou127_1 ou128_1 ou129_1 ou130_1 ou131_1 ou132_1 ou133_1 ou134_1 ou135_1 ou136_1 ou137_1 ou138_1 ou139_1 ou140_1 ou141_1 ou142_1 ou143_1 ou144_1 ou145_1 ou146_1 ou147_1 ou148_1 ou149_1 ou150_1 ou151_1 ou152_1 ou153_1 ou154_1 ou155_1 ou156_1 ou157_1 ou158_1 ou159_1 ou160_1 ou161_1 ou162_1 ou163_1 ou164_1 ou165_1 ou166_1 ou167_1 ou168_1 ou169_1 ou170_1 ou171_1 ou172_1 ou173_1 ou174_1 ou175_1 ou176_1 ou177_1 ou178_1 oh_1 oK oa oK_1 oa_1
  revert HQ; revert u178; revert u177; revert u176; revert u175; revert u174; revert u173; revert u172; revert u171; revert u170; revert u169; revert u168; revert u167; revert u166; revert u165; revert u164; revert u163; revert u162; revert u161; revert u160; revert u159; revert u158; revert u157; revert u156; revert u155; revert u154; revert u153; revert u152; revert u151; revert u150; revert u149; revert u148; revert u147; revert u146; revert u145; revert u144; revert u143; revert u142; revert u141; revert u140; revert u139; revert u138; revert u137; revert u136; revert u135; revert u134; revert u133; revert u132; revert u131; revert u130; revert u129; revert u128; revert u127; revert u126; revert u125; revert u124; revert u123; revert u122; revert u121; revert u120; revert u119; revert u118; revert u117; revert u116; revert u115; revert u114; revert u113; revert u111; revert u110; revert u109; revert u108; revert u107; revert u106; revert u105; revert u104; revert u103; revert u102; revert u101; revert u100; revert u99; revert u98; revert u97; revert u96; revert u95; revert u94; revert u93; revert u92; revert u91; revert u90; revert u89; revert u88; revert u87; revert u86; revert u85; revert u84; revert u83; revert u82; revert u81; revert u80; revert u79; revert u78; revert u77; revert u76; revert u75; revert u74; revert u73; revert u72; revert u71; revert u70; revert u69; revert u68; revert u67; revert u66; revert u65; revert u64; revert u63; revert u62; revert u61; revert u60; revert u59; revert u58; revert u57; revert u56; revert u55; revert u54; revert u53; revert u52; revert u51; revert u50; revert u49; revert u48; revert u47; revert u46; revert u45; revert u44; revert u43; revert u42; revert u41; revert u40; revert u39; revert u38; revert u37; revert u36; revert u35; revert u34; revert u33; revert u32; revert u31; revert u30; revert u29; revert u28; revert u27; revert u26; revert u25; revert u24; revert u23; revert u22; revert u21; revert u20; revert u19; revert u18; revert u17; revert u16; revert u15; revert u14; revert u13; revert u12; revert u11; revert u10; revert u9; revert u8; revert u7; revert u6; revert u5; revert u4; revert u3; revert oa_1; revert oK_1; revert oa; revert oK; revert oh_1; revert ou178_1; revert ou177_1; revert ou176_1; revert ou175_1; revert ou174_1; revert ou173_1; revert ou172_1; revert ou171_1; revert ou170_1; revert ou169_1; revert ou168_1; revert ou167_1; revert ou166_1; revert ou165_1; revert ou164_1; revert ou163_1; revert ou162_1; revert ou161_1; revert ou160_1; revert ou159_1; revert ou158_1; revert ou157_1; revert ou156_1; revert ou155_1; revert ou154_1; revert ou153_1; revert ou152_1; revert ou151_1; revert ou150_1; revert ou149_1; revert ou148_1; revert ou147_1; revert ou146_1; revert ou145_1; revert ou144_1; revert ou143_1; revert ou142_1; revert ou141_1; revert ou140_1; revert ou139_1; revert ou138_1; revert ou137_1; revert ou136_1; revert ou135_1; revert ou134_1; revert ou133_1; revert ou132_1; revert ou131_1; revert ou130_1; revert ou129_1; revert ou128_1; revert ou127_1; revert ou126_1; revert ou125_1; revert ou124_1; revert ou123_1; revert ou122_1; revert ou121_1; revert ou120_1; revert ou119_1; revert ou118_1; revert ou117_1; revert ou116_1; revert ou115_1; revert ou114_1; revert ou113_1; revert u112; revert ou111_1; revert ou110_1; revert ou109_1; revert ou108_1; revert ou107_1; revert ou106_1; revert ou105_1; revert ou104_1; revert ou103_1; revert ou102_1; revert ou101_1; revert ou100_1; revert ou99_1; revert ou98_1; revert ou97_1; revert ou96_1; revert ou95_1; revert ou94_1; revert ou93_1; revert ou92_1; revert ou91_1; revert ou90_1; revert ou88_1; revert ou87_1; revert ou86_1; revert ou85_1; revert ou84_1; revert ou83_1; revert ou82_1; revert ou81_1; revert ou80_1; revert ou79_1; revert ou78_1; revert ou77_1; revert ou76; revert ou75_1; revert ou74_1; revert ou73_1; revert ou72_1; revert ou71_1; revert ou70_1; revert ou69_1; revert ou68_1; revert ou67_1; revert ou66_1; revert ou65_1; revert ou64_1; revert ou63_1; revert ou62_1; revert ou61_1; revert ou60_1; revert ou59_1; revert ou58_1; revert ou57_1; revert ou56_1; revert ou55_1; revert ou54_1; revert ou53_1; revert ou52_1; revert ou51_1; revert ou50_1; revert ou49_1; revert ou48_1; revert ou47_1; revert ou46_1; revert ou45_1; revert ou44_1; revert ou43_1; revert ou42_1; revert ou41_1; revert ou40_1; revert ou39_1; revert ou38_1; revert ou37_1; revert ou36_1; revert ou35_1; revert ou34_1; revert ou33_1; revert ou32_1; revert ou31_1; revert ou30_1; revert ou29_1; revert ou28_1; revert ou27_1; revert ou26_1; revert ou25_1; revert ou24_1; revert ou23_1; revert ou22_1; revert ou21_1; revert ou20_1; revert ou19_1; revert ou18_1; revert ou17_1; revert ou16_1; revert ou15_1; revert ou14_1; revert ou13_1; revert ou12_1; revert ou11_1; revert ou10_1; revert ou9_1; revert ou8_1; revert ou7_1; revert ou6_1; revert ou5_1; revert ou4_1; revert ou3_1; revert oh; revert ou178; revert ou177; revert ou176; revert ou175; revert ou174; revert ou173; revert ou172; revert ou171; revert ou170; revert ou169; revert ou168; revert ou167; revert ou166; revert ou165; revert ou164; revert ou163; revert ou162; revert ou161; revert ou160; revert ou159; revert ou158; revert ou157; revert ou156; revert ou155; revert ou154; revert ou153; revert ou152; revert ou151; revert ou150; revert ou149; revert ou148; revert ou147; revert ou146; revert ou145; revert ou144; revert ou143; revert ou142; revert ou141; revert ou140; revert ou139; revert ou138; revert ou137; revert ou136; revert ou135; revert ou134; revert ou133; revert ou132; revert ou131; revert ou130; revert ou129; revert ou128; revert ou127; revert ou126; revert ou125; revert ou124; revert ou123; revert ou122; revert ou121; revert ou120; revert ou119; revert ou118; revert ou117; revert ou116; revert ou115; revert ou114; revert ou113; revert ou112; revert ou111; revert ou110; revert ou109; revert ou108; revert ou107; revert ou106; revert ou105; revert ou104; revert ou103; revert ou102; revert ou101; revert ou100; revert ou99; revert ou98; revert ou97; revert ou96; revert ou95; revert ou94; revert ou93; revert ou92; revert ou91; revert ou90; revert ou89; revert ou88; revert ou87; revert ou86; revert ou85; revert ou84; revert ou83; revert ou82; revert ou81; revert ou80; revert ou79; revert ou78; revert ou77; revert ou75; revert ou74; revert ou73; revert ou72; revert ou71; revert ou70; revert ou69; revert ou68; revert ou67; revert ou66; revert ou65; revert ou64; revert ou63; revert ou62; revert ou61; revert ou60; revert ou59; revert ou58; revert ou57; revert ou56; revert ou55; revert ou54; revert ou53; revert ou52; revert ou51; revert ou50; revert ou49; revert ou48; revert ou47; revert ou46; revert ou45; revert ou44; revert ou43; revert ou42; revert ou41; revert ou40; revert ou39; revert ou38; revert ou37; revert ou36; revert ou35; revert ou34; revert ou33; revert ou32; revert ou31; revert ou30; revert ou29; revert ou28; revert ou27; revert ou26; revert ou25; revert ou24; revert ou23; revert ou22; revert ou21; revert ou20; revert ou19; revert ou18; revert ou17; revert ou16; revert ou15; revert ou14; revert ou13; revert ou12; revert ou11; revert ou10; revert ou9; revert ou8; revert ou7; revert ou6; revert ou5; revert ou4; revert ou3; revert c10; revert c9; revert c8; revert c7; revert c6; revert c5; revert c4; revert c3; revert c2; revert c1; revert c0; revert HI1; revert w2; revert oQ; revert C; revert HR; revert sr; revert L4; revert h4; revert L2; revert HD; revert h2; revert h1; revert h0; revert rR; revert HE; revert rE; revert rD; revert q
  exact hP.it
end Go.Proofs.YtjkimmflngiijaaDoor
