/-
  Stage 10: the statements' own May.
-/
import Derived.Test.YtjkimmflngiijaaDoorLaw10
namespace Go.Proofs.YtjkimmflngiijaaDoor
open Go.RowKit
set_option linter.unusedSimpArgs false
set_option linter.unusedVariables false
set_option maxRecDepth 10000
set_option synthInstance.maxSize 2000

def tA (m : Mg) : Bool := decide (0 ≤ m.seq ∧ m.seq ≤ 65535 ∧ 0 ≤ m.tgt ∧ m.tgt ≤ 4095) && (decide (m.seq ≤ 0) || hasB m.kind 0) && (decide (m.tgt ≤ 0) || hasB m.kind 1)
def tB (m : Mg) : Bool := decide (¬ m.kind = 3) || decide (1 ≤ m.tgt ∧ m.tgt ≤ 3)
def tC (m : Mg) : Bool := decide (0 ≤ m.life ∧ m.life ≤ 281474976710655 ∧ 0 ≤ m.epoch ∧ m.epoch ≤ 65535 ∧ 0 ≤ m.base)
def tD (m : Mg) : Bool := (hasB m.kind 2 || !(decide (0 < m.life) || decide (0 < m.epoch))) && !(decide (m.epoch = 0) && decide (0 < m.life)) && !(decide (m.kind = 9) && decide (m.epoch = 0))
def tE (m : Mg) : Bool := !(decide (0 < m.base) && (decide (m.kind ≠ 7) || decide (m.epoch ≤ m.base)))

theorem nums_iff {m : Mg} (h : (1 ≤ m.kind ∧ m.kind ≤ 9) ∧ (0 ≤ m.frm ∧ m.frm ≤ 4095) ∧ (0 ≤ m.inc ∧ m.inc ≤ 281474976710655)) : numsOk m ↔ (tA m && tB m && tC m && tD m && tE m) = true := by
  simp only [numsOk, tA, tB, tC, tD, tE]
  generalize hasB m.kind 0 = h0
  generalize hasB m.kind 1 = h1
  generalize hasB m.kind 2 = h2
  cases h0 <;> cases h1 <;> cases h2 <;> simp <;> omega

theorem mayM_law {m : Mg} (h : (1 ≤ m.kind ∧ m.kind ≤ 9) ∧ (0 ≤ m.frm ∧ m.frm ≤ 4095) ∧ (0 ≤ m.inc ∧ m.inc ≤ 281474976710655)) : mayM m = (okS m.lo m.hi && (tA m && tB m && tC m && tD m && tE m) && recsOk m) := by
  rw [Bool.eq_iff_iff, mayM_nums, nums_iff h]
  simp only [Bool.and_eq_true]
  constructor
  · rintro ⟨h1, h2, h3⟩; exact ⟨⟨h2, h1⟩, h3⟩
  · rintro ⟨⟨h2, h1⟩, h3⟩; exact ⟨h1, h2, h3⟩

structure MHeld (P : Prop) : Prop where
  it : P
structure MBoth (P Q : Prop) : Prop where
  hp : P
  hq : Q

set_option maxHeartbeats 16000000 in
def mayPart1 (m : Mg) (w : World) : PSigma fun P : Prop => (MHeld P → (hm : MOk w m) → (hz : ∀ x ∈ m.recs, szK (kys x.bag) ≤ 4611686018427387904) → Calls Tryd.prog 16 #[.agg #[.int .i64 m.kind, .int .i64 m.frm, .int .i64 m.inc, .int .i64 m.lo, .int .i64 m.hi, .int .i64 m.seq, .int .i64 m.tgt, .int .i64 m.life, .int .i64 m.epoch, .int .i64 m.base, .slice m.p m.recs.length m.cap]] w fun e w' => e = .returned (.bool (mayM m)) ∧ Below w.heap.size w w') := by
  refine' ⟨_, fun hP hm hz => ?_⟩
  case refine'_2 =>
  obtain ⟨q, hq⟩ : ∃ q, mayM m = q := ⟨_, rfl⟩
  rw [hq]
  have HN := Hid.mk' (show ¬ numsOk m → q = false by
    intro h; rw [← hq]
    cases hm : mayM m with
    | false => rfl
    | true => exact absurd ((mayM_nums m).1 hm).1 h)
  have HM := Hid.mk' (show (1 ≤ m.kind ∧ m.kind ≤ 9) ∧ (0 ≤ m.frm ∧ m.frm ≤ 4095) ∧ (0 ≤ m.inc ∧ m.inc ≤ 281474976710655) → q = (okS m.lo m.hi && (tA m && tB m && tC m && tD m && tE m) && recsOk m) from fun h => hq ▸ mayM_law h)
  clear hq
  have HI := Hid.mk' (InM.start w m)
  have L := fun p X => lhas_any m.kind p X
  have S := fun X => okS_any m.lo m.hi X
  have C := fun X (h : InM w m X) => sorted_any m.p m.cap m.recs X (hm.rin.below h.below) hm.lenM hz
  clear hm hz
  by_cases t0 : m.kind < 1
  · obtain rfl : q = false := HN.out (fun h => by unfold numsOk at h; omega)
    clear HM HN
    go_enter Tryd.func16, Tryd.ntmps16
    go_wp2_with fail
    go_ret
    exact ⟨rfl, HI.out.below⟩
  by_cases t1 : 9 < m.kind
  · obtain rfl : q = false := HN.out (fun h => by unfold numsOk at h; omega)
    clear HM HN
    go_enter Tryd.func16, Tryd.ntmps16
    go_wp2_with fail
    go_ret
    exact ⟨rfl, HI.out.below⟩
  by_cases t2 : m.frm < 0
  · obtain rfl : q = false := HN.out (fun h => by unfold numsOk at h; omega)
    clear HM HN
    go_enter Tryd.func16, Tryd.ntmps16
    go_wp2_with fail
    go_ret
    exact ⟨rfl, HI.out.below⟩
  by_cases t3 : 4095 < m.frm
  · obtain rfl : q = false := HN.out (fun h => by unfold numsOk at h; omega)
    clear HM HN
    go_enter Tryd.func16, Tryd.ntmps16
    go_wp2_with fail
    go_ret
    exact ⟨rfl, HI.out.below⟩
  by_cases t4 : m.inc < 0
  · obtain rfl : q = false := HN.out (fun h => by unfold numsOk at h; omega)
    clear HM HN
    go_enter Tryd.func16, Tryd.ntmps16
    go_wp2_with fail
    go_ret
    exact ⟨rfl, HI.out.below⟩
  by_cases t5 : 281474976710655 < m.inc
  · obtain rfl : q = false := HN.out (fun h => by unfold numsOk at h; omega)
    clear HM HN
    go_enter Tryd.func16, Tryd.ntmps16
    go_wp2_with fail
    go_ret
    exact ⟨rfl, HI.out.below⟩
  have HA := Hid.mk' (show tA m = (decide (0 ≤ m.seq ∧ m.seq ≤ 65535 ∧ 0 ≤ m.tgt ∧ m.tgt ≤ 4095) && (decide (m.seq ≤ 0) || hasB m.kind 0) && (decide (m.tgt ≤ 0) || hasB m.kind 1)) from rfl)
  have HB := Hid.mk' (show tB m = (decide (¬ m.kind = 3) || decide (1 ≤ m.tgt ∧ m.tgt ≤ 3)) from rfl)
  have HC := Hid.mk' (show tC m = decide (0 ≤ m.life ∧ m.life ≤ 281474976710655 ∧ 0 ≤ m.epoch ∧ m.epoch ≤ 65535 ∧ 0 ≤ m.base) from rfl)
  have HD := Hid.mk' (show tD m = ((hasB m.kind 2 || !(decide (0 < m.life) || decide (0 < m.epoch))) && !(decide (m.epoch = 0) && decide (0 < m.life)) && !(decide (m.kind = 9) && decide (m.epoch = 0))) from rfl)
  have HE := Hid.mk' (show tE m = !(decide (0 < m.base) && (decide (m.kind ≠ 7) || decide (m.epoch ≤ m.base))) from rfl)
  have HR := Hid.mk' (show recsOk m = if hasB m.kind 4 = true then decide (m.recs.length ≤ 255) && sortR (-1) (rks m.recs) else decide (m.recs.length = 0) from rfl)
  have HQ := Hid.mk' (HM.out ⟨⟨by omega, by omega⟩, ⟨by omega, by omega⟩, by omega, by omega⟩)
  clear HM HN
  generalize tA m = rA at HA HQ
  generalize tB m = rB at HB HQ
  generalize tC m = rC at HC HQ
  generalize tD m = rD at HD HQ
  generalize tE m = rE at HE HQ
  generalize recsOk m = rR at HR HQ
  generalize okS m.lo m.hi = b at S HQ
  have L0 := fun X => L 0 X
  have L1 := fun X => L 1 X
  have L2 := fun X => L 2 X
  have L4 := fun X => L 4 X
  clear L
  generalize hasB m.kind 0 = h0 at HA L0
  generalize hasB m.kind 1 = h1 at HA L1
  generalize hasB m.kind 2 = h2 at HD L2
  generalize hasB m.kind 4 = h4 at HR L4
  generalize sortR (-1) (rks m.recs) = sr at HR C
  go_enter Tryd.func16, Tryd.ntmps16
  go_wp2_with fail
  refine (S _).mono ?_
  rintro e w1 ⟨rfl, rfl⟩
  cases b
  · obtain rfl : q = false := by rw [HQ.out]; rfl
    go_wp2_with fail
    go_ret
    exact ⟨rfl, HI.out.below.alloc HI.out.below.size _⟩
  have HI1 := Hid.mk' (HI.out.on ((Below.refl _ _).alloc (Nat.le_refl _) (.cells #[.int .i64 m.lo, .int .i64 m.hi] 33)))
  clear S HI t0 t1 t2 t3 t4 t5
  go_upto_region 3 with fail
  generalize (w.alloc (.cells #[.int .i64 m.kind, .int .i64 m.frm, .int .i64 m.inc, .int .i64 m.lo, .int .i64 m.hi, .int .i64 m.seq, .int .i64 m.tgt, .int .i64 m.life, .int .i64 m.epoch, .int .i64 m.base, .slice m.p m.recs.length m.cap] 36)).alloc (.cells #[.int .i64 m.lo, .int .i64 m.hi] 33) = w2 at HI1 ⊢
  obtain ⟨c0, c1, c2, c3, c4, c5, c6, c7, c8, c9, c10⟩ := mbox_cells HI1.out.box
  go_cut [76] (fun t wx => t = .bool (!rA) ∧ w2 = wx)
  case first =>
    by_cases t6 : m.seq < 0
    · obtain rfl : rA = false := by rw [HA.out, decide_eq_false (show ¬ (0 ≤ m.seq ∧ m.seq ≤ 65535 ∧ 0 ≤ m.tgt ∧ m.tgt ≤ 4095) by omega)]; rfl
      clear HA HQ
      go_wp2_with fail
      go_meet
      exact ⟨by first | rfl | (congr 1; simp; omega), rfl⟩
    by_cases t7 : 65535 < m.seq
    · obtain rfl : rA = false := by rw [HA.out, decide_eq_false (show ¬ (0 ≤ m.seq ∧ m.seq ≤ 65535 ∧ 0 ≤ m.tgt ∧ m.tgt ≤ 4095) by omega)]; rfl
      clear HA HQ
      go_wp2_with fail
      go_meet
      exact ⟨by first | rfl | (congr 1; simp; omega), rfl⟩
    by_cases t8 : 0 < m.seq
    · go_wp2_with fail
      refine (L0 _).mono ?_
      rintro e u1 ⟨rfl, rfl⟩
      cases h0
      · obtain rfl : rA = false := by rw [HA.out, decide_eq_false (show ¬ m.seq ≤ 0 by omega)]; simp
        clear HA HQ
        go_wp2_with fail
        go_meet
        exact ⟨by first | rfl | (congr 1; simp; omega), rfl⟩
      · skip
        by_cases t9 : m.tgt < 0
        · obtain rfl : rA = false := by rw [HA.out, decide_eq_false (show ¬ (0 ≤ m.seq ∧ m.seq ≤ 65535 ∧ 0 ≤ m.tgt ∧ m.tgt ≤ 4095) by omega)]; rfl
          clear HA HQ
          go_wp2_with fail
          go_meet
          exact ⟨by first | rfl | (congr 1; simp; omega), rfl⟩
        by_cases t10 : 4095 < m.tgt
        · obtain rfl : rA = false := by rw [HA.out, decide_eq_false (show ¬ (0 ≤ m.seq ∧ m.seq ≤ 65535 ∧ 0 ≤ m.tgt ∧ m.tgt ≤ 4095) by omega)]; rfl
          clear HA HQ
          go_wp2_with fail
          go_meet
          exact ⟨by first | rfl | (congr 1; simp; omega), rfl⟩
        by_cases t11 : 0 < m.tgt
        · go_wp2_with fail
          refine (L1 _).mono ?_
          rintro e u1 ⟨rfl, rfl⟩
          cases h1
          · obtain rfl : rA = false := by rw [HA.out, decide_eq_false (show ¬ m.tgt ≤ 0 by omega)]; simp
            clear HA HQ
            go_wp2_with fail
            go_meet
            exact ⟨by first | rfl | (congr 1; simp; omega), rfl⟩
          · obtain rfl : rA = true := by rw [HA.out, decide_eq_true (show 0 ≤ m.seq ∧ m.seq ≤ 65535 ∧ 0 ≤ m.tgt ∧ m.tgt ≤ 4095 by omega)]; simp
            clear HA HQ
            go_wp2_with fail
            go_meet
            exact ⟨by first | rfl | (congr 1; simp; omega), rfl⟩
        · obtain rfl : rA = true := by rw [HA.out, decide_eq_true (show 0 ≤ m.seq ∧ m.seq ≤ 65535 ∧ 0 ≤ m.tgt ∧ m.tgt ≤ 4095 by omega), decide_eq_true (show m.tgt ≤ 0 by omega)]; simp
          clear HA HQ
          go_wp2_with fail
          go_meet
          exact ⟨by first | rfl | (congr 1; simp; omega), rfl⟩
    · skip
      by_cases t9 : m.tgt < 0
      · obtain rfl : rA = false := by rw [HA.out, decide_eq_false (show ¬ (0 ≤ m.seq ∧ m.seq ≤ 65535 ∧ 0 ≤ m.tgt ∧ m.tgt ≤ 4095) by omega)]; rfl
        clear HA HQ
        go_wp2_with fail
        go_meet
        exact ⟨by first | rfl | (congr 1; simp; omega), rfl⟩
      by_cases t10 : 4095 < m.tgt
      · obtain rfl : rA = false := by rw [HA.out, decide_eq_false (show ¬ (0 ≤ m.seq ∧ m.seq ≤ 65535 ∧ 0 ≤ m.tgt ∧ m.tgt ≤ 4095) by omega)]; rfl
        clear HA HQ
        go_wp2_with fail
        go_meet
        exact ⟨by first | rfl | (congr 1; simp; omega), rfl⟩
      by_cases t11 : 0 < m.tgt
      · go_wp2_with fail
        refine (L1 _).mono ?_
        rintro e u1 ⟨rfl, rfl⟩
        cases h1
        · obtain rfl : rA = false := by rw [HA.out, decide_eq_false (show ¬ m.tgt ≤ 0 by omega)]; simp
          clear HA HQ
          go_wp2_with fail
          go_meet
          exact ⟨by first | rfl | (congr 1; simp; omega), rfl⟩
        · obtain rfl : rA = true := by rw [HA.out, decide_eq_true (show 0 ≤ m.seq ∧ m.seq ≤ 65535 ∧ 0 ≤ m.tgt ∧ m.tgt ≤ 4095 by omega), decide_eq_true (show m.seq ≤ 0 by omega)]; simp
          clear HA HQ
          go_wp2_with fail
          go_meet
          exact ⟨by first | rfl | (congr 1; simp; omega), rfl⟩
      · obtain rfl : rA = true := by rw [HA.out, decide_eq_true (show 0 ≤ m.seq ∧ m.seq ≤ 65535 ∧ 0 ≤ m.tgt ∧ m.tgt ≤ 4095 by omega), decide_eq_true (show m.seq ≤ 0 by omega), decide_eq_true (show m.tgt ≤ 0 by omega)]; simp
        clear HA HQ
        go_wp2_with fail
        go_meet
        exact ⟨by first | rfl | (congr 1; simp; omega), rfl⟩
  case rest =>
  obtain ⟨rfl, rfl⟩ := hcut
  clear HA L0 L1
  cases rA
  · obtain rfl : q = false := by rw [HQ.out]; simp
    clear HQ
    go_wp2_with fail
    go_ret
    exact ⟨rfl, HI1.out.below⟩
  rename_i oQ oK oa oK_1 oa_1
  revert HQ; revert u178; revert u177; revert u176; revert u175; revert u174; revert u173; revert u172; revert u171; revert u170; revert u169; revert u168; revert u167; revert u166; revert u165; revert u164; revert u163; revert u162; revert u161; revert u160; revert u159; revert u158; revert u157; revert u156; revert u155; revert u154; revert u153; revert u152; revert u151; revert u150; revert u149; revert u148; revert u147; revert u146; revert u145; revert u144; revert u143; revert u142; revert u141; revert u140; revert u139; revert u138; revert u137; revert u136; revert u135; revert u134; revert u133; revert u132; revert u131; revert u130; revert u129; revert u128; revert u127; revert u126; revert u125; revert u124; revert u123; revert u122; revert u121; revert u120; revert u119; revert u118; revert u117; revert u116; revert u115; revert u114; revert u113; revert u112; revert u111; revert u110; revert u109; revert u108; revert u107; revert u106; revert u105; revert u104; revert u103; revert u102; revert u101; revert u100; revert u99; revert u98; revert u97; revert u96; revert u95; revert u94; revert u93; revert u92; revert u91; revert u90; revert u89; revert u88; revert u87; revert u86; revert u85; revert u84; revert u83; revert u82; revert u81; revert u80; revert u79; revert u78; revert u77; revert u75; revert u74; revert u73; revert u72; revert u71; revert u70; revert u69; revert u68; revert u67; revert u66; revert u65; revert u64; revert u63; revert u62; revert u61; revert u60; revert u59; revert u58; revert u57; revert u56; revert u55; revert u54; revert u53; revert u52; revert u51; revert u50; revert u49; revert u48; revert u47; revert u46; revert u45; revert u44; revert u43; revert u42; revert u41; revert u40; revert u39; revert u38; revert u37; revert u36; revert u35; revert u34; revert u33; revert u32; revert u31; revert u30; revert u29; revert u28; revert u27; revert u26; revert u25; revert u24; revert u23; revert u22; revert u21; revert u20; revert u19; revert u18; revert u17; revert u16; revert u15; revert u14; revert u13; revert u12; revert u11; revert u10; revert u9; revert u8; revert u7; revert u6; revert u5; revert u4; revert u3; revert c10; revert c9; revert c8; revert c7; revert c6; revert c5; revert c4; revert c3; revert c2; revert c1; revert c0; revert HI1; revert w2; revert oa_1; revert oK_1; revert oa; revert oK; revert oQ; revert C; revert HR; revert sr; revert L4; revert h4; revert L2; revert HD; revert h2; revert h1; revert h0; revert rR; revert HE; revert rE; revert rD; revert HC; revert rC; revert HB; revert rB; revert q
  exact hP.it
end Go.Proofs.YtjkimmflngiijaaDoor
