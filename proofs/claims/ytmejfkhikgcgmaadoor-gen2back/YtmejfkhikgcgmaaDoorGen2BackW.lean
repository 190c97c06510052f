/-
  A statement of stage 13: its walk, over what is wanted of the program's functions.
-/
import Derived.Test.YtmejfkhikgcgmaaDoorRows
import Derived.Test.YtmejfkhikgcgmaaDoorP06
import Derived.ShutString
import Derived.ChangeOld
namespace Go.Proofs.YtmejfkhikgcgmaaDoor.gen2Back
open Go Go.ChangeShapes Go.WideShapes Go.ChangeAt Go.RowKit
open Go.ChangeMaps (open_string shut_string)
set_option linter.unusedVariables false
set_option maxRecDepth 10000
set_option linter.unusedSimpArgs false
set_option synthInstance.maxSize 2000

set_option maxRecDepth 10000 in
set_option maxHeartbeats 8000000 in
theorem walk0 (G : Gen2Ok) (m : Mg) (w : World) (hK : Kd w) (hm : MOk w m) :
    Calls Tryd.prog 6 #[.agg #[.int .i64 m.kind, .int .i64 m.frm, .int .i64 m.inc, .int .i64 m.lo, .int .i64 m.hi, .int .i64 m.seq, .int .i64 m.tgt, .int .i64 m.life, .int .i64 m.epoch, .int .i64 m.base, .slice m.p m.recs.length m.cap]] w fun e w' => e = .returned (.bool true) ∧ Below w.heap.size w w' := by
  have AW := fun X (h : Below w.heap.size w X) => awake13_any G X (hK.below h)
  have HI := Hid.mk' (InM.start w m)
  have FA := fun X (h : InM w m X) => lfewM_any m X (hm.below h.below)
  obtain ⟨fa, hfa⟩ : ∃ fa, fewR (rks m.recs) = fa := ⟨_, rfl⟩
  rw [hfa] at FA
  have HF := Hid.mk' hfa
  clear hfa
  go_enter Tryd.func6, Tryd.ntmps6
  go_wp2_with fail
  refine (FA _ HI.out).mono ?_
  rintro e w1 ⟨rfl, hb1⟩
  have HI1 := Hid.mk' (HI.out.on hb1)
  clear hb1 HI FA
  cases fa
  · go_wp2_with fail
    refine (AW _ HI1.out.below).mono ?_
    rintro e w2 ⟨rfl, hb2⟩
    have HB2 := Hid.mk' (HI1.out.on hb2).below
    clear hb2
    go_wp2_with fail
    go_ret
    exact ⟨rfl, HB2.out⟩
  have hz : ∀ x ∈ m.recs, szK (kys x.bag) ≤ 4611686018427387904 := fun x hx => by have := ((fewR_yes HF.out).2 x hx).2; omega
  have LF := fun X (h : InM w m X) => lfits2_any m X (hm.below h.below) hz (hK.below h.below)
  have EN := fun X (h : InM w m X) => G.enc m X (hm.below h.below) hz (hK.below h.below)
  simp only [EncPost2] at EN
  obtain ⟨ft, hft⟩ : ∃ ft, fit2 m = ft := ⟨_, rfl⟩
  rw [hft] at LF
  have HFT := Hid.mk' hft
  have HKK := Hid.mk' hK
  have HMK := Hid.mk' hm
  clear hz HF hm hK hft
  obtain ⟨c0, c1, c2, c3, c4, c5, c6, c7, c8, c9, c10⟩ := mbox_cells HI1.out.box
  go_wp2_with fail
  refine (LF _ HI1.out).mono ?_
  rintro e w2 ⟨rfl, hb2⟩
  have HI2 := Hid.mk' (HI1.out.on hb2)
  clear hb2 HI1 LF c0 c1 c2 c3 c4 c5 c6 c7 c8 c9 c10
  cases ft
  · go_wp2_with fail
    refine (AW _ HI2.out.below).mono ?_
    rintro e w3 ⟨rfl, hb3⟩
    have HB3 := Hid.mk' (HI2.out.on hb3).below
    clear hb3
    go_wp2_with fail
    go_ret
    exact ⟨rfl, HB3.out⟩
  obtain ⟨c0, c1, c2, c3, c4, c5, c6, c7, c8, c9, c10⟩ := mbox_cells HI2.out.box
  go_wp2_with fail
  refine (EN _ HI2.out).mono ?_
  rintro e w3 ⟨p, c, b, err, rfl, hB3, hib3, hq0, hqc, hqm, hql, hb3, hE⟩
  have hE2 : err = 0 ∧ b = body2 (mv m) := by
    rcases hE with ⟨_, h1, h2⟩ | ⟨h1, _⟩ | ⟨_, h1, _⟩
    · exact ⟨h1, h2⟩
    · have := HFT.out
      simp only [fit2, h1, Bool.false_and] at this
      exact absurd this (by simp)
    · rw [HFT.out] at h1; exact absurd h1 (by simp)
  obtain ⟨rfl, hbd⟩ := hE2
  have hR : Read2 b (mv m) := ⟨(fit2_iff m).1 HFT.out, hbd.symm⟩
  have HI3 := Hid.mk' (HI2.out.on hb3)
  have DC := G.dec p c b w3 hB3 hib3 hqc hqm hql (HKK.out.below HI3.out.below)
  simp only [DecPost2] at DC
  have HRR := Hid.mk' hR
  clear hE hbd hR hb3 hB3 hib3 hq0 HI2 EN c0 c1 c2 c3 c4 c5 c6 c7 c8 c9 c10
  go_wp2_with fail
  refine DC.mono ?_
  rintro e w4 ⟨m2, err2, rfl, hm2, hbag, hb4, hD⟩
  rcases hD with ⟨rfl, hR2⟩ | ⟨_, _, hno⟩
  · have hs : sameM m2 m = true := (sameM_mv m2 m).2 (read2_uniq hR2 HRR.out)
    have hI4 := HI3.out.on hb4
    have hI5 := hI4.on ((Below.refl w4.heap.size w4).alloc (Nat.le_refl _) (.cells #[.int .i64 m2.kind, .int .i64 m2.frm, .int .i64 m2.inc, .int .i64 m2.lo, .int .i64 m2.hi, .int .i64 m2.seq, .int .i64 m2.tgt, .int .i64 m2.life, .int .i64 m2.epoch, .int .i64 m2.base, .slice m2.p m2.recs.length m2.cap] 26))
    have hbx := heap_alloc_new w4 (.cells #[.int .i64 m2.kind, .int .i64 m2.frm, .int .i64 m2.inc, .int .i64 m2.lo, .int .i64 m2.hi, .int .i64 m2.seq, .int .i64 m2.tgt, .int .i64 m2.life, .int .i64 m2.epoch, .int .i64 m2.base, .slice m2.p m2.recs.length m2.cap] 26)
    have AL := lalikeM_any m2 m (w4.alloc (.cells #[.int .i64 m2.kind, .int .i64 m2.frm, .int .i64 m2.inc, .int .i64 m2.lo, .int .i64 m2.hi, .int .i64 m2.seq, .int .i64 m2.tgt, .int .i64 m2.life, .int .i64 m2.epoch, .int .i64 m2.base, .slice m2.p m2.recs.length m2.cap] 26)) (hm2.below ((Below.refl w4.heap.size w4).alloc (Nat.le_refl _) _)) (HMK.out.below hI5.below)
    rw [hs] at AL
    have HI5 := Hid.mk' hI5
    obtain ⟨c0, c1, c2, c3, c4, c5, c6, c7, c8, c9, c10⟩ := mbox_cells hI4.box
    have hlt : w.heap.size < w4.heap.size := lt_of_cell c0
    clear hs hI4 hI5 hbx hm2 hbag hb4 hR2 HRR HI3 DC
    go_wp2_with fail
    refine AL.mono ?_
    rintro e w6 ⟨rfl, hb6⟩
    have HI6 := Hid.mk' (HI5.out.on hb6)
    clear hb6 HI5 AL c0 c1 c2 c3 c4 c5 c6 c7 c8 c9 c10
    go_wp2_with fail
    refine (AW _ HI6.out.below).mono ?_
    rintro e w7 ⟨rfl, hb7⟩
    have HB7 := Hid.mk' (HI6.out.on hb7).below
    clear hb7
    go_wp2_with fail
    go_ret
    exact ⟨rfl, HB7.out⟩
  · exact absurd HRR.out (hno _)

end Go.Proofs.YtmejfkhikgcgmaaDoor.gen2Back
