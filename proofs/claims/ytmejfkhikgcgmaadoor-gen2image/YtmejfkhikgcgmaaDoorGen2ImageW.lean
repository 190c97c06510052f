/-
  A statement of stage 13: its walk, over what is wanted of the program's functions.
-/
import Derived.Test.YtmejfkhikgcgmaaDoorRows
import Derived.Test.YtmejfkhikgcgmaaDoorP06
import Derived.ShutString
import Derived.ChangeOld
namespace Go.Proofs.YtmejfkhikgcgmaaDoor.gen2Image
open Go Go.ChangeShapes Go.WideShapes Go.ChangeAt Go.RowKit
open Go.ChangeMaps (open_string shut_string)
set_option linter.unusedVariables false
set_option maxRecDepth 10000
set_option linter.unusedSimpArgs false
set_option synthInstance.maxSize 2000

set_option maxRecDepth 10000 in
set_option maxHeartbeats 8000000 in
theorem walk0 (G : Gen2Ok) (p0 : Option Addr) (c0 : Nat) (l0 : List Int) (w : World) (hK : Kd w) (hlc0 : l0.length ≤ c0) (hcm0 : c0 ≤ maxLen) (hp0 : p0 = none → c0 = 0) (hin0 : LIn w p0 1 (shInt .u8) l0) :
    Calls Tryd.prog 5 #[.slice p0 l0.length c0] w fun e w' => e = .returned (.bool true) ∧ Below w.heap.size w w' := by
  have hB := hin0.bytes
  have hb := hin0.isB
  have AW := fun X (h : Below w.heap.size w X) => awake13_any G X (hK.below h)
  by_cases t0 : 2000 < l0.length
  · have t0' : (2000 : Int) < l0.length := by omega
    clear hin0 hB hb hp0 hK
    go_enter Tryd.func5, Tryd.ntmps5
    go_wp2_with fail
    refine (AW _ (Below.refl _ _)).mono ?_
    rintro e w2 ⟨rfl, hb2⟩
    go_wp2_with fail
    go_ret
    exact ⟨rfl, hb2⟩
  have t0' : ¬ (2000 : Int) < l0.length := by omega
  have DC := G.dec p0 c0 l0 w hB hb hlc0 hcm0 (by omega) hK
  simp only [DecPost2] at DC
  have HKK := Hid.mk' hK
  have HBB := Hid.mk' hb
  have HIN := Hid.mk' hB
  clear hin0 hp0 hK hb hB t0
  go_enter Tryd.func5, Tryd.ntmps5
  go_wp2_with fail
  refine DC.mono ?_
  rintro e w1 ⟨m, err, rfl, hm, hbag, hb1, hD⟩
  have HB1 := Hid.mk' (hb1.trans (((Below.refl w1.heap.size w1).alloc (Nat.le_refl _) (.cells #[.int .i64 m.kind, .int .i64 m.frm, .int .i64 m.inc, .int .i64 m.lo, .int .i64 m.hi, .int .i64 m.seq, .int .i64 m.tgt, .int .i64 m.life, .int .i64 m.epoch, .int .i64 m.base, .slice m.p m.recs.length m.cap] 26)).mono hb1.size))
  rcases hD with ⟨rfl, hR⟩ | ⟨rfl, -, -⟩
  · obtain ⟨hfit, hbody⟩ := hR
    have EN := G.enc m (w1.alloc (.cells #[.int .i64 m.kind, .int .i64 m.frm, .int .i64 m.inc, .int .i64 m.lo, .int .i64 m.hi, .int .i64 m.seq, .int .i64 m.tgt, .int .i64 m.life, .int .i64 m.epoch, .int .i64 m.base, .slice m.p m.recs.length m.cap] 26)) (hm.below ((Below.refl w1.heap.size w1).alloc (Nat.le_refl _) _)) hbag (HKK.out.below HB1.out)
    simp only [EncPost2] at EN
    have HF := Hid.mk' ((fit2_iff m).2 hfit)
    have HBD := Hid.mk' hbody
    clear hm hbag hb1 hbody hfit DC
    go_wp2_with fail
    refine EN.mono ?_
    rintro e w2 ⟨p, c, b, err2, rfl, hB2, hib2, hq0, hqc, hqm, hql, hb2, hE⟩
    have hE2 : err2 = 0 ∧ b = l0 := by
      rcases hE with ⟨_, h1, h2⟩ | ⟨h1, _⟩ | ⟨_, h1, _⟩
      · exact ⟨h1, by rw [h2, HBD.out]⟩
      · have := HF.out
        simp only [fit2, h1, Bool.false_and] at this
        exact absurd this (by simp)
      · rw [HF.out] at h1; exact absurd h1 (by simp)
    obtain ⟨rfl, rfl⟩ := hE2
    have HB2 := Hid.mk' (HB1.out.trans (hb2.mono HB1.out.size))
    have cv1 := hB2.convert (P := Tryd.prog) c 29 5 9 Tryd.underlying29 Tryd.underlying5 Tryd.underlying9
    have cv2 := (HIN.out.below HB2.out).convert (P := Tryd.prog) c0 29 5 9 Tryd.underlying29 Tryd.underlying5 Tryd.underlying9
    have hst : ((strOfNums b).toList == (strOfNums b).toList) = true := by simp
    generalize strOfNums b = st at cv1 cv2 hst
    clear hE hb2 hB2 hib2 hq0 EN HBD HIN HBB
    go_wp2_with fail
    refine (AW _ HB2.out).mono ?_
    rintro e w3 ⟨rfl, hb3⟩
    have HB3 := Hid.mk' (HB2.out.trans (hb3.mono HB2.out.size))
    clear hb3
    go_wp2_with fail
    go_ret
    exact ⟨rfl, HB3.out⟩
  · clear DC hm hbag hb1
    go_wp2_with fail
    refine (AW _ HB1.out).mono ?_
    rintro e w3 ⟨rfl, hb3⟩
    have HB3 := Hid.mk' (HB1.out.trans (hb3.mono HB1.out.size))
    clear hb3
    go_wp2_with fail
    go_ret
    exact ⟨rfl, HB3.out⟩

end Go.Proofs.YtmejfkhikgcgmaaDoor.gen2Image
