/-
  A statement of stage 13: its walk, over what is wanted of the program's functions.
-/
import Derived.Test.YtmejfkhikgcgmaaDoorRows
import Derived.Test.YtmejfkhikgcgmaaDoorP06
import Derived.ShutString
import Derived.ChangeOld
namespace Go.Proofs.YtmejfkhikgcgmaaDoor.gen2Reads
open Go Go.ChangeShapes Go.WideShapes Go.ChangeAt Go.RowKit
open Go.ChangeMaps (open_string shut_string)
set_option linter.unusedVariables false
set_option maxRecDepth 10000
set_option linter.unusedSimpArgs false
set_option synthInstance.maxSize 2000

set_option maxRecDepth 10000 in
set_option maxHeartbeats 8000000 in
theorem walk0 (G : Gen2Ok) (p0 : Option Addr) (c0 : Nat) (l0 : List Int) (w : World) (hK : Kd w) (hlc0 : l0.length ≤ c0) (hcm0 : c0 ≤ maxLen) (hp0 : p0 = none → c0 = 0) (hin0 : LIn w p0 1 (shInt .u8) l0) :
    Calls Tryd.prog 4 #[.slice p0 l0.length c0] w fun e w' => e = .returned (.bool true) ∧ Below w.heap.size w w' := by
  have hB := hin0.bytes
  have hb := hin0.isB
  have AW := fun X (h : Below w.heap.size w X) => awake13_any G X (hK.below h)
  by_cases t0 : 400 < l0.length
  · have t0' : (400 : Int) < l0.length := by omega
    clear hin0 hB hb hp0 hK
    go_enter Tryd.func4, Tryd.ntmps4
    go_wp2_with fail
    refine (AW _ (Below.refl _ _)).mono ?_
    rintro e w2 ⟨rfl, hb2⟩
    go_wp2_with fail
    go_ret
    exact ⟨rfl, hb2⟩
  have t0' : ¬ (400 : Int) < l0.length := by omega
  have DC := G.dec p0 c0 l0 w hB hb hlc0 hcm0 (by omega) hK
  have MS := fun X (h : Below w.heap.size w X) => lmessage2_any p0 c0 l0 X (hB.below h) hb hlc0 hcm0 (by omega) (hK.below h)
  simp only [DecPost2] at DC
  simp only [Msg2P] at MS
  clear hin0 hp0 hK hb hB t0
  go_enter Tryd.func4, Tryd.ntmps4
  go_wp2_with fail
  refine DC.mono ?_
  rintro e w1 ⟨m, err, rfl, hm, hbag, hb1, hD⟩
  have HM := Hid.mk' hm
  have HD := Hid.mk' hD
  have HBb := Hid.mk' hb1
  have HB1 := Hid.mk' (hb1.trans (((Below.refl w1.heap.size w1).alloc (Nat.le_refl _) (.cells #[.int .i64 m.kind, .int .i64 m.frm, .int .i64 m.inc, .int .i64 m.lo, .int .i64 m.hi, .int .i64 m.seq, .int .i64 m.tgt, .int .i64 m.life, .int .i64 m.epoch, .int .i64 m.base, .slice m.p m.recs.length m.cap] 26)).mono hb1.size))
  have HX1 := Hid.mk' (heap_alloc_new w1 (.cells #[.int .i64 m.kind, .int .i64 m.frm, .int .i64 m.inc, .int .i64 m.lo, .int .i64 m.hi, .int .i64 m.seq, .int .i64 m.tgt, .int .i64 m.life, .int .i64 m.epoch, .int .i64 m.base, .slice m.p m.recs.length m.cap] 26))
  clear hm hbag hb1 hD DC
  go_wp2_with fail
  refine (MS _ HB1.out).mono ?_
  rintro e w2 ⟨m2, ok, rfl, hm2, _, hb2, hres⟩
  have hx2 : w2.heap[w1.heap.size]? = some (.cells #[.int .i64 m.kind, .int .i64 m.frm, .int .i64 m.inc, .int .i64 m.lo, .int .i64 m.hi, .int .i64 m.seq, .int .i64 m.tgt, .int .i64 m.life, .int .i64 m.epoch, .int .i64 m.base, .slice m.p m.recs.length m.cap] 26 (0, 0)) := by rw [hb2.block _ (by simp)]; exact HX1.out
  have HB2 := Hid.mk' (HB1.out.trans (hb2.mono HB1.out.size))
  have hb3 := (Below.refl w2.heap.size w2).alloc (Nat.le_refl _) (.cells #[.int .i64 m2.kind, .int .i64 m2.frm, .int .i64 m2.inc, .int .i64 m2.lo, .int .i64 m2.hi, .int .i64 m2.seq, .int .i64 m2.tgt, .int .i64 m2.life, .int .i64 m2.epoch, .int .i64 m2.base, .slice m2.p m2.recs.length m2.cap] 26)
  have HB3 := Hid.mk' (HB2.out.trans (hb3.mono HB2.out.size))
  have hm13 : MOk (w2.alloc (.cells #[.int .i64 m2.kind, .int .i64 m2.frm, .int .i64 m2.inc, .int .i64 m2.lo, .int .i64 m2.hi, .int .i64 m2.seq, .int .i64 m2.tgt, .int .i64 m2.life, .int .i64 m2.epoch, .int .i64 m2.base, .slice m2.p m2.recs.length m2.cap] 26)) m := by
    refine HM.out.below ?_
    exact ((Below.refl w1.heap.size w1).alloc (Nat.le_refl _) (.cells #[.int .i64 m.kind, .int .i64 m.frm, .int .i64 m.inc, .int .i64 m.lo, .int .i64 m.hi, .int .i64 m.seq, .int .i64 m.tgt, .int .i64 m.life, .int .i64 m.epoch, .int .i64 m.base, .slice m.p m.recs.length m.cap] 26)).trans ((hb2.trans (hb3.mono hb2.size)).mono (by simp))
  have AL0 := lalikeM_any m zm (w2.alloc (.cells #[.int .i64 m2.kind, .int .i64 m2.frm, .int .i64 m2.inc, .int .i64 m2.lo, .int .i64 m2.hi, .int .i64 m2.seq, .int .i64 m2.tgt, .int .i64 m2.life, .int .i64 m2.epoch, .int .i64 m2.base, .slice m2.p m2.recs.length m2.cap] 26)) hm13 (zm_ok _)
  have AL1 := lalikeM_any m m2 (w2.alloc (.cells #[.int .i64 m2.kind, .int .i64 m2.frm, .int .i64 m2.inc, .int .i64 m2.lo, .int .i64 m2.hi, .int .i64 m2.seq, .int .i64 m2.tgt, .int .i64 m2.life, .int .i64 m2.epoch, .int .i64 m2.base, .slice m2.p m2.recs.length m2.cap] 26)) hm13 (hm2.below hb3)
  obtain ⟨c0', c1, c2, c3, c4, c5, c6, c7, c8, c9, c10⟩ := mbox_cells hx2
  have hlt : w1.heap.size < w2.heap.size := lt_of_cell c0'
  cases ok
  · have hnr : ∀ x, ¬ Read2 l0 x := by
      rcases hres with ⟨h, _⟩ | ⟨_, _, h⟩
      · cases h
      · exact h
    have hD2 : err = 4 ∧ mv m = mv zm := by
      rcases HD.out with ⟨_, hR⟩ | ⟨h1, h2, _⟩
      · exact absurd hR (hnr _)
      · exact ⟨h1, h2⟩
    obtain ⟨rfl, hmz⟩ := hD2
    rw [(sameM_mv m zm).2 hmz] at AL0
    simp only [zm, List.length_nil] at AL0
    clear hm13 hm2 hb2 hb3 hres hnr hmz AL1 hx2 HX1 HM HD MS
    go_wp2_with fail
    refine AL0.mono ?_
    rintro e w6 ⟨rfl, hb6⟩
    have HB6 := Hid.mk' (HB3.out.trans (hb6.mono HB3.out.size))
    clear hb6 AL0
    go_wp2_with fail
    refine (AW _ HB6.out).mono ?_
    rintro e w7 ⟨rfl, hb7⟩
    have HB7 := Hid.mk' (HB6.out.trans (hb7.mono HB6.out.size))
    clear hb7
    go_wp2_with fail
    go_ret
    exact ⟨rfl, HB7.out⟩
  · have hR2 : Read2 l0 (mv m2) := by
      rcases hres with ⟨_, h⟩ | ⟨h, _⟩
      · exact h
      · cases h
    have hD2 : err = 0 ∧ mv m = mv m2 := by
      rcases HD.out with ⟨h1, hR⟩ | ⟨_, _, hnr⟩
      · exact ⟨h1, read2_uniq hR hR2⟩
      · exact absurd hR2 (hnr _)
    obtain ⟨rfl, hmm⟩ := hD2
    rw [(sameM_mv m m2).2 hmm] at AL1
    clear hm13 hm2 hb2 hb3 hres hR2 hmm AL0 hx2 HX1 HM HD MS
    go_wp2_with fail
    refine AL1.mono ?_
    rintro e w6 ⟨rfl, hb6⟩
    have HB6 := Hid.mk' (HB3.out.trans (hb6.mono HB3.out.size))
    clear hb6 AL1
    go_wp2_with fail
    refine (AW _ HB6.out).mono ?_
    rintro e w7 ⟨rfl, hb7⟩
    have HB7 := Hid.mk' (HB6.out.trans (hb7.mono HB6.out.size))
    clear hb7
    go_wp2_with fail
    go_ret
    exact ⟨rfl, HB7.out⟩

end Go.Proofs.YtmejfkhikgcgmaaDoor.gen2Reads
