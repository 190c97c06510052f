/-
  Stage 10: the statements' own Alike, Few, awake.
-/
import Derived.Test.YtmfkdohfejklhaaDoorMsgV
import Derived.Test.YtmfkdohfejklhaaDoorMsgK
import Derived.Test.YtmfkdohfejklhaaDoorRecX
namespace Go.Proofs.YtmfkdohfejklhaaDoor
open Go.RowKit
set_option linter.unusedSimpArgs false
set_option linter.unusedVariables false
set_option maxRecDepth 10000
set_option synthInstance.maxSize 2000

theorem sameM_flat (a b : Mg) : sameM a b = (decide (a.kind = b.kind) && decide (a.frm = b.frm) && decide (a.inc = b.inc) && decide (a.lo = b.lo) && decide (a.hi = b.hi) && decide (a.seq = b.seq) && decide (a.tgt = b.tgt) && (decide (a.life = b.life) && decide (a.epoch = b.epoch) && decide (a.base = b.base) && decide (rks a.recs = rks b.recs))) := by
  simp only [sameM, sender, numbers, Bool.and_assoc]

set_option maxHeartbeats 8000000 in
theorem lalikeM_any (a b : Mg) (w : World) (ha : MOk w a) (hb : MOk w b) : Calls Tryd.prog 16 #[.agg #[.int .i64 a.kind, .int .i64 a.frm, .int .i64 a.inc, .int .i64 a.lo, .int .i64 a.hi, .int .i64 a.seq, .int .i64 a.tgt, .int .i64 a.life, .int .i64 a.epoch, .int .i64 a.base, .slice a.p a.recs.length a.cap], .agg #[.int .i64 b.kind, .int .i64 b.frm, .int .i64 b.inc, .int .i64 b.lo, .int .i64 b.hi, .int .i64 b.seq, .int .i64 b.tgt, .int .i64 b.life, .int .i64 b.epoch, .int .i64 b.base, .slice b.p b.recs.length b.cap]] w fun e w' => e = .returned (.bool (sameM a b)) ∧ Below w.heap.size w w' := by
  have HM := Hid.mk' (sameM_flat a b)
  have HI := Hid.mk' (InM2.start w a b)
  have E := fun X (h : InM2 w a b X) => allAlike_any a.p b.p a.cap b.cap a.recs b.recs X (ha.rin.below h.below) (hb.rin.below h.below) ha.lenM hb.lenM
  clear ha hb
  generalize sameM a b = q at HM ⊢
  generalize decide (rks a.recs = rks b.recs) = b10 at HM E
  have q0 : (a.kind != b.kind) = !decide (a.kind = b.kind) := rfl
  generalize decide (a.kind = b.kind) = b0 at HM q0
  have q1 : (a.frm != b.frm) = !decide (a.frm = b.frm) := rfl
  generalize decide (a.frm = b.frm) = b1 at HM q1
  have q2 : (a.inc != b.inc) = !decide (a.inc = b.inc) := rfl
  generalize decide (a.inc = b.inc) = b2 at HM q2
  have q3 : (a.lo != b.lo) = !decide (a.lo = b.lo) := rfl
  generalize decide (a.lo = b.lo) = b3 at HM q3
  have q4 : (a.hi != b.hi) = !decide (a.hi = b.hi) := rfl
  generalize decide (a.hi = b.hi) = b4 at HM q4
  have q5 : (a.seq != b.seq) = !decide (a.seq = b.seq) := rfl
  generalize decide (a.seq = b.seq) = b5 at HM q5
  have q6 : (a.tgt != b.tgt) = !decide (a.tgt = b.tgt) := rfl
  generalize decide (a.tgt = b.tgt) = b6 at HM q6
  have q7 : (a.life == b.life) = decide (a.life = b.life) := rfl
  generalize decide (a.life = b.life) = b7 at HM q7
  have q8 : (a.epoch == b.epoch) = decide (a.epoch = b.epoch) := rfl
  generalize decide (a.epoch = b.epoch) = b8 at HM q8
  have q9 : (a.base == b.base) = decide (a.base = b.base) := rfl
  generalize decide (a.base = b.base) = b9 at HM q9
  go_enter Tryd.func16, Tryd.ntmps16
  cases b0
  · go_wp2_with fail
    go_ret
    exact ⟨by rw [HM.out]; simp, HI.out.below⟩
  cases b1
  · go_wp2_with fail
    go_ret
    exact ⟨by rw [HM.out]; simp, HI.out.below⟩
  cases b2
  · go_wp2_with fail
    go_ret
    exact ⟨by rw [HM.out]; simp, HI.out.below⟩
  cases b3
  · go_wp2_with fail
    go_ret
    exact ⟨by rw [HM.out]; simp, HI.out.below⟩
  cases b4
  · go_wp2_with fail
    go_ret
    exact ⟨by rw [HM.out]; simp, HI.out.below⟩
  cases b5
  · go_wp2_with fail
    go_ret
    exact ⟨by rw [HM.out]; simp, HI.out.below⟩
  cases b6
  · go_wp2_with fail
    go_ret
    exact ⟨by rw [HM.out]; simp, HI.out.below⟩
  cases b7
  · go_wp2_with fail
    go_ret
    exact ⟨by rw [HM.out]; simp, HI.out.below⟩
  cases b8
  · go_wp2_with fail
    go_ret
    exact ⟨by rw [HM.out]; simp, HI.out.below⟩
  cases b9
  · go_wp2_with fail
    go_ret
    exact ⟨by rw [HM.out]; simp, HI.out.below⟩
  go_wp2_with fail
  refine (E _ HI.out).mono ?_
  rintro e w3 ⟨rfl, hb3⟩
  have HI3 := Hid.mk' (HI.out.on hb3)
  clear hb3 HI
  go_wp2_with fail
  go_ret
  exact ⟨by rw [HM.out]; simp, HI3.out.below⟩

theorem lfewM_any (m : Mg) (w : World) (hm : MOk w m) : Calls Tryd.prog 7 #[.agg #[.int .i64 m.kind, .int .i64 m.frm, .int .i64 m.inc, .int .i64 m.lo, .int .i64 m.hi, .int .i64 m.seq, .int .i64 m.tgt, .int .i64 m.life, .int .i64 m.epoch, .int .i64 m.base, .slice m.p m.recs.length m.cap]] w fun e w' => e = .returned (.bool (fewR (rks m.recs))) ∧ Below w.heap.size w w' := by
  have HI := Hid.mk' (InM.start w m)
  have C := fun X (h : InM w m X) => lfew_any m.p m.cap m.recs X (hm.rin.below h.below) hm.lenM
  clear hm
  generalize fewR (rks m.recs) = b at C ⊢
  go_enter Tryd.func7, Tryd.ntmps7
  go_wp2_with fail
  refine (C _ HI.out).mono ?_
  rintro e w3 ⟨rfl, rfl⟩
  go_wp2_with fail
  go_ret
  exact ⟨rfl, HI.out.below⟩

def mp (b : Int) : Mg := ⟨7, 0, 0, 1, 3, 0, 0, 0, 3, b, none, 0, []⟩
theorem mp_ok (w : World) (b : Int) (h : (Lit.int .i64 b).wf = true) : MOk w (mp b) := ⟨show (Lit.int .i64 7).wf = true by decide, show (Lit.int .i64 0).wf = true by decide, show (Lit.int .i64 0).wf = true by decide, show (Lit.int .i64 1).wf = true by decide, show (Lit.int .i64 3).wf = true by decide, show (Lit.int .i64 0).wf = true by decide, show (Lit.int .i64 0).wf = true by decide, show (Lit.int .i64 0).wf = true by decide, show (Lit.int .i64 3).wf = true by decide, h, Nat.le_refl _, by simp [mp, maxLen], fun _ => rfl, RIn.empty _ _⟩


end Go.Proofs.YtmfkdohfejklhaaDoor
