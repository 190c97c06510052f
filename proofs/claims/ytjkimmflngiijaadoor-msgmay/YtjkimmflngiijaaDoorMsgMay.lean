/-
  Proved: the statement on which messages of layer 10 may be, and what is left of one without its records (MsgMay), returns true at every input, and leaves its arguments as they were; the package's table of kinds reads as the program's text lays it (the card ties it).
-/
import Derived.Test.YtjkimmflngiijaaDoorRows
import Derived.Test.YtjkimmflngiijaaDoorCards
import Derived.Test.YtjkimmflngiijaaDoorTie
import Derived.Test.YtjkimmflngiijaaDoorLaw10A
import Derived.Test.YtjkimmflngiijaaDoorLaw10M
import Derived.ShutString
import Derived.ChangeOld
import Derived.Stop.Joined
import Derived.SevenTiedAt
namespace Go.Proofs.YtjkimmflngiijaaDoor.msgMay
open Go Go.ChangeShapes Go.WideShapes Go.ChangeAt Go.RowKit
open Go.ChangeMaps (open_string shut_string)
set_option linter.unusedVariables false
set_option linter.unusedSimpArgs false
set_option synthInstance.maxSize 2000

/-- A message that was laid for a call, and two that are it without its records. -/
structure InH (w : World) (m : Mg) (g : Nat) (X : World) : Prop where
  inm : InM w m X
  h0 : X.heap[g]? = some (.cells #[.int .i64 (headM m).kind, .int .i64 (headM m).frm, .int .i64 (headM m).inc, .int .i64 (headM m).lo, .int .i64 (headM m).hi, .int .i64 (headM m).seq, .int .i64 (headM m).tgt, .int .i64 (headM m).life, .int .i64 (headM m).epoch, .int .i64 (headM m).base, .slice (headM m).p (headM m).recs.length (headM m).cap] 36 (0, 0))
  h1 : X.heap[g + 1]? = some (.cells #[.int .i64 (headM m).kind, .int .i64 (headM m).frm, .int .i64 (headM m).inc, .int .i64 (headM m).lo, .int .i64 (headM m).hi, .int .i64 (headM m).seq, .int .i64 (headM m).tgt, .int .i64 (headM m).life, .int .i64 (headM m).epoch, .int .i64 (headM m).base, .slice (headM m).p (headM m).recs.length (headM m).cap] 36 (0, 0))
theorem InH.on {w X X' : World} {m : Mg} {g : Nat} (h : InH w m g X) (k : Below X.heap.size X X') : InH w m g X' :=
  ⟨h.inm.on k, by rw [k.block _ (Array.getElem?_eq_some_iff.1 h.h0).1]; exact h.h0, by rw [k.block _ (Array.getElem?_eq_some_iff.1 h.h1).1]; exact h.h1⟩
theorem InH.start {w X : World} {m : Mg} (h : InM w m X) : InH w m X.heap.size ((X.alloc (.cells #[.int .i64 (headM m).kind, .int .i64 (headM m).frm, .int .i64 (headM m).inc, .int .i64 (headM m).lo, .int .i64 (headM m).hi, .int .i64 (headM m).seq, .int .i64 (headM m).tgt, .int .i64 (headM m).life, .int .i64 (headM m).epoch, .int .i64 (headM m).base, .slice (headM m).p (headM m).recs.length (headM m).cap] 36)).alloc (.cells #[.int .i64 (headM m).kind, .int .i64 (headM m).frm, .int .i64 (headM m).inc, .int .i64 (headM m).lo, .int .i64 (headM m).hi, .int .i64 (headM m).seq, .int .i64 (headM m).tgt, .int .i64 (headM m).life, .int .i64 (headM m).epoch, .int .i64 (headM m).base, .slice (headM m).p (headM m).recs.length (headM m).cap] 36)) := by
  refine ⟨h.on (((Below.refl _ _).alloc (Nat.le_refl _) _).alloc (by simp) _), (heap_alloc_old _ _ (by simp)).trans (heap_alloc_new _ _), ?_⟩
  have := heap_alloc_new (X.alloc (.cells #[.int .i64 (headM m).kind, .int .i64 (headM m).frm, .int .i64 (headM m).inc, .int .i64 (headM m).lo, .int .i64 (headM m).hi, .int .i64 (headM m).seq, .int .i64 (headM m).tgt, .int .i64 (headM m).life, .int .i64 (headM m).epoch, .int .i64 (headM m).base, .slice (headM m).p (headM m).recs.length (headM m).cap] 36)) (.cells #[.int .i64 (headM m).kind, .int .i64 (headM m).frm, .int .i64 (headM m).inc, .int .i64 (headM m).lo, .int .i64 (headM m).hi, .int .i64 (headM m).seq, .int .i64 (headM m).tgt, .int .i64 (headM m).life, .int .i64 (headM m).epoch, .int .i64 (headM m).base, .slice (headM m).p (headM m).recs.length (headM m).cap] 36)
  rw [show (X.alloc (.cells #[.int .i64 (headM m).kind, .int .i64 (headM m).frm, .int .i64 (headM m).inc, .int .i64 (headM m).lo, .int .i64 (headM m).hi, .int .i64 (headM m).seq, .int .i64 (headM m).tgt, .int .i64 (headM m).life, .int .i64 (headM m).epoch, .int .i64 (headM m).base, .slice (headM m).p (headM m).recs.length (headM m).cap] 36)).heap.size = X.heap.size + 1 by simp] at this
  exact this

theorem inh_s {w X : World} {m : Mg} {g : Nat} (h : InH w m g X) : X.cell? ⟨w.heap.size, 0, none⟩ = some (.int .i64 m.kind) ∧ X.cell? ⟨w.heap.size, 1, none⟩ = some (.int .i64 m.frm) ∧ X.cell? ⟨w.heap.size, 2, none⟩ = some (.int .i64 m.inc) ∧ X.cell? ⟨w.heap.size, 3, none⟩ = some (.int .i64 m.lo) ∧ X.cell? ⟨w.heap.size, 4, none⟩ = some (.int .i64 m.hi) ∧ X.cell? ⟨w.heap.size, 5, none⟩ = some (.int .i64 m.seq) ∧ X.cell? ⟨w.heap.size, 6, none⟩ = some (.int .i64 m.tgt) ∧ X.cell? ⟨w.heap.size, 7, none⟩ = some (.int .i64 m.life) ∧ X.cell? ⟨w.heap.size, 8, none⟩ = some (.int .i64 m.epoch) ∧ X.cell? ⟨w.heap.size, 9, none⟩ = some (.int .i64 m.base) ∧ X.cell? ⟨w.heap.size, 10, none⟩ = some (.slice m.p m.recs.length m.cap) ∧ X.cell? ⟨g, 0, none⟩ = some (.int .i64 m.kind) ∧ X.cell? ⟨g, 1, none⟩ = some (.int .i64 m.frm) ∧ X.cell? ⟨g, 2, none⟩ = some (.int .i64 m.inc) ∧ X.cell? ⟨g, 3, none⟩ = some (.int .i64 m.lo) ∧ X.cell? ⟨g, 4, none⟩ = some (.int .i64 m.hi) ∧ X.cell? ⟨g, 5, none⟩ = some (.int .i64 m.seq) ∧ X.cell? ⟨g, 6, none⟩ = some (.int .i64 m.tgt) ∧ X.cell? ⟨g, 7, none⟩ = some (.int .i64 m.life) ∧ X.cell? ⟨g, 8, none⟩ = some (.int .i64 m.epoch) ∧ X.cell? ⟨g, 9, none⟩ = some (.int .i64 m.base) ∧ X.cell? ⟨g, 10, none⟩ = some (.slice none 0 0) ∧ X.cell? ⟨g + 1, 0, none⟩ = some (.int .i64 m.kind) ∧ X.cell? ⟨g + 1, 1, none⟩ = some (.int .i64 m.frm) ∧ X.cell? ⟨g + 1, 2, none⟩ = some (.int .i64 m.inc) ∧ X.cell? ⟨g + 1, 3, none⟩ = some (.int .i64 m.lo) ∧ X.cell? ⟨g + 1, 4, none⟩ = some (.int .i64 m.hi) ∧ X.cell? ⟨g + 1, 5, none⟩ = some (.int .i64 m.seq) ∧ X.cell? ⟨g + 1, 6, none⟩ = some (.int .i64 m.tgt) ∧ X.cell? ⟨g + 1, 7, none⟩ = some (.int .i64 m.life) ∧ X.cell? ⟨g + 1, 8, none⟩ = some (.int .i64 m.epoch) ∧ X.cell? ⟨g + 1, 9, none⟩ = some (.int .i64 m.base) ∧ X.cell? ⟨g + 1, 10, none⟩ = some (.slice none 0 0) ∧ Hid (InH w m g X) := by
  obtain ⟨c0, c1, c2, c3, c4, c5, c6, c7, c8, c9, c10⟩ := mbox_cells h.inm.box
  obtain ⟨d0, d1, d2, d3, d4, d5, d6, d7, d8, d9, d10⟩ := mbox_cells h.h0
  obtain ⟨e0, e1, e2, e3, e4, e5, e6, e7, e8, e9, e10⟩ := mbox_cells h.h1
  exact ⟨c0, c1, c2, c3, c4, c5, c6, c7, c8, c9, c10, d0, d1, d2, d3, d4, d5, d6, d7, d8, d9, d10, e0, e1, e2, e3, e4, e5, e6, e7, e8, e9, e10, h⟩

set_option maxRecDepth 10000 in
set_option maxHeartbeats 8000000 in
theorem walk (m : Mg) (w : World) (hK : Kd w) (hm : MOk w m) :
    Calls Tryd.prog 4 #[.agg #[.int .i64 m.kind, .int .i64 m.frm, .int .i64 m.inc, .int .i64 m.lo, .int .i64 m.hi, .int .i64 m.seq, .int .i64 m.tgt, .int .i64 m.life, .int .i64 m.epoch, .int .i64 m.base, .slice m.p m.recs.length m.cap]] w fun e w' => e = .returned (.bool true) ∧ Below w.heap.size w w' := by
  have AW := fun X (h : Below w.heap.size w X) => awake10_any X (hK.below h)
  have HI := Hid.mk' (InM.start w m)
  have FA := fun X (h : InM w m X) => lfewM_any m X (hm.below h.below)
  have HD := fun X => mhead_any m X
  have AL := fun X => lalikeM_any (headM m) (headM m) X (headM_ok hm) (headM_ok hm)
  rw [sameM_self (headM m)] at AL
  obtain ⟨fa, hfa⟩ : ∃ fa, fewR (rks m.recs) = fa := ⟨_, rfl⟩
  rw [hfa] at FA
  have HF := Hid.mk' hfa
  clear hfa
  go_enter Tryd.func4, Tryd.ntmps4
  go_wp2_with fail
  refine (FA _ HI.out).mono ?_
  rintro e w1 ⟨rfl, hb1⟩
  have HI1 := Hid.mk' (HI.out.on hb1)
  clear hb1 HI FA
  cases fa
  · go_wp2_with fail
    refine (AW _ HI1.out.below).mono ?_
    rintro e w2 ⟨rfl, hb2⟩
    have HB2 := Hid.mk' (HI1.out.on hb2).below
    clear hb2
    go_wp2_with fail
    go_ret
    exact ⟨rfl, HB2.out⟩
  have hz : ∀ x ∈ m.recs, szK (kys x.bag) ≤ 4611686018427387904 := fun x hx => by have := ((fewR_yes HF.out).2 x hx).2; omega
  have VD := fun X (h : InM w m X) => mvalid_any m X (hm.below h.below) hz (hK.below h.below)
  have MY := fun X (h : InM w m X) => lmayM_any m X (hm.below h.below) hz
  generalize mayM m = v at VD MY
  clear hz HF hm hK
  obtain ⟨c0, c1, c2, c3, c4, c5, c6, c7, c8, c9, c10⟩ := mbox_cells HI1.out.box
  go_wp2_with fail
  refine (HD _).mono ?_
  rintro e w2 ⟨rfl, hb2⟩
  have HI2 := Hid.mk' (HI1.out.on hb2)
  have HH := Hid.mk' (InH.start HI2.out)
  simp only [headM, List.length_nil] at HH AL
  clear hb2 HI1 HD c0 c1 c2 c3 c4 c5 c6 c7 c8 c9 c10
  obtain ⟨c0, c1, c2, c3, c4, c5, c6, c7, c8, c9, c10⟩ := mbox_cells HI2.out.box
  have hl : w.heap.size < w2.heap.size := lt_of_cell c0
  go_wp2_with fail
  have hS0 := inh_s (HH.out.on (Below.refl _ _).drew)
  have hvv : (v == v) = true := by simp
  refine wp_region_held_drew (S := fun X => X.cell? ⟨w.heap.size, 0, none⟩ = some (.int .i64 m.kind) ∧ X.cell? ⟨w.heap.size, 1, none⟩ = some (.int .i64 m.frm) ∧ X.cell? ⟨w.heap.size, 2, none⟩ = some (.int .i64 m.inc) ∧ X.cell? ⟨w.heap.size, 3, none⟩ = some (.int .i64 m.lo) ∧ X.cell? ⟨w.heap.size, 4, none⟩ = some (.int .i64 m.hi) ∧ X.cell? ⟨w.heap.size, 5, none⟩ = some (.int .i64 m.seq) ∧ X.cell? ⟨w.heap.size, 6, none⟩ = some (.int .i64 m.tgt) ∧ X.cell? ⟨w.heap.size, 7, none⟩ = some (.int .i64 m.life) ∧ X.cell? ⟨w.heap.size, 8, none⟩ = some (.int .i64 m.epoch) ∧ X.cell? ⟨w.heap.size, 9, none⟩ = some (.int .i64 m.base) ∧ X.cell? ⟨w.heap.size, 10, none⟩ = some (.slice m.p m.recs.length m.cap) ∧ X.cell? ⟨w2.heap.size, 0, none⟩ = some (.int .i64 m.kind) ∧ X.cell? ⟨w2.heap.size, 1, none⟩ = some (.int .i64 m.frm) ∧ X.cell? ⟨w2.heap.size, 2, none⟩ = some (.int .i64 m.inc) ∧ X.cell? ⟨w2.heap.size, 3, none⟩ = some (.int .i64 m.lo) ∧ X.cell? ⟨w2.heap.size, 4, none⟩ = some (.int .i64 m.hi) ∧ X.cell? ⟨w2.heap.size, 5, none⟩ = some (.int .i64 m.seq) ∧ X.cell? ⟨w2.heap.size, 6, none⟩ = some (.int .i64 m.tgt) ∧ X.cell? ⟨w2.heap.size, 7, none⟩ = some (.int .i64 m.life) ∧ X.cell? ⟨w2.heap.size, 8, none⟩ = some (.int .i64 m.epoch) ∧ X.cell? ⟨w2.heap.size, 9, none⟩ = some (.int .i64 m.base) ∧ X.cell? ⟨w2.heap.size, 10, none⟩ = some (.slice none 0 0) ∧ X.cell? ⟨w2.heap.size + 1, 0, none⟩ = some (.int .i64 m.kind) ∧ X.cell? ⟨w2.heap.size + 1, 1, none⟩ = some (.int .i64 m.frm) ∧ X.cell? ⟨w2.heap.size + 1, 2, none⟩ = some (.int .i64 m.inc) ∧ X.cell? ⟨w2.heap.size + 1, 3, none⟩ = some (.int .i64 m.lo) ∧ X.cell? ⟨w2.heap.size + 1, 4, none⟩ = some (.int .i64 m.hi) ∧ X.cell? ⟨w2.heap.size + 1, 5, none⟩ = some (.int .i64 m.seq) ∧ X.cell? ⟨w2.heap.size + 1, 6, none⟩ = some (.int .i64 m.tgt) ∧ X.cell? ⟨w2.heap.size + 1, 7, none⟩ = some (.int .i64 m.life) ∧ X.cell? ⟨w2.heap.size + 1, 8, none⟩ = some (.int .i64 m.epoch) ∧ X.cell? ⟨w2.heap.size + 1, 9, none⟩ = some (.int .i64 m.base) ∧ X.cell? ⟨w2.heap.size + 1, 10, none⟩ = some (.slice none 0 0) ∧ Hid (InH w m w2.heap.size X)) (by kernel_rfl) hS0 (fun hS => ?_)
  clear hS0 HH HI2 hl c0 c1 c2 c3 c4 c5 c6 c7 c8 c9 c10
  generalize ((w2.alloc (.cells #[.int .i64 m.kind, .int .i64 m.frm, .int .i64 m.inc, .int .i64 m.lo, .int .i64 m.hi, .int .i64 m.seq, .int .i64 m.tgt, .int .i64 m.life, .int .i64 m.epoch, .int .i64 m.base, .slice none 0 0] 36)).alloc (.cells #[.int .i64 m.kind, .int .i64 m.frm, .int .i64 m.inc, .int .i64 m.lo, .int .i64 m.hi, .int .i64 m.seq, .int .i64 m.tgt, .int .i64 m.life, .int .i64 m.epoch, .int .i64 m.base, .slice none 0 0] 36)).drew = wd at hS ⊢
  refine wpAnyH_take (i := 0) (v := ?v0_19) rfl (by kernel_rfl) (by kernel_rfl) (by kernel_rfl) (fun _ _ _ h => h) (Or.inl ⟨by rfl, ?hy0_19⟩) (by assumption) ?rest0_19
  case hy0_19 => (intro w hSw; (try dsimp only at hSw); go_simp; try (with_reducible rfl))
  simp only [Act.put, List.getElem_toArray, List.getElem_cons_zero, List.getElem_cons_succ, List.setIfInBounds_toArray, List.set_cons_zero, List.set_cons_succ]
  refine wpAnyH_take (i := 2) (v := ?v2_20) rfl (by kernel_rfl) (by kernel_rfl) (by kernel_rfl) (fun _ _ _ h => h) (Or.inl ⟨by rfl, ?hy2_20⟩) (by assumption) ?rest2_20
  case hy2_20 => (intro w hSw; (try dsimp only at hSw); go_simp; try (with_reducible rfl))
  simp only [Act.put, List.getElem_toArray, List.getElem_cons_zero, List.getElem_cons_succ, List.setIfInBounds_toArray, List.set_cons_zero, List.set_cons_succ]
  refine wpAnyH_ready (rs := [1]) (by kernel_rfl) (by simp) ?_
  refine (AllReadyH.cons rfl (fun K hK => ?_) AllReadyH.nil)
  go_simp
  refine (VD _ (hS.2.2.2.2.2.2.2.2.2.2.2.2.2.2.2.2.2.2.2.2.2.2.2.2.2.2.2.2.2.2.2.2.2.out.inm)).mono ?_
  rintro e x1 ⟨rfl, hb1⟩
  have hI1 := hS.2.2.2.2.2.2.2.2.2.2.2.2.2.2.2.2.2.2.2.2.2.2.2.2.2.2.2.2.2.2.2.2.2.out.on hb1
  clear hb1
  go_wp2_with fail
  refine hK.out _ _ ?_ (fun hS' => ?_)
  · exact inh_s hI1
  clear hK K
  try simp only [Act.put, List.getElem_toArray, List.getElem_cons_zero, List.getElem_cons_succ, List.setIfInBounds_toArray, List.set_cons_zero, List.set_cons_succ]
  replace hS := hS'
  clear hS'
  refine wpAnyH_ready (rs := [3]) (by kernel_rfl) (by simp) ?_
  refine (AllReadyH.cons rfl (fun K hK => ?_) AllReadyH.nil)
  go_simp
  refine (MY _ (hS.2.2.2.2.2.2.2.2.2.2.2.2.2.2.2.2.2.2.2.2.2.2.2.2.2.2.2.2.2.2.2.2.2.out.inm)).mono ?_
  rintro e x3 ⟨rfl, hb1⟩
  have hI3 := hS.2.2.2.2.2.2.2.2.2.2.2.2.2.2.2.2.2.2.2.2.2.2.2.2.2.2.2.2.2.2.2.2.2.out.on hb1
  clear hb1
  go_wp2_with fail
  refine hK.out _ _ ?_ (fun hS' => ?_)
  · exact inh_s hI3
  clear hK K
  try simp only [Act.put, List.getElem_toArray, List.getElem_cons_zero, List.getElem_cons_succ, List.setIfInBounds_toArray, List.set_cons_zero, List.set_cons_succ]
  replace hS := hS'
  clear hS'
  refine wpAnyH_take (i := 4) (v := ?v4_21) rfl (by kernel_rfl) (by kernel_rfl) (by kernel_rfl) (fun _ _ _ h => h) (Or.inl ⟨by rfl, ?hy4_21⟩) (by assumption) ?rest4_21
  case hy4_21 => (intro w hSw; (try dsimp only at hSw); go_simp; try (with_reducible rfl))
  simp only [Act.put, List.getElem_toArray, List.getElem_cons_zero, List.getElem_cons_succ, List.setIfInBounds_toArray, List.set_cons_zero, List.set_cons_succ]
  refine wpAnyH_take (i := 5) (v := ?v5_22) rfl (by kernel_rfl) (by kernel_rfl) (by kernel_rfl) (fun _ _ _ h => h) (Or.inl ⟨by rfl, ?hy5_22⟩) (by assumption) ?rest5_22
  case hy5_22 => (intro w hSw; (try dsimp only at hSw); go_simp; try (with_reducible rfl))
  simp only [Act.put, List.getElem_toArray, List.getElem_cons_zero, List.getElem_cons_succ, List.setIfInBounds_toArray, List.set_cons_zero, List.set_cons_succ]
  refine wpAnyH_take (i := 6) (v := ?v6_23) rfl (by kernel_rfl) (by kernel_rfl) (by kernel_rfl) (fun _ _ _ h => h) (Or.inl ⟨by rfl, ?hy6_23⟩) (by assumption) ?rest6_23
  case hy6_23 => (intro w hSw; (try dsimp only at hSw); go_simp; try (with_reducible rfl))
  simp only [Act.put, List.getElem_toArray, List.getElem_cons_zero, List.getElem_cons_succ, List.setIfInBounds_toArray, List.set_cons_zero, List.set_cons_succ]
  refine wpAnyH_take (i := 7) (v := ?v7_24) rfl (by kernel_rfl) (by kernel_rfl) (by kernel_rfl) (fun _ _ _ h => h) (Or.inl ⟨by rfl, ?hy7_24⟩) (by assumption) ?rest7_24
  case hy7_24 => (intro w hSw; (try dsimp only at hSw); go_simp; try (with_reducible rfl))
  simp only [Act.put, List.getElem_toArray, List.getElem_cons_zero, List.getElem_cons_succ, List.setIfInBounds_toArray, List.set_cons_zero, List.set_cons_succ]
  refine wpAnyH_ready (rs := [8]) (by kernel_rfl) (by simp) ?_
  refine (AllReadyH.cons rfl (fun K hK => ?_) AllReadyH.nil)
  go_simp
  refine (AL _).mono ?_
  rintro e x8 ⟨rfl, hb1⟩
  have hI8 := hS.2.2.2.2.2.2.2.2.2.2.2.2.2.2.2.2.2.2.2.2.2.2.2.2.2.2.2.2.2.2.2.2.2.out.on hb1
  clear hb1
  go_wp2_with fail
  refine hK.out _ _ ?_ (fun hS' => ?_)
  · exact inh_s hI8
  clear hK K
  try simp only [Act.put, List.getElem_toArray, List.getElem_cons_zero, List.getElem_cons_succ, List.setIfInBounds_toArray, List.set_cons_zero, List.set_cons_succ]
  replace hS := hS'
  clear hS'
  refine wpAnyH_take (i := 9) (v := ?v9_25) rfl (by kernel_rfl) (by kernel_rfl) (by kernel_rfl) (fun _ _ _ h => h) (Or.inl ⟨by rfl, ?hy9_25⟩) (by assumption) ?rest9_25
  case hy9_25 => (intro w hSw; (try dsimp only at hSw); go_simp; try (with_reducible rfl))
  simp only [Act.put, List.getElem_toArray, List.getElem_cons_zero, List.getElem_cons_succ, List.setIfInBounds_toArray, List.set_cons_zero, List.set_cons_succ]
  refine wpAnyH_take (i := 10) (v := ?v10_26) rfl (by kernel_rfl) (by kernel_rfl) (by kernel_rfl) (fun _ _ _ h => h) (Or.inl ⟨by rfl, ?hy10_26⟩) (by assumption) ?rest10_26
  case hy10_26 => (intro w hSw; (try dsimp only at hSw); go_simp; try (with_reducible rfl))
  simp only [Act.put, List.getElem_toArray, List.getElem_cons_zero, List.getElem_cons_succ, List.setIfInBounds_toArray, List.set_cons_zero, List.set_cons_succ]
  refine wpAnyH_ready (rs := [11]) (by kernel_rfl) (by simp) ?_
  refine (AllReadyH.cons rfl (fun K hK => ?_) AllReadyH.nil)
  go_simp
  refine (AW _ (hS.2.2.2.2.2.2.2.2.2.2.2.2.2.2.2.2.2.2.2.2.2.2.2.2.2.2.2.2.2.2.2.2.2.out.inm.below)).mono ?_
  rintro e x11 ⟨rfl, hb1⟩
  have hI11 := hS.2.2.2.2.2.2.2.2.2.2.2.2.2.2.2.2.2.2.2.2.2.2.2.2.2.2.2.2.2.2.2.2.2.out.on hb1
  clear hb1
  go_wp2_with fail
  refine hK.out _ _ ?_ (fun hS' => ?_)
  · exact inh_s hI11
  clear hK K
  try simp only [Act.put, List.getElem_toArray, List.getElem_cons_zero, List.getElem_cons_succ, List.setIfInBounds_toArray, List.set_cons_zero, List.set_cons_succ]
  replace hS := hS'
  clear hS'
  refine wpAnyH_take (i := 12) (v := ?v12_27) rfl (by kernel_rfl) (by kernel_rfl) (by kernel_rfl) (fun _ _ _ h => h) (Or.inl ⟨by rfl, ?hy12_27⟩) (by assumption) ?rest12_27
  case hy12_27 => (intro w hSw; (try dsimp only at hSw); go_simp; try (with_reducible rfl))
  simp only [Act.put, List.getElem_toArray, List.getElem_cons_zero, List.getElem_cons_succ, List.setIfInBounds_toArray, List.set_cons_zero, List.set_cons_succ]
  refine wpAnyH_take (i := 13) (v := ?v13_28) rfl (by kernel_rfl) (by kernel_rfl) (by kernel_rfl) (fun _ _ _ h => h) (Or.inl ⟨by rfl, ?hy13_28⟩) (by assumption) ?rest13_28
  case hy13_28 => (intro w hSw; (try dsimp only at hSw); go_simp; try (with_reducible rfl))
  simp only [Act.put, List.getElem_toArray, List.getElem_cons_zero, List.getElem_cons_succ, List.setIfInBounds_toArray, List.set_cons_zero, List.set_cons_succ]
  refine wpAnyH_done (by kernel_rfl) ?_ _
  go_wp2
  go_ret
  exact ⟨rfl, hS.2.2.2.2.2.2.2.2.2.2.2.2.2.2.2.2.2.2.2.2.2.2.2.2.2.2.2.2.2.2.2.2.2.out.inm.below⟩

theorem own : ownKnob Tryd.prog.godebug = none := by kernel_rfl
theorem laidOut : laidOutB Tryd.prog = true := by kernel_rfl

theorem door_met (os : Os) (args : Array Value) : laidMetH Tryd.prog Rows.msgMayRow.laid ((World.doorLaid Tryd.prog 400 os).forCall (fun _ _ => 0) ⟨#[], args, []⟩).memory :=
  laidMetH_of_parts3 (fuel := 8) (laidMet_of_run' 8 (by kernel_rfl) (by kernel_rfl)) (by kernel_rfl) (by kernel_rfl)

set_option maxRecDepth 100000 in
theorem lifted (os : Os) (started : os.Started) (H : Type) (enc : TypeId × Value → H) :
    ReturnsInHanded {} Tryd.checked os 4 .any (fun w args => (Rows.msgMaySpec.pre enc Tryd.prog Tryd.f4 [] false w args ∧ laidMetH Tryd.prog Rows.msgMayRow.laid w) ∧ sizedMet enc Tryd.prog Tryd.f4 (OpenSpec.ofChange Rows.msgMaySpec) false w args)
      (Rows.msgMaySpec.post enc Tryd.prog Tryd.f4 false true false false) := by
  refine returnsInHanded_of_change_and (C := Tryd.checked) (X := (fun w _ => laidMetH Tryd.prog Rows.msgMayRow.laid w)) (fun _ _ _ hh h => h.of_heap hh) own started (by kernel_rfl) Tryd.func4
    (ChangeSpec.witness_shaped (enc := enc) (C := Tryd.checked) (os := os) (X := (fun w _ => laidMetH Tryd.prog Rows.msgMayRow.laid w)) false (World.doorLaid Tryd.prog 400 os) #[.agg #[.int .i64 0, .int .i64 0, .int .i64 0, .int .i64 0, .int .i64 0, .int .i64 0, .int .i64 0, .int .i64 0, .int .i64 0, .int .i64 0, .slice none 0 0]] 8 rfl (World.shaped_of_RefB (by kernel_rfl) (by kernel_rfl)) (by kernel_rfl) (by kernel_rfl) (by kernel_rfl) (door_met os _)) ?_
  intro W base args ds gs before hval0 hW _ hsz0 hL _
  have hz : ∀ (j : Nat) t d, Tryd.f4.params.toList[j]? = some t → ds[j]? = some d → ∀ n ∈ d.weights Tryd.prog t, n ≤ reachBytes := fun j t d ht hd n hn => by
    have := List.all_eq_true.1 hsz0 n (DataW.weights_mem_each (j := j) (t := t) (d := d) (by rw [List.getElem?_append_left (List.getElem?_eq_some_iff.1 ht).1]; exact ht) (by rw [List.getElem?_append_left (List.getElem?_eq_some_iff.1 hd).1]; exact hd) n hn)
    simpa using this
  have hval : ∀ (j : Nat) t v, Tryd.f4.params[j]? = some t → args[j]? = some v → Value.okWide Tryd.prog W .any base t v := hval0
  have hW' := hW
  obtain ⟨p, q, hA0, hV, rfl, hfz, hnd⟩ := hW
  have hA : DataW.TrodAll enc Tryd.prog W 0 (fun _ => true) true Tryd.f4.params.toList args.toList ds p := hA0
  rw [Tryd.params4] at hA hval hz
  obtain ⟨v0, vs0, d0, ds0, p0x, q0, hargs, rfl, rfl, h0, r0⟩ := trodAll_cons hA
  obtain ⟨rfl, rfl, rfl⟩ := trodAll_nil r0
  obtain rfl : args = #[v0] := by cases args; simp_all
  obtain ⟨rfl, rfl⟩ := trodVars_none hV
  obtain ⟨cs0, rfl, _⟩ := okWide_struct Tryd.underlying36 (hval 0 36 v0 rfl rfl)
  have k0 := h0
  have lt0 : ∀ x ∈ p0x, x.block < W.heap.size := by obtain ⟨m, hm⟩ := k0; exact DataW.trod_lt m _ _ _ hm
  obtain ⟨a0, rfl, w0⟩ : ∃ a : Mg, cs0 = #[.int .i64 a.kind, .int .i64 a.frm, .int .i64 a.inc, .int .i64 a.lo, .int .i64 a.hi, .int .i64 a.seq, .int .i64 a.tgt, .int .i64 a.life, .int .i64 a.epoch, .int .i64 a.base, .slice a.p a.recs.length a.cap] ∧ MOk W a := by
    obtain ⟨fuel, hf⟩ := h0
    obtain ⟨a, hcs, h1⟩ := opensZ_mg _ _ _ hf (hz 0 36 d0 rfl rfl)
    exact ⟨a, by cases cs0; simpa [Value.cells, Mg.cells] using hcs, h1⟩
  clear hA0 hval0
  refine (walk a0 W (kd_of_laid (by kernel_rfl) (by simp [Rows.msgMayRow]) hL) w0).mono fun e W' ⟨he, bel⟩ => ?_
  subst he
  exact ⟨_, rfl, _, _, _, [], _, [], hW', trodAll_mk1 (shut_bool Tryd.underlying4 _), (trodAll_cons_mk (Below.trod laidOut (by kernel_rfl) (of_decide_eq_true (by kernel_rfl)) k0 bel lt0) trodAll_mk0), rfl, bel.frame _, fun h => by cases h⟩

theorem over : Rows.MsgMaySaid :=
  OpenClaim.holds_of_wide 4 Tryd.f4 rfl rfl rfl rfl rfl rfl rfl ⟨rfl, rfl, rfl, rfl, rfl⟩ rfl rfl rfl rfl rfl (by kernel_rfl) Tryd.func4 (by kernel_rfl)
    (of_decide_eq_true (by kernel_rfl)) (by unfold Func.isWrapper; first | (rw [if_pos (by decide +kernel)]; kernel_rfl) | (rw [if_neg (by decide +kernel)]; exact ⟨rfl, rfl⟩))
    (fun os started H enc _ => lifted os started H enc)

/-- The given statement: the card, its variables tied to the program's text. -/
theorem proved : Rows.MsgMayCardSaid :=
  Claim7.holds_tied_plain_at .later [] [.data] true (true, "af4ab11feb15b1e760458e7e563e999d39a41c0701361c3aebe46f965ee72831") false over (fun _ h => by cases h) (by kernel_rfl) (fun _ h => by cases h) msgMay_row_tie rfl ⟨rfl, rfl⟩ (by kernel_rfl) rfl
    (fun f fn hf hfn => by
      obtain rfl : f = 4 := Option.some.inj ((show Tryd.prog.funcNamed "polyglot/polyglotlaw10.MsgMay" = some 4 by kernel_rfl).symm.trans hf) |>.symm
      obtain rfl : fn = Tryd.f4 := (Option.some.inj (Tryd.func4.symm.trans hfn)).symm
      exact ⟨by kernel_rfl, fun j t ht => by
        rw [Tryd.params4] at ht
        have hm : t ∈ [36] := by simpa using Array.mem_of_getElem? ht
        have hall : ([36].all fun u => !Tryd.prog.wantsStandIn u) = true := by kernel_rfl
        exact (show Tryd.prog.wantsStandIn t = false by simpa using List.all_eq_true.1 hall t hm)⟩)
    (by kernel_rfl)
#print axioms proved
end Go.Proofs.YtjkimmflngiijaaDoor.msgMay
