/-
  Proved: the statement on layer 9's joins (LatticeJoins) returns true at every input, and leaves its arguments as they were. No condition.
-/
import Derived.Test.YtdfjjajkeieocaaRows
import Derived.Test.YtdfjjajkeieocaaLaw09
import Derived.Test.YtdfjjajkeieocaaRecX
import Derived.Test.YtdfjjajkeieocaaRecP
import Derived.ShutString
import Derived.ChangeOld
namespace Go.Proofs.Ytdfjjajkeieocaa.latticeJoins
open Go.ChangeShapes Go.WideShapes Go.ChangeAt Go.RowKit
open Go.ChangeMaps (open_string shut_string)
set_option linter.unusedVariables false
set_option synthInstance.maxSize 2000
set_option linter.unusedSimpArgs false

/-- The two records, and two more boxes. -/
structure InJ (w : World) (a b : Rc) (kj : Nat) (j : Rc) (kz : Nat) (z : Rc) (X : World) : Prop where
  two : InB2 w a b X
  bj : Bx X kj j
  bz : Bx X kz z
theorem InJ.on {w X X' : World} {a b j z : Rc} {kj kz : Nat} (h : InJ w a b kj j kz z X) (k : Below X.heap.size X X') : InJ w a b kj j kz z X' := ⟨h.two.on k, h.bj.on k, h.bz.on k⟩
theorem InJ.s {w X : World} {a b j z : Rc} {kj kz : Nat} (h : InJ w a b kj j kz z X) : X.cell? ⟨w.heap.size, 0, none⟩ = some (.int .i64 a.id) ∧ X.cell? ⟨w.heap.size, 1, none⟩ = some (.int .i64 a.inc) ∧ X.cell? ⟨w.heap.size, 2, none⟩ = some (.int .i64 a.st) ∧ X.cell? ⟨w.heap.size, 3, none⟩ = some (.int .i64 a.lo) ∧ X.cell? ⟨w.heap.size, 4, none⟩ = some (.int .i64 a.hi) ∧ X.cell? ⟨w.heap.size, 5, none⟩ = some (.bool a.cut) ∧ X.cell? ⟨w.heap.size, 6, none⟩ = some (.slice a.p a.bag.length a.cap) ∧ X.cell? ⟨w.heap.size + 1, 0, none⟩ = some (.int .i64 b.id) ∧ X.cell? ⟨w.heap.size + 1, 1, none⟩ = some (.int .i64 b.inc) ∧ X.cell? ⟨w.heap.size + 1, 2, none⟩ = some (.int .i64 b.st) ∧ X.cell? ⟨w.heap.size + 1, 3, none⟩ = some (.int .i64 b.lo) ∧ X.cell? ⟨w.heap.size + 1, 4, none⟩ = some (.int .i64 b.hi) ∧ X.cell? ⟨w.heap.size + 1, 5, none⟩ = some (.bool b.cut) ∧ X.cell? ⟨w.heap.size + 1, 6, none⟩ = some (.slice b.p b.bag.length b.cap) ∧ X.cell? ⟨kj, 0, none⟩ = some (.int .i64 j.id) ∧ X.cell? ⟨kj, 1, none⟩ = some (.int .i64 j.inc) ∧ X.cell? ⟨kj, 2, none⟩ = some (.int .i64 j.st) ∧ X.cell? ⟨kj, 3, none⟩ = some (.int .i64 j.lo) ∧ X.cell? ⟨kj, 4, none⟩ = some (.int .i64 j.hi) ∧ X.cell? ⟨kj, 5, none⟩ = some (.bool j.cut) ∧ X.cell? ⟨kj, 6, none⟩ = some (.slice j.p j.bag.length j.cap) ∧ X.cell? ⟨kz, 0, none⟩ = some (.int .i64 z.id) ∧ X.cell? ⟨kz, 1, none⟩ = some (.int .i64 z.inc) ∧ X.cell? ⟨kz, 2, none⟩ = some (.int .i64 z.st) ∧ X.cell? ⟨kz, 3, none⟩ = some (.int .i64 z.lo) ∧ X.cell? ⟨kz, 4, none⟩ = some (.int .i64 z.hi) ∧ X.cell? ⟨kz, 5, none⟩ = some (.bool z.cut) ∧ X.cell? ⟨kz, 6, none⟩ = some (.slice z.p z.bag.length z.cap) ∧ Hid (InJ w a b kj j kz z X) := by
  obtain ⟨a0, a1, a2, a3, a4, a5, a6⟩ := box_cells h.two.ba
  obtain ⟨b0, b1, b2, b3, b4, b5, b6⟩ := box_cells h.two.bb
  obtain ⟨c0, c1, c2, c3, c4, c5, c6⟩ := h.bj.cells
  obtain ⟨d0, d1, d2, d3, d4, d5, d6⟩ := h.bz.cells
  exact ⟨a0, a1, a2, a3, a4, a5, a6, b0, b1, b2, b3, b4, b5, b6, c0, c1, c2, c3, c4, c5, c6, d0, d1, d2, d3, d4, d5, d6, h⟩

set_option maxHeartbeats 8000000 in
set_option maxRecDepth 10000 in
theorem walk (a b : Rc) (w : World) (ha : ROk w a) (hb : ROk w b) :
    Calls Try.prog 4 #[.agg #[.int .i64 a.id, .int .i64 a.inc, .int .i64 a.st, .int .i64 a.lo, .int .i64 a.hi, .bool a.cut, .slice a.p a.bag.length a.cap], .agg #[.int .i64 b.id, .int .i64 b.inc, .int .i64 b.st, .int .i64 b.lo, .int .i64 b.hi, .bool b.cut, .slice b.p b.bag.length b.cap]] w fun e w' => e = .returned (.bool true) ∧ Below w.heap.size w w' := by
  have AW := fun X => awake9_any X
  have HI := Hid.mk' (InB2.start w a b)
  have F := lfew_any (some ⟨w.heap.size + 2, 0, none⟩) 2 [a, b] (((w.alloc (.cells #[.int .i64 a.id, .int .i64 a.inc, .int .i64 a.st, .int .i64 a.lo, .int .i64 a.hi, .bool a.cut, .slice a.p a.bag.length a.cap] 27)).alloc (.cells #[.int .i64 b.id, .int .i64 b.inc, .int .i64 b.st, .int .i64 b.lo, .int .i64 b.hi, .bool b.cut, .slice b.p b.bag.length b.cap] 27)).alloc (.cells #[.int .i64 a.id, .int .i64 a.inc, .int .i64 a.st, .int .i64 a.lo, .int .i64 a.hi, .bool a.cut, .slice a.p a.bag.length a.cap, .int .i64 b.id, .int .i64 b.inc, .int .i64 b.st, .int .i64 b.lo, .int .i64 b.hi, .bool b.cut, .slice b.p b.bag.length b.cap] 27)) (by
    have hb2 := (Below.refl ((w.alloc (.cells #[.int .i64 a.id, .int .i64 a.inc, .int .i64 a.st, .int .i64 a.lo, .int .i64 a.hi, .bool a.cut, .slice a.p a.bag.length a.cap] 27)).alloc (.cells #[.int .i64 b.id, .int .i64 b.inc, .int .i64 b.st, .int .i64 b.lo, .int .i64 b.hi, .bool b.cut, .slice b.p b.bag.length b.cap] 27)).heap.size ((w.alloc (.cells #[.int .i64 a.id, .int .i64 a.inc, .int .i64 a.st, .int .i64 a.lo, .int .i64 a.hi, .bool a.cut, .slice a.p a.bag.length a.cap] 27)).alloc (.cells #[.int .i64 b.id, .int .i64 b.inc, .int .i64 b.st, .int .i64 b.lo, .int .i64 b.hi, .bool b.cut, .slice b.p b.bag.length b.cap] 27))).alloc (Nat.le_refl _) (.cells #[.int .i64 a.id, .int .i64 a.inc, .int .i64 a.st, .int .i64 a.lo, .int .i64 a.hi, .bool a.cut, .slice a.p a.bag.length a.cap, .int .i64 b.id, .int .i64 b.inc, .int .i64 b.st, .int .i64 b.lo, .int .i64 b.hi, .bool b.cut, .slice b.p b.bag.length b.cap] 27)
    have hbb := HI.out.below.trans (hb2.mono HI.out.below.size)
    have hrow := heap_alloc_new ((w.alloc (.cells #[.int .i64 a.id, .int .i64 a.inc, .int .i64 a.st, .int .i64 a.lo, .int .i64 a.hi, .bool a.cut, .slice a.p a.bag.length a.cap] 27)).alloc (.cells #[.int .i64 b.id, .int .i64 b.inc, .int .i64 b.st, .int .i64 b.lo, .int .i64 b.hi, .bool b.cut, .slice b.p b.bag.length b.cap] 27)) (.cells #[.int .i64 a.id, .int .i64 a.inc, .int .i64 a.st, .int .i64 a.lo, .int .i64 a.hi, .bool a.cut, .slice a.p a.bag.length a.cap, .int .i64 b.id, .int .i64 b.inc, .int .i64 b.st, .int .i64 b.lo, .int .i64 b.hi, .bool b.cut, .slice b.p b.bag.length b.cap] 27)
    rw [show ((w.alloc (.cells #[.int .i64 a.id, .int .i64 a.inc, .int .i64 a.st, .int .i64 a.lo, .int .i64 a.hi, .bool a.cut, .slice a.p a.bag.length a.cap] 27)).alloc (.cells #[.int .i64 b.id, .int .i64 b.inc, .int .i64 b.st, .int .i64 b.lo, .int .i64 b.hi, .bool b.cut, .slice b.p b.bag.length b.cap] 27)).heap.size = w.heap.size + 2 by simp] at hrow
    exact RIn.of_row (l := [a, b]) hrow (by intro f hf; simp at hf; rcases hf with rfl | rfl; exact ha.below hbb; exact hb.below hbb)) (by simp [maxLen])
  have HI1 := Hid.mk' (HI.out.on ((Below.refl _ _).alloc (Nat.le_refl _) (.cells #[.int .i64 a.id, .int .i64 a.inc, .int .i64 a.st, .int .i64 a.lo, .int .i64 a.hi, .bool a.cut, .slice a.p a.bag.length a.cap, .int .i64 b.id, .int .i64 b.inc, .int .i64 b.st, .int .i64 b.lo, .int .i64 b.hi, .bool b.cut, .slice b.p b.bag.length b.cap] 27)))
  obtain ⟨fw, hfw⟩ : ∃ f, fewR (rks [a, b]) = f := ⟨_, rfl⟩
  rw [hfw] at F
  have HFW := Hid.mk' hfw
  have HA := Hid.mk' ha
  have HB := Hid.mk' hb
  clear HI hfw ha hb
  go_enter Try.func4, Try.ntmps4
  go_wp2_with fail
  refine F.mono ?_
  rintro e w1 ⟨rfl, rfl⟩
  clear F
  cases fw
  · go_wp2_with fail
    refine (AW _).mono ?_
    rintro e w2 ⟨rfl, hb2⟩
    have HB2 := Hid.mk' (HI1.out.on hb2).below
    clear hb2
    go_wp2_with fail
    go_ret
    exact ⟨rfl, HB2.out⟩
  have HN := Hid.mk' (show a.bag.length ≤ 1099511627776 ∧ b.bag.length ≤ 1099511627776 from by
    have h := (fewR_yes HFW.out).2
    have h1 := (h a (by simp)).1
    have h2 := (h b (by simp)).1
    omega)
  clear HFW
  by_cases t : a.id = b.id
  · have d : (a.id != b.id) = false := by simp [t]
    have J := fun X (h : InB2 w a b X) => join2_yes a b X (HA.out.below h.below) (HB.out.below h.below) HN.out.1 HN.out.2 t
    have HT := Hid.mk' t
    clear t
    go_wp2_with fail
    refine (J _ HI1.out).mono ?_
    clear J
    rintro e w2 ⟨j, rfl, hk, hj, hb2⟩
    have HI2 := Hid.mk' (HI1.out.on hb2)
    have HI3 := Hid.mk' (HI2.out.on ((Below.refl _ _).alloc (Nat.le_refl _) (.cells #[.int .i64 j.id, .int .i64 j.inc, .int .i64 j.st, .int .i64 j.lo, .int .i64 j.hi, .bool j.cut, .slice j.p j.bag.length j.cap] 27)))
    have HXJ := Hid.mk' (Bx.new w2 j)
    have HJ := Hid.mk' hj.ok
    have HK := Hid.mk' hk
    obtain ⟨c0, c1, c2, c3, c4, c5, c6⟩ := box_cells HI2.out.ba
    obtain ⟨d0, d1, d2, d3, d4, d5, d6⟩ := box_cells HI2.out.bb
    have l0 := lt_of_cell c0
    have l1 := lt_of_cell d0
    have Z := ljoin_any a b (w2.alloc (.cells #[.int .i64 j.id, .int .i64 j.inc, .int .i64 j.st, .int .i64 j.lo, .int .i64 j.hi, .bool j.cut, .slice j.p j.bag.length j.cap] 27)) (HA.out.below HI3.out.below) (HB.out.below HI3.out.below)
    have HZ := Hid.mk' (rk_join a b)
    have HZO := Hid.mk' (joinR_ok HA.out HB.out)
    generalize joinR a b = z at Z HZ HZO
    clear hk hj hb2 HI1
    go_wp2_with fail
    refine Z.mono ?_
    clear Z c0 c1 c2 c3 c4 c5 c6 d0 d1 d2 d3 d4 d5 d6 l0 l1
    rintro e w3 ⟨rfl, hb3⟩
    have HI4 := Hid.mk' (show InJ w a b w2.heap.size j w3.heap.size z (w3.alloc (.cells #[.int .i64 z.id, .int .i64 z.inc, .int .i64 z.st, .int .i64 z.lo, .int .i64 z.hi, .bool z.cut, .slice z.p z.bag.length z.cap] 27)) from
      ⟨(HI3.out.on hb3).on ((Below.refl _ _).alloc (Nat.le_refl _) _), (HXJ.out.on hb3).on ((Below.refl _ _).alloc (Nat.le_refl _) _), Bx.new w3 z⟩)
    have HJ4 := Hid.mk' ((HJ.out.below ((Below.refl _ _).alloc (Nat.le_refl _) (.cells #[.int .i64 j.id, .int .i64 j.inc, .int .i64 j.st, .int .i64 j.lo, .int .i64 j.hi, .bool j.cut, .slice j.p j.bag.length j.cap] 27))).below hb3)
    have HLJ := Hid.mk' (show ∀ X, InJ w a b w2.heap.size j w3.heap.size z X → w3.heap.size ≤ X.heap.size → True from fun _ _ _ => trivial)
    have AL := fun X (h : Below w3.heap.size w3 X) (hi : InJ w a b w2.heap.size j w3.heap.size z X) => lalike_any j z X (HJ4.out.below h) (HZO.out.below hi.two.below)
    rw [decide_eq_true (show rk j = rk z by rw [HK.out, HZ.out])] at AL
    have BL := fun X (hi : InJ w a b w2.heap.size j w3.heap.size z X) => below_any a b X (HA.out.below hi.two.below) (HB.out.below hi.two.below)
    have AZ := fun X (hi : InJ w a b w2.heap.size j w3.heap.size z X) => lalike_any z b X (HZO.out.below hi.two.below) (HB.out.below hi.two.below)
    rw [show belK (rk a) (rk b) = decide (rk z = rk b) by rw [belK, decide_eq_true (show (rk a).id = (rk b).id from HT.out), HZ.out]; rfl] at BL
    generalize decide (rk z = rk b) = q at BL AZ
    clear HI2 HI3 HXJ HJ HK HZ HJ4 HZO HLJ hb3
    have HSX := Hid.mk' (show ∀ X, InJ w a b w2.heap.size j w3.heap.size z X → Below w3.heap.size w3 X → (X.cell? ⟨w.heap.size, 0, none⟩ = some (.int .i64 a.id) ∧ X.cell? ⟨w.heap.size, 1, none⟩ = some (.int .i64 a.inc) ∧ X.cell? ⟨w.heap.size, 2, none⟩ = some (.int .i64 a.st) ∧ X.cell? ⟨w.heap.size, 3, none⟩ = some (.int .i64 a.lo) ∧ X.cell? ⟨w.heap.size, 4, none⟩ = some (.int .i64 a.hi) ∧ X.cell? ⟨w.heap.size, 5, none⟩ = some (.bool a.cut) ∧ X.cell? ⟨w.heap.size, 6, none⟩ = some (.slice a.p a.bag.length a.cap) ∧ X.cell? ⟨w.heap.size + 1, 0, none⟩ = some (.int .i64 b.id) ∧ X.cell? ⟨w.heap.size + 1, 1, none⟩ = some (.int .i64 b.inc) ∧ X.cell? ⟨w.heap.size + 1, 2, none⟩ = some (.int .i64 b.st) ∧ X.cell? ⟨w.heap.size + 1, 3, none⟩ = some (.int .i64 b.lo) ∧ X.cell? ⟨w.heap.size + 1, 4, none⟩ = some (.int .i64 b.hi) ∧ X.cell? ⟨w.heap.size + 1, 5, none⟩ = some (.bool b.cut) ∧ X.cell? ⟨w.heap.size + 1, 6, none⟩ = some (.slice b.p b.bag.length b.cap) ∧ X.cell? ⟨w2.heap.size, 0, none⟩ = some (.int .i64 j.id) ∧ X.cell? ⟨w2.heap.size, 1, none⟩ = some (.int .i64 j.inc) ∧ X.cell? ⟨w2.heap.size, 2, none⟩ = some (.int .i64 j.st) ∧ X.cell? ⟨w2.heap.size, 3, none⟩ = some (.int .i64 j.lo) ∧ X.cell? ⟨w2.heap.size, 4, none⟩ = some (.int .i64 j.hi) ∧ X.cell? ⟨w2.heap.size, 5, none⟩ = some (.bool j.cut) ∧ X.cell? ⟨w2.heap.size, 6, none⟩ = some (.slice j.p j.bag.length j.cap) ∧ X.cell? ⟨w3.heap.size, 0, none⟩ = some (.int .i64 z.id) ∧ X.cell? ⟨w3.heap.size, 1, none⟩ = some (.int .i64 z.inc) ∧ X.cell? ⟨w3.heap.size, 2, none⟩ = some (.int .i64 z.st) ∧ X.cell? ⟨w3.heap.size, 3, none⟩ = some (.int .i64 z.lo) ∧ X.cell? ⟨w3.heap.size, 4, none⟩ = some (.int .i64 z.hi) ∧ X.cell? ⟨w3.heap.size, 5, none⟩ = some (.bool z.cut) ∧ X.cell? ⟨w3.heap.size, 6, none⟩ = some (.slice z.p z.bag.length z.cap) ∧ Hid (InJ w a b w2.heap.size j w3.heap.size z X) ∧ Hid (Below w3.heap.size w3 X)) from fun X h hb => by
      obtain ⟨h0, h1, h2, h3, h4, h5, h6, h7, h8, h9, h10, h11, h12, h13, h14, h15, h16, h17, h18, h19, h20, h21, h22, h23, h24, h25, h26, h27, h28⟩ := h.s
      exact ⟨h0, h1, h2, h3, h4, h5, h6, h7, h8, h9, h10, h11, h12, h13, h14, h15, h16, h17, h18, h19, h20, h21, h22, h23, h24, h25, h26, h27, h28, hb⟩)
    have hS0 := HSX.out _ (HI4.out.on (Below.refl _ _).drew) ((Below.refl _ _).alloc (Nat.le_refl _) (.cells #[.int .i64 z.id, .int .i64 z.inc, .int .i64 z.st, .int .i64 z.lo, .int .i64 z.hi, .bool z.cut, .slice z.p z.bag.length z.cap] 27)).drew
    clear HI4
    go_wp2_with fail
    refine wp_region_held_drew (S := fun X => X.cell? ⟨w.heap.size, 0, none⟩ = some (.int .i64 a.id) ∧ X.cell? ⟨w.heap.size, 1, none⟩ = some (.int .i64 a.inc) ∧ X.cell? ⟨w.heap.size, 2, none⟩ = some (.int .i64 a.st) ∧ X.cell? ⟨w.heap.size, 3, none⟩ = some (.int .i64 a.lo) ∧ X.cell? ⟨w.heap.size, 4, none⟩ = some (.int .i64 a.hi) ∧ X.cell? ⟨w.heap.size, 5, none⟩ = some (.bool a.cut) ∧ X.cell? ⟨w.heap.size, 6, none⟩ = some (.slice a.p a.bag.length a.cap) ∧ X.cell? ⟨w.heap.size + 1, 0, none⟩ = some (.int .i64 b.id) ∧ X.cell? ⟨w.heap.size + 1, 1, none⟩ = some (.int .i64 b.inc) ∧ X.cell? ⟨w.heap.size + 1, 2, none⟩ = some (.int .i64 b.st) ∧ X.cell? ⟨w.heap.size + 1, 3, none⟩ = some (.int .i64 b.lo) ∧ X.cell? ⟨w.heap.size + 1, 4, none⟩ = some (.int .i64 b.hi) ∧ X.cell? ⟨w.heap.size + 1, 5, none⟩ = some (.bool b.cut) ∧ X.cell? ⟨w.heap.size + 1, 6, none⟩ = some (.slice b.p b.bag.length b.cap) ∧ X.cell? ⟨w2.heap.size, 0, none⟩ = some (.int .i64 j.id) ∧ X.cell? ⟨w2.heap.size, 1, none⟩ = some (.int .i64 j.inc) ∧ X.cell? ⟨w2.heap.size, 2, none⟩ = some (.int .i64 j.st) ∧ X.cell? ⟨w2.heap.size, 3, none⟩ = some (.int .i64 j.lo) ∧ X.cell? ⟨w2.heap.size, 4, none⟩ = some (.int .i64 j.hi) ∧ X.cell? ⟨w2.heap.size, 5, none⟩ = some (.bool j.cut) ∧ X.cell? ⟨w2.heap.size, 6, none⟩ = some (.slice j.p j.bag.length j.cap) ∧ X.cell? ⟨w3.heap.size, 0, none⟩ = some (.int .i64 z.id) ∧ X.cell? ⟨w3.heap.size, 1, none⟩ = some (.int .i64 z.inc) ∧ X.cell? ⟨w3.heap.size, 2, none⟩ = some (.int .i64 z.st) ∧ X.cell? ⟨w3.heap.size, 3, none⟩ = some (.int .i64 z.lo) ∧ X.cell? ⟨w3.heap.size, 4, none⟩ = some (.int .i64 z.hi) ∧ X.cell? ⟨w3.heap.size, 5, none⟩ = some (.bool z.cut) ∧ X.cell? ⟨w3.heap.size, 6, none⟩ = some (.slice z.p z.bag.length z.cap) ∧ Hid (InJ w a b w2.heap.size j w3.heap.size z X) ∧ Hid (Below w3.heap.size w3 X)) (by kernel_rfl) hS0 (fun hS => ?_)
    clear hS0
    generalize (w3.alloc (.cells #[.int .i64 z.id, .int .i64 z.inc, .int .i64 z.st, .int .i64 z.lo, .int .i64 z.hi, .bool z.cut, .slice z.p z.bag.length z.cap] 27)).drew = wd at hS ⊢
    refine wpAnyH_take (i := 0) (v := ?v0_65) rfl (by kernel_rfl) (by kernel_rfl) (by kernel_rfl) (fun _ _ _ h => h) (Or.inl ⟨by rfl, ?hy0_65⟩) (by assumption) ?rest0_65
    case hy0_65 => (intro w hSw; (try dsimp only at hSw); go_simp; try (with_reducible rfl))
    simp only [Act.put, List.getElem_toArray, List.getElem_cons_zero, List.getElem_cons_succ, List.setIfInBounds_toArray, List.set_cons_zero, List.set_cons_succ]
    refine wpAnyH_take (i := 1) (v := ?v1_66) rfl (by kernel_rfl) (by kernel_rfl) (by kernel_rfl) (fun _ _ _ h => h) (Or.inl ⟨by rfl, ?hy1_66⟩) (by assumption) ?rest1_66
    case hy1_66 => (intro w hSw; (try dsimp only at hSw); go_simp; try (with_reducible rfl))
    simp only [Act.put, List.getElem_toArray, List.getElem_cons_zero, List.getElem_cons_succ, List.setIfInBounds_toArray, List.set_cons_zero, List.set_cons_succ]
    refine wpAnyH_take (i := 2) (v := ?v2_67) rfl (by kernel_rfl) (by kernel_rfl) (by kernel_rfl) (fun _ _ _ h => h) (Or.inl ⟨by rfl, ?hy2_67⟩) (by assumption) ?rest2_67
    case hy2_67 => (intro w hSw; (try dsimp only at hSw); go_simp; try (with_reducible rfl))
    simp only [Act.put, List.getElem_toArray, List.getElem_cons_zero, List.getElem_cons_succ, List.setIfInBounds_toArray, List.set_cons_zero, List.set_cons_succ]
    refine wpAnyH_take (i := 3) (v := ?v3_68) rfl (by kernel_rfl) (by kernel_rfl) (by kernel_rfl) (fun _ _ _ h => h) (Or.inl ⟨by rfl, ?hy3_68⟩) (by assumption) ?rest3_68
    case hy3_68 => (intro w hSw; (try dsimp only at hSw); go_simp; try (with_reducible rfl))
    simp only [Act.put, List.getElem_toArray, List.getElem_cons_zero, List.getElem_cons_succ, List.setIfInBounds_toArray, List.set_cons_zero, List.set_cons_succ]
    refine wpAnyH_ready (rs := [4]) (by kernel_rfl) (by simp) ?_
    refine (AllReadyH.cons rfl (fun K hK => ?_) AllReadyH.nil)
    go_simp
    refine (AL _ (hS.2.2.2.2.2.2.2.2.2.2.2.2.2.2.2.2.2.2.2.2.2.2.2.2.2.2.2.2.2.out) (hS.2.2.2.2.2.2.2.2.2.2.2.2.2.2.2.2.2.2.2.2.2.2.2.2.2.2.2.2.1.out)).mono ?_
    rintro e w4 ⟨rfl, hb4⟩
    have hI4 := HSX.out _ ((hS.2.2.2.2.2.2.2.2.2.2.2.2.2.2.2.2.2.2.2.2.2.2.2.2.2.2.2.2.1.out).on hb4) ((hS.2.2.2.2.2.2.2.2.2.2.2.2.2.2.2.2.2.2.2.2.2.2.2.2.2.2.2.2.2.out).trans (hb4.mono (hS.2.2.2.2.2.2.2.2.2.2.2.2.2.2.2.2.2.2.2.2.2.2.2.2.2.2.2.2.2.out).size))
    clear hb4
    go_wp2_with fail
    refine hK.out _ _ ?_ (fun hS' => ?_)
    · exact hI4
    clear hK K
    try simp only [Act.put, List.getElem_toArray, List.getElem_cons_zero, List.getElem_cons_succ, List.setIfInBounds_toArray, List.set_cons_zero, List.set_cons_succ]
    replace hS := hS'
    clear hS'
    refine wpAnyH_take (i := 5) (v := ?v5_69) rfl (by kernel_rfl) (by kernel_rfl) (by kernel_rfl) (fun _ _ _ h => h) (Or.inl ⟨by rfl, ?hy5_69⟩) (by assumption) ?rest5_69
    case hy5_69 => (intro w hSw; (try dsimp only at hSw); go_simp; try (with_reducible rfl))
    simp only [Act.put, List.getElem_toArray, List.getElem_cons_zero, List.getElem_cons_succ, List.setIfInBounds_toArray, List.set_cons_zero, List.set_cons_succ]
    refine wpAnyH_take (i := 6) (v := ?v6_70) rfl (by kernel_rfl) (by kernel_rfl) (by kernel_rfl) (fun _ _ _ h => h) (Or.inl ⟨by rfl, ?hy6_70⟩) (by assumption) ?rest6_70
    case hy6_70 => (intro w hSw; (try dsimp only at hSw); go_simp; try (with_reducible rfl))
    simp only [Act.put, List.getElem_toArray, List.getElem_cons_zero, List.getElem_cons_succ, List.setIfInBounds_toArray, List.set_cons_zero, List.set_cons_succ]
    refine wpAnyH_take (i := 7) (v := ?v7_71) rfl (by kernel_rfl) (by kernel_rfl) (by kernel_rfl) (fun _ _ _ h => h) (Or.inl ⟨by rfl, ?hy7_71⟩) (by assumption) ?rest7_71
    case hy7_71 => (intro w hSw; (try dsimp only at hSw); go_simp; try (with_reducible rfl))
    simp only [Act.put, List.getElem_toArray, List.getElem_cons_zero, List.getElem_cons_succ, List.setIfInBounds_toArray, List.set_cons_zero, List.set_cons_succ]
    refine wpAnyH_take (i := 8) (v := ?v8_72) rfl (by kernel_rfl) (by kernel_rfl) (by kernel_rfl) (fun _ _ _ h => h) (Or.inl ⟨by rfl, ?hy8_72⟩) (by assumption) ?rest8_72
    case hy8_72 => (intro w hSw; (try dsimp only at hSw); go_simp; try (with_reducible rfl))
    simp only [Act.put, List.getElem_toArray, List.getElem_cons_zero, List.getElem_cons_succ, List.setIfInBounds_toArray, List.set_cons_zero, List.set_cons_succ]
    refine wpAnyH_take (i := 10) (v := ?v10_73) rfl (by kernel_rfl) (by kernel_rfl) (by kernel_rfl) (fun _ _ _ h => h) (Or.inl ⟨by rfl, ?hy10_73⟩) (by assumption) ?rest10_73
    case hy10_73 => (intro w hSw; (try dsimp only at hSw); go_simp; try (with_reducible rfl))
    simp only [Act.put, List.getElem_toArray, List.getElem_cons_zero, List.getElem_cons_succ, List.setIfInBounds_toArray, List.set_cons_zero, List.set_cons_succ]
    refine wpAnyH_take (i := 11) (v := ?v11_74) rfl (by kernel_rfl) (by kernel_rfl) (by kernel_rfl) (fun _ _ _ h => h) (Or.inl ⟨by rfl, ?hy11_74⟩) (by assumption) ?rest11_74
    case hy11_74 => (intro w hSw; (try dsimp only at hSw); go_simp; try (with_reducible rfl))
    simp only [Act.put, List.getElem_toArray, List.getElem_cons_zero, List.getElem_cons_succ, List.setIfInBounds_toArray, List.set_cons_zero, List.set_cons_succ]
    refine wpAnyH_ready (rs := [9]) (by kernel_rfl) (by simp) ?_
    refine (AllReadyH.cons rfl (fun K hK => ?_) AllReadyH.nil)
    go_simp
    refine (BL _ (hS.2.2.2.2.2.2.2.2.2.2.2.2.2.2.2.2.2.2.2.2.2.2.2.2.2.2.2.2.1.out)).mono ?_
    rintro e w4 ⟨rfl, hb4⟩
    have hI4 := HSX.out _ ((hS.2.2.2.2.2.2.2.2.2.2.2.2.2.2.2.2.2.2.2.2.2.2.2.2.2.2.2.2.1.out).on hb4) ((hS.2.2.2.2.2.2.2.2.2.2.2.2.2.2.2.2.2.2.2.2.2.2.2.2.2.2.2.2.2.out).trans (hb4.mono (hS.2.2.2.2.2.2.2.2.2.2.2.2.2.2.2.2.2.2.2.2.2.2.2.2.2.2.2.2.2.out).size))
    clear hb4
    go_wp2_with fail
    refine hK.out _ _ ?_ (fun hS' => ?_)
    · exact hI4
    clear hK K
    try simp only [Act.put, List.getElem_toArray, List.getElem_cons_zero, List.getElem_cons_succ, List.setIfInBounds_toArray, List.set_cons_zero, List.set_cons_succ]
    replace hS := hS'
    clear hS'
    refine wpAnyH_ready (rs := [12]) (by kernel_rfl) (by simp) ?_
    refine (AllReadyH.cons rfl (fun K hK => ?_) AllReadyH.nil)
    go_simp
    refine (AZ _ (hS.2.2.2.2.2.2.2.2.2.2.2.2.2.2.2.2.2.2.2.2.2.2.2.2.2.2.2.2.1.out)).mono ?_
    rintro e w4 ⟨rfl, hb4⟩
    have hI4 := HSX.out _ ((hS.2.2.2.2.2.2.2.2.2.2.2.2.2.2.2.2.2.2.2.2.2.2.2.2.2.2.2.2.1.out).on hb4) ((hS.2.2.2.2.2.2.2.2.2.2.2.2.2.2.2.2.2.2.2.2.2.2.2.2.2.2.2.2.2.out).trans (hb4.mono (hS.2.2.2.2.2.2.2.2.2.2.2.2.2.2.2.2.2.2.2.2.2.2.2.2.2.2.2.2.2.out).size))
    clear hb4
    go_wp2_with fail
    refine hK.out _ _ ?_ (fun hS' => ?_)
    · exact hI4
    clear hK K
    try simp only [Act.put, List.getElem_toArray, List.getElem_cons_zero, List.getElem_cons_succ, List.setIfInBounds_toArray, List.set_cons_zero, List.set_cons_succ]
    replace hS := hS'
    clear hS'
    refine wpAnyH_take (i := 13) (v := ?v13_75) rfl (by kernel_rfl) (by kernel_rfl) (by kernel_rfl) (fun _ _ _ h => h) (Or.inl ⟨by rfl, ?hy13_75⟩) (by assumption) ?rest13_75
    case hy13_75 => (intro w hSw; (try dsimp only at hSw); go_simp; try (with_reducible rfl))
    simp only [Act.put, List.getElem_toArray, List.getElem_cons_zero, List.getElem_cons_succ, List.setIfInBounds_toArray, List.set_cons_zero, List.set_cons_succ]
    refine wpAnyH_take (i := 14) (v := ?v14_76) rfl (by kernel_rfl) (by kernel_rfl) (by kernel_rfl) (fun _ _ _ h => h) (Or.inl ⟨by rfl, ?hy14_76⟩) (by assumption) ?rest14_76
    case hy14_76 => (intro w hSw; (try dsimp only at hSw); go_simp; try (with_reducible rfl))
    simp only [Act.put, List.getElem_toArray, List.getElem_cons_zero, List.getElem_cons_succ, List.setIfInBounds_toArray, List.set_cons_zero, List.set_cons_succ]
    refine wpAnyH_take (i := 15) (v := ?v15_77) rfl (by kernel_rfl) (by kernel_rfl) (by kernel_rfl) (fun _ _ _ h => h) (Or.inl ⟨by rfl, ?hy15_77⟩) (by assumption) ?rest15_77
    case hy15_77 => (intro w hSw; (try dsimp only at hSw); go_simp; try (with_reducible rfl))
    simp only [Act.put, List.getElem_toArray, List.getElem_cons_zero, List.getElem_cons_succ, List.setIfInBounds_toArray, List.set_cons_zero, List.set_cons_succ]
    refine wpAnyH_ready (rs := [16]) (by kernel_rfl) (by simp) ?_
    refine (AllReadyH.cons rfl (fun K hK => ?_) AllReadyH.nil)
    go_simp
    refine (AW _).mono ?_
    rintro e w4 ⟨rfl, hb4⟩
    have hI4 := HSX.out _ ((hS.2.2.2.2.2.2.2.2.2.2.2.2.2.2.2.2.2.2.2.2.2.2.2.2.2.2.2.2.1.out).on hb4) ((hS.2.2.2.2.2.2.2.2.2.2.2.2.2.2.2.2.2.2.2.2.2.2.2.2.2.2.2.2.2.out).trans (hb4.mono (hS.2.2.2.2.2.2.2.2.2.2.2.2.2.2.2.2.2.2.2.2.2.2.2.2.2.2.2.2.2.out).size))
    clear hb4
    go_wp2_with fail
    refine hK.out _ _ ?_ (fun hS' => ?_)
    · exact hI4
    clear hK K
    try simp only [Act.put, List.getElem_toArray, List.getElem_cons_zero, List.getElem_cons_succ, List.setIfInBounds_toArray, List.set_cons_zero, List.set_cons_succ]
    replace hS := hS'
    clear hS'
    refine wpAnyH_take (i := 17) (v := ?v17_78) rfl (by kernel_rfl) (by kernel_rfl) (by kernel_rfl) (fun _ _ _ h => h) (Or.inl ⟨by rfl, ?hy17_78⟩) (by assumption) ?rest17_78
    case hy17_78 => (intro w hSw; (try dsimp only at hSw); go_simp; try (with_reducible rfl))
    simp only [Act.put, List.getElem_toArray, List.getElem_cons_zero, List.getElem_cons_succ, List.setIfInBounds_toArray, List.set_cons_zero, List.set_cons_succ]
    refine wpAnyH_take (i := 18) (v := ?v18_79) rfl (by kernel_rfl) (by kernel_rfl) (by kernel_rfl) (fun _ _ _ h => h) (Or.inl ⟨by rfl, ?hy18_79⟩) (by assumption) ?rest18_79
    case hy18_79 => (intro w hSw; (try dsimp only at hSw); go_simp; try (with_reducible rfl))
    simp only [Act.put, List.getElem_toArray, List.getElem_cons_zero, List.getElem_cons_succ, List.setIfInBounds_toArray, List.set_cons_zero, List.set_cons_succ]
    refine wpAnyH_done (by kernel_rfl) ?_ _
    go_wp2_with fail
    go_ret
    exact ⟨rfl, (hS.2.2.2.2.2.2.2.2.2.2.2.2.2.2.2.2.2.2.2.2.2.2.2.2.2.2.2.2.1.out).two.below⟩
  · have d : (a.id != b.id) = true := by simpa using t
    have J := fun X (h : InB2 w a b X) => join2_no a b X (HA.out.below h.below) (HB.out.below h.below) HN.out.1 HN.out.2 t
    have AL := fun X => lalike_any zr zr X (zr_ok _) (zr_ok _)
    rw [decide_eq_true (show rk zr = rk zr from rfl)] at AL
    simp only [zr, List.length_nil] at AL
    have BL := fun X (hi : InB2 w a b X) => below_any a b X (HA.out.below hi.below) (HB.out.below hi.below)
    rw [show belK (rk a) (rk b) = false by rw [belK, decide_eq_false (show ¬ (rk a).id = (rk b).id from t)]; rfl] at BL
    clear t
    go_wp2_with fail
    refine (J _ HI1.out).mono ?_
    clear J
    rintro e w2 ⟨rfl, hb2⟩
    have HI2 := Hid.mk' (HI1.out.on hb2)
    have HI3 := Hid.mk' (HI2.out.on ((Below.refl _ _).alloc (Nat.le_refl _) (.cells #[.int .i64 0, .int .i64 0, .int .i64 0, .int .i64 0, .int .i64 0, .bool false, .slice none 0 0] 27)))
    obtain ⟨c0, c1, c2, c3, c4, c5, c6⟩ := box_cells HI2.out.ba
    obtain ⟨d0, d1, d2, d3, d4, d5, d6⟩ := box_cells HI2.out.bb
    have l0 := lt_of_cell c0
    have l1 := lt_of_cell d0
    clear hb2 HI1
    go_wp2_with fail
    refine (AL _).mono ?_
    clear AL c0 c1 c2 c3 c4 c5 c6 d0 d1 d2 d3 d4 d5 d6 l0 l1
    rintro e w3 ⟨rfl, hb3⟩
    have HI4 := Hid.mk' (HI3.out.on hb3)
    obtain ⟨c0, c1, c2, c3, c4, c5, c6⟩ := box_cells HI4.out.ba
    obtain ⟨d0, d1, d2, d3, d4, d5, d6⟩ := box_cells HI4.out.bb
    clear hb3 HI2 HI3
    go_wp2_with fail
    refine (BL _ HI4.out).mono ?_
    clear BL c0 c1 c2 c3 c4 c5 c6 d0 d1 d2 d3 d4 d5 d6
    rintro e w4 ⟨rfl, hb4⟩
    have HI5 := Hid.mk' (HI4.out.on hb4)
    clear hb4 HI4
    go_wp2_with fail
    refine (AW _).mono ?_
    rintro e w5 ⟨rfl, hb5⟩
    have HB5 := Hid.mk' (HI5.out.on hb5).below
    clear hb5
    go_wp2_with fail
    go_ret
    exact ⟨rfl, HB5.out⟩

theorem own : ownKnob Try.prog.godebug = none := by kernel_rfl
theorem laidOut : laidOutB Try.prog = true := by kernel_rfl

set_option maxRecDepth 100000 in
theorem lifted (os : Os) (started : os.Started) (H : Type) (enc : TypeId × Value → H) :
    ReturnsInHanded {} Try.checked os 4 .any (Rows.latticeJoinsSpec.pre6 enc Try.prog Try.f4 Rows.latticeJoinsRow.domain false) (Rows.latticeJoinsSpec.post enc Try.prog Try.f4 false true false false) := by
  refine returnsInHanded_of_change_sized (C := Try.checked) own started (by kernel_rfl) Try.func4
    (ChangeSpec.witness6 (enc := enc) (C := Try.checked) false ⟨#[], #[.agg #[.int .i64 0, .int .i64 0, .int .i64 0, .int .i64 0, .int .i64 0, .bool false, .slice none 0 0], .agg #[.int .i64 0, .int .i64 0, .int .i64 0, .int .i64 0, .int .i64 0, .bool false, .slice none 0 0]], []⟩ 8 (by kernel_rfl) (by kernel_rfl) (by kernel_rfl) (by kernel_rfl)) ?_
  intro W base args ds gs before hval0 hW hcnd hsz0 _
  have hz : ∀ (j : Nat) t d, Try.f4.params.toList[j]? = some t → ds[j]? = some d → ∀ n ∈ d.weights Try.prog t, n ≤ reachBytes := fun j t d ht hd n hn => by
    have := List.all_eq_true.1 hsz0 n (DataW.weights_mem_each (j := j) (t := t) (d := d) (by rw [List.getElem?_append_left (List.getElem?_eq_some_iff.1 ht).1]; exact ht) (by rw [List.getElem?_append_left (List.getElem?_eq_some_iff.1 hd).1]; exact hd) n hn)
    simpa using this
  have hval : ∀ (j : Nat) t v, Try.f4.params[j]? = some t → args[j]? = some v → Value.okWide Try.prog W .any base t v := hval0
  have hW' := hW
  obtain ⟨p, q, hA0, hV, rfl, hfz, hnd⟩ := hW
  have hA : DataW.TrodAll enc Try.prog W 0 (fun _ => true) true Try.f4.params.toList args.toList ds p := hA0
  rw [Try.params4] at hA hval hz
  obtain ⟨v0, vs0, d0, ds0, p0x, q0, hargs, rfl, rfl, h0, r0⟩ := trodAll_cons hA
  obtain ⟨v1, vs1, d1, ds1, p1x, q1, rfl, rfl, rfl, h1, r1⟩ := trodAll_cons r0
  obtain ⟨rfl, rfl, rfl⟩ := trodAll_nil r1
  obtain rfl : args = #[v0, v1] := by cases args; simp_all
  obtain ⟨rfl, rfl⟩ := trodVars_none hV
  obtain ⟨cs0, rfl, _⟩ := okWide_struct Try.underlying27 (hval 0 27 v0 rfl rfl)
  have k0 := h0
  have lt0 : ∀ x ∈ p0x, x.block < W.heap.size := by obtain ⟨m, hm⟩ := k0; exact DataW.trod_lt m _ _ _ hm
  obtain ⟨a0, rfl, w0⟩ : ∃ a : Rc, cs0 = #[.int .i64 a.id, .int .i64 a.inc, .int .i64 a.st, .int .i64 a.lo, .int .i64 a.hi, .bool a.cut, .slice a.p a.bag.length a.cap] ∧ ROk W a := by
    obtain ⟨fuel, hf⟩ := h0
    obtain ⟨a, hcs, h1⟩ := opensZ_rc _ _ _ hf (hz 0 27 d0 rfl rfl)
    exact ⟨a, by cases cs0; simpa [Value.cells, Rc.cells] using hcs, h1⟩
  obtain ⟨cs1, rfl, _⟩ := okWide_struct Try.underlying27 (hval 1 27 v1 rfl rfl)
  have k1 := h1
  have lt1 : ∀ x ∈ p1x, x.block < W.heap.size := by obtain ⟨m, hm⟩ := k1; exact DataW.trod_lt m _ _ _ hm
  obtain ⟨a1, rfl, w1⟩ : ∃ a : Rc, cs1 = #[.int .i64 a.id, .int .i64 a.inc, .int .i64 a.st, .int .i64 a.lo, .int .i64 a.hi, .bool a.cut, .slice a.p a.bag.length a.cap] ∧ ROk W a := by
    obtain ⟨fuel, hf⟩ := h1
    obtain ⟨a, hcs, h1⟩ := opensZ_rc _ _ _ hf (hz 1 27 d1 rfl rfl)
    exact ⟨a, by cases cs1; simpa [Value.cells, Rc.cells] using hcs, h1⟩
  clear hA0 hval0
  refine (walk a0 a1 W w0 w1).mono fun e W' ⟨he, bel⟩ => ?_
  subst he
  exact ⟨_, rfl, _, _, _, [], _, [], hW', trodAll_mk1 (shut_bool Try.underlying4 _), (trodAll_cons_mk (Below.trod laidOut (by kernel_rfl) (of_decide_eq_true (by kernel_rfl)) k0 bel lt0) (trodAll_cons_mk (Below.trod laidOut (by kernel_rfl) (of_decide_eq_true (by kernel_rfl)) k1 bel lt1) trodAll_mk0)), rfl, bel.frame _, fun h => by cases h⟩

theorem over : Rows.latticeJoinsRow.holds Try.pinned (OpenSpec.ofChange Rows.latticeJoinsSpec) :=
  OpenClaim.holds_of_wide 4 Try.f4 rfl rfl rfl rfl rfl rfl rfl ⟨rfl, rfl, rfl, rfl, rfl⟩ rfl rfl rfl rfl rfl (by kernel_rfl) Try.func4 (by kernel_rfl)
    (of_decide_eq_true (by kernel_rfl)) (by unfold Func.isWrapper; first | (rw [if_pos (by decide +kernel)]; kernel_rfl) | (rw [if_neg (by decide +kernel)]; exact ⟨rfl, rfl⟩))
    (fun os started H enc _ => lifted os started H enc)

/-- The given statement. -/
theorem proved : Rows.LatticeJoinsSaid := over
#print axioms proved
end Go.Proofs.Ytdfjjajkeieocaa.latticeJoins
