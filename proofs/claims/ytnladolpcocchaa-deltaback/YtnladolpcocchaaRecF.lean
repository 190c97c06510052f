/-
  Package rec, record by record: within, hasBag, coreMayBe, Valid, Akin, Same, Core, Bare.
-/
import Derived.Test.YtnladolpcocchaaRecM
namespace Go.Proofs.Ytnladolpcocchaa
open Go.RowKit
set_option linter.unusedSimpArgs false
set_option linter.unusedVariables false
set_option maxRecDepth 10000
set_option synthInstance.maxSize 2000

set_option maxHeartbeats 800000 in
theorem within_any (n m : Int) (w : World) : Calls Try.prog 42 #[.int .i64 n, .int .i64 m] w fun e w' => e = .returned (.bool (decide (0 ≤ n ∧ n ≤ m))) ∧ w = w' := by
  by_cases t1 : 0 ≤ n
  · by_cases t2 : n ≤ m
    · go_enter Try.func42, Try.ntmps42
      go_wp2
      go_ret
      exact ⟨by simp [t1, t2], rfl⟩
    · go_enter Try.func42, Try.ntmps42
      go_wp2
      go_ret
      exact ⟨by simp [t1, t2] <;> omega, rfl⟩
  · go_enter Try.func42, Try.ntmps42
    go_wp2
    go_ret
    exact ⟨by simp; intro; omega, rfl⟩

/-- A record that was laid for a call. -/
structure InB (w : World) (r : Rc) (X : World) : Prop where
  below : Below w.heap.size w X
  box : X.heap[w.heap.size]? = some (.cells #[.int .i64 r.id, .int .i64 r.inc, .int .i64 r.st, .int .i64 r.lo, .int .i64 r.hi, .bool r.cut, .slice r.p r.bag.length r.cap] 34 (0, 0))

theorem InB.start (w : World) (r : Rc) : InB w r (w.alloc (.cells #[.int .i64 r.id, .int .i64 r.inc, .int .i64 r.st, .int .i64 r.lo, .int .i64 r.hi, .bool r.cut, .slice r.p r.bag.length r.cap] 34)) := ⟨(Below.refl _ _).alloc (Nat.le_refl _) _, heap_alloc_new _ _⟩
theorem InB.on {w X X' : World} {r : Rc} (h : InB w r X) (k : Below X.heap.size X X') : InB w r X' :=
  ⟨h.below.trans (k.mono h.below.size), by rw [k.block _ (Array.getElem?_eq_some_iff.1 h.box).1]; exact h.box⟩

/-- The cells of a block that is a record. -/
theorem box_cells {X : World} {b : Nat} {r : Rc} {t : TypeId} (h : X.heap[b]? = some (.cells #[.int .i64 r.id, .int .i64 r.inc, .int .i64 r.st, .int .i64 r.lo, .int .i64 r.hi, .bool r.cut, .slice r.p r.bag.length r.cap] t (0, 0))) :
    X.cell? ⟨b, 0, none⟩ = some (.int .i64 r.id) ∧ X.cell? ⟨b, 1, none⟩ = some (.int .i64 r.inc) ∧ X.cell? ⟨b, 2, none⟩ = some (.int .i64 r.st) ∧ X.cell? ⟨b, 3, none⟩ = some (.int .i64 r.lo) ∧
    X.cell? ⟨b, 4, none⟩ = some (.int .i64 r.hi) ∧ X.cell? ⟨b, 5, none⟩ = some (.bool r.cut) ∧ X.cell? ⟨b, 6, none⟩ = some (.slice r.p r.bag.length r.cap) := by
  simp [World.cell?, h]
theorem box_frozen {X : World} {b : Nat} {cs : Array Value} {t : TypeId} (h : X.heap[b]? = some (.cells cs t (0, 0))) :
    X.frozen? ⟨b, 0, none⟩ = false ∧ X.frozen? ⟨b, 1, none⟩ = false ∧ X.frozen? ⟨b, 2, none⟩ = false ∧ X.frozen? ⟨b, 3, none⟩ = false ∧ X.frozen? ⟨b, 4, none⟩ = false ∧ X.frozen? ⟨b, 5, none⟩ = false ∧ X.frozen? ⟨b, 6, none⟩ = false := by
  simp [World.frozen?, h]

set_option maxHeartbeats 800000 in
theorem hasBag_any (r : Rc) (w : World) : Calls Try.prog 35 #[.agg #[.int .i64 r.id, .int .i64 r.inc, .int .i64 r.st, .int .i64 r.lo, .int .i64 r.hi, .bool r.cut, .slice r.p r.bag.length r.cap]] w fun e w' => e = .returned (.bool (decide (0 < r.bag.length))) ∧ Below w.heap.size w w' := by
  have HB := Hid.mk' (InB.start w r).below
  by_cases t : 0 < r.bag.length
  · go_enter Try.func35, Try.ntmps35
    go_wp2
    go_ret
    exact ⟨by simp [t], HB.out⟩
  · go_enter Try.func35, Try.ntmps35
    go_wp2
    go_ret
    exact ⟨by simp [t], HB.out⟩

set_option maxHeartbeats 1600000 in
theorem coreMay_any (r : Rc) (w : World) : Calls Try.prog 33 #[.agg #[.int .i64 r.id, .int .i64 r.inc, .int .i64 r.st, .int .i64 r.lo, .int .i64 r.hi, .bool r.cut, .slice r.p r.bag.length r.cap]] w fun e w' => e = .returned (.bool (coreOk (rk r))) ∧ Below w.heap.size w w' := by
  have HM := Hid.mk' (show coreOk (rk r) = (decide (0 ≤ r.id ∧ r.id ≤ 4095) && decide (0 ≤ r.inc ∧ r.inc ≤ 281474976710655) && decide (0 ≤ r.st ∧ r.st ≤ 3) && okS r.lo r.hi) from rfl)
  have HB := Hid.mk' (InB.start w r).below
  have W1 := fun X => within_any r.id 4095 X
  have W2 := fun X => within_any r.inc 281474976710655 X
  have W3 := fun X => within_any r.st 3 X
  have W4 := fun X => okS_any r.lo r.hi X
  generalize coreOk (rk r) = q at HM ⊢
  generalize decide (0 ≤ r.id ∧ r.id ≤ 4095) = b1 at HM W1
  generalize decide (0 ≤ r.inc ∧ r.inc ≤ 281474976710655) = b2 at HM W2
  generalize decide (0 ≤ r.st ∧ r.st ≤ 3) = b3 at HM W3
  generalize okS r.lo r.hi = b4 at HM W4
  go_enter Try.func33, Try.ntmps33
  go_wp2_with fail
  refine (W1 _).mono ?_
  rintro e w1 ⟨rfl, rfl⟩
  cases b1
  · go_wp2_with fail
    go_ret
    exact ⟨by rw [HM.out]; simp, HB.out⟩
  go_wp2_with fail
  refine (W2 _).mono ?_
  rintro e w1 ⟨rfl, rfl⟩
  cases b2
  · go_wp2_with fail
    go_ret
    exact ⟨by rw [HM.out]; simp, HB.out⟩
  go_wp2_with fail
  refine (W3 _).mono ?_
  rintro e w1 ⟨rfl, rfl⟩
  cases b3
  · go_wp2_with fail
    go_ret
    exact ⟨by rw [HM.out]; simp, HB.out⟩
  go_wp2_with fail
  refine (W4 _).mono ?_
  rintro e w1 ⟨rfl, rfl⟩
  go_wp2_with fail
  go_ret
  exact ⟨by rw [HM.out]; simp, HB.out.alloc HB.out.size _⟩

set_option maxHeartbeats 1600000 in
theorem rvalid_any (r : Rc) (w : World) (hr : ROk w r) (hz : szK (kys r.bag) ≤ 4611686018427387904) : Calls Try.prog 22 #[.agg #[.int .i64 r.id, .int .i64 r.inc, .int .i64 r.st, .int .i64 r.lo, .int .i64 r.hi, .bool r.cut, .slice r.p r.bag.length r.cap]] w fun e w' => e = .returned (.bool (mayR (rk r))) ∧ Below w.heap.size w w' := by
  have HM := Hid.mk' (show mayR (rk r) = (coreOk (rk r) && mayK (kys r.bag) && !(r.cut && decide (0 < r.bag.length))) by rw [mayR, show (rk r).bag = kys r.bag from rfl, kys_len]; rfl)
  have HI := Hid.mk' (InB.start w r)
  have C := fun X => coreMay_any r X
  have V := fun X (h : InB w r X) => valid_any r.p r.cap r.bag X (hr.fin.below h.below) (Nat.le_trans hr.len hr.cap) hz
  have B := fun X => hasBag_any r X
  generalize mayR (rk r) = q at HM ⊢
  generalize coreOk (rk r) = b1 at HM C
  generalize mayK (kys r.bag) = b2 at HM V
  generalize decide (0 < r.bag.length) = b3 at HM B
  obtain ⟨cu, hcu⟩ : ∃ cu, r.cut = cu := ⟨_, rfl⟩
  rw [hcu] at HM
  have HC := Hid.mk' hcu
  clear hcu
  go_enter Try.func22, Try.ntmps22
  go_wp2_with fail
  refine (C _).mono ?_
  rintro e w1 ⟨rfl, hb1⟩
  have HI1 := Hid.mk' (HI.out.on hb1)
  clear HI hb1 C
  cases b1
  · go_wp2_with fail
    go_ret
    exact ⟨by rw [HM.out]; simp, HI1.out.below⟩
  obtain ⟨_, _, _, _, _, _, c6⟩ := box_cells HI1.out.box
  go_wp2_with fail
  refine (V _ HI1.out).mono ?_
  rintro e w2 ⟨rfl, hb2⟩
  have HI2 := Hid.mk' (HI1.out.on hb2)
  clear HI1 hb2 V c6
  cases b2
  · go_wp2_with fail
    go_ret
    exact ⟨by rw [HM.out]; simp, HI2.out.below⟩
  obtain ⟨c0, c1, c2, c3, c4, c5, c6⟩ := box_cells HI2.out.box
  rw [HC.out] at c5 B
  cases cu
  · go_wp2_with fail
    go_ret
    exact ⟨by rw [HM.out]; simp, HI2.out.below⟩
  go_wp2_with fail
  refine (B _).mono ?_
  rintro e w3 ⟨rfl, hb3⟩
  have HI3 := Hid.mk' (HI2.out.on hb3)
  clear HI2 hb3 B c0 c1 c2 c3 c4 c5 c6
  go_wp2_with fail
  go_ret
  exact ⟨by rw [HM.out]; simp, HI3.out.below⟩

/-- Two records that were laid for a call. -/
structure InB2 (w : World) (a b : Rc) (X : World) : Prop where
  below : Below w.heap.size w X
  ba : X.heap[w.heap.size]? = some (.cells #[.int .i64 a.id, .int .i64 a.inc, .int .i64 a.st, .int .i64 a.lo, .int .i64 a.hi, .bool a.cut, .slice a.p a.bag.length a.cap] 34 (0, 0))
  bb : X.heap[w.heap.size + 1]? = some (.cells #[.int .i64 b.id, .int .i64 b.inc, .int .i64 b.st, .int .i64 b.lo, .int .i64 b.hi, .bool b.cut, .slice b.p b.bag.length b.cap] 34 (0, 0))

theorem InB2.start (w : World) (a b : Rc) : InB2 w a b ((w.alloc (.cells #[.int .i64 a.id, .int .i64 a.inc, .int .i64 a.st, .int .i64 a.lo, .int .i64 a.hi, .bool a.cut, .slice a.p a.bag.length a.cap] 34)).alloc (.cells #[.int .i64 b.id, .int .i64 b.inc, .int .i64 b.st, .int .i64 b.lo, .int .i64 b.hi, .bool b.cut, .slice b.p b.bag.length b.cap] 34)) := by
  refine ⟨((Below.refl _ _).alloc (Nat.le_refl _) _).alloc (by simp) _, (heap_alloc_old _ _ (by simp)).trans (heap_alloc_new _ _), ?_⟩
  have := heap_alloc_new (w.alloc (.cells #[.int .i64 a.id, .int .i64 a.inc, .int .i64 a.st, .int .i64 a.lo, .int .i64 a.hi, .bool a.cut, .slice a.p a.bag.length a.cap] 34)) (.cells #[.int .i64 b.id, .int .i64 b.inc, .int .i64 b.st, .int .i64 b.lo, .int .i64 b.hi, .bool b.cut, .slice b.p b.bag.length b.cap] 34)
  rw [show (w.alloc (.cells #[.int .i64 a.id, .int .i64 a.inc, .int .i64 a.st, .int .i64 a.lo, .int .i64 a.hi, .bool a.cut, .slice a.p a.bag.length a.cap] 34)).heap.size = w.heap.size + 1 by simp] at this
  exact this
theorem InB2.on {w X X' : World} {a b : Rc} (h : InB2 w a b X) (k : Below X.heap.size X X') : InB2 w a b X' :=
  ⟨h.below.trans (k.mono h.below.size), by rw [k.block _ (Array.getElem?_eq_some_iff.1 h.ba).1]; exact h.ba, by rw [k.block _ (Array.getElem?_eq_some_iff.1 h.bb).1]; exact h.bb⟩

def akinK (a b : Rc) : Bool := decide (a.id = b.id) && decide (a.inc = b.inc) && decide (a.st = b.st) && decide (a.lo = b.lo) && decide (a.hi = b.hi)

set_option maxHeartbeats 1600000 in
theorem akin_any (a b : Rc) (w : World) : Calls Try.prog 49 #[.agg #[.int .i64 a.id, .int .i64 a.inc, .int .i64 a.st, .int .i64 a.lo, .int .i64 a.hi, .bool a.cut, .slice a.p a.bag.length a.cap], .agg #[.int .i64 b.id, .int .i64 b.inc, .int .i64 b.st, .int .i64 b.lo, .int .i64 b.hi, .bool b.cut, .slice b.p b.bag.length b.cap]] w fun e w' => e = .returned (.bool (akinK a b)) ∧ Below w.heap.size w w' := by
  have HM := Hid.mk' (show akinK a b = (decide (a.id = b.id) && decide (a.inc = b.inc) && decide (a.st = b.st) && decide (a.lo = b.lo) && decide (a.hi = b.hi)) from rfl)
  have HB := Hid.mk' (InB2.start w a b).below
  have q0 : (a.id == b.id) = decide (a.id = b.id) := rfl
  have q1 : (a.inc == b.inc) = decide (a.inc = b.inc) := rfl
  have q2 : (a.st == b.st) = decide (a.st = b.st) := rfl
  have q3 : (a.lo == b.lo) = decide (a.lo = b.lo) := rfl
  have q4 : (a.hi == b.hi) = decide (a.hi = b.hi) := rfl
  generalize akinK a b = q at HM ⊢
  generalize decide (a.id = b.id) = b0 at HM q0
  generalize decide (a.inc = b.inc) = b1 at HM q1
  generalize decide (a.st = b.st) = b2 at HM q2
  generalize decide (a.lo = b.lo) = b3 at HM q3
  generalize decide (a.hi = b.hi) = b4 at HM q4
  go_enter Try.func49, Try.ntmps49
  cases b0
  · go_wp2_with fail
    go_ret
    exact ⟨by rw [HM.out]; simp, HB.out⟩
  cases b1
  · go_wp2_with fail
    go_ret
    exact ⟨by rw [HM.out]; simp, HB.out⟩
  cases b2
  · go_wp2_with fail
    go_ret
    exact ⟨by rw [HM.out]; simp, HB.out⟩
  cases b3
  · go_wp2_with fail
    go_ret
    exact ⟨by rw [HM.out]; simp, HB.out⟩
  cases b4
  · go_wp2_with fail
    go_ret
    exact ⟨by rw [HM.out]; simp, HB.out⟩
  go_wp2_with fail
  go_ret
  exact ⟨by rw [HM.out]; simp, HB.out⟩

theorem same_iff (a b : Rc) : decide (rk a = rk b) = (akinK a b && decide (a.cut = b.cut) && decide (kys a.bag = kys b.bag)) := by
  rw [Bool.eq_iff_iff]
  simp only [decide_eq_true_eq, rk_eq, akinK, Bool.and_eq_true]
  constructor <;> intro h <;> simp_all

set_option maxHeartbeats 1600000 in
theorem rsame_any (a b : Rc) (w : World) (ha : ROk w a) (hb : ROk w b) : Calls Try.prog 41 #[.agg #[.int .i64 a.id, .int .i64 a.inc, .int .i64 a.st, .int .i64 a.lo, .int .i64 a.hi, .bool a.cut, .slice a.p a.bag.length a.cap], .agg #[.int .i64 b.id, .int .i64 b.inc, .int .i64 b.st, .int .i64 b.lo, .int .i64 b.hi, .bool b.cut, .slice b.p b.bag.length b.cap]] w fun e w' => e = .returned (.bool (decide (rk a = rk b))) ∧ Below w.heap.size w w' := by
  have HM := Hid.mk' (same_iff a b)
  have HI := Hid.mk' (InB2.start w a b)
  have C := fun X => akin_any a b X
  have V := fun X (h : InB2 w a b X) => same_any a.p b.p a.cap b.cap a.bag b.bag X (ha.fin.below h.below) (hb.fin.below h.below) (Nat.le_trans ha.len ha.cap) (Nat.le_trans hb.len hb.cap)
  generalize decide (rk a = rk b) = q at HM ⊢
  generalize akinK a b = b1 at HM C
  generalize decide (kys a.bag = kys b.bag) = b3 at HM V
  have q2 : (a.cut == b.cut) = decide (a.cut = b.cut) := by cases a.cut <;> cases b.cut <;> rfl
  generalize decide (a.cut = b.cut) = b2 at HM q2
  go_enter Try.func41, Try.ntmps41
  go_wp2_with fail
  refine (C _).mono ?_
  rintro e w1 ⟨rfl, hb1⟩
  have HI1 := Hid.mk' (HI.out.on hb1)
  clear HI hb1 C
  cases b1
  · go_wp2_with fail
    go_ret
    exact ⟨by rw [HM.out]; simp, HI1.out.below⟩
  obtain ⟨_, _, _, _, _, c5, c6⟩ := box_cells HI1.out.ba
  obtain ⟨_, _, _, _, _, d5, d6⟩ := box_cells HI1.out.bb
  cases b2
  · go_wp2_with fail
    go_ret
    exact ⟨by rw [HM.out]; simp, HI1.out.below⟩
  go_wp2_with fail
  refine (V _ HI1.out).mono ?_
  rintro e w2 ⟨rfl, hb2⟩
  have HI2 := Hid.mk' (HI1.out.on hb2)
  clear HI1 hb2 V
  go_wp2_with fail
  go_ret
  exact ⟨by rw [HM.out]; simp, HI2.out.below⟩


/-- A record whose bag is lost. -/
def bareR (r : Rc) : Rc := ⟨r.id, r.inc, r.st, r.lo, r.hi, r.cut || decide (0 < r.bag.length), none, 0, []⟩
def coreR (r : Rc) : Rc := ⟨r.id, r.inc, r.st, r.lo, r.hi, false, none, 0, []⟩
theorem bareR_ok {w w' : World} {r : Rc} (h : ROk w r) : ROk w' (bareR r) := ⟨h.id, h.inc, h.st, h.lo, h.hi, Nat.le_refl _, by simp [bareR, maxLen], fun _ => rfl, FIn.empty _ _, by simp [bareR]⟩
theorem coreR_ok {w w' : World} {r : Rc} (h : ROk w r) : ROk w' (coreR r) := ⟨h.id, h.inc, h.st, h.lo, h.hi, Nat.le_refl _, by simp [coreR, maxLen], fun _ => rfl, FIn.empty _ _, by simp [coreR]⟩

end Go.Proofs.Ytnladolpcocchaa
