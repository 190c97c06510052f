/-
  The statements' own functions of stage 8: May, Alike, Few, AllAlike.
-/
import Derived.Test.YtecdagmeobiahabRecF
import Derived.Test.YtecdagmeobiahabLaw06
namespace Go.Proofs.Ytecdagmeobiahab
open Go.RowKit
set_option linter.unusedSimpArgs false
set_option linter.unusedVariables false
set_option maxRecDepth 10000
set_option synthInstance.maxSize 2000

theorem alike_iff (a b : Rc) : decide (rk a = rk b) = (decide (a.id = b.id) && decide (a.inc = b.inc) && decide (a.st = b.st) && decide (a.lo = b.lo) && decide (a.hi = b.hi) && decide (a.cut = b.cut) && decide (kys a.bag = kys b.bag)) := by
  rw [same_iff]; rfl

set_option maxHeartbeats 4000000 in
theorem lalike_any (a b : Rc) (w : World) (ha : ROk w a) (hb : ROk w b) : Calls Try.prog 10 #[.agg #[.int .i64 a.id, .int .i64 a.inc, .int .i64 a.st, .int .i64 a.lo, .int .i64 a.hi, .bool a.cut, .slice a.p a.bag.length a.cap], .agg #[.int .i64 b.id, .int .i64 b.inc, .int .i64 b.st, .int .i64 b.lo, .int .i64 b.hi, .bool b.cut, .slice b.p b.bag.length b.cap]] w fun e w' => e = .returned (.bool (decide (rk a = rk b))) ∧ Below w.heap.size w w' := by
  have HM := Hid.mk' (alike_iff a b)
  have HI := Hid.mk' (InB2.start w a b)
  have V := fun X (h : InB2 w a b X) => same_any a.p b.p a.cap b.cap a.bag b.bag X (ha.fin.below h.below) (hb.fin.below h.below) (Nat.le_trans ha.len ha.cap) (Nat.le_trans hb.len hb.cap)
  have q0 : (a.id == b.id) = decide (a.id = b.id) := rfl
  have q1 : (a.inc == b.inc) = decide (a.inc = b.inc) := rfl
  have q2 : (a.st == b.st) = decide (a.st = b.st) := rfl
  have q3 : (a.lo == b.lo) = decide (a.lo = b.lo) := rfl
  have q4 : (a.hi == b.hi) = decide (a.hi = b.hi) := rfl
  have q5 : (a.cut == b.cut) = decide (a.cut = b.cut) := by cases a.cut <;> cases b.cut <;> rfl
  generalize decide (rk a = rk b) = q at HM ⊢
  generalize decide (a.id = b.id) = b0 at HM q0
  generalize decide (a.inc = b.inc) = b1 at HM q1
  generalize decide (a.st = b.st) = b2 at HM q2
  generalize decide (a.lo = b.lo) = b3 at HM q3
  generalize decide (a.hi = b.hi) = b4 at HM q4
  generalize decide (a.cut = b.cut) = b5 at HM q5
  generalize decide (kys a.bag = kys b.bag) = b6 at HM V
  go_enter Try.func10, Try.ntmps10
  cases b0
  · go_wp2_with fail
    go_ret
    exact ⟨by rw [HM.out]; simp, HI.out.below⟩
  cases b1
  · go_wp2_with fail
    go_ret
    exact ⟨by rw [HM.out]; simp, HI.out.below⟩
  cases b2
  · go_wp2_with fail
    go_ret
    exact ⟨by rw [HM.out]; simp, HI.out.below⟩
  cases b3
  · go_wp2_with fail
    go_ret
    exact ⟨by rw [HM.out]; simp, HI.out.below⟩
  cases b4
  · go_wp2_with fail
    go_ret
    exact ⟨by rw [HM.out]; simp, HI.out.below⟩
  cases b5
  · go_wp2_with fail
    go_ret
    exact ⟨by rw [HM.out]; simp, HI.out.below⟩
  go_wp2_with fail
  refine (V _ HI.out).mono ?_
  rintro e w2 ⟨rfl, hb2⟩
  have HB2 := Hid.mk' (HI.out.on hb2).below
  clear hb2
  go_wp2_with fail
  go_ret
  exact ⟨by rw [HM.out]; simp, HB2.out⟩

set_option maxHeartbeats 4000000 in
theorem lmay_any (r : Rc) (w : World) (hr : ROk w r) (hz : szK (kys r.bag) ≤ 4611686018427387904) : Calls Try.prog 12 #[.agg #[.int .i64 r.id, .int .i64 r.inc, .int .i64 r.st, .int .i64 r.lo, .int .i64 r.hi, .bool r.cut, .slice r.p r.bag.length r.cap]] w fun e w' => e = .returned (.bool (mayR (rk r))) ∧ Below w.heap.size w w' := by
  have HM := Hid.mk' (show mayR (rk r) = (decide (0 ≤ r.id ∧ r.id ≤ 4095) && decide (0 ≤ r.inc ∧ r.inc ≤ 281474976710655) && decide (0 ≤ r.st ∧ r.st ≤ 3) && okS r.lo r.hi && mayK (kys r.bag) && !(r.cut && decide (0 < r.bag.length))) by rw [mayR, show (rk r).bag = kys r.bag from rfl, kys_len]; rfl)
  have HI := Hid.mk' (InB.start w r)
  have V := fun X (h : InB w r X) => valid_any r.p r.cap r.bag X (hr.fin.below h.below) (Nat.le_trans hr.len hr.cap) hz
  have W4 := fun X => okS_any r.lo r.hi X
  generalize mayR (rk r) = q at HM ⊢
  by_cases t0 : r.id < 0
  · obtain rfl : q = false := by rw [HM.out]; simp; omega
    go_enter Try.func12, Try.ntmps12
    go_wp2_with fail
    go_ret
    exact ⟨rfl, HI.out.below⟩
  by_cases t1 : 4095 < r.id
  · obtain rfl : q = false := by rw [HM.out]; simp; omega
    go_enter Try.func12, Try.ntmps12
    go_wp2_with fail
    go_ret
    exact ⟨rfl, HI.out.below⟩
  by_cases t2 : r.inc < 0
  · obtain rfl : q = false := by rw [HM.out]; simp; omega
    go_enter Try.func12, Try.ntmps12
    go_wp2_with fail
    go_ret
    exact ⟨rfl, HI.out.below⟩
  by_cases t3 : 281474976710655 < r.inc
  · obtain rfl : q = false := by rw [HM.out]; simp; omega
    go_enter Try.func12, Try.ntmps12
    go_wp2_with fail
    go_ret
    exact ⟨rfl, HI.out.below⟩
  by_cases t4 : r.st < 0
  · obtain rfl : q = false := by rw [HM.out]; simp; omega
    go_enter Try.func12, Try.ntmps12
    go_wp2_with fail
    go_ret
    exact ⟨rfl, HI.out.below⟩
  by_cases t5 : 3 < r.st
  · obtain rfl : q = false := by rw [HM.out]; simp; omega
    go_enter Try.func12, Try.ntmps12
    go_wp2_with fail
    go_ret
    exact ⟨rfl, HI.out.below⟩
  have HV := Hid.mk' (show q = (okS r.lo r.hi && mayK (kys r.bag) && !(r.cut && decide (0 < r.bag.length))) by
    rw [HM.out, decide_eq_true (show 0 ≤ r.id ∧ r.id ≤ 4095 by omega), decide_eq_true (show 0 ≤ r.inc ∧ r.inc ≤ 281474976710655 by omega), decide_eq_true (show 0 ≤ r.st ∧ r.st ≤ 3 by omega)]; simp)
  clear HM
  generalize okS r.lo r.hi = b1 at HV W4
  generalize mayK (kys r.bag) = b2 at HV V
  obtain ⟨cu, hcu⟩ : ∃ cu, r.cut = cu := ⟨_, rfl⟩
  rw [hcu] at HV
  have HC := Hid.mk' hcu
  clear hcu
  go_enter Try.func12, Try.ntmps12
  go_wp2_with fail
  refine (W4 _).mono ?_
  rintro e w1 ⟨rfl, rfl⟩
  cases b1
  · go_wp2_with fail
    go_ret
    exact ⟨by rw [HV.out]; simp, HI.out.below.alloc HI.out.below.size _⟩
  have HI1 := Hid.mk' (HI.out.on ((Below.refl _ _).alloc (Nat.le_refl _) (.cells #[.int .i64 r.lo, .int .i64 r.hi] 23)))
  go_wp2_with fail
  refine (V _ HI1.out).mono ?_
  rintro e w2 ⟨rfl, hb2⟩
  have HI2 := Hid.mk' (HI1.out.on hb2)
  clear HI1 hb2 V
  cases b2
  · go_wp2_with fail
    go_ret
    exact ⟨by rw [HV.out]; simp, HI2.out.below⟩
  obtain ⟨c0, c1, c2, c3, c4, c5, c6⟩ := box_cells HI2.out.box
  rw [HC.out] at c5
  cases cu
  · go_wp2_with fail
    go_ret
    exact ⟨by rw [HV.out]; simp, HI2.out.below⟩
  by_cases t6 : r.bag.length = 0
  · have d6 : ((r.bag.length : Int) == 0) = true := by simp [t6]
    have HW := Hid.mk' (show q = true by rw [HV.out]; simp [t6])
    clear t6
    go_wp2_with fail
    go_ret
    exact ⟨by rw [HW.out]; rfl, HI2.out.below⟩
  · have d6 : ((r.bag.length : Int) == 0) = false := by simpa using t6
    have HW := Hid.mk' (show q = false by rw [HV.out]; simp; omega)
    clear t6
    go_wp2_with fail
    go_ret
    exact ⟨by rw [HW.out]; rfl, HI2.out.below⟩

def fewR (l : List RK) : Bool := decide (l.length ≤ 20) && l.all fun r => fewK r.bag
theorem fewR_yes {l : List Rc} (h : fewR (rks l) = true) : l.length ≤ 20 ∧ ∀ r ∈ l, r.bag.length ≤ 40 ∧ szK (kys r.bag) ≤ 5000 := by
  simp only [fewR, rks_len, Bool.and_eq_true, decide_eq_true_eq, List.all_eq_true] at h
  exact ⟨h.1, fun r hr => few_yes (h.2 (rk r) (by simp only [rks, List.mem_map]; exact ⟨r, hr, rfl⟩))⟩

set_option maxHeartbeats 1600000 in
theorem lfew_any (p : Option Addr) (c : Nat) (l : List Rc) (w : World) (hp : RIn w p l) (hn : l.length ≤ maxLen) :
    Calls Try.prog 6 #[.slice p l.length c] w fun e w' => e = .returned (.bool (fewR (rks l))) ∧ w = w' := by
  have HF := Hid.mk' (show fewR (rks l) = (decide (l.length ≤ 20) && (rks l).all fun r => fewK r.bag) by rw [fewR, rks_len])
  simp only [maxLen] at hn
  generalize fewR (rks l) = r at HF ⊢
  go_enter Try.func6, Try.ntmps6
  by_cases t0 : l.length ≤ 20
  · go_wp2
    go_loop [3] (fun i => ∃ k : Nat, k ≤ l.length ∧ i = .int .i64 k ∧ Hid (r = (rks (l.drop k)).all fun r => fewK r.bag)) (fun i => l.length - (intOf i).toNat)
    case atStart => exact ⟨0, by omega, rfl, Hid.mk' (by rw [HF.out, decide_eq_true t0]; simp)⟩
    case round =>
      obtain ⟨k, hk, rfl, HR⟩ := hrel
      by_cases t : k < l.length
      · obtain ⟨b, o, rfl, hc⟩ := hp.at (by omega)
        obtain ⟨hx, hok⟩ := hc k t
        obtain ⟨e0, e1, e2, e3, e4, e5, e6⟩ := hx
        have HR' := Hid.mk' (show r = (fewK (kys (l.getD k zr).bag) && (rks (l.drop (k + 1))).all fun r => fewK r.bag) by rw [HR.out, rdrop_next l k t]; simp [rks, rk])
        generalize l.getD k zr = y at HR' e0 e1 e2 e3 e4 e5 e6 hok
        have F := few_any y.p y.cap y.bag w hok.fin (Nat.le_trans hok.len hok.cap)
        generalize fewK (kys y.bag) = fb at HR' F
        clear hc hok e0 e1 e2 e3 e4 e5
        go_wp2_with fail
        refine F.mono ?_
        rintro e w1 ⟨rfl, rfl⟩
        cases fb
        · obtain rfl : r = false := by rw [HR'.out]; simp
          go_wp2_with fail
          try rw [Exit.noGoto_ret]
          go_ret
          exact ⟨rfl, rfl⟩
        · go_wp2_with fail
          go_round
          case rel => exact ⟨k + 1, by omega, by go_num, Hid.mk' (by rw [HR'.out]; simp)⟩
          case measure => simp [intOf]; omega
      · obtain rfl : k = l.length := by omega
        obtain rfl : r = true := by rw [HR.out]; simp [rks]
        go_wp2
        go_ret
        exact ⟨rfl, rfl⟩
  · obtain rfl : r = false := by rw [HF.out]; simp [t0]
    go_wp2
    go_ret
    exact ⟨rfl, rfl⟩


end Go.Proofs.Ytecdagmeobiahab
