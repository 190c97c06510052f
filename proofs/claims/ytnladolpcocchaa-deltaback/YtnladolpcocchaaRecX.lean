/-
  The statements' own functions of stage 8: May, Alike, Few, AllAlike.
-/
import Derived.Test.YtnladolpcocchaaRecF
import Derived.Test.YtnladolpcocchaaLaw06
namespace Go.Proofs.Ytnladolpcocchaa
open Go.RowKit
set_option linter.unusedSimpArgs false
set_option linter.unusedVariables false
set_option maxRecDepth 10000
set_option synthInstance.maxSize 2000

theorem alike_iff (a b : Rc) : decide (rk a = rk b) = (decide (a.id = b.id) && decide (a.inc = b.inc) && decide (a.st = b.st) && decide (a.lo = b.lo) && decide (a.hi = b.hi) && decide (a.cut = b.cut) && decide (kys a.bag = kys b.bag)) := by
  rw [same_iff]; rfl

set_option maxHeartbeats 4000000 in
theorem lalike_any (a b : Rc) (w : World) (ha : ROk w a) (hb : ROk w b) : Calls Try.prog 12 #[.agg #[.int .i64 a.id, .int .i64 a.inc, .int .i64 a.st, .int .i64 a.lo, .int .i64 a.hi, .bool a.cut, .slice a.p a.bag.length a.cap], .agg #[.int .i64 b.id, .int .i64 b.inc, .int .i64 b.st, .int .i64 b.lo, .int .i64 b.hi, .bool b.cut, .slice b.p b.bag.length b.cap]] w fun e w' => e = .returned (.bool (decide (rk a = rk b))) ∧ Below w.heap.size w w' := by
  have HM := Hid.mk' (alike_iff a b)
  have HI := Hid.mk' (InB2.start w a b)
  have V := fun X (h : InB2 w a b X) => same_any a.p b.p a.cap b.cap a.bag b.bag X (ha.fin.below h.below) (hb.fin.below h.below) (Nat.le_trans ha.len ha.cap) (Nat.le_trans hb.len hb.cap)
  have q0 : (a.id == b.id) = decide (a.id = b.id) := rfl
  have q1 : (a.inc == b.inc) = decide (a.inc = b.inc) := rfl
  have q2 : (a.st == b.st) = decide (a.st = b.st) := rfl
  have q3 : (a.lo == b.lo) = decide (a.lo = b.lo) := rfl
  have q4 : (a.hi == b.hi) = decide (a.hi = b.hi) := rfl
  have q5 : (a.cut == b.cut) = decide (a.cut = b.cut) := by cases a.cut <;> cases b.cut <;> rfl
  generalize decide (rk a = rk b) = q at HM ⊢
  generalize decide (a.id = b.id) = b0 at HM q0
  generalize decide (a.inc = b.inc) = b1 at HM q1
  generalize decide (a.st = b.st) = b2 at HM q2
  generalize decide (a.lo = b.lo) = b3 at HM q3
  generalize decide (a.hi = b.hi) = b4 at HM q4
  generalize decide (a.cut = b.cut) = b5 at HM q5
  generalize decide (kys a.bag = kys b.bag) = b6 at HM V
  go_enter Try.func12, Try.ntmps12
  cases b0
  · go_wp2_with fail
    go_ret
    exact ⟨by rw [HM.out]; simp, HI.out.below⟩
  cases b1
  · go_wp2_with fail
    go_ret
    exact ⟨by rw [HM.out]; simp, HI.out.below⟩
  cases b2
  · go_wp2_with fail
    go_ret
    exact ⟨by rw [HM.out]; simp, HI.out.below⟩
  cases b3
  · go_wp2_with fail
    go_ret
    exact ⟨by rw [HM.out]; simp, HI.out.below⟩
  cases b4
  · go_wp2_with fail
    go_ret
    exact ⟨by rw [HM.out]; simp, HI.out.below⟩
  cases b5
  · go_wp2_with fail
    go_ret
    exact ⟨by rw [HM.out]; simp, HI.out.below⟩
  go_wp2_with fail
  refine (V _ HI.out).mono ?_
  rintro e w2 ⟨rfl, hb2⟩
  have HB2 := Hid.mk' (HI.out.on hb2).below
  clear hb2
  go_wp2_with fail
  go_ret
  exact ⟨by rw [HM.out]; simp, HB2.out⟩


def fewR (l : List RK) : Bool := decide (l.length ≤ 20) && l.all fun r => fewK r.bag
theorem fewR_yes {l : List Rc} (h : fewR (rks l) = true) : l.length ≤ 20 ∧ ∀ r ∈ l, r.bag.length ≤ 40 ∧ szK (kys r.bag) ≤ 5000 := by
  simp only [fewR, rks_len, Bool.and_eq_true, decide_eq_true_eq, List.all_eq_true] at h
  exact ⟨h.1, fun r hr => few_yes (h.2 (rk r) (by simp only [rks, List.mem_map]; exact ⟨r, hr, rfl⟩))⟩

set_option maxHeartbeats 1600000 in
theorem lfew_any (p : Option Addr) (c : Nat) (l : List Rc) (w : World) (hp : RIn w p l) (hn : l.length ≤ maxLen) :
    Calls Try.prog 6 #[.slice p l.length c] w fun e w' => e = .returned (.bool (fewR (rks l))) ∧ w = w' := by
  have HF := Hid.mk' (show fewR (rks l) = (decide (l.length ≤ 20) && (rks l).all fun r => fewK r.bag) by rw [fewR, rks_len])
  simp only [maxLen] at hn
  generalize fewR (rks l) = r at HF ⊢
  go_enter Try.func6, Try.ntmps6
  by_cases t0 : l.length ≤ 20
  · go_wp2
    go_loop [3] (fun i => ∃ k : Nat, k ≤ l.length ∧ i = .int .i64 k ∧ Hid (r = (rks (l.drop k)).all fun r => fewK r.bag)) (fun i => l.length - (intOf i).toNat)
    case atStart => exact ⟨0, by omega, rfl, Hid.mk' (by rw [HF.out, decide_eq_true t0]; simp)⟩
    case round =>
      obtain ⟨k, hk, rfl, HR⟩ := hrel
      by_cases t : k < l.length
      · obtain ⟨b, o, rfl, hc⟩ := hp.at (by omega)
        obtain ⟨hx, hok⟩ := hc k t
        obtain ⟨e0, e1, e2, e3, e4, e5, e6⟩ := hx
        have HR' := Hid.mk' (show r = (fewK (kys (l.getD k zr).bag) && (rks (l.drop (k + 1))).all fun r => fewK r.bag) by rw [HR.out, rdrop_next l k t]; simp [rks, rk])
        generalize l.getD k zr = y at HR' e0 e1 e2 e3 e4 e5 e6 hok
        have F := few_any y.p y.cap y.bag w hok.fin (Nat.le_trans hok.len hok.cap)
        generalize fewK (kys y.bag) = fb at HR' F
        clear hc hok e0 e1 e2 e3 e4 e5
        go_wp2_with fail
        refine F.mono ?_
        rintro e w1 ⟨rfl, rfl⟩
        cases fb
        · obtain rfl : r = false := by rw [HR'.out]; simp
          go_wp2_with fail
          try rw [Exit.noGoto_ret]
          go_ret
          exact ⟨rfl, rfl⟩
        · go_wp2_with fail
          go_round
          case rel => exact ⟨k + 1, by omega, by go_num, Hid.mk' (by rw [HR'.out]; simp)⟩
          case measure => simp [intOf]; omega
      · obtain rfl : k = l.length := by omega
        obtain rfl : r = true := by rw [HR.out]; simp [rks]
        go_wp2
        go_ret
        exact ⟨rfl, rfl⟩
  · obtain rfl : r = false := by rw [HF.out]; simp [t0]
    go_wp2
    go_ret
    exact ⟨rfl, rfl⟩

set_option maxHeartbeats 4000000 in
theorem allAlike_any (p q : Option Addr) (c d : Nat) (a b : List Rc) (w : World) (hp : RIn w p a) (hq : RIn w q b) (hn : a.length ≤ maxLen) (hm : b.length ≤ maxLen) :
    Calls Try.prog 13 #[.slice p a.length c, .slice q b.length d] w fun e w' => e = .returned (.bool (decide (rks a = rks b))) ∧ Below w.heap.size w w' := by
  simp only [maxLen] at hn hm
  obtain ⟨r, hr⟩ : ∃ r, decide (rks a = rks b) = r := ⟨_, rfl⟩
  rw [hr]
  go_enter Try.func13, Try.ntmps13
  by_cases t0 : a.length = b.length
  · have HR := Hid.mk' hr.symm
    have d0 : ((a.length : Int) != (b.length : Int)) = false := by simp; omega
    have T0 := Hid.mk' t0
    clear hr t0
    go_wp2
    go_loopw [5] (fun i W => ∃ k : Nat, k ≤ a.length ∧ i = .int .i64 k ∧ Hid (r = decide (rks (a.drop k) = rks (b.drop k))) ∧ Below w.heap.size w W) (fun i _ => a.length - (intOf i).toNat)
    case atStart => exact ⟨0, by omega, rfl, HR.out, Below.refl _ _⟩
    case round =>
      obtain ⟨k, hk, rfl, HT, hb⟩ := hrel
      by_cases t : k < a.length
      · have t2 : k < b.length := by have := T0.out; omega
        obtain ⟨b1, o1, rfl, hc⟩ := (hp.below hb).at (by omega)
        obtain ⟨hx, hokx⟩ := hc k t
        obtain ⟨b2, o2, rfl, hc2⟩ := (hq.below hb).at (by omega)
        obtain ⟨hy, hoky⟩ := hc2 k t2
        obtain ⟨e0, e1, e2, e3, e4, e5, e6⟩ := hx
        obtain ⟨f0, f1, f2, f3, f4, f5, f6⟩ := hy
        have HT' := Hid.mk' (show r = (decide (rk (a.getD k zr) = rk (b.getD k zr)) && decide (rks (a.drop (k + 1)) = rks (b.drop (k + 1)))) by rw [HT.out, rdrop_next a k t, rdrop_next b k t2]; simp [rks])
        generalize a.getD k zr = x at HT' e0 e1 e2 e3 e4 e5 e6 hokx
        generalize b.getD k zr = y at HT' f0 f1 f2 f3 f4 f5 f6 hoky
        have HB := Hid.mk' hb
        have N := fun X (h : Below wr.heap.size wr X) => lalike_any x y X (hokx.below h) (hoky.below h)
        generalize decide (rk x = rk y) = v at HT' N
        clear hc hc2 hokx hoky hb
        have hS0 : wr.drew.cell? ⟨b1, o1 + k * 7, none⟩ = some (.int .i64 x.id) ∧ wr.drew.cell? ⟨b1, o1 + k * 7 + 1, none⟩ = some (.int .i64 x.inc) ∧ wr.drew.cell? ⟨b1, o1 + k * 7 + 2, none⟩ = some (.int .i64 x.st) ∧ wr.drew.cell? ⟨b1, o1 + k * 7 + 3, none⟩ = some (.int .i64 x.lo) ∧ wr.drew.cell? ⟨b1, o1 + k * 7 + 4, none⟩ = some (.int .i64 x.hi) ∧ wr.drew.cell? ⟨b1, o1 + k * 7 + 5, none⟩ = some (.bool x.cut) ∧ wr.drew.cell? ⟨b1, o1 + k * 7 + 6, none⟩ = some (.slice x.p x.bag.length x.cap) ∧ wr.drew.cell? ⟨b2, o2 + k * 7, none⟩ = some (.int .i64 y.id) ∧ wr.drew.cell? ⟨b2, o2 + k * 7 + 1, none⟩ = some (.int .i64 y.inc) ∧ wr.drew.cell? ⟨b2, o2 + k * 7 + 2, none⟩ = some (.int .i64 y.st) ∧ wr.drew.cell? ⟨b2, o2 + k * 7 + 3, none⟩ = some (.int .i64 y.lo) ∧ wr.drew.cell? ⟨b2, o2 + k * 7 + 4, none⟩ = some (.int .i64 y.hi) ∧ wr.drew.cell? ⟨b2, o2 + k * 7 + 5, none⟩ = some (.bool y.cut) ∧ wr.drew.cell? ⟨b2, o2 + k * 7 + 6, none⟩ = some (.slice y.p y.bag.length y.cap) ∧ Hid (Below wr.heap.size wr wr.drew) := ⟨e0, e1, e2, e3, e4, e5, e6, f0, f1, f2, f3, f4, f5, f6, (Below.refl _ _).drew⟩
        go_wp2_with fail
        refine wp_region_held_drew (S := fun X => X.cell? ⟨b1, o1 + k * 7, none⟩ = some (.int .i64 x.id) ∧ X.cell? ⟨b1, o1 + k * 7 + 1, none⟩ = some (.int .i64 x.inc) ∧ X.cell? ⟨b1, o1 + k * 7 + 2, none⟩ = some (.int .i64 x.st) ∧ X.cell? ⟨b1, o1 + k * 7 + 3, none⟩ = some (.int .i64 x.lo) ∧ X.cell? ⟨b1, o1 + k * 7 + 4, none⟩ = some (.int .i64 x.hi) ∧ X.cell? ⟨b1, o1 + k * 7 + 5, none⟩ = some (.bool x.cut) ∧ X.cell? ⟨b1, o1 + k * 7 + 6, none⟩ = some (.slice x.p x.bag.length x.cap) ∧ X.cell? ⟨b2, o2 + k * 7, none⟩ = some (.int .i64 y.id) ∧ X.cell? ⟨b2, o2 + k * 7 + 1, none⟩ = some (.int .i64 y.inc) ∧ X.cell? ⟨b2, o2 + k * 7 + 2, none⟩ = some (.int .i64 y.st) ∧ X.cell? ⟨b2, o2 + k * 7 + 3, none⟩ = some (.int .i64 y.lo) ∧ X.cell? ⟨b2, o2 + k * 7 + 4, none⟩ = some (.int .i64 y.hi) ∧ X.cell? ⟨b2, o2 + k * 7 + 5, none⟩ = some (.bool y.cut) ∧ X.cell? ⟨b2, o2 + k * 7 + 6, none⟩ = some (.slice y.p y.bag.length y.cap) ∧ Hid (Below wr.heap.size wr X)) (by kernel_rfl) hS0 (fun hS => ?_)
        clear hS0 e0 e1 e2 e3 e4 e5 e6 f0 f1 f2 f3 f4 f5 f6
        generalize wr.drew = wd at hS ⊢
        refine wpAnyH_take (i := 0) (v := ?v0_35) rfl (by kernel_rfl) (by kernel_rfl) (by kernel_rfl) (fun _ _ _ h => h) (Or.inl ⟨by rfl, ?hy0_35⟩) (by assumption) ?rest0_35
        case hy0_35 => (intro w hSw; (try dsimp only at hSw); go_simp; try (with_reducible rfl))
        simp only [Act.put, List.getElem_toArray, List.getElem_cons_zero, List.getElem_cons_succ, List.setIfInBounds_toArray, List.set_cons_zero, List.set_cons_succ]
        refine wpAnyH_take (i := 1) (v := ?v1_36) rfl (by kernel_rfl) (by kernel_rfl) (by kernel_rfl) (fun _ _ _ h => h) (Or.inl ⟨by rfl, ?hy1_36⟩) (by assumption) ?rest1_36
        case hy1_36 => (intro w hSw; (try dsimp only at hSw); go_simp; try (with_reducible rfl))
        simp only [Act.put, List.getElem_toArray, List.getElem_cons_zero, List.getElem_cons_succ, List.setIfInBounds_toArray, List.set_cons_zero, List.set_cons_succ]
        refine wpAnyH_take (i := 2) (v := ?v2_37) rfl (by kernel_rfl) (by kernel_rfl) (by kernel_rfl) (fun _ _ _ h => h) (Or.inl ⟨by rfl, ?hy2_37⟩) (by assumption) ?rest2_37
        case hy2_37 => (intro w hSw; (try dsimp only at hSw); go_simp; try (with_reducible rfl))
        simp only [Act.put, List.getElem_toArray, List.getElem_cons_zero, List.getElem_cons_succ, List.setIfInBounds_toArray, List.set_cons_zero, List.set_cons_succ]
        refine wpAnyH_take (i := 3) (v := ?v3_38) rfl (by kernel_rfl) (by kernel_rfl) (by kernel_rfl) (fun _ _ _ h => h) (Or.inl ⟨by rfl, ?hy3_38⟩) (by assumption) ?rest3_38
        case hy3_38 => (intro w hSw; (try dsimp only at hSw); go_simp; try (with_reducible rfl))
        simp only [Act.put, List.getElem_toArray, List.getElem_cons_zero, List.getElem_cons_succ, List.setIfInBounds_toArray, List.set_cons_zero, List.set_cons_succ]
        refine wpAnyH_take (i := 4) (v := ?v4_39) rfl (by kernel_rfl) (by kernel_rfl) (by kernel_rfl) (fun _ _ _ h => h) (Or.inl ⟨by rfl, ?hy4_39⟩) (by assumption) ?rest4_39
        case hy4_39 => (intro w hSw; (try dsimp only at hSw); go_simp; try (with_reducible rfl))
        simp only [Act.put, List.getElem_toArray, List.getElem_cons_zero, List.getElem_cons_succ, List.setIfInBounds_toArray, List.set_cons_zero, List.set_cons_succ]
        refine wpAnyH_take (i := 5) (v := ?v5_40) rfl (by kernel_rfl) (by kernel_rfl) (by kernel_rfl) (fun _ _ _ h => h) (Or.inl ⟨by rfl, ?hy5_40⟩) (by assumption) ?rest5_40
        case hy5_40 => (intro w hSw; (try dsimp only at hSw); go_simp; try (with_reducible rfl))
        simp only [Act.put, List.getElem_toArray, List.getElem_cons_zero, List.getElem_cons_succ, List.setIfInBounds_toArray, List.set_cons_zero, List.set_cons_succ]
        refine wpAnyH_take (i := 6) (v := ?v6_41) rfl (by kernel_rfl) (by kernel_rfl) (by kernel_rfl) (fun _ _ _ h => h) (Or.inl ⟨by rfl, ?hy6_41⟩) (by assumption) ?rest6_41
        case hy6_41 => (intro w hSw; (try dsimp only at hSw); go_simp; try (with_reducible rfl))
        simp only [Act.put, List.getElem_toArray, List.getElem_cons_zero, List.getElem_cons_succ, List.setIfInBounds_toArray, List.set_cons_zero, List.set_cons_succ]
        refine wpAnyH_take (i := 7) (v := ?v7_42) rfl (by kernel_rfl) (by kernel_rfl) (by kernel_rfl) (fun _ _ _ h => h) (Or.inl ⟨by rfl, ?hy7_42⟩) (by assumption) ?rest7_42
        case hy7_42 => (intro w hSw; (try dsimp only at hSw); go_simp; try (with_reducible rfl))
        simp only [Act.put, List.getElem_toArray, List.getElem_cons_zero, List.getElem_cons_succ, List.setIfInBounds_toArray, List.set_cons_zero, List.set_cons_succ]
        refine wpAnyH_ready (rs := [8]) (by kernel_rfl) (by simp) ?_
        refine (AllReadyH.cons rfl (fun K hK => ?_) AllReadyH.nil)
        go_simp
        refine (N _ hS.2.2.2.2.2.2.2.2.2.2.2.2.2.2.out).mono ?_
        rintro e w3 ⟨rfl, hb3⟩
        have hK3 : w3.cell? ⟨b1, o1 + k * 7, none⟩ = some (.int .i64 x.id) ∧ w3.cell? ⟨b1, o1 + k * 7 + 1, none⟩ = some (.int .i64 x.inc) ∧ w3.cell? ⟨b1, o1 + k * 7 + 2, none⟩ = some (.int .i64 x.st) ∧ w3.cell? ⟨b1, o1 + k * 7 + 3, none⟩ = some (.int .i64 x.lo) ∧ w3.cell? ⟨b1, o1 + k * 7 + 4, none⟩ = some (.int .i64 x.hi) ∧ w3.cell? ⟨b1, o1 + k * 7 + 5, none⟩ = some (.bool x.cut) ∧ w3.cell? ⟨b1, o1 + k * 7 + 6, none⟩ = some (.slice x.p x.bag.length x.cap) ∧ w3.cell? ⟨b2, o2 + k * 7, none⟩ = some (.int .i64 y.id) ∧ w3.cell? ⟨b2, o2 + k * 7 + 1, none⟩ = some (.int .i64 y.inc) ∧ w3.cell? ⟨b2, o2 + k * 7 + 2, none⟩ = some (.int .i64 y.st) ∧ w3.cell? ⟨b2, o2 + k * 7 + 3, none⟩ = some (.int .i64 y.lo) ∧ w3.cell? ⟨b2, o2 + k * 7 + 4, none⟩ = some (.int .i64 y.hi) ∧ w3.cell? ⟨b2, o2 + k * 7 + 5, none⟩ = some (.bool y.cut) ∧ w3.cell? ⟨b2, o2 + k * 7 + 6, none⟩ = some (.slice y.p y.bag.length y.cap) ∧ Hid (Below wr.heap.size wr w3) := by
          obtain ⟨e0, e1, e2, e3, e4, e5, e6, f0, f1, f2, f3, f4, f5, f6, hB⟩ := hS
          obtain ⟨e0, e1, e2, e3, e4, e5, e6⟩ := RAt.below (show RAt wd b1 (o1 + k * 7) x from ⟨e0, e1, e2, e3, e4, e5, e6⟩) hb3
          obtain ⟨f0, f1, f2, f3, f4, f5, f6⟩ := RAt.below (show RAt wd b2 (o2 + k * 7) y from ⟨f0, f1, f2, f3, f4, f5, f6⟩) hb3
          exact ⟨e0, e1, e2, e3, e4, e5, e6, f0, f1, f2, f3, f4, f5, f6, hB.out.trans (hb3.mono hB.out.size)⟩
        clear hb3
        go_wp2_with fail
        refine hK.out _ _ ?_ (fun hS' => ?_)
        · exact hK3
        clear hK K
        try simp only [Act.put, List.getElem_toArray, List.getElem_cons_zero, List.getElem_cons_succ, List.setIfInBounds_toArray, List.set_cons_zero, List.set_cons_succ]
        replace hS := hS'
        clear hS'
        refine wpAnyH_take (i := 9) (v := ?v9_43) rfl (by kernel_rfl) (by kernel_rfl) (by kernel_rfl) (fun _ _ _ h => h) (Or.inl ⟨by rfl, ?hy9_43⟩) (by assumption) ?rest9_43
        case hy9_43 => (intro w hSw; (try dsimp only at hSw); go_simp; try (with_reducible rfl))
        simp only [Act.put, List.getElem_toArray, List.getElem_cons_zero, List.getElem_cons_succ, List.setIfInBounds_toArray, List.set_cons_zero, List.set_cons_succ]
        refine wpAnyH_done (by kernel_rfl) ?_ _
        have HB3 := Hid.mk' (HB.out.trans (hS.2.2.2.2.2.2.2.2.2.2.2.2.2.2.out.mono HB.out.size))
        clear hS N
        cases v
        · obtain rfl : r = false := by rw [HT'.out]; simp
          go_wp2_with fail
          try rw [Exit.noGoto_ret]
          go_ret
          exact ⟨rfl, HB3.out⟩
        · go_wp2_with fail
          go_roundw
          case rel => exact ⟨k + 1, by omega, by go_num, Hid.mk' (by rw [HT'.out]; simp), HB3.out⟩
          case measure => simp [intOf]; omega
      · have HV := Hid.mk' (show r = true by rw [HT.out, List.drop_of_length_le (l := a) (by omega), List.drop_of_length_le (l := b) (by have := T0.out; omega)]; rfl)
        go_wp2
        go_ret
        exact ⟨by rw [HV.out]; rfl, hb⟩
  · have t0' : ¬ (a.length : Int) = (b.length : Int) := by omega
    have d0 : ((a.length : Int) != (b.length : Int)) = true := by simp; omega
    obtain rfl : r = false := by
      rw [← hr]
      simp
      intro h
      have := congrArg List.length h
      rw [rks_len, rks_len] at this
      omega
    go_wp2
    go_ret
    exact ⟨rfl, Below.refl _ _⟩
end Go.Proofs.Ytnladolpcocchaa
