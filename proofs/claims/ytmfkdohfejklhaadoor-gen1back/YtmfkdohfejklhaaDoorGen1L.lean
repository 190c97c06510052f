/-
  Stage 11: the statements' own functions: put, num, fits.
-/
import Derived.Test.YtmfkdohfejklhaaDoorGen1M
import Derived.Test.YtmfkdohfejklhaaDoorAcc
import Derived.Test.YtmfkdohfejklhaaDoorMsgV
namespace Go.Proofs.YtmfkdohfejklhaaDoor
open Go.RowKit
set_option linter.unusedSimpArgs false
set_option linter.unusedVariables false
set_option maxRecDepth 10000
set_option synthInstance.maxSize 2000

theorem brow_cell {w : World} {g : Nat} {l : List Int} {e : TypeId} (h : w.heap[g]? = some (.cells (cellsB l) e (0, 0))) (i : Nat) (hi : i < l.length) : w.cell? ⟨g, i, none⟩ = some (.int .u8 l[i]) ∧ w.frozen? ⟨g, i, none⟩ = false := by
  simp [World.cell?, World.frozen?, h, cellsB, hi]
theorem brow_set {w : World} {g : Nat} {l : List Int} {e : TypeId} (h : w.heap[g]? = some (.cells (cellsB l) e (0, 0))) (i : Nat) (x : Int) : (w.setCell ⟨g, i, none⟩ (.int .u8 x)).heap[g]? = some (.cells (cellsB (l.set i x)) e (0, 0)) := by
  simp [World.setCell, Array.getElem?_modify, h, cellsB, List.map_set]

/-- The row of digits behind j rounds. -/
def dRow (n : Nat) (v : Int) (j : Nat) : List Int := List.replicate (n - j) 0 ++ (digB n v).drop (n - j)
theorem dRow_len (n : Nat) (v : Int) (j : Nat) (hj : j ≤ n) : (dRow n v j).length = n := by simp [dRow, digB_len, hj]
theorem dRow_zero (n : Nat) (v : Int) : dRow n v 0 = List.replicate n 0 := by
  simp [dRow, List.drop_eq_nil_of_le, digB_len]
theorem dRow_all (n : Nat) (v : Int) : dRow n v n = digB n v := by simp [dRow]
theorem dRow_step (n : Nat) (v : Int) (j : Nat) (hj : j < n) : (dRow n v j).set (n - 1 - j) (v / 256 ^ j % 256) = dRow n v (j + 1) := by
  have e1 : n - j = (n - 1 - j) + 1 := by omega
  have e2 : n - (j + 1) = n - 1 - j := by omega
  have hl : n - 1 - j < (digB n v).length := by rw [digB_len]; omega
  unfold dRow
  rw [e1, e2, List.drop_eq_getElem_cons hl, List.replicate_succ', List.append_assoc]
  rw [List.set_append_right _ _ (by simp)]
  have e3 : n - 1 - (n - 1 - j) = j := by omega
  simp [digB, e3]

/-- 'append(v, x...)' of bytes in a walk: what has turned, and where it lies then. -/
theorem wpList_accF {w : World} {ops : Array Oper} {rest : List Oper} {o : Oper} {a : Act} {Q : Exit → Act → World → Prop} (hgd : o.guard = none) (s x : Operand)
    (ho : o.op = .call { callee := .builtin .append, args := #[s, x], argTypes := #[29, 29] })
    (B : Nat) (v : Value) (l : List Int) (hs : a.eval s = v) (hown : Acc w B v l) (hB : B ≤ w.heap.size)
    (p : Option Addr) (c : Nat) (m : List Int) (hx : a.eval x = .slice p m.length c) (hp0 : p = none → c = 0) (hm : BIn w p m)
    (hlen : l.length + m.length ≤ 140737488355328)
    (h : ∀ v' w', Acc w' B v' (l ++ m) → Below B w w' → Fr (fun k => v.ownBlock = some k) w w' → Moved w v v' → wpList Tryd.prog ops Q rest (a.put o.dst v') w') : wpList Tryd.prog ops Q (o :: rest) a w := by
  obtain ⟨i0, hi, hz0, hz1, hz2⟩ := info_parts infoA
  exact wpList_append_fr hgd s x 29 ho 5 i0 (.int .u8 0) 1 1 Tryd.underlying29 hi hz0 hz1 hz2 rfl (by decide) v l.length (l.map (Value.int .u8)) hs hown.owns p m.length c (m.map (Value.int .u8)) hx hp0 (by simp) hm.news (oneCells m) (by simp only [maxLen]; omega) (by omega)
    fun v' w' hA => h v' w' (hown.next hB hA).1 (hown.next hB hA).2 hA.fr hA.moved

theorem acc_ne {w : World} {B : Nat} {v : Value} {l : List Int} (h : Acc w B v l) (g : Nat) (hg : w.heap.size ≤ g) : v.ownBlock ≠ some g := fun q => by
  have := (h.owns.lt g q).2
  omega

set_option maxHeartbeats 1600000 in
theorem lput_any (B : Nat) (v : Value) (l : List Int) (n : Nat) (z : Int) (w : World) (hv : Acc w B v l) (hB : B ≤ w.heap.size) (h7 : n ≤ 7) (hz : 0 ≤ z) (hz3 : z ≤ 9223372036854775807) (hl : l.length ≤ 1000000000) :
    Calls Tryd.prog 23 #[v, .int .i64 n, .int .i64 z] w fun e w' => ∃ v', e = .returned v' ∧ Acc w' B v' (l ++ digB n z) ∧ Below B w w' ∧ Fr (fun k => v.ownBlock = some k) w w' ∧ Moved w v v' := by
  have hmk := fun w => run_make_row' (P := Tryd.prog) 29 5 (.int .u8 0) 1 Tryd.underlying29 infoB rfl .i64 .i64 n (by omega) (by omega) w
  have HV := Hid.mk' hv
  have HSZ := Hid.mk' hB
  clear hv hB
  go_enter Tryd.func23, Tryd.ntmps23
  go_wp2
  go_loopw [2, 8] (fun x i wr => ∃ j : Nat, j ≤ n ∧ i = .int .i64 ((n : Int) - 1 - j) ∧ x = .int .i64 (z / 256 ^ j) ∧ wr.heap[w.heap.size]? = some (.cells (cellsB (dRow n z j)) 5 (0, 0)) ∧ Below w.heap.size w wr) (fun _ i _ => (intOf i + 1).toNat)
  case atStart =>
    refine ⟨0, Nat.zero_le _, by simp, by simp, ?_, (Below.refl _ _).alloc (Nat.le_refl _) _⟩
    rw [heap_alloc_new, dRow_zero]
    have e : madeCells #[Value.int .u8 0] n = cellsB (List.replicate n 0) := by
      apply Array.ext
      · simp [madeCells, cellsB]
      · intro i h1 h2
        simp [madeCells, cellsB, Nat.mod_one]
    rw [e]
  case round =>
    obtain ⟨j, hj, rfl, rfl, hrow, hBl⟩ := hrel
    by_cases hlt : j < n
    · have hi : n - 1 - j < (dRow n z j).length := by rw [dRow_len n z j hj]; omega
      obtain ⟨hc, hf⟩ := brow_cell hrow (n - 1 - j) hi
      have HR := Hid.mk' (brow_set hrow (n - 1 - j) (z / 256 ^ j % 256))
      rw [dRow_step n z j hlt] at HR
      have hx : 0 ≤ z / 256 ^ j := Int.ediv_nonneg hz (Int.le_of_lt (pow_pos j))
      have hx2 : z / 256 ^ j ≤ 9223372036854775807 := Int.le_trans (Int.ediv_le_self _ hz) hz3
      have e1 : z / 256 ^ (j + 1) = z / 256 ^ j / 256 := by rw [Int.pow_succ, Int.ediv_ediv_of_nonneg (Int.le_of_lt (pow_pos j))]
      have HE := Hid.mk' e1
      have HB := Hid.mk' hBl
      generalize (dRow n z j)[n - 1 - j] = old at hc
      clear hrow e1 hBl hi
      generalize z / 256 ^ j = x at hx hx2 HR HE ⊢
      go_wp2
      go_roundw
      case rel => exact ⟨j + 1, by omega, by go_num, by rw [HE.out], HR.out, HB.out.setCell (Nat.le_refl _) _⟩
      case measure => simp [intOf]; omega
    · obtain rfl : j = n := by omega
      rw [dRow_all] at hrow
      have HR := Hid.mk' (show BIn wr (some ⟨w.heap.size, 0, none⟩) (digB j z) from BIn.of_block (rest := []) (by simpa [cellsB] using hrow))
      have HV2 := Hid.mk' (HV.out.below hBl)
      have HS2 := Hid.mk' (Nat.le_trans HSZ.out hBl.size)
      have HB2 := Hid.mk' (hBl.mono HSZ.out)
      have HB0 := Hid.mk' hBl
      have hdl : (digB j z).length = j := digB_len j z
      clear hrow hBl
      go_wp2_with (refine wpList_accF rfl (.tmp 25) (.tmp 26) rfl B v l rfl HV2.out HS2.out (some ⟨w.heap.size, 0, none⟩) j (digB j z) (by rw [hdl]; rfl) (by simp) HR.out (by rw [hdl]; omega) ?_; intro v' w' hA' hB' hF' hM')
      have HA' := Hid.mk' hA'
      have HB' := Hid.mk' (HB2.out.trans hB')
      have HF' := Hid.mk' ((Fr.of_below HB0.out (fun k => v.ownBlock = some k)).trans hF' fun i h => .inl h)
      have HM' := Hid.mk' (show Moved w v v' from by
        rcases hM' with h | ⟨g, h1, h2⟩
        · exact .inl h
        · exact .inr ⟨g, h1, Nat.le_trans HB0.out.size h2⟩)
      clear hA' hB' hF' hM'
      go_wp2_with fail
      go_ret
      exact ⟨v', rfl, HA'.out, HB'.out, HF'.out, HM'.out⟩

set_option maxHeartbeats 800000 in
theorem lnum_any (p : Option Addr) (c : Nat) (l : List Int) (w : World) (hp : BIn w p l) (hl : isB l) (h7 : l.length ≤ 7) :
    Calls Tryd.prog 29 #[.slice p l.length c] w fun e w' => e = .returned (.int .i64 (numB l)) ∧ w = w' := by
  go_enter Tryd.func29, Tryd.ntmps29
  go_wp2
  go_loop [3, 4] (fun v i => ∃ j : Nat, j ≤ l.length ∧ i = .int .i64 j ∧ v = .int .i64 (numB (l.take j))) (fun _ i => l.length - (intOf i).toNat)
  case atStart => exact ⟨0, Nat.zero_le _, rfl, rfl⟩
  case round =>
    obtain ⟨j, hj, rfl, rfl⟩ := hrel
    by_cases hlt : j < l.length
    · obtain ⟨g, o, rfl, hc⟩ := hp (by omega)
      have hcj := hc j hlt
      rw [show l.getD j 0 = l[j] by simp [List.getD, hlt]] at hcj
      have hn := numB_small l hl j (by omega)
      have hx := hl l[j] (List.getElem_mem hlt)
      have HN : Hid (numB (l.take (j + 1)) = numB (l.take j) * 256 + l[j]) := by
        have h := numB_take l j hlt
        rw [show l.getD j 0 = l[j] by simp [List.getD, hlt]] at h
        exact h
      clear hp hc
      go_wp2
      go_round
      case rel => exact ⟨j + 1, by omega, by go_num, by rw [HN.out]⟩
      case measure => simp [intOf]; omega
    · obtain rfl : j = l.length := by omega
      rw [List.take_length]
      go_wp2
      go_ret
      exact ⟨rfl, rfl⟩

/-- Does a message fit generation 1? -/
def restOk (l : List RK) : Bool := l.all fun r => decide (r.inc ≤ 65535) && decide (r.bag.length = 0)
def fit1 (m : Mg) : Bool := mayM m && !(decide (m.kind = 9)) && decide (m.life = 0) && decide (m.epoch = 0) && decide (m.base = 0) && restOk (rks m.recs)
theorem fit1_iff (m : Mg) : fit1 m = true ↔ (mv m).fit1 := by
  have h1 : restOk (rks m.recs) = true ↔ ∀ r ∈ rks m.recs, r.inc ≤ 65535 ∧ r.bag = [] := by
    simp only [restOk, List.all_eq_true, Bool.and_eq_true, decide_eq_true_eq, List.length_eq_zero_iff]
  unfold fit1 MV.fit1
  rw [← may_mv m]
  simp only [Bool.and_eq_true, h1, decide_eq_true_eq, Bool.not_eq_true', decide_eq_false_iff_not]
  constructor
  · rintro ⟨⟨⟨⟨⟨a, b⟩, c⟩, d⟩, e⟩, f⟩; exact ⟨a, b, c, d, e, f⟩
  · rintro ⟨a, b, c, d, e, f⟩; exact ⟨⟨⟨⟨⟨a, b⟩, c⟩, d⟩, e⟩, f⟩

set_option maxHeartbeats 4000000 in
theorem lfits_any (m : Mg) (w : World) (hm : MOk w m) (hz : ∀ x ∈ m.recs, szK (kys x.bag) ≤ 4611686018427387904) (hK : Kd w) :
    Calls Tryd.prog 11 #[.agg #[.int .i64 m.kind, .int .i64 m.frm, .int .i64 m.inc, .int .i64 m.lo, .int .i64 m.hi, .int .i64 m.seq, .int .i64 m.tgt, .int .i64 m.life, .int .i64 m.epoch, .int .i64 m.base, .slice m.p m.recs.length m.cap]] w fun e w' => e = .returned (.bool (fit1 m)) ∧ Below w.heap.size w w' := by
  have HM := Hid.mk' (show fit1 m = (mayM m && !(decide (m.kind = 9)) && decide (m.life = 0) && decide (m.epoch = 0) && decide (m.base = 0) && restOk (rks m.recs)) from rfl)
  have HI := Hid.mk' (InM.start w m)
  have V := fun X (h : InM w m X) => mvalid_any m X (hm.below h.below) hz (hK.below h.below)
  have q0 : (m.kind == 9) = decide (m.kind = 9) := rfl
  have q1 : (m.life != 0) = !decide (m.life = 0) := rfl
  have q2 : (m.epoch != 0) = !decide (m.epoch = 0) := rfl
  have q3 : (m.base != 0) = !decide (m.base = 0) := rfl
  have HR := Hid.mk' (show restOk (rks m.recs) = (rks (m.recs.drop 0)).all fun r => decide (r.inc ≤ 65535) && decide (r.bag.length = 0) from rfl)
  generalize fit1 m = q at HM ⊢
  generalize mayM m = b0 at HM V
  generalize decide (m.kind = 9) = b1 at HM q0
  generalize decide (m.life = 0) = b2 at HM q1
  generalize decide (m.epoch = 0) = b3 at HM q2
  generalize decide (m.base = 0) = b4 at HM q3
  generalize restOk (rks m.recs) = b5 at HM HR
  have HN := Hid.mk' hm.lenM
  have HP := Hid.mk' hm.rin
  clear hK hz hm
  go_enter Tryd.func11, Tryd.ntmps11
  go_wp2_with fail
  refine (V _ HI.out).mono ?_
  rintro e w1 ⟨rfl, hb1⟩
  have HI1 := Hid.mk' (HI.out.on hb1)
  clear hb1 HI V
  obtain ⟨c0, c1, c2, c3, c4, c5, c6, c7, c8, c9, c10⟩ := mbox_cells HI1.out.box
  cases b0
  · go_wp2_with fail
    go_ret
    exact ⟨by rw [HM.out]; simp, HI1.out.below⟩
  cases b1
  case true =>
    go_wp2_with fail
    go_ret
    exact ⟨by rw [HM.out]; simp, HI1.out.below⟩
  cases b2
  · go_wp2_with fail
    go_ret
    exact ⟨by rw [HM.out]; simp, HI1.out.below⟩
  cases b3
  · go_wp2_with fail
    go_ret
    exact ⟨by rw [HM.out]; simp, HI1.out.below⟩
  cases b4
  · go_wp2_with fail
    go_ret
    exact ⟨by rw [HM.out]; simp, HI1.out.below⟩
  have HQ := Hid.mk' (show q = (rks (m.recs.drop 0)).all fun r => decide (r.inc ≤ 65535) && decide (r.bag.length = 0) by rw [HM.out, ← HR.out]; simp)
  have hn := HN.out
  simp only [maxLen] at hn
  clear HM HR HN
  go_wp2_with fail
  go_loop [3] (fun i => ∃ k : Nat, k ≤ m.recs.length ∧ i = .int .i64 k ∧ Hid (q = (rks (m.recs.drop k)).all fun r => decide (r.inc ≤ 65535) && decide (r.bag.length = 0))) (fun i => m.recs.length - (intOf i).toNat)
  case atStart => exact ⟨0, by omega, rfl, HQ⟩
  case round =>
    obtain ⟨k, hk, rfl, HK⟩ := hrel
    by_cases t : k < m.recs.length
    · obtain ⟨b, o, hbo, hc⟩ := (HP.out.below HI1.out.below).at (by omega)
      obtain ⟨hx, hok⟩ := hc k t
      rw [hbo] at c10
      obtain ⟨e0, e1, e2, e3, e4, e5, e6⟩ := hx
      have HK' := Hid.mk' (show q = ((decide ((m.recs.getD k zr).inc ≤ 65535) && decide ((m.recs.getD k zr).bag.length = 0)) && (rks (m.recs.drop (k + 1))).all fun r => decide (r.inc ≤ 65535) && decide (r.bag.length = 0)) by
        rw [HK.out, rdrop_next m.recs k t]; simp only [rks, List.map_cons, List.all_cons]; rw [show (rk (m.recs.getD k zr)).inc = (m.recs.getD k zr).inc from rfl, show (rk (m.recs.getD k zr)).bag.length = (m.recs.getD k zr).bag.length from kys_len _])
      generalize m.recs.getD k zr = y at HK' e0 e1 e2 e3 e4 e5 e6 hok
      have hlen : y.bag.length ≤ 9223372036854775807 := by have := hok.len; have := hok.cap; simp only [maxLen] at this; omega
      clear hc hok HK e0 e2 e3 e4 e5 hbo
      by_cases t1 : 65535 < y.inc
      · obtain rfl : q = false := by rw [HK'.out, decide_eq_false (show ¬ y.inc ≤ 65535 by omega)]; simp
        go_wp2_with fail
        try rw [Exit.noGoto_ret]
        go_ret
        exact ⟨rfl, HI1.out.below⟩
      by_cases t2 : 0 < y.bag.length
      · obtain rfl : q = false := by rw [HK'.out, decide_eq_false (show ¬ y.bag.length = 0 by omega)]; simp
        go_wp2_with fail
        try rw [Exit.noGoto_ret]
        go_ret
        exact ⟨rfl, HI1.out.below⟩
      · have HV := Hid.mk' (show q = (rks (m.recs.drop (k + 1))).all fun r => decide (r.inc ≤ 65535) && decide (r.bag.length = 0) by rw [HK'.out, decide_eq_true (show y.inc ≤ 65535 by omega), decide_eq_true (show y.bag.length = 0 by omega)]; simp)
        have t2' : ¬ 0 < (y.bag.length : Int) := by omega
        go_wp2_with fail
        go_round
        case rel => exact ⟨k + 1, by omega, by go_num, HV⟩
        case measure => simp [intOf]; omega
    · obtain rfl : k = m.recs.length := by omega
      obtain rfl : q = true := by rw [HK.out]; simp [rks]
      go_wp2_with fail
      go_ret
      exact ⟨rfl, HI1.out.below⟩
end Go.Proofs.YtmfkdohfejklhaaDoor
