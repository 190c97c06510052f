/-
  Generation 1: a message as what it says; its body; what a body is read as; that these are each other's. No function of the program is named here.
-/
import Derived.Test.YtmfkdohfejklhaaDoorMsgM
import Derived.Test.YtmfkdohfejklhaaDoorOctetW
namespace Go.Proofs.YtmfkdohfejklhaaDoor
open Go.RowKit
set_option linter.unusedSimpArgs false
set_option linter.unusedVariables false
set_option maxRecDepth 10000
set_option synthInstance.maxSize 2000

/-! Digits. -/
theorem num_digs (n : Nat) (v : Int) (hv : 0 ≤ v) (hv2 : v < 256 ^ n) : numB (digB n v) = v := by
  have key : ∀ j, j ≤ n → numB ((digB n v).take j) = v / 256 ^ (n - j) := by
    intro j
    induction j with
    | zero => intro _; simp [numB]; exact (Int.ediv_eq_zero_of_lt hv hv2).symm
    | succ j ih =>
      intro hj
      rw [digB_take n v j (by omega), numB_snoc, ih (by omega)]
      have e1 : n - 1 - j = n - (j + 1) := by omega
      have e2 : (256 : Int) ^ (n - j) = 256 ^ (n - (j + 1)) * 256 := by
        rw [← Int.pow_succ]; congr 1; omega
      rw [e1, e2, ← Int.ediv_ediv_of_nonneg (Int.le_of_lt (pow_pos _))]
      omega
  have := key n (Nat.le_refl _)
  rw [List.take_of_length_le (by rw [digB_len]; exact Nat.le_refl _)] at this
  simpa using this

theorem digB_succ (n : Nat) (v : Int) : digB (n + 1) v = digB n (v / 256) ++ [v % 256] := by
  simp only [digB, List.range_succ, List.map_append, List.map_cons, List.map_nil]
  congr 1
  · apply List.map_congr_left
    intro t ht
    have ht' : t < n := List.mem_range.1 ht
    rw [show n + 1 - 1 - t = (n - 1 - t) + 1 by omega, Int.pow_succ, Int.mul_comm, ← Int.ediv_ediv_of_nonneg (by omega)]
  · simp

theorem digs_num (l : List Int) (h : isB l) : digB l.length (numB l) = l := by
  have key : ∀ (n : Nat) (l : List Int), l.length = n → isB l → digB n (numB l) = l := by
    intro n
    induction n with
    | zero => intro l hl _; have : l = [] := List.eq_nil_of_length_eq_zero hl; subst this; rfl
    | succ n ih =>
      intro l hl hb
      have hne : l ≠ [] := by intro h; subst h; simp at hl
      obtain ⟨l', x, rfl⟩ : ∃ l' x, l = l' ++ [x] := ⟨l.dropLast, l.getLast hne, (List.dropLast_concat_getLast hne).symm⟩
      have hx : 0 ≤ x ∧ x < 256 := hb x (by simp)
      have hl' : l'.length = n := by simpa using hl
      rw [numB_snoc, digB_succ, show (numB l' * 256 + x) / 256 = numB l' by omega, show (numB l' * 256 + x) % 256 = x by omega, ih l' hl' (fun y hy => hb y (by simp [hy]))]
  exact key _ l rfl h

theorem dig1 (v : Int) (h : 0 ≤ v) (h2 : v < 256) : digB 1 v = [v] := by
  rw [digB_succ]; simp [digB]; omega
theorem num2 (a b : Int) : numB [a, b] = a * 256 + b := by simp [numB]
theorem digs2 (a b : Int) (ha : 0 ≤ a ∧ a < 256) (hb : 0 ≤ b ∧ b < 256) : digB 2 (numB [a, b]) = [a, b] := digs_num [a, b] (by intro x hx; simp at hx; rcases hx with rfl | rfl <;> assumption)

/-! What a message says. -/
structure MV where
  kind : Int
  frm : Int
  inc : Int
  lo : Int
  hi : Int
  seq : Int
  tgt : Int
  life : Int
  epoch : Int
  base : Int
  recs : List RK
def mv (m : Mg) : MV := ⟨m.kind, m.frm, m.inc, m.lo, m.hi, m.seq, m.tgt, m.life, m.epoch, m.base, rks m.recs⟩
theorem sameM_mv (a b : Mg) : sameM a b = true ↔ mv a = mv b := by
  simp only [sameM, sender, numbers, Bool.and_eq_true, decide_eq_true_eq, mv, MV.mk.injEq]
  constructor
  · rintro ⟨⟨⟨⟨⟨h1, h2⟩, h3⟩, h4, h5⟩, ⟨⟨⟨h6, h7⟩, h8⟩, h9⟩, h10⟩, h11⟩; exact ⟨h1, h2, h3, h4, h5, h6, h7, h8, h9, h10, h11⟩
  · rintro ⟨h1, h2, h3, h4, h5, h6, h7, h8, h9, h10, h11⟩; exact ⟨⟨⟨⟨⟨h1, h2⟩, h3⟩, h4, h5⟩, ⟨⟨⟨h6, h7⟩, h8⟩, h9⟩, h10⟩, h11⟩

/-- May what it says be? -/
def MV.nums (x : MV) : Prop :=
  (1 ≤ x.kind ∧ x.kind ≤ 9) ∧ (0 ≤ x.frm ∧ x.frm ≤ 4095) ∧ (0 ≤ x.inc ∧ x.inc ≤ 281474976710655) ∧
  (0 ≤ x.seq ∧ x.seq ≤ 65535 ∧ (0 < x.seq → hasB x.kind 0 = true)) ∧
  (0 ≤ x.tgt ∧ x.tgt ≤ 4095 ∧ (0 < x.tgt → hasB x.kind 1 = true) ∧ (x.kind = 3 → 1 ≤ x.tgt ∧ x.tgt ≤ 3)) ∧
  (0 ≤ x.life ∧ x.life ≤ 281474976710655 ∧ 0 ≤ x.epoch ∧ x.epoch ≤ 65535 ∧ 0 ≤ x.base) ∧
  ((hasB x.kind 2 = false → ¬ (0 < x.life ∨ 0 < x.epoch)) ∧ ¬ (x.epoch = 0 ∧ 0 < x.life) ∧ ¬ (x.kind = 9 ∧ x.epoch = 0)) ∧
  ¬ (0 < x.base ∧ (x.kind ≠ 7 ∨ x.epoch ≤ x.base))
def MV.list (x : MV) : Bool := if hasB x.kind 4 = true then decide (x.recs.length ≤ 255) && sortR (-1) x.recs else decide (x.recs.length = 0)
def MV.may (x : MV) : Prop := x.nums ∧ okS x.lo x.hi = true ∧ x.list = true
theorem may_mv (m : Mg) : mayM m = true ↔ (mv m).may := by
  rw [mayM_nums]
  have e : (mv m).list = recsOk m := by simp [MV.list, recsOk, mv, rks_len]
  rw [MV.may, e]
  exact Iff.rfl

/-- Does it fit generation 1? -/
def MV.fit1 (x : MV) : Prop := x.may ∧ x.kind ≠ 9 ∧ x.life = 0 ∧ x.epoch = 0 ∧ x.base = 0 ∧ ∀ r ∈ x.recs, r.inc ≤ 65535 ∧ r.bag = []

/-! Bodies. -/
def lastB (r : RK) : Int := r.st + 4 * r.lo + 16 * r.hi + (if r.cut = true then 64 else 0)
def recB (r : RK) : List Int := digB 2 r.id ++ digB 2 r.inc ++ [lastB r]
def headB (x : MV) : List Int := [x.kind] ++ digB 2 x.frm ++ digB 6 x.inc ++ [x.lo * 16 + x.hi] ++ digB 2 x.seq ++ digB 2 x.tgt ++ [(x.recs.length : Int)]
def body1 (x : MV) : List Int := headB x ++ x.recs.flatMap recB

theorem recB_len (r : RK) : (recB r).length = 5 := by simp [recB, digB_len]
theorem headB_len (x : MV) : (headB x).length = 15 := by simp [headB, digB_len]
theorem recsB_len (l : List RK) : (l.flatMap recB).length = 5 * l.length := by
  induction l with
  | nil => rfl
  | cons r l ih => simp [recB_len, ih]; omega
theorem body1_len (x : MV) : (body1 x).length = 15 + 5 * x.recs.length := by rw [body1, List.length_append, headB_len, recsB_len]

/-- What five bytes say. -/
def recOf (b : List Int) : RK := (numB (b.take 2), numB ((b.drop 2).take 2), b.getD 4 0 % 4, b.getD 4 0 / 4 % 4, b.getD 4 0 / 16 % 4, decide (64 ≤ b.getD 4 0), [])
/-- What n fives of bytes say. -/
def recsOf : Nat → List Int → Option (List RK)
  | 0, _ => some []
  | n + 1, b => if 127 < b.getD 4 0 then none else (recsOf n (b.drop 5)).map (recOf b :: ·)
/-- What some bytes say, if all may be. -/
def readV (b : List Int) (rs : List RK) : MV := ⟨b.getD 0 0, numB ((b.drop 1).take 2), numB ((b.drop 3).take 6), b.getD 9 0 / 16, b.getD 9 0 % 16, numB ((b.drop 10).take 2), numB ((b.drop 12).take 2), 0, 0, 0, rs⟩
/-- The message of a body. -/
def Read1 (b : List Int) (x : MV) : Prop := 15 ≤ b.length ∧ (b.length : Int) = 15 + 5 * b.getD 14 0 ∧ ∃ rs, recsOf (b.getD 14 0).toNat (b.drop 15) = some rs ∧ x = readV b rs ∧ x.may ∧ x.kind ≠ 9

theorem lastB_range {r : RK} (h : mayR r = true) : 0 ≤ lastB r ∧ lastB r ≤ 127 ∧ lastB r % 4 = r.st ∧ lastB r / 4 % 4 = r.lo ∧ lastB r / 16 % 4 = r.hi ∧ decide (64 ≤ lastB r) = r.cut := by
  have hc : coreOk r = true := by simp only [mayR, Bool.and_eq_true] at h; exact h.1.1
  simp only [coreOk, Bool.and_eq_true, decide_eq_true_eq, okS] at hc
  obtain ⟨⟨⟨_, _⟩, h1⟩, h2⟩ := hc
  obtain ⟨id, inc, st, lo, hi, cut, bag⟩ := r
  simp only [RK.st, RK.lo, RK.hi] at h1 h2
  cases cut <;> simp only [lastB, RK.st, RK.lo, RK.hi, RK.cut] <;> simp <;> omega

theorem recOf_recB {r : RK} (h : mayR r = true) (hi : r.inc ≤ 65535) (hb : r.bag = []) (t : List Int) : (recB r ++ t).getD 4 0 = lastB r ∧ (recB r ++ t).drop 5 = t ∧ recOf (recB r ++ t) = r := by
  have hc : coreOk r = true := by simp only [mayR, Bool.and_eq_true] at h; exact h.1.1
  simp only [coreOk, Bool.and_eq_true, decide_eq_true_eq] at hc
  obtain ⟨⟨⟨c1, c2⟩, _⟩, _⟩ := hc
  have l2 : ∀ v, (digB 2 v).length = 2 := digB_len 2
  have e4 : (recB r ++ t).getD 4 0 = lastB r := by
    simp [recB, List.getD, List.getElem?_append, l2]
  have e5 : (recB r ++ t).drop 5 = t := by
    rw [List.drop_append_of_le_length (by rw [recB_len]; omega), List.drop_of_length_le (by rw [recB_len]; omega)]; simp
  refine ⟨e4, e5, ?_⟩
  obtain ⟨_, _, g1, g2, g3, g4⟩ := lastB_range h
  have t1 : (recB r ++ t).take 2 = digB 2 r.id := by
    rw [recB, List.append_assoc, List.append_assoc, List.take_append_of_le_length (by rw [l2]; omega), List.take_of_length_le (by rw [l2]; omega)]
  have t2 : ((recB r ++ t).drop 2).take 2 = digB 2 r.inc := by
    rw [recB, List.append_assoc, List.append_assoc, List.drop_append_of_le_length (by rw [l2]; omega), List.drop_of_length_le (by rw [l2]; omega), List.nil_append, List.take_append_of_le_length (by rw [l2]; omega), List.take_of_length_le (by rw [l2]; omega)]
  rw [recOf, e4, t1, t2, g1, g2, g3, g4, num_digs 2 _ c1.1 (by have := c1.2; omega), num_digs 2 _ c2.1 (by omega)]
  obtain ⟨id, inc, st, lo, hi, cut, bag⟩ := r
  simp only [RK.bag] at hb
  subst hb
  rfl

theorem sort_may : ∀ {l : List RK} {a : Int}, sortR a l = true → ∀ r ∈ l, mayR r = true
  | [], _, _, r, hr => by simp at hr
  | x :: l, a, h, r, hr => by
    simp only [sortR, Bool.and_eq_true] at h
    rcases List.mem_cons.1 hr with rfl | hr
    · exact h.1.1
    · exact sort_may h.2 r hr

theorem recsOf_recsB : ∀ (l : List RK) (t : List Int), (∀ r ∈ l, mayR r = true ∧ r.inc ≤ 65535 ∧ r.bag = []) → recsOf l.length (l.flatMap recB ++ t) = some l
  | [], t, _ => rfl
  | r :: l, t, h => by
    obtain ⟨h1, h2, h3⟩ := h r (by simp)
    have e : (r :: l).flatMap recB ++ t = recB r ++ (l.flatMap recB ++ t) := by simp
    obtain ⟨e4, e5, e6⟩ := recOf_recB h1 h2 h3 (l.flatMap recB ++ t)
    have := (lastB_range h1).2.1
    rw [e, List.length_cons, recsOf, e4, if_neg (by omega), e5, e6, recsOf_recsB l t (fun x hx => h x (by simp [hx]))]
    rfl

theorem list_may {x : MV} (h : x.list = true) : x.recs.length ≤ 255 ∧ ∀ r ∈ x.recs, mayR r = true := by
  unfold MV.list at h
  split at h
  · simp only [Bool.and_eq_true, decide_eq_true_eq] at h
    exact ⟨h.1, sort_may h.2⟩
  · simp only [decide_eq_true_eq] at h
    have : x.recs = [] := List.eq_nil_of_length_eq_zero h
    rw [this]; simp

theorem two_of {l : List Int} (h : l.length = 2) : ∃ a b, l = [a, b] := by
  match l, h with
  | [a, b], _ => exact ⟨a, b, rfl⟩
theorem six_of {l : List Int} (h : l.length = 6) : ∃ a b c d e f, l = [a, b, c, d, e, f] := by
  match l, h with
  | [a, b, c, d, e, f], _ => exact ⟨a, b, c, d, e, f, rfl⟩

/-- What fits is read back. -/
theorem read_body {x : MV} (h : x.fit1) : Read1 (body1 x) x := by
  obtain ⟨hm, h9, hl, he, hb, hr⟩ := h
  have hlist := list_may hm.2.2
  have hs := okS_yes hm.2.1
  have hn := hm.1
  unfold MV.nums at hn
  obtain ⟨n1, n2, n3, n4, n5, _⟩ := hn
  have R := recsOf_recsB x.recs [] (fun r hrm => ⟨hlist.2 r hrm, hr r hrm⟩)
  rw [List.append_nil] at R
  obtain ⟨f0, f1, ef⟩ := two_of (digB_len 2 x.frm)
  obtain ⟨i0, i1, i2, i3, i4, i5, ei⟩ := six_of (digB_len 6 x.inc)
  obtain ⟨s0, s1, es⟩ := two_of (digB_len 2 x.seq)
  obtain ⟨t0, t1, et⟩ := two_of (digB_len 2 x.tgt)
  have kf := num_digs 2 x.frm (by omega) (by omega)
  have ki := num_digs 6 x.inc (by omega) (by omega)
  have ks := num_digs 2 x.seq (by omega) (by omega)
  have kt := num_digs 2 x.tgt (by omega) (by omega)
  rw [ef] at kf
  rw [ei] at ki
  rw [es] at ks
  rw [et] at kt
  have e : body1 x = x.kind :: f0 :: f1 :: i0 :: i1 :: i2 :: i3 :: i4 :: i5 :: (x.lo * 16 + x.hi) :: s0 :: s1 :: t0 :: t1 :: (x.recs.length : Int) :: x.recs.flatMap recB := by
    rw [body1, headB, ef, ei, es, et]; rfl
  have e14 : (body1 x).getD 14 0 = (x.recs.length : Int) := by rw [e]; rfl
  refine ⟨by rw [body1_len]; omega, by rw [body1_len, e14]; omega, x.recs, ?_, ?_, hm, h9⟩
  · rw [e14, Int.toNat_natCast, e]
    exact R
  · rw [e]
    show x = ⟨x.kind, numB [f0, f1], numB [i0, i1, i2, i3, i4, i5], (x.lo * 16 + x.hi) / 16, (x.lo * 16 + x.hi) % 16, numB [s0, s1], numB [t0, t1], 0, 0, 0, x.recs⟩
    rw [kf, ki, ks, kt, show (x.lo * 16 + x.hi) / 16 = x.lo by omega, show (x.lo * 16 + x.hi) % 16 = x.hi by omega]
    cases x
    simp only at hl he hb
    subst hl he hb
    rfl

theorem num_small2 {a b : Int} (ha : 0 ≤ a ∧ a < 256) (hb : 0 ≤ b ∧ b < 256) : 0 ≤ numB [a, b] ∧ numB [a, b] ≤ 65535 := by rw [num2]; omega

theorem recs_read : ∀ (n : Nat) (b : List Int) (rs : List RK), isB b → b.length = 5 * n → recsOf n b = some rs → rs.flatMap recB = b ∧ rs.length = n ∧ ∀ r ∈ rs, r.inc ≤ 65535 ∧ r.bag = []
  | 0, b, rs, _, hl, h => by
    have : b = [] := List.eq_nil_of_length_eq_zero (by omega)
    subst this
    simp [recsOf] at h
    subst h
    simp
  | n + 1, b, rs, hb, hl, h => by
    match b, hl with
    | b0 :: b1 :: b2 :: b3 :: v :: t, hl =>
      rw [recsOf] at h
      have e4 : (b0 :: b1 :: b2 :: b3 :: v :: t).getD 4 0 = v := rfl
      rw [e4] at h
      split at h
      · simp at h
      · rename_i hv
        have h0 := hb b0 (by simp)
        have h1 := hb b1 (by simp)
        have h2 := hb b2 (by simp)
        have h3 := hb b3 (by simp)
        have h4 := hb v (by simp)
        obtain ⟨rt, hrt, rfl⟩ := Option.map_eq_some_iff.1 h
        have ht : recsOf n t = some rt := hrt
        obtain ⟨r1, r2, r3⟩ := recs_read n t rt (fun y hy => hb y (by simp [hy])) (by simp at hl; omega) ht
        have er : recOf (b0 :: b1 :: b2 :: b3 :: v :: t) = (numB [b0, b1], numB [b2, b3], v % 4, v / 4 % 4, v / 16 % 4, decide (64 ≤ v), []) := rfl
        have el : lastB (numB [b0, b1], numB [b2, b3], v % 4, v / 4 % 4, v / 16 % 4, decide (64 ≤ v), []) = v := by
          show v % 4 + 4 * (v / 4 % 4) + 16 * (v / 16 % 4) + (if decide (64 ≤ v) = true then 64 else 0) = v
          by_cases q : 64 ≤ v
          · simp [q]; omega
          · simp [q]; omega
        refine ⟨?_, by simp [r2], ?_⟩
        · rw [List.flatMap_cons, er, recB, el]
          show digB 2 (numB [b0, b1]) ++ digB 2 (numB [b2, b3]) ++ [v] ++ _ = _
          rw [digs2 b0 b1 h0 h1, digs2 b2 b3 h2 h3, r1]
          rfl
        · intro r hr
          rcases List.mem_cons.1 hr with rfl | hr
          · rw [er]; exact ⟨(num_small2 h2 h3).2, rfl⟩
          · exact r3 r hr

/-- What is read was written. -/
theorem body_read {b : List Int} {x : MV} (hb : isB b) (h : Read1 b x) : body1 x = b ∧ x.fit1 := by
  obtain ⟨h15, hlen, rs, hrs, rfl, hm, h9⟩ := h
  match b, h15 with
  | b0 :: b1 :: b2 :: b3 :: b4 :: b5 :: b6 :: b7 :: b8 :: b9 :: b10 :: b11 :: b12 :: b13 :: b14 :: t, _ =>
    have h0 := hb b0 (by simp)
    have h1 := hb b1 (by simp)
    have h2 := hb b2 (by simp)
    have h9b := hb b9 (by simp)
    have h10 := hb b10 (by simp)
    have h11 := hb b11 (by simp)
    have h12 := hb b12 (by simp)
    have h13 := hb b13 (by simp)
    have h14 := hb b14 (by simp)
    have e14 : (b0 :: b1 :: b2 :: b3 :: b4 :: b5 :: b6 :: b7 :: b8 :: b9 :: b10 :: b11 :: b12 :: b13 :: b14 :: t).getD 14 0 = b14 := rfl
    rw [e14] at hlen hrs
    have hrs' : recsOf b14.toNat t = some rs := hrs
    obtain ⟨r1, r2, r3⟩ := recs_read b14.toNat t rs (fun y hy => hb y (by simp [hy])) (by simp at hlen; omega) hrs'
    have d6 : digB 6 (numB [b3, b4, b5, b6, b7, b8]) = [b3, b4, b5, b6, b7, b8] := digs_num _ (fun y hy => hb y (by simp at hy; rcases hy with rfl | rfl | rfl | rfl | rfl | rfl <;> simp))
    refine ⟨?_, hm, h9, rfl, rfl, rfl, r3⟩
    have e : readV (b0 :: b1 :: b2 :: b3 :: b4 :: b5 :: b6 :: b7 :: b8 :: b9 :: b10 :: b11 :: b12 :: b13 :: b14 :: t) rs = ⟨b0, numB [b1, b2], numB [b3, b4, b5, b6, b7, b8], b9 / 16, b9 % 16, numB [b10, b11], numB [b12, b13], 0, 0, 0, rs⟩ := rfl
    rw [e, body1, headB]
    show [b0] ++ digB 2 (numB [b1, b2]) ++ digB 6 (numB [b3, b4, b5, b6, b7, b8]) ++ [b9 / 16 * 16 + b9 % 16] ++ digB 2 (numB [b10, b11]) ++ digB 2 (numB [b12, b13]) ++ [(rs.length : Int)] ++ rs.flatMap recB = _
    rw [digs2 b1 b2 h1 h2, d6, digs2 b10 b11 h10 h11, digs2 b12 b13 h12 h13, show b9 / 16 * 16 + b9 % 16 = b9 by omega, r2, r1, show ((b14.toNat : Nat) : Int) = b14 by omega]
    rfl
end Go.Proofs.YtmfkdohfejklhaaDoor
