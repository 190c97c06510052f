/-
  The plain mathematics of layer 3: the register of 32 bits, bit by bit, by half bytes and by bytes. No function of the program is named here.
-/
import Derived.Test.YtecdagmeobiahaaDoorBase
namespace Go.Proofs.YtecdagmeobiahaaDoor
set_option linter.unusedSimpArgs false
set_option linter.unusedVariables false

/-- The register, moved up by one bit: what goes out brings the polynomial in. -/
def lin (r : Nat) : Nat := ((r <<< 1) % 2 ^ 32) ^^^ (if r.testBit 31 then 79764919 else 0)

theorem p32 : (2 : Nat) ^ 32 = 4294967296 := rfl

theorem lin_lt (r : Nat) : lin r < 2 ^ 32 := by
  unfold lin
  refine Nat.xor_lt_two_pow (Nat.mod_lt _ (by decide)) ?_
  split <;> decide

theorem lin_xor (r s : Nat) : lin (r ^^^ s) = lin r ^^^ lin s := by
  apply Nat.eq_of_testBit_eq
  intro i
  simp only [lin, Nat.testBit_xor, Nat.testBit_mod_two_pow, Nat.testBit_shiftLeft]
  cases hr : r.testBit 31 <;> cases hs : s.testBit 31 <;> simp <;> cases decide (i < 32) <;> cases decide (1 ≤ i) <;> cases r.testBit (i - 1) <;> cases s.testBit (i - 1) <;> cases Nat.testBit 79764919 i <;> rfl

theorem lin_zero : lin 0 = 0 := by decide

theorem bit_zero {x : Nat} (hx : x < 2 ^ 32) (h : ∀ i, i < 32 → x.testBit i = false) : x = 0 := by
  apply Nat.eq_of_testBit_eq
  intro i
  rw [Nat.zero_testBit]
  by_cases hi : i < 32
  · exact h i hi
  · exact Nat.testBit_lt_two_pow (Nat.lt_of_lt_of_le hx (Nat.pow_le_pow_right (by omega) (by omega)))

theorem lin_ker (x : Nat) (hx : x < 2 ^ 32) (h : lin x = 0) : x = 0 := by
  have hb : ∀ i, (lin x).testBit i = false := fun i => by rw [h, Nat.zero_testBit]
  have h0 := hb 0
  simp only [lin, Nat.testBit_xor, Nat.testBit_mod_two_pow, Nat.testBit_shiftLeft] at h0
  have h31 : x.testBit 31 = false := by
    cases q : x.testBit 31
    · rfl
    · have p0 : Nat.testBit 79764919 0 = true := by decide
      simp [q, p0] at h0
  refine bit_zero hx fun i hi => ?_
  by_cases q : i = 31
  · rw [q]; exact h31
  · have := hb (i + 1)
    simp only [lin, Nat.testBit_xor, Nat.testBit_mod_two_pow, Nat.testBit_shiftLeft, h31] at this
    simpa [show i + 1 < 32 by omega] using this

/-- n bits up. -/
def linN : Nat → Nat → Nat
  | 0, r => r
  | n + 1, r => linN n (lin r)

theorem linN_xor (n r s : Nat) : linN n (r ^^^ s) = linN n r ^^^ linN n s := by
  induction n generalizing r s with
  | zero => rfl
  | succ n ih => simp only [linN, lin_xor, ih]

theorem linN_lt (n r : Nat) (h : r < 2 ^ 32) : linN n r < 2 ^ 32 := by
  induction n generalizing r with
  | zero => exact h
  | succ n ih => exact ih _ (lin_lt r)

theorem linN_ker (n x : Nat) (hx : x < 2 ^ 32) (h : linN n x = 0) : x = 0 := by
  induction n generalizing x with
  | zero => exact h
  | succ n ih => exact lin_ker x hx (ih _ (lin_lt x) h)

theorem xor_eq_zero (a b : Nat) (h : a ^^^ b = 0) : a = b := by
  apply Nat.eq_of_testBit_eq
  intro i
  have := congrArg (fun n => n.testBit i) h
  simp only [Nat.testBit_xor, Nat.zero_testBit] at this
  cases ha : a.testBit i <;> cases hb : b.testBit i <;> simp [ha, hb] at this ⊢

theorem xor_self (a : Nat) : a ^^^ a = 0 := by
  apply Nat.eq_of_testBit_eq
  intro i
  simp

theorem linN_inj (n a b : Nat) (ha : a < 2 ^ 32) (hb : b < 2 ^ 32) (h : linN n a = linN n b) : a = b := by
  refine xor_eq_zero _ _ (linN_ker n _ (Nat.xor_lt_two_pow ha hb) ?_)
  rw [linN_xor, h, xor_self]

theorem lin_small (r : Nat) (h : r < 2 ^ 31) : lin r = r * 2 := by
  unfold lin
  rw [Nat.testBit_lt_two_pow h, Nat.shiftLeft_eq, Nat.mod_eq_of_lt (by rw [p32]; rw [show (2 : Nat) ^ 31 = 2147483648 from rfl] at h; omega)]
  simp

theorem linN_small (n r : Nat) (hn : n ≤ 32) (h : r < 2 ^ (32 - n)) : linN n r = r * 2 ^ n := by
  induction n generalizing r with
  | zero => simp [linN]
  | succ n ih =>
    have e : 2 ^ (32 - n) = 2 ^ (32 - (n + 1)) * 2 := by rw [← Nat.pow_succ]; congr 1; omega
    have h31 : r < 2 ^ 31 := Nat.lt_of_lt_of_le h (Nat.pow_le_pow_right (by omega) (by omega))
    rw [linN, lin_small r h31, ih _ (by omega) (by omega), Nat.pow_succ, Nat.mul_assoc, Nat.mul_comm 2]

theorem linN_add (m n r : Nat) : linN (m + n) r = linN n (linN m r) := by
  induction m generalizing r with
  | zero => simp [linN]
  | succ m ih => rw [Nat.succ_add, linN, linN, ih]

/-- A high part and a low part, put together without a carry. -/
theorem xor_parts (a b i : Nat) (h : b < 2 ^ i) : a * 2 ^ i ^^^ b = a * 2 ^ i + b := by
  rw [Nat.mul_comm]
  apply Nat.eq_of_testBit_eq
  intro j
  rw [Nat.testBit_two_pow_mul_add a h, Nat.testBit_xor]
  by_cases hj : j < i
  · simp [hj, Nat.testBit_two_pow_mul, show ¬ i ≤ j by omega]
  · have := Nat.testBit_lt_two_pow (Nat.lt_of_lt_of_le h (Nat.pow_le_pow_right (by omega) (show i ≤ j by omega)))
    simp [hj, Nat.testBit_two_pow_mul, this, show i ≤ j by omega]

/-- One bit that is taken. -/
def bitR (r : Nat) (b : Bool) : Nat := lin (r ^^^ (if b then 2147483648 else 0))

theorem bitR_eq (r : Nat) (b : Bool) : bitR r b = ((r * 2) % 4294967296) ^^^ (if r.testBit 31 != b then 79764919 else 0) := by
  unfold bitR
  rw [lin_xor]
  have e : lin r = ((r * 2) % 4294967296) ^^^ (if r.testBit 31 then 79764919 else 0) := by unfold lin; rw [Nat.shiftLeft_eq, p32]
  have e1 : lin 2147483648 = 79764919 := by decide
  rw [e]
  cases b <;> cases r.testBit 31 <;> simp [lin_zero, e1, Nat.xor_assoc]

/-- n bits of c, the highest first. -/
def feed : Nat → Nat → Nat → Nat
  | 0, r, _ => r
  | n + 1, r, c => feed n (bitR r (c.testBit n)) c

theorem feed_lin (n r c : Nat) (hn : n ≤ 32) : feed n r c = linN n (r ^^^ (c % 2 ^ n) * 2 ^ (32 - n)) := by
  induction n generalizing r with
  | zero => simp [feed, linN, Nat.mod_one]
  | succ n ih =>
    rw [feed, ih _ (by omega), linN]
    congr 1
    have hu : c % 2 ^ n * 2 ^ (31 - n) < 2 ^ 31 := by
      have h1 : c % 2 ^ n < 2 ^ n := Nat.mod_lt _ (Nat.two_pow_pos n)
      have h2 : (2 : Nat) ^ 31 = 2 ^ n * 2 ^ (31 - n) := by rw [← Nat.pow_add]; congr 1; omega
      rw [h2]
      exact Nat.mul_lt_mul_of_pos_right h1 (Nat.two_pow_pos _)
    have ht : (c % 2 ^ (n + 1)) * 2 ^ (32 - (n + 1)) = (if c.testBit n then 2147483648 else 0) ^^^ (c % 2 ^ n * 2 ^ (31 - n)) := by
      have e31 : (2147483648 : Nat) = 2 ^ n * 2 ^ (31 - n) := by rw [← Nat.pow_add, show n + (31 - n) = 31 by omega]
      rw [show 32 - (n + 1) = 31 - n by omega]
      have hm : c % 2 ^ (n + 1) = c % 2 ^ n + 2 ^ n * (c / 2 ^ n % 2) := by rw [Nat.pow_succ, Nat.mod_mul]
      rw [Nat.testBit_eq_decide_div_mod_eq, hm]
      rcases Nat.mod_two_eq_zero_or_one (c / 2 ^ n) with q | q
      · simp [q]
      · rw [q]
        simp only [decide_true, if_true]
        have := xor_parts 1 (c % 2 ^ n * 2 ^ (31 - n)) 31 hu
        rw [show 1 * 2 ^ 31 = 2147483648 from rfl] at this
        rw [this, e31, Nat.add_mul, Nat.mul_one]
        omega
    rw [ht, ← Nat.xor_assoc, lin_xor (r ^^^ _), lin_small _ hu]
    unfold bitR
    rw [show 32 - n = 31 - n + 1 by omega, Nat.pow_succ, Nat.mul_assoc]

/-- A byte that is taken. -/
def byteR (r c : Nat) : Nat := linN 8 (r ^^^ c * 16777216)

theorem byteR_bits (r c : Nat) (hc : c < 256) : byteR r c = feed 8 r c := by
  rw [feed_lin 8 r c (by omega), show (2 : Nat) ^ 8 = 256 from rfl, Nat.mod_eq_of_lt hc]
  rfl

theorem byteR_lt (r c : Nat) (hr : r < 2 ^ 32) (hc : c < 256) : byteR r c < 2 ^ 32 :=
  linN_lt _ _ (Nat.xor_lt_two_pow hr (by rw [p32]; omega))

/-- Half a byte that is taken, by the table. -/
def tabR (k : Nat) : Nat := linN 4 (k * 268435456)
def halfR (r h : Nat) : Nat := linN 4 (r ^^^ h * 268435456)

theorem halfR_tab (r h : Nat) (hr : r < 2 ^ 32) (hh : h < 16) : halfR r h = (r * 16 % 4294967296) ^^^ tabR (r / 268435456 ^^^ h) := by
  have hr' : r < 4294967296 := by rw [p32] at hr; exact hr
  have e0 : r = (r / 268435456) * 2 ^ 28 + r % 268435456 := by rw [show (2 : Nat) ^ 28 = 268435456 from rfl]; omega
  have hlo : r % 268435456 < 2 ^ 28 := by rw [show (2 : Nat) ^ 28 = 268435456 from rfl]; omega
  have e1 : r = (r / 268435456) * 268435456 ^^^ r % 268435456 := by
    have := xor_parts (r / 268435456) (r % 268435456) 28 hlo
    rw [show (2 : Nat) ^ 28 = 268435456 from rfl] at this
    omega
  have e2 : linN 4 (r % 268435456) = r * 16 % 4294967296 := by
    rw [linN_small 4 _ (by omega) (by rw [show (2 : Nat) ^ (32 - 4) = 268435456 from rfl]; omega), show (2 : Nat) ^ 4 = 16 from rfl]
    omega
  have e3 : (r / 268435456 ^^^ h) * 268435456 = (r / 268435456) * 268435456 ^^^ h * 268435456 := by
    have m : ∀ x : Nat, x * 268435456 = x <<< 28 := fun x => by rw [Nat.shiftLeft_eq]
    rw [m, m, m, Nat.shiftLeft_xor_distrib]
  unfold halfR tabR
  rw [e3, linN_xor, linN_xor, ← e2]
  have e4 : linN 4 r = linN 4 (r / 268435456 * 268435456) ^^^ linN 4 (r % 268435456) := by rw [← linN_xor, ← e1]
  rw [e4, Nat.xor_comm (linN 4 (r % 268435456)), Nat.xor_assoc, Nat.xor_assoc, Nat.xor_comm (linN 4 (r % 268435456))]

theorem byteR_half (r c : Nat) (hc : c < 256) : byteR r c = halfR (halfR r (c / 16)) (c % 16) := by
  unfold byteR halfR
  have e : c * 16777216 = (c / 16) * 268435456 ^^^ (c % 16) * 16777216 := by
    have := xor_parts (c / 16) (c % 16 * 16777216) 28 (by rw [show (2 : Nat) ^ 28 = 268435456 from rfl]; omega)
    rw [show (2 : Nat) ^ 28 = 268435456 from rfl] at this
    omega
  have e2 : linN 4 (c % 16 * 16777216) = c % 16 * 268435456 := by
    rw [linN_small 4 _ (by omega) (by rw [show (2 : Nat) ^ (32 - 4) = 268435456 from rfl]; omega), show (2 : Nat) ^ 4 = 16 from rfl]
    omega
  rw [show (8 : Nat) = 4 + 4 from rfl, linN_add, e, ← Nat.xor_assoc, linN_xor 4 (r ^^^ _), e2]

/-- The register behind bytes. -/
def regB (r : Nat) (l : List Int) : Nat := l.foldl (fun r c => byteR r c.toNat) r
theorem regB_nil (r : Nat) : regB r [] = r := rfl
theorem regB_cons (r : Nat) (x : Int) (l : List Int) : regB r (x :: l) = regB (byteR r x.toNat) l := rfl
theorem regB_append (r : Nat) (a b : List Int) : regB r (a ++ b) = regB (regB r a) b := by simp [regB]
theorem regB_snoc (r : Nat) (a : List Int) (x : Int) : regB r (a ++ [x]) = byteR (regB r a) x.toNat := by rw [regB_append]; rfl

theorem regB_lt (r : Nat) (l : List Int) (hr : r < 2 ^ 32) (hl : isB l) : regB r l < 2 ^ 32 := by
  induction l generalizing r with
  | nil => exact hr
  | cons x l ih =>
    have hx := hl x (by simp)
    exact ih _ (byteR_lt r _ hr (by omega)) (fun y hy => hl y (by simp [hy]))

/-- The sum. -/
def sumB (l : List Int) : Nat := regB 4294967295 l ^^^ 4294967295

theorem sumB_lt (l : List Int) (hl : isB l) : sumB l < 2 ^ 32 := Nat.xor_lt_two_pow (regB_lt _ l (by decide) hl) (by decide)

theorem xor_cancel (a b c : Nat) (h : a ^^^ c = b ^^^ c) : a = b := by
  apply xor_eq_zero
  have : (a ^^^ c) ^^^ (b ^^^ c) = 0 := by rw [h, xor_self]
  rw [← this, Nat.xor_assoc, Nat.xor_comm b c, ← Nat.xor_assoc c, xor_self, Nat.zero_xor]

/-- Whoever differs goes on differing. -/
theorem regB_inj (l : List Int) (hl : isB l) (r s : Nat) (hr : r < 2 ^ 32) (hs : s < 2 ^ 32) (h : regB r l = regB s l) : r = s := by
  induction l generalizing r s with
  | nil => exact h
  | cons x l ih =>
    have hx := hl x (by simp)
    have := ih (fun y hy => hl y (by simp [hy])) _ _ (byteR_lt r _ hr (by omega)) (byteR_lt s _ hs (by omega)) h
    exact xor_cancel _ _ _ (linN_inj 8 _ _ (Nat.xor_lt_two_pow hr (by rw [p32]; omega)) (Nat.xor_lt_two_pow hs (by rw [p32]; omega)) this)

theorem byteR_inj (r c d : Nat) (hr : r < 2 ^ 32) (hc : c < 256) (hd : d < 256) (h : byteR r c = byteR r d) : c = d := by
  have h1 := linN_inj 8 _ _ (Nat.xor_lt_two_pow hr (by rw [p32]; omega)) (Nat.xor_lt_two_pow hr (by rw [p32]; omega)) h
  rw [Nat.xor_comm r, Nat.xor_comm r] at h1
  have := xor_cancel _ _ _ h1
  omega

/-- One byte that is turned turns the sum. -/
theorem sumB_turned (a b : List Int) (x y : Int) (ha : isB a) (hb : isB b) (hx : 0 ≤ x ∧ x < 256) (hy : 0 ≤ y ∧ y < 256) (h : x ≠ y) : sumB (a ++ x :: b) ≠ sumB (a ++ y :: b) := by
  intro e
  have e1 := xor_cancel _ _ _ e
  rw [regB_append, regB_append, regB_cons, regB_cons] at e1
  have hr := regB_lt 4294967295 a (by decide) ha
  have e2 := regB_inj b hb _ _ (byteR_lt _ _ hr (by omega)) (byteR_lt _ _ hr (by omega)) e1
  have := byteR_inj _ _ _ hr (by omega) (by omega) e2
  omega

/-- Four bytes, the highest first, are 32 bits. -/
theorem four_bytes (r s : Nat) (hs : s < 2 ^ 32) : byteR (byteR (byteR (byteR r (s / 16777216)) (s / 65536 % 256)) (s / 256 % 256)) (s % 256) = linN 32 (r ^^^ s) := by
  have hs' : s < 4294967296 := by rw [p32] at hs; exact hs
  have f : ∀ n m r c, n + m ≤ 32 → linN m (linN n r ^^^ c * 2 ^ (32 - m)) = linN m (linN n r) ^^^ linN m (c * 2 ^ (32 - m)) := fun n m r c _ => linN_xor m _ _
  have e1 : linN 8 (s / 65536 % 256 * 65536) = s / 65536 % 256 * 16777216 := by
    rw [linN_small 8 _ (by omega) (by rw [show (2 : Nat) ^ (32 - 8) = 16777216 from rfl]; omega), show (2 : Nat) ^ 8 = 256 from rfl]; omega
  have e2 : linN 16 (s / 256 % 256 * 256) = s / 256 % 256 * 16777216 := by
    rw [linN_small 16 _ (by omega) (by rw [show (2 : Nat) ^ (32 - 16) = 65536 from rfl]; omega), show (2 : Nat) ^ 16 = 65536 from rfl]; omega
  have e3 : linN 24 (s % 256) = s % 256 * 16777216 := by
    rw [linN_small 24 _ (by omega) (by rw [show (2 : Nat) ^ (32 - 24) = 256 from rfl]; omega), show (2 : Nat) ^ 24 = 16777216 from rfl]
  have es : s = ((s / 16777216 * 16777216 ^^^ s / 65536 % 256 * 65536) ^^^ s / 256 % 256 * 256) ^^^ s % 256 := by
    have a1 := xor_parts (s / 16777216) (s / 65536 % 256 * 65536) 24 (by rw [show (2 : Nat) ^ 24 = 16777216 from rfl]; omega)
    rw [show (2 : Nat) ^ 24 = 16777216 from rfl] at a1
    have a2 := xor_parts (s / 65536) (s / 256 % 256 * 256) 16 (by rw [show (2 : Nat) ^ 16 = 65536 from rfl]; omega)
    rw [show (2 : Nat) ^ 16 = 65536 from rfl] at a2
    have a3 := xor_parts (s / 256) (s % 256) 8 (by rw [show (2 : Nat) ^ 8 = 256 from rfl]; omega)
    rw [show (2 : Nat) ^ 8 = 256 from rfl] at a3
    rw [a1, show s / 16777216 * 16777216 + s / 65536 % 256 * 65536 = s / 65536 * 65536 by omega, a2, show s / 65536 * 65536 + s / 256 % 256 * 256 = s / 256 * 256 by omega, a3]
    omega
  unfold byteR
  rw [← e1, ← linN_xor, ← linN_add 8 8, ← e2, ← linN_xor, ← linN_add 16 8, ← e3, ← linN_xor, ← linN_add 24 8]
  rw [Nat.xor_assoc, Nat.xor_assoc, Nat.xor_assoc]
  congr 2
  conv => rhs; rw [es]
  simp only [Nat.xor_assoc]

/-- Bytes with their sum behind them have one sum. -/
theorem regB_tail (l : List Int) (hl : isB l) (s : Nat) (hs : s = sumB l) :
    regB 4294967295 (l ++ [((s / 16777216 : Nat) : Int), ((s / 65536 % 256 : Nat) : Int), ((s / 256 % 256 : Nat) : Int), ((s % 256 : Nat) : Int)]) = linN 32 4294967295 := by
  have hlt : s < 2 ^ 32 := by rw [hs]; exact sumB_lt l hl
  rw [regB_append, regB_cons, regB_cons, regB_cons, regB_cons, regB_nil]
  simp only [Int.toNat_natCast]
  rw [four_bytes _ s hlt, hs]
  unfold sumB
  rw [← Nat.xor_assoc, xor_self, Nat.zero_xor]

end Go.Proofs.YtecdagmeobiahaaDoor
