/-
  The plain mathematics of layer 2: forms of numbers, and what bytes are as a number, the lowest seven bits first. No function of the program is named here.
-/
import Derived.Test.YtllaajajjodimaaBase
namespace Go.Proofs.Ytllaajajjodimaa
set_option linter.unusedSimpArgs false
set_option linter.unusedVariables false

/-- How many bytes a number's form has. -/
def L7 (v : Int) : Nat :=
  if v < 128 then 1 else if v < 16384 then 2 else if v < 2097152 then 3 else if v < 268435456 then 4 else if v < 34359738368 then 5 else
  if v < 4398046511104 then 6 else if v < 562949953421312 then 7 else if v < 72057594037927936 then 8 else if v < 9223372036854775808 then 9 else 10

theorem L7_cases (v : Int) : (v < 128 ∧ L7 v = 1) ∨ (128 ≤ v ∧ v < 16384 ∧ L7 v = 2) ∨ (16384 ≤ v ∧ v < 2097152 ∧ L7 v = 3) ∨ (2097152 ≤ v ∧ v < 268435456 ∧ L7 v = 4) ∨ (268435456 ≤ v ∧ v < 34359738368 ∧ L7 v = 5) ∨
    (34359738368 ≤ v ∧ v < 4398046511104 ∧ L7 v = 6) ∨ (4398046511104 ≤ v ∧ v < 562949953421312 ∧ L7 v = 7) ∨ (562949953421312 ≤ v ∧ v < 72057594037927936 ∧ L7 v = 8) ∨ (72057594037927936 ≤ v ∧ v < 9223372036854775808 ∧ L7 v = 9) ∨ (9223372036854775808 ≤ v ∧ L7 v = 10) := by
  generalize hL : L7 v = n
  unfold L7 at hL
  repeat (split at hL; omega)
  omega

theorem L7_bd (v : Int) : 1 ≤ L7 v ∧ L7 v ≤ 10 := by have := L7_cases v; omega

theorem ten {n : Nat} (h1 : 1 ≤ n) (h : n ≤ 10) : n = 1 ∨ n = 2 ∨ n = 3 ∨ n = 4 ∨ n = 5 ∨ n = 6 ∨ n = 7 ∨ n = 8 ∨ n = 9 ∨ n = 10 := by omega

theorem L7_le (v : Int) (n : Nat) (h1 : 1 ≤ n) (h : n ≤ 10) (hv : v < 18446744073709551616) : L7 v ≤ n ↔ v < 128 ^ n := by
  have c := L7_cases v
  rcases ten h1 h with rfl | rfl | rfl | rfl | rfl | rfl | rfl | rfl | rfl | rfl
  · rw [show (128 : Int) ^ 1 = 128 from rfl]; omega
  · rw [show (128 : Int) ^ 2 = 16384 from rfl]; omega
  · rw [show (128 : Int) ^ 3 = 2097152 from rfl]; omega
  · rw [show (128 : Int) ^ 4 = 268435456 from rfl]; omega
  · rw [show (128 : Int) ^ 5 = 34359738368 from rfl]; omega
  · rw [show (128 : Int) ^ 6 = 4398046511104 from rfl]; omega
  · rw [show (128 : Int) ^ 7 = 562949953421312 from rfl]; omega
  · rw [show (128 : Int) ^ 8 = 72057594037927936 from rfl]; omega
  · rw [show (128 : Int) ^ 9 = 9223372036854775808 from rfl]; omega
  · rw [show (128 : Int) ^ 10 = 1180591620717411303424 from rfl]; omega

theorem p7_pos (k : Nat) : (0 : Int) < 128 ^ k := Int.pow_pos (by omega)
theorem p7_mono {a b : Nat} (h : a ≤ b) : (128 : Int) ^ a ≤ 128 ^ b := by
  obtain ⟨c, rfl⟩ := Nat.exists_eq_add_of_le h
  have := Int.mul_le_mul_of_nonneg_left (show (1 : Int) ≤ 128 ^ c from p7_pos c) (Int.le_of_lt (p7_pos a))
  rw [Int.pow_add]
  omega
theorem p7_two (k : Nat) : (2 : Int) ^ (7 * k) = 128 ^ k := by rw [Int.pow_mul]; rfl

/-- The i-th seven bits. -/
def dg (v : Int) (i : Nat) : Int := v / 128 ^ i % 128
theorem dg_bd (v : Int) (i : Nat) : 0 ≤ dg v i ∧ dg v i < 128 := by unfold dg; omega
theorem dg_succ (v : Int) (i : Nat) : dg v (i + 1) = dg (v / 128) i := by
  unfold dg; rw [Int.pow_succ, Int.mul_comm, ← Int.ediv_ediv_of_nonneg (by omega)]
theorem div_succ (v : Int) (i : Nat) : v / 128 ^ (i + 1) = v / 128 ^ i / 128 := by
  rw [Int.pow_succ, ← Int.ediv_ediv_of_nonneg (Int.le_of_lt (p7_pos i))]

theorem div_zero_iff (v : Int) (hv : 0 ≤ v) (n : Nat) : v / 128 ^ n = 0 ↔ v < 128 ^ n := by
  constructor
  · intro h
    have h2 := Int.emod_lt_of_pos v (p7_pos n)
    have h3 := Int.mul_ediv_add_emod v (128 ^ n)
    rw [h] at h3
    simp at h3
    omega
  · intro h; exact Int.ediv_eq_zero_of_lt hv h

/-- Ahead of the last byte. -/
def pre (v : Int) (i : Nat) : List Int := (List.range i).map fun j => dg v j + 128
theorem pre_len (v : Int) (i : Nat) : (pre v i).length = i := by simp [pre]
theorem pre_succ (v : Int) (i : Nat) : pre v (i + 1) = pre v i ++ [dg v i + 128] := by simp [pre, List.range_succ]
theorem pre_isB (v : Int) (i : Nat) : isB (pre v i) := fun x hx => by
  simp [pre] at hx; obtain ⟨j, _, rfl⟩ := hx; have := dg_bd v j; omega
theorem pre_get (v : Int) (i j : Nat) (h : j < i) : (pre v i).getD j 0 = dg v j + 128 := by simp [pre, List.getD, h]

/-- A number's form. -/
def formV (v : Int) : List Int := pre v (L7 v - 1) ++ [dg v (L7 v - 1)]
theorem formV_len (v : Int) : (formV v).length = L7 v := by have := L7_bd v; simp [formV, pre_len]; omega
theorem formV_isB (v : Int) : isB (formV v) := (pre_isB _ _).append fun x hx => by
  simp at hx; subst hx; have := dg_bd v (L7 v - 1); omega

/-- What bytes are as a number, the lowest seven bits first. -/
def valB : List Int → Int
  | [] => 0
  | x :: l => x % 128 + 128 * valB l

theorem valB_nonneg (l : List Int) : 0 ≤ valB l := by
  induction l with
  | nil => simp [valB]
  | cons x l ih => simp only [valB]; omega

theorem valB_lt (l : List Int) : valB l < 128 ^ l.length := by
  induction l with
  | nil => simp [valB]
  | cons x l ih => simp only [valB, List.length_cons, Int.pow_succ]; omega

theorem valB_append (a b : List Int) : valB (a ++ b) = valB a + 128 ^ a.length * valB b := by
  induction a with
  | nil => simp [valB]
  | cons x l ih => simp only [List.cons_append, valB, List.length_cons, Int.pow_succ, ih]; rw [Int.mul_add, ← Int.add_assoc, Int.mul_comm (128 ^ l.length) 128, Int.mul_assoc]

theorem valB_snoc (a : List Int) (x : Int) : valB (a ++ [x]) = valB a + 128 ^ a.length * (x % 128) := by rw [valB_append]; simp [valB]

/-- The digits of what bytes are. -/
theorem dg_valB (l : List Int) (i : Nat) : dg (valB l) i = l.getD i 0 % 128 := by
  induction l generalizing i with
  | nil => simp [valB, dg]
  | cons x l ih =>
    have hd : (x % 128 + 128 * valB l) / 128 = valB l := by omega
    cases i with
    | zero => simp only [valB, dg, Int.pow_zero, Int.ediv_one, List.getD_cons_zero]; omega
    | succ i => rw [dg_succ]; simp only [valB, hd, List.getD_cons_succ]; exact ih i

theorem emod_mul' (v p : Int) (hp : 0 < p) : v % (128 * p) = v % 128 + 128 * (v / 128 % p) := by
  have h1 := Int.mul_ediv_add_emod v (128 * p)
  have h2 := Int.mul_ediv_add_emod v 128
  have h3 := Int.mul_ediv_add_emod (v / 128) p
  rw [← Int.ediv_ediv_of_nonneg (by omega)] at h1
  have h4 : 128 * p * (v / 128 / p) = 128 * (p * (v / 128 / p)) := by rw [Int.mul_assoc]
  omega

/-- Bytes whose seven bits are a number's are that number, as far as they go. -/
theorem valB_of (n : Nat) (v : Int) (f : Nat → Int) (h : ∀ i, i < n → f i % 128 = dg v i) : valB ((List.range n).map f) = v % 128 ^ n := by
  induction n generalizing v f with
  | zero => simp [valB]
  | succ n ih =>
    rw [List.range_succ_eq_map, List.map_cons, List.map_map, valB, h 0 (by omega), Int.pow_succ, Int.mul_comm (128 ^ n) 128, emod_mul' _ _ (p7_pos n), ih (v / 128) (f ∘ Nat.succ) (fun i hi => by rw [← dg_succ]; exact h (i + 1) (by omega))]
    simp [dg]

theorem formV_map (v : Int) : formV v = (List.range (L7 v)).map fun i => dg v i + if i + 1 < L7 v then 128 else 0 := by
  have hb := L7_bd v
  obtain ⟨n, hn⟩ : ∃ n, L7 v = n + 1 := ⟨L7 v - 1, by omega⟩
  unfold formV pre
  rw [hn, List.range_succ, List.map_append]
  simp

theorem valB_formV (v : Int) (h0 : 0 ≤ v) (hv : v < 18446744073709551616) : valB (formV v) = v := by
  have hb := L7_bd v
  rw [formV_map, valB_of (L7 v) v]
  · exact Int.emod_eq_of_lt h0 ((L7_le v (L7 v) hb.1 hb.2 hv).1 (Nat.le_refl _))
  · intro i _
    have := dg_bd v i
    split <;> omega

/-- How many bytes there are ahead of the first one below 128, ten at most. -/
def endP (l : List Int) : Nat := ((l.take 10).takeWhile fun x => decide (128 ≤ x)).length

theorem endP_le (l : List Int) : endP l ≤ 10 ∧ endP l ≤ l.length := by
  have h := (List.takeWhile_prefix (fun x : Int => decide (128 ≤ x)) (l := l.take 10)).length_le
  simp at h; unfold endP; omega

theorem tw_get {p : Int → Bool} (l : List Int) (t : Nat) (h : t < (l.takeWhile p).length) : p (l.getD t 0) = true := by
  induction l generalizing t with
  | nil => simp at h
  | cons x l ih =>
    rw [List.takeWhile_cons] at h
    split at h
    · cases t with
      | zero => simpa
      | succ t => simp at h; simpa using ih t h
    · simp at h

theorem tw_end {p : Int → Bool} (l : List Int) (h : (l.takeWhile p).length < l.length) : p (l.getD (l.takeWhile p).length 0) = false := by
  induction l with
  | nil => simp at h
  | cons x l ih =>
    rw [List.takeWhile_cons] at h ⊢
    by_cases hx : p x
    · simp [hx] at h ⊢; exact ih h
    · simp [hx]

theorem tw_unique {p : Int → Bool} (l : List Int) (k : Nat) (hk : k ≤ l.length) (h : ∀ t, t < k → p (l.getD t 0) = true) (he : k < l.length → p (l.getD k 0) = false) : (l.takeWhile p).length = k := by
  induction l generalizing k with
  | nil => simp at hk; simp [hk]
  | cons x l ih =>
    rw [List.takeWhile_cons]
    cases k with
    | zero => have := he (by simp); simp at this; simp [this]
    | succ k =>
      have hx := h 0 (by omega)
      simp at hx
      simp [hx]
      refine ih k (by simpa using hk) (fun t ht => ?_) (fun ht => ?_)
      · have := h (t + 1) (by omega); simpa using this
      · have := he (by simpa using ht); simpa using this

theorem getD_take (l : List Int) (k t : Nat) (h : t < k) : (l.take k).getD t 0 = l.getD t 0 := by simp [List.getD, List.getElem?_take, h]

theorem endP_ge (l : List Int) (t : Nat) (h : t < endP l) : 128 ≤ l.getD t 0 := by
  have := tw_get (l.take 10) t h
  have h2 := endP_le l
  rw [getD_take l 10 t (by omega)] at this
  simpa using this

theorem endP_lt (l : List Int) (h : endP l < 10) (h2 : endP l < l.length) : l.getD (endP l) 0 < 128 := by
  have := tw_end (p := fun x => decide (128 ≤ x)) (l.take 10) (by show endP l < _; simp; omega)
  rw [show ((l.take 10).takeWhile fun x => decide (128 ≤ x)).length = endP l from rfl, getD_take l 10 _ h] at this
  simpa using this

theorem endP_eq (l : List Int) (k : Nat) (hk : k ≤ l.length) (h10 : k ≤ 10) (h : ∀ t, t < k → 128 ≤ l.getD t 0) (he : k < 10 → k < l.length → l.getD k 0 < 128) : endP l = k := by
  refine tw_unique (l.take 10) k (by simp; omega) (fun t ht => ?_) (fun ht => ?_)
  · rw [getD_take l 10 t (by omega)]; simpa using h t ht
  · simp at ht; rw [getD_take l 10 k (by omega)]; simpa using he (by omega) (by omega)

/-- What 'Get' answers of any bytes: the number, how many bytes, the error. -/
def getBad (l : List Int) : Bool := decide (10 ≤ endP l) || (decide (endP l < l.length) && (decide (endP l = 9 ∧ 1 < l.getD 9 0) || decide (0 < endP l ∧ l.getD (endP l) 0 = 0)))
def getShort (l : List Int) : Bool := decide (endP l < 10 ∧ l.length ≤ endP l)

/-- What is read of good bytes has their form. -/
theorem good_form (m : List Int) (n : Nat) (hn : m.length = n + 1) (h9 : n ≤ 9) (hB : isB m) (h : ∀ t, t < n → 128 ≤ m.getD t 0) (hl : m.getD n 0 < 128) (h1 : n = 0 ∨ m.getD n 0 ≠ 0) (h10 : n = 9 → m.getD 9 0 ≤ 1) :
    0 ≤ valB m ∧ valB m < 18446744073709551616 ∧ formV (valB m) = m := by
  have hb := hB.getD n
  have e0 : m = m.take n ++ [m.getD n 0] := by
    have hlt : n < m.length := by omega
    have := List.take_succ_eq_append_getElem hlt
    rw [List.take_of_length_le (by omega)] at this
    rw [show m.getD n 0 = m[n] by simp [List.getD, hlt]]
    exact this
  have hlen : (m.take n).length = n := by simp; omega
  have hv := valB_snoc (m.take n) (m.getD n 0)
  rw [← e0, hlen, Int.emod_eq_of_lt hb.1 hl] at hv
  have a1 := valB_nonneg (m.take n)
  have a2 := valB_lt (m.take n)
  rw [hlen] at a2
  have a3 := p7_pos n
  have hmul : m.getD n 0 ≠ 0 → 128 ^ n ≤ (128 : Int) ^ n * m.getD n 0 := fun hne => by
    have := Int.mul_le_mul_of_nonneg_left (show 1 ≤ m.getD n 0 by omega) (Int.le_of_lt a3)
    omega
  have hlt : valB m < 18446744073709551616 := by
    by_cases hn9 : n = 9
    · subst hn9
      have := h10 rfl
      have hp : (128 : Int) ^ 9 = 9223372036854775808 := rfl
      rw [hp] at hv a2
      omega
    · have h8 := valB_lt m
      rw [hn] at h8
      have : (128 : Int) ^ (n + 1) ≤ 128 ^ 9 := p7_mono (by omega)
      have hp : (128 : Int) ^ 9 = 9223372036854775808 := rfl
      omega
  have hL : L7 (valB m) = n + 1 := by
    have u := (L7_le (valB m) (n + 1) (by omega) (by omega) hlt).2 (by have := valB_lt m; rw [hn] at this; exact this)
    rcases h1 with rfl | hne
    · have := L7_bd (valB m); omega
    · by_cases hn0 : n = 0
      · have := L7_bd (valB m); omega
      · have l := mt (L7_le (valB m) n (by omega) (by omega) hlt).1 (by have := hmul hne; omega)
        omega
  refine ⟨valB_nonneg m, hlt, ?_⟩
  rw [formV_map, hL]
  apply List.ext_getElem
  · simp [hn]
  · intro i g1 g2
    simp at g1 ⊢
    rw [dg_valB]
    have gi : m.getD i 0 = m[i] := by simp [List.getD, g2]
    have bi := hB.getD i
    rw [gi] at bi ⊢
    by_cases hi : i < n
    · have := h i hi
      rw [gi] at this
      simp [hi]; omega
    · obtain rfl : i = n := by omega
      rw [gi] at hl
      simp; omega

/-- Of good bytes at the front. -/
theorem take_good (l : List Int) (hB : isB l) (h9 : endP l ≤ 9) (hs : endP l < l.length) (hbad : getBad l = false) :
    0 ≤ valB (l.take (endP l + 1)) ∧ valB (l.take (endP l + 1)) < 18446744073709551616 ∧ formV (valB (l.take (endP l + 1))) = l.take (endP l + 1) := by
  have hb : ¬ (endP l = 9 ∧ 1 < l.getD 9 0) ∧ ¬ (0 < endP l ∧ l.getD (endP l) 0 = 0) := by
    unfold getBad at hbad
    simp only [Bool.or_eq_false_iff, Bool.and_eq_false_imp, decide_eq_true hs, decide_eq_false_iff_not, forall_const] at hbad
    exact hbad.2
  refine good_form _ (endP l) (by simp; omega) h9 (hB.take _) (fun t ht => ?_) ?_ ?_ (fun h => ?_)
  · rw [getD_take l _ t (by omega)]; exact endP_ge l t ht
  · rw [getD_take l _ _ (by omega)]; exact endP_lt l (by omega) hs
  · rw [getD_take l _ _ (by omega)]; omega
  · rw [getD_take l _ _ (by omega)]; omega

/-- A form at the front of any bytes. -/
theorem form_front (v : Int) (h0 : 0 ≤ v) (hv : v < 18446744073709551616) (b : List Int) :
    endP (formV v ++ b) = L7 v - 1 ∧ getBad (formV v ++ b) = false ∧ (formV v ++ b).take (L7 v) = formV v := by
  have hb := L7_bd v
  have hlen := formV_len v
  have hpl := pre_len v (L7 v - 1)
  have gt : ∀ t, t < L7 v - 1 → (formV v ++ b).getD t 0 = dg v t + 128 := fun t ht => by
    have : (formV v ++ b).getD t 0 = (pre v (L7 v - 1)).getD t 0 := by
      simp only [formV, List.getD, List.append_assoc]
      rw [List.getElem?_append_left (by omega)]
    rw [this, pre_get _ _ _ ht]
  have gl : (formV v ++ b).getD (L7 v - 1) 0 = dg v (L7 v - 1) := by
    simp only [formV, List.getD, List.append_assoc]
    rw [List.getElem?_append_right (by omega)]
    simp [hpl]
  have hd := dg_bd v (L7 v - 1)
  have he : endP (formV v ++ b) = L7 v - 1 := by
    refine endP_eq _ _ (by simp [hlen]; omega) (by omega) (fun t ht => ?_) (fun _ _ => ?_)
    · rw [gt t ht]; have := dg_bd v t; omega
    · rw [gl]; omega
  refine ⟨he, ?_, ?_⟩
  · have hnz : L7 v - 1 = 0 ∨ dg v (L7 v - 1) ≠ 0 := by
      by_cases h1 : L7 v = 1
      · left; omega
      · right
        have q := mt (L7_le v (L7 v - 1) (by omega) (by omega) hv).2 (by omega)
        have q2 := (L7_le v (L7 v) hb.1 hb.2 hv).1 (Nat.le_refl _)
        have q3 := mt (div_zero_iff v h0 (L7 v - 1)).1 q
        have q4 : v / 128 ^ (L7 v - 1) < 128 := by
          apply Int.ediv_lt_of_lt_mul (p7_pos _)
          rw [Int.mul_comm, ← Int.pow_succ, Nat.succ_eq_add_one, show L7 v - 1 + 1 = L7 v by omega]
          exact q2
        have q5 : 0 ≤ v / 128 ^ (L7 v - 1) := Int.ediv_nonneg h0 (Int.le_of_lt (p7_pos _))
        unfold dg
        omega
    have h10 : L7 v - 1 = 9 → dg v (L7 v - 1) ≤ 1 := fun h => by
      rw [h]
      have hp : (128 : Int) ^ 9 = 9223372036854775808 := rfl
      unfold dg
      rw [hp]
      omega
    unfold getBad
    rw [he]
    have e9 : ¬ (L7 v - 1 = 9 ∧ 1 < (formV v ++ b).getD 9 0) := by
      rintro ⟨e, g⟩
      have := h10 e
      rw [e] at gl this
      omega
    have e0 : ¬ (0 < L7 v - 1 ∧ (formV v ++ b).getD (L7 v - 1) 0 = 0) := by rw [gl]; omega
    rw [decide_eq_false e9, decide_eq_false e0]
    simp; omega
  · rw [List.take_append_of_le_length (by omega), List.take_of_length_le (by omega)]

end Go.Proofs.Ytllaajajjodimaa
