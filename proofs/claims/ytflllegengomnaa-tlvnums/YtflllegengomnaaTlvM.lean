/-
  Items as plain Lean: what they come to, which items bytes are. No function of the program is named here.
-/
import Derived.Test.YtflllegengomnaaBagF
import Derived.Test.YtflllegengomnaaOctS
namespace Go.Proofs.Ytflllegengomnaa
open Go.RowKit
set_option linter.unusedSimpArgs false
set_option linter.unusedVariables false
set_option maxRecDepth 10000

/-- An item as bytes. -/
def encK (x : Key) : List Int := x.1 % 256 :: (x.2.length : Int) / 256 % 256 :: (x.2.length : Int) % 256 :: x.2
def joinK (l : List Key) : List Int := l.flatMap encK
theorem encK_len (x : Key) : (encK x).length = 3 + x.2.length := by simp [encK]; omega
theorem joinK_nil : joinK [] = [] := rfl
theorem joinK_cons (x : Key) (l : List Key) : joinK (x :: l) = encK x ++ joinK l := by simp [joinK]
theorem joinK_append (a b : List Key) : joinK (a ++ b) = joinK a ++ joinK b := by simp [joinK]
theorem joinK_one (x : Key) : joinK [x] = encK x := by simp [joinK]

/-- What may not be about an item: 5, its tag; 3, its length. -/
def fltK (x : Key) : Int := if x.1 < 0 ∨ 255 < x.1 then 5 else if 65535 < x.2.length then 3 else 0
def fltL : List Key → Int
  | [] => 0
  | x :: t => if fltK x = 0 then fltL t else fltK x
theorem fltK_ok {x : Key} (h : fltK x = 0) : (0 ≤ x.1 ∧ x.1 ≤ 255) ∧ x.2.length ≤ 65535 := by
  unfold fltK at h
  split at h
  · omega
  · split at h
    · omega
    · omega
theorem fltK_of {x : Key} (h1 : 0 ≤ x.1) (h2 : x.1 ≤ 255) (h3 : x.2.length ≤ 65535) : fltK x = 0 := by
  unfold fltK
  rw [if_neg (by omega), if_neg (by omega)]
theorem fltL_ok {l : List Key} (h : fltL l = 0) : ∀ x ∈ l, fltK x = 0 := by
  induction l with
  | nil => intro x hx; cases hx
  | cons y l ih =>
    rw [fltL] at h
    by_cases q : fltK y = 0
    · rw [if_pos q] at h
      intro x hx
      rcases List.mem_cons.1 hx with rfl | hx
      · exact q
      · exact ih h x hx
    · rw [if_neg q] at h; exact absurd h q
theorem fltL_of {l : List Key} (h : ∀ x ∈ l, fltK x = 0) : fltL l = 0 := by
  induction l with
  | nil => rfl
  | cons y l ih => rw [fltL, if_pos (h y (by simp))]; exact ih fun x hx => h x (by simp [hx])
theorem fltL_at {a : List Key} {x : Key} {b : List Key} (h : ∀ y ∈ a, fltK y = 0) (hx : fltK x ≠ 0) : fltL (a ++ x :: b) = fltK x := by
  induction a with
  | nil => rw [List.nil_append, fltL, if_neg hx]
  | cons y a ih => rw [List.cons_append, fltL, if_pos (h y (by simp))]; exact ih fun z hz => h z (by simp [hz])

theorem encK_isB {x : Key} (hd : isB x.2) : isB (encK x) := fun y hy => by
  simp only [encK, List.mem_cons] at hy
  rcases hy with rfl | rfl | rfl | h
  · omega
  · omega
  · omega
  · exact hd y h
theorem joinK_isB {l : List Key} (h : ∀ x ∈ l, isB x.2) : isB (joinK l) := fun y hy => by
  obtain ⟨x, hx, hy⟩ := List.mem_flatMap.1 hy
  exact encK_isB (h x hx) y hy

/-- How many bytes the first item says that it has. -/
def itLen (b : List Int) : Nat := (b.getD 1 0 * 256 + b.getD 2 0).toNat
def splitN : Nat → List Int → Option (List Key)
  | 0, _ => some []
  | k + 1, b =>
    if b.length = 0 then some []
    else if b.length < 3 + itLen b ∨ b.length < 3 then none
    else (splitN k (b.drop (3 + itLen b))).map ((b.getD 0 0, (b.drop 3).take (itLen b)) :: ·)
/-- The items that bytes are. -/
def splitB (b : List Int) : Option (List Key) := splitN b.length b
theorem splitN_fuel : ∀ (k m : Nat) (b : List Int), b.length ≤ k → b.length ≤ m → splitN k b = splitN m b
  | 0, 0, b, _, _ => rfl
  | 0, m + 1, b, h, _ => by rw [splitN, splitN, if_pos (by omega)]
  | k + 1, 0, b, _, h => by rw [splitN, splitN, if_pos (by omega)]
  | k + 1, m + 1, b, h1, h2 => by
    rw [splitN, splitN]
    split
    · rfl
    · split
      · rfl
      · rw [splitN_fuel k m _ (by simp; omega) (by simp; omega)]
theorem splitB_nil : splitB [] = some [] := rfl
theorem splitB_short {b : List Int} (h0 : 0 < b.length) (h : b.length < 3 + itLen b ∨ b.length < 3) : splitB b = none := by
  obtain ⟨k, hk⟩ : ∃ k, b.length = k + 1 := ⟨b.length - 1, by omega⟩
  rw [splitB, hk, splitN, if_neg (by omega), if_pos h]
theorem splitB_step {b : List Int} (h3 : 3 ≤ b.length) (h : 3 + itLen b ≤ b.length) : splitB b = (splitB (b.drop (3 + itLen b))).map ((b.getD 0 0, (b.drop 3).take (itLen b)) :: ·) := by
  obtain ⟨k, hk⟩ : ∃ k, b.length = k + 1 := ⟨b.length - 1, by omega⟩
  rw [splitB, hk, splitN, if_neg (by omega), if_neg (by omega), splitN_fuel k _ _ (by simp; omega) (Nat.le_refl _)]
  rfl

theorem itLen_enc {x : Key} (h : fltK x = 0) (t : List Int) : itLen (encK x ++ t) = x.2.length := by
  obtain ⟨_, h3⟩ := fltK_ok h
  have e1 : (encK x ++ t).getD 1 0 = (x.2.length : Int) / 256 % 256 := by simp [encK]
  have e2 : (encK x ++ t).getD 2 0 = (x.2.length : Int) % 256 := by simp [encK]
  rw [itLen, e1, e2]
  omega
/-- What was joined is split into the same items. -/
theorem split_join : ∀ (l : List Key), fltL l = 0 → splitB (joinK l) = some l
  | [], _ => rfl
  | x :: l, h => by
    have hall := fltL_ok h
    have hx := hall x (by simp)
    have hr := split_join l (fltL_of fun y hy => hall y (by simp [hy]))
    rw [joinK_cons]
    have hi := itLen_enc hx (joinK l)
    rw [splitB_step (by rw [List.length_append, encK_len]; omega) (by rw [hi, List.length_append, encK_len]; omega), hi]
    have e0 : (encK x ++ joinK l).getD 0 0 = x.1 := by
      obtain ⟨⟨h1, h2⟩, _⟩ := fltK_ok hx
      simp [encK]; omega
    have e1 : (encK x ++ joinK l).drop (3 + x.2.length) = joinK l := by rw [← encK_len x]; exact List.drop_left
    have e2 : ((encK x ++ joinK l).drop 3).take x.2.length = x.2 := by
      have : (encK x ++ joinK l).drop 3 = x.2 ++ joinK l := by simp [encK]
      rw [this]; exact List.take_left
    rw [e0, e1, e2, hr]
    rfl
/-- What is split may be joined, to the same bytes. -/
theorem join_split : ∀ (n : Nat) (b : List Int) (l : List Key), b.length ≤ n → isB b → splitB b = some l → fltL l = 0 ∧ joinK l = b ∧ ∀ x ∈ l, isB x.2
  | 0, b, l, hn, hb, h => by
    obtain rfl : b = [] := List.eq_nil_of_length_eq_zero (by omega)
    rw [splitB_nil] at h
    cases h
    exact ⟨rfl, rfl, by simp⟩
  | n + 1, b, l, hn, hb, h => by
    by_cases h0 : b.length = 0
    · obtain rfl : b = [] := List.eq_nil_of_length_eq_zero h0
      rw [splitB_nil] at h
      cases h
      exact ⟨rfl, rfl, by simp⟩
    · by_cases hs : b.length < 3 + itLen b ∨ b.length < 3
      · rw [splitB_short (by omega) hs] at h; cases h
      · rw [splitB_step (by omega) (by omega)] at h
        obtain ⟨t, ht, rfl⟩ := Option.map_eq_some_iff.1 h
        obtain ⟨i1, i2, i3⟩ := join_split n _ t (by simp; omega) (hb.drop _) ht
        have g0 := hb.getD 0
        have g1 := hb.getD 1
        have g2 := hb.getD 2
        have hl : ((b.drop 3).take (itLen b)).length = itLen b := by simp; omega
        have hI : itLen b = (b.getD 1 0 * 256 + b.getD 2 0).toNat := rfl
        have hx : fltK (b.getD 0 0, (b.drop 3).take (itLen b)) = 0 := fltK_of g0.1 (by simp only []; omega) (by rw [hl]; omega)
        refine ⟨fltL_of fun y hy => ?_, ?_, fun y hy => ?_⟩
        · rcases List.mem_cons.1 hy with rfl | hy
          · exact hx
          · exact fltL_ok i1 y hy
        · rw [joinK_cons, i2]
          have hd : b.drop (3 + itLen b) = (b.drop 3).drop (itLen b) := by rw [List.drop_drop]
          have e : encK (b.getD 0 0, (b.drop 3).take (itLen b)) = b.take 3 ++ (b.drop 3).take (itLen b) := by
            unfold encK
            simp only [hl]
            have e3 : b.take 3 = [b.getD 0 0, b.getD 1 0, b.getD 2 0] := by
              match b, hs with
              | x :: y :: z :: t, _ => simp
              | [_, _], hs => exact absurd (.inr (by simp)) hs
              | [_], hs => exact absurd (.inr (by simp)) hs
              | [], hs => exact absurd (.inr (by simp)) hs
            rw [e3, show b.getD 0 0 % 256 = b.getD 0 0 by omega, show (itLen b : Int) / 256 % 256 = b.getD 1 0 by rw [hI]; omega, show (itLen b : Int) % 256 = b.getD 2 0 by rw [hI]; omega]
            rfl
          rw [e, hd, List.append_assoc, List.take_append_drop, List.take_append_drop]
        · rcases List.mem_cons.1 hy with rfl | hy
          · exact (hb.drop 3).take _
          · exact i3 y hy

/-- The item that comes next, and what is left then. -/
def nxK (s : St) : Key := (nV 1 s, tV (nV 2 (nS 1 s)).toNat (nS 2 (nS 1 s)))
def nxS (s : St) : St := nS (nV 2 (nS 1 s)).toNat (nS 2 (nS 1 s))
theorem numB_take1 {l : List Int} (h : 1 ≤ l.length) : numB (l.take 1) = l.getD 0 0 := by
  match l, h with
  | x :: t, _ => simp [numB]
theorem numB_take2 {l : List Int} (h : 2 ≤ l.length) : numB (l.take 2) = l.getD 0 0 * 256 + l.getD 1 0 := by
  match l, h with
  | x :: y :: t, _ => simp [numB]
  | [_], h => simp at h
theorem nx_ok {b : List Int} (hb : isB b) (h3 : 3 ≤ b.length) (h : 3 + itLen b ≤ b.length) : nxK (some b) = (b.getD 0 0, (b.drop 3).take (itLen b)) ∧ nxS (some b) = some (b.drop (3 + itLen b)) := by
  have e1 : nS 1 (some b) = some (b.drop 1) := nS_some (by omega)
  have e2 : nS 2 (some (b.drop 1)) = some (b.drop 3) := by rw [nS_some (by simp; omega), List.drop_drop]
  have e3 : (nV 2 (some (b.drop 1))).toNat = itLen b := by
    rw [nV_some (by simp; omega), numB_take2 (by simp; omega), itLen]
    congr 2 <;> simp [List.getD]
  have e4 : (itLen b) ≤ (b.drop 3).length := by simp; omega
  refine ⟨?_, ?_⟩
  · rw [nxK, e1, e2, e3, nV_some (by omega), numB_take1 (by omega), tV, if_pos e4]
  · rw [nxS, e1, e2, e3, nS_some e4, List.drop_drop]
theorem nx_no {b : List Int} (h : b.length < 3 + itLen b ∨ b.length < 3) : nxS (some b) = none := by
  by_cases h1 : 1 ≤ b.length
  · have e1 : nS 1 (some b) = some (b.drop 1) := nS_some (by omega)
    by_cases h2 : 3 ≤ b.length
    · have e2 : nS 2 (some (b.drop 1)) = some (b.drop 3) := by rw [nS_some (by simp; omega), List.drop_drop]
      have e3 : (nV 2 (some (b.drop 1))).toNat = itLen b := by
        rw [nV_some (by simp; omega), numB_take2 (by simp; omega), itLen]
        congr 2 <;> simp [List.getD]
      rw [nxS, e1, e2, e3, nS_short (by simp; omega)]
    · rw [nxS, e1, nS_short (k := 2) (by simp; omega)]
      rfl
  · rw [nxS, nS_short (k := 1) (by omega)]
    rfl

/-- A number's bytes, if it is one. -/
def numD (n v : Int) : List Int := if (1 ≤ n ∧ n ≤ 7) ∧ (0 ≤ v ∧ v < 256 ^ n.toNat) then digB n.toNat v else []
end Go.Proofs.Ytflllegengomnaa
