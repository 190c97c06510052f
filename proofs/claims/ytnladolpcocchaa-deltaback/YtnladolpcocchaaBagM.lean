/-
  Orders of lists and pairs, and how two bags stand to each other: no function is named here.
-/
import Derived.Test.YtnladolpcocchaaBagF
import Derived.Lib.Bytealg
import Derived.Lib.Bytes
namespace Go.Proofs.Ytnladolpcocchaa
open Go.RowKit
set_option linter.unusedSimpArgs false
set_option linter.unusedVariables false
set_option maxRecDepth 10000

/-- An order, as -1, 0 and 1. -/
structure Ord3 {α : Type} (c : α → α → Int) : Prop where
  rng : ∀ x y, c x y = -1 ∨ c x y = 0 ∨ c x y = 1
  anti : ∀ x y, c y x = -(c x y)
  eq : ∀ x y, c x y = 0 ↔ x = y
  tr : ∀ x y z, c x y < 0 → c y z < 0 → c x z < 0

def cmpI (a b : Int) : Int := if a < b then -1 else if b < a then 1 else 0
theorem cmpI_ord : Ord3 cmpI := by
  constructor
  · intro x y; unfold cmpI; split; simp; split <;> simp
  · intro x y; unfold cmpI; split <;> split <;> (try split) <;> omega
  · intro x y; unfold cmpI; split; simp; omega; split <;> simp <;> omega
  · intro x y z; unfold cmpI; repeat' split
    all_goals omega

def lexC {α : Type} (c : α → α → Int) : List α → List α → Int
  | [], [] => 0
  | [], _ :: _ => -1
  | _ :: _, [] => 1
  | x :: a, y :: b => if c x y = 0 then lexC c a b else c x y

theorem lexC_ord {α : Type} {c : α → α → Int} (h : Ord3 c) : Ord3 (lexC c) := by
  constructor
  · intro a
    induction a with
    | nil => intro b; cases b <;> simp [lexC]
    | cons x a ih =>
      intro b
      cases b with
      | nil => simp [lexC]
      | cons y b =>
        simp only [lexC]
        split
        · exact ih b
        · exact h.rng x y
  · intro a
    induction a with
    | nil => intro b; cases b <;> simp [lexC]
    | cons x a ih =>
      intro b
      cases b with
      | nil => simp [lexC]
      | cons y b =>
        have := h.anti x y
        simp only [lexC]
        split <;> split
        · exact ih b
        · omega
        · omega
        · exact this
  · intro a
    induction a with
    | nil => intro b; cases b <;> simp [lexC]
    | cons x a ih =>
      intro b
      cases b with
      | nil => simp [lexC]
      | cons y b =>
        have := h.eq x y
        simp only [lexC]
        split
        · rename_i q
          rw [ih b]
          simp [this.1 q]
        · rename_i q
          simp only [List.cons.injEq]
          constructor
          · intro k; exact absurd k q
          · intro k; exact absurd (this.2 k.1) q
  · intro a
    induction a with
    | nil =>
      intro b d
      cases b with
      | nil => simp [lexC]
      | cons y b => cases d <;> simp [lexC]
    | cons x a ih =>
      intro b d
      cases b with
      | nil => simp [lexC]
      | cons y b =>
        cases d with
        | nil => simp [lexC]
        | cons z d =>
          simp only [lexC]
          by_cases h1 : c x y = 0
          · obtain rfl := (h.eq x y).1 h1
            by_cases h2 : c x z = 0
            · simp only [h1, h2, if_true]
              exact ih b d
            · simp only [h1, h2, if_true, if_false]
              intro _ k; exact k
          · by_cases h2 : c y z = 0
            · obtain rfl := (h.eq y z).1 h2
              simp only [h1, h2, if_true, if_false]
              intro k _; exact k
            · simp only [h1, h2, if_false]
              intro k1 k2
              have h3 := h.tr x y z k1 k2
              rw [if_neg (by omega)]
              exact h3

def pairC {α β : Type} (c : α → α → Int) (e : β → β → Int) (x y : α × β) : Int := if c x.1 y.1 = 0 then e x.2 y.2 else c x.1 y.1
theorem pairC_ord {α β : Type} {c : α → α → Int} {e : β → β → Int} (h : Ord3 c) (k : Ord3 e) : Ord3 (pairC c e) := by
  constructor
  · intro x y; unfold pairC; split; exact k.rng _ _; exact h.rng _ _
  · intro x y
    have h1 := h.anti x.1 y.1
    have k1 := k.anti x.2 y.2
    unfold pairC; split <;> split
    · exact k1
    · omega
    · omega
    · exact h1
  · rintro ⟨a, b⟩ ⟨c', d⟩
    have h1 := h.eq a c'
    have k1 := k.eq b d
    unfold pairC
    simp only [Prod.mk.injEq]
    split
    · rename_i q; rw [k1]; simp [h1.1 q]
    · rename_i q; constructor
      · intro m; exact absurd m q
      · intro m; exact absurd (h1.2 m.1) q
  · rintro ⟨a, b⟩ ⟨a', b'⟩ ⟨a2, b2⟩
    unfold pairC
    simp only
    by_cases h1 : c a a' = 0
    · obtain rfl := (h.eq a a').1 h1
      by_cases h2 : c a a2 = 0
      · simp only [h1, h2, if_true]; exact k.tr _ _ _
      · simp only [h1, h2, if_true, if_false]; intro _ m; exact m
    · by_cases h2 : c a' a2 = 0
      · obtain rfl := (h.eq a' a2).1 h2
        simp only [h1, h2, if_true, if_false]; intro m _; exact m
      · simp only [h1, h2, if_false]
        intro k1 k2
        have h3 := h.tr _ _ _ k1 k2
        rw [if_neg (by omega)]
        exact h3

def cmpB : List Int → List Int → Int := lexC cmpI
def cmpK1 : Key → Key → Int := pairC cmpI cmpB
def cmpK : List Key → List Key → Int := lexC cmpK1
theorem cmpB_ord : Ord3 cmpB := lexC_ord cmpI_ord
theorem cmpK1_ord : Ord3 cmpK1 := pairC_ord cmpI_ord cmpB_ord
theorem cmpK_ord : Ord3 cmpK := lexC_ord cmpK1_ord

theorem Ord3.chain {α : Type} {c : α → α → Int} (h : Ord3 c) (x y z : α) (h1 : c x y ≤ 0) (h2 : c y z ≤ 0) : c x z ≤ 0 ∧ (c x z < 0 ∨ c x y = 0) := by
  by_cases e1 : c x y = 0
  · obtain rfl := (h.eq x y).1 e1
    exact ⟨h2, .inr e1⟩
  · by_cases e2 : c y z = 0
    · obtain rfl := (h.eq y z).1 e2
      exact ⟨h1, .inl (by omega)⟩
    · have := h.tr x y z (by omega) (by omega)
      exact ⟨by omega, .inl this⟩

theorem u8_lt {x y : Int} (hx : 0 ≤ x ∧ x < 256) (hy : 0 ≤ y ∧ y < 256) : (UInt8.ofNat x.toNat < UInt8.ofNat y.toNat) ↔ x < y := by
  rw [UInt8.lt_iff_toNat_lt]
  simp [UInt8.toNat_ofNat']
  omega

theorem isB.head {x : Int} {l : List Int} (h : isB (x :: l)) : 0 ≤ x ∧ x < 256 := h x (by simp)
theorem isB.tail {x : Int} {l : List Int} (h : isB (x :: l)) : isB l := fun y hy => h y (by simp [hy])

theorem cmpB_cons (x y : Int) (a b : List Int) : cmpB (x :: a) (y :: b) = if cmpI x y = 0 then cmpB a b else cmpI x y := rfl

theorem compareBytes_eq : ∀ (a b : List Int), isB a → isB b → Lib.compareBytes (Lib.bytesOf a) (Lib.bytesOf b) = cmpB a b
  | [], [], _, _ => rfl
  | [], _ :: _, _, _ => rfl
  | _ :: _, [], _, _ => rfl
  | x :: a, y :: b, ha, hb => by
    have ih := compareBytes_eq a b ha.tail hb.tail
    simp only [Lib.bytesOf] at ih
    simp only [Lib.bytesOf, List.map_cons, Lib.compareBytes]
    rw [cmpB_cons, ih]
    generalize cmpB a b = r
    have h1 := u8_lt ha.head hb.head
    have h2 := u8_lt hb.head ha.head
    unfold cmpI
    by_cases k1 : x < y
    · rw [if_pos (h1.2 k1)]; simp [k1]
    · rw [if_neg (fun q => k1 (h1.1 q))]
      by_cases k2 : y < x
      · rw [if_pos (h2.2 k2)]; simp [k1, k2]
      · rw [if_neg (fun q => k2 (h2.1 q))]; simp [k1, k2]

theorem bytesLess_cmp : ∀ (a b : List Int), isB a → isB b → Op.bytesLess (Lib.bytesOf a) (Lib.bytesOf b) = decide (cmpB a b < 0)
  | [], [], _, _ => rfl
  | [], _ :: _, _, _ => rfl
  | _ :: _, [], _, _ => rfl
  | x :: a, y :: b, ha, hb => by
    have ih := bytesLess_cmp a b ha.tail hb.tail
    simp only [Lib.bytesOf] at ih
    simp only [Lib.bytesOf, List.map_cons, Op.bytesLess]
    rw [cmpB_cons, ih]
    have h1 := u8_lt ha.head hb.head
    have h2 := u8_lt hb.head ha.head
    have hx := ha.head
    have hy := hb.head
    have h3 : (UInt8.ofNat x.toNat == UInt8.ofNat y.toNat) = decide (x = y) := by
      rw [Bool.eq_iff_iff]
      simp only [beq_iff_eq, decide_eq_true_eq]
      constructor
      · intro h
        have := congrArg UInt8.toNat h
        simp [UInt8.toNat_ofNat'] at this
        omega
      · rintro rfl; rfl
    rw [h3]
    generalize cmpB a b = r
    unfold cmpI
    by_cases k1 : x < y
    · simp [k1, h1.2 k1]
    · have : ¬ UInt8.ofNat x.toNat < UInt8.ofNat y.toNat := fun q => k1 (h1.1 q)
      by_cases k2 : y < x
      · have k3 : ¬ x = y := by omega
        simp [k1, k2, k3, this]
      · have k3 : x = y := by omega
        subst k3
        simp

theorem strLess (a b : List Int) (ha : isB a) (hb : isB b) : Op.bytesLess (strOfNums a).toList (strOfNums b).toList = decide (cmpB a b < 0) := by
  rw [Lib.strOfNums_toList, Lib.strOfNums_toList, bytesLess_cmp a b ha hb]

theorem cmpK_cons (x y : Key) (a b : List Key) : cmpK (x :: a) (y :: b) = if cmpK1 x y = 0 then cmpK a b else cmpK1 x y := rfl
theorem cmpK_left (x : Key) (a : List Key) : cmpK (x :: a) [] = 1 := rfl
theorem cmpK_right (x : Key) (a : List Key) : cmpK [] (x :: a) = -1 := rfl
end Go.Proofs.Ytnladolpcocchaa
