/-
  What lists of records come to, id by id, as plain Lean functions: no function is named here.
-/
import Derived.Test.YtdfjjajkeieocaaLatM
namespace Go.Proofs.Ytdfjjajkeieocaa
open Go.RowKit
set_option linter.unusedSimpArgs false
set_option linter.unusedVariables false
set_option synthInstance.maxSize 2000

def oj : Option RK → Option RK → Option RK
  | none, b => b
  | some a, none => some a
  | some a, some b => some (joinK a b)
def sg (r : RK) (x : Int) : Option RK := if r.id = x then some r else none
/-- What all records of an id come to. -/
def gK : List RK → Int → Option RK
  | [], _ => none
  | r :: t, x => oj (sg r x) (gK t x)
/-- What is there has that id. -/
def Ix (x : Int) (o : Option RK) : Prop := ∀ r, o = some r → r.id = x

theorem oj_none (a : Option RK) : oj a none = a := by cases a <;> rfl
theorem sg_ix (r : RK) (x : Int) : Ix x (sg r x) := fun s h => by
  unfold sg at h
  split at h
  · cases h; assumption
  · cases h
theorem oj_ix {x : Int} {a b : Option RK} (ha : Ix x a) (hb : Ix x b) : Ix x (oj a b) := by
  cases a with
  | none => exact hb
  | some a => cases b with
    | none => exact ha
    | some b =>
      intro r h
      cases h
      exact (joinK_id ((ha a rfl).trans (hb b rfl).symm)).trans (ha a rfl)
theorem gK_ix (x : Int) : ∀ L, Ix x (gK L x)
  | [] => fun r h => by cases h
  | r :: t => oj_ix (sg_ix r x) (gK_ix x t)
theorem oj_assoc {x : Int} {a b c : Option RK} (ha : Ix x a) (hb : Ix x b) (hc : Ix x c) : oj (oj a b) c = oj a (oj b c) := by
  cases a with
  | none => rfl
  | some a => cases b with
    | none => cases c <;> rfl
    | some b => cases c with
      | none => rfl
      | some c => exact congrArg some (joinK_assoc ((ha a rfl).trans (hb b rfl).symm) ((hb b rfl).trans (hc c rfl).symm))
theorem oj_comm {x : Int} {a b : Option RK} (ha : Ix x a) (hb : Ix x b) : oj a b = oj b a := by
  cases a with
  | none => cases b <;> rfl
  | some a => cases b with
    | none => rfl
    | some b => exact congrArg some (joinK_comm ((ha a rfl).trans (hb b rfl).symm))
theorem oj_self (a : Option RK) : oj a a = a := by
  cases a with
  | none => rfl
  | some a => exact congrArg some (joinK_self a)
theorem gK_append (x : Int) : ∀ A B, gK (A ++ B) x = oj (gK A x) (gK B x)
  | [], B => rfl
  | r :: t, B => by
    show oj (sg r x) (gK (t ++ B) x) = oj (oj (sg r x) (gK t x)) (gK B x)
    rw [gK_append x t B, oj_assoc (sg_ix r x) (gK_ix x t) (gK_ix x B)]
theorem gK_one (r : RK) (x : Int) : gK [r] x = sg r x := oj_none _
theorem gK_snoc (A : List RK) (r : RK) (x : Int) : gK (A ++ [r]) x = oj (gK A x) (sg r x) := by rw [gK_append, gK_one]

/-- Nothing comes out just if no record has the id. -/
theorem gK_none {x : Int} : ∀ {L : List RK}, gK L x = none ↔ ∀ r ∈ L, r.id ≠ x
  | [] => by simp [gK]
  | r :: t => by
    have ih := gK_none (x := x) (L := t)
    simp only [gK, List.mem_cons, forall_eq_or_imp]
    by_cases h : r.id = x
    · simp only [sg, if_pos h]
      cases gK t x <;> simp [oj, h]
    · simp only [sg, if_neg h, oj]
      rw [ih]; simp [h]

/-- Rising ids. -/
def Asc (L : List RK) : Prop := L.Pairwise (fun a b => a.id < b.id)
theorem asc_get {L : List RK} (h : Asc L) : ∀ r ∈ L, gK L r.id = some r := by
  induction L with
  | nil => intro r hr; simp at hr
  | cons a t ih =>
    have h2 := List.pairwise_cons.1 h
    intro r hr
    rcases List.mem_cons.1 hr with rfl | hr
    · have : gK t r.id = none := gK_none.2 fun s hs => by have := h2.1 s hs; omega
      simp [gK, this, sg, oj]
    · have h3 : a.id ≠ r.id := by have := h2.1 r hr; omega
      simp only [gK, sg, if_neg h3, oj]
      exact ih h2.2 r hr
theorem asc_in {L : List RK} (h : Asc L) {x : Int} {r : RK} (hr : gK L x = some r) : r ∈ L := by
  have h1 : ¬ ∀ s ∈ L, s.id ≠ x := fun q => by rw [gK_none.2 q] at hr; cases hr
  simp only [Classical.not_forall, Classical.not_not] at h1
  obtain ⟨s, hs, hx⟩ := h1
  have h2 := asc_get h s hs
  rw [hx, hr] at h2
  cases h2
  exact hs
theorem asc_ext : ∀ {A B : List RK}, Asc A → Asc B → (∀ r, r ∈ A ↔ r ∈ B) → A = B
  | [], [], _, _, _ => rfl
  | [], b :: B, _, _, h => by have := (h b).2 (by simp); simp at this
  | a :: A, [], _, _, h => by have := (h a).1 (by simp); simp at this
  | a :: A, b :: B, hA, hB, h => by
    have h1 := List.pairwise_cons.1 hA
    have h2 := List.pairwise_cons.1 hB
    have e : a = b := by
      rcases List.mem_cons.1 ((h a).1 (by simp)) with e | e
      · exact e
      · rcases List.mem_cons.1 ((h b).2 (by simp)) with e' | e'
        · exact e'.symm
        · have p := h2.1 a e; have q := h1.1 b e'; omega
    subst e
    refine congrArg _ (asc_ext h1.2 h2.2 fun r => ⟨fun hr => ?_, fun hr => ?_⟩)
    · rcases List.mem_cons.1 ((h r).1 (by simp [hr])) with e | e
      · subst e; have := h1.1 _ hr; omega
      · exact e
    · rcases List.mem_cons.1 ((h r).2 (by simp [hr])) with e | e
      · subst e; have := h2.1 _ hr; omega
      · exact e
/-- What is sorted is one with whatever is sorted and comes to the same. -/
theorem asc_same {A B : List RK} (hA : Asc A) (hB : Asc B) (h : ∀ x, gK A x = gK B x) : A = B :=
  asc_ext hA hB fun r => ⟨fun hr => asc_in hB (by rw [← h]; exact asc_get hA r hr), fun hr => asc_in hA (by rw [h]; exact asc_get hB r hr)⟩

theorem sortR_asc : ∀ {L : List RK} {a : Int}, sortR a L = true → Asc L ∧ (∀ r ∈ L, mayR r = true ∧ a < r.id)
  | [], _, _ => ⟨List.Pairwise.nil, by simp⟩
  | r :: t, a, h => by
    simp only [sortR, Bool.and_eq_true, decide_eq_true_eq] at h
    obtain ⟨⟨h1, h2⟩, h3⟩ := h
    have ih := sortR_asc h3
    refine ⟨List.pairwise_cons.2 ⟨fun s hs => (ih.2 s hs).2, ih.1⟩, fun s hs => ?_⟩
    rcases List.mem_cons.1 hs with rfl | hs
    · exact ⟨h1, h2⟩
    · have := (ih.2 s hs); exact ⟨this.1, by omega⟩
theorem asc_sortR : ∀ {L : List RK} {a : Int}, Asc L → (∀ r ∈ L, mayR r = true ∧ a < r.id) → sortR a L = true
  | [], _, _, _ => rfl
  | r :: t, a, h, k => by
    have h2 := List.pairwise_cons.1 h
    have k1 := k r (by simp)
    simp only [sortR, Bool.and_eq_true, decide_eq_true_eq]
    exact ⟨⟨k1.1, k1.2⟩, asc_sortR h2.2 fun s hs => ⟨(k s (by simp [hs])).1, h2.1 s hs⟩⟩

theorem joinK_may {a b : RK} (h : a.id = b.id) (ha : mayR a = true) (hb : mayR b = true) : mayR (joinK a b) = true := by
  unfold joinK
  split
  · exact ha
  · split
    · exact hb
    · simp only [mayR, coreOk, Bool.and_eq_true, decide_eq_true_eq] at ha hb ⊢
      obtain ⟨⟨⟨⟨⟨a1, a2⟩, a3⟩, a4⟩, a5⟩, a6⟩ := ha
      obtain ⟨⟨⟨⟨⟨b1, b2⟩, b3⟩, b4⟩, b5⟩, b6⟩ := hb
      split
      · exact ⟨⟨⟨⟨⟨b1, b2⟩, by simp only [RK.st] at *; omega⟩, b4⟩, b5⟩, b6⟩
      · exact ⟨⟨⟨⟨⟨a1, a2⟩, by simp only [RK.st] at *; omega⟩, a4⟩, a5⟩, a6⟩
/-- What all have, and a join keeps, what comes out has. -/
theorem gK_keeps {P : RK → Prop} (hj : ∀ a b, a.id = b.id → P a → P b → P (joinK a b)) {x : Int} : ∀ {L : List RK}, (∀ r ∈ L, P r) → ∀ r, gK L x = some r → P r
  | [], _, r, h => by cases h
  | s :: t, hL, r, h => by
    have ih := gK_keeps hj (x := x) (L := t) (fun q hq => hL q (by simp [hq]))
    have hs := hL s (by simp)
    have hx := gK_ix x t
    by_cases e : s.id = x
    · simp only [gK, sg, if_pos e] at h
      cases ht : gK t x with
      | none => rw [ht] at h; cases h; exact hs
      | some q => rw [ht] at h; cases h; exact hj s q (e.trans (hx q ht).symm) hs (ih q ht)
    · simp only [gK, sg, if_neg e, oj] at h
      exact ih r h
theorem joinK_bag {a b : RK} : (joinK a b).bag = a.bag ∨ (joinK a b).bag = b.bag := by
  unfold joinK
  split
  · exact .inl rfl
  · split
    · exact .inr rfl
    · split
      · exact .inr rfl
      · exact .inl rfl
end Go.Proofs.Ytdfjjajkeieocaa
