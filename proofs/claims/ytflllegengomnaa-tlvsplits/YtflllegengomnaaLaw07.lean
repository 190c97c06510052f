/-
  Stage 7: the chapter's examples (the statements' own 'awake'); where the first field of a tag stands.
-/
import Derived.Test.YtflllegengomnaaKnowB
namespace Go.Proofs.Ytflllegengomnaa
open Go.RowKit
set_option linter.unusedSimpArgs false
set_option linter.unusedVariables false

theorem kat {l : List Fd} {L : List Key} (h : kys l = L) (i : Nat) (hi : i < L.length) : (l.getD i zf).tag = (L[i]).1 ∧ (l.getD i zf).d = (L[i]).2 := by
  subst h
  have hl : i < l.length := by rw [kys_len] at hi; exact hi
  simp [kys, ky, List.getD, hl]

theorem OwnF.fin {B : Nat} {W : World} {v : Value} {L : List Fd} (h : OwnF B W v L) : ∃ p c, v = .slice p L.length c ∧ FIn W p L ∧ (p = none → c = 0) ∧ L.length ≤ c ∧ c ≤ maxLen := own_fin h.own h.oks


/-- The place of the first field with a tag, from place k on. -/
def firstK (v : Int) : Nat → List Key → Int
  | _, [] => -1
  | k, x :: t => if x.1 = v then (k : Int) else firstK v (k + 1) t


/-- Where the first one stands, and what it says. -/
theorem firstK_get (v : Int) : ∀ (l : List Fd) (k : Nat), (firstK v k (kys l) = -1 ∧ getK v (kys l) = none) ∨ ∃ q : Nat, q < l.length ∧ firstK v k (kys l) = ((k + q : Nat) : Int) ∧ getK v (kys l) = some (l.getD q zf).d
  | [], k => .inl ⟨rfl, rfl⟩
  | x :: l, k => by
    simp only [kys, List.map_cons, firstK, getK, ky]
    by_cases t : x.tag = v
    · rw [if_pos t, if_pos t]
      exact .inr ⟨0, by simp, by simp, by simp⟩
    · rw [if_neg t, if_neg t]
      rcases firstK_get v l (k + 1) with h | ⟨q, h1, h2, h3⟩
      · exact .inl h
      · refine .inr ⟨q + 1, by simpa using h1, ?_, ?_⟩
        · simp only [kys] at h2; rw [h2]; congr 1; omega
        · simp only [kys] at h3; rw [h3]; simp
end Go.Proofs.Ytflllegengomnaa
