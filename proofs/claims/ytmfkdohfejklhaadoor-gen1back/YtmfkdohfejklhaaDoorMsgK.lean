/-
  Package msg: Kind.
-/
import Derived.Test.YtmfkdohfejklhaaDoorMsgN
import Derived.Deep.MidRow
namespace Go.Proofs.YtmfkdohfejklhaaDoor
open Go.RowKit
set_option linter.unusedSimpArgs false
set_option linter.unusedVariables false
set_option maxRecDepth 10000
set_option synthInstance.maxSize 2000

theorem flat6 : ∀ (l : List KRow) (i j : Nat), i < l.length → j < 6 → (l.flatMap KRow.cells)[i * 6 + j]? = (l.getD i ⟨⟨#[]⟩, false, false, false, false, false⟩).cells[j]?
  | [], i, j, h, _ => by simp at h
  | x :: t, 0, j, _, hj => by
    rw [List.flatMap_cons, List.getElem?_append_left (by simpa [KRow.cells] using hj)]
    simp [List.getD]
  | x :: t, i + 1, j, h, hj => by
    rw [List.flatMap_cons, List.getElem?_append_right (by simp [KRow.cells]; omega), show (i + 1) * 6 + j - x.cells.length = i * 6 + j by simp [KRow.cells]; omega, flat6 t i j (by simpa using h) hj]
    simp [List.getD]

theorem Kd.range {w : World} (h : Kd w) : w.rangeAt 0 0 (kRows.flatMap KRow.cells) := fun j v hv => by
  have hj : j < 60 := by
    have := (List.getElem?_eq_some_iff.1 hv).1
    simpa [kRows, KRow.cells] using this
  have h1 := h (j / 6) (by omega) (j % 6) (by omega)
  have h2 := flat6 kRows (j / 6) (j % 6) (by simp [kRows]; omega) (by omega)
  rw [show j / 6 * 6 + j % 6 = j by omega] at h1 h2
  rw [Nat.zero_add, h1]
  exact h2.symm.trans hv


end Go.Proofs.YtmfkdohfejklhaaDoor
