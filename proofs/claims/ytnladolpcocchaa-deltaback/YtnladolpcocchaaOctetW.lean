/-
  The writer of package octet: what each of its functions does to the world, said of a writer that lies in one block and owns one row.
-/
import Derived.Test.YtnladolpcocchaaOctetR
namespace Go.Proofs.Ytnladolpcocchaa
open Go.RowKit
set_option linter.unusedSimpArgs false
set_option linter.unusedVariables false
set_option maxRecDepth 10000


/-- The row that is owned now: the one of before, or a new one, or none. -/
def Next (w : World) (g g' : Option Nat) : Prop := g' = g ∨ g' = none ∨ ∃ k, g' = some k ∧ w.heap.size ≤ k

theorem Next.refl (w : World) (g : Option Nat) : Next w g g := .inl rfl
theorem Next.trans {S : Nat → Prop} {w w' : World} {g g' g'' : Option Nat} (h : Next w g g') (k : Next w' g' g'') (f : Fr S w w') : Next w g g'' := by
  rcases k with rfl | k | ⟨i, rfl, hi⟩
  · exact h
  · exact .inr (.inl k)
  · exact .inr (.inr ⟨i, rfl, Nat.le_trans f.size hi⟩)









theorem pow_two (k : Nat) : (2 : Int) ^ (8 * k) = 256 ^ k := by rw [Int.pow_mul]; rfl
theorem pow_pos (k : Nat) : (0 : Int) < 256 ^ k := Int.pow_pos (by omega)

/-- The n bytes of a number, the highest first. -/
def digB (n : Nat) (v : Int) : List Int := (List.range n).map fun t => v / 256 ^ (n - 1 - t) % 256
theorem digB_len (n : Nat) (v : Int) : (digB n v).length = n := by simp [digB]
theorem digB_isB (n : Nat) (v : Int) : isB (digB n v) := fun x hx => by
  simp [digB] at hx
  obtain ⟨t, _, rfl⟩ := hx
  omega
theorem digB_take (n : Nat) (v : Int) (j : Nat) (hj : j < n) : (digB n v).take (j + 1) = (digB n v).take j ++ [v / 256 ^ (n - 1 - j) % 256] := by
  have hj' : j < (digB n v).length := by rw [digB_len]; exact hj
  rw [List.take_succ_eq_append_getElem hj']
  simp [digB]

theorem shr_zero (k : Nat) (v : Int) : (v / 2 ^ (8 * k) == 0) = decide (0 ≤ v ∧ v < 256 ^ k) := by
  rw [pow_two, Bool.eq_iff_iff]
  simp
  have hp := pow_pos k
  constructor
  · intro h
    have h1 := Int.emod_nonneg v (Int.ne_of_gt hp)
    have h2 := Int.emod_lt_of_pos v hp
    have h3 := Int.mul_ediv_add_emod v (256 ^ k)
    rw [h] at h3
    simp at h3
    omega
  · rintro ⟨h1, h2⟩
    exact Int.ediv_eq_zero_of_lt h1 h2



theorem one_BIn {w : World} {g : Nat} {x : Int} {e : TypeId} (h : w.heap[g]? = some (.cells #[.int .u8 x] e (0, 0))) : BIn w (some ⟨g, 0, none⟩) [x] :=
  BIn.of_block (rest := []) (e := e) (f := (0, 0)) (by simpa using h)















end Go.Proofs.Ytnladolpcocchaa
