/-
  The statements' own function 'digits' of layer 1.
-/
import Derived.Test.YtdicancdmogbiaaLaw01
namespace Go.Proofs.Ytdicancdmogbiaa
open Go.RowKit
set_option linter.unusedSimpArgs false
set_option linter.unusedVariables false

theorem row_cell {w : World} {g : Nat} {l : List Int} {e : TypeId} (h : w.heap[g]? = some (.cells (cellsB l) e (0, 0))) (i : Nat) (hi : i < l.length) : w.cell? ⟨g, i, none⟩ = some (.int .u8 l[i]) ∧ w.frozen? ⟨g, i, none⟩ = false := by
  simp [World.cell?, World.frozen?, h, cellsB, hi]

theorem row_set {w : World} {g : Nat} {l : List Int} {e : TypeId} (h : w.heap[g]? = some (.cells (cellsB l) e (0, 0))) (i : Nat) (x : Int) : (w.setCell ⟨g, i, none⟩ (.int .u8 x)).heap[g]? = some (.cells (cellsB (l.set i x)) e (0, 0)) := by
  simp [World.setCell, Array.getElem?_modify, h, cellsB, List.map_set]

/-- The row behind j rounds. -/
def digRow (n : Nat) (v : Int) (j : Nat) : List Int := List.replicate (n - j) 0 ++ (digB n v).drop (n - j)
theorem digRow_len (n : Nat) (v : Int) (j : Nat) (hj : j ≤ n) : (digRow n v j).length = n := by simp [digRow, digB_len, hj]
theorem digRow_zero (n : Nat) (v : Int) : digRow n v 0 = List.replicate n 0 := by
  simp [digRow, List.drop_eq_nil_of_le, digB_len]
theorem digRow_all (n : Nat) (v : Int) : digRow n v n = digB n v := by simp [digRow]
theorem digRow_step (n : Nat) (v : Int) (j : Nat) (hj : j < n) : (digRow n v j).set (n - 1 - j) (v / 256 ^ j % 256) = digRow n v (j + 1) := by
  have e1 : n - j = (n - 1 - j) + 1 := by omega
  have e2 : n - (j + 1) = n - 1 - j := by omega
  have hl : n - 1 - j < (digB n v).length := by rw [digB_len]; omega
  unfold digRow
  rw [e1, e2, List.drop_eq_getElem_cons hl, List.replicate_succ', List.append_assoc]
  rw [List.set_append_right _ _ (by simp)]
  have e3 : n - 1 - (n - 1 - j) = j := by omega
  simp [digB, e3]

set_option maxHeartbeats 400000 in
theorem digits_any (n : Nat) (v : Int) (w : World) (h7 : n ≤ 7) (hv : 0 ≤ v) (hv3 : v ≤ 9223372036854775807) :
    Calls Try.prog 19 #[.int .i64 n, .int .i64 v] w fun e w' => e = .returned (.slice (some ⟨w.heap.size, 0, none⟩) n n) ∧ BIn w' (some ⟨w.heap.size, 0, none⟩) (digB n v) ∧ Below w.heap.size w w' := by
  have hmk := fun w => run_make_row' (P := Try.prog) 22 5 (.int .u8 0) 1 Try.underlying22 infoB rfl .i64 .i64 n (by omega) (by omega) w
  go_enter Try.func19, Try.ntmps19
  go_wp2
  go_loopw [1, 6] (fun x i wr => ∃ j : Nat, j ≤ n ∧ i = .int .i64 ((n : Int) - 1 - j) ∧ x = .int .i64 (v / 256 ^ j) ∧ wr.heap[w.heap.size]? = some (.cells (cellsB (digRow n v j)) 5 (0, 0)) ∧ Below w.heap.size w wr) (fun _ i _ => (intOf i + 1).toNat)
  case atStart =>
    refine ⟨0, Nat.zero_le _, by simp, by simp, ?_, (Below.refl _ _).alloc (Nat.le_refl _) _⟩
    rw [heap_alloc_new, digRow_zero]
    have e : madeCells #[Value.int .u8 0] n = cellsB (List.replicate n 0) := by
      apply Array.ext
      · simp [madeCells, cellsB]
      · intro i h1 h2
        simp [madeCells, cellsB, Nat.mod_one]
    rw [e]
  case round =>
    obtain ⟨j, hj, rfl, rfl, hrow, hB⟩ := hrel
    by_cases hlt : j < n
    · have hi : n - 1 - j < (digRow n v j).length := by rw [digRow_len n v j hj]; omega
      obtain ⟨hc, hf⟩ := row_cell hrow (n - 1 - j) hi
      have HR := Hid.mk' (row_set hrow (n - 1 - j) (v / 256 ^ j % 256))
      rw [digRow_step n v j hlt] at HR
      have hx : 0 ≤ v / 256 ^ j := Int.ediv_nonneg hv (Int.le_of_lt (pow_pos j))
      have hx2 : v / 256 ^ j ≤ 9223372036854775807 := Int.le_trans (Int.ediv_le_self _ hv) hv3
      have e1 : v / 256 ^ (j + 1) = v / 256 ^ j / 256 := by rw [Int.pow_succ, Int.ediv_ediv_of_nonneg (Int.le_of_lt (pow_pos j))]
      have HE := Hid.mk' e1
      have HB := Hid.mk' hB
      generalize (digRow n v j)[n - 1 - j] = old at hc
      clear hrow e1 hB hi
      generalize v / 256 ^ j = x at hx hx2 HR HE ⊢
      go_wp2
      go_roundw
      case rel => exact ⟨j + 1, by omega, by go_num, by rw [HE.out], HR.out, HB.out.setCell (Nat.le_refl _) _⟩
      case measure => simp [intOf]; omega
    · obtain rfl : j = n := by omega
      rw [digRow_all] at hrow
      have HR := Hid.mk' hrow
      clear hrow
      go_wp2
      go_ret
      exact ⟨rfl, BIn.of_block (rest := []) (by simpa [cellsB] using HR.out), hB⟩

end Go.Proofs.Ytdicancdmogbiaa
