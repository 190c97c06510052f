/-
  The statements' own examples of layer 2.
-/
import Derived.Test.YtllaajajjodimaaVarGet
import Derived.Test.YtllaajajjodimaaVarZig
namespace Go.Proofs.Ytllaajajjodimaa
open Go.RowKit
set_option linter.unusedSimpArgs false
set_option linter.unusedVariables false

theorem form_300 : formV 300 = [172, 2] := by decide
theorem get_300 : getW [172, 2, 9] = 300 ∧ getN [172, 2, 9] = 2 ∧ getE [172, 2, 9] = 0 := by decide

set_option maxHeartbeats 800000 in
theorem awake2_any (w : World) : Calls Try.prog 11 #[] w fun e w' => e = .returned (.bool true) ∧ Below w.heap.size w w' := by
  have O := of_any 300 w (by omega) (by omega)
  rw [form_300, show L7 300 = 2 from rfl] at O
  have b3 : isB [172, 2, 9] := by intro x hx; simp at hx; omega
  go_enter Try.func11, Try.ntmps11
  go_wp2_with fail
  refine O.mono ?_
  rintro e w1 ⟨rfl, hblk, hB1⟩
  clear O
  have G := get_any (some ⟨w1.heap.size, 0, none⟩) 3 [172, 2, 9] (w1.alloc (.cells #[.int .u8 172, .int .u8 2, .int .u8 9] 5)) (BIn.of_block (rest := []) (heap_alloc_new _ _)) b3 (by simp)
  rw [get_300.1, get_300.2.1, get_300.2.2] at G
  go_wp2_with fail
  refine G.mono ?_
  rintro e w' ⟨rfl, rfl⟩
  have hlt : w.heap.size < w1.heap.size := (Array.getElem?_eq_some_iff.1 hblk).1
  have hblk2 : (w1.alloc (.cells #[.int .u8 172, .int .u8 2, .int .u8 9] 5)).heap[w.heap.size]? = some (.cells #[.int .u8 172, .int .u8 2] 5 (0, 0)) := by
    rw [heap_alloc_old _ _ hlt]; exact hblk
  have hB2 := hB1.alloc (o := .cells #[.int .u8 172, .int .u8 2, .int .u8 9] 5) hB1.size
  obtain ⟨c0, c1, _, _⟩ := two_cells hblk2
  have HB2 := Hid.mk' hB2
  clear hblk hblk2 hB1 hB2 hlt G
  generalize w1.alloc (.cells #[.int .u8 172, .int .u8 2, .int .u8 9] 5) = w2 at c0 c1 HB2 ⊢
  have Z := zig_any (-1) w2 (by omega) (by omega)
  have Y := zag_any 3 w2 (by omega) (by omega)
  rw [show zigI (-1) = 1 from rfl] at Z
  rw [show zagI 3 = -2 from rfl] at Y
  go_wp2_with (first | (go_at_call 16; refine Z.mono ?_; rintro e w' ⟨rfl, rfl⟩) | (go_at_call 17; refine Y.mono ?_; rintro e w' ⟨rfl, rfl⟩))
  go_ret
  exact ⟨rfl, HB2.out⟩
end Go.Proofs.Ytllaajajjodimaa
