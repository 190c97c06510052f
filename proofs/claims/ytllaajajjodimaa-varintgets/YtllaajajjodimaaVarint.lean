/-
  Package varint: Of, ends, Get, Zig and Zag; and the statements' own form.
-/
import Derived.Test.YtllaajajjodimaaLen64
import Derived.Deep.OwnRows
import Derived.Test.YtllaajajjodimaaAcc
namespace Go.Proofs.Ytllaajajjodimaa
open Go.RowKit
set_option linter.unusedSimpArgs false
set_option linter.unusedVariables false

theorem u8_or_high (x : Int) (h0 : 0 ≤ x) (h : x < 256) : bits .or .u8 x 128 = x % 128 + 128 := by
  rw [u8_or x 128 h0 h (by omega) (by omega)]
  have all : ∀ n : Fin 256, ((n.val ||| 128 : Nat)) = n.val % 128 + 128 := by decide +kernel
  have := all ⟨x.toNat, by omega⟩
  simp only [show (128 : Int).toNat = 128 from rfl] at this ⊢
  rw [this]
  omega

/-- A block's cells behind a store. -/
theorem set_at {w : World} {g i : Nat} {cs : Array Value} {t : TypeId} {f : Nat × Nat} (h : w.heap[g]? = some (.cells cs t f)) (u : Value) :
    (w.setCell ⟨g, i, none⟩ u).heap[g]? = some (.cells (cs.setIfInBounds i u) t f) := by
  simp [World.setCell, Array.getElem?_modify, h]

theorem dg_bits (v : Int) (i : Nat) : (v / 2 ^ (7 * i)) % 256 % 128 = dg v i := by
  rw [p7_two]; unfold dg; omega

theorem cellsB_set (a b : List Int) (x u : Int) (n : Nat) (hn : a.length = n) : (cellsB (a ++ x :: b)).setIfInBounds n (.int .u8 u) = cellsB (a ++ u :: b) := by
  subst hn
  unfold cellsB
  rw [List.setIfInBounds_toArray]
  simp [List.set_append]

theorem made_zero (n : Nat) : madeCells #[Value.int .u8 0] n = cellsB (List.replicate n 0) := by
  apply Array.ext
  · simp [madeCells, cellsB]
  · intro i h1 h2
    simp [madeCells, cellsB, Nat.mod_one]

/-- A cell of a block of bytes. -/
theorem cellsB_cell {w : World} {g : Nat} {t : TypeId} {a b : List Int} {x : Int} {n : Nat} (hn : a.length = n) (h : w.heap[g]? = some (.cells (cellsB (a ++ x :: b)) t (0, 0))) : w.cell? ⟨g, n, none⟩ = some (.int .u8 x) ∧ w.frozen? ⟨g, n, none⟩ = false := by
  subst hn
  simp [World.cell?, World.frozen?, h, cellsB]

set_option maxHeartbeats 400000 in
theorem of_any (v : Int) (w : World) (h0 : 0 ≤ v) (hv : v ≤ 18446744073709551615) :
    Calls Try.prog 9 #[.int .u64 v] w fun e w' => e = .returned (.slice (some ⟨w.heap.size, 0, none⟩) (L7 v) (L7 v)) ∧
      w'.heap[w.heap.size]? = some (.cells (cellsB (formV v)) 5 (0, 0)) ∧ Below w.heap.size w w' := by
  have L := len_any v w h0 hv
  have hb := L7_bd v
  have HF := Hid.mk' (show formV v = pre v (L7 v - 1) ++ [dg v (L7 v - 1)] from rfl)
  generalize L7 v = n at L hb HF ⊢
  have hmk := fun w => run_make_row' (P := Try.prog) 23 5 (.int .u8 0) 1 Try.underlying23 infoA rfl .i64 .i64 n (by omega) (by omega) w
  go_enter Try.func9, Try.ntmps9
  go_wp2_with (go_at_call 10; refine L.mono ?_; rintro e w' ⟨rfl, rfl⟩)
  go_loopw [11] (fun i wr => ∃ j : Nat, j ≤ n ∧ i = .int .i64 j ∧ wr.heap[w.heap.size]? = some (.cells (cellsB (pre v j ++ List.replicate (n - j) 0)) 5 (0, 0)) ∧ Below w.heap.size w wr) (fun i _ => n - (intOf i).toNat)
  case atStart => exact ⟨0, Nat.zero_le _, rfl, by rw [heap_alloc_new, made_zero]; simp [pre], (Below.refl _ _).alloc (Nat.le_refl _) _⟩
  case round =>
    obtain ⟨j, hj, rfl, hblk, hB⟩ := hrel
    by_cases hlt : j < n
    · rw [show n - j = (n - (j + 1)) + 1 by omega, List.replicate_succ] at hblk
      obtain ⟨hc, hf⟩ := cellsB_cell (pre_len v j) hblk
      have HX : Hid (bits .or .u8 (v / 2 ^ (7 * j) % 256) 128 = dg v j + 128) := by
        show _ = _
        rw [u8_or_high _ (by omega) (by omega), dg_bits]
      have HB := Hid.mk' hblk
      have HN : Hid _ := set_at (i := j) hblk (.int .u8 (dg v j + 128))
      clear hblk
      go_wp2
      go_roundw
      case rel =>
        rw [HX.out]
        refine ⟨j + 1, by omega, by go_num, ?_, hB.setCell (Nat.le_refl _) _⟩
        rw [HN.out, cellsB_set _ _ _ _ j (pre_len v j), pre_succ, List.append_assoc]
        rfl
      case measure => simp [intOf]; omega
    · obtain rfl : j = n := by omega
      obtain ⟨m, rfl⟩ : ∃ m, j = m + 1 := ⟨j - 1, by omega⟩
      rw [Nat.sub_self, List.replicate_zero, List.append_nil, pre_succ] at hblk
      obtain ⟨hc, hf⟩ := cellsB_cell (pre_len v m) hblk
      have HN : Hid _ := set_at (i := m) hblk (.int .u8 (dg v m))
      have hd := dg_bd v m
      clear hblk
      go_wp2
      go_ret
      refine ⟨rfl, ?_, hB.setCell (Nat.le_refl _) _⟩
      rw [HF.out, HN.out, cellsB_set _ _ _ _ m (pre_len v m)]
      rfl

set_option maxHeartbeats 400000 in
theorem form_any (v : Int) (w : World) (h0 : 0 ≤ v) (hv : v ≤ 18446744073709551615) :
    Calls Try.prog 8 #[.int .u64 v] w fun e w' => ∃ p c, e = .returned (.slice p (L7 v) c) ∧ BIn w' p (formV v) ∧ (p = none → c = 0) ∧ Below w.heap.size w w' := by
  have hb := L7_bd v
  have HF := Hid.mk' (show formV v = pre v (L7 v - 1) ++ [dg v (L7 v - 1)] from rfl)
  have HL := Hid.mk' (formV_len v)
  have HZ : Hid (∀ j, j + 1 ≤ 10 → (v / 128 ^ j / 128 = 0 ↔ L7 v ≤ j + 1)) := fun j hj => by
    rw [← div_succ, div_zero_iff v h0, L7_le v (j + 1) (by omega) hj (by omega)]
  generalize L7 v = n at hb HF HL HZ ⊢
  go_enter Try.func8, Try.ntmps8
  go_wp2
  go_loopw [0, 3, 4] (fun x out i wr => ∃ j : Nat, j < n ∧ i = .int .i64 j ∧ x = .int .u64 (v / 128 ^ j) ∧ Acc wr w.heap.size out (pre v j) ∧ Below w.heap.size w wr) (fun _ _ i _ => n - (intOf i).toNat)
  case atStart => exact ⟨0, by omega, rfl, by simp, Acc.nil _ _, Below.refl _ _⟩
  case round =>
    obtain ⟨j, hj, rfl, rfl, hA, hB⟩ := hrel
    have hz := HZ.out j (by omega)
    have hD := Hid.mk' (show v / 128 ^ j % 128 = dg v j from rfl)
    have hd := dg_bd v j
    have hS := Hid.mk' (div_succ v j)
    have hx0 : 0 ≤ v / 128 ^ j := Int.ediv_nonneg h0 (Int.le_of_lt (p7_pos j))
    have hx1 : v / 128 ^ j ≤ 18446744073709551615 := by
      have := Int.ediv_le_self (128 ^ j) h0; omega
    have hsz := hB.size
    generalize v / 128 ^ j = x at hz hD hx0 hx1 hS ⊢
    by_cases he : j + 1 = n
    · have hz0 : x / 128 = 0 := hz.2 (by omega)
      clear hz HZ
      have hpl := pre_len v j
      go_wp2_with (at_builtin; refine wpList_acc1 rfl (.tmp 17) (.tmp 19) rfl w.heap.size _ (pre v j) rfl hA hsz _ rfl (by rw [pre_len]; omega) ?_; intro v' w' hA' hB')
      clear hA
      obtain ⟨p', c', rfl, hp', hq', _⟩ := hA'.slice
      go_wp2
      go_ret
      have e1 : pre v j ++ [x % 128] = formV v := by rw [HF.out, ← he, hD.out]; rfl
      rw [e1] at hp' ⊢
      exact ⟨p', c', by rw [HL.out]; rfl, hp', hq', hB.trans hB'⟩
    · have hz0 : ¬ x / 128 = 0 := fun q => by have := hz.1 q; omega
      clear hz HZ
      have hpl := pre_len v j
      go_wp2_with (at_builtin; refine wpList_acc1 rfl (.tmp 21) (.tmp 24) rfl w.heap.size _ (pre v j) rfl hA hsz _ rfl (by rw [pre_len]; omega) ?_; intro v' w' hA' hB')
      clear hA
      go_wp2
      go_roundw
      case rel => exact ⟨j + 1, by omega, by go_num, by rw [hS.out], by rw [pre_succ, ← hD.out]; exact hA', hB.trans hB'⟩
      case measure => simp [intOf]; omega
end Go.Proofs.Ytllaajajjodimaa
