/-
  The statements' own small functions of layer 1: same, number, power, digits; and the chapter's examples.
-/
import Derived.Test.YtdicancdmogbiaaOctetW
namespace Go.Proofs.Ytdicancdmogbiaa
open Go.RowKit
set_option linter.unusedSimpArgs false
set_option linter.unusedVariables false

theorem str_inj (a b : List Int) (ha : isB a) (hb : isB b) : ((strOfNums a).toList == (strOfNums b).toList) = decide (a = b) := by
  rw [ByteArray.toList_eq, ByteArray.toList_eq, strOfNums_data, strOfNums_data, Bool.eq_iff_iff]
  simp
  constructor
  · intro h
    have hl : a.length = b.length := by simpa using congrArg List.length h
    apply List.ext_getElem hl
    intro i h1 h2
    have h3 := congrArg (fun l => l[i]?) h
    simp [h1, h2] at h3
    have h4 := congrArg UInt8.toNat h3
    have ha' := ha a[i] (List.getElem_mem h1)
    have hb' := hb b[i] (List.getElem_mem h2)
    simp [UInt8.toNat_ofNat'] at h4
    omega
  · rintro rfl; rfl

set_option maxHeartbeats 400000 in
theorem same_any (p q : Option Addr) (c d : Nat) (a b : List Int) (w : World) (hp : BIn w p a) (hq : BIn w q b) (ha : isB a) (hb : isB b) :
    Calls Try.prog 9 #[.slice p a.length c, .slice q b.length d] w fun e w' => e = .returned (.bool (decide (a = b))) ∧ w = w' := by
  have h1 := hp.convert (P := Try.prog) c 22 5 9 Try.underlying22 Try.underlying5 Try.underlying9
  have h2 := hq.convert (P := Try.prog) d 22 5 9 Try.underlying22 Try.underlying5 Try.underlying9
  go_enter Try.func9, Try.ntmps9
  go_wp2
  go_ret
  exact ⟨by rw [← str_inj a b ha hb]; rfl, rfl⟩

set_option maxHeartbeats 400000 in
theorem power_any (n : Nat) (w : World) (h : n ≤ 7) :
    Calls Try.prog 18 #[.int .i64 n] w fun e w' => e = .returned (.int .i64 (256 ^ n)) ∧ w = w' := by
  go_enter Try.func18, Try.ntmps18
  go_wp2
  go_loop [3, 4] (fun p i => ∃ j : Nat, j ≤ n ∧ i = .int .i64 j ∧ p = .int .i64 (256 ^ j)) (fun _ i => n - (intOf i).toNat)
  case atStart => exact ⟨0, Nat.zero_le _, rfl, rfl⟩
  case round =>
    obtain ⟨j, hj, rfl, rfl⟩ := hrel
    by_cases hlt : j < n
    · have hb := pow6 j (by omega)
      have hp := pow_pos j
      have HS := Hid.mk' (Int.pow_succ (256 : Int) j)
      generalize (256 : Int) ^ j = x at hb hp HS ⊢
      go_wp2
      go_round
      case rel => exact ⟨j + 1, by omega, by go_num, by rw [HS.out]⟩
      case measure => simp [intOf]; omega
    · obtain rfl : j = n := by omega
      go_wp2
      go_ret
      exact ⟨rfl, rfl⟩

theorem pow7 (n : Nat) (h : n ≤ 7) : (256 : Int) ^ n ≤ 72057594037927936 := by
  have : n = 0 ∨ n = 1 ∨ n = 2 ∨ n = 3 ∨ n = 4 ∨ n = 5 ∨ n = 6 ∨ n = 7 := by omega
  rcases this with rfl | rfl | rfl | rfl | rfl | rfl | rfl | rfl <;> decide

set_option maxHeartbeats 400000 in
theorem number_any (p : Option Addr) (c : Nat) (l : List Int) (w : World) (hp : BIn w p l) (hl : isB l) (h7 : l.length ≤ 7) :
    Calls Try.prog 11 #[.slice p l.length c] w fun e w' => e = .returned (.int .i64 (numB l)) ∧ w = w' := by
  go_enter Try.func11, Try.ntmps11
  go_wp2
  go_loop [3, 4] (fun v i => ∃ j : Nat, j ≤ l.length ∧ i = .int .i64 j ∧ v = .int .i64 (numB (l.take j))) (fun _ i => l.length - (intOf i).toNat)
  case atStart => exact ⟨0, Nat.zero_le _, rfl, rfl⟩
  case round =>
    obtain ⟨j, hj, rfl, rfl⟩ := hrel
    by_cases hlt : j < l.length
    · obtain ⟨g, o, rfl, hc⟩ := hp (by omega)
      have hcj := hc j hlt
      rw [show l.getD j 0 = l[j] by simp [List.getD, hlt]] at hcj
      have hn := numB_small l hl j (by omega)
      have hx := hl l[j] (List.getElem_mem hlt)
      have HN : Hid (numB (l.take (j + 1)) = numB (l.take j) * 256 + l[j]) := by
        have h := numB_take l j hlt
        rw [show l.getD j 0 = l[j] by simp [List.getD, hlt]] at h
        exact h
      clear hp hc
      go_wp2
      go_round
      case rel => exact ⟨j + 1, by omega, by go_num, by rw [HN.out]⟩
      case measure => simp [intOf]; omega
    · obtain rfl : j = l.length := by omega
      rw [List.take_length]
      go_wp2
      go_ret
      exact ⟨rfl, rfl⟩

theorem BIn.cell0 {w : World} {g : Nat} {x : Int} (h : BIn w (some ⟨g, 0, none⟩) [x]) : w.cell? ⟨g, 0, none⟩ = some (.int .u8 x) := by
  obtain ⟨b, o, e, hc⟩ := h (by simp)
  simp at e
  obtain ⟨rfl, rfl⟩ := e
  simpa using hc 0 (by simp)

set_option maxHeartbeats 800000 in
theorem awake_any (w : World) : Calls Try.prog 6 #[] w fun e w' => e = .returned (.bool true) ∧ Below w.heap.size w w' := by
  have b123 : isB [1, 2, 3] := by intro x hx; simp at hx; omega
  go_enter Try.func6, Try.ntmps6
  go_wp2_with fail
  refine (read_any (some ⟨w.heap.size, 0, none⟩) 3 [1, 2, 3] _ (BIn.of_block (rest := []) (heap_alloc_new _ _)) b123 (by simp)).mono ?_
  rintro e w1 ⟨b, rfl, hb, hR, hbel⟩
  have hB1 : Below w.heap.size w w1 := ((Below.refl _ _).alloc (Nat.le_refl _) _).trans (hbel.mono (by simp))
  have hb' : w.heap.size ≤ b := by simp at hb; omega
  clear hbel hb
  have N := num_ok b [1, 2, 3] 2 w1 hR (by simp) (by omega) (by omega)
  have hlow : ∀ x y : World, Fr (fun k => k = b) x y → w.heap.size ≤ x.heap.size → Below w.heap.size x y := fun x y f hx => f.below (fun i q => by omega) hx
  have hlow := Hid.mk' hlow
  go_wp2_with fail
  refine N.mono ?_
  rintro e w2 ⟨rfl, hR2, hF2, hz2⟩
  have hB2 := hB1.trans (hlow.out _ _ hF2 hB1.size)
  have e1 : numB (List.take 2 [1, 2, 3]) = 258 := rfl
  rw [e1]
  have e2 : List.drop 2 [(1 : Int), 2, 3] = [3] := rfl
  rw [e2] at hR2
  have L := left_any b [3] false w2 hR2
  clear N e1 e2 hF2 hR hz2
  go_wp2_with (go_at_call 12; refine L.mono ?_; rintro e w' ⟨rfl, rfl⟩)
  refine (take_ok b [3] 1 w2 hR2 (by simp) (by simp)).mono ?_
  rintro e w3 ⟨rfl, hT, hR3, hF3⟩
  have hB3 := hB2.trans (hlow.out _ _ hF3 hB2.size)
  have hlt3 : w2.heap.size < w3.heap.size := lt_of_cell hT.cell0
  clear hF3 hR2 L
  have D := fun wx hx => done_any b [] false wx hx
  go_wp2_with fail
  refine (writeB w3).mono ?_
  rintro e w4 ⟨rfl, hW4, hB34⟩
  have hlen3 : w.heap.size ≤ w3.heap.size := hB3.size
  go_wp2_with fail
  refine (numB_ok w3.heap.size w3.heap.size [] 2 258 w4 hW4 (by omega) (by omega) (by omega) (by decide) (by omega) (by simp)).mono ?_
  rintro e w5 ⟨rfl, hW5, hB45⟩
  have e1 : [] ++ digB 2 258 = [1, 2] := rfl
  rw [e1] at hW5
  have hB35 := hB34.trans hB45
  clear hW4 hB34 hB45 e1
  go_wp2_with fail
  refine (rawOneB w3.heap.size w3.heap.size [1, 2] 3 w5 hW5 (by omega) (by simp)).mono ?_
  rintro e w6 ⟨rfl, hW6, hB56⟩
  have e1 : [(1 : Int), 2] ++ [3] = [1, 2, 3] := rfl
  rw [e1] at hW6
  have hB36 := hB35.trans hB56
  clear hW5 hB35 hB56 e1
  go_wp2_with fail
  refine (bytesB w3.heap.size w3.heap.size [1, 2, 3] w6 hW6 (by simp)).mono ?_
  rintro e w7 ⟨rfl, hT7, hB67⟩
  have hB37 := hB36.trans (hB67.mono hB36.size)
  have hT3 := hT.below hB37
  have hR7 := hR3.below hB37
  have hB7 := hB3.trans (hB37.mono hlen3)
  have hc := hT3.cell0
  have HT7 := Hid.mk' hT7
  have D := done_any b [] false w7 hR7
  clear hW6 hB36 hB67 hB37 hT hT3 hT7 hR3 hR7 hB1 hB2 hB3 hlow
  go_wp2_with (go_at_call 14; refine D.mono ?_; rintro e w' ⟨rfl, rfl⟩)
  refine (same_any (some ⟨w6.heap.size, 0, none⟩) (some ⟨w7.heap.size, 0, none⟩) 3 3 [1, 2, 3] [1, 2, 3] _ (HT7.out.below ((Below.refl _ _).alloc (Nat.le_refl _) _)) (BIn.of_block (rest := []) (heap_alloc_new _ _)) b123 b123).mono ?_
  rintro e w8 ⟨rfl, rfl⟩
  go_wp2
  go_ret
  exact ⟨rfl, hB7.alloc hB7.size _⟩

end Go.Proofs.Ytdicancdmogbiaa
