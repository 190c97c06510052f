/-
  Package crc: the small functions (place, moved), and the document's register bit by bit.
-/
import Derived.Test.YtlkljfpgphhpdaaDoorRows
import Derived.Test.YtlkljfpgphhpdaaDoorCrcM
import Derived.WalkKit
import Derived.WalkSpells
import Derived.WalkLawsBesides
import Derived.Laws.BitsAllLaws
namespace Go.Proofs.YtlkljfpgphhpdaaDoor
open Go.RowKit
set_option linter.unusedSimpArgs false
set_option linter.unusedVariables false

theorem ret_nat {k : IntKind} {a : Int} {b : Int} (h : a = b) : Ending.returned (.int k a) = .returned (.int k b) := by rw [h]

theorem lin_eq (r : Nat) : lin r = (r * 2 % 4294967296) ^^^ (if r.testBit 31 then 79764919 else 0) := by unfold lin; rw [Nat.shiftLeft_eq, p32]

theorem top_bit (r : Nat) (hr : r < 4294967296) : r.testBit 31 = decide (r / 2147483648 = 1) := by
  rw [Nat.testBit_eq_decide_div_mod_eq, show (2 : Nat) ^ 31 = 2147483648 from rfl]
  congr 1
  rw [Nat.mod_eq_of_lt (by omega)]

/-- 'bits .xor .u32' of two numbers. -/
theorem u32x (a b : Nat) (x y : Int) (hx : x = a) (hy : y = b) (ha : a < 4294967296) (hb : b < 4294967296) : bits .xor .u32 x y = ((a ^^^ b : Nat) : Int) := by
  subst hx; subst hy; exact u32_xor_nat a b ha hb

set_option maxHeartbeats 400000 in
theorem place_any (r c : Nat) (w : World) (hr : r < 4294967296) (hc : c < 256) :
    Calls Tryd.prog 15 #[.int .u32 (r : Int), .int .u8 (c : Int)] w fun e w' => e = .returned (.int .u32 ((r / 268435456 ^^^ c % 16 : Nat) : Int)) ∧ w = w' := by
  have H := Hid.mk' (u32x (r / 268435456) (c % 16) ((r : Int) / 268435456) ((c : Int) % 16) (by omega) (by omega) (by omega) (by omega))
  go_enter Tryd.func15, Tryd.ntmps15
  go_wp2
  go_ret
  exact ⟨ret_nat H.out, rfl⟩
set_option maxHeartbeats 400000 in
theorem moved_any (r : Nat) (w : World) (hr : r < 4294967296) :
    Calls Tryd.prog 25 #[.int .u32 (r : Int)] w fun e w' => e = .returned (.int .u32 ((lin r : Nat) : Int)) ∧ w = w' := by
  by_cases h : (r : Int) / 2147483648 = 1
  · have H : Hid (bits .xor .u32 ((r : Int) * 2 % 4294967296) 79764919 = ((lin r : Nat) : Int)) := by
      show _ = _
      rw [lin_eq, top_bit r hr, decide_eq_true (show r / 2147483648 = 1 by omega), if_pos rfl]
      exact u32x _ _ _ _ (by omega) (by omega) (by omega) (by omega)
    go_enter Tryd.func25, Tryd.ntmps25
    go_wp2
    go_ret
    exact ⟨ret_nat H.out, rfl⟩
  · have H : Hid ((r : Int) * 2 = ((lin r : Nat) : Int)) := by
      show _ = _
      rw [lin_eq, top_bit r hr, decide_eq_false (show ¬ r / 2147483648 = 1 by omega), if_neg (by simp), Nat.xor_zero]
      omega
    go_enter Tryd.func25, Tryd.ntmps25
    go_wp2
    go_ret
    exact ⟨ret_nat H.out, rfl⟩
theorem bit_of (c j : Nat) : c.testBit j = decide (c / 2 ^ j % 2 = 1) := Nat.testBit_eq_decide_div_mod_eq

theorem pow_small (j : Nat) (h : j < 8) : (2 : Int) ^ j % 4294967296 = 2 ^ j ∧ ¬ (2 : Int) ^ j = 0 ∧ (2 : Int) ^ j = ((2 ^ j : Nat) : Int) := by
  have all : ∀ j : Fin 8, (2 : Int) ^ j.val % 4294967296 = 2 ^ j.val ∧ ¬ (2 : Int) ^ j.val = 0 ∧ (2 : Int) ^ j.val = ((2 ^ j.val : Nat) : Int) := by decide
  exact all ⟨j, h⟩

/-- One bit, as the reference takes it. -/
theorem bit_step (s c j : Nat) (hs : s < 4294967296) : bitR s (c.testBit j) = (s * 2 % 4294967296) ^^^ (if s / 2147483648 = c / 2 ^ j % 2 then 0 else 79764919) := by
  rw [bitR_eq, top_bit s hs, bit_of]
  congr 1
  have h1 : s / 2147483648 < 2 := by omega
  have h2 : c / 2 ^ j % 2 < 2 := Nat.mod_lt _ (by omega)
  generalize s / 2147483648 = a at h1
  generalize c / 2 ^ j % 2 = b at h2
  have ha : a = 0 ∨ a = 1 := by omega
  have hb : b = 0 ∨ b = 1 := by omega
  rcases ha with rfl | rfl <;> rcases hb with rfl | rfl <;> rfl

set_option maxHeartbeats 800000 in
theorem bits_any (r c : Nat) (w : World) (hr : r < 4294967296) (hc : c < 256) :
    Calls Tryd.prog 16 #[.int .u32 (r : Int), .int .u8 (c : Int)] w fun e w' => e = .returned (.int .u32 ((byteR r c : Nat) : Int)) ∧ w = w' := by
  have HF := Hid.mk' (byteR_bits r c hc)
  go_enter Tryd.func16, Tryd.ntmps16
  go_wp2
  go_loop [0, 5] (fun x i => ∃ (n s : Nat), n ≤ 8 ∧ s < 4294967296 ∧ x = .int .u32 (s : Int) ∧ i = .int .i64 ((n : Int) - 1) ∧ Hid (byteR r c = feed n s c)) (fun _ i => (intOf i + 1).toNat)
  case atStart => exact ⟨8, r, by omega, hr, rfl, rfl, HF⟩
  case round =>
    obtain ⟨n, s, hn, hs, rfl, rfl, HI⟩ := hrel
    cases n with
    | zero =>
      go_wp2
      go_ret
      exact ⟨ret_nat (by rw [HI.out]; rfl), rfl⟩
    | succ j =>
      obtain ⟨hp, hq, hpc⟩ := pow_small j (by omega)
      have HB := Hid.mk' (bit_step s c j hs)
      have hdc : (c : Int) / 2 ^ j % 2 = ((c / 2 ^ j % 2 : Nat) : Int) := by rw [hpc]; omega
      by_cases t : (s : Int) / 2147483648 = (c : Int) / 2 ^ j % 2
      · rw [if_pos (by omega), Nat.xor_zero] at HB
        clear hpc hdc
        go_wp2
        go_round
        case rel => exact ⟨j, s * 2 % 4294967296, by omega, by omega, by go_num, by go_num, Hid.mk' (by rw [HI.out, feed, HB.out])⟩
        case measure => (simp [intOf]; try omega)
      · rw [if_neg (by omega)] at HB
        have HX := Hid.mk' (u32x (s * 2 % 4294967296) 79764919 ((s : Int) * 2 % 4294967296) 79764919 (by omega) rfl (by omega) (by omega))
        have hlt := Nat.xor_lt_two_pow (n := 32) (show s * 2 % 4294967296 < 2 ^ 32 by rw [p32]; omega) (show 79764919 < 2 ^ 32 by decide)
        rw [p32] at hlt
        have HL := Hid.mk' hlt
        clear hpc hdc hlt
        go_wp2
        go_round
        case rel => exact ⟨j, _, by omega, HL.out, congrArg _ HX.out, by go_num, Hid.mk' (by rw [HI.out, feed, HB.out])⟩
        case measure => (simp [intOf]; try omega)
theorem take_snoc (l : List Int) (j : Nat) (h : j < l.length) : l.take (j + 1) = l.take j ++ [l.getD j 0] := by
  rw [List.take_add_one]
  simp [List.getD, h]

theorem sum_turn (a : Nat) (ha : a < 4294967296) : bits .xor .u32 (a : Int) 4294967295 = ((a ^^^ 4294967295 : Nat) : Int) := u32x a 4294967295 _ _ rfl rfl ha (by omega)

set_option maxHeartbeats 800000 in
theorem refsum_any (p : Option Addr) (c : Nat) (l : List Int) (w : World) (hl : BIn w p l) (hb : isB l) (hm : l.length ≤ 140737488355328) :
    Calls Tryd.prog 9 #[.slice p l.length c] w fun e w' => e = .returned (.int .u32 ((sumB l : Nat) : Int)) ∧ w = w' := by
  go_enter Tryd.func9, Tryd.ntmps9
  go_wp2
  go_loop [3, 4] (fun x i => ∃ j : Nat, j ≤ l.length ∧ i = .int .i64 (j : Int) ∧ x = .int .u32 ((regB 4294967295 (l.take j) : Nat) : Int)) (fun _ i => l.length - (intOf i).toNat)
  case atStart => exact ⟨0, Nat.zero_le _, rfl, rfl⟩
  case round =>
    obtain ⟨j, hj, rfl, rfl⟩ := hrel
    have hlt := regB_lt 4294967295 (l.take j) (by decide) (hb.take j)
    rw [p32] at hlt
    by_cases t : j < l.length
    · have hx := hb.getD j
      obtain ⟨g, o, rfl, hc⟩ := hl (by omega)
      have hcj := hc j t
      have HT := Hid.mk' (take_snoc l j t)
      have HR := Hid.mk' (regB_snoc 4294967295 (l.take j) (l.getD j 0))
      generalize l.getD j 0 = x at hx hcj HT HR
      obtain ⟨x, rfl⟩ := Int.eq_ofNat_of_zero_le hx.1
      have B := bits_any (regB 4294967295 (l.take j)) x w hlt (by omega)
      rw [Int.toNat_natCast] at HR
      generalize regB 4294967295 (l.take j) = r at B HR hlt
      clear hc
      go_wp2_with (go_at_call 16; refine B.mono ?_; rintro e w' ⟨rfl, rfl⟩)
      go_round
      case rel => exact ⟨j + 1, by omega, by go_num, by rw [HT.out, HR.out]⟩
      case measure => simp [intOf]; omega
    · obtain rfl : j = l.length := by omega
      rw [List.take_length] at hlt ⊢
      have HX := Hid.mk' (sum_turn _ hlt)
      go_wp2
      go_ret
      exact ⟨ret_nat HX.out, rfl⟩
end Go.Proofs.YtlkljfpgphhpdaaDoor
