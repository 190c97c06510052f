/-
  Package crc: the small functions (place, moved), and the document's register bit by bit.
-/
import Derived.Test.YtecdagmeobiahaaDoorRows
import Derived.Test.YtecdagmeobiahaaDoorCrcM
import Derived.WalkKit
import Derived.WalkSpells
import Derived.WalkLawsBesides
import Derived.Laws.BitsAllLaws
namespace Go.Proofs.YtecdagmeobiahaaDoor
open Go.RowKit
set_option linter.unusedSimpArgs false
set_option linter.unusedVariables false

theorem ret_nat {k : IntKind} {a : Int} {b : Int} (h : a = b) : Ending.returned (.int k a) = .returned (.int k b) := by rw [h]

theorem lin_eq (r : Nat) : lin r = (r * 2 % 4294967296) ^^^ (if r.testBit 31 then 79764919 else 0) := by unfold lin; rw [Nat.shiftLeft_eq, p32]

theorem top_bit (r : Nat) (hr : r < 4294967296) : r.testBit 31 = decide (r / 2147483648 = 1) := by
  rw [Nat.testBit_eq_decide_div_mod_eq, show (2 : Nat) ^ 31 = 2147483648 from rfl]
  congr 1
  rw [Nat.mod_eq_of_lt (by omega)]

/-- 'bits .xor .u32' of two numbers. -/
theorem u32x (a b : Nat) (x y : Int) (hx : x = a) (hy : y = b) (ha : a < 4294967296) (hb : b < 4294967296) : bits .xor .u32 x y = ((a ^^^ b : Nat) : Int) := by
  subst hx; subst hy; exact u32_xor_nat a b ha hb

set_option maxHeartbeats 400000 in
theorem place_any (r c : Nat) (w : World) (hr : r < 4294967296) (hc : c < 256) :
    Calls Tryd.prog 36 #[.int .u32 (r : Int), .int .u8 (c : Int)] w fun e w' => e = .returned (.int .u32 ((r / 268435456 ^^^ c % 16 : Nat) : Int)) ∧ w = w' := by
  have H := Hid.mk' (u32x (r / 268435456) (c % 16) ((r : Int) / 268435456) ((c : Int) % 16) (by omega) (by omega) (by omega) (by omega))
  go_enter Tryd.func36, Tryd.ntmps36
  go_wp2
  go_ret
  exact ⟨ret_nat H.out, rfl⟩
theorem take_snoc (l : List Int) (j : Nat) (h : j < l.length) : l.take (j + 1) = l.take j ++ [l.getD j 0] := by
  rw [List.take_add_one]
  simp [List.getD, h]

end Go.Proofs.YtecdagmeobiahaaDoor
