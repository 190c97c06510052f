/-
  How many bits a number has, as the library of Go counts them (math/bits.Len64), and how many bytes its form has by that.
-/
import Derived.Test.YtllaajajjodimaaRows
import Derived.Test.YtllaajajjodimaaVarM
import Derived.WalkKit
import Derived.WalkSpells
import Derived.WalkLawsBesides
import Derived.Laws.BitsAllLaws
import Derived.Lib.BitFns
import Derived.Lib.Walk
namespace Go.Proofs.Ytllaajajjodimaa
open Go.RowKit
set_option linter.unusedSimpArgs false
set_option linter.unusedVariables false

theorem tab_get (y : Int) (hb : y.toNat < Lib.len8tab.size) : ((Lib.len8tab[y.toNat]'hb).toNat : Int) = Lib.len8 y := by
  simp only [Lib.len8, ByteArray.getElem?_lt' _ _ hb, Option.getD_some]

theorem tab_num (k p : Nat) (x y : Int) (hp : 2 ^ k = p) (hk : k ≤ 56) (h0 : 0 ≤ x) (h1 : x ≤ 18446744073709551615) (hy : y = x / p) (hlo : k = 0 ∨ (p : Int) ≤ x) (hy2 : y < 256) :
    wrap64 ((k : Int) + wrap64 (Lib.len8 y)) = (Lib.bitLen x.toNat : Int) := by
  have hp0 : 0 < p := by rw [← hp]; exact Nat.two_pow_pos k
  have hy0 : 0 ≤ y := by rw [hy]; exact Int.ediv_nonneg h0 (by omega)
  have e2 := Lib.len8_of y hy0 (by omega)
  have e3 := Lib.bitLen_le8' y hy0 (by omega)
  have e4 : y.toNat = x.toNat / p := by
    obtain ⟨n, rfl⟩ := Int.eq_ofNat_of_zero_le h0
    rw [hy, Int.toNat_natCast, ← Int.natCast_ediv, Int.toNat_natCast]
  have hx : x.toNat < 2 ^ 64 := by
    rw [show (2 : Nat) ^ 64 = 18446744073709551616 from rfl]; omega
  have e5 : Lib.bitLen x.toNat = k + Lib.bitLen (x.toNat / p) := by
    rcases hlo with rfl | hlo
    · rw [← hp]; simp
    · rw [← hp]; exact Lib.bitLen_shift k x.toNat (by rw [hp]; omega) hx
  rw [e2, e5, ← e4]
  generalize Lib.bitLen y.toNat = b at e3 ⊢
  clear e2 e4 e5 hx hp hlo hy
  unfold wrap64
  omega

theorem tab_fin (k p : Nat) (x y : Int) (hp : 2 ^ k = p) (hk : k ≤ 56) (h0 : 0 ≤ x) (h1 : x ≤ 18446744073709551615) (hy : y = x / p) (hlo : k = 0 ∨ (p : Int) ≤ x) (hy2 : y < 256) (hb : y.toNat < Lib.len8tab.size) :
    wrap64 ((k : Int) + wrap64 ((Lib.len8tab[y.toNat]'hb).toNat : Int)) = (Lib.bitLen x.toNat : Int) := by
  rw [tab_get y hb]
  exact tab_num k p x y hp hk h0 h1 hy hlo hy2

set_option maxRecDepth 100000 in
set_option maxHeartbeats 4000000 in
theorem len64_any (x : Int) (w : World) (h0 : 0 ≤ x) (h1 : x ≤ 18446744073709551615) :
    Calls Try.prog 18 #[.int .u64 x] w fun e w' => e = .returned (.int .i64 (Lib.bitLen x.toNat)) ∧ w = w' := by
  have hs : (256 : Int) ≤ (Lib.len8tab.size : Int) := by rw [Lib.len8tab_size]; omega
  go_enter Try.func18, Try.ntmps18
  go_wp2
  all_goals (go_ret; refine ⟨congrArg (fun z => Ending.returned (Value.int IntKind.i64 z)) ?_, rfl⟩)
  · exact tab_fin 56 72057594037927936 x _ (by decide) (by omega) h0 h1 (by omega) (.inr (by omega)) (by omega) _
  · exact tab_fin 48 281474976710656 x _ (by decide) (by omega) h0 h1 (by omega) (.inr (by omega)) (by omega) _
  · exact tab_fin 40 1099511627776 x _ (by decide) (by omega) h0 h1 (by omega) (.inr (by omega)) (by omega) _
  · exact tab_fin 32 4294967296 x _ (by decide) (by omega) h0 h1 (by omega) (.inr (by omega)) (by omega) _
  · exact tab_fin 24 16777216 x _ (by decide) (by omega) h0 h1 (by omega) (.inr (by omega)) (by omega) _
  · exact tab_fin 16 65536 x _ (by decide) (by omega) h0 h1 (by omega) (.inr (by omega)) (by omega) _
  · exact tab_fin 8 256 x _ (by decide) (by omega) h0 h1 (by omega) (.inr (by omega)) (by omega) _
  · have := tab_fin 0 1 x x (by decide) (by omega) h0 h1 (by omega) (.inl rfl) (by omega) (by omega)
    simpa using this

/-- The bytes of a form, by the number of bits. -/
theorem bitLen_low (x : Nat) (k : Nat) (hx : x < 18446744073709551616) (h : 2 ^ k ≤ x) (hk : k ≤ 63) : k + 1 ≤ Lib.bitLen x := by
  have h1 := Lib.bitLen_shift k x h hx
  have h2 : x / 2 ^ k ≠ 0 := by
    have := Nat.div_pos h (Nat.two_pow_pos k); omega
  have h3 := Lib.bitLen_half (x / 2 ^ k) h2 (Nat.lt_of_le_of_lt (Nat.div_le_self _ _) hx)
  omega

theorem len_L7 (v : Int) (h0 : 0 ≤ v) (hv : v ≤ 18446744073709551615) (y : Int) (hy : y = v ∨ (y = v + 1 ∧ v % 2 = 0)) (hy1 : 1 ≤ y) : ((Lib.bitLen y.toNat : Int) + 6) / 7 = (L7 v : Int) := by
  have up : ∀ k p : Nat, 2 ^ k = p → k ≤ 64 → y < p → Lib.bitLen y.toNat ≤ k := fun k p hp hk h => Lib.bitLen_le _ k hk (by rw [hp]; omega)
  have lo : ∀ k p : Nat, 2 ^ k = p → k ≤ 63 → (p : Int) ≤ y → k + 1 ≤ Lib.bitLen y.toNat := fun k p hp hk h => bitLen_low _ k (by omega) (by rw [hp]; omega) hk
  rcases L7_cases v with c | c | c | c | c | c | c | c | c | c
  · have a := up 7 128 (by decide) (by omega) (by omega)
    have b := lo 0 1 (by decide) (by omega) (by omega)
    omega
  · have a := up 14 16384 (by decide) (by omega) (by omega)
    have b := lo 7 128 (by decide) (by omega) (by omega)
    omega
  · have a := up 21 2097152 (by decide) (by omega) (by omega)
    have b := lo 14 16384 (by decide) (by omega) (by omega)
    omega
  · have a := up 28 268435456 (by decide) (by omega) (by omega)
    have b := lo 21 2097152 (by decide) (by omega) (by omega)
    omega
  · have a := up 35 34359738368 (by decide) (by omega) (by omega)
    have b := lo 28 268435456 (by decide) (by omega) (by omega)
    omega
  · have a := up 42 4398046511104 (by decide) (by omega) (by omega)
    have b := lo 35 34359738368 (by decide) (by omega) (by omega)
    omega
  · have a := up 49 562949953421312 (by decide) (by omega) (by omega)
    have b := lo 42 4398046511104 (by decide) (by omega) (by omega)
    omega
  · have a := up 56 72057594037927936 (by decide) (by omega) (by omega)
    have b := lo 49 562949953421312 (by decide) (by omega) (by omega)
    omega
  · have a := up 63 9223372036854775808 (by decide) (by omega) (by omega)
    have b := lo 56 72057594037927936 (by decide) (by omega) (by omega)
    omega
  · have a := up 64 18446744073709551616 (by decide) (by omega) (by omega)
    have b := lo 63 9223372036854775808 (by decide) (by omega) (by omega)
    omega

theorem or_one (v : Int) (h0 : 0 ≤ v) (hv : v ≤ 18446744073709551615) : ∃ y, bits .or .u64 v 1 = y ∧ (y = v ∨ (y = v + 1 ∧ v % 2 = 0)) ∧ 1 ≤ y ∧ y ≤ 18446744073709551615 := by
  rw [u64_or v 1 h0 (by omega) (by omega) (by omega)]
  obtain ⟨n, rfl⟩ := Int.eq_ofNat_of_zero_le h0
  have e : n ||| 1 = if n % 2 = 0 then n + 1 else n := by
    apply Nat.eq_of_testBit_eq
    intro i
    rcases Nat.mod_two_eq_zero_or_one n with h | h
    · rw [if_pos h]
      cases i with
      | zero => simp [Nat.testBit_zero]; omega
      | succ i => rw [Nat.testBit_or]; simp only [Nat.testBit_succ]; rw [show (n + 1) / 2 = n / 2 by omega, show 1 / 2 = 0 from rfl, Nat.zero_testBit, Bool.or_false]
    · rw [if_neg (by omega)]
      cases i with
      | zero => simp [Nat.testBit_zero]; omega
      | succ i => rw [Nat.testBit_or]; simp only [Nat.testBit_succ]; rw [show 1 / 2 = 0 from rfl, Nat.zero_testBit, Bool.or_false]
  simp only [Int.toNat_natCast, Int.toNat_one, e]
  split
  · exact ⟨_, rfl, .inr ⟨by omega, by omega⟩, by omega, by omega⟩
  · exact ⟨_, rfl, .inl rfl, by omega, by omega⟩

set_option maxHeartbeats 400000 in
theorem len_any (v : Int) (w : World) (h0 : 0 ≤ v) (hv : v ≤ 18446744073709551615) :
    Calls Try.prog 10 #[.int .u64 v] w fun e w' => e = .returned (.int .i64 (L7 v)) ∧ w = w' := by
  obtain ⟨y, hy, hc, hy1, hy2⟩ := or_one v h0 hv
  have L := len64_any y w (by omega) hy2
  have HL := Hid.mk' (len_L7 v h0 hv y hc hy1)
  have hb : (Lib.bitLen y.toNat : Int) ≤ 64 := by have := Lib.bitLen_le y.toNat 64 (by omega) (by have : (2 : Nat) ^ 64 = 18446744073709551616 := rfl; rw [this]; omega); omega
  generalize (Lib.bitLen y.toNat) = b at L HL hb
  clear hc hy1 hy2
  go_enter Try.func10, Try.ntmps10
  go_wp2_with (go_at_call 18; refine L.mono ?_; rintro e w' ⟨rfl, rfl⟩)
  go_ret
  exact ⟨congrArg (fun z => Ending.returned (Value.int IntKind.i64 z)) (by rw [← HL.out]; go_num), rfl⟩
end Go.Proofs.Ytllaajajjodimaa
