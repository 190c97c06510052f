/-
  Package varint: ends and Get.
-/
import Derived.Test.YtllaajajjodimaaVarint
import Derived.WalkMore
namespace Go.Proofs.Ytllaajajjodimaa
open Go.RowKit
set_option linter.unusedSimpArgs false
set_option linter.unusedVariables false

set_option maxHeartbeats 400000 in
theorem ends_yes (x : Int) (n : Nat) (w : World) (h0 : 0 ≤ x) (hx : x < 256) (h1 : ¬ (n = 10 ∧ 1 < x)) (h2 : x ≠ 0 ∨ n = 1) :
    Calls Try.prog 19 #[.int .u8 x, .int .i64 n] w fun e w' => e = .returned (.bool true) ∧ w = w' := by
  by_cases hn : n = 10
  · subst hn
    have g1 : ¬ 1 < x := by omega
    have g2 : ¬ x = 0 := by omega
    clear h1 h2
    go_enter Try.func19, Try.ntmps19
    go_wp2
    go_ret
    exact ⟨rfl, rfl⟩
  · have g1 : ¬ (n : Int) = 10 := by omega
    clear h1
    by_cases hx0 : x = 0
    · obtain rfl : n = 1 := by omega
      subst hx0
      go_enter Try.func19, Try.ntmps19
      go_wp2
      go_ret
      exact ⟨rfl, rfl⟩
    · clear h2
      go_enter Try.func19, Try.ntmps19
      go_wp2
      go_ret
      exact ⟨rfl, rfl⟩

set_option maxHeartbeats 400000 in
theorem ends_no (x : Int) (n : Nat) (w : World) (h0 : 0 ≤ x) (hx : x < 256) (h : (n = 10 ∧ 1 < x) ∨ (x = 0 ∧ n ≠ 1)) :
    Calls Try.prog 19 #[.int .u8 x, .int .i64 n] w fun e w' => e = .returned (.bool false) ∧ w = w' := by
  by_cases hn : n = 10 ∧ 1 < x
  · obtain ⟨rfl, hx1⟩ := hn
    clear h
    go_enter Try.func19, Try.ntmps19
    go_wp2
    go_ret
    exact ⟨rfl, rfl⟩
  · obtain ⟨rfl, hn1⟩ : x = 0 ∧ n ≠ 1 := by rcases h with h | h; exact absurd h hn; exact h
    have g1 : ((n : Int) == 1) = false := by simp; omega
    clear h hn
    by_cases hn : n = 10
    · subst hn
      go_enter Try.func19, Try.ntmps19
      go_wp2
      go_ret
      exact ⟨rfl, rfl⟩
    · have g2 : ¬ (n : Int) = 10 := by omega
      go_enter Try.func19, Try.ntmps19
      go_wp2
      go_ret
      exact ⟨rfl, rfl⟩

/-- What stands in v behind j rounds. -/
def vv (l : List Int) : Nat → Int
  | 0 => 0
  | j + 1 => bits .or .u64 (vv l j) (IntKind.u64.wrap (l.getD j 0 % 128 * 2 ^ (7 * j)))

theorem vv_bd (l : List Int) (j : Nat) : 0 ≤ vv l j ∧ vv l j ≤ 18446744073709551615 := by
  induction j with
  | zero => simp [vv]
  | succ j ih =>
    rw [vv, IntKind.wrap_u64, u64_or _ _ ih.1 (by omega) (by omega) (by omega)]
    refine ⟨by omega, ?_⟩
    have a : (vv l j).toNat < 2 ^ 64 := by rw [show (2 : Nat) ^ 64 = 18446744073709551616 from rfl]; omega
    have b : (l.getD j 0 % 128 * 2 ^ (7 * j) % 18446744073709551616).toNat < 2 ^ 64 := by rw [show (2 : Nat) ^ 64 = 18446744073709551616 from rfl]; omega
    have := Nat.or_lt_two_pow a b
    rw [show (2 : Nat) ^ 64 = 18446744073709551616 from rfl] at this
    omega

theorem u64_join (i : Nat) (y q : Int) (hq : 0 ≤ q) (hy0 : 0 ≤ y) (hy : y < 2 ^ i) (hx1 : 2 ^ i * q < 18446744073709551616) (hy1 : y < 18446744073709551616) : bits .or .u64 y (2 ^ i * q) = y + 2 ^ i * q := by
  have hp : (0 : Int) < 2 ^ i := Int.pow_pos (by omega)
  rw [u64_or _ _ hy0 hy1 (Int.mul_nonneg (Int.le_of_lt hp) hq) hx1]
  obtain ⟨a, rfl⟩ := Int.eq_ofNat_of_zero_le hy0
  obtain ⟨b, rfl⟩ := Int.eq_ofNat_of_zero_le hq
  have ha : a < 2 ^ i := by exact_mod_cast hy
  have e : ((2 : Int) ^ i * (b : Int)) = ((2 ^ i * b : Nat) : Int) := by simp
  rw [e, Int.toNat_natCast, Int.toNat_natCast, Nat.or_comm, ← Nat.two_pow_add_eq_or_of_lt ha b]
  omega

theorem vv_val (l : List Int) (j : Nat) (hj : j ≤ l.length) (h : j ≤ 9 ∨ (j = 10 ∧ l.getD 9 0 ≤ 1)) (hB : isB l) : vv l j = valB (l.take j) := by
  induction j with
  | zero => simp [vv, valB]
  | succ j ih =>
    have ih' := ih (by omega) (by omega)
    have hlt : j < l.length := by omega
    have hx := hB.getD j
    have e : l.take (j + 1) = l.take j ++ [l.getD j 0] := by
      rw [List.take_succ_eq_append_getElem hlt, show l.getD j 0 = l[j] by simp [List.getD, hlt]]
    have hlen : (l.take j).length = j := by simp; omega
    have hn := valB_nonneg (l.take j)
    have hu := valB_lt (l.take j)
    rw [hlen] at hu
    have p9 : (128 : Int) ^ 9 = 9223372036854775808 := rfl
    have hm := p7_mono (show j ≤ 9 by omega)
    have hp := p7_pos j
    have hprod : 128 ^ j * (l.getD j 0 % 128) < 18446744073709551616 := by
      by_cases h9 : j = 9
      · subst h9
        rw [p9]
        omega
      · have hm8 := p7_mono (show j + 1 ≤ 9 by omega)
        rw [Int.pow_succ] at hm8
        have := Int.mul_le_mul_of_nonneg_left (show l.getD j 0 % 128 ≤ 128 by omega) (Int.le_of_lt hp)
        omega
    have hpn : 0 ≤ 128 ^ j * (l.getD j 0 % 128) := Int.mul_nonneg (Int.le_of_lt hp) (by omega)
    rw [vv, IntKind.wrap_u64, ih', e, valB_snoc, hlen, p7_two, Int.mul_comm (l.getD j 0 % 128), Int.emod_eq_of_lt hpn hprod, ← p7_two]
    exact u64_join (7 * j) _ _ (by omega) hn (by rw [p7_two]; exact hu) (by rw [p7_two]; exact hprod) (by omega)

/-- What 'Get' answers: the error, how many bytes, the number. -/
def getE (l : List Int) : Int := if getBad l then 4 else if l.length ≤ endP l then 2 else 0
def getN (l : List Int) : Int := if getE l = 0 then endP l + 1 else 0
def getW (l : List Int) : Int := if getE l = 0 then valB (l.take (endP l + 1)) else 0

theorem get_of (l : List Int) (v n e : Int) (he : getE l = e) (hn : (e = 0 → n = endP l + 1) ∧ (e ≠ 0 → n = 0)) (hv : (e = 0 → v = valB (l.take (endP l + 1))) ∧ (e ≠ 0 → v = 0)) : getW l = v ∧ getN l = n := by
  unfold getW getN
  rw [he]
  by_cases h : e = 0
  · rw [if_pos h, if_pos h]; exact ⟨(hv.1 h).symm, (hn.1 h).symm⟩
  · rw [if_neg h, if_neg h]; exact ⟨(hv.2 h).symm, (hn.2 h).symm⟩

theorem get_bad_at (l : List Int) (h : getBad l = true) : getE l = 4 ∧ getW l = 0 ∧ getN l = 0 := by
  have e : getE l = 4 := by simp [getE, h]
  exact ⟨e, get_of l 0 0 4 e (by omega) (by omega)⟩
theorem get_short_at (l : List Int) (h : endP l < 10) (h2 : l.length ≤ endP l) : getE l = 2 ∧ getW l = 0 ∧ getN l = 0 := by
  have hb : getBad l = false := by simp [getBad]; omega
  have e : getE l = 2 := by simp [getE, hb, h2]
  exact ⟨e, get_of l 0 0 2 e (by omega) (by omega)⟩
theorem get_good_at (l : List Int) (h : getBad l = false) (h2 : endP l < l.length) : getE l = 0 ∧ getW l = valB (l.take (endP l + 1)) ∧ getN l = endP l + 1 := by
  have e : getE l = 0 := by simp [getE, h]; omega
  exact ⟨e, get_of l _ _ 0 e (by simp) (by simp)⟩

theorem getBad_last (l : List Int) (h10 : endP l < 10) (h2 : endP l < l.length) : getBad l = true ↔ ((endP l + 1 = 10 ∧ 1 < l.getD (endP l) 0) ∨ (l.getD (endP l) 0 = 0 ∧ endP l + 1 ≠ 1)) := by
  unfold getBad
  simp only [Bool.or_eq_true, Bool.and_eq_true, decide_eq_true_eq]
  constructor
  · rintro (h | ⟨_, h | h⟩)
    · omega
    · left; rw [h.1]; exact ⟨rfl, h.2⟩
    · right; exact ⟨h.2, by omega⟩
  · rintro (h | h)
    · right; refine ⟨h2, .inl ⟨by omega, ?_⟩⟩; have : endP l = 9 := by omega
      rw [this] at h; exact h.2
    · right; exact ⟨h2, .inr ⟨by omega, h.1⟩⟩

theorem BIn.at {w : World} {p : Option Addr} {l : List Int} (h : BIn w p l) (j : Nat) (hj : j < l.length) : ∃ g o, p = some ⟨g, o, none⟩ ∧ w.cell? ⟨g, o + j, none⟩ = some (.int .u8 (l.getD j 0)) := by
  obtain ⟨g, o, rfl, hc⟩ := h (by omega)
  exact ⟨g, o, rfl, hc j hj⟩

set_option maxHeartbeats 1000000 in
theorem get_any (p : Option Addr) (c : Nat) (l : List Int) (w : World) (hB : BIn w p l) (hl : isB l) (hlen : l.length ≤ 9223372036854775807) :
    Calls Try.prog 12 #[.slice p l.length c] w fun e w' => e = .returned (.tuple #[.int .u64 (getW l), .int .i64 (getN l), .int .i64 (getE l)]) ∧ w = w' := by
  have HB := Hid.mk' hB
  have HL := Hid.mk' hl
  clear hB hl
  go_enter Try.func12, Try.ntmps12
  go_wp2
  go_step3
  go_wp2
  go_step3
  go_wp2
  go_loop [5, 6, 8] (fun v n i => ∃ j : Nat, j ≤ 10 ∧ j ≤ endP l ∧ i = .int .i64 j ∧ n = .int .i64 j ∧ v = .int .u64 (vv l j)) (fun _ _ i => 10 - (intOf i).toNat)
  case atStart => exact ⟨0, Nat.zero_le _, Nat.zero_le _, rfl, rfl, rfl⟩
  case round =>
    obtain ⟨j, hj, hje, rfl, rfl, rfl⟩ := hrel
    have he := endP_le l
    by_cases hlt : j < 10
    · by_cases hl2 : j < l.length
      · obtain ⟨g, o, rfl, hcj⟩ := HB.out.at j hl2
        have hx := HL.out.getD j
        have hvb := vv_bd l j
        have HV : Hid (vv l (j + 1) = bits .or .u64 (vv l j) (IntKind.u64.wrap (l.getD j 0 % 128 * 2 ^ (7 * j)))) := rfl
        have hjl : ¬ (j : Int) = (l.length : Int) := by omega
        have hxe := endP_ge l j
        have hlast := getBad_last l
        have hvv := fun h => vv_val l (j + 1) (by omega) h HL.out
        have h9e : j = 9 → l.getD 9 0 = l.getD j 0 := by rintro rfl; rfl
        by_cases h128 : l.getD j 0 < 128
        · have hej : endP l = j := by
            by_cases q : endP l = j
            · exact q
            · have := hxe (by omega); omega
          have hlast := hlast (by omega) (by omega)
          rw [hej] at hlast
          by_cases hbad : getBad l = true
          · have G := get_bad_at l hbad
            have hE := hlast.1 hbad
            generalize l.getD j 0 = x at hcj hx HV h128 hE
            have E := ends_no x (j + 1) w (by omega) (by omega) hE
            have HG := Hid.mk' G
            clear G hE hje hbad hlast hvv h9e hxe hej
            generalize vv l j = V at HV hvb
            go_wp2_with (go_at_call 19; refine E.mono ?_; rintro e w' ⟨rfl, rfl⟩)
            try rw [Exit.noGoto_ret]
            go_ret3
            exact ⟨by rw [HG.out.1, HG.out.2.1, HG.out.2.2]; rfl, rfl⟩
          · have hgb : getBad l = false := by simpa using hbad
            have G := get_good_at l hgb (by omega)
            have hE := mt hlast.2 hbad
            have hVV := hvv (by by_cases q : j = 9; (right; rw [h9e q]; omega); left; omega)
            rw [hej] at G
            generalize l.getD j 0 = x at hcj hx HV h128 hE
            have E := ends_yes x (j + 1) w (by omega) (by omega) (by omega) (by omega)
            have HG := Hid.mk' G
            have HVV := Hid.mk' hVV
            clear G hVV hej hE hje hbad hgb hlast hvv h9e hxe
            generalize vv l j = V at HV hvb
            go_wp2_with (go_at_call 19; refine E.mono ?_; rintro e w' ⟨rfl, rfl⟩)
            try rw [Exit.noGoto_ret]
            go_ret3
            refine ⟨?_, rfl⟩
            rw [HG.out.1, HG.out.2.1, HG.out.2.2, ← HVV.out, HV.out]
            rfl
        · have hej : j + 1 ≤ endP l := by
            by_cases q : endP l = j
            · have := endP_lt l (by omega) (by omega); rw [q] at this; exact absurd this h128
            · omega
          generalize l.getD j 0 = x at hcj hx HV h128
          clear hlast hvv h9e hxe hje
          generalize hV : vv l j = V at HV hvb
          have HVj := Hid.mk' hV
          clear hV
          go_wp2
          go_round
          case rel => exact ⟨j + 1, by omega, hej, by go_num, by go_num, by rw [HV.out]⟩
          case measure => simp [intOf]; omega
      · have G := get_short_at l (by omega) (by omega)
        have hjl : (j : Int) = (l.length : Int) := by omega
        have HG := Hid.mk' G
        clear G he hje
        go_wp2
        try rw [Exit.noGoto_ret]
        go_ret3
        exact ⟨by rw [HG.out.1, HG.out.2.1, HG.out.2.2]; rfl, rfl⟩
    · obtain rfl : j = 10 := by omega
      have hbad : getBad l = true := by simp [getBad]; omega
      have G := get_bad_at l hbad
      obtain ⟨g, o, rfl, hcj⟩ := HB.out.at 9 (by omega)
      have hx := HL.out.getD 9
      have hge := endP_ge l 9 (by omega)
      have h10 : 10 ≤ l.length := by omega
      generalize l.getD 9 0 = x at hcj hx hge
      have E := ends_no x 10 w (by omega) (by omega) (.inl ⟨rfl, by omega⟩)
      have HG := Hid.mk' G
      clear G he hje hbad hj hlt
      generalize vv l 10 = V
      go_wp2_with (go_at_call 19; refine E.mono ?_; rintro e w' ⟨rfl, rfl⟩)
      try rw [Exit.noGoto_ret]
      go_ret3
      exact ⟨by rw [HG.out.1, HG.out.2.1, HG.out.2.2]; rfl, rfl⟩
end Go.Proofs.Ytllaajajjodimaa
