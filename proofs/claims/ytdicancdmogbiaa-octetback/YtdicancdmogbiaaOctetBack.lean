/-
  Proved: the statement on layer 1's 'what is put is read back' (OctetBack) returns true at every input, and leaves its arguments as they were. No condition.
-/
import Derived.Test.YtdicancdmogbiaaRows
import Derived.Test.YtdicancdmogbiaaLaw01
import Derived.Test.YtdicancdmogbiaaShapes
import Derived.ShutString
import Derived.ChangeOld
namespace Go.Proofs.Ytdicancdmogbiaa.octetBack
open Go.ChangeShapes Go.WideShapes Go.ChangeAt Go.RowKit
open Go.ChangeMaps (open_string shut_string)
set_option linter.unusedVariables false
set_option linter.unusedSimpArgs false

theorem numB_dig (n : Nat) (v : Int) (hv : 0 ≤ v) (hv2 : v < 256 ^ n) : numB (digB n v) = v := by
  have key : ∀ j, j ≤ n → numB ((digB n v).take j) = v / 256 ^ (n - j) := by
    intro j
    induction j with
    | zero => intro _; simp [numB]; exact (Int.ediv_eq_zero_of_lt hv hv2).symm
    | succ j ih =>
      intro hj
      rw [digB_take n v j (by omega), numB_snoc, ih (by omega)]
      have e1 : n - 1 - j = n - (j + 1) := by omega
      have e2 : (256 : Int) ^ (n - j) = 256 ^ (n - (j + 1)) * 256 := by
        rw [← Int.pow_succ]; congr 1; omega
      rw [e1, e2, ← Int.ediv_ediv_of_nonneg (Int.le_of_lt (pow_pos _))]
      omega
  have := key n (Nat.le_refl _)
  rw [List.take_of_length_le (by rw [digB_len]; exact Nat.le_refl _)] at this
  simpa using this

set_option maxHeartbeats 800000 in
theorem back_ok (p : Option Addr) (c : Nat) (l : List Int) (n : Nat) (v : Int) (w : World) (hB : BIn w p l) (hl : isB l) (hp : p = none → c = 0) (hlen : l.length ≤ 100) (h1 : 1 ≤ n) (h7 : n ≤ 7) (hv : 0 ≤ v) (hv2 : v < 256 ^ n) :
    Calls Try.prog 5 #[.slice p l.length c, .int .i64 n, .int .i64 v] w fun e w' => e = .returned (.bool true) ∧ Below w.heap.size w w' := by
  have P := power_any n w h7
  have hv3 : v ≤ 9223372036854775807 := by have := pow7 n h7; omega
  have NW := fun B b l wx hx hlen => numB_ok B b l n v wx hx h1 h7 hv hv2 hv3 hlen
  have HD := Hid.mk' (numB_dig n v hv hv2)
  have HDl := Hid.mk' (digB_len n v)
  have hdb := digB_isB n v
  have HL : Hid ((l ++ digB n v ++ [7]).length = l.length + n + 1) := by show _ = _; simp [digB_len]; omega
  have b7 : isB [7] := by intro x hx; simp at hx; omega
  have hLb : isB (l ++ digB n v ++ [7]) := (hl.append hdb).append b7
  generalize (256 : Int) ^ n = pw at P hv2
  go_enter Try.func5, Try.ntmps5
  go_wp2_with (go_at_call 18; refine P.mono ?_; rintro e w' ⟨rfl, rfl⟩)
  refine (writeB w).mono ?_
  rintro e w1 ⟨rfl, hW1, hB1⟩
  go_wp2_with fail
  refine (rawB w.heap.size w.heap.size [] l p c w1 hW1 (hB.below hB1) hl hp (by simp; omega)).mono ?_
  rintro e w2 ⟨rfl, hW2, hB12⟩
  rw [List.nil_append] at hW2
  have hB2 := hB1.trans hB12
  clear hW1 hB1 hB12
  go_wp2_with fail
  refine (NW w.heap.size w.heap.size l w2 hW2 (by omega)).mono ?_
  rintro e w3 ⟨rfl, hW3, hB23⟩
  have hB3 := hB2.trans hB23
  clear hW2 hB2 hB23
  go_wp2_with fail
  refine (rawOneB w.heap.size w.heap.size (l ++ digB n v) 7 w3 hW3 (by omega) (by rw [List.length_append, digB_len]; omega)).mono ?_
  rintro e w4 ⟨rfl, hW4, hB34⟩
  have hB4 := hB3.trans hB34
  clear hW3 hB3 hB34
  have Bs := bytesB w.heap.size w.heap.size (l ++ digB n v ++ [7]) w4 hW4 (by rw [HL.out]; omega)
  rw [HL.out] at Bs
  go_wp2_with fail
  refine Bs.mono ?_
  rintro e w5 ⟨rfl, hT5, hB45⟩
  have hB5 := hB4.trans (hB45.mono hB4.size)
  clear hW4 hB4 hB45 Bs NW P
  have Rs := read_any (some ⟨w4.heap.size, 0, none⟩) (l.length + n + 1) (l ++ digB n v ++ [7]) w5 hT5 hLb (by rw [HL.out]; omega)
  rw [HL.out] at Rs
  go_wp2_with fail
  refine Rs.mono ?_
  rintro e w6 ⟨b, rfl, hb, hR6, hB56⟩
  have hB6 := hB5.trans (hB56.mono hB5.size)
  have hb' : w.heap.size ≤ b := Nat.le_trans hB5.size hb
  have hlow := Hid.mk' (show ∀ x y : World, Fr (fun k => k = b) x y → w.heap.size ≤ x.heap.size → Below w.heap.size x y from fun x y f hx => f.below (fun i q => by omega) hx)
  clear hB5 hB56 hb Rs
  have T := take_ok b (l ++ digB n v ++ [7]) l.length w6 hR6 (by rw [HL.out]; omega) (by rw [HL.out]; omega)
  have e1 : (l ++ digB n v ++ [7]).take l.length = l := by simp
  have e2 : (l ++ digB n v ++ [7]).drop l.length = digB n v ++ [7] := by simp
  rw [e1, e2] at T
  clear e1 e2 hR6
  go_wp2_with fail
  refine T.mono ?_
  rintro e w7 ⟨rfl, hT7, hR7, hF7⟩
  have hB7 := hB6.trans (hlow.out _ _ hF7 hB6.size)
  clear hF7 hB6 T
  have Sm := same_any (some ⟨w6.heap.size, 0, none⟩) p l.length c l l w7 hT7 (hB.below hB7) hl hl
  rw [decide_eq_true rfl] at Sm
  have N1 := num_ok b (digB n v ++ [7]) n w7 hR7 (by rw [List.length_append, digB_len]; omega) h1 h7
  have e1 : (digB n v ++ [7]).take n = digB n v := by rw [List.take_append_of_le_length (by rw [digB_len]; exact Nat.le_refl _), List.take_of_length_le (by rw [digB_len]; exact Nat.le_refl _)]
  have e2 : (digB n v ++ [7]).drop n = [7] := by rw [List.drop_append_of_le_length (by rw [digB_len]; exact Nat.le_refl _), List.drop_eq_nil_of_le (by rw [digB_len]; exact Nat.le_refl _)]; rfl
  rw [e1, e2, HD.out] at N1
  clear e1 e2 hT7 hR7
  go_wp2_with (first | (go_at_call 9; refine Sm.mono ?_; rintro e w' ⟨rfl, rfl⟩))
  refine N1.mono ?_
  rintro e w8 ⟨rfl, hR8, hF8, _⟩
  have hB8 := hB7.trans (hlow.out _ _ hF8 hB7.size)
  have N2 := num_ok b [7] 1 w8 hR8 (by simp) (by omega) (by omega)
  clear hF8 hB7 N1 Sm
  go_wp2_with fail
  refine N2.mono ?_
  rintro e w9 ⟨rfl, hR9, hF9, _⟩
  have hB9 := hB8.trans (hlow.out _ _ hF9 hB8.size)
  have e1 : numB (List.take 1 [7]) = 7 := rfl
  rw [e1]
  have D := done_any b [] false w9 hR9
  clear e1 hF9 hB8 N2 hR8 hR9 hlow
  go_wp2_with (go_at_call 14; refine D.mono ?_; rintro e w' ⟨rfl, rfl⟩)
  go_ret
  exact ⟨rfl, hB9⟩

/-- One of the tests says that there is nothing to show. -/
theorem back_no (p : Option Addr) (c k : Nat) (n : Int) (v : Int) (w : World) (hk : k ≤ 9223372036854775807) (hv3 : v ≤ 9223372036854775807) (h : 100 < (k : Int) ∨ n < 1 ∨ 7 < n ∨ v < 0 ∨ (0 ≤ n ∧ 256 ^ n.toNat ≤ v)) :
    Calls Try.prog 5 #[.slice p k c, .int .i64 n, .int .i64 v] w fun e w' => e = .returned (.bool true) ∧ Below w.heap.size w w' := by
  have AW := awake_any w
  by_cases t1 : 100 < (k : Int)
  · clear h
    go_enter Try.func5, Try.ntmps5
    go_wp2_with (go_at_call 6; refine AW.mono ?_; rintro e w' ⟨rfl, hb⟩)
    go_ret
    exact ⟨rfl, hb⟩
  · by_cases t2 : n < 1
    · clear h
      go_enter Try.func5, Try.ntmps5
      go_wp2_with (go_at_call 6; refine AW.mono ?_; rintro e w' ⟨rfl, hb⟩)
      go_ret
      exact ⟨rfl, hb⟩
    · by_cases t3 : 7 < n
      · clear h
        go_enter Try.func5, Try.ntmps5
        go_wp2_with (go_at_call 6; refine AW.mono ?_; rintro e w' ⟨rfl, hb⟩)
        go_ret
        exact ⟨rfl, hb⟩
      · by_cases t4 : v < 0
        · clear h
          go_enter Try.func5, Try.ntmps5
          go_wp2_with (go_at_call 6; refine AW.mono ?_; rintro e w' ⟨rfl, hb⟩)
          go_ret
          exact ⟨rfl, hb⟩
        · obtain ⟨m, rfl⟩ := Int.eq_ofNat_of_zero_le (show 0 ≤ n by omega)
          have hv2 : 256 ^ m ≤ v := by simp at h; omega
          have P := power_any m w (by omega)
          clear h
          have hm1 : ¬ (m : Int) < 1 := t2
          generalize (256 : Int) ^ m = pw at P hv2
          go_enter Try.func5, Try.ntmps5
          go_wp2_with (first | (go_at_call 18; refine P.mono ?_; rintro e w' ⟨rfl, rfl⟩) | (go_at_call 6; refine AW.mono ?_; rintro e w' ⟨rfl, hb⟩))
          go_ret
          exact ⟨rfl, hb⟩

theorem walk (p0 : Option Addr) (c0 : Nat) (l0 : List Int) (a1 a2 : Int) (w : World) (hlc0 : l0.length ≤ c0) (hcm0 : c0 ≤ maxLen) (hp0 : p0 = none → c0 = 0) (hin0 : LIn w p0 1 (shInt .u8) l0) (w1 : (Lit.int .i64 a1).wf = true) (w2 : (Lit.int .i64 a2).wf = true) :
    Calls Try.prog 5 #[.slice p0 l0.length c0, .int .i64 a1, .int .i64 a2] w fun e w' => e = .returned (.bool true) ∧ Below w.heap.size w w' := by
  have h2 := bounds_i64 w2
  unfold maxLen at hcm0
  by_cases h : 100 < (l0.length : Int) ∨ a1 < 1 ∨ 7 < a1 ∨ a2 < 0 ∨ (0 ≤ a1 ∧ 256 ^ a1.toNat ≤ a2)
  · exact back_no p0 c0 l0.length a1 a2 w (by omega) (by omega) h
  · obtain ⟨n, rfl⟩ := Int.eq_ofNat_of_zero_le (show 0 ≤ a1 by omega)
    simp at h
    exact back_ok p0 c0 l0 n a2 w hin0.bytes hin0.isB hp0 (by omega) (by omega) (by omega) (by omega) (by omega)

theorem own : ownKnob Try.prog.godebug = none := by kernel_rfl
theorem laidOut : laidOutB Try.prog = true := by kernel_rfl

set_option maxRecDepth 100000 in
theorem lifted (os : Os) (started : os.Started) (H : Type) (enc : TypeId × Value → H) :
    ReturnsInHanded {} Try.checked os 5 .any (Rows.octetBackSpec.pre6 enc Try.prog Try.f5 Rows.octetBackRow.domain false) (Rows.octetBackSpec.post enc Try.prog Try.f5 false true false false) := by
  refine returnsInHanded_of_change (C := Try.checked) own started (by kernel_rfl) Try.func5
    (ChangeSpec.witness6 (enc := enc) (C := Try.checked) false ⟨#[], #[.slice none 0 0, .int .i64 0, .int .i64 0], []⟩ 8 (by kernel_rfl) (by kernel_rfl) (by kernel_rfl) (by kernel_rfl)) ?_
  intro W base args ds gs before hval0 hW hcnd _
  have hval : ∀ (j : Nat) t v, Try.f5.params[j]? = some t → args[j]? = some v → Value.okWide Try.prog W .any base t v := hval0
  have hW' := hW
  obtain ⟨p, q, hA0, hV, rfl, hfz, hnd⟩ := hW
  have hA : DataW.TrodAll enc Try.prog W 0 (fun _ => true) true Try.f5.params.toList args.toList ds p := hA0
  rw [Try.params5] at hA hval
  obtain ⟨v0, vs0, d0, ds0, p0x, q0, hargs, rfl, rfl, h0, r0⟩ := trodAll_cons hA
  obtain ⟨v1, vs1, d1, ds1, p1x, q1, rfl, rfl, rfl, h1, r1⟩ := trodAll_cons r0
  obtain ⟨v2, vs2, d2, ds2, p2x, q2, rfl, rfl, rfl, h2, r2⟩ := trodAll_cons r1
  obtain ⟨rfl, rfl, rfl⟩ := trodAll_nil r2
  obtain rfl : args = #[v0, v1, v2] := by cases args; simp_all
  obtain ⟨rfl, rfl⟩ := trodVars_none hV
  obtain ⟨p0, len0, c0, rfl⟩ := okWide_slice Try.underlying22 (hval 0 22 v0 rfl rfl)
  have k0 := h0
  have lt0 : ∀ x ∈ p0x, x.block < W.heap.size := by obtain ⟨m, hm⟩ := k0; exact DataW.trod_lt m _ _ _ hm
  obtain ⟨l0, rfl, hlc0, hcm0, hp0, hin0⟩ : ∃ l : List Int, l.length = len0 ∧ len0 ≤ c0 ∧ c0 ≤ maxLen ∧ (p0 = none → c0 = 0) ∧ LIn W p0 1 (shInt .u8) l := by
    obtain ⟨fuel, hf⟩ := h0
    obtain ⟨l, p, c, hcs, hl1, hl2, hl3, hl4⟩ := opens_slice (size := 1) Try.underlying22 (by kernel_rfl) (by decide) (opens_int Try.underlying5) _ _ _ hf
    simp [Value.cells] at hcs
    obtain ⟨rfl, rfl, rfl⟩ := hcs
    exact ⟨l, rfl, hl1, hl2, hl3, hl4⟩
  obtain ⟨a1, rfl, rfl, rfl, w1⟩ := open_int Try.underlying3 (hval 1 3 v1 rfl rfl) h1
  obtain ⟨a2, rfl, rfl, rfl, w2⟩ := open_int Try.underlying3 (hval 2 3 v2 rfl rfl) h2
  clear hA0 hval0
  refine (walk p0 c0 l0 a1 a2 W hlc0 hcm0 hp0 hin0 w1 w2).mono fun e W' ⟨he, bel⟩ => ?_
  subst he
  exact ⟨_, rfl, _, _, _, [], _, [], hW', trodAll_mk1 (shut_bool Try.underlying4 _), (trodAll_cons_mk (Below.trod laidOut (by kernel_rfl) (of_decide_eq_true (by kernel_rfl)) k0 bel lt0) (trodAll_cons_mk (shut_int Try.underlying3 w1) (trodAll_cons_mk (shut_int Try.underlying3 w2) trodAll_mk0))), rfl, bel.frame _, fun h => by cases h⟩

theorem over : Rows.octetBackRow.holds Try.pinned (OpenSpec.ofChange Rows.octetBackSpec) :=
  OpenClaim.holds_of_wide 5 Try.f5 rfl rfl rfl rfl rfl rfl rfl ⟨rfl, rfl, rfl, rfl, rfl⟩ rfl rfl rfl rfl rfl (by kernel_rfl) Try.func5 (by kernel_rfl)
    (of_decide_eq_true (by kernel_rfl)) (by unfold Func.isWrapper; first | (rw [if_pos (by decide +kernel)]; kernel_rfl) | (rw [if_neg (by decide +kernel)]; exact ⟨rfl, rfl⟩))
    (fun os started H enc _ => lifted os started H enc)

/-- The given statement. -/
theorem proved : Rows.OctetBackSaid := over
#print axioms proved
end Go.Proofs.Ytdicancdmogbiaa.octetBack
