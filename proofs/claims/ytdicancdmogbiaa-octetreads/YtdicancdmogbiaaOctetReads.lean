/-
  Proved: the statement on layer 1's reader (OctetReads) returns true at every input, and leaves its arguments as they were. No condition.
-/
import Derived.Test.YtdicancdmogbiaaRows
import Derived.Test.YtdicancdmogbiaaLaw01
import Derived.Test.YtdicancdmogbiaaShapes
import Derived.ShutString
import Derived.ChangeOld
namespace Go.Proofs.Ytdicancdmogbiaa.octetReads
open Go.ChangeShapes Go.WideShapes Go.ChangeAt Go.RowKit
open Go.ChangeMaps (open_string shut_string)
set_option linter.unusedVariables false
set_option linter.unusedSimpArgs false

abbrev StepT := Bool × Int
def shStep : Sh StepT := shTwo shBool (shInt .i64)

section
variable {H : Type} {enc : TypeId × Value → H} {w : World} {base : Nat} {spare : Nat → Bool} {held : Bool}
theorem opens_step : Opens enc Try.prog w base spare held 28 shStep :=
  opens_struct2 Try.underlying28 rfl (by kernel_rfl) (by kernel_rfl) (opens_bool Try.underlying4) (opens_int Try.underlying3)
end

/-- A step's two cells. -/
theorem step_cells {w : World} {b o : Nat} {L : List StepT} (h : ∀ i (h : i < L.length), ∃ cs, cs.length = 2 ∧ (∀ j, j < 2 → w.cell? ⟨b, o + i * 2 + j, none⟩ = cs[j]?) ∧ shStep w cs L[i]) (i : Nat) (hi : i < L.length) :
    w.cell? ⟨b, o + i * 2, none⟩ = some (.bool L[i].1) ∧ w.cell? ⟨b, o + i * 2 + 1, none⟩ = some (.int .i64 L[i].2) ∧ -9223372036854775808 ≤ L[i].2 ∧ L[i].2 ≤ 9223372036854775807 := by
  obtain ⟨cs, _, h1, x, y, rfl, rfl, rfl, hw⟩ := h i hi
  have := bounds_i64 hw
  have g0 := h1 0 (by omega)
  have g1 := h1 1 (by omega)
  simp at g0 g1
  exact ⟨g0, g1, by omega, by omega⟩

/-- What is left of the bytes behind 'at', or nothing. -/
def rem (l : List Int) (a : Nat) (bad : Bool) : List Int := if bad then [] else l.drop a

set_option maxRecDepth 10000 in
set_option maxHeartbeats 4000000 in
theorem walk (p0 : Option Addr) (c0 : Nat) (l0 : List Int) (p1 : Option Addr) (c1 : Nat) (l1 : List StepT) (w : World) (hlc0 : l0.length ≤ c0) (hcm0 : c0 ≤ maxLen) (hp0 : p0 = none → c0 = 0) (hin0 : LIn w p0 1 (shInt .u8) l0)
    (hlc1 : l1.length ≤ c1) (hcm1 : c1 ≤ maxLen) (hp1 : p1 = none → c1 = 0) (hin1 : LIn w p1 2 shStep l1) :
    Calls Try.prog 3 #[.slice p0 l0.length c0, .slice p1 l1.length c1] w fun e w' => e = .returned (.bool true) ∧ Below w.heap.size w w' := by
  unfold maxLen at hcm0 hcm1
  have hB0 := hin0.bytes
  have hb0 := hin0.isB
  clear hin0
  by_cases t1 : 300 < (l0.length : Int)
  · have AW := awake_any w
    go_enter Try.func3, Try.ntmps3
    go_wp2_with (go_at_call 6; refine AW.mono ?_; rintro e w' ⟨rfl, hb⟩)
    go_ret
    exact ⟨rfl, hb⟩
  by_cases t2 : 40 < (l1.length : Int)
  · have AW := awake_any w
    go_enter Try.func3, Try.ntmps3
    go_wp2_with (go_at_call 6; refine AW.mono ?_; rintro e w' ⟨rfl, hb⟩)
    go_ret
    exact ⟨rfl, hb⟩
  have R := read_any p0 c0 l0 w hB0 hb0 (by omega)
  have HI := Hid.mk' hin1
  have HB0 := Hid.mk' hB0
  clear hin1 hB0
  go_enter Try.func3, Try.ntmps3
  go_wp2_with (go_at_call 7; refine R.mono ?_; rintro e w1 ⟨b, rfl, hb, hR1, hB1⟩)
  have HR1 := Hid.mk' hR1
  clear hR1 R
  go_loopw [6, 7, 8] (fun at_ bad i wr => ∃ (k a : Nat) (bd : Bool), k ≤ l1.length ∧ i = .int .i64 k ∧ at_ = .int .i64 a ∧ bad = .bool bd ∧ a ≤ l0.length ∧ Rd wr b (rem l0 a bd) bd ∧ Below w.heap.size w wr) (fun _ _ i _ => l1.length - (intOf i).toNat)
  case atStart => exact ⟨0, 0, false, Nat.zero_le _, rfl, rfl, rfl, Nat.zero_le _, by simpa [rem] using HR1.out, hB1⟩
  case round =>
    obtain ⟨k, a, bd, hk, rfl, rfl, rfl, ha, hR, hB⟩ := hrel
    clear HR1
    by_cases hlt : k < l1.length
    · obtain ⟨g, o, rfl, hc⟩ := HI.out (by omega)
      obtain ⟨s0, s1, n1, n2⟩ := step_cells hc k hlt
      have hgl : g < w.heap.size := lt_of_cell s0
      have s0' : wr.cell? ⟨g, o + k * 2, none⟩ = some (.bool l1[k].1) := (hB.cell (p := ⟨g, o + k * 2, none⟩) hgl).trans s0
      have s1' : wr.cell? ⟨g, o + k * 2 + 1, none⟩ = some (.int .i64 l1[k].2) := (hB.cell (p := ⟨g, o + k * 2 + 1, none⟩) hgl).trans s1
      clear s0 s1 hc HI
      have hBk : BIn wr p0 l0 := HB0.out.below hB
      have HBk := Hid.mk' hBk
      have hlow := Hid.mk' (show ∀ x y : World, Fr (fun k => k = b) x y → w.heap.size ≤ x.heap.size → Below w.heap.size x y from fun x y f hx => f.below (fun i q => by omega) hx)
      clear hBk
      generalize l1[k].1 = tk at s0'
      generalize l1[k].2 = n at s1' n1 n2
      have HR := Hid.mk' hR
      have HB := Hid.mk' hB
      clear hR hB hB1
      cases tk
      · by_cases hf : n < 0 ∨ (l0.length : Int) - a < n ∨ n < 1 ∨ 7 < n ∨ bd = true
        · have T := num_no b (rem l0 a bd) bd n wr HR.out (by rcases hf with h | h | h | h | h; exact .inr (.inl (by omega)); (cases bd; exact .inr (.inr (.inr (by simp [rem]; omega))); exact .inl rfl); exact .inr (.inl h); exact .inr (.inr (.inl h)); exact .inl h)
          have hf' : n < 0 ∨ (¬ n < 0 ∧ (l0.length : Int) - a < n) ∨ (¬ n < 0 ∧ ¬ (l0.length : Int) - a < n ∧ n < 1) ∨ (¬ n < 0 ∧ ¬ (l0.length : Int) - a < n ∧ ¬ n < 1 ∧ 7 < n) ∨ (¬ n < 0 ∧ ¬ (l0.length : Int) - a < n ∧ ¬ n < 1 ∧ ¬ 7 < n ∧ bd = true) := by
            by_cases q1 : n < 0
            · exact .inl q1
            · by_cases q2 : (l0.length : Int) - a < n
              · exact .inr (.inl ⟨q1, q2⟩)
              · by_cases q3 : n < 1
                · exact .inr (.inr (.inl ⟨q1, q2, q3⟩))
                · by_cases q4 : 7 < n
                  · exact .inr (.inr (.inr (.inl ⟨q1, q2, q3, q4⟩)))
                  · exact .inr (.inr (.inr (.inr ⟨q1, q2, q3, q4, by rcases hf with h | h | h | h | h; exact absurd h q1; exact absurd h q2; exact absurd h q3; exact absurd h q4; exact h⟩)))
          clear hf HB0
          rcases hf' with q1 | ⟨q1, q2⟩ | ⟨q1, q2, q3⟩ | ⟨q1, q2, q3, q4⟩ | ⟨q1, q2, q3, q4, rfl⟩
          all_goals
            go_wp2_with (first | (go_at_call 10; refine T.mono ?_; rintro e w2 ⟨rfl, hR2, hF2⟩; have L := left_any b [] true w2 hR2; have Bd := badR_any b [] true w2 hR2; have D := done_any b [] true w2 hR2) | (go_at_call 12; refine L.mono ?_; rintro e w' ⟨rfl, rfl⟩) | (go_at_call 13; refine Bd.mono ?_; rintro e w' ⟨rfl, rfl⟩) | (go_at_call 14; refine D.mono ?_; rintro e w' ⟨rfl, rfl⟩))
            go_roundw
            case rel => exact ⟨k + 1, a, true, by omega, by go_num, rfl, rfl, ha, by simpa [rem] using hR2, HB.out.trans (hlow.out _ _ hF2 HB.out.size)⟩
            case measure => simp [intOf]; omega
        · obtain ⟨m, rfl⟩ := Int.eq_ofNat_of_zero_le (show 0 ≤ n by omega)
          have q1 : (m : Int) ≤ (l0.length : Int) - a := by omega
          have q3 : 1 ≤ m := by omega
          have q4 : m ≤ 7 := by omega
          obtain rfl : bd = false := by cases bd; rfl; exact absurd (.inr (.inr (.inr (.inr rfl)))) hf
          have T := num_ok b (l0.drop a) m wr (by simpa [rem] using HR.out) (by simp; omega) q3 q4
          have hca : ¬ c0 = a := by omega
          clear hf
          have hlen : ((l0.drop a).take m).length = m := by simp; omega
          have Hlen := Hid.mk' hlen
          clear hlen
          go_wp2_with (go_at_call 10; refine T.mono ?_; rintro e w2 ⟨rfl, hR2, hF2, hz2⟩)
          clear hz2
          have hB2 := HB.out.trans (hlow.out _ _ hF2 HB.out.size)
          have Sm := number_any _ (c0 - a) ((l0.drop a).take m) w2 (((HB0.out.below hB2).cut a).take m) ((hb0.drop a).take m) (by rw [Hlen.out]; exact q4)
          rw [Hlen.out] at Sm
          rw [List.drop_drop] at hR2
          have L := left_any b (l0.drop (a + m)) false w2 hR2
          have Bd := badR_any b (l0.drop (a + m)) false w2 hR2
          have D := done_any b (l0.drop (a + m)) false w2 hR2
          rw [List.length_drop] at L D
          have HB2 := Hid.mk' hB2
          clear hB2 HB0
          go_wp2_with (first | (go_at_call 11; refine Sm.mono ?_; rintro e w' ⟨rfl, rfl⟩) | (go_at_call 12; refine L.mono ?_; rintro e w' ⟨rfl, rfl⟩) | (go_at_call 13; refine Bd.mono ?_; rintro e w' ⟨rfl, rfl⟩) | (go_at_call 14; refine D.mono ?_; rintro e w' ⟨rfl, rfl⟩))
          go_roundw
          case rel => exact ⟨k + 1, a + m, false, by omega, by go_num, by go_num, rfl, by omega, by simpa [rem] using hR2, HB2.out⟩
          case measure => simp [intOf]; omega
      · by_cases hf : n < 0 ∨ (l0.length : Int) - a < n ∨ bd = true
        · have T := take_no b (rem l0 a bd) bd n wr HR.out (by rcases hf with h | h | h; exact .inr (.inl h); (cases bd; exact .inr (.inr (by simp [rem]; omega)); exact .inl rfl); exact .inl h)
          have hf' : n < 0 ∨ (¬ n < 0 ∧ (l0.length : Int) - a < n) ∨ (¬ n < 0 ∧ ¬ (l0.length : Int) - a < n ∧ bd = true) := by
            by_cases q1 : n < 0
            · exact .inl q1
            · by_cases q2 : (l0.length : Int) - a < n
              · exact .inr (.inl ⟨q1, q2⟩)
              · exact .inr (.inr ⟨q1, q2, by rcases hf with h | h | h; exact absurd h q1; exact absurd h q2; exact h⟩)
          clear hf HB0
          rcases hf' with q1 | ⟨q1, q2⟩ | ⟨q1, q2, rfl⟩
          all_goals
            go_wp2_with (first | (go_at_call 8; refine T.mono ?_; rintro e w2 ⟨⟨g2, rfl⟩, hR2, hF2⟩; have L := left_any b [] true w2 hR2; have Bd := badR_any b [] true w2 hR2; have D := done_any b [] true w2 hR2) | (go_at_call 12; refine L.mono ?_; rintro e w' ⟨rfl, rfl⟩) | (go_at_call 13; refine Bd.mono ?_; rintro e w' ⟨rfl, rfl⟩) | (go_at_call 14; refine D.mono ?_; rintro e w' ⟨rfl, rfl⟩))
            go_roundw
            case rel => exact ⟨k + 1, a, true, by omega, by go_num, rfl, rfl, ha, by simpa [rem] using hR2, HB.out.trans (hlow.out _ _ hF2 HB.out.size)⟩
            case measure => simp [intOf]; omega
        · obtain ⟨m, rfl⟩ := Int.eq_ofNat_of_zero_le (show 0 ≤ n by omega)
          have q1 : (m : Int) ≤ (l0.length : Int) - a := by omega
          obtain rfl : bd = false := by cases bd; rfl; exact absurd (.inr (.inr rfl)) hf
          have T := take_ok b (l0.drop a) m wr (by simpa [rem] using HR.out) (by simp; omega) (by simp; omega)
          clear hf
          have hlen : ((l0.drop a).take m).length = m := by simp; omega
          have Hlen := Hid.mk' hlen
          clear hlen
          by_cases hca : c0 = a
          · subst hca
            go_wp2_with (go_at_call 8; refine T.mono ?_; rintro e w2 ⟨rfl, hT2, hR2, hF2⟩)
            have hB2 := HB.out.trans (hlow.out _ _ hF2 HB.out.size)
            have hnil : (l0.drop c0).take m = [] := by rw [List.drop_eq_nil_of_le (by omega)]; simp
            have Sm := same_any (some ⟨wr.heap.size, 0, none⟩) p0 m 0 ((l0.drop c0).take m) ((l0.drop c0).take m) w2 hT2 (by rw [hnil]; exact BIn.empty _ _) ((hb0.drop c0).take m) ((hb0.drop c0).take m)
            clear hnil
            rw [Hlen.out, decide_eq_true rfl] at Sm
            rw [List.drop_drop] at hR2
            have L := left_any b (l0.drop (c0 + m)) false w2 hR2
            have Bd := badR_any b (l0.drop (c0 + m)) false w2 hR2
            have D := done_any b (l0.drop (c0 + m)) false w2 hR2
            rw [List.length_drop] at L D
            have HB2 := Hid.mk' hB2
            clear hB2 HB0
            go_wp2_with (first | (go_at_call 9; refine Sm.mono ?_; rintro e w' ⟨rfl, rfl⟩) | (go_at_call 12; refine L.mono ?_; rintro e w' ⟨rfl, rfl⟩) | (go_at_call 13; refine Bd.mono ?_; rintro e w' ⟨rfl, rfl⟩) | (go_at_call 14; refine D.mono ?_; rintro e w' ⟨rfl, rfl⟩))
            go_roundw
            case rel => exact ⟨k + 1, c0 + m, false, by omega, by go_num, by go_num, rfl, by omega, by simpa [rem] using hR2, HB2.out⟩
            case measure => simp [intOf]; omega
          · have hz : True := trivial
            go_wp2_with (go_at_call 8; refine T.mono ?_; rintro e w2 ⟨rfl, hT2, hR2, hF2⟩)
            have hB2 := HB.out.trans (hlow.out _ _ hF2 HB.out.size)
            have Sm := same_any (some ⟨wr.heap.size, 0, none⟩) _ m (c0 - a) ((l0.drop a).take m) ((l0.drop a).take m) w2 hT2 (((HB0.out.below hB2).cut a).take m) ((hb0.drop a).take m) ((hb0.drop a).take m)
            rw [Hlen.out, decide_eq_true rfl] at Sm
            rw [List.drop_drop] at hR2
            have L := left_any b (l0.drop (a + m)) false w2 hR2
            have Bd := badR_any b (l0.drop (a + m)) false w2 hR2
            have D := done_any b (l0.drop (a + m)) false w2 hR2
            rw [List.length_drop] at L D
            have HB2 := Hid.mk' hB2
            clear hB2 HB0
            go_wp2_with (first | (go_at_call 9; refine Sm.mono ?_; rintro e w' ⟨rfl, rfl⟩) | (go_at_call 12; refine L.mono ?_; rintro e w' ⟨rfl, rfl⟩) | (go_at_call 13; refine Bd.mono ?_; rintro e w' ⟨rfl, rfl⟩) | (go_at_call 14; refine D.mono ?_; rintro e w' ⟨rfl, rfl⟩))
            go_roundw
            case rel => exact ⟨k + 1, a + m, false, by omega, by go_num, by go_num, rfl, by omega, by simpa [rem] using hR2, HB2.out⟩
            case measure => simp [intOf]; omega
    · have AW := awake_any wr
      go_wp2_with (go_at_call 6; refine AW.mono ?_; rintro e w' ⟨rfl, hb⟩)
      go_ret
      exact ⟨rfl, hB.trans (hb.mono hB.size)⟩

theorem own : ownKnob Try.prog.godebug = none := by kernel_rfl
theorem laidOut : laidOutB Try.prog = true := by kernel_rfl

set_option maxRecDepth 100000 in
theorem lifted (os : Os) (started : os.Started) (H : Type) (enc : TypeId × Value → H) :
    ReturnsInHanded {} Try.checked os 3 .any (Rows.octetReadsSpec.pre6 enc Try.prog Try.f3 Rows.octetReadsRow.domain false) (Rows.octetReadsSpec.post enc Try.prog Try.f3 false true false false) := by
  refine returnsInHanded_of_change (C := Try.checked) own started (by kernel_rfl) Try.func3
    (ChangeSpec.witness6 (enc := enc) (C := Try.checked) false ⟨#[], #[.slice none 0 0, .slice none 0 0], []⟩ 8 (by kernel_rfl) (by kernel_rfl) (by kernel_rfl) (by kernel_rfl)) ?_
  intro W base args ds gs before hval0 hW hcnd _
  have hval : ∀ (j : Nat) t v, Try.f3.params[j]? = some t → args[j]? = some v → Value.okWide Try.prog W .any base t v := hval0
  have hW' := hW
  obtain ⟨p, q, hA0, hV, rfl, hfz, hnd⟩ := hW
  have hA : DataW.TrodAll enc Try.prog W 0 (fun _ => true) true Try.f3.params.toList args.toList ds p := hA0
  rw [Try.params3] at hA hval
  obtain ⟨v0, vs0, d0, ds0, p0x, q0, hargs, rfl, rfl, h0, r0⟩ := trodAll_cons hA
  obtain ⟨v1, vs1, d1, ds1, p1x, q1, rfl, rfl, rfl, h1, r1⟩ := trodAll_cons r0
  obtain ⟨rfl, rfl, rfl⟩ := trodAll_nil r1
  obtain rfl : args = #[v0, v1] := by cases args; simp_all
  obtain ⟨rfl, rfl⟩ := trodVars_none hV
  obtain ⟨p0, len0, c0, rfl⟩ := okWide_slice Try.underlying22 (hval 0 22 v0 rfl rfl)
  have k0 := h0
  have lt0 : ∀ x ∈ p0x, x.block < W.heap.size := by obtain ⟨m, hm⟩ := k0; exact DataW.trod_lt m _ _ _ hm
  obtain ⟨l0, rfl, hlc0, hcm0, hp0, hin0⟩ : ∃ l : List Int, l.length = len0 ∧ len0 ≤ c0 ∧ c0 ≤ maxLen ∧ (p0 = none → c0 = 0) ∧ LIn W p0 1 (shInt .u8) l := by
    obtain ⟨fuel, hf⟩ := h0
    obtain ⟨l, p, c, hcs, hl1, hl2, hl3, hl4⟩ := opens_slice (size := 1) Try.underlying22 (by kernel_rfl) (by decide) (opens_int Try.underlying5) _ _ _ hf
    simp [Value.cells] at hcs
    obtain ⟨rfl, rfl, rfl⟩ := hcs
    exact ⟨l, rfl, hl1, hl2, hl3, hl4⟩
  obtain ⟨p1, len1, c1, rfl⟩ := okWide_slice Try.underlying23 (hval 1 23 v1 rfl rfl)
  have k1 := h1
  have lt1 : ∀ x ∈ p1x, x.block < W.heap.size := by obtain ⟨m, hm⟩ := k1; exact DataW.trod_lt m _ _ _ hm
  obtain ⟨l1, rfl, hlc1, hcm1, hp1, hin1⟩ : ∃ l : List StepT, l.length = len1 ∧ len1 ≤ c1 ∧ c1 ≤ maxLen ∧ (p1 = none → c1 = 0) ∧ LIn W p1 2 shStep l := by
    obtain ⟨fuel, hf⟩ := h1
    obtain ⟨l, p, c, hcs, hl1, hl2, hl3, hl4⟩ := opens_slice (size := 2) Try.underlying23 (by kernel_rfl) (by decide) opens_step _ _ _ hf
    simp [Value.cells] at hcs
    obtain ⟨rfl, rfl, rfl⟩ := hcs
    exact ⟨l, rfl, hl1, hl2, hl3, hl4⟩
  clear hA0 hval0
  refine (walk p0 c0 l0 p1 c1 l1 W hlc0 hcm0 hp0 hin0 hlc1 hcm1 hp1 hin1).mono fun e W' ⟨he, bel⟩ => ?_
  subst he
  exact ⟨_, rfl, _, _, _, [], _, [], hW', trodAll_mk1 (shut_bool Try.underlying4 _), (trodAll_cons_mk (Below.trod laidOut (by kernel_rfl) (of_decide_eq_true (by kernel_rfl)) k0 bel lt0) (trodAll_cons_mk (Below.trod laidOut (by kernel_rfl) (of_decide_eq_true (by kernel_rfl)) k1 bel lt1) trodAll_mk0)), rfl, bel.frame _, fun h => by cases h⟩

theorem over : Rows.octetReadsRow.holds Try.pinned (OpenSpec.ofChange Rows.octetReadsSpec) :=
  OpenClaim.holds_of_wide 3 Try.f3 rfl rfl rfl rfl rfl rfl rfl ⟨rfl, rfl, rfl, rfl, rfl⟩ rfl rfl rfl rfl rfl (by kernel_rfl) Try.func3 (by kernel_rfl)
    (of_decide_eq_true (by kernel_rfl)) (by unfold Func.isWrapper; first | (rw [if_pos (by decide +kernel)]; kernel_rfl) | (rw [if_neg (by decide +kernel)]; exact ⟨rfl, rfl⟩))
    (fun os started H enc _ => lifted os started H enc)

/-- The given statement. -/
theorem proved : Rows.OctetReadsSaid := over
#print axioms proved
end Go.Proofs.Ytdicancdmogbiaa.octetReads
