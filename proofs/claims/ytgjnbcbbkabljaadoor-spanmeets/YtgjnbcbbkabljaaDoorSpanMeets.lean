/-
  Proved: the statement on what is in two spans, and what is the greatest generation in both (SpanMeets), returns true at every input, and leaves its arguments as they were; the variables that it lists read as the program's text lays them (the card ties them).
-/
import Derived.Test.YtgjnbcbbkabljaaDoorRows
import Derived.Test.YtgjnbcbbkabljaaDoorCards
import Derived.Test.YtgjnbcbbkabljaaDoorTie
import Derived.Test.YtgjnbcbbkabljaaDoorSpanT
import Derived.Test.YtgjnbcbbkabljaaDoorSpanM
import Derived.Test.YtgjnbcbbkabljaaDoorShapes
import Derived.ShutString
import Derived.ChangeOld
import Derived.Stop.Joined
import Derived.SevenTiedAt
import Derived.LaidMore
namespace Go.Proofs.YtgjnbcbbkabljaaDoor.spanMeets
open Go Go.ChangeShapes Go.WideShapes Go.ChangeAt Go.RowKit
open Go.ChangeMaps (open_string shut_string)
set_option linter.unusedVariables false
set_option linter.unusedSimpArgs false

set_option maxRecDepth 10000 in
set_option maxHeartbeats 4000000 in
theorem walk (a0 a1 : Int × Int) (w : World) (w0 : wfS a0) (w1' : wfS a1) :
    Calls Tryd.prog 4 #[.agg #[.int .i64 a0.1, .int .i64 a0.2], .agg #[.int .i64 a1.1, .int .i64 a1.2]] w fun e w' => e = .returned (.bool true) ∧ Below w.heap.size w w' := by
  have M := fun w => meet_any a0 a1 w w0 w1'
  have B := fun w => best_any a0 a1 w w0 w1'
  have AW := awake5_any
  have J := Hid.mk' (just_stp (just_com [a0, a1]))
  rw [com_best] at M
  generalize com [a0, a1] = z at M B J
  go_enter Tryd.func4, Tryd.ntmps4
  go_wp2_with fail
  refine (M _).mono ?_
  rintro e w1 ⟨rfl, hb1⟩
  have hA := ((Has.new w a0 _ rfl).alloc (.cells #[.int .i64 a1.1, .int .i64 a1.2] 23)).on hb1
  have hB := (Has.new (w.alloc (.cells #[.int .i64 a0.1, .int .i64 a0.2] 23)) a1 (w.heap.size + 1) (by simp)).on hb1
  have b1 : Below w.heap.size w w1 := (((Below.refl w.heap.size w).alloc (Nat.le_refl _) _).alloc (by simp) _).trans (hb1.mono (by simp; omega))
  obtain ⟨c0, c1, hz⟩ := hA.cells
  obtain ⟨d0, d1, hz'⟩ := hB.cells
  have hL := SIn.two (w1.alloc (.cells #[.int .i64 z.1, .int .i64 z.2] 23)) a0 a1 w0 w1' (w1.heap.size + 1) (by simp)
  have HL := Hid.mk' hL
  have hA' := (hA.alloc (.cells #[.int .i64 z.1, .int .i64 z.2] 23)).alloc (.cells #[.int .i64 a0.1, .int .i64 a0.2, .int .i64 a1.1, .int .i64 a1.2] 23)
  have hB' := (hB.alloc (.cells #[.int .i64 z.1, .int .i64 z.2] 23)).alloc (.cells #[.int .i64 a0.1, .int .i64 a0.2, .int .i64 a1.1, .int .i64 a1.2] 23)
  have hZ' := (Has.new w1 z _ rfl).alloc (.cells #[.int .i64 a0.1, .int .i64 a0.2, .int .i64 a1.1, .int .i64 a1.2] 23)
  have b2 := (b1.alloc b1.size (.cells #[.int .i64 z.1, .int .i64 z.2] 23)).alloc (by simp; omega) (.cells #[.int .i64 a0.1, .int .i64 a0.2, .int .i64 a1.1, .int .i64 a1.2] 23)
  have HS : Hid (Has _ w.heap.size a0 ∧ Has _ (w.heap.size + 1) a1 ∧ Has _ w1.heap.size z ∧ Below w.heap.size w _) := ⟨hA', hB', hZ', b2⟩
  clear hA hB hA' hB' hZ' hb1 b1 b2 hL
  go_wp2
  go_loopw [7, 8, 10] (fun x y i W => ∃ k : Nat, k ≤ 3 ∧ x = .int .i64 (stp (inS [a0, a1]) k).1 ∧ y = .int .i64 (stp (inS [a0, a1]) k).2 ∧ i = .int .i64 (3 - (k : Int)) ∧
    Hid (Has W w.heap.size a0 ∧ Has W (w.heap.size + 1) a1 ∧ Has W w1.heap.size z ∧ Below w.heap.size w W) ∧ Hid (SIn W (some ⟨w1.heap.size + 1, 0, none⟩) [a0, a1])) (fun _ _ i _ => (intOf i).toNat)
  case atStart => exact ⟨0, by omega, rfl, rfl, rfl, HS, HL⟩
  case round =>
    clear HS HL
    obtain ⟨k, hk, rfl, rfl, rfl, HS, HL⟩ := hrel
    by_cases q : k < 3
    · have I := in_any (some ⟨w1.heap.size + 1, 0, none⟩) 2 [a0, a1] (3 - (k : Int)) wr HL.out (by simp)
      have hn : stp (inS [a0, a1]) (k + 1) = if inS [a0, a1] (3 - (k : Int)) then (if (stp (inS [a0, a1]) k).1 = 0 then 3 - (k : Int) else (stp (inS [a0, a1]) k).1, 3 - (k : Int)) else stp (inS [a0, a1]) k := rfl
      obtain ⟨bx, hbx⟩ : ∃ bx, stp (inS [a0, a1]) k = bx := ⟨_, rfl⟩
      obtain ⟨t, ht⟩ : ∃ t, inS [a0, a1] (3 - (k : Int)) = t := ⟨_, rfl⟩
      rw [hbx]
      rw [hbx, ht] at hn
      rw [ht] at I
      have HN := Hid.mk' hn
      have hg1 : 1 ≤ 3 - (k : Int) := by omega
      clear hn hbx ht
      simp only [List.length_cons, List.length_nil] at I
      have keep : Hid (∀ w2, Below wr.heap.size wr w2 → Hid (Has w2 w.heap.size a0 ∧ Has w2 (w.heap.size + 1) a1 ∧ Has w2 w1.heap.size z ∧ Below w.heap.size w w2) ∧ Hid (SIn w2 (some ⟨w1.heap.size + 1, 0, none⟩) [a0, a1])) := fun w2 hb2 =>
        ⟨⟨HS.out.1.on hb2, HS.out.2.1.on hb2, HS.out.2.2.1.on hb2, HS.out.2.2.2.trans (hb2.mono HS.out.2.2.2.size)⟩, HL.out.below hb2⟩
      clear HS HL
      cases t
      · go_wp2_with fail
        refine I.mono ?_
        rintro e w2 ⟨rfl, hb2⟩
        obtain ⟨HS, HL⟩ := keep.out w2 hb2
        clear hb2 I
        go_wp2
        go_roundw
        case rel => exact ⟨k + 1, by omega, by rw [HN.out]; rfl, by rw [HN.out]; rfl, by go_num, HS, HL⟩
        case measure => simp [intOf]; omega
      · by_cases hx : bx.1 = 0
        · go_wp2_with fail
          refine I.mono ?_
          rintro e w2 ⟨rfl, hb2⟩
          obtain ⟨HS, HL⟩ := keep.out w2 hb2
          have HX := Hid.mk' hx
          clear hb2 I
          go_wp2
          go_roundw
          case rel => exact ⟨k + 1, by omega, by rw [HN.out]; simp [HX.out], by rw [HN.out]; simp, by go_num, HS, HL⟩
          case measure => simp [intOf]; omega
        · go_wp2_with fail
          refine I.mono ?_
          rintro e w2 ⟨rfl, hb2⟩
          obtain ⟨HS, HL⟩ := keep.out w2 hb2
          have HX := Hid.mk' hx
          clear hb2 I
          go_wp2
          go_roundw
          case rel => exact ⟨k + 1, by omega, by rw [HN.out]; simp [HX.out], by rw [HN.out]; simp, by go_num, HS, HL⟩
          case measure => simp [intOf]; omega
    · obtain rfl : k = 3 := by omega
      rw [J.out]
      obtain ⟨hA, hB, hZ, hb⟩ := HS.out
      obtain ⟨c0, c1, hz⟩ := hA.cells
      obtain ⟨d0, d1, hz'⟩ := hB.cells
      obtain ⟨e0, e1, hz2⟩ := hZ.cells
      have HB := Hid.mk' hb
      clear hA hB hZ hb HS HL J
      by_cases hp : 0 < z.2
      all_goals
        go_wp2_with fail
        refine (B _).mono ?_
        rintro e w2 ⟨rfl, hb2⟩
        have HB2 := Hid.mk' (HB.out.trans (hb2.mono HB.out.size))
        clear hb2
        go_wp2_with fail
        refine (AW _).mono ?_
        rintro e w3 ⟨rfl, hb3⟩
        have HB3 := Hid.mk' (HB2.out.trans (hb3.mono HB2.out.size))
        clear hb3
        go_wp2
        go_ret
        exact ⟨rfl, HB3.out⟩

theorem own : ownKnob Tryd.prog.godebug = none := by kernel_rfl
theorem laidOut : laidOutB Tryd.prog = true := by kernel_rfl

theorem door_met (os : Os) (args : Array Value) : laidMetH Tryd.prog Rows.spanMeetsRow.laid ((World.doorLaid Tryd.prog 400 os).forCall (fun _ _ => 0) ⟨#[], args, []⟩).memory :=
  laidMetH_of_parts3 (fuel := 8) (laidMet_of_run' 8 (by kernel_rfl) (by kernel_rfl)) (by kernel_rfl) (by kernel_rfl)

set_option maxRecDepth 100000 in
theorem lifted (os : Os) (started : os.Started) (H : Type) (enc : TypeId × Value → H) :
    ReturnsInHanded {} Tryd.checked os 4 .any (fun w args => (Rows.spanMeetsSpec.pre enc Tryd.prog Tryd.f4 [] false w args ∧ laidMetH Tryd.prog Rows.spanMeetsRow.laid w) ∧ sizedMet enc Tryd.prog Tryd.f4 (OpenSpec.ofChange Rows.spanMeetsSpec) false w args)
      (Rows.spanMeetsSpec.post enc Tryd.prog Tryd.f4 false true false false) := by
  refine returnsInHanded_of_change_and (C := Tryd.checked) (X := (fun w _ => laidMetH Tryd.prog Rows.spanMeetsRow.laid w)) (fun _ _ _ hh h => h.of_heap hh) own started (by kernel_rfl) Tryd.func4
    (ChangeSpec.witness_shaped (enc := enc) (C := Tryd.checked) (os := os) (X := (fun w _ => laidMetH Tryd.prog Rows.spanMeetsRow.laid w)) false (World.doorLaid Tryd.prog 400 os) #[.agg #[.int .i64 0, .int .i64 0], .agg #[.int .i64 0, .int .i64 0]] 8 rfl (World.shaped_of_RefB (by kernel_rfl) (by kernel_rfl)) (by kernel_rfl) (by kernel_rfl) (by kernel_rfl) (door_met os _)) ?_
  intro W base args ds gs before hval0 hW _ _ hL _
  have hval : ∀ (j : Nat) t v, Tryd.f4.params[j]? = some t → args[j]? = some v → Value.okWide Tryd.prog W .any base t v := hval0
  have hW' := hW
  obtain ⟨p, q, hA0, hV, rfl, hfz, hnd⟩ := hW
  have hA : DataW.TrodAll enc Tryd.prog W 0 (fun _ => true) true Tryd.f4.params.toList args.toList ds p := hA0
  rw [Tryd.params4] at hA hval
  obtain ⟨v0, vs0, d0, ds0, p0x, q0, hargs, rfl, rfl, h0, r0⟩ := trodAll_cons hA
  obtain ⟨v1, vs1, d1, ds1, p1x, q1, rfl, rfl, rfl, h1, r1⟩ := trodAll_cons r0
  obtain ⟨rfl, rfl, rfl⟩ := trodAll_nil r1
  obtain rfl : args = #[v0, v1] := by cases args; simp_all
  obtain ⟨rfl, rfl⟩ := trodVars_none hV
  obtain ⟨cs0, rfl, _⟩ := okWide_struct Tryd.underlying23 (hval 0 23 v0 rfl rfl)
  have k0 := h0
  have lt0 : ∀ x ∈ p0x, x.block < W.heap.size := by obtain ⟨m, hm⟩ := k0; exact DataW.trod_lt m _ _ _ hm
  obtain ⟨a0, rfl, w0⟩ : ∃ a : Int × Int, cs0 = #[.int .i64 a.1, .int .i64 a.2] ∧ wfS a := by
    obtain ⟨fuel, hf⟩ := h0
    obtain ⟨a, x, y, hcs, ⟨rfl, h1⟩, ⟨rfl, h2⟩⟩ := opens_struct2 Tryd.underlying23 rfl (by kernel_rfl) (by kernel_rfl) (opens_int Tryd.underlying3) (opens_int Tryd.underlying3) _ _ _ hf
    exact ⟨a, by cases cs0; simpa [Value.cells] using hcs, h1, h2⟩
  obtain ⟨cs1, rfl, _⟩ := okWide_struct Tryd.underlying23 (hval 1 23 v1 rfl rfl)
  have k1 := h1
  have lt1 : ∀ x ∈ p1x, x.block < W.heap.size := by obtain ⟨m, hm⟩ := k1; exact DataW.trod_lt m _ _ _ hm
  obtain ⟨a1, rfl, w1⟩ : ∃ a : Int × Int, cs1 = #[.int .i64 a.1, .int .i64 a.2] ∧ wfS a := by
    obtain ⟨fuel, hf⟩ := h1
    obtain ⟨a, x, y, hcs, ⟨rfl, h1⟩, ⟨rfl, h2⟩⟩ := opens_struct2 Tryd.underlying23 rfl (by kernel_rfl) (by kernel_rfl) (opens_int Tryd.underlying3) (opens_int Tryd.underlying3) _ _ _ hf
    exact ⟨a, by cases cs1; simpa [Value.cells] using hcs, h1, h2⟩
  clear hA0 hval0
  refine (walk a0 a1 W w0 w1).mono fun e W' ⟨he, bel⟩ => ?_
  subst he
  exact ⟨_, rfl, _, _, _, [], _, [], hW', trodAll_mk1 (shut_bool Tryd.underlying4 _), (trodAll_cons_mk (Below.trod laidOut (by kernel_rfl) (of_decide_eq_true (by kernel_rfl)) k0 bel lt0) (trodAll_cons_mk (Below.trod laidOut (by kernel_rfl) (of_decide_eq_true (by kernel_rfl)) k1 bel lt1) trodAll_mk0)), rfl, bel.frame _, fun h => by cases h⟩

theorem over : Rows.SpanMeetsSaid :=
  OpenClaim.holds_of_wide 4 Tryd.f4 rfl rfl rfl rfl rfl rfl rfl ⟨rfl, rfl, rfl, rfl, rfl⟩ rfl rfl rfl rfl rfl (by kernel_rfl) Tryd.func4 (by kernel_rfl)
    (of_decide_eq_true (by kernel_rfl)) (by unfold Func.isWrapper; first | (rw [if_pos (by decide +kernel)]; kernel_rfl) | (rw [if_neg (by decide +kernel)]; exact ⟨rfl, rfl⟩))
    (fun os started H enc _ => lifted os started H enc)

/-- The given statement: the card, its variables tied to the program's text. -/
theorem proved : Rows.SpanMeetsCardSaid :=
  Claim7.holds_tied_plain_at .later [] [.data, .data, .data] true (true, "fbb78f8bb8d7d92a3312a1a90c5935cc73ec5038548ae4b8e08bd3e99f75b5f3") false over (fun _ h => by cases h) (by kernel_rfl) (fun _ h => by cases h) spanMeets_row_tie rfl ⟨rfl, rfl⟩ (by kernel_rfl) rfl
    (fun f fn hf hfn => by
      obtain rfl : f = 4 := Option.some.inj ((show Tryd.prog.funcNamed "polyglot/polyglotlaw05.SpanMeets" = some 4 by kernel_rfl).symm.trans hf) |>.symm
      obtain rfl : fn = Tryd.f4 := (Option.some.inj (Tryd.func4.symm.trans hfn)).symm
      exact ⟨by kernel_rfl, fun j t ht => by
        rw [Tryd.params4] at ht
        have hm : t ∈ [23, 23] := by simpa using Array.mem_of_getElem? ht
        have hall : ([23, 23].all fun u => !Tryd.prog.wantsStandIn u) = true := by kernel_rfl
        exact (show Tryd.prog.wantsStandIn t = false by simpa using List.all_eq_true.1 hall t hm)⟩)
    (by kernel_rfl)
#print axioms proved
end Go.Proofs.YtgjnbcbbkabljaaDoor.spanMeets
