/-
  Proved: the statement on the texts of spans, and that no other text is read (SpanTexts), returns true at every input, and leaves its arguments as they were; the variables that it lists read as the program's text lays them (the card ties them).
-/
import Derived.Test.YtgjnbcbbkabljaaDoorRows
import Derived.Test.YtgjnbcbbkabljaaDoorCards
import Derived.Test.YtgjnbcbbkabljaaDoorTie
import Derived.Test.YtgjnbcbbkabljaaDoorSpanT
import Derived.Test.YtgjnbcbbkabljaaDoorSpanM
import Derived.Test.YtgjnbcbbkabljaaDoorShapes
import Derived.Deep.RegionHeld3
import Derived.Deep.DeepCutAuto
import Derived.RegionCalls
import Derived.ShutString
import Derived.ChangeOld
import Derived.Stop.Joined
import Derived.SevenTiedAt
import Derived.LaidMore
namespace Go.Proofs.YtgjnbcbbkabljaaDoor.spanTexts
open Go Go.ChangeShapes Go.WideShapes Go.ChangeAt Go.RowKit
open Go.ChangeMaps (open_string shut_string)
set_option linter.unusedVariables false
set_option linter.unusedSimpArgs false

theorem wrap_i64 {x : Int} (h1 : -9223372036854775808 ≤ x) (h2 : x ≤ 9223372036854775807) : IntKind.i64.wrap x = x := by
  simp [IntKind.wrap, IntKind.signed, IntKind.bits]
  omega

theorem txt_bytes {lo hi : Int} (h : okS lo hi = true) : ∃ x y : UInt8, txt lo hi = ⟨#[x, 45, y]⟩ ∧ (x.toNat : Int) = 48 + lo ∧ (y.toNat : Int) = 48 + hi := by
  have h1 := okS_yes h
  refine ⟨_, _, rfl, ?_, ?_⟩ <;> simp <;> omega

/-- What stays: the box of the argument, all that is old. -/
structure Keep (w : World) (s : Int × Int) (W : World) : Prop where
  s : Has W w.heap.size s
  below : Below w.heap.size w W

theorem Keep.on {w : World} {s : Int × Int} {W W' : World} (h : Keep w s W) (k : Below W.heap.size W W') : Keep w s W' :=
  ⟨h.s.on k, h.below.trans (k.mono h.below.size)⟩

set_option maxRecDepth 10000 in
set_option maxHeartbeats 4000000 in
theorem walk (a0 : Int × Int) (a1 : ByteArray) (w : World) (w0 : wfS a0) (w1' : a1.size ≤ maxLen) :
    Calls Tryd.prog 6 #[.agg #[.int .i64 a0.1, .int .i64 a0.2], .string a1] w fun e w' => e = .returned (.bool true) ∧ Below w.heap.size w w' := by
  have AW := awake5_any
  have HK : Hid (Keep w a0 (w.alloc (.cells #[.int .i64 a0.1, .int .i64 a0.2] 23))) := ⟨Has.new w a0 _ rfl, (Below.refl _ _).alloc (Nat.le_refl _) _⟩
  by_cases hlen : a1.size ≤ 20
  · have hlen' : decide (20 < a1.size) = false := decide_eq_false (by omega)
    have hlen2 : (a1.size : Int) ≤ 20 := by omega
    have MS := fun w => may_any a0.1 a0.2 w
    go_enter Tryd.func6, Tryd.ntmps6
    go_wp2_with fail
    refine (MS _).mono ?_
    rintro e w1 ⟨rfl, hw1⟩
    have HK1 : Hid (Keep w a0 w1) := by
      have := HK.out.on ((Below.refl _ _).alloc (Nat.le_refl _) (.cells #[.int .i64 a0.1, .int .i64 a0.2] 23))
      rw [hw1]; exact this
    clear hw1 HK MS
    go_upto_if 16 with fail
    go_cut [4] (fun r wx => r = .bool false ∧ Hid (Keep w a0 wx))
    case first =>
      cases hok : okS a0.1 a0.2
      · have T0 := fun w => text_no a0.1 a0.2 w hok
        obtain ⟨c0, c1, hz⟩ := HK1.out.s.cells
        go_wp2_with fail
        refine (T0 _).mono ?_
        rintro e w2 ⟨rfl, hb2⟩
        have HK2 := Hid.mk' (HK1.out.on hb2)
        clear hb2 c0 c1 hz HK1
        go_wp2
        go_meet
        exact ⟨rfl, HK2⟩
      · have T0 := fun w => text_yes a0.1 a0.2 w hok
        have P0 := fun w => parse_any (txt a0.1 a0.2) w (a0.1, a0.2, 0) (.inl ⟨a0, six_mem hok, rfl, rfl⟩)
        obtain ⟨x, y, hxy, hx, hy⟩ := txt_bytes hok
        rw [hxy] at T0 P0
        have hyb := okS_yes hok
        clear hxy
        obtain ⟨c0, c1, hz⟩ := HK1.out.s.cells
        go_wp2_with fail
        refine (T0 _).mono ?_
        rintro e w2 ⟨rfl, hb2⟩
        have HK2 := Hid.mk' (HK1.out.on hb2)
        clear hb2 c0 c1 hz HK1
        go_wp2_with fail
        refine (P0 _).mono ?_
        rintro e w3 ⟨rfl, hb3⟩
        have HK3 := Hid.mk' (HK2.out.on hb3)
        clear hb3 HK2
        go_upto_region 5 with fail
        go_cut [61] (fun s wx => s = .bool false ∧ Hid (Keep w a0 wx))
        case first =>
          obtain ⟨c0, c1, hz⟩ := HK3.out.s.cells
          have s1 : IntKind.i64.wrap (48 + a0.1) = 48 + a0.1 := wrap_i64 (by omega) (by omega)
          have s2 : IntKind.i64.wrap (48 + a0.2) = 48 + a0.2 := wrap_i64 (by omega) (by omega)
          have s3 : IntKind.i64.wrap (x.toNat : Int) = 48 + a0.1 := by rw [hx]; exact s1
          have s4 : IntKind.i64.wrap (y.toNat : Int) = 48 + a0.2 := by rw [hy]; exact s2
          have g0 : (⟨#[x, 45, y]⟩ : ByteArray)[0]'(show 0 < 3 by omega) = x := rfl
          have g1 : (⟨#[x, 45, y]⟩ : ByteArray)[1]'(show 1 < 3 by omega) = 45 := rfl
          have g2 : (⟨#[x, 45, y]⟩ : ByteArray)[2]'(show 2 < 3 by omega) = y := rfl
          obtain ⟨v0, v1, vz⟩ := (Has.new w3 a0 _ rfl).cells
          have HK4 := Hid.mk' (HK3.out.on ((Below.refl _ _).alloc (Nat.le_refl _) (.cells #[.int .i64 a0.1, .int .i64 a0.2] 23)))
          obtain ⟨d0, d1, dz⟩ := HK4.out.s.cells
          have hS0 : (w3.alloc (.cells #[.int .i64 a0.1, .int .i64 a0.2] 23)).drew.cell? ⟨w3.heap.size, 0, none⟩ = some (.int .i64 a0.1) ∧ (w3.alloc (.cells #[.int .i64 a0.1, .int .i64 a0.2] 23)).drew.cell? ⟨w3.heap.size, 1, none⟩ = some (.int .i64 a0.2) ∧ (w3.alloc (.cells #[.int .i64 a0.1, .int .i64 a0.2] 23)).drew.cell? ⟨w.heap.size, 0, none⟩ = some (.int .i64 a0.1) ∧ (w3.alloc (.cells #[.int .i64 a0.1, .int .i64 a0.2] 23)).drew.cell? ⟨w.heap.size, 1, none⟩ = some (.int .i64 a0.2) ∧ Hid (Keep w a0 (w3.alloc (.cells #[.int .i64 a0.1, .int .i64 a0.2] 23)).drew) := ⟨v0, v1, d0, d1, HK4.out.on (Below.refl _ _).drew⟩
          refine wp_region_held_drew (S := fun w' => w'.cell? ⟨w3.heap.size, 0, none⟩ = some (.int .i64 a0.1) ∧ w'.cell? ⟨w3.heap.size, 1, none⟩ = some (.int .i64 a0.2) ∧ w'.cell? ⟨w.heap.size, 0, none⟩ = some (.int .i64 a0.1) ∧ w'.cell? ⟨w.heap.size, 1, none⟩ = some (.int .i64 a0.2) ∧ Hid (Keep w a0 w')) (by kernel_rfl) hS0 (fun hS => ?_)
          clear hS0 c0 c1 hz v0 v1 vz HK4 d0 d1 dz HK3 P0
          generalize (w3.alloc (.cells #[.int .i64 a0.1, .int .i64 a0.2] 23)).drew = wd at hS ⊢
          refine wpAnyH_take (i := 0) (v := ?v0_1) rfl (by kernel_rfl) (by kernel_rfl) (by kernel_rfl) (fun _ _ _ h => h) (Or.inl ⟨by rfl, ?hy0_1⟩) (by assumption) ?rest0_1
          case hy0_1 => (intro w hSw; (try dsimp only at hSw); go_simp; try (with_reducible rfl))
          simp only [Act.put, List.getElem_toArray, List.getElem_cons_zero, List.getElem_cons_succ, List.setIfInBounds_toArray, List.set_cons_zero, List.set_cons_succ]
          refine wpAnyH_take (i := 1) (v := ?v1_2) rfl (by kernel_rfl) (by kernel_rfl) (by kernel_rfl) (fun _ _ _ h => h) (Or.inl ⟨by rfl, ?hy1_2⟩) (by assumption) ?rest1_2
          case hy1_2 => (intro w hSw; (try dsimp only at hSw); go_simp; try (with_reducible rfl))
          simp only [Act.put, List.getElem_toArray, List.getElem_cons_zero, List.getElem_cons_succ, List.setIfInBounds_toArray, List.set_cons_zero, List.set_cons_succ]
          refine wpAnyH_take (i := 2) (v := ?v2_3) rfl (by kernel_rfl) (by kernel_rfl) (by kernel_rfl) (fun _ _ _ h => h) (Or.inl ⟨by rfl, ?hy2_3⟩) (by assumption) ?rest2_3
          case hy2_3 => (intro w hSw; (try dsimp only at hSw); go_simp; try (with_reducible rfl))
          simp only [Act.put, List.getElem_toArray, List.getElem_cons_zero, List.getElem_cons_succ, List.setIfInBounds_toArray, List.set_cons_zero, List.set_cons_succ]
          refine wpAnyH_take (i := 3) (v := ?v3_4) rfl (by kernel_rfl) (by kernel_rfl) (by kernel_rfl) (fun _ _ _ h => h) (Or.inl ⟨by rfl, ?hy3_4⟩) (by assumption) ?rest3_4
          case hy3_4 => (intro w hSw; (try dsimp only at hSw); go_simp; try (with_reducible rfl))
          simp only [Act.put, List.getElem_toArray, List.getElem_cons_zero, List.getElem_cons_succ, List.setIfInBounds_toArray, List.set_cons_zero, List.set_cons_succ]
          refine wpAnyH_take (i := 4) (v := ?v4_5) rfl (by kernel_rfl) (by kernel_rfl) (by kernel_rfl) (fun _ _ _ h => h) (Or.inl ⟨by rfl, ?hy4_5⟩) (by assumption) ?rest4_5
          case hy4_5 => (intro w hSw; (try dsimp only at hSw); go_simp; try (with_reducible rfl))
          simp only [Act.put, List.getElem_toArray, List.getElem_cons_zero, List.getElem_cons_succ, List.setIfInBounds_toArray, List.set_cons_zero, List.set_cons_succ]
          refine wpAnyH_take (i := 5) (v := ?v5_6) rfl (by kernel_rfl) (by kernel_rfl) (by kernel_rfl) (fun _ _ _ h => h) (Or.inl ⟨by rfl, ?hy5_6⟩) (by assumption) ?rest5_6
          case hy5_6 => (intro w hSw; (try dsimp only at hSw); go_simp; try (with_reducible rfl))
          simp only [Act.put, List.getElem_toArray, List.getElem_cons_zero, List.getElem_cons_succ, List.setIfInBounds_toArray, List.set_cons_zero, List.set_cons_succ]
          refine wpAnyH_take (i := 6) (v := ?v6_7) rfl (by kernel_rfl) (by kernel_rfl) (by kernel_rfl) (fun _ _ _ h => h) (Or.inl ⟨by rfl, ?hy6_7⟩) (by assumption) ?rest6_7
          case hy6_7 => (intro w hSw; (try dsimp only at hSw); go_simp; try (with_reducible rfl))
          simp only [Act.put, List.getElem_toArray, List.getElem_cons_zero, List.getElem_cons_succ, List.setIfInBounds_toArray, List.set_cons_zero, List.set_cons_succ]
          refine wpAnyH_take (i := 7) (v := ?v7_8) rfl (by kernel_rfl) (by kernel_rfl) (by kernel_rfl) (fun _ _ _ h => h) (Or.inl ⟨by rfl, ?hy7_8⟩) (by assumption) ?rest7_8
          case hy7_8 => (intro w hSw; (try dsimp only at hSw); go_simp; try (with_reducible rfl))
          simp only [Act.put, List.getElem_toArray, List.getElem_cons_zero, List.getElem_cons_succ, List.setIfInBounds_toArray, List.set_cons_zero, List.set_cons_succ]
          refine wpAnyH_take (i := 8) (v := ?v8_9) rfl (by kernel_rfl) (by kernel_rfl) (by kernel_rfl) (fun _ _ _ h => h) (Or.inl ⟨by rfl, ?hy8_9⟩) (by assumption) ?rest8_9
          case hy8_9 => (intro w hSw; (try dsimp only at hSw); go_simp; try (with_reducible rfl))
          simp only [Act.put, List.getElem_toArray, List.getElem_cons_zero, List.getElem_cons_succ, List.setIfInBounds_toArray, List.set_cons_zero, List.set_cons_succ]
          refine wpAnyH_ready (rs := [9]) (by kernel_rfl) (by simp) ?_
          refine (AllReadyH.cons rfl (fun K hK => ?_) AllReadyH.nil)
          go_simp
          refine (T0 _).mono ?_
          rintro e w5 ⟨rfl, hb5⟩
          go_wp2_with fail
          refine hK.out _ _ ?_ (fun hS' => ?_)
          · exact ⟨cellOn hb5 hS.1, cellOn hb5 hS.2.1, cellOn hb5 hS.2.2.1, cellOn hb5 hS.2.2.2.1, hS.2.2.2.2.out.on hb5⟩
          clear hK K
          try simp only [Act.put, List.getElem_toArray, List.getElem_cons_zero, List.getElem_cons_succ, List.setIfInBounds_toArray, List.set_cons_zero, List.set_cons_succ]
          replace hS := hS'
          clear hS'
          refine wpAnyH_take (i := 10) (v := ?v10_10) rfl (by kernel_rfl) (by kernel_rfl) (by kernel_rfl) (fun _ _ _ h => h) (Or.inl ⟨by rfl, ?hy10_10⟩) (by assumption) ?rest10_10
          case hy10_10 => (intro w hSw; (try dsimp only at hSw); go_simp; try (with_reducible rfl))
          simp only [Act.put, List.getElem_toArray, List.getElem_cons_zero, List.getElem_cons_succ, List.setIfInBounds_toArray, List.set_cons_zero, List.set_cons_succ]
          refine wpAnyH_take (i := 11) (v := ?v11_11) rfl (by kernel_rfl) (by kernel_rfl) (by kernel_rfl) (fun _ _ _ h => h) (Or.inl ⟨by rfl, ?hy11_11⟩) (by assumption) ?rest11_11
          case hy11_11 => (intro w hSw; (try dsimp only at hSw); go_simp; try (with_reducible rfl))
          simp only [Act.put, List.getElem_toArray, List.getElem_cons_zero, List.getElem_cons_succ, List.setIfInBounds_toArray, List.set_cons_zero, List.set_cons_succ]
          refine wpAnyH_take (i := 12) (v := ?v12_12) rfl (by kernel_rfl) (by kernel_rfl) (by kernel_rfl) (fun _ _ _ h => h) (Or.inl ⟨by rfl, ?hy12_12⟩) (by assumption) ?rest12_12
          case hy12_12 => (intro w hSw; (try dsimp only at hSw); go_simp; try (with_reducible rfl))
          simp only [Act.put, List.getElem_toArray, List.getElem_cons_zero, List.getElem_cons_succ, List.setIfInBounds_toArray, List.set_cons_zero, List.set_cons_succ]
          refine wpAnyH_take (i := 13) (v := ?v13_13) rfl (by kernel_rfl) (by kernel_rfl) (by kernel_rfl) (fun _ _ _ h => h) (Or.inl ⟨by rfl, ?hy13_13⟩) (by assumption) ?rest13_13
          case hy13_13 => (intro w hSw; (try dsimp only at hSw); go_simp; try (with_reducible rfl))
          simp only [Act.put, List.getElem_toArray, List.getElem_cons_zero, List.getElem_cons_succ, List.setIfInBounds_toArray, List.set_cons_zero, List.set_cons_succ]
          refine wpAnyH_take (i := 14) (v := ?v14_14) rfl (by kernel_rfl) (by kernel_rfl) (by kernel_rfl) (fun _ _ _ h => h) (Or.inl ⟨by rfl, ?hy14_14⟩) (by assumption) ?rest14_14
          case hy14_14 => (intro w hSw; (try dsimp only at hSw); go_simp; try (with_reducible rfl))
          simp only [Act.put, List.getElem_toArray, List.getElem_cons_zero, List.getElem_cons_succ, List.setIfInBounds_toArray, List.set_cons_zero, List.set_cons_succ]
          refine wpAnyH_take (i := 18) (v := ?v18_15) rfl (by kernel_rfl) (by kernel_rfl) (by kernel_rfl) (fun _ _ _ h => h) (Or.inl ⟨by rfl, ?hy18_15⟩) (by assumption) ?rest18_15
          case hy18_15 => (intro w hSw; (try dsimp only at hSw); go_simp; try (with_reducible rfl))
          simp only [Act.put, List.getElem_toArray, List.getElem_cons_zero, List.getElem_cons_succ, List.setIfInBounds_toArray, List.set_cons_zero, List.set_cons_succ]
          refine wpAnyH_take (i := 19) (v := ?v19_16) rfl (by kernel_rfl) (by kernel_rfl) (by kernel_rfl) (fun _ _ _ h => h) (Or.inl ⟨by rfl, ?hy19_16⟩) (by assumption) ?rest19_16
          case hy19_16 => (intro w hSw; (try dsimp only at hSw); go_simp; try (with_reducible rfl))
          simp only [Act.put, List.getElem_toArray, List.getElem_cons_zero, List.getElem_cons_succ, List.setIfInBounds_toArray, List.set_cons_zero, List.set_cons_succ]
          refine wpAnyH_take (i := 20) (v := ?v20_17) rfl (by kernel_rfl) (by kernel_rfl) (by kernel_rfl) (fun _ _ _ h => h) (Or.inl ⟨by rfl, ?hy20_17⟩) (by assumption) ?rest20_17
          case hy20_17 => (intro w hSw; (try dsimp only at hSw); go_simp; try (with_reducible rfl))
          simp only [Act.put, List.getElem_toArray, List.getElem_cons_zero, List.getElem_cons_succ, List.setIfInBounds_toArray, List.set_cons_zero, List.set_cons_succ]
          refine wpAnyH_ready (rs := [15]) (by kernel_rfl) (by simp) ?_
          refine (AllReadyH.cons rfl (fun K hK => ?_) AllReadyH.nil)
          go_simp
          refine (T0 _).mono ?_
          rintro e w6 ⟨rfl, hb6⟩
          go_wp2_with fail
          refine hK.out _ _ ?_ (fun hS' => ?_)
          · exact ⟨cellOn hb6 hS.1, cellOn hb6 hS.2.1, cellOn hb6 hS.2.2.1, cellOn hb6 hS.2.2.2.1, hS.2.2.2.2.out.on hb6⟩
          clear hK K
          try simp only [Act.put, List.getElem_toArray, List.getElem_cons_zero, List.getElem_cons_succ, List.setIfInBounds_toArray, List.set_cons_zero, List.set_cons_succ]
          replace hS := hS'
          clear hS'
          refine wpAnyH_take (i := 16) (v := ?v16_18) rfl (by kernel_rfl) (by kernel_rfl) (by kernel_rfl) (fun _ _ _ h => h) (Or.inl ⟨by rfl, ?hy16_18⟩) (by assumption) ?rest16_18
          case hy16_18 => (intro w hSw; (try dsimp only at hSw); go_simp; try (with_reducible rfl))
          simp only [Act.put, List.getElem_toArray, List.getElem_cons_zero, List.getElem_cons_succ, List.setIfInBounds_toArray, List.set_cons_zero, List.set_cons_succ]
          refine wpAnyH_take (i := 17) (v := ?v17_19) rfl (by kernel_rfl) (by kernel_rfl) (by kernel_rfl) (fun _ _ _ h => h) (Or.inl ⟨by rfl, ?hy17_19⟩) (by assumption) ?rest17_19
          case hy17_19 => (intro w hSw; (try dsimp only at hSw); go_simp; try (with_reducible rfl))
          simp only [Act.put, List.getElem_toArray, List.getElem_cons_zero, List.getElem_cons_succ, List.setIfInBounds_toArray, List.set_cons_zero, List.set_cons_succ]
          refine wpAnyH_take (i := 21) (v := ?v21_20) rfl (by kernel_rfl) (by kernel_rfl) (by kernel_rfl) (fun _ _ _ h => h) (Or.inl ⟨by rfl, ?hy21_20⟩) (by assumption) ?rest21_20
          case hy21_20 => (intro w hSw; (try dsimp only at hSw); go_simp; try (with_reducible rfl))
          simp only [Act.put, List.getElem_toArray, List.getElem_cons_zero, List.getElem_cons_succ, List.setIfInBounds_toArray, List.set_cons_zero, List.set_cons_succ]
          refine wpAnyH_take (i := 22) (v := ?v22_21) rfl (by kernel_rfl) (by kernel_rfl) (by kernel_rfl) (fun _ _ _ h => h) (Or.inl ⟨by rfl, ?hy22_21⟩) (by assumption) ?rest22_21
          case hy22_21 => (intro w hSw; (try dsimp only at hSw); go_simp; try (with_reducible rfl))
          simp only [Act.put, List.getElem_toArray, List.getElem_cons_zero, List.getElem_cons_succ, List.setIfInBounds_toArray, List.set_cons_zero, List.set_cons_succ]
          refine wpAnyH_take (i := 23) (v := ?v23_22) rfl (by kernel_rfl) (by kernel_rfl) (by kernel_rfl) (fun _ _ _ h => h) (Or.inl ⟨by rfl, ?hy23_22⟩) (by assumption) ?rest23_22
          case hy23_22 => (intro w hSw; (try dsimp only at hSw); go_simp; try (with_reducible rfl))
          simp only [Act.put, List.getElem_toArray, List.getElem_cons_zero, List.getElem_cons_succ, List.setIfInBounds_toArray, List.set_cons_zero, List.set_cons_succ]
          refine wpAnyH_take (i := 24) (v := ?v24_23) rfl (by kernel_rfl) (by kernel_rfl) (by kernel_rfl) (fun _ _ _ h => h) (Or.inl ⟨by rfl, ?hy24_23⟩) (by assumption) ?rest24_23
          case hy24_23 => (intro w hSw; (try dsimp only at hSw); go_simp; try (with_reducible rfl))
          simp only [Act.put, List.getElem_toArray, List.getElem_cons_zero, List.getElem_cons_succ, List.setIfInBounds_toArray, List.set_cons_zero, List.set_cons_succ]
          refine wpAnyH_ready (rs := [25]) (by kernel_rfl) (by simp) ?_
          refine (AllReadyH.cons rfl (fun K hK => ?_) AllReadyH.nil)
          go_simp
          refine (T0 _).mono ?_
          rintro e w7 ⟨rfl, hb7⟩
          go_wp2_with fail
          refine hK.out _ _ ?_ (fun hS' => ?_)
          · exact ⟨cellOn hb7 hS.1, cellOn hb7 hS.2.1, cellOn hb7 hS.2.2.1, cellOn hb7 hS.2.2.2.1, hS.2.2.2.2.out.on hb7⟩
          clear hK K
          try simp only [Act.put, List.getElem_toArray, List.getElem_cons_zero, List.getElem_cons_succ, List.setIfInBounds_toArray, List.set_cons_zero, List.set_cons_succ]
          replace hS := hS'
          clear hS'
          refine wpAnyH_take (i := 26) (v := ?v26_24) rfl (by kernel_rfl) (by kernel_rfl) (by kernel_rfl) (fun _ _ _ h => h) (Or.inl ⟨by rfl, ?hy26_24⟩) (by assumption) ?rest26_24
          case hy26_24 => (intro w hSw; (try dsimp only at hSw); go_simp; try (with_reducible rfl))
          simp only [Act.put, List.getElem_toArray, List.getElem_cons_zero, List.getElem_cons_succ, List.setIfInBounds_toArray, List.set_cons_zero, List.set_cons_succ]
          refine wpAnyH_take (i := 27) (v := ?v27_25) rfl (by kernel_rfl) (by kernel_rfl) (by kernel_rfl) (fun _ _ _ h => h) (Or.inl ⟨by rfl, ?hy27_25⟩) (by assumption) ?rest27_25
          case hy27_25 => (intro w hSw; (try dsimp only at hSw); go_simp; try (with_reducible rfl))
          simp only [Act.put, List.getElem_toArray, List.getElem_cons_zero, List.getElem_cons_succ, List.setIfInBounds_toArray, List.set_cons_zero, List.set_cons_succ]
          refine wpAnyH_take (i := 28) (v := ?v28_26) rfl (by kernel_rfl) (by kernel_rfl) (by kernel_rfl) (fun _ _ _ h => h) (Or.inl ⟨by rfl, ?hy28_26⟩) (by assumption) ?rest28_26
          case hy28_26 => (intro w hSw; (try dsimp only at hSw); go_simp; try (with_reducible rfl))
          simp only [Act.put, List.getElem_toArray, List.getElem_cons_zero, List.getElem_cons_succ, List.setIfInBounds_toArray, List.set_cons_zero, List.set_cons_succ]
          refine wpAnyH_take (i := 29) (v := ?v29_27) rfl (by kernel_rfl) (by kernel_rfl) (by kernel_rfl) (fun _ _ _ h => h) (Or.inl ⟨by rfl, ?hy29_27⟩) (by assumption) ?rest29_27
          case hy29_27 => (intro w hSw; (try dsimp only at hSw); go_simp; try (with_reducible rfl))
          simp only [Act.put, List.getElem_toArray, List.getElem_cons_zero, List.getElem_cons_succ, List.setIfInBounds_toArray, List.set_cons_zero, List.set_cons_succ]
          refine wpAnyH_take (i := 30) (v := ?v30_28) rfl (by kernel_rfl) (by kernel_rfl) (by kernel_rfl) (fun _ _ _ h => h) (Or.inl ⟨by rfl, ?hy30_28⟩) (by assumption) ?rest30_28
          case hy30_28 => (intro w hSw; (try dsimp only at hSw); go_simp; try (with_reducible rfl))
          simp only [Act.put, List.getElem_toArray, List.getElem_cons_zero, List.getElem_cons_succ, List.setIfInBounds_toArray, List.set_cons_zero, List.set_cons_succ]
          refine wpAnyH_take (i := 34) (v := ?v34_29) rfl (by kernel_rfl) (by kernel_rfl) (by kernel_rfl) (fun _ _ _ h => h) (Or.inl ⟨by rfl, ?hy34_29⟩) (by assumption) ?rest34_29
          case hy34_29 => (intro w hSw; (try dsimp only at hSw); go_simp; try (with_reducible rfl))
          simp only [Act.put, List.getElem_toArray, List.getElem_cons_zero, List.getElem_cons_succ, List.setIfInBounds_toArray, List.set_cons_zero, List.set_cons_succ]
          refine wpAnyH_take (i := 35) (v := ?v35_30) rfl (by kernel_rfl) (by kernel_rfl) (by kernel_rfl) (fun _ _ _ h => h) (Or.inl ⟨by rfl, ?hy35_30⟩) (by assumption) ?rest35_30
          case hy35_30 => (intro w hSw; (try dsimp only at hSw); go_simp; try (with_reducible rfl))
          simp only [Act.put, List.getElem_toArray, List.getElem_cons_zero, List.getElem_cons_succ, List.setIfInBounds_toArray, List.set_cons_zero, List.set_cons_succ]
          refine wpAnyH_take (i := 36) (v := ?v36_31) rfl (by kernel_rfl) (by kernel_rfl) (by kernel_rfl) (fun _ _ _ h => h) (Or.inl ⟨by rfl, ?hy36_31⟩) (by assumption) ?rest36_31
          case hy36_31 => (intro w hSw; (try dsimp only at hSw); go_simp; try (with_reducible rfl))
          simp only [Act.put, List.getElem_toArray, List.getElem_cons_zero, List.getElem_cons_succ, List.setIfInBounds_toArray, List.set_cons_zero, List.set_cons_succ]
          refine wpAnyH_ready (rs := [31]) (by kernel_rfl) (by simp) ?_
          refine (AllReadyH.cons rfl (fun K hK => ?_) AllReadyH.nil)
          go_simp
          refine (T0 _).mono ?_
          rintro e w8 ⟨rfl, hb8⟩
          go_wp2_with fail
          refine hK.out _ _ ?_ (fun hS' => ?_)
          · exact ⟨cellOn hb8 hS.1, cellOn hb8 hS.2.1, cellOn hb8 hS.2.2.1, cellOn hb8 hS.2.2.2.1, hS.2.2.2.2.out.on hb8⟩
          clear hK K
          try simp only [Act.put, List.getElem_toArray, List.getElem_cons_zero, List.getElem_cons_succ, List.setIfInBounds_toArray, List.set_cons_zero, List.set_cons_succ]
          replace hS := hS'
          clear hS'
          refine wpAnyH_take (i := 32) (v := ?v32_32) rfl (by kernel_rfl) (by kernel_rfl) (by kernel_rfl) (fun _ _ _ h => h) (Or.inl ⟨by rfl, ?hy32_32⟩) (by assumption) ?rest32_32
          case hy32_32 => (intro w hSw; (try dsimp only at hSw); go_simp; try (with_reducible rfl))
          simp only [Act.put, List.getElem_toArray, List.getElem_cons_zero, List.getElem_cons_succ, List.setIfInBounds_toArray, List.set_cons_zero, List.set_cons_succ]
          refine wpAnyH_take (i := 33) (v := ?v33_33) rfl (by kernel_rfl) (by kernel_rfl) (by kernel_rfl) (fun _ _ _ h => h) (Or.inl ⟨by rfl, ?hy33_33⟩) (by assumption) ?rest33_33
          case hy33_33 => (intro w hSw; (try dsimp only at hSw); go_simp; try (with_reducible rfl))
          simp only [Act.put, List.getElem_toArray, List.getElem_cons_zero, List.getElem_cons_succ, List.setIfInBounds_toArray, List.set_cons_zero, List.set_cons_succ]
          refine wpAnyH_take (i := 37) (v := ?v37_34) rfl (by kernel_rfl) (by kernel_rfl) (by kernel_rfl) (fun _ _ _ h => h) (Or.inl ⟨by rfl, ?hy37_34⟩) (by assumption) ?rest37_34
          case hy37_34 => (intro w hSw; (try dsimp only at hSw); go_simp; try (with_reducible rfl))
          simp only [Act.put, List.getElem_toArray, List.getElem_cons_zero, List.getElem_cons_succ, List.setIfInBounds_toArray, List.set_cons_zero, List.set_cons_succ]
          refine wpAnyH_take (i := 38) (v := ?v38_35) rfl (by kernel_rfl) (by kernel_rfl) (by kernel_rfl) (fun _ _ _ h => h) (Or.inl ⟨by rfl, ?hy38_35⟩) (by assumption) ?rest38_35
          case hy38_35 => (intro w hSw; (try dsimp only at hSw); go_simp; try (with_reducible rfl))
          simp only [Act.put, List.getElem_toArray, List.getElem_cons_zero, List.getElem_cons_succ, List.setIfInBounds_toArray, List.set_cons_zero, List.set_cons_succ]
          refine wpAnyH_done (by kernel_rfl) ?_ _
          go_wp2
          go_meet
          exact ⟨rfl, hS.2.2.2.2⟩
        case rest =>
          obtain ⟨rfl, HK4⟩ := hcut
          go_wp2
          go_meet
          exact ⟨rfl, HK4⟩
    case rest =>
      obtain ⟨rfl, HK2⟩ := hcut
      clear HK1
      by_cases hp : ∃ s ∈ six, txt s.1 s.2 = a1
      · obtain ⟨s, hs, hst⟩ := hp
        have P0 := fun w => parse_any a1 w (s.1, s.2, 0) (.inl ⟨s, hs, hst, rfl⟩)
        have hok := six_ok s hs
        have T0 := fun w => text_yes s.1 s.2 w hok
        have M0 := fun w => may_any s.1 s.2 w
        rw [hok] at M0
        rw [hst] at T0
        have hte : (a1.toList == a1.toList) = true := by simp
        clear hok hs hst
        go_wp2_with fail
        refine (P0 _).mono ?_
        rintro e w3 ⟨rfl, hb3⟩
        have HK3 := Hid.mk' ((HK2.out.on hb3).on ((Below.refl _ _).alloc (Nat.le_refl _) (.cells #[.int .i64 s.1, .int .i64 s.2] 23)))
        clear hb3 HK2
        go_wp2_with fail
        refine (M0 _).mono ?_
        rintro e w4 ⟨rfl, hw4⟩
        have hb4 : Below (w3.alloc (.cells #[.int .i64 s.1, .int .i64 s.2] 23)).heap.size (w3.alloc (.cells #[.int .i64 s.1, .int .i64 s.2] 23)) w4 := by rw [hw4]; exact (Below.refl _ _).alloc (Nat.le_refl _) _
        obtain ⟨z0, z1, z2⟩ := ((Has.new w3 s _ rfl).on hb4).cells
        have HK4 := Hid.mk' (HK3.out.on hb4)
        clear hb4 hw4 HK3
        go_wp2_with fail
        refine (T0 _).mono ?_
        rintro e w5 ⟨rfl, hb5⟩
        have HK5 := Hid.mk' (HK4.out.on hb5)
        clear hb5 HK4 z0 z1 z2
        go_wp2_with fail
        refine (AW _).mono ?_
        rintro e w6 ⟨rfl, hb6⟩
        have HK6 := Hid.mk' (HK5.out.on hb6)
        go_wp2
        go_ret
        exact ⟨rfl, HK6.out.below⟩
      · have hp' : ∀ s ∈ six, txt s.1 s.2 ≠ a1 := fun s hs q => hp ⟨s, hs, q⟩
        have P0 := fun w => parse_any a1 w (0, 0, 4) (.inr ⟨hp', rfl⟩)
        have HP := Hid.mk' hp'
        clear hp hp'
        go_wp2_with fail
        refine (P0 _).mono ?_
        rintro e w3 ⟨rfl, hb3⟩
        have HK3 := Hid.mk' ((HK2.out.on hb3).on ((Below.refl _ _).alloc (Nat.le_refl _) (.cells #[.int .i64 0, .int .i64 0] 23)))
        clear hb3 HK2
        have HN := Hid.mk' (Has.new w3 (0, 0) _ rfl)
        have AL := all_any (w3.alloc (.cells #[.int .i64 0, .int .i64 0] 23))
        go_wp2_with fail
        refine AL.mono ?_
        rintro e w4 ⟨p, c, rfl, hs, hb4⟩
        have HK4 := Hid.mk' (HK3.out.on hb4)
        have HN4 := Hid.mk' (HN.out.on hb4)
        have HS := Hid.mk' hs
        clear hs hb4 AL HK3 HN
        go_wp2
        go_loopw [10] (fun i W => ∃ k : Nat, k ≤ 6 ∧ i = .int .i64 k ∧ Hid (Keep w a0 W) ∧ Hid (Has W w3.heap.size (0, 0)) ∧ Hid (SIn W p six)) (fun i _ => 6 - (intOf i).toNat)
        case atStart => exact ⟨0, by omega, rfl, HK4, HN4, HS⟩
        case round =>
          clear HK4 HN4 HS
          obtain ⟨k, hk, rfl, HK4, HN4, HS⟩ := hrel
          by_cases q : k < 6
          · have hq6 : k < six.length := q
            have hqi : (k : Int) < 6 := by omega
            obtain ⟨b, o, rfl, hc⟩ := HS.out.at (by decide)
            obtain ⟨e0, e1⟩ := hc k hq6
            have hbl : b < wr.heap.size := lt_of_cell e0
            have hm : six.getD k (0, 0) ∈ six := by simp [List.getD, hq6]
            generalize six.getD k (0, 0) = y at e0 e1 hm
            have T := fun w => text_yes y.1 y.2 w (six_ok y hm)
            have hne := HP.out y hm
            have hte := str_eq (txt y.1 y.2) a1
            rw [decide_eq_false hne] at hte
            generalize txt y.1 y.2 = x at T hte hne
            clear hne hm hc
            go_wp2_with fail
            refine (T _).mono ?_
            rintro e w5 ⟨rfl, hb5⟩
            have HK5 := Hid.mk' (HK4.out.on hb5)
            have HN5 := Hid.mk' (HN4.out.on hb5)
            have HS5 := Hid.mk' (HS.out.below hb5)
            clear hb5 HK4 HN4 HS
            go_wp2
            go_roundw
            case rel => exact ⟨k + 1, by omega, by go_num, HK5, HN5, HS5⟩
            case measure => simp [intOf]; omega
          · obtain rfl : k = 6 := by omega
            obtain ⟨z0, z1, z2⟩ := HN4.out.cells
            clear HN4 HS
            go_wp2_with fail
            refine (AW _).mono ?_
            rintro e w6 ⟨rfl, hb6⟩
            have HK6 := Hid.mk' (HK4.out.on hb6)
            go_wp2
            go_ret
            exact ⟨rfl, HK6.out.below⟩
  · have hlen' : (20 : Int) < a1.size := by omega
    clear HK
    go_enter Tryd.func6, Tryd.ntmps6
    go_wp2_with fail
    refine (AW _).mono ?_
    rintro e w2 ⟨rfl, hb2⟩
    go_wp2
    go_ret
    exact ⟨rfl, ((Below.refl _ _).alloc (Nat.le_refl _) _).trans (hb2.mono (by simp))⟩

theorem own : ownKnob Tryd.prog.godebug = none := by kernel_rfl
theorem laidOut : laidOutB Tryd.prog = true := by kernel_rfl

theorem door_met (os : Os) (args : Array Value) : laidMetH Tryd.prog Rows.spanTextsRow.laid ((World.doorLaid Tryd.prog 400 os).forCall (fun _ _ => 0) ⟨#[], args, []⟩).memory :=
  laidMetH_of_parts3 (fuel := 8) (laidMet_of_run' 8 (by kernel_rfl) (by kernel_rfl)) (by kernel_rfl) (by kernel_rfl)

set_option maxRecDepth 100000 in
theorem lifted (os : Os) (started : os.Started) (H : Type) (enc : TypeId × Value → H) :
    ReturnsInHanded {} Tryd.checked os 6 .any (fun w args => (Rows.spanTextsSpec.pre enc Tryd.prog Tryd.f6 [] false w args ∧ laidMetH Tryd.prog Rows.spanTextsRow.laid w) ∧ sizedMet enc Tryd.prog Tryd.f6 (OpenSpec.ofChange Rows.spanTextsSpec) false w args)
      (Rows.spanTextsSpec.post enc Tryd.prog Tryd.f6 false true false false) := by
  refine returnsInHanded_of_change_and (C := Tryd.checked) (X := (fun w _ => laidMetH Tryd.prog Rows.spanTextsRow.laid w)) (fun _ _ _ hh h => h.of_heap hh) own started (by kernel_rfl) Tryd.func6
    (ChangeSpec.witness_shaped (enc := enc) (C := Tryd.checked) (os := os) (X := (fun w _ => laidMetH Tryd.prog Rows.spanTextsRow.laid w)) false (World.doorLaid Tryd.prog 400 os) #[.agg #[.int .i64 0, .int .i64 0], .string ByteArray.empty] 8 rfl (World.shaped_of_RefB (by kernel_rfl) (by kernel_rfl)) (by kernel_rfl) (by kernel_rfl) (by kernel_rfl) (door_met os _)) ?_
  intro W base args ds gs before hval0 hW _ _ hL _
  have hval : ∀ (j : Nat) t v, Tryd.f6.params[j]? = some t → args[j]? = some v → Value.okWide Tryd.prog W .any base t v := hval0
  have hW' := hW
  obtain ⟨p, q, hA0, hV, rfl, hfz, hnd⟩ := hW
  have hA : DataW.TrodAll enc Tryd.prog W 0 (fun _ => true) true Tryd.f6.params.toList args.toList ds p := hA0
  rw [Tryd.params6] at hA hval
  obtain ⟨v0, vs0, d0, ds0, p0x, q0, hargs, rfl, rfl, h0, r0⟩ := trodAll_cons hA
  obtain ⟨v1, vs1, d1, ds1, p1x, q1, rfl, rfl, rfl, h1, r1⟩ := trodAll_cons r0
  obtain ⟨rfl, rfl, rfl⟩ := trodAll_nil r1
  obtain rfl : args = #[v0, v1] := by cases args; simp_all
  obtain ⟨rfl, rfl⟩ := trodVars_none hV
  obtain ⟨cs0, rfl, _⟩ := okWide_struct Tryd.underlying23 (hval 0 23 v0 rfl rfl)
  have k0 := h0
  have lt0 : ∀ x ∈ p0x, x.block < W.heap.size := by obtain ⟨m, hm⟩ := k0; exact DataW.trod_lt m _ _ _ hm
  obtain ⟨a0, rfl, w0⟩ : ∃ a : Int × Int, cs0 = #[.int .i64 a.1, .int .i64 a.2] ∧ wfS a := by
    obtain ⟨fuel, hf⟩ := h0
    obtain ⟨a, x, y, hcs, ⟨rfl, h1⟩, ⟨rfl, h2⟩⟩ := opens_struct2 Tryd.underlying23 rfl (by kernel_rfl) (by kernel_rfl) (opens_int Tryd.underlying3) (opens_int Tryd.underlying3) _ _ _ hf
    exact ⟨a, by cases cs0; simpa [Value.cells] using hcs, h1, h2⟩
  obtain ⟨a1, rfl, rfl, rfl, w1⟩ := open_string Tryd.underlying9 (hval 1 9 v1 rfl rfl) h1
  clear hA0 hval0
  refine (walk a0 a1 W w0 w1).mono fun e W' ⟨he, bel⟩ => ?_
  subst he
  exact ⟨_, rfl, _, _, _, [], _, [], hW', trodAll_mk1 (shut_bool Tryd.underlying4 _), (trodAll_cons_mk (Below.trod laidOut (by kernel_rfl) (of_decide_eq_true (by kernel_rfl)) k0 bel lt0) (trodAll_cons_mk (shut_string Tryd.underlying9 w1) trodAll_mk0)), rfl, bel.frame _, fun h => by cases h⟩

theorem over : Rows.SpanTextsSaid :=
  OpenClaim.holds_of_wide 6 Tryd.f6 rfl rfl rfl rfl rfl rfl rfl ⟨rfl, rfl, rfl, rfl, rfl⟩ rfl rfl rfl rfl rfl (by kernel_rfl) Tryd.func6 (by kernel_rfl)
    (of_decide_eq_true (by kernel_rfl)) (by unfold Func.isWrapper; first | (rw [if_pos (by decide +kernel)]; kernel_rfl) | (rw [if_neg (by decide +kernel)]; exact ⟨rfl, rfl⟩))
    (fun os started H enc _ => lifted os started H enc)

/-- The given statement: the card, its variables tied to the program's text. -/
theorem proved : Rows.SpanTextsCardSaid :=
  Claim7.holds_tied_plain_at .later [] [.data, .data, .data] true (true, "fbb78f8bb8d7d92a3312a1a90c5935cc73ec5038548ae4b8e08bd3e99f75b5f3") false over (fun _ h => by cases h) (by kernel_rfl) (fun _ h => by cases h) spanTexts_row_tie rfl ⟨rfl, rfl⟩ (by kernel_rfl) rfl
    (fun f fn hf hfn => by
      obtain rfl : f = 6 := Option.some.inj ((show Tryd.prog.funcNamed "polyglot/polyglotlaw05.SpanTexts" = some 6 by kernel_rfl).symm.trans hf) |>.symm
      obtain rfl : fn = Tryd.f6 := (Option.some.inj (Tryd.func6.symm.trans hfn)).symm
      exact ⟨by kernel_rfl, fun j t ht => by
        rw [Tryd.params6] at ht
        have hm : t ∈ [23, 9] := by simpa using Array.mem_of_getElem? ht
        have hall : ([23, 9].all fun u => !Tryd.prog.wantsStandIn u) = true := by kernel_rfl
        exact (show Tryd.prog.wantsStandIn t = false by simpa using List.all_eq_true.1 hall t hm)⟩)
    (by kernel_rfl)
#print axioms proved
end Go.Proofs.YtgjnbcbbkabljaaDoor.spanTexts
