/-
  Proved: the statement on what is in each one of any spans, and that there is something, if each two of them meet (SpanCommons), returns true at every input, and leaves its arguments as they were; the variables that it lists read as the program's text lays them (the card ties them).
-/
import Derived.Test.YtgjnbcbbkabljaaDoorRows
import Derived.Test.YtgjnbcbbkabljaaDoorCards
import Derived.Test.YtgjnbcbbkabljaaDoorTie
import Derived.Test.YtgjnbcbbkabljaaDoorSpanT
import Derived.Test.YtgjnbcbbkabljaaDoorSpanM
import Derived.Test.YtgjnbcbbkabljaaDoorShapes
import Derived.Deep.RegionHeld3
import Derived.RegionCalls
import Derived.ShutString
import Derived.ChangeOld
import Derived.Stop.Joined
import Derived.SevenTiedAt
import Derived.LaidMore
namespace Go.Proofs.YtgjnbcbbkabljaaDoor.spanCommons
open Go Go.ChangeShapes Go.WideShapes Go.ChangeAt Go.RowKit
open Go.ChangeMaps (open_string shut_string)
set_option linter.unusedVariables false
set_option linter.unusedSimpArgs false

theorem SIn.wf {w : World} {p : Option Addr} {l : List (Int × Int)} (h : SIn w p l) (i : Nat) (hi : i < l.length) : wfS (l.getD i (0, 0)) := by
  obtain ⟨b, o, rfl, hc⟩ := h (by omega)
  obtain ⟨cs, _, _, a, c, rfl, ⟨rfl, h1⟩, ⟨rfl, h2⟩⟩ := hc i hi
  simp [List.getD, hi]
  exact ⟨h1, h2⟩

/-- The last part: all pairs. -/
structure Keep (w w1 : World) (p : Option Addr) (l : List (Int × Int)) (z : Int × Int) (W : World) : Prop where
  z : Has W w1.heap.size z
  l : SIn W p l
  below : Below w.heap.size w W

theorem Keep.on {w w1 : World} {p : Option Addr} {l : List (Int × Int)} {z : Int × Int} {W W' : World} (h : Keep w w1 p l z W) (k : Below W.heap.size W W') : Keep w w1 p l z W' :=
  ⟨h.z.on k, h.l.below k, h.below.trans (k.mono h.below.size)⟩

set_option maxRecDepth 10000 in
set_option maxHeartbeats 4000000 in
theorem walk (p0 : Option Addr) (c0 : Nat) (l0 : List (Int × Int)) (w : World) (hlc0 : l0.length ≤ c0) (hcm0 : c0 ≤ maxLen) (hp0 : p0 = none → c0 = 0) (hin0 : LIn w p0 2 (shTwo (shInt .i64) (shInt .i64)) l0) :
    Calls Tryd.prog 5 #[.slice p0 l0.length c0] w fun e w' => e = .returned (.bool true) ∧ Below w.heap.size w w' := by
  unfold maxLen at hcm0
  have AW := awake5_any
  by_cases t : 20 < (l0.length : Int)
  · go_enter Tryd.func5, Tryd.ntmps5
    go_wp2_with fail
    refine (AW _).mono ?_
    rintro e w3 ⟨rfl, hb3⟩
    go_wp2
    go_ret
    exact ⟨rfl, hb3⟩
  have C := common_any p0 c0 l0 w hin0 (by omega)
  have J := Hid.mk' (just_stp (just_com l0))
  have hh := helly l0
  rw [com_best] at C
  have hbz := com_best l0
  have HH : Hid ((∀ i, i < l0.length → ∀ k, k ≤ i → (com [l0.getD i (0, 0), l0.getD k (0, 0)]).2 ≠ 0) ↔ 0 < (com l0).2) := by
    rw [← hh]
    by_cases q : 0 < (com l0).2
    · rw [decide_eq_true q, bne_iff_ne] at hbz
      exact ⟨fun _ => q, fun _ => hbz⟩
    · rw [decide_eq_false q] at hbz
      have : com l0 = (0, 0) := by simpa using hbz
      exact ⟨fun a => absurd this a, fun a => absurd a q⟩
  have HW : Hid (∀ i, i < l0.length → wfS (l0.getD i (0, 0))) := fun i hi => SIn.wf hin0 i hi
  have HP : Hid (SIn w p0 l0) := hin0
  clear hh hbz hin0
  generalize com l0 = z at C J HH
  go_enter Tryd.func5, Tryd.ntmps5
  go_wp2_with fail
  refine C.mono ?_
  rintro e w1 ⟨rfl, hb1⟩
  have HK : Hid (Keep w w1 p0 l0 z (w1.alloc (.cells #[.int .i64 z.1, .int .i64 z.2] 23))) :=
    ⟨Has.new w1 z _ rfl, SIn.below (SIn.below HP.out hb1) ((Below.refl _ _).alloc (Nat.le_refl _) _), hb1.alloc hb1.size _⟩
  clear hb1 HP
  go_wp2
  go_loopw [5, 6, 7] (fun x y i W => ∃ k : Nat, k ≤ 3 ∧ x = .int .i64 (stp (inS l0) k).1 ∧ y = .int .i64 (stp (inS l0) k).2 ∧ i = .int .i64 (3 - (k : Int)) ∧
    Hid (Keep w w1 p0 l0 z W)) (fun _ _ i _ => (intOf i).toNat)
  case atStart => exact ⟨0, by omega, rfl, rfl, rfl, HK⟩
  case round =>
    clear HK
    obtain ⟨k, hk, rfl, rfl, rfl, HK⟩ := hrel
    by_cases q : k < 3
    · have I := in_any p0 c0 l0 (3 - (k : Int)) wr HK.out.l (by omega)
      have hn : stp (inS l0) (k + 1) = if inS l0 (3 - (k : Int)) then (if (stp (inS l0) k).1 = 0 then 3 - (k : Int) else (stp (inS l0) k).1, 3 - (k : Int)) else stp (inS l0) k := rfl
      obtain ⟨bx, hbx⟩ : ∃ bx, stp (inS l0) k = bx := ⟨_, rfl⟩
      obtain ⟨t, ht⟩ : ∃ t, inS l0 (3 - (k : Int)) = t := ⟨_, rfl⟩
      rw [hbx]
      rw [hbx, ht] at hn
      rw [ht] at I
      have HN := Hid.mk' hn
      have hg1 : 1 ≤ 3 - (k : Int) := by omega
      clear hn hbx ht
      have hx : t = false ∨ (t = true ∧ bx.1 = 0) ∨ (t = true ∧ bx.1 ≠ 0) := by cases t <;> simp; omega
      rcases hx with rfl | ⟨rfl, hx⟩ | ⟨rfl, hx⟩
      all_goals
        go_wp2_with fail
        refine I.mono ?_
        rintro e w2 ⟨rfl, hb2⟩
        have HK2 := Hid.mk' (HK.out.on hb2)
        try have HX := Hid.mk' hx
        clear hb2 I HK
        go_wp2
        go_roundw
        case rel => exact ⟨k + 1, by omega, by rw [HN.out]; first | rfl | simp [HX.out], by rw [HN.out]; first | rfl | simp, by go_num, HK2⟩
        case measure => simp [intOf]; omega
    · obtain rfl : k = 3 := by omega
      rw [J.out, show (3 : Int) - ((3 : Nat) : Int) = 0 from rfl]
      obtain ⟨e0, e1, hz2⟩ := HK.out.z.cells
      clear J
      clear e0 e1 hz2
      obtain ⟨e0, e1, hz2⟩ := HK.out.z.cells
      go_wp2
      go_loopw [8, 9] (fun x i W => ∃ n : Nat, n ≤ l0.length ∧ i = .int .i64 n ∧ ∃ b : Bool, x = .bool b ∧
        Hid (b = true ↔ ∀ i, i < n → ∀ k, k ≤ i → (com [l0.getD i (0, 0), l0.getD k (0, 0)]).2 ≠ 0) ∧ Hid (Keep w w1 p0 l0 z W)) (fun _ i _ => l0.length - (intOf i).toNat)
      case atStart => exact ⟨0, by omega, rfl, true, rfl, ⟨fun _ i hi => absurd hi (by omega), fun _ => rfl⟩, HK⟩
      case round =>
        clear HK e0 e1 hz2
        obtain ⟨n, hn, rfl, b, rfl, HB, HK⟩ := hrel
        by_cases hnl : n < l0.length
        · have hnl' : (n : Int) < (l0.length : Int) := by omega
          go_wp2
          go_loopw [8, 10] (fun x i W => ∃ m : Nat, m ≤ n + 1 ∧ i = .int .i64 m ∧ ∃ b : Bool, x = .bool b ∧
            Hid (b = true ↔ (∀ i, i < n → ∀ k, k ≤ i → (com [l0.getD i (0, 0), l0.getD k (0, 0)]).2 ≠ 0) ∧ ∀ k, k < m → (com [l0.getD n (0, 0), l0.getD k (0, 0)]).2 ≠ 0) ∧ Hid (Keep w w1 p0 l0 z W)) (fun _ i _ => n + 1 - (intOf i).toNat)
          case atStart => exact ⟨0, by omega, rfl, b, rfl, ⟨fun q => ⟨HB.out.1 q, fun k hk => absurd hk (by omega)⟩, fun q => HB.out.2 q.1⟩, HK⟩
          case round =>
            clear HB HK
            obtain ⟨m, hm, rfl, b, rfl, HB, HK⟩ := hrel
            by_cases hmn : m ≤ n
            · have hmn' : (m : Int) ≤ (n : Int) := by omega
              have hml : m < l0.length := by omega
              obtain ⟨bb, oo, rfl, hc⟩ := SIn.at HK.out.l (by omega)
              obtain ⟨x0, x1⟩ := hc n hnl
              obtain ⟨y0, y1⟩ := hc m hml
              have hwn := HW.out n hnl
              have hwm := HW.out m hml
              obtain ⟨xx, hx⟩ : ∃ x, l0.getD n (0, 0) = x := ⟨_, rfl⟩
              rw [hx] at x0 x1 hwn
              obtain ⟨yy, hy⟩ : ∃ x, l0.getD m (0, 0) = x := ⟨_, rfl⟩
              rw [hy] at y0 y1 hwm
              have BB := fun w => best_any xx yy w hwn hwm
              have HX := Hid.mk' hx
              have HY := Hid.mk' hy
              have HWn := Hid.mk' hwn
              clear hc hx hy hwn hwm
              go_wp2_with fail
              have hS0 : wr.drew.cell? ⟨bb, oo + n * 2, none⟩ = some (.int .i64 xx.1) ∧ wr.drew.cell? ⟨bb, oo + n * 2 + 1, none⟩ = some (.int .i64 xx.2) ∧ wr.drew.cell? ⟨bb, oo + m * 2, none⟩ = some (.int .i64 yy.1) ∧ wr.drew.cell? ⟨bb, oo + m * 2 + 1, none⟩ = some (.int .i64 yy.2) ∧ Hid (Keep w w1 (some ⟨bb, oo, none⟩) l0 z wr.drew) :=
                ⟨x0, x1, y0, y1, HK.out.on ((Below.refl _ _).drew)⟩
              refine wp_region_held_drew (S := fun w' => w'.cell? ⟨bb, oo + n * 2, none⟩ = some (.int .i64 xx.1) ∧ w'.cell? ⟨bb, oo + n * 2 + 1, none⟩ = some (.int .i64 xx.2) ∧ w'.cell? ⟨bb, oo + m * 2, none⟩ = some (.int .i64 yy.1) ∧ w'.cell? ⟨bb, oo + m * 2 + 1, none⟩ = some (.int .i64 yy.2) ∧ Hid (Keep w w1 (some ⟨bb, oo, none⟩) l0 z w')) (by kernel_rfl) hS0 (fun hS => ?_)
              have hbb := lt_of_cell x0
              clear hS0 HK x0 x1 y0 y1
              generalize wr.drew = wd at hS ⊢
              refine wpAnyH_take (i := 0) (v := ?v0_1) rfl (by kernel_rfl) (by kernel_rfl) (by kernel_rfl) (fun _ _ _ h => h) (Or.inl ⟨by rfl, ?hy0_1⟩) (by assumption) ?rest0_1
              case hy0_1 => (intro w hSw; (try dsimp only at hSw); go_simp; try (with_reducible rfl))
              simp only [Act.put, List.getElem_toArray, List.getElem_cons_zero, List.getElem_cons_succ, List.setIfInBounds_toArray, List.set_cons_zero, List.set_cons_succ]
              refine wpAnyH_take (i := 1) (v := ?v1_2) rfl (by kernel_rfl) (by kernel_rfl) (by kernel_rfl) (fun _ _ _ h => h) (Or.inl ⟨by rfl, ?hy1_2⟩) (by assumption) ?rest1_2
              case hy1_2 => (intro w hSw; (try dsimp only at hSw); go_simp; try (with_reducible rfl))
              simp only [Act.put, List.getElem_toArray, List.getElem_cons_zero, List.getElem_cons_succ, List.setIfInBounds_toArray, List.set_cons_zero, List.set_cons_succ]
              refine wpAnyH_take (i := 2) (v := ?v2_3) rfl (by kernel_rfl) (by kernel_rfl) (by kernel_rfl) (fun _ _ _ h => h) (Or.inl ⟨by rfl, ?hy2_3⟩) (by assumption) ?rest2_3
              case hy2_3 => (intro w hSw; (try dsimp only at hSw); go_simp; try (with_reducible rfl))
              simp only [Act.put, List.getElem_toArray, List.getElem_cons_zero, List.getElem_cons_succ, List.setIfInBounds_toArray, List.set_cons_zero, List.set_cons_succ]
              refine wpAnyH_take (i := 3) (v := ?v3_4) rfl (by kernel_rfl) (by kernel_rfl) (by kernel_rfl) (fun _ _ _ h => h) (Or.inl ⟨by rfl, ?hy3_4⟩) (by assumption) ?rest3_4
              case hy3_4 => (intro w hSw; (try dsimp only at hSw); go_simp; try (with_reducible rfl))
              simp only [Act.put, List.getElem_toArray, List.getElem_cons_zero, List.getElem_cons_succ, List.setIfInBounds_toArray, List.set_cons_zero, List.set_cons_succ]
              refine wpAnyH_take (i := 4) (v := ?v4_5) rfl (by kernel_rfl) (by kernel_rfl) (by kernel_rfl) (fun _ _ _ h => h) (Or.inl ⟨by rfl, ?hy4_5⟩) (by assumption) ?rest4_5
              case hy4_5 => (intro w hSw; (try dsimp only at hSw); go_simp; try (with_reducible rfl))
              simp only [Act.put, List.getElem_toArray, List.getElem_cons_zero, List.getElem_cons_succ, List.setIfInBounds_toArray, List.set_cons_zero, List.set_cons_succ]
              refine wpAnyH_take (i := 5) (v := ?v5_6) rfl (by kernel_rfl) (by kernel_rfl) (by kernel_rfl) (fun _ _ _ h => h) (Or.inl ⟨by rfl, ?hy5_6⟩) (by assumption) ?rest5_6
              case hy5_6 => (intro w hSw; (try dsimp only at hSw); go_simp; try (with_reducible rfl))
              simp only [Act.put, List.getElem_toArray, List.getElem_cons_zero, List.getElem_cons_succ, List.setIfInBounds_toArray, List.set_cons_zero, List.set_cons_succ]
              refine wpAnyH_take (i := 6) (v := ?v6_7) rfl (by kernel_rfl) (by kernel_rfl) (by kernel_rfl) (fun _ _ _ h => h) (Or.inl ⟨by rfl, ?hy6_7⟩) (by assumption) ?rest6_7
              case hy6_7 => (intro w hSw; (try dsimp only at hSw); go_simp; try (with_reducible rfl))
              simp only [Act.put, List.getElem_toArray, List.getElem_cons_zero, List.getElem_cons_succ, List.setIfInBounds_toArray, List.set_cons_zero, List.set_cons_succ]
              refine wpAnyH_take (i := 7) (v := ?v7_8) rfl (by kernel_rfl) (by kernel_rfl) (by kernel_rfl) (fun _ _ _ h => h) (Or.inl ⟨by rfl, ?hy7_8⟩) (by assumption) ?rest7_8
              case hy7_8 => (intro w hSw; (try dsimp only at hSw); go_simp; try (with_reducible rfl))
              simp only [Act.put, List.getElem_toArray, List.getElem_cons_zero, List.getElem_cons_succ, List.setIfInBounds_toArray, List.set_cons_zero, List.set_cons_succ]
              refine wpAnyH_ready (rs := [8]) (by kernel_rfl) (by simp) ?_
              refine (AllReadyH.cons rfl (fun K hK => ?_) AllReadyH.nil)
              go_simp
              refine (BB _).mono ?_
              rintro e w2 ⟨rfl, hb2⟩
              go_wp2_with fail
              refine hK.out _ _ ?_ (fun hS' => ?_)
              · exact ⟨cellOn hb2 hS.1, cellOn hb2 hS.2.1, cellOn hb2 hS.2.2.1, cellOn hb2 hS.2.2.2.1, hS.2.2.2.2.out.on hb2⟩
              clear hK K
              try simp only [Act.put, List.getElem_toArray, List.getElem_cons_zero, List.getElem_cons_succ, List.setIfInBounds_toArray, List.set_cons_zero, List.set_cons_succ]
              replace hS := hS'
              clear hS'
              refine wpAnyH_take (i := 9) (v := ?v9_9) rfl (by kernel_rfl) (by kernel_rfl) (by kernel_rfl) (fun _ _ _ h => h) (Or.inl ⟨by rfl, ?hy9_9⟩) (by assumption) ?rest9_9
              case hy9_9 => (intro w hSw; (try dsimp only at hSw); go_simp; try (with_reducible rfl))
              simp only [Act.put, List.getElem_toArray, List.getElem_cons_zero, List.getElem_cons_succ, List.setIfInBounds_toArray, List.set_cons_zero, List.set_cons_succ]
              refine wpAnyH_done (by kernel_rfl) ?_ _
              have HK := hS.2.2.2.2
              have hB := HB.out
              clear hS HB
              obtain ⟨u, hu⟩ : ∃ u, (com [xx, yy]).2 = u := ⟨_, rfl⟩
              have HU := Hid.mk' hu
              rw [hu]
              clear hu hb2
              by_cases hu0 : u = 0
              · subst hu0
                have HZ : Hid (∀ b', (b' : Bool) = false → (b' = true ↔ (∀ i, i < n → ∀ k, k ≤ i → (com [l0.getD i (0, 0), l0.getD k (0, 0)]).2 ≠ 0) ∧ ∀ k, k < m + 1 → (com [l0.getD n (0, 0), l0.getD k (0, 0)]).2 ≠ 0)) := fun b' hb' => by
                  subst hb'
                  refine ⟨fun q => by simp at q, fun q => absurd ?_ (q.2 m (by omega))⟩
                  rw [HX.out, HY.out]
                  exact HU.out
                clear hB
                go_wp2
                go_roundw
                case rel => exact ⟨m + 1, by omega, by go_num, false, rfl, HZ.out false rfl, HK⟩
                case measure => simp [intOf]; omega
              · have HZ : Hid (b = true ↔ (∀ i, i < n → ∀ k, k ≤ i → (com [l0.getD i (0, 0), l0.getD k (0, 0)]).2 ≠ 0) ∧ ∀ k, k < m + 1 → (com [l0.getD n (0, 0), l0.getD k (0, 0)]).2 ≠ 0) := by
                  show _ ↔ _
                  rw [hB]
                  constructor
                  · rintro ⟨q1, q2⟩
                    refine ⟨q1, fun k hk => ?_⟩
                    rcases Nat.lt_or_ge k m with r | r
                    · exact q2 k r
                    · obtain rfl : k = m := by omega
                      rw [HX.out, HY.out, HU.out]
                      exact hu0
                  · rintro ⟨q1, q2⟩
                    exact ⟨q1, fun k hk => q2 k (by omega)⟩
                clear hB
                go_wp2
                go_roundw
                case rel => exact ⟨m + 1, by omega, by go_num, b, rfl, HZ, HK⟩
                case measure => simp [intOf]; omega
            · obtain rfl : m = n + 1 := by omega
              have HZ : Hid (b = true ↔ ∀ i, i < n + 1 → ∀ k, k ≤ i → (com [l0.getD i (0, 0), l0.getD k (0, 0)]).2 ≠ 0) := by
                show _ ↔ _
                rw [HB.out]
                constructor
                · rintro ⟨q1, q2⟩ i hi k hk
                  rcases Nat.lt_or_ge i n with r | r
                  · exact q1 i r k hk
                  · obtain rfl : i = n := by omega
                    exact q2 k (by omega)
                · intro q
                  exact ⟨fun i hi k hk => q i (by omega) k hk, fun k hk => q n (by omega) k (by omega)⟩
              clear HB
              go_wp2
              go_roundw
              case rel => exact ⟨n + 1, by omega, by go_num, b, rfl, HZ, HK⟩
              case measure => simp [intOf]; omega
        · obtain rfl : n = l0.length := by omega
          have hbb : b = decide (0 < z.2) := by
            have := HB.out.trans HH.out
            cases b
            · simp at this; simp; omega
            · simp at this; simp; omega
          subst hbb
          have HB2 := Hid.mk' HK.out.below
          clear HB HH HK
          go_wp2_with fail
          refine (AW _).mono ?_
          rintro e w3 ⟨rfl, hb3⟩
          have HB3 := Hid.mk' (HB2.out.trans (hb3.mono HB2.out.size))
          clear hb3
          go_wp2
          go_ret
          exact ⟨rfl, HB3.out⟩

theorem own : ownKnob Tryd.prog.godebug = none := by kernel_rfl
theorem laidOut : laidOutB Tryd.prog = true := by kernel_rfl

theorem door_met (os : Os) (args : Array Value) : laidMetH Tryd.prog Rows.spanCommonsRow.laid ((World.doorLaid Tryd.prog 400 os).forCall (fun _ _ => 0) ⟨#[], args, []⟩).memory :=
  laidMetH_of_parts3 (fuel := 8) (laidMet_of_run' 8 (by kernel_rfl) (by kernel_rfl)) (by kernel_rfl) (by kernel_rfl)

set_option maxRecDepth 100000 in
theorem lifted (os : Os) (started : os.Started) (H : Type) (enc : TypeId × Value → H) :
    ReturnsInHanded {} Tryd.checked os 5 .any (fun w args => (Rows.spanCommonsSpec.pre enc Tryd.prog Tryd.f5 [] false w args ∧ laidMetH Tryd.prog Rows.spanCommonsRow.laid w) ∧ sizedMet enc Tryd.prog Tryd.f5 (OpenSpec.ofChange Rows.spanCommonsSpec) false w args)
      (Rows.spanCommonsSpec.post enc Tryd.prog Tryd.f5 false true false false) := by
  refine returnsInHanded_of_change_and (C := Tryd.checked) (X := (fun w _ => laidMetH Tryd.prog Rows.spanCommonsRow.laid w)) (fun _ _ _ hh h => h.of_heap hh) own started (by kernel_rfl) Tryd.func5
    (ChangeSpec.witness_shaped (enc := enc) (C := Tryd.checked) (os := os) (X := (fun w _ => laidMetH Tryd.prog Rows.spanCommonsRow.laid w)) false (World.doorLaid Tryd.prog 400 os) #[.slice none 0 0] 8 rfl (World.shaped_of_RefB (by kernel_rfl) (by kernel_rfl)) (by kernel_rfl) (by kernel_rfl) (by kernel_rfl) (door_met os _)) ?_
  intro W base args ds gs before hval0 hW _ _ hL _
  have hval : ∀ (j : Nat) t v, Tryd.f5.params[j]? = some t → args[j]? = some v → Value.okWide Tryd.prog W .any base t v := hval0
  have hW' := hW
  obtain ⟨p, q, hA0, hV, rfl, hfz, hnd⟩ := hW
  have hA : DataW.TrodAll enc Tryd.prog W 0 (fun _ => true) true Tryd.f5.params.toList args.toList ds p := hA0
  rw [Tryd.params5] at hA hval
  obtain ⟨v0, vs0, d0, ds0, p0x, q0, hargs, rfl, rfl, h0, r0⟩ := trodAll_cons hA
  obtain ⟨rfl, rfl, rfl⟩ := trodAll_nil r0
  obtain rfl : args = #[v0] := by cases args; simp_all
  obtain ⟨rfl, rfl⟩ := trodVars_none hV
  obtain ⟨p0, len0, c0, rfl⟩ := okWide_slice Tryd.underlying24 (hval 0 24 v0 rfl rfl)
  have k0 := h0
  have lt0 : ∀ x ∈ p0x, x.block < W.heap.size := by obtain ⟨m, hm⟩ := k0; exact DataW.trod_lt m _ _ _ hm
  obtain ⟨l0, rfl, hlc0, hcm0, hp0, hin0⟩ : ∃ l : List (Int × Int), l.length = len0 ∧ len0 ≤ c0 ∧ c0 ≤ maxLen ∧ (p0 = none → c0 = 0) ∧ LIn W p0 2 (shTwo (shInt .i64) (shInt .i64)) l := by
    obtain ⟨fuel, hf⟩ := h0
    obtain ⟨l, p, c, hcs, hl1, hl2, hl3, hl4⟩ := opens_slice (size := 2) Tryd.underlying24 (by kernel_rfl) (by decide) (opens_struct2 Tryd.underlying23 rfl (by kernel_rfl) (by kernel_rfl) (opens_int Tryd.underlying3) (opens_int Tryd.underlying3)) _ _ _ hf
    simp [Value.cells] at hcs
    obtain ⟨rfl, rfl, rfl⟩ := hcs
    exact ⟨l, rfl, hl1, hl2, hl3, hl4⟩
  clear hA0 hval0
  refine (walk p0 c0 l0 W hlc0 hcm0 hp0 hin0).mono fun e W' ⟨he, bel⟩ => ?_
  subst he
  exact ⟨_, rfl, _, _, _, [], _, [], hW', trodAll_mk1 (shut_bool Tryd.underlying4 _), (trodAll_cons_mk (Below.trod laidOut (by kernel_rfl) (of_decide_eq_true (by kernel_rfl)) k0 bel lt0) trodAll_mk0), rfl, bel.frame _, fun h => by cases h⟩

theorem over : Rows.SpanCommonsSaid :=
  OpenClaim.holds_of_wide 5 Tryd.f5 rfl rfl rfl rfl rfl rfl rfl ⟨rfl, rfl, rfl, rfl, rfl⟩ rfl rfl rfl rfl rfl (by kernel_rfl) Tryd.func5 (by kernel_rfl)
    (of_decide_eq_true (by kernel_rfl)) (by unfold Func.isWrapper; first | (rw [if_pos (by decide +kernel)]; kernel_rfl) | (rw [if_neg (by decide +kernel)]; exact ⟨rfl, rfl⟩))
    (fun os started H enc _ => lifted os started H enc)

/-- The given statement: the card, its variables tied to the program's text. -/
theorem proved : Rows.SpanCommonsCardSaid :=
  Claim7.holds_tied_plain_at .later [] [.data, .data, .data] true (true, "fbb78f8bb8d7d92a3312a1a90c5935cc73ec5038548ae4b8e08bd3e99f75b5f3") false over (fun _ h => by cases h) (by kernel_rfl) (fun _ h => by cases h) spanCommons_row_tie rfl ⟨rfl, rfl⟩ (by kernel_rfl) rfl
    (fun f fn hf hfn => by
      obtain rfl : f = 5 := Option.some.inj ((show Tryd.prog.funcNamed "polyglot/polyglotlaw05.SpanCommons" = some 5 by kernel_rfl).symm.trans hf) |>.symm
      obtain rfl : fn = Tryd.f5 := (Option.some.inj (Tryd.func5.symm.trans hfn)).symm
      exact ⟨by kernel_rfl, fun j t ht => by
        rw [Tryd.params5] at ht
        have hm : t ∈ [24] := by simpa using Array.mem_of_getElem? ht
        have hall : ([24].all fun u => !Tryd.prog.wantsStandIn u) = true := by kernel_rfl
        exact (show Tryd.prog.wantsStandIn t = false by simpa using List.all_eq_true.1 hall t hm)⟩)
    (by kernel_rfl)
#print axioms proved
end Go.Proofs.YtgjnbcbbkabljaaDoor.spanCommons
