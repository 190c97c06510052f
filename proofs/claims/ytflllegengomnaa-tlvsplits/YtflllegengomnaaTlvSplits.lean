/-
  Proved: the statement on layer 12's 'which items any bytes are, or that they are cut off' (TlvSplits) returns true at every input, and leaves its arguments as they were. No condition.
-/
import Derived.Test.YtflllegengomnaaRows
import Derived.Test.YtflllegengomnaaLaw12A
import Derived.Test.YtflllegengomnaaLaw12L
import Derived.ShutString
import Derived.ChangeOld
import Derived.Deep.RegionHeld3
import Derived.RegionCalls
namespace Go.Proofs.Ytflllegengomnaa.tlvSplits
open Go.ChangeShapes Go.WideShapes Go.ChangeAt Go.RowKit
open Go.ChangeMaps (open_string shut_string)
set_option linter.unusedVariables false
set_option linter.unusedSimpArgs false
set_option maxRecDepth 10000

/-- What Split comes to, in one form. -/
theorem split_one {w : World} {l : List Int} {e : Ending} {w' : World} (h : SplitP w l e w') : ∃ p c L er, e = .returned (.tuple #[.slice p L.length c, .int .i64 er]) ∧ OwnT w.heap.size w' (.slice p L.length c) L ∧ Below w.heap.size w w' ∧ ((splitB l = none ∧ er = 2 ∧ L = []) ∨ (splitB l = some (kys L) ∧ er = 0)) := by
  obtain ⟨h1, h2⟩ := h
  rcases h1 with ⟨h3, rfl⟩ | ⟨p, c, L, h3, rfl, h4⟩
  · exact ⟨none, 0, [], 2, rfl, ⟨OwnF.nil _ _, by simp⟩, h2, .inl ⟨h3, rfl, rfl⟩⟩
  · exact ⟨p, c, L, 0, rfl, h4, h2, .inr ⟨h3, rfl⟩⟩

/-- What is cut out of bytes, as a field's. -/
theorem fok_cut {X : World} {b o c0 a N : Nat} {l0 : List Int} {pk : Option Addr} {x0 : Int} (hX : BIn X (some ⟨b, o, none⟩) l0) (hb : isB l0) (hl : a + 3 + N ≤ l0.length) (hc : l0.length ≤ c0) (hc2 : c0 ≤ 2 ^ 63 - 1) (hl4 : l0.length ≤ 400) (r0 : 0 ≤ x0) (r1 : x0 ≤ 255)
    (hif : (if c0 = a + 3 then some (⟨b, o, none⟩ : Addr) else some ⟨b, o + (a + 3), none⟩) = pk) : FOk X ⟨x0, pk, c0 - (a + 3), (l0.drop (a + 3)).take N⟩ := by
  have hd : ((l0.drop (a + 3)).take N).length = N := by simp; omega
  refine ⟨small_wf (z := x0) r0 (by omega), ?_, ?_, ?_, ?_, (hb.drop _).take _, ?_⟩
  · show ((l0.drop (a + 3)).take N).length ≤ c0 - (a + 3)
    rw [hd]; omega
  · show c0 - (a + 3) ≤ maxLen
    simp only [maxLen]; omega
  · intro q
    have q' : pk = none := q
    rw [← hif] at q'
    split at q' <;> cases q'
  · show BIn X pk ((l0.drop (a + 3)).take N)
    by_cases q : c0 = a + 3
    · rw [show (l0.drop (a + 3)).take N = [] from List.eq_nil_of_length_eq_zero (by rw [hd]; omega)]
      exact BIn.empty _ _
    · rw [← hif, if_neg q]
      exact (hX.drop (a + 3)).take N
  · show ((l0.drop (a + 3)).take N).length ≤ _
    rw [hd]; omega

set_option maxHeartbeats 8000000 in
theorem walk (p0 : Option Addr) (c0 : Nat) (l0 : List Int) (w : World) (hlc0 : l0.length ≤ c0) (hcm0 : c0 ≤ maxLen) (hp0 : p0 = none → c0 = 0) (hin0 : LIn w p0 1 (shInt .u8) l0) :
    Calls Try.prog 4 #[.slice p0 l0.length c0] w fun e w' => e = .returned (.bool true) ∧ Below w.heap.size w w' := by
  unfold maxLen at hcm0
  have hB0 := hin0.bytes
  have hb0 := hin0.isB
  clear hin0
  have AW := fun X => awake12_any X
  by_cases t1 : 400 < (l0.length : Int)
  · go_enter Try.func4, Try.ntmps4
    go_wp2_with (go_at_call 8; refine (AW _).mono ?_; rintro e w' ⟨rfl, hb⟩)
    go_ret
    exact ⟨rfl, hb⟩
  have SP := tsplit_any p0 c0 l0 w hB0 hb0 (by omega)
  have HP := Hid.mk' hB0
  have HIB := Hid.mk' hb0
  have HC := Hid.mk' (And.intro hlc0 (And.intro hcm0 hp0))
  have HL := Hid.mk' (show l0.length ≤ 400 by omega)
  clear hB0 hb0 hlc0 hcm0 hp0
  go_enter Try.func4, Try.ntmps4
  go_wp2_with fail
  refine SP.mono ?_
  clear SP
  intro e w1 hsp
  obtain ⟨pg, cg, Lg, er, rfl, hown, hb1, hres⟩ := split_one hsp
  have HB1 := Hid.mk' hb1
  have HO := Hid.mk' hown
  have HR := Hid.mk' hres
  clear hsp hown hb1 hres t1
  go_wp2_with fail
  go_loopw [5, 6] (fun v i W => ∃ (a : Nat) (L : List Fd), a ≤ l0.length ∧ i = .int .i64 a ∧ Hid (OwnF w1.heap.size W v L) ∧ Hid (splitB l0 = (splitB (l0.drop a)).map (kys L ++ ·)) ∧ Hid (Below w.heap.size w W) ∧ Hid (Below w1.heap.size w1 W) ∧ Hid (L.length ≤ a)) (fun _ i _ => l0.length - (intOf i).toNat)
  case atStart => exact ⟨0, [], by omega, rfl, OwnF.nil _ _, by simp [Hid, kys], HB1, Below.refl _ _, by simp [Hid]⟩
  case round =>
    obtain ⟨a, L, ha, rfl, HW, HT, HB, HBw, HLa⟩ := hrel
    by_cases t : a < l0.length
    · obtain ⟨b, o, rfl, hcs⟩ := HP.out (by omega)
      have hlt : b < w.heap.size := lt_of_cell (hcs 0 (by omega))
      have HLT := Hid.mk' hlt
      have HCS := Hid.mk' (show ∀ X, Below w.heap.size w X → ∀ i, i < l0.length → X.cell? ⟨b, o + i, none⟩ = some (.int .u8 (l0.getD i 0)) from fun X h i hi => by rw [h.cell (p := ⟨b, o + i, none⟩) hlt]; exact hcs i hi)
      clear hcs hlt
      by_cases s1 : l0.length < a + 3
      · have s1' : (l0.length : Int) - a < 3 := by omega
        have hno : splitB l0 = none := by rw [HT.out, splitB_short (by simp; omega) (.inr (by simp; omega))]; rfl
        have hr2 : er = 2 ∧ Lg = [] := by
          rcases HR.out with ⟨_, h1, h2⟩ | ⟨h, _⟩
          · exact ⟨h1, h2⟩
          · rw [hno] at h; cases h
        obtain ⟨rfl, rfl⟩ := hr2
        clear hno HT HO HBw HLa HW HR HCS
        go_wp2_with fail
        go_quiet (fail)
        go_wp2_with fail
        refine (AW _).mono ?_
        rintro e w2 ⟨rfl, hb2⟩
        have HB2 := Hid.mk' ((bel_drewN HB.out nq).trans (hb2.mono HB.out.size))
        clear hb2
        go_wp2_with fail
        try rw [Exit.noGoto_ret]
        go_ret
        exact ⟨rfl, HB2.out⟩
      have s1' : ¬ (l0.length : Int) - a < 3 := by omega
      have hl400 := HL.out
      have hc0 := HCS.out wr HB.out a (by omega)
      have hc1 := HCS.out wr HB.out (a + 1) (by omega)
      have hc2 := HCS.out wr HB.out (a + 2) (by omega)
      have r0 := HIB.out.getD a
      have r1 := HIB.out.getD (a + 1)
      have r2 := HIB.out.getD (a + 2)
      have HIT := Hid.mk' (show itLen (l0.drop a) = (l0.getD (a + 1) 0 * 256 + l0.getD (a + 2) 0).toNat by rw [itLen]; congr 2 <;> simp [List.getD])
      have HG0 := Hid.mk' (show (l0.drop a).getD 0 0 = l0.getD a 0 by simp [List.getD])
      have HC3 := Hid.mk' (show ∀ X, Below w.heap.size w X → X.cell? ⟨b, o + a, none⟩ = some (.int .u8 (l0.getD a 0)) ∧ X.cell? ⟨b, o + (a + 1), none⟩ = some (.int .u8 (l0.getD (a + 1) 0)) ∧ X.cell? ⟨b, o + (a + 2), none⟩ = some (.int .u8 (l0.getD (a + 2) 0)) from fun X h => ⟨HCS.out X h a (by omega), HCS.out X h (a + 1) (by omega), HCS.out X h (a + 2) (by omega)⟩)
      clear HCS
      generalize l0.getD a 0 = x0 at hc0 r0 HG0 HC3
      generalize l0.getD (a + 1) 0 = x1 at hc1 r1 HIT HC3
      generalize l0.getD (a + 2) 0 = x2 at hc2 r2 HIT HC3
      have v0 : IntKind.i64.wrap x0 = x0 := by rw [IntKind.wrap_i64]; omega
      have v1 : IntKind.i64.wrap x1 = x1 := by rw [IntKind.wrap_i64]; omega
      have v2 : IntKind.i64.wrap x2 = x2 := by rw [IntKind.wrap_i64]; omega
      have v3 : IntKind.i64.wrap (x1 * 256) = x1 * 256 := by rw [IntKind.wrap_i64]; omega
      obtain ⟨N, hN⟩ : ∃ N : Nat, x1 * 256 + x2 = N := ⟨(x1 * 256 + x2).toNat, by omega⟩
      have hIT : itLen (l0.drop a) = N := by rw [HIT.out, hN]; simp
      have v4 : IntKind.i64.wrap (x1 * 256 + x2) = N := by rw [IntKind.wrap_i64]; omega
      have ia1 : (a : Int) + 1 < l0.length := by omega
      have ia2 : (a : Int) + 2 < l0.length := by omega
      have ia1n : a + 1 < l0.length := by omega
      have ia2n : a + 2 < l0.length := by omega
      have m1 : IntKind.i64.wrap ((a : Int) + 1) = (a : Int) + 1 := by rw [IntKind.wrap_i64]; omega
      have m2 : IntKind.i64.wrap ((a : Int) + 2) = (a : Int) + 2 := by rw [IntKind.wrap_i64]; omega
      have m3 : IntKind.i64.wrap ((l0.length : Int) - a) = (l0.length : Int) - a := by rw [IntKind.wrap_i64]; omega
      have m4 : IntKind.i64.wrap ((l0.length : Int) - a - 3) = (l0.length : Int) - a - 3 := by rw [IntKind.wrap_i64]; omega
      have d1 : decide ((l0.length : Int) - a < 3) = false := decide_eq_false s1'
      have HIT2 := Hid.mk' hIT
      clear hIT HIT
      by_cases s2 : l0.length < a + 3 + N
      · have s2' : (l0.length : Int) - a - 3 < N := by omega
        have hno : splitB l0 = none := by rw [HT.out, splitB_short (by simp; omega) (.inl (by rw [HIT2.out]; simp; omega))]; rfl
        have hr2 : er = 2 ∧ Lg = [] := by
          rcases HR.out with ⟨_, h1, h2⟩ | ⟨h, _⟩
          · exact ⟨h1, h2⟩
          · rw [hno] at h; cases h
        obtain ⟨rfl, rfl⟩ := hr2
        have d2 : decide ((l0.length : Int) - a - 3 < N) = true := decide_eq_true s2'
        clear hno HT HO HBw HLa HW HR HC3 HIT2 HG0 hN
        go_wp2_with fail
        go_quiet (fail)
        go_wp2_with fail
        refine (AW _).mono ?_
        rintro e w2 ⟨rfl, hb2⟩
        have HB2 := Hid.mk' ((bel_drewN HB.out nq).trans (hb2.mono HB.out.size))
        clear hb2
        go_wp2_with fail
        try rw [Exit.noGoto_ret]
        go_ret
        exact ⟨rfl, HB2.out⟩
      · have s2' : ¬ (l0.length : Int) - a - 3 < N := by omega
        have d2 : decide ((l0.length : Int) - a - 3 < N) = false := decide_eq_false s2'
        go_wp2_with fail
        go_quiet (fail)
        obtain ⟨W1, hW1⟩ : ∃ W1, wr.drewN nq = W1 := ⟨_, rfl⟩
        rw [hW1]
        have HBq := Hid.mk' (show Below w.heap.size w W1 by rw [← hW1]; exact bel_drewN HB.out _)
        have HWq := Hid.mk' (show OwnF w1.heap.size W1 u5 L by rw [← hW1]; exact HW.out.on (bel_drewN (Below.refl _ _) _))
        have HDq := Hid.mk' (show Below w1.heap.size w1 W1 by rw [← hW1]; exact bel_drewN HBw.out _)
        clear hc0 hc1 hc2 hW1 HB HW HBw
        obtain ⟨hc0, hc1, hc2⟩ := HC3.out W1 HBq.out
        go_wp2_with fail
        go_quiet (fail)
        obtain ⟨W2, hW2⟩ : ∃ W2, W1.drewN nq = W2 := ⟨_, rfl⟩
        rw [hW2]
        have HBq2 := Hid.mk' (show Below w.heap.size w W2 by rw [← hW2]; exact bel_drewN HBq.out _)
        have HWq2 := Hid.mk' (show OwnF w1.heap.size W2 u5 L by rw [← hW2]; exact HWq.out.on (bel_drewN (Below.refl _ _) _))
        have HDq2 := Hid.mk' (show Below w1.heap.size w1 W2 by rw [← hW2]; exact bel_drewN HDq.out _)
        clear hc0 hc1 hc2 hW2 HBq HWq HDq d1 d2 m1 m2 m3 m4 v1 v2 v3 v4 ia1 ia2 ia1n ia2n r1 r2 hN s1' s2'
        have HNF := Hid.mk' (show splitB l0 = (splitB (l0.drop (a + 3 + N))).map (kys L ++ [(x0, ((l0.drop (a + 3)).take N))] ++ ·) by
          rw [HT.out, splitB_step (b := l0.drop a) (by simp; omega) (by rw [HIT2.out]; simp; omega), HIT2.out, HG0.out, List.drop_drop, List.drop_drop, Option.map_map, show a + (3 + N) = a + 3 + N by omega]
          congr 1
          funext x
          simp)
        clear HT HIT2 HG0
        obtain ⟨hcl, hcm, _⟩ := HC.out
        have hS0 : W2.drew.cell? ⟨b, o + a, none⟩ = some (.int .u8 x0) := (HC3.out W2.drew (HBq2.out.drew)).1
        have g1 : (a : Int) < l0.length := by omega
        have g2 : IntKind.i64.wrap ((a : Int) + 3) = (a : Int) + 3 := by rw [IntKind.wrap_i64]; omega
        have g3 : IntKind.i64.wrap ((a : Int) + 3 + N) = (a : Int) + 3 + N := by rw [IntKind.wrap_i64]; omega
        have g4 : 0 ≤ (a : Int) + 3 := by omega
        have g5 : (a : Int) + 3 ≤ (a : Int) + 3 + N := by omega
        have g6 : (a : Int) + 3 + N ≤ c0 := by omega
        have g7 : ((a : Int) + 3).toNat = a + 3 := by omega
        have g8 : ((a : Int) + 3 + N).toNat = a + 3 + N := by omega
        have g9 : a + 3 + N - (a + 3) = N := by omega
        have g10 : a + 3 ≤ a + 3 + N := by omega
        go_wp2_with fail
        refine wp_region_held_drew (S := fun X => X.cell? ⟨b, o + a, none⟩ = some (.int .u8 x0)) (by kernel_rfl) hS0 (fun hS => ?_)
        clear hS0
        have HBd := Hid.mk' (show Below w.heap.size w W2.drew from HBq2.out.drew)
        have HWd := Hid.mk' (show OwnF w1.heap.size W2.drew u5 L from HWq2.out.on (Below.refl _ _).drew)
        have HDd := Hid.mk' (show Below w1.heap.size w1 W2.drew from HDq2.out.drew)
        generalize W2.drew = wd at hS HBd HWd HDd ⊢
        obtain ⟨pk, hif⟩ : ∃ pk : Option Addr, (if c0 = a + 3 then some (⟨b, o, none⟩ : Addr) else some ⟨b, o + (a + 3), none⟩) = pk := ⟨_, rfl⟩
        have hdl : ((l0.drop (a + 3)).take N).length = N := by simp; omega
        have HPK := Hid.mk' (show ∀ X, Below w.heap.size w X → FOk X ⟨x0, pk, c0 - (a + 3), (l0.drop (a + 3)).take N⟩ from fun X h => fok_cut (HP.out.below h) HIB.out (by omega) hcl hcm hl400 r0.1 (by omega) hif)
        have HOF := Hid.mk' (show 0 < ((l0.drop (a + 3)).take N).length → ∀ x, pk = some x → u5.ownBlock ≠ some x.block from fun _ x hx q => by
          have h1 := HWd.out.own.above _ q
          have h2 := HLT.out
          have h3 := HB1.out.size
          rw [← hif] at hx
          split at hx <;> (cases hx; simp only at h1; omega))
        have HDL := Hid.mk' hdl
        clear hdl
        refine wpAnyH_take (i := 0) (v := ?v0_33) rfl (by kernel_rfl) (by kernel_rfl) (by kernel_rfl) (fun _ _ _ h => h) (Or.inl ⟨by rfl, ?hy0_33⟩) (by assumption) ?rest0_33
        case hy0_33 => (intro w hSw; (try dsimp only at hSw); go_simp; try (with_reducible rfl))
        simp only [Act.put, List.getElem_toArray, List.getElem_cons_zero, List.getElem_cons_succ, List.setIfInBounds_toArray, List.set_cons_zero, List.set_cons_succ]
        refine wpAnyH_take (i := 1) (v := ?v1_34) rfl (by kernel_rfl) (by kernel_rfl) (by kernel_rfl) (fun _ _ _ h => h) (Or.inl ⟨by rfl, ?hy1_34⟩) (by assumption) ?rest1_34
        case hy1_34 => (intro w hSw; (try dsimp only at hSw); go_simp; try (with_reducible rfl))
        simp only [Act.put, List.getElem_toArray, List.getElem_cons_zero, List.getElem_cons_succ, List.setIfInBounds_toArray, List.set_cons_zero, List.set_cons_succ]
        refine wpAnyH_take (i := 2) (v := ?v2_35) rfl (by kernel_rfl) (by kernel_rfl) (by kernel_rfl) (fun _ _ _ h => h) (Or.inl ⟨by rfl, ?hy2_35⟩) (by assumption) ?rest2_35
        case hy2_35 => (intro w hSw; (try dsimp only at hSw); go_simp; try (with_reducible rfl))
        simp only [Act.put, List.getElem_toArray, List.getElem_cons_zero, List.getElem_cons_succ, List.setIfInBounds_toArray, List.set_cons_zero, List.set_cons_succ]
        refine wpAnyH_take (i := 3) (v := ?v3_36) rfl (by kernel_rfl) (by kernel_rfl) (by kernel_rfl) (fun _ _ _ h => h) (Or.inl ⟨by rfl, ?hy3_36⟩) (by assumption) ?rest3_36
        case hy3_36 => (intro w hSw; (try dsimp only at hSw); go_simp; try (with_reducible rfl))
        simp only [Act.put, List.getElem_toArray, List.getElem_cons_zero, List.getElem_cons_succ, List.setIfInBounds_toArray, List.set_cons_zero, List.set_cons_succ]
        refine wpAnyH_take (i := 4) (v := ?v4_37) rfl (by kernel_rfl) (by kernel_rfl) (by kernel_rfl) (fun _ _ _ h => h) (Or.inl ⟨by rfl, ?hy4_37⟩) (by assumption) ?rest4_37
        case hy4_37 => (intro w hSw; (try dsimp only at hSw); go_simp; try (with_reducible rfl))
        simp only [Act.put, List.getElem_toArray, List.getElem_cons_zero, List.getElem_cons_succ, List.setIfInBounds_toArray, List.set_cons_zero, List.set_cons_succ]
        refine wpAnyH_take (i := 5) (v := ?v5_38) rfl (by kernel_rfl) (by kernel_rfl) (by kernel_rfl) (fun _ _ _ h => h) (Or.inl ⟨by rfl, ?hy5_38⟩) (by assumption) ?rest5_38
        case hy5_38 => (intro w hSw; (try dsimp only at hSw); go_simp; try (with_reducible rfl))
        simp only [Act.put, List.getElem_toArray, List.getElem_cons_zero, List.getElem_cons_succ, List.setIfInBounds_toArray, List.set_cons_zero, List.set_cons_succ]
        refine wpAnyH_take (i := 6) (v := ?v6_39) rfl (by kernel_rfl) (by kernel_rfl) (by kernel_rfl) (fun _ _ _ h => h) (Or.inl ⟨by rfl, ?hy6_39⟩) (by assumption) ?rest6_39
        case hy6_39 => (intro w hSw; (try dsimp only at hSw); go_simp; try (with_reducible rfl))
        simp only [Act.put, List.getElem_toArray, List.getElem_cons_zero, List.getElem_cons_succ, List.setIfInBounds_toArray, List.set_cons_zero, List.set_cons_succ]
        refine wpAnyH_take (i := 7) (v := ?v7_40) rfl (by kernel_rfl) (by kernel_rfl) (by kernel_rfl) (fun _ _ _ h => h) (Or.inl ⟨by rfl, ?hy7_40⟩) (by assumption) ?rest7_40
        case hy7_40 => (intro w hSw; (try dsimp only at hSw); go_simp; try (with_reducible rfl))
        simp only [Act.put, List.getElem_toArray, List.getElem_cons_zero, List.getElem_cons_succ, List.setIfInBounds_toArray, List.set_cons_zero, List.set_cons_succ]
        refine wpAnyH_take (i := 8) (v := ?v8_41) rfl (by kernel_rfl) (by kernel_rfl) (by kernel_rfl) (fun _ _ _ h => h) (Or.inl ⟨by rfl, ?hy8_41⟩) (by assumption) ?rest8_41
        case hy8_41 => (intro w hSw; (try dsimp only at hSw); go_simp; try (with_reducible rfl))
        simp only [Act.put, List.getElem_toArray, List.getElem_cons_zero, List.getElem_cons_succ, List.setIfInBounds_toArray, List.set_cons_zero, List.set_cons_succ]
        refine wpAnyH_take (i := 9) (v := ?v9_42) rfl (by kernel_rfl) (by kernel_rfl) (by kernel_rfl) (fun _ _ _ h => h) (Or.inl ⟨by rfl, ?hy9_42⟩) (by assumption) ?rest9_42
        case hy9_42 => (intro w hSw; (try dsimp only at hSw); go_simp; try (with_reducible rfl))
        simp only [Act.put, List.getElem_toArray, List.getElem_cons_zero, List.getElem_cons_succ, List.setIfInBounds_toArray, List.set_cons_zero, List.set_cons_succ]
        refine wpAnyH_take (i := 10) (v := ?v10_43) rfl (by kernel_rfl) (by kernel_rfl) (by kernel_rfl) (fun _ _ _ h => h) (Or.inl ⟨by rfl, ?hy10_43⟩) (by assumption) ?rest10_43
        case hy10_43 => (intro w hSw; (try dsimp only at hSw); go_simp; try (with_reducible rfl))
        simp only [Act.put, List.getElem_toArray, List.getElem_cons_zero, List.getElem_cons_succ, List.setIfInBounds_toArray, List.set_cons_zero, List.set_cons_succ]
        refine wpAnyH_take (i := 11) (v := ?v11_44) rfl (by kernel_rfl) (by kernel_rfl) (by kernel_rfl) (fun _ _ _ h => h) (Or.inl ⟨by rfl, ?hy11_44⟩) (by assumption) ?rest11_44
        case hy11_44 => (intro w hSw; (try dsimp only at hSw); go_simp; try (with_reducible rfl))
        simp only [Act.put, List.getElem_toArray, List.getElem_cons_zero, List.getElem_cons_succ, List.setIfInBounds_toArray, List.set_cons_zero, List.set_cons_succ]
        refine wpAnyH_take (i := 12) (v := ?v12_45) rfl (by kernel_rfl) (by kernel_rfl) (by kernel_rfl) (fun _ _ _ h => h) (Or.inl ⟨by rfl, ?hy12_45⟩) (by assumption) ?rest12_45
        case hy12_45 => (intro w hSw; (try dsimp only at hSw); go_simp; try (with_reducible rfl))
        simp only [Act.put, List.getElem_toArray, List.getElem_cons_zero, List.getElem_cons_succ, List.setIfInBounds_toArray, List.set_cons_zero, List.set_cons_succ]
        refine wpAnyH_take (i := 13) (v := ?v13_46) rfl (by kernel_rfl) (by kernel_rfl) (by kernel_rfl) (fun _ _ _ h => h) (Or.inl ⟨by rfl, ?hy13_46⟩) (by assumption) ?rest13_46
        case hy13_46 => (intro w hSw; (try dsimp only at hSw); go_simp; try (with_reducible rfl))
        simp only [Act.put, List.getElem_toArray, List.getElem_cons_zero, List.getElem_cons_succ, List.setIfInBounds_toArray, List.set_cons_zero, List.set_cons_succ]
        refine wpAnyH_take (i := 14) (v := ?v14_47) rfl (by kernel_rfl) (by kernel_rfl) (by kernel_rfl) (fun _ _ _ h => h) (Or.inl ⟨by rfl, ?hy14_47⟩) (by assumption) ?rest14_47
        case hy14_47 => (intro w hSw; (try dsimp only at hSw); go_simp; try (with_reducible rfl))
        simp only [Act.put, List.getElem_toArray, List.getElem_cons_zero, List.getElem_cons_succ, List.setIfInBounds_toArray, List.set_cons_zero, List.set_cons_succ]
        refine wpAnyH_ready (rs := [15]) (by kernel_rfl) (by simp) ?_
        refine (AllReadyH.cons rfl (fun K hK => ?_) AllReadyH.nil)
        go_simp
        have hba := (Below.refl wd.heap.size wd).alloc (Nat.le_refl _) (.cells #[.int .i64 x0, .slice pk N (c0 - (a + 3))] 30)
        have hS3 := (HC3.out _ (HBd.out.trans (hba.mono HBd.out.size))).1
        refine hK.out _ _ ?_ (fun hS' => ?_)
        · exact hS3
        clear hK K
        try simp only [Act.put, List.getElem_toArray, List.getElem_cons_zero, List.getElem_cons_succ, List.setIfInBounds_toArray, List.set_cons_zero, List.set_cons_succ]
        replace hS := hS'
        clear hS'
        refine wpAnyH_ready (rs := [16]) (by kernel_rfl) (by simp) ?_
        refine (AllReadyH.cons rfl (fun K hK => ?_) AllReadyH.nil)
        refine step_addN (by rfl) (.tmp 74) (.tmp 89) (by rfl) (by rfl) HWd.out HDd.out.size x0 pk N (c0 - (a + 3)) ((l0.drop (a + 3)).take N) HDL.out (HPK.out _ HBd.out) HOF.out (by rfl) (by have := HLa.out; omega) (fun v4 w4 hW4 hB4 => ?_)
        have HB4 := Hid.mk' (HBd.out.trans (hB4.mono HB1.out.size))
        have HD4 := Hid.mk' (HDd.out.trans hB4)
        have HW4 := Hid.mk' hW4
        have hS4 := (HC3.out _ HB4.out).1
        clear hB4 hW4 HBd HWd HDd hba hS3
        go_simp
        refine hK.out _ _ ?_ (fun hS' => ?_)
        · exact hS4
        clear hK K
        try simp only [Act.put, List.getElem_toArray, List.getElem_cons_zero, List.getElem_cons_succ, List.setIfInBounds_toArray, List.set_cons_zero, List.set_cons_succ]
        replace hS := hS'
        clear hS'
        refine wpAnyH_take (i := 17) (v := ?v17_48) rfl (by kernel_rfl) (by kernel_rfl) (by kernel_rfl) (fun _ _ _ h => h) (Or.inl ⟨by rfl, ?hy17_48⟩) (by assumption) ?rest17_48
        case hy17_48 => (intro w hSw; (try dsimp only at hSw); go_simp; try (with_reducible rfl))
        simp only [Act.put, List.getElem_toArray, List.getElem_cons_zero, List.getElem_cons_succ, List.setIfInBounds_toArray, List.set_cons_zero, List.set_cons_succ]
        refine wpAnyH_done (by kernel_rfl) ?_ _
        clear hS hS4
        have HLk := Hid.mk' (show (L ++ [(⟨x0, pk, c0 - (a + 3), (l0.drop (a + 3)).take N⟩ : Fd)]).length ≤ a + 3 + N by have := HLa.out; simp; omega)
        have HTk : Hid (splitB l0 = (splitB (l0.drop (a + 3 + N))).map (kys (L ++ [(⟨x0, pk, c0 - (a + 3), (l0.drop (a + 3)).take N⟩ : Fd)]) ++ ·)) := by
          show _ = _
          rw [HNF.out]
          simp [kys, ky]
        generalize L ++ [(⟨x0, pk, c0 - (a + 3), (l0.drop (a + 3)).take N⟩ : Fd)] = L2 at HLk HTk HW4
        clear HNF HLa HPK HOF HDL hif
        go_wp2_with fail
        go_roundw
        case rel => exact ⟨a + 3 + N, L2, by omega, by go_num, HW4, HTk, HB4, HD4, HLk⟩
        case measure => simp [intOf]; omega
    · obtain rfl : a = l0.length := by omega
      have hsl : splitB l0 = some (kys L) := by rw [HT.out, List.drop_of_length_le (Nat.le_refl _), splitB_nil]; simp
      have hr2 : kys Lg = kys L ∧ er = 0 := by
        rcases HR.out with ⟨h, _⟩ | ⟨h, h2⟩
        · rw [hsl] at h; cases h
        · rw [hsl] at h; exact ⟨(Option.some.inj h).symm, h2⟩
      obtain ⟨hkk, rfl⟩ := hr2
      obtain ⟨j1, j2, _⟩ := join_split l0.length l0 (kys L) (Nat.le_refl _) HIB.out hsl
      rw [← hkk] at j1 j2
      have HOw := Hid.mk' (HO.out.on HBw.out)
      obtain ⟨p9, c9, e9, hfin, _, hl9, hm9⟩ := HOw.out.own.fin
      simp only [Value.slice.injEq, true_and] at e9
      obtain ⟨rfl, rfl⟩ := e9
      obtain ⟨pw, cw, rfl, hfw, _, hlw, hmw⟩ := HW.out.fin
      have JN := tjoin_any pg cg Lg wr hfin (Nat.le_trans hl9 hm9) (by rw [j2]; have := HL.out; omega)
      have HJ2 := Hid.mk' j2
      have HJ1 := Hid.mk' j1
      have SM := fun X (h : Below wr.heap.size wr X) => same12_any pg pw cg cw Lg L X (hfin.below h) (hfw.below h) (Nat.le_trans hl9 hm9) (Nat.le_trans hlw hmw)
      rw [decide_eq_true hkk] at SM
      have HPw := Hid.mk' (HP.out.below HB.out)
      clear hsl hkk j1 j2 hfin hl9 hm9 hfw hlw hmw HT HO HBw HLa HW HOw HR
      go_wp2_with fail
      refine JN.mono ?_
      clear JN
      rintro e w5 ⟨hj, hb5⟩
      rcases hj with ⟨_, g, rfl, hbi, _⟩ | ⟨h, _⟩
      case inr => exact absurd HJ1.out h
      rw [HJ2.out] at hbi ⊢
      have HBI := Hid.mk' hbi
      have HW5 := Hid.mk' hb5
      have SMx := SM w5 hb5
      clear hbi hb5 SM
      go_wp2_with fail
      refine SMx.mono ?_
      clear SMx
      rintro e w6 ⟨rfl, hb6⟩
      have cv1 := (HBI.out.below hb6).convert (P := Try.prog) l0.length 25 5 9 Try.underlying25 Try.underlying5 Try.underlying9
      have HW6 := Hid.mk' (HW5.out.trans (hb6.mono HW5.out.size))
      have cv2 := (HPw.out.below HW6.out).convert (P := Try.prog) c0 25 5 9 Try.underlying25 Try.underlying5 Try.underlying9
      have hst : ((strOfNums l0).toList == (strOfNums l0).toList) = true := by simp
      generalize strOfNums l0 = st at cv1 cv2 hst
      have HB6 := Hid.mk' (HB.out.trans (HW6.out.mono HB.out.size))
      clear hb6 HBI HW5 HW6 HPw
      go_wp2_with fail
      refine (AW w6).mono ?_
      rintro e w7 ⟨rfl, hb7⟩
      have HB7 := Hid.mk' (HB6.out.trans (hb7.mono HB6.out.size))
      clear hb7 HB6 cv1 cv2
      go_wp2_with fail
      go_ret
      exact ⟨rfl, HB7.out⟩

theorem own : ownKnob Try.prog.godebug = none := by kernel_rfl
theorem laidOut : laidOutB Try.prog = true := by kernel_rfl

set_option maxRecDepth 100000 in
theorem lifted (os : Os) (started : os.Started) (H : Type) (enc : TypeId × Value → H) :
    ReturnsInHanded {} Try.checked os 4 .any (Rows.tlvSplitsSpec.pre6 enc Try.prog Try.f4 Rows.tlvSplitsRow.domain false) (Rows.tlvSplitsSpec.post enc Try.prog Try.f4 false true false false) := by
  refine returnsInHanded_of_change (C := Try.checked) own started (by kernel_rfl) Try.func4
    (ChangeSpec.witness6 (enc := enc) (C := Try.checked) false ⟨#[], #[.slice none 0 0], []⟩ 8 (by kernel_rfl) (by kernel_rfl) (by kernel_rfl) (by kernel_rfl)) ?_
  intro W base args ds gs before hval0 hW hcnd _
  have hval : ∀ (j : Nat) t v, Try.f4.params[j]? = some t → args[j]? = some v → Value.okWide Try.prog W .any base t v := hval0
  have hW' := hW
  obtain ⟨p, q, hA0, hV, rfl, hfz, hnd⟩ := hW
  have hA : DataW.TrodAll enc Try.prog W 0 (fun _ => true) true Try.f4.params.toList args.toList ds p := hA0
  rw [Try.params4] at hA hval
  obtain ⟨v0, vs0, d0, ds0, p0x, q0, hargs, rfl, rfl, h0, r0⟩ := trodAll_cons hA
  obtain ⟨rfl, rfl, rfl⟩ := trodAll_nil r0
  obtain rfl : args = #[v0] := by cases args; simp_all
  obtain ⟨rfl, rfl⟩ := trodVars_none hV
  obtain ⟨p0, len0, c0, rfl⟩ := okWide_slice Try.underlying25 (hval 0 25 v0 rfl rfl)
  have k0 := h0
  have lt0 : ∀ x ∈ p0x, x.block < W.heap.size := by obtain ⟨m, hm⟩ := k0; exact DataW.trod_lt m _ _ _ hm
  obtain ⟨l0, rfl, hlc0, hcm0, hp0, hin0⟩ : ∃ l : List Int, l.length = len0 ∧ len0 ≤ c0 ∧ c0 ≤ maxLen ∧ (p0 = none → c0 = 0) ∧ LIn W p0 1 (shInt .u8) l := by
    obtain ⟨fuel, hf⟩ := h0
    obtain ⟨l, p, c, hcs, hl1, hl2, hl3, hl4⟩ := opens_slice (size := 1) Try.underlying25 (by kernel_rfl) (by decide) (opens_int Try.underlying5) _ _ _ hf
    simp [Value.cells] at hcs
    obtain ⟨rfl, rfl, rfl⟩ := hcs
    exact ⟨l, rfl, hl1, hl2, hl3, hl4⟩
  clear hA0 hval0
  refine (walk p0 c0 l0 W hlc0 hcm0 hp0 hin0).mono fun e W' ⟨he, bel⟩ => ?_
  subst he
  exact ⟨_, rfl, _, _, _, [], _, [], hW', trodAll_mk1 (shut_bool Try.underlying4 _), (trodAll_cons_mk (Below.trod laidOut (by kernel_rfl) (of_decide_eq_true (by kernel_rfl)) k0 bel lt0) trodAll_mk0), rfl, bel.frame _, fun h => by cases h⟩

theorem over : Rows.tlvSplitsRow.holds Try.pinned (OpenSpec.ofChange Rows.tlvSplitsSpec) :=
  OpenClaim.holds_of_wide 4 Try.f4 rfl rfl rfl rfl rfl rfl rfl ⟨rfl, rfl, rfl, rfl, rfl⟩ rfl rfl rfl rfl rfl (by kernel_rfl) Try.func4 (by kernel_rfl)
    (of_decide_eq_true (by kernel_rfl)) (by unfold Func.isWrapper; first | (rw [if_pos (by decide +kernel)]; kernel_rfl) | (rw [if_neg (by decide +kernel)]; exact ⟨rfl, rfl⟩))
    (fun os started H enc _ => lifted os started H enc)

/-- The given statement. -/
theorem proved : Rows.TlvSplitsSaid := over
#print axioms proved
end Go.Proofs.Ytflllegengomnaa.tlvSplits
