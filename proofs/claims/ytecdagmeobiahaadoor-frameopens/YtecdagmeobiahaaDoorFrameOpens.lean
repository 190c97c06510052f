/-
  Proved: the statement on what layer 4 opens of any bytes (FrameOpens) returns true at every input, and leaves its arguments as they were; the package's table reads as the program's text lays it (the card ties it).
-/
import Derived.Test.YtecdagmeobiahaaDoorRows
import Derived.Test.YtecdagmeobiahaaDoorCards
import Derived.Test.YtecdagmeobiahaaDoorTie
import Derived.Test.YtecdagmeobiahaaDoorLaw04
import Derived.Test.YtecdagmeobiahaaDoorShapes
import Derived.ShutString
import Derived.ChangeOld
import Derived.Stop.Joined
import Derived.SevenTiedAt
import Derived.BigQuiet
import Derived.Deep.QuietTactic
namespace Go.Proofs.YtecdagmeobiahaaDoor.frameOpens
open Go Go.ChangeShapes Go.WideShapes Go.ChangeAt Go.RowKit
open Go.ChangeMaps (open_string shut_string)
set_option linter.unusedVariables false
set_option linter.unusedSimpArgs false

/-- What stays behind 'Open': the bytes, and what came of them. -/
structure InF (w0 : World) (b o : Nat) (l : List Int) (p : Option Addr) (r : List Int) (w : World) : Prop where
  tab : Tab w
  bin : BIn w (some ⟨b, o, none⟩) l
  got : BIn w p r
  below : Below w0.heap.size w0 w

theorem InF.on {w0 w w' : World} {b o : Nat} {l r : List Int} {p : Option Addr} (h : InF w0 b o l p r w) (k : Below w.heap.size w w') : InF w0 b o l p r w' :=
  ⟨h.tab.below k h.tab.pos, h.bin.below k, h.got.below k, h.below.trans (k.mono h.below.size)⟩

theorem InF.conv {w0 w : World} {b o n : Nat} {l r : List Int} {p : Option Addr} (h : InF w0 b o l p r w) (hn : l.length = n) (c : Nat) : (convert 22 9 (.slice (some ⟨b, o, none⟩) n c)).run Tryd.prog w = .ok (.string (strOfNums l)) w := by
  subst hn
  exact h.bin.convert (P := Tryd.prog) _ 22 5 9 Tryd.underlying22 Tryd.underlying5 Tryd.underlying9

theorem InF.cell {w0 w : World} {b o : Nat} {l r : List Int} {p : Option Addr} (h : InF w0 b o l p r w) (i : Nat) (hi : i < l.length) : w.cell? ⟨b, o + i, none⟩ = some (.int .u8 (l.getD i 0)) := by
  obtain ⟨b', o', e, hc⟩ := h.bin (by omega)
  cases e
  exact hc i hi

theorem first_cases {w : World} {b o : Nat} {x : Value} (h : w.cell? ⟨b, o + 0, none⟩ = some x) : w.cell? ⟨b, o, none⟩ = some x := h

set_option maxRecDepth 10000 in
set_option maxHeartbeats 4000000 in
/-- A front that is not right. -/
theorem walk_form (b o c m : Nat) (l : List Int) (w : World) (hT : Tab w) (hB : BIn w (some ⟨b, o, none⟩) l) (hl : isB l) (hn : l.length = m + 8) (hm : m ≤ 292) (hlc : m + 8 ≤ c) (hcm : c ≤ 9223372036854775807) (hf : ¬ formB l) :
    Calls Tryd.prog 4 #[.slice (some ⟨b, o, none⟩) (m + 8) c] w fun e w' => e = .returned (.bool true) ∧ Below w.heap.size w w' := by
  have O := open_more b o c m l w hT hB hl hn (by omega) hlc hcm
  rw [openR_form l (by omega) (by omega) hf] at O
  simp only [List.length_nil] at O
  have t1 : ¬ 300 < (m : Int) + 8 := by omega
  have t2 : ¬ (m : Int) + 8 < 8 := by omega
  have HB := Hid.mk' hB
  have x0 := hl.getD 0
  have x1 := hl.getD 1
  have x2 := hl.getD 2
  have x3 := hl.getD 3
  unfold formB at hf
  rw [hn, show ((m + 8 : Nat) : Int) - 8 = (m : Int) by omega] at hf
  have k0 : (0 : Int) < (m : Int) + 8 := by omega
  have k1 : (1 : Int) < (m : Int) + 8 := by omega
  have k2 : (2 : Int) < (m : Int) + 8 := by omega
  have k3 : (3 : Int) < (m : Int) + 8 := by omega
  have k8 : (m : Int) + 8 - 8 = (m : Int) := by omega
  clear hB
  go_enter Tryd.func4, Tryd.ntmps4
  go_wp2_with fail
  refine O.mono ?_
  rintro e w1 ⟨p', c', rfl, hg1, hb1⟩
  have hI : InF w b o l p' [] w1 := ⟨hT.below hb1 hT.pos, HB.out.below hb1, hg1, hb1⟩
  have c0 := first_cases (hI.cell 0 (by omega))
  have c1 := hI.cell 1 (by omega)
  have c2 := hI.cell 2 (by omega)
  have c3 := hI.cell 3 (by omega)
  generalize l.getD 0 0 = y0 at *
  generalize l.getD 1 0 = y1 at *
  generalize l.getD 2 0 = y2 at *
  generalize l.getD 3 0 = y3 at *
  have HI := Hid.mk' hI
  clear O hI hg1 hb1 HB hl hn
  go_wp2_with fail
  by_cases e0 : y0 = 156
  · subst e0
    by_cases e1 : y1 < 1
    · have d1 : decide (y1 < 1) = true := decide_eq_true e1
      clear hf
      go_quiet (fail)
      have AW := awake4_any (w1.drewN nq) (HI.out.on (below_drewN (Below.refl _ _) nq)).tab
      have HJ := Hid.mk' (HI.out.on (below_drewN (Below.refl _ _) nq)).below
      generalize w1.drewN nq = w5 at AW HJ ⊢
      clear c0 c1 c2 c3 HI
      go_wp2_with (go_at_call 9; refine AW.mono ?_; rintro e w' ⟨rfl, hb⟩)
      go_ret
      exact ⟨rfl, HJ.out.trans (hb.mono HJ.out.size)⟩
    · have d1 : decide (y1 < 1) = false := decide_eq_false e1
      by_cases e2 : 3 < y1
      · have d2 : decide (3 < y1) = true := decide_eq_true e2
        clear hf
        go_quiet (fail)
        have AW := awake4_any (w1.drewN nq) (HI.out.on (below_drewN (Below.refl _ _) nq)).tab
        have HJ := Hid.mk' (HI.out.on (below_drewN (Below.refl _ _) nq)).below
        generalize w1.drewN nq = w5 at AW HJ ⊢
        clear c0 c1 c2 c3 HI
        go_wp2_with (go_at_call 9; refine AW.mono ?_; rintro e w' ⟨rfl, hb⟩)
        go_ret
        exact ⟨rfl, HJ.out.trans (hb.mono HJ.out.size)⟩
      · have d2 : decide (3 < y1) = false := decide_eq_false e2
        have e3 : ¬ y2 * 256 + y3 = (m : Int) := fun q => hf ⟨rfl, ⟨by omega, by omega⟩, q⟩
        have d3 : (y2 * 256 + y3 != (m : Int)) = true := by simpa using e3
        clear hf
        go_quiet (fail)
        have AW := awake4_any (w1.drewN nq) (HI.out.on (below_drewN (Below.refl _ _) nq)).tab
        have HJ := Hid.mk' (HI.out.on (below_drewN (Below.refl _ _) nq)).below
        generalize w1.drewN nq = w5 at AW HJ ⊢
        clear c0 c1 c2 c3 HI
        go_wp2_with (go_at_call 9; refine AW.mono ?_; rintro e w' ⟨rfl, hb⟩)
        go_ret
        exact ⟨rfl, HJ.out.trans (hb.mono HJ.out.size)⟩
  · have d0 : (y0 != 156) = true := by simpa using e0
    clear hf
    go_quiet (fail)
    have AW := awake4_any (w1.drewN nq) (HI.out.on (below_drewN (Below.refl _ _) nq)).tab
    have HJ := Hid.mk' (HI.out.on (below_drewN (Below.refl _ _) nq)).below
    generalize w1.drewN nq = w5 at AW HJ ⊢
    clear c0 c1 c2 c3 HI
    go_wp2_with (go_at_call 9; refine AW.mono ?_; rintro e w' ⟨rfl, hb⟩)
    go_ret
    exact ⟨rfl, HJ.out.trans (hb.mono HJ.out.size)⟩

set_option maxRecDepth 10000 in
set_option maxHeartbeats 4000000 in
theorem walk_ok (b o c m : Nat) (l : List Int) (w : World) (hT : Tab w) (hB : BIn w (some ⟨b, o, none⟩) l) (hl : isB l) (hn : l.length = m + 8) (hm : m ≤ 292) (hlc : m + 8 ≤ c) (hcm : c ≤ 9223372036854775807) (hf : formB l) (M : List Int) (hM : M = (l.take (m + 4)).drop 4) (hF : fullB (l.getD 1 0) M = l) (ho : openR l = (l.getD 1 0, M, 0)) :
    Calls Tryd.prog 4 #[.slice (some ⟨b, o, none⟩) (m + 8) c] w fun e w' => e = .returned (.bool true) ∧ Below w.heap.size w w' := by
  have O := open_more b o c m l w hT hB hl hn (by omega) hlc hcm
  rw [ho] at O
  have t1 : ¬ 300 < (m : Int) + 8 := by omega
  have t2 : ¬ (m : Int) + 8 < 8 := by omega
  have HB := Hid.mk' hB
  have x2 := hl.getD 2
  have x3 := hl.getD 3
  obtain ⟨e0, ⟨e1, e2⟩, e3⟩ := hf
  rw [hn, show ((m + 8 : Nat) : Int) - 8 = (m : Int) by omega] at e3
  have k0 : (0 : Int) < (m : Int) + 8 := by omega
  have k1 : (1 : Int) < (m : Int) + 8 := by omega
  have k2 : (2 : Int) < (m : Int) + 8 := by omega
  have k3 : (3 : Int) < (m : Int) + 8 := by omega
  have k8 : (m : Int) + 8 - 8 = (m : Int) := by omega
  have k4 : (m : Int) + 8 - 4 = (m : Int) + 4 := by omega
  have k5 : (m : Int) + 4 ≤ (c : Int) := by omega
  have k6 : ¬ c = 4 := by omega
  have k7 : m + 4 - 4 = m := by omega
  have hMl : M.length = m := by rw [hM]; simp; omega
  have hMb : isB M := by rw [hM]; exact (hl.take _).drop _
  have HM := Hid.mk' (fun x (h : BIn x (some ⟨b, o, none⟩) l) => show BIn x (some ⟨b, o + 4, none⟩) M from by rw [hM]; exact BIn.drop (h.take (m + 4)) 4)
  have HN := Hid.mk' hn
  have HL := Hid.mk' hl
  simp only [hMl] at O
  have HF := Hid.mk' hF
  clear hB hM hF ho
  go_enter Tryd.func4, Tryd.ntmps4
  go_wp2_with fail
  refine O.mono ?_
  rintro e w1 ⟨p', c', rfl, hg1, hb1⟩
  have hI : InF w b o l p' M w1 := ⟨hT.below hb1 hT.pos, HB.out.below hb1, hg1, hb1⟩
  have c0 := first_cases (hI.cell 0 (by omega))
  have c1 := hI.cell 1 (by omega)
  have c2 := hI.cell 2 (by omega)
  have c3 := hI.cell 3 (by omega)
  have HC1 := Hid.mk' (fun x (h : InF w b o l p' M x) => h.cell 1 (by omega))
  rw [e0] at c0
  generalize l.getD 1 0 = y1 at HC1 c1 e1 e2 HF ⊢
  generalize l.getD 2 0 = y2 at c2 x2 e3
  generalize l.getD 3 0 = y3 at c3 x3 e3
  have d1 : decide (y1 < 1) = false := decide_eq_false (by omega)
  have d2 : decide (3 < y1) = false := decide_eq_false (by omega)
  have d3 : (y2 * 256 + y3 != (m : Int)) = false := by simpa using e3
  have hwr : IntKind.i64.wrap y1 = y1 := by rw [IntKind.wrap_i64]; omega
  have HI := Hid.mk' hI
  clear O hI hg1 hb1 HB hl hn e3 e0
  go_wp2_with fail
  go_quiet (fail)
  have HJ := Hid.mk' (HI.out.on (below_drewN (Below.refl _ _) nq))
  generalize w1.drewN nq = w5 at HJ ⊢
  clear c0 c1 c2 c3 HI
  go_wp2_with fail
  have hI0 : InF w b o l p' M w5.drew := ⟨HJ.out.tab, HJ.out.bin, HJ.out.got, HJ.out.below.drew⟩
  have hS0 : w5.drew.cell? ⟨b, o + 1, none⟩ = some (.int .u8 y1) ∧ (convert 22 9 (.slice (some ⟨b, o, none⟩) (m + 8) c)).run Tryd.prog w5.drew = .ok (.string (strOfNums l)) w5.drew ∧ Hid (InF w b o l p' M w5.drew) := ⟨HC1.out _ hI0, hI0.conv HN.out c, hI0⟩
  refine wp_region_held_drew (S := fun x => x.cell? ⟨b, o + 1, none⟩ = some (.int .u8 y1) ∧ (convert 22 9 (.slice (some ⟨b, o, none⟩) (m + 8) c)).run Tryd.prog x = .ok (.string (strOfNums l)) x ∧ Hid (InF w b o l p' M x)) (by kernel_rfl) hS0 (fun hS => ?_)
  clear hS0 HJ hI0
  generalize w5.drew = wd at hS ⊢
  refine wpAnyH_take (i := 0) (v := ?v0_10) rfl (by kernel_rfl) (by kernel_rfl) (by kernel_rfl) (fun _ _ _ h => h) (Or.inl ⟨by rfl, ?hy0_10⟩) (by assumption) ?rest0_10
  case hy0_10 => (intro w hSw; (try dsimp only at hSw); go_simp; try (with_reducible rfl))
  simp only [Act.put, List.getElem_toArray, List.getElem_cons_zero, List.getElem_cons_succ, List.setIfInBounds_toArray, List.set_cons_zero, List.set_cons_succ]
  refine wpAnyH_take (i := 1) (v := ?v1_11) rfl (by kernel_rfl) (by kernel_rfl) (by kernel_rfl) (fun _ _ _ h => h) (Or.inl ⟨by rfl, ?hy1_11⟩) (by assumption) ?rest1_11
  case hy1_11 => (intro w hSw; (try dsimp only at hSw); go_simp; try (with_reducible rfl))
  simp only [Act.put, List.getElem_toArray, List.getElem_cons_zero, List.getElem_cons_succ, List.setIfInBounds_toArray, List.set_cons_zero, List.set_cons_succ]
  refine wpAnyH_take (i := 2) (v := ?v2_12) rfl (by kernel_rfl) (by kernel_rfl) (by kernel_rfl) (fun _ _ _ h => h) (Or.inl ⟨by rfl, ?hy2_12⟩) (by assumption) ?rest2_12
  case hy2_12 => (intro w hSw; (try dsimp only at hSw); go_simp; try (with_reducible rfl))
  simp only [Act.put, List.getElem_toArray, List.getElem_cons_zero, List.getElem_cons_succ, List.setIfInBounds_toArray, List.set_cons_zero, List.set_cons_succ]
  refine wpAnyH_take (i := 3) (v := ?v3_13) rfl (by kernel_rfl) (by kernel_rfl) (by kernel_rfl) (fun _ _ _ h => h) (Or.inl ⟨by rfl, ?hy3_13⟩) (by assumption) ?rest3_13
  case hy3_13 => (intro w hSw; (try dsimp only at hSw); go_simp; try (with_reducible rfl))
  simp only [Act.put, List.getElem_toArray, List.getElem_cons_zero, List.getElem_cons_succ, List.setIfInBounds_toArray, List.set_cons_zero, List.set_cons_succ]
  refine wpAnyH_take (i := 4) (v := ?v4_14) rfl (by kernel_rfl) (by kernel_rfl) (by kernel_rfl) (fun _ _ _ h => h) (Or.inl ⟨by rfl, ?hy4_14⟩) (by assumption) ?rest4_14
  case hy4_14 => (intro w hSw; (try dsimp only at hSw); go_simp; try (with_reducible rfl))
  simp only [Act.put, List.getElem_toArray, List.getElem_cons_zero, List.getElem_cons_succ, List.setIfInBounds_toArray, List.set_cons_zero, List.set_cons_succ]
  refine wpAnyH_take (i := 7) (v := ?v7_15) rfl (by kernel_rfl) (by kernel_rfl) (by kernel_rfl) (fun _ _ _ h => h) (Or.inl ⟨by rfl, ?hy7_15⟩) (by assumption) ?rest7_15
  case hy7_15 => (intro w hSw; (try dsimp only at hSw); go_simp; try (with_reducible rfl))
  simp only [Act.put, List.getElem_toArray, List.getElem_cons_zero, List.getElem_cons_succ, List.setIfInBounds_toArray, List.set_cons_zero, List.set_cons_succ]
  refine wpAnyH_take (i := 8) (v := ?v8_16) rfl (by kernel_rfl) (by kernel_rfl) (by kernel_rfl) (fun _ _ _ h => h) (Or.inl ⟨by rfl, ?hy8_16⟩) (by assumption) ?rest8_16
  case hy8_16 => (intro w hSw; (try dsimp only at hSw); go_simp; try (with_reducible rfl))
  simp only [Act.put, List.getElem_toArray, List.getElem_cons_zero, List.getElem_cons_succ, List.setIfInBounds_toArray, List.set_cons_zero, List.set_cons_succ]
  refine wpAnyH_ready (rs := [5]) (by kernel_rfl) (by simp) ?_
  refine (AllReadyH.cons rfl (fun K hK => ?_) AllReadyH.nil)
  go_simp
  have LA := laid_any y1 (some ⟨b, o + 4, none⟩) (c - 4) M _ hS.2.2.out.tab (HM.out _ hS.2.2.out.bin) hMb (by simp) (by omega) e1 e2
  rw [hMl] at LA
  refine LA.mono ?_
  rintro e w3 ⟨v3, rfl, hA3, hb3⟩
  rw [HF.out] at hA3
  obtain ⟨q3, d3', rfl, hq3, _⟩ := hA3.slice
  have cv := hq3.convert (P := Tryd.prog) d3' 22 5 9 Tryd.underlying22 Tryd.underlying5 Tryd.underlying9
  have HI3 := Hid.mk' (hS.2.2.out.on hb3)
  clear hA3 hq3 hb3 LA
  go_wp2_with fail
  refine hK.out _ _ ?_ (fun hS' => ?_)
  · exact ⟨HC1.out _ HI3.out, HI3.out.conv HN.out c, HI3.out⟩
  clear hK K
  try simp only [Act.put, List.getElem_toArray, List.getElem_cons_zero, List.getElem_cons_succ, List.setIfInBounds_toArray, List.set_cons_zero, List.set_cons_succ]
  replace hS := hS'
  clear hS'
  refine wpAnyH_ready (rs := [6]) (by kernel_rfl) (by simp) ?_
  refine (AllReadyH.cons rfl (fun K hK => ?_) AllReadyH.nil)
  go_simp
  refine hK.out _ _ ?_ (fun hS' => ?_)
  · exact hS
  clear hK K
  try simp only [Act.put, List.getElem_toArray, List.getElem_cons_zero, List.getElem_cons_succ, List.setIfInBounds_toArray, List.set_cons_zero, List.set_cons_succ]
  replace hS := hS'
  clear hS'
  refine wpAnyH_take (i := 9) (v := ?v9_17) rfl (by kernel_rfl) (by kernel_rfl) (by kernel_rfl) (fun _ _ _ h => h) (Or.inl ⟨by rfl, ?hy9_17⟩) (by assumption) ?rest9_17
  case hy9_17 => (intro w hSw; (try dsimp only at hSw); go_simp; try (with_reducible rfl))
  simp only [Act.put, List.getElem_toArray, List.getElem_cons_zero, List.getElem_cons_succ, List.setIfInBounds_toArray, List.set_cons_zero, List.set_cons_succ]
  refine wpAnyH_done (by kernel_rfl) ?_ _
  have cg := hS.2.2.out.got.convert (P := Tryd.prog) c' 22 5 9 Tryd.underlying22 Tryd.underlying5 Tryd.underlying9
  have cm := (HM.out _ hS.2.2.out.bin).convert (P := Tryd.prog) (c - 4) 22 5 9 Tryd.underlying22 Tryd.underlying5 Tryd.underlying9
  rw [hMl] at cg cm
  have AW := awake4_any _ hS.2.2.out.tab
  go_wp2_with (go_at_call 9; refine AW.mono ?_; rintro e w' ⟨rfl, hb⟩)
  go_ret
  exact ⟨rfl, hS.2.2.out.below.trans (hb.mono hS.2.2.out.below.size)⟩

set_option maxRecDepth 10000 in
set_option maxHeartbeats 4000000 in
theorem walk_no (b o c m : Nat) (l : List Int) (w : World) (hT : Tab w) (hB : BIn w (some ⟨b, o, none⟩) l) (hl : isB l) (hn : l.length = m + 8) (hm : m ≤ 292) (hlc : m + 8 ≤ c) (hcm : c ≤ 9223372036854775807) (hf : formB l) (M : List Int) (hM : M = (l.take (m + 4)).drop 4) (hF : fullB (l.getD 1 0) M ≠ l) (ho : openR l = (0, [], 8)) :
    Calls Tryd.prog 4 #[.slice (some ⟨b, o, none⟩) (m + 8) c] w fun e w' => e = .returned (.bool true) ∧ Below w.heap.size w w' := by
  have O := open_more b o c m l w hT hB hl hn (by omega) hlc hcm
  rw [ho] at O
  have t1 : ¬ 300 < (m : Int) + 8 := by omega
  have t2 : ¬ (m : Int) + 8 < 8 := by omega
  have HB := Hid.mk' hB
  have x2 := hl.getD 2
  have x3 := hl.getD 3
  obtain ⟨e0, ⟨e1, e2⟩, e3⟩ := hf
  rw [hn, show ((m + 8 : Nat) : Int) - 8 = (m : Int) by omega] at e3
  have k0 : (0 : Int) < (m : Int) + 8 := by omega
  have k1 : (1 : Int) < (m : Int) + 8 := by omega
  have k2 : (2 : Int) < (m : Int) + 8 := by omega
  have k3 : (3 : Int) < (m : Int) + 8 := by omega
  have k8 : (m : Int) + 8 - 8 = (m : Int) := by omega
  have k4 : (m : Int) + 8 - 4 = (m : Int) + 4 := by omega
  have k5 : (m : Int) + 4 ≤ (c : Int) := by omega
  have k6 : ¬ c = 4 := by omega
  have k7 : m + 4 - 4 = m := by omega
  have hMl : M.length = m := by rw [hM]; simp; omega
  have hMb : isB M := by rw [hM]; exact (hl.take _).drop _
  have HM := Hid.mk' (fun x (h : BIn x (some ⟨b, o, none⟩) l) => show BIn x (some ⟨b, o + 4, none⟩) M from by rw [hM]; exact BIn.drop (h.take (m + 4)) 4)
  have HN := Hid.mk' hn
  have HL := Hid.mk' hl
  simp only [List.length_nil] at O
  have HF := Hid.mk' hF
  clear hB hM hF ho
  go_enter Tryd.func4, Tryd.ntmps4
  go_wp2_with fail
  refine O.mono ?_
  rintro e w1 ⟨p', c', rfl, hg1, hb1⟩
  have hI : InF w b o l p' [] w1 := ⟨hT.below hb1 hT.pos, HB.out.below hb1, hg1, hb1⟩
  have c0 := first_cases (hI.cell 0 (by omega))
  have c1 := hI.cell 1 (by omega)
  have c2 := hI.cell 2 (by omega)
  have c3 := hI.cell 3 (by omega)
  have HC1 := Hid.mk' (fun x (h : InF w b o l p' [] x) => h.cell 1 (by omega))
  rw [e0] at c0
  generalize l.getD 1 0 = y1 at HC1 c1 e1 e2 HF ⊢
  generalize l.getD 2 0 = y2 at c2 x2 e3
  generalize l.getD 3 0 = y3 at c3 x3 e3
  have d1 : decide (y1 < 1) = false := decide_eq_false (by omega)
  have d2 : decide (3 < y1) = false := decide_eq_false (by omega)
  have d3 : (y2 * 256 + y3 != (m : Int)) = false := by simpa using e3
  have hwr : IntKind.i64.wrap y1 = y1 := by rw [IntKind.wrap_i64]; omega
  have HI := Hid.mk' hI
  clear O hI hg1 hb1 HB hl hn e3 e0
  go_wp2_with fail
  go_quiet (fail)
  have HJ := Hid.mk' (HI.out.on (below_drewN (Below.refl _ _) nq))
  generalize w1.drewN nq = w5 at HJ ⊢
  clear c0 c1 c2 c3 HI
  go_wp2_with fail
  have hI0 : InF w b o l p' [] w5.drew := ⟨HJ.out.tab, HJ.out.bin, HJ.out.got, HJ.out.below.drew⟩
  have hS0 : w5.drew.cell? ⟨b, o + 1, none⟩ = some (.int .u8 y1) ∧ (convert 22 9 (.slice (some ⟨b, o, none⟩) (m + 8) c)).run Tryd.prog w5.drew = .ok (.string (strOfNums l)) w5.drew ∧ Hid (InF w b o l p' [] w5.drew) := ⟨HC1.out _ hI0, hI0.conv HN.out c, hI0⟩
  refine wp_region_held_drew (S := fun x => x.cell? ⟨b, o + 1, none⟩ = some (.int .u8 y1) ∧ (convert 22 9 (.slice (some ⟨b, o, none⟩) (m + 8) c)).run Tryd.prog x = .ok (.string (strOfNums l)) x ∧ Hid (InF w b o l p' [] x)) (by kernel_rfl) hS0 (fun hS => ?_)
  clear hS0 HJ hI0
  generalize w5.drew = wd at hS ⊢
  refine wpAnyH_take (i := 0) (v := ?v0_18) rfl (by kernel_rfl) (by kernel_rfl) (by kernel_rfl) (fun _ _ _ h => h) (Or.inl ⟨by rfl, ?hy0_18⟩) (by assumption) ?rest0_18
  case hy0_18 => (intro w hSw; (try dsimp only at hSw); go_simp; try (with_reducible rfl))
  simp only [Act.put, List.getElem_toArray, List.getElem_cons_zero, List.getElem_cons_succ, List.setIfInBounds_toArray, List.set_cons_zero, List.set_cons_succ]
  refine wpAnyH_take (i := 1) (v := ?v1_19) rfl (by kernel_rfl) (by kernel_rfl) (by kernel_rfl) (fun _ _ _ h => h) (Or.inl ⟨by rfl, ?hy1_19⟩) (by assumption) ?rest1_19
  case hy1_19 => (intro w hSw; (try dsimp only at hSw); go_simp; try (with_reducible rfl))
  simp only [Act.put, List.getElem_toArray, List.getElem_cons_zero, List.getElem_cons_succ, List.setIfInBounds_toArray, List.set_cons_zero, List.set_cons_succ]
  refine wpAnyH_take (i := 2) (v := ?v2_20) rfl (by kernel_rfl) (by kernel_rfl) (by kernel_rfl) (fun _ _ _ h => h) (Or.inl ⟨by rfl, ?hy2_20⟩) (by assumption) ?rest2_20
  case hy2_20 => (intro w hSw; (try dsimp only at hSw); go_simp; try (with_reducible rfl))
  simp only [Act.put, List.getElem_toArray, List.getElem_cons_zero, List.getElem_cons_succ, List.setIfInBounds_toArray, List.set_cons_zero, List.set_cons_succ]
  refine wpAnyH_take (i := 3) (v := ?v3_21) rfl (by kernel_rfl) (by kernel_rfl) (by kernel_rfl) (fun _ _ _ h => h) (Or.inl ⟨by rfl, ?hy3_21⟩) (by assumption) ?rest3_21
  case hy3_21 => (intro w hSw; (try dsimp only at hSw); go_simp; try (with_reducible rfl))
  simp only [Act.put, List.getElem_toArray, List.getElem_cons_zero, List.getElem_cons_succ, List.setIfInBounds_toArray, List.set_cons_zero, List.set_cons_succ]
  refine wpAnyH_take (i := 4) (v := ?v4_22) rfl (by kernel_rfl) (by kernel_rfl) (by kernel_rfl) (fun _ _ _ h => h) (Or.inl ⟨by rfl, ?hy4_22⟩) (by assumption) ?rest4_22
  case hy4_22 => (intro w hSw; (try dsimp only at hSw); go_simp; try (with_reducible rfl))
  simp only [Act.put, List.getElem_toArray, List.getElem_cons_zero, List.getElem_cons_succ, List.setIfInBounds_toArray, List.set_cons_zero, List.set_cons_succ]
  refine wpAnyH_take (i := 7) (v := ?v7_23) rfl (by kernel_rfl) (by kernel_rfl) (by kernel_rfl) (fun _ _ _ h => h) (Or.inl ⟨by rfl, ?hy7_23⟩) (by assumption) ?rest7_23
  case hy7_23 => (intro w hSw; (try dsimp only at hSw); go_simp; try (with_reducible rfl))
  simp only [Act.put, List.getElem_toArray, List.getElem_cons_zero, List.getElem_cons_succ, List.setIfInBounds_toArray, List.set_cons_zero, List.set_cons_succ]
  refine wpAnyH_take (i := 8) (v := ?v8_24) rfl (by kernel_rfl) (by kernel_rfl) (by kernel_rfl) (fun _ _ _ h => h) (Or.inl ⟨by rfl, ?hy8_24⟩) (by assumption) ?rest8_24
  case hy8_24 => (intro w hSw; (try dsimp only at hSw); go_simp; try (with_reducible rfl))
  simp only [Act.put, List.getElem_toArray, List.getElem_cons_zero, List.getElem_cons_succ, List.setIfInBounds_toArray, List.set_cons_zero, List.set_cons_succ]
  refine wpAnyH_ready (rs := [5]) (by kernel_rfl) (by simp) ?_
  refine (AllReadyH.cons rfl (fun K hK => ?_) AllReadyH.nil)
  go_simp
  have LA := laid_any y1 (some ⟨b, o + 4, none⟩) (c - 4) M _ hS.2.2.out.tab (HM.out _ hS.2.2.out.bin) hMb (by simp) (by omega) e1 e2
  rw [hMl] at LA
  refine LA.mono ?_
  rintro e w3 ⟨v3, rfl, hA3, hb3⟩
  obtain ⟨q3, d3', rfl, hq3, _⟩ := hA3.slice
  have hne : ((strOfNums (fullB y1 M)).toList == (strOfNums l).toList) = false := by rw [str_inj _ _ (fullB_isB y1 M ⟨e1, e2⟩ hMb (by omega)) HL.out]; exact decide_eq_false HF.out
  have cv := hq3.convert (P := Tryd.prog) d3' 22 5 9 Tryd.underlying22 Tryd.underlying5 Tryd.underlying9
  have HI3 := Hid.mk' (hS.2.2.out.on hb3)
  clear hA3 hq3 hb3 LA
  go_wp2_with fail
  refine hK.out _ _ ?_ (fun hS' => ?_)
  · exact ⟨HC1.out _ HI3.out, HI3.out.conv HN.out c, HI3.out⟩
  clear hK K
  try simp only [Act.put, List.getElem_toArray, List.getElem_cons_zero, List.getElem_cons_succ, List.setIfInBounds_toArray, List.set_cons_zero, List.set_cons_succ]
  replace hS := hS'
  clear hS'
  refine wpAnyH_ready (rs := [6]) (by kernel_rfl) (by simp) ?_
  refine (AllReadyH.cons rfl (fun K hK => ?_) AllReadyH.nil)
  go_simp
  refine hK.out _ _ ?_ (fun hS' => ?_)
  · exact hS
  clear hK K
  try simp only [Act.put, List.getElem_toArray, List.getElem_cons_zero, List.getElem_cons_succ, List.setIfInBounds_toArray, List.set_cons_zero, List.set_cons_succ]
  replace hS := hS'
  clear hS'
  refine wpAnyH_take (i := 9) (v := ?v9_25) rfl (by kernel_rfl) (by kernel_rfl) (by kernel_rfl) (fun _ _ _ h => h) (Or.inl ⟨by rfl, ?hy9_25⟩) (by assumption) ?rest9_25
  case hy9_25 => (intro w hSw; (try dsimp only at hSw); go_simp; try (with_reducible rfl))
  simp only [Act.put, List.getElem_toArray, List.getElem_cons_zero, List.getElem_cons_succ, List.setIfInBounds_toArray, List.set_cons_zero, List.set_cons_succ]
  refine wpAnyH_done (by kernel_rfl) ?_ _
  have AW := awake4_any _ hS.2.2.out.tab
  go_wp2_with (go_at_call 9; refine AW.mono ?_; rintro e w' ⟨rfl, hb⟩)
  go_ret
  exact ⟨rfl, hS.2.2.out.below.trans (hb.mono hS.2.2.out.below.size)⟩

set_option maxRecDepth 10000 in
set_option maxHeartbeats 4000000 in
theorem walk (p0 : Option Addr) (c0 : Nat) (l0 : List Int) (w : World) (hT : Tab w) (hlc0 : l0.length ≤ c0) (hcm0 : c0 ≤ maxLen) (hp0 : p0 = none → c0 = 0) (hin0 : LIn w p0 1 (shInt .u8) l0) :
    Calls Tryd.prog 4 #[.slice p0 l0.length c0] w fun e w' => e = .returned (.bool true) ∧ Below w.heap.size w w' := by
  unfold maxLen at hcm0
  have hB := hin0.bytes
  have hb := hin0.isB
  clear hin0
  have AW := awake4_any w hT
  by_cases t1 : 300 < (l0.length : Int)
  · go_enter Tryd.func4, Tryd.ntmps4
    go_wp2_with (go_at_call 9; refine AW.mono ?_; rintro e w' ⟨rfl, hb⟩)
    go_ret
    exact ⟨rfl, hb⟩
  by_cases t2 : (l0.length : Int) < 8
  · have O := open_short p0 c0 l0.length w (by omega)
    go_enter Tryd.func4, Tryd.ntmps4
    go_wp2_with (first | (go_at_call 12; refine O.mono ?_; rintro e w' ⟨rfl, rfl⟩) | (go_at_call 9; refine AW.mono ?_; rintro e w' ⟨rfl, hb⟩))
    go_ret
    exact ⟨rfl, hb⟩
  obtain ⟨m, hm⟩ : ∃ m, l0.length = m + 8 := ⟨l0.length - 8, by omega⟩
  obtain ⟨b, o, rfl, _⟩ := hB (by omega)
  rw [hm]
  by_cases hf : formB l0
  · have h := open_iff l0 hb (by omega) (by omega) hf
    rw [hm, show m + 8 - 4 = m + 4 by omega] at h
    rcases h with ⟨h1, h2⟩ | ⟨h1, h2⟩
    · exact walk_ok b o c0 m l0 w hT hB hb hm (by omega) (by omega) (by omega) hf _ rfl h1 h2
    · exact walk_no b o c0 m l0 w hT hB hb hm (by omega) (by omega) (by omega) hf _ rfl h1 h2
  · exact walk_form b o c0 m l0 w hT hB hb hm (by omega) (by omega) (by omega) hf

theorem own : ownKnob Tryd.prog.godebug = none := by kernel_rfl
theorem laidOut : laidOutB Tryd.prog = true := by kernel_rfl

theorem door_met (os : Os) (args : Array Value) : laidMetH Tryd.prog Rows.frameOpensRow.laid ((World.doorLaid Tryd.prog 400 os).forCall (fun _ _ => 0) ⟨#[], args, []⟩).memory :=
  laidMetH_of_parts3 (fuel := 8) (laidMet_of_run' 8 (by kernel_rfl) (by kernel_rfl)) (by kernel_rfl) (by kernel_rfl)

set_option maxRecDepth 100000 in
theorem lifted (os : Os) (started : os.Started) (H : Type) (enc : TypeId × Value → H) :
    ReturnsInHanded {} Tryd.checked os 4 .any (fun w args => (Rows.frameOpensSpec.pre enc Tryd.prog Tryd.f4 [] false w args ∧ laidMetH Tryd.prog Rows.frameOpensRow.laid w) ∧ sizedMet enc Tryd.prog Tryd.f4 (OpenSpec.ofChange Rows.frameOpensSpec) false w args)
      (Rows.frameOpensSpec.post enc Tryd.prog Tryd.f4 false true false false) := by
  refine returnsInHanded_of_change_and (C := Tryd.checked) (X := (fun w _ => laidMetH Tryd.prog Rows.frameOpensRow.laid w)) (fun _ _ _ hh h => h.of_heap hh) own started (by kernel_rfl) Tryd.func4
    (ChangeSpec.witness_shaped (enc := enc) (C := Tryd.checked) (os := os) (X := (fun w _ => laidMetH Tryd.prog Rows.frameOpensRow.laid w)) false (World.doorLaid Tryd.prog 400 os) #[.slice none 0 0] 8 rfl (World.shaped_of_RefB (by kernel_rfl) (by kernel_rfl)) (by kernel_rfl) (by kernel_rfl) (by kernel_rfl) (door_met os _)) ?_
  intro W base args ds gs before hval0 hW _ hsz0 hL _
  have hval : ∀ (j : Nat) t v, Tryd.f4.params[j]? = some t → args[j]? = some v → Value.okWide Tryd.prog W .any base t v := hval0
  have hW' := hW
  obtain ⟨p, q, hA0, hV, rfl, hfz, hnd⟩ := hW
  have hA : DataW.TrodAll enc Tryd.prog W 0 (fun _ => true) true Tryd.f4.params.toList args.toList ds p := hA0
  rw [Tryd.params4] at hA hval
  obtain ⟨v0, vs0, d0, ds0, p0x, q0, hargs, rfl, rfl, h0, r0⟩ := trodAll_cons hA
  obtain ⟨rfl, rfl, rfl⟩ := trodAll_nil r0
  obtain rfl : args = #[v0] := by cases args; simp_all
  obtain ⟨rfl, rfl⟩ := trodVars_none hV
  obtain ⟨p0, len0, c0, rfl⟩ := okWide_slice Tryd.underlying22 (hval 0 22 v0 rfl rfl)
  have k0 := h0
  have lt0 : ∀ x ∈ p0x, x.block < W.heap.size := by obtain ⟨m, hm⟩ := k0; exact DataW.trod_lt m _ _ _ hm
  obtain ⟨l0, rfl, hlc0, hcm0, hp0, hin0⟩ : ∃ l : List Int, l.length = len0 ∧ len0 ≤ c0 ∧ c0 ≤ maxLen ∧ (p0 = none → c0 = 0) ∧ LIn W p0 1 (shInt .u8) l := by
    obtain ⟨fuel, hf⟩ := h0
    obtain ⟨l, p, c, hcs, hl1, hl2, hl3, hl4⟩ := opens_slice (size := 1) Tryd.underlying22 (by kernel_rfl) (by decide) (opens_int Tryd.underlying5) _ _ _ hf
    simp [Value.cells] at hcs
    obtain ⟨rfl, rfl, rfl⟩ := hcs
    exact ⟨l, rfl, hl1, hl2, hl3, hl4⟩
  clear hA0 hval0
  refine (walk p0 c0 l0 W (tab_of_laid (by kernel_rfl) (by simp [Rows.frameOpensRow]) hL) hlc0 hcm0 hp0 hin0).mono fun e W' ⟨he, bel⟩ => ?_
  subst he
  exact ⟨_, rfl, _, _, _, [], _, [], hW', trodAll_mk1 (shut_bool Tryd.underlying4 _), (trodAll_cons_mk (Below.trod laidOut (by kernel_rfl) (of_decide_eq_true (by kernel_rfl)) k0 bel lt0) trodAll_mk0), rfl, bel.frame _, fun h => by cases h⟩

theorem over : Rows.FrameOpensSaid :=
  OpenClaim.holds_of_wide 4 Tryd.f4 rfl rfl rfl rfl rfl rfl rfl ⟨rfl, rfl, rfl, rfl, rfl⟩ rfl rfl rfl rfl rfl (by kernel_rfl) Tryd.func4 (by kernel_rfl)
    (of_decide_eq_true (by kernel_rfl)) (by unfold Func.isWrapper; first | (rw [if_pos (by decide +kernel)]; kernel_rfl) | (rw [if_neg (by decide +kernel)]; exact ⟨rfl, rfl⟩))
    (fun os started H enc _ => lifted os started H enc)

/-- The given statement: the card, its variables tied to the program's text. -/
theorem proved : Rows.FrameOpensCardSaid :=
  Claim7.holds_tied_plain_at .later [] [.data] true (true, "16995b274c15820a6fde4b16dfa1e6fe51f8fc44bc953471aa0ce251eee9252c") false over (fun _ h => by cases h) (by kernel_rfl) (fun _ h => by cases h) frameOpens_row_tie rfl ⟨rfl, rfl⟩ (by kernel_rfl) rfl
    (fun f fn hf hfn => by
      obtain rfl : f = 4 := Option.some.inj ((show Tryd.prog.funcNamed "polyglot/polyglotlaw04.FrameOpens" = some 4 by kernel_rfl).symm.trans hf) |>.symm
      obtain rfl : fn = Tryd.f4 := (Option.some.inj (Tryd.func4.symm.trans hfn)).symm
      exact ⟨by kernel_rfl, fun j t ht => by
        rw [Tryd.params4] at ht
        have hm : t ∈ [22] := by simpa using Array.mem_of_getElem? ht
        have hall : ([22].all fun u => !Tryd.prog.wantsStandIn u) = true := by kernel_rfl
        exact (show Tryd.prog.wantsStandIn t = false by simpa using List.all_eq_true.1 hall t hm)⟩)
    (by kernel_rfl)
#print axioms proved
end Go.Proofs.YtecdagmeobiahaaDoor.frameOpens
