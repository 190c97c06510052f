/-
  Proved: the statement on layer 3's machines (CrcMachines) returns true at every input, and leaves its argument as it was; the package's table reads as the program's text lays it (the card ties it).
-/
import Derived.Test.YtlkljfpgphhpdaaDoorRows
import Derived.Test.YtlkljfpgphhpdaaDoorCards
import Derived.Test.YtlkljfpgphhpdaaDoorTie
import Derived.Test.YtlkljfpgphhpdaaDoorLaw03
import Derived.Test.YtlkljfpgphhpdaaDoorCrcMach
import Derived.Test.YtlkljfpgphhpdaaDoorShapes
import Derived.ShutString
import Derived.ChangeOld
import Derived.Stop.Joined
import Derived.SevenTiedAt
import Derived.Deep.RegionHeld3
namespace Go.Proofs.YtlkljfpgphhpdaaDoor.crcMachines
open Go Go.ChangeShapes Go.WideShapes Go.ChangeAt Go.RowKit
open Go.ChangeMaps (open_string shut_string)
set_option linter.unusedVariables false
set_option linter.unusedSimpArgs false

/-- The elements of a slice of slices of bytes. -/
theorem elem {w : World} {b o : Nat} {ls : List (List Int)} (h : LIn w (some ⟨b, o, none⟩) 1 (shSlice 1 (shInt .u8)) ls) (i : Nat) (hi : i < ls.length) :
    ∃ q c, w.cell? ⟨b, o + i, none⟩ = some (.slice q ls[i].length c) ∧ BIn w q ls[i] ∧ isB ls[i] ∧ ls[i].length ≤ c ∧ c ≤ maxLen := by
  obtain ⟨b', o', e, hc⟩ := h (by omega)
  simp at e
  obtain ⟨rfl, rfl⟩ := e
  obtain ⟨cs, hl, h1, q, c, rfl, h2, h3, h4, h5⟩ := hc i hi
  have := h1 0 (by omega)
  exact ⟨q, c, by simpa using this, h5.bytes, h5.isB, h2, h3⟩

/-- A sum in its turn. -/
theorem msum_turn (B g j : Nat) (q : Option Addr) (c : Nat) (l : List Int) (w : World) (h0 : j = 0 → Mach w g 0 0 (fun _ => 0) 0 0) (h1 : 0 < j → Mach w g 1 0 tabI 1 (j : Int)) (hj : j ≤ 8) (hB : B ≤ g) (hb : isB l) (hm : l.length ≤ 140737488355328) (hst : ∀ x, Below B w x → BIn x q l) :
    Calls Tryd.prog 14 #[.pointer (some ⟨g, 0, none⟩), .slice q l.length c] w fun e w' => e = .returned (.int .u32 ((sumB l : Nat) : Int)) ∧ Mach w' g 1 0 tabI 1 ((j : Int) + 1) ∧ Below B w w' := by
  rcases Nat.eq_zero_or_pos j with hz | hz
  · subst hz
    have := msum_first B g _ 0 0 q c l w (h0 rfl) hB hb hm hst
    rw [show wrap64 (0 + 1) = 1 by simp [wrap64]] at this
    exact this
  · have := msum_next B g 1 (j : Int) q c l w (h1 hz) hB hb hm hst
    rw [show wrap64 ((j : Int) + 1) = (j : Int) + 1 by unfold wrap64; omega] at this
    exact this

set_option maxRecDepth 10000 in
set_option maxHeartbeats 4000000 in
theorem walk (p0 : Option Addr) (c0 : Nat) (l0 : List (List Int)) (w : World) (hT : Tab w) (hlc0 : l0.length ≤ c0) (hcm0 : c0 ≤ maxLen) (hp0 : p0 = none → c0 = 0) (hin0 : LIn w p0 1 (shSlice 1 (shInt .u8)) l0) :
    Calls Tryd.prog 6 #[.slice p0 l0.length c0] w fun e w' => e = .returned (.bool true) ∧ Below w.heap.size w w' := by
  unfold maxLen at hcm0
  by_cases t : 8 < (l0.length : Int)
  · have AW := awake3_any w hT
    go_enter Tryd.func6, Tryd.ntmps6
    go_wp2_with (go_at_call 7; refine AW.mono ?_; rintro e w' ⟨rfl, hb⟩)
    go_ret
    exact ⟨rfl, hb⟩
  have NW := new_any w
  have HAW : Hid (∀ x, Below w.heap.size w x → Calls Tryd.prog 7 #[] x fun e w' => e = .returned (.bool true) ∧ Below w.heap.size w w') := fun x hx =>
    (awake3_any x (hT.below hx hT.pos)).mono fun e w' ⟨h1, h2⟩ => ⟨h1, hx.trans (h2.mono hx.size)⟩
  have HIN := Hid.mk' hin0
  clear hin0
  go_enter Tryd.func6, Tryd.ntmps6
  go_wp2_with (go_at_call 11; refine NW.mono ?_; rintro e w1 ⟨rfl, hM1, hs1, hB1⟩)
  have BU := built_any _ _ _ _ _ _ w1 hM1
  have SU := sums_any _ _ _ _ _ _ w1 hM1
  have HM1 : Hid (Mach w1 w.heap.size 0 0 (fun _ => 0) 0 0 ∧ Below w.heap.size w w1) := ⟨hM1, hB1⟩
  clear NW hM1 hB1 hs1
  go_wp2_with (first | (go_at_call 12; refine BU.mono ?_; rintro e w' ⟨rfl, rfl⟩) | (go_at_call 13; refine SU.mono ?_; rintro e w' ⟨rfl, rfl⟩))
  go_loopw [4] (fun i wr => ∃ j : Nat, j ≤ l0.length ∧ i = .int .i64 (j : Int) ∧ Hid ((j = 0 → Mach wr w.heap.size 0 0 (fun _ => 0) 0 0) ∧ (0 < j → Mach wr w.heap.size 1 0 tabI 1 (j : Int)) ∧ Below w.heap.size w wr)) (fun i _ => l0.length - (intOf i).toNat)
  case atStart => exact ⟨0, Nat.zero_le _, rfl, fun _ => HM1.out.1, fun h => absurd h (by omega), HM1.out.2⟩
  case round =>
    obtain ⟨j, hj, rfl, HM⟩ := hrel
    by_cases tj : j < l0.length
    · obtain ⟨b, o, rfl, _⟩ := HIN.out (by omega)
      obtain ⟨q, c, hcell, hq, hb, hlc, hcm⟩ := elem HIN.out j tj
      unfold maxLen at hcm
      have hcl : ∀ x, Below w.heap.size w x → x.cell? ⟨b, o + j, none⟩ = some (.slice q l0[j].length c) := fun x hx => by
        rw [World.cell?_of_block (w := w) (hx.block _ (lt_of_cell hcell))]; exact hcell
      have HQ : Hid (∀ x, Below w.heap.size w x → BIn x q l0[j]) := fun x hx => hq.below hx
      have HCL := Hid.mk' hcl
      have hcr := hcl wr HM.out.2.2
      clear hcell hq hcl
      by_cases tl : 100 < (l0[j].length : Int)
      · have AW := HAW.out wr HM.out.2.2
        generalize l0[j] = l at tl hcr hb hlc HQ HCL
        go_wp2_with (go_at_call 7; refine AW.mono ?_; rintro e w' ⟨rfl, hb⟩)
        go_ret
        exact ⟨rfl, hb⟩
      · generalize l0[j] = l at tl hcr hb hlc HQ HCL
        have hwr : IntKind.i64.wrap ((j : Int) + 1) = (j : Int) + 1 := by rw [IntKind.wrap_i64]; omega
        have hj0 : (0 : Int) ≤ (j : Int) := by omega
        go_wp2_with fail
        have hS0 : wr.drew.cell? ⟨b, o + j, none⟩ = some (.slice q l.length c) ∧ Hid (Below w.heap.size w wr.drew) := ⟨hcr, HM.out.2.2.drew⟩
        have HM' : Hid ((j = 0 → Mach wr.drew w.heap.size 0 0 (fun _ => 0) 0 0) ∧ (0 < j → Mach wr.drew w.heap.size 1 0 tabI 1 (j : Int))) := ⟨fun h => (HM.out.1 h).drew, fun h => (HM.out.2.1 h).drew⟩
        refine wp_region_held_drew (S := fun w' => w'.cell? ⟨b, o + j, none⟩ = some (.slice q l.length c) ∧ Hid (Below w.heap.size w w')) (by kernel_rfl) hS0 (fun hS => ?_)
        clear hS0 hcr
        generalize wr.drew = wd at hS HM' ⊢
        refine wpAnyH_take (i := 0) (v := ?v0_24) rfl (by kernel_rfl) (by kernel_rfl) (by kernel_rfl) (fun _ _ _ h => h) (Or.inl ⟨by rfl, ?hy0_24⟩) (by assumption) ?rest0_24
        case hy0_24 => (intro w hSw; (try dsimp only at hSw); go_simp; try (with_reducible rfl))
        simp only [Act.put, List.getElem_toArray, List.getElem_cons_zero, List.getElem_cons_succ, List.setIfInBounds_toArray, List.set_cons_zero, List.set_cons_succ]
        refine wpAnyH_take (i := 1) (v := ?v1_25) rfl (by kernel_rfl) (by kernel_rfl) (by kernel_rfl) (fun _ _ _ h => h) (Or.inl ⟨by rfl, ?hy1_25⟩) (by assumption) ?rest1_25
        case hy1_25 => (intro w hSw; (try dsimp only at hSw); go_simp; try (with_reducible rfl))
        simp only [Act.put, List.getElem_toArray, List.getElem_cons_zero, List.getElem_cons_succ, List.setIfInBounds_toArray, List.set_cons_zero, List.set_cons_succ]
        refine wpAnyH_take (i := 2) (v := ?v2_26) rfl (by kernel_rfl) (by kernel_rfl) (by kernel_rfl) (fun _ _ _ h => h) (Or.inl ⟨by rfl, ?hy2_26⟩) (by assumption) ?rest2_26
        case hy2_26 => (intro w hSw; (try dsimp only at hSw); go_simp; try (with_reducible rfl))
        simp only [Act.put, List.getElem_toArray, List.getElem_cons_zero, List.getElem_cons_succ, List.setIfInBounds_toArray, List.set_cons_zero, List.set_cons_succ]
        refine wpAnyH_take (i := 3) (v := ?v3_27) rfl (by kernel_rfl) (by kernel_rfl) (by kernel_rfl) (fun _ _ _ h => h) (Or.inl ⟨by rfl, ?hy3_27⟩) (by assumption) ?rest3_27
        case hy3_27 => (intro w hSw; (try dsimp only at hSw); go_simp; try (with_reducible rfl))
        simp only [Act.put, List.getElem_toArray, List.getElem_cons_zero, List.getElem_cons_succ, List.setIfInBounds_toArray, List.set_cons_zero, List.set_cons_succ]
        refine wpAnyH_take (i := 4) (v := ?v4_28) rfl (by kernel_rfl) (by kernel_rfl) (by kernel_rfl) (fun _ _ _ h => h) (Or.inl ⟨by rfl, ?hy4_28⟩) (by assumption) ?rest4_28
        case hy4_28 => (intro w hSw; (try dsimp only at hSw); go_simp; try (with_reducible rfl))
        simp only [Act.put, List.getElem_toArray, List.getElem_cons_zero, List.getElem_cons_succ, List.setIfInBounds_toArray, List.set_cons_zero, List.set_cons_succ]
        refine wpAnyH_take (i := 6) (v := ?v6_29) rfl (by kernel_rfl) (by kernel_rfl) (by kernel_rfl) (fun _ _ _ h => h) (Or.inl ⟨by rfl, ?hy6_29⟩) (by assumption) ?rest6_29
        case hy6_29 => (intro w hSw; (try dsimp only at hSw); go_simp; try (with_reducible rfl))
        simp only [Act.put, List.getElem_toArray, List.getElem_cons_zero, List.getElem_cons_succ, List.setIfInBounds_toArray, List.set_cons_zero, List.set_cons_succ]
        refine wpAnyH_take (i := 7) (v := ?v7_30) rfl (by kernel_rfl) (by kernel_rfl) (by kernel_rfl) (fun _ _ _ h => h) (Or.inl ⟨by rfl, ?hy7_30⟩) (by assumption) ?rest7_30
        case hy7_30 => (intro w hSw; (try dsimp only at hSw); go_simp; try (with_reducible rfl))
        simp only [Act.put, List.getElem_toArray, List.getElem_cons_zero, List.getElem_cons_succ, List.setIfInBounds_toArray, List.set_cons_zero, List.set_cons_succ]
        refine wpAnyH_take (i := 8) (v := ?v8_31) rfl (by kernel_rfl) (by kernel_rfl) (by kernel_rfl) (fun _ _ _ h => h) (Or.inl ⟨by rfl, ?hy8_31⟩) (by assumption) ?rest8_31
        case hy8_31 => (intro w hSw; (try dsimp only at hSw); go_simp; try (with_reducible rfl))
        simp only [Act.put, List.getElem_toArray, List.getElem_cons_zero, List.getElem_cons_succ, List.setIfInBounds_toArray, List.set_cons_zero, List.set_cons_succ]
        refine wpAnyH_take (i := 9) (v := ?v9_32) rfl (by kernel_rfl) (by kernel_rfl) (by kernel_rfl) (fun _ _ _ h => h) (Or.inl ⟨by rfl, ?hy9_32⟩) (by assumption) ?rest9_32
        case hy9_32 => (intro w hSw; (try dsimp only at hSw); go_simp; try (with_reducible rfl))
        simp only [Act.put, List.getElem_toArray, List.getElem_cons_zero, List.getElem_cons_succ, List.setIfInBounds_toArray, List.set_cons_zero, List.set_cons_succ]
        refine wpAnyH_ready (rs := [5]) (by kernel_rfl) (by simp) ?_
        refine (AllReadyH.cons rfl (fun K hK => ?_) AllReadyH.nil)
        go_simp
        refine (msum_turn w.heap.size w.heap.size j q c l wd HM'.out.1 HM'.out.2 (by omega) (Nat.le_refl _) hb (by omega) (fun x hx => HQ.out x (hS.2.out.trans hx))).mono ?_
        rintro e w2 ⟨rfl, hM2, hB2⟩
        have HM2 : Hid (Mach w2 w.heap.size 1 0 tabI 1 ((j : Int) + 1) ∧ Below w.heap.size w w2) := ⟨hM2, hS.2.out.trans hB2⟩
        clear hM2 hB2
        go_wp2_with fail
        refine hK.out _ _ ?_ (fun hS' => ?_)
        · exact ⟨HCL.out w2 HM2.out.2, HM2.out.2⟩
        clear hK K
        try simp only [Act.put, List.getElem_toArray, List.getElem_cons_zero, List.getElem_cons_succ, List.setIfInBounds_toArray, List.set_cons_zero, List.set_cons_succ]
        replace hS := hS'
        clear hS'
        refine wpAnyH_ready (rs := [10]) (by kernel_rfl) (by simp) ?_
        refine (AllReadyH.cons rfl (fun K hK => ?_) AllReadyH.nil)
        go_simp
        refine (refsum_any q c l w2 (HQ.out w2 HM2.out.2) hb (by omega)).mono ?_
        rintro e w' ⟨rfl, rfl⟩
        go_wp2_with fail
        refine hK.out _ _ ?_ (fun hS' => ?_)
        · exact hS
        clear hK K
        try simp only [Act.put, List.getElem_toArray, List.getElem_cons_zero, List.getElem_cons_succ, List.setIfInBounds_toArray, List.set_cons_zero, List.set_cons_succ]
        replace hS := hS'
        clear hS'
        refine wpAnyH_take (i := 11) (v := ?v11_33) rfl (by kernel_rfl) (by kernel_rfl) (by kernel_rfl) (fun _ _ _ h => h) (Or.inl ⟨by rfl, ?hy11_33⟩) (by assumption) ?rest11_33
        case hy11_33 => (intro w hSw; (try dsimp only at hSw); go_simp; try (with_reducible rfl))
        simp only [Act.put, List.getElem_toArray, List.getElem_cons_zero, List.getElem_cons_succ, List.setIfInBounds_toArray, List.set_cons_zero, List.set_cons_succ]
        refine wpAnyH_take (i := 12) (v := ?v12_34) rfl (by kernel_rfl) (by kernel_rfl) (by kernel_rfl) (fun _ _ _ h => h) (Or.inl ⟨by rfl, ?hy12_34⟩) (by assumption) ?rest12_34
        case hy12_34 => (intro w hSw; (try dsimp only at hSw); go_simp; try (with_reducible rfl))
        simp only [Act.put, List.getElem_toArray, List.getElem_cons_zero, List.getElem_cons_succ, List.setIfInBounds_toArray, List.set_cons_zero, List.set_cons_succ]
        refine wpAnyH_take (i := 13) (v := ?v13_35) rfl (by kernel_rfl) (by kernel_rfl) (by kernel_rfl) (fun _ _ _ h => h) (Or.inl ⟨by rfl, ?hy13_35⟩) (by assumption) ?rest13_35
        case hy13_35 => (intro w hSw; (try dsimp only at hSw); go_simp; try (with_reducible rfl))
        simp only [Act.put, List.getElem_toArray, List.getElem_cons_zero, List.getElem_cons_succ, List.setIfInBounds_toArray, List.set_cons_zero, List.set_cons_succ]
        refine wpAnyH_ready (rs := [14]) (by kernel_rfl) (by simp) ?_
        refine (AllReadyH.cons rfl (fun K hK => ?_) AllReadyH.nil)
        go_simp
        refine (built_any _ _ _ _ _ _ w2 HM2.out.1).mono ?_
        rintro e w' ⟨rfl, rfl⟩
        go_wp2_with fail
        refine hK.out _ _ ?_ (fun hS' => ?_)
        · exact hS
        clear hK K
        try simp only [Act.put, List.getElem_toArray, List.getElem_cons_zero, List.getElem_cons_succ, List.setIfInBounds_toArray, List.set_cons_zero, List.set_cons_succ]
        replace hS := hS'
        clear hS'
        refine wpAnyH_take (i := 15) (v := ?v15_36) rfl (by kernel_rfl) (by kernel_rfl) (by kernel_rfl) (fun _ _ _ h => h) (Or.inl ⟨by rfl, ?hy15_36⟩) (by assumption) ?rest15_36
        case hy15_36 => (intro w hSw; (try dsimp only at hSw); go_simp; try (with_reducible rfl))
        simp only [Act.put, List.getElem_toArray, List.getElem_cons_zero, List.getElem_cons_succ, List.setIfInBounds_toArray, List.set_cons_zero, List.set_cons_succ]
        refine wpAnyH_take (i := 16) (v := ?v16_37) rfl (by kernel_rfl) (by kernel_rfl) (by kernel_rfl) (fun _ _ _ h => h) (Or.inl ⟨by rfl, ?hy16_37⟩) (by assumption) ?rest16_37
        case hy16_37 => (intro w hSw; (try dsimp only at hSw); go_simp; try (with_reducible rfl))
        simp only [Act.put, List.getElem_toArray, List.getElem_cons_zero, List.getElem_cons_succ, List.setIfInBounds_toArray, List.set_cons_zero, List.set_cons_succ]
        refine wpAnyH_take (i := 17) (v := ?v17_38) rfl (by kernel_rfl) (by kernel_rfl) (by kernel_rfl) (fun _ _ _ h => h) (Or.inl ⟨by rfl, ?hy17_38⟩) (by assumption) ?rest17_38
        case hy17_38 => (intro w hSw; (try dsimp only at hSw); go_simp; try (with_reducible rfl))
        simp only [Act.put, List.getElem_toArray, List.getElem_cons_zero, List.getElem_cons_succ, List.setIfInBounds_toArray, List.set_cons_zero, List.set_cons_succ]
        refine wpAnyH_take (i := 18) (v := ?v18_39) rfl (by kernel_rfl) (by kernel_rfl) (by kernel_rfl) (fun _ _ _ h => h) (Or.inl ⟨by rfl, ?hy18_39⟩) (by assumption) ?rest18_39
        case hy18_39 => (intro w hSw; (try dsimp only at hSw); go_simp; try (with_reducible rfl))
        simp only [Act.put, List.getElem_toArray, List.getElem_cons_zero, List.getElem_cons_succ, List.setIfInBounds_toArray, List.set_cons_zero, List.set_cons_succ]
        refine wpAnyH_take (i := 20) (v := ?v20_40) rfl (by kernel_rfl) (by kernel_rfl) (by kernel_rfl) (fun _ _ _ h => h) (Or.inl ⟨by rfl, ?hy20_40⟩) (by assumption) ?rest20_40
        case hy20_40 => (intro w hSw; (try dsimp only at hSw); go_simp; try (with_reducible rfl))
        simp only [Act.put, List.getElem_toArray, List.getElem_cons_zero, List.getElem_cons_succ, List.setIfInBounds_toArray, List.set_cons_zero, List.set_cons_succ]
        refine wpAnyH_take (i := 21) (v := ?v21_41) rfl (by kernel_rfl) (by kernel_rfl) (by kernel_rfl) (fun _ _ _ h => h) (Or.inl ⟨by rfl, ?hy21_41⟩) (by assumption) ?rest21_41
        case hy21_41 => (intro w hSw; (try dsimp only at hSw); go_simp; try (with_reducible rfl))
        simp only [Act.put, List.getElem_toArray, List.getElem_cons_zero, List.getElem_cons_succ, List.setIfInBounds_toArray, List.set_cons_zero, List.set_cons_succ]
        refine wpAnyH_ready (rs := [19]) (by kernel_rfl) (by simp) ?_
        refine (AllReadyH.cons rfl (fun K hK => ?_) AllReadyH.nil)
        go_simp
        refine (sums_any _ _ _ _ _ _ w2 HM2.out.1).mono ?_
        rintro e w' ⟨rfl, rfl⟩
        go_wp2_with fail
        refine hK.out _ _ ?_ (fun hS' => ?_)
        · exact hS
        clear hK K
        try simp only [Act.put, List.getElem_toArray, List.getElem_cons_zero, List.getElem_cons_succ, List.setIfInBounds_toArray, List.set_cons_zero, List.set_cons_succ]
        replace hS := hS'
        clear hS'
        refine wpAnyH_take (i := 22) (v := ?v22_42) rfl (by kernel_rfl) (by kernel_rfl) (by kernel_rfl) (fun _ _ _ h => h) (Or.inl ⟨by rfl, ?hy22_42⟩) (by assumption) ?rest22_42
        case hy22_42 => (intro w hSw; (try dsimp only at hSw); go_simp; try (with_reducible rfl))
        simp only [Act.put, List.getElem_toArray, List.getElem_cons_zero, List.getElem_cons_succ, List.setIfInBounds_toArray, List.set_cons_zero, List.set_cons_succ]
        refine wpAnyH_take (i := 23) (v := ?v23_43) rfl (by kernel_rfl) (by kernel_rfl) (by kernel_rfl) (fun _ _ _ h => h) (Or.inl ⟨by rfl, ?hy23_43⟩) (by assumption) ?rest23_43
        case hy23_43 => (intro w hSw; (try dsimp only at hSw); go_simp; try (with_reducible rfl))
        simp only [Act.put, List.getElem_toArray, List.getElem_cons_zero, List.getElem_cons_succ, List.setIfInBounds_toArray, List.set_cons_zero, List.set_cons_succ]
        refine wpAnyH_done (by kernel_rfl) ?_ _
        go_wp2
        go_roundw
        case rel => exact ⟨j + 1, by omega, by go_num, fun h => absurd h (by omega), fun _ => by rw [show ((j + 1 : Nat) : Int) = (j : Int) + 1 by omega]; exact HM2.out.1, HM2.out.2⟩
        case measure => simp [intOf]; omega
    · have AW := HAW.out wr HM.out.2.2
      go_wp2_with (go_at_call 7; refine AW.mono ?_; rintro e w' ⟨rfl, hb⟩)
      go_ret
      exact ⟨rfl, hb⟩
theorem own : ownKnob Tryd.prog.godebug = none := by kernel_rfl
theorem laidOut : laidOutB Tryd.prog = true := by kernel_rfl

theorem door_met (os : Os) (args : Array Value) : laidMetH Tryd.prog Rows.crcMachinesRow.laid ((World.doorLaid Tryd.prog 400 os).forCall (fun _ _ => 0) ⟨#[], args, []⟩).memory :=
  laidMetH_of_parts3 (fuel := 8) (laidMet_of_run' 8 (by kernel_rfl) (by kernel_rfl)) (by kernel_rfl) (by kernel_rfl)

set_option maxRecDepth 100000 in
theorem lifted (os : Os) (started : os.Started) (H : Type) (enc : TypeId × Value → H) :
    ReturnsInHanded {} Tryd.checked os 6 .any (fun w args => (Rows.crcMachinesSpec.pre enc Tryd.prog Tryd.f6 [] false w args ∧ laidMetH Tryd.prog Rows.crcMachinesRow.laid w) ∧ sizedMet enc Tryd.prog Tryd.f6 (OpenSpec.ofChange Rows.crcMachinesSpec) false w args)
      (Rows.crcMachinesSpec.post enc Tryd.prog Tryd.f6 false true false false) := by
  refine returnsInHanded_of_change_and (C := Tryd.checked) (X := (fun w _ => laidMetH Tryd.prog Rows.crcMachinesRow.laid w)) (fun _ _ _ hh h => h.of_heap hh) own started (by kernel_rfl) Tryd.func6
    (ChangeSpec.witness_shaped (enc := enc) (C := Tryd.checked) (os := os) (X := (fun w _ => laidMetH Tryd.prog Rows.crcMachinesRow.laid w)) false (World.doorLaid Tryd.prog 400 os) #[.slice none 0 0] 8 rfl (World.shaped_of_RefB (by kernel_rfl) (by kernel_rfl)) (by kernel_rfl) (by kernel_rfl) (by kernel_rfl) (door_met os _)) ?_
  intro W base args ds gs before hval0 hW _ _ hL _
  have hval : ∀ (j : Nat) t v, Tryd.f6.params[j]? = some t → args[j]? = some v → Value.okWide Tryd.prog W .any base t v := hval0
  have hW' := hW
  obtain ⟨p, q, hA0, hV, rfl, hfz, hnd⟩ := hW
  have hA : DataW.TrodAll enc Tryd.prog W 0 (fun _ => true) true Tryd.f6.params.toList args.toList ds p := hA0
  rw [Tryd.params6] at hA hval
  obtain ⟨v0, vs0, d0, ds0, p0x, q0, hargs, rfl, rfl, h0, r0⟩ := trodAll_cons hA
  obtain ⟨rfl, rfl, rfl⟩ := trodAll_nil r0
  obtain rfl : args = #[v0] := by cases args; simp_all
  obtain ⟨rfl, rfl⟩ := trodVars_none hV
  obtain ⟨p0, len0, c0, rfl⟩ := okWide_slice Tryd.underlying31 (hval 0 31 v0 rfl rfl)
  have k0 := h0
  have lt0 : ∀ x ∈ p0x, x.block < W.heap.size := by obtain ⟨m, hm⟩ := k0; exact DataW.trod_lt m _ _ _ hm
  obtain ⟨l0, rfl, hlc0, hcm0, hp0, hin0⟩ : ∃ l : List (List Int), l.length = len0 ∧ len0 ≤ c0 ∧ c0 ≤ maxLen ∧ (p0 = none → c0 = 0) ∧ LIn W p0 1 (shSlice 1 (shInt .u8)) l := by
    obtain ⟨fuel, hf⟩ := h0
    obtain ⟨l, p, c, hcs, hl1, hl2, hl3, hl4⟩ := opens_slice (size := 1) Tryd.underlying31 (by kernel_rfl) (by decide) (opens_slice (size := 1) Tryd.underlying22 (by kernel_rfl) (by decide) (opens_int Tryd.underlying5)) _ _ _ hf
    simp [Value.cells] at hcs
    obtain ⟨rfl, rfl, rfl⟩ := hcs
    exact ⟨l, rfl, hl1, hl2, hl3, hl4⟩
  clear hA0 hval0
  refine (walk p0 c0 l0 W (tab_of_laid (by kernel_rfl) (by simp [Rows.crcMachinesRow]) hL) hlc0 hcm0 hp0 hin0).mono fun e W' ⟨he, bel⟩ => ?_
  subst he
  exact ⟨_, rfl, _, _, _, [], _, [], hW', trodAll_mk1 (shut_bool Tryd.underlying4 _), (trodAll_cons_mk (Below.trod laidOut (by kernel_rfl) (of_decide_eq_true (by kernel_rfl)) k0 bel lt0) trodAll_mk0), rfl, bel.frame _, fun h => by cases h⟩

theorem over : Rows.CrcMachinesSaid :=
  OpenClaim.holds_of_wide 6 Tryd.f6 rfl rfl rfl rfl rfl rfl rfl ⟨rfl, rfl, rfl, rfl, rfl⟩ rfl rfl rfl rfl rfl (by kernel_rfl) Tryd.func6 (by kernel_rfl)
    (of_decide_eq_true (by kernel_rfl)) (by unfold Func.isWrapper; first | (rw [if_pos (by decide +kernel)]; kernel_rfl) | (rw [if_neg (by decide +kernel)]; exact ⟨rfl, rfl⟩))
    (fun os started H enc _ => lifted os started H enc)

/-- The given statement: the card, its variables tied to the program's text. -/
theorem proved : Rows.CrcMachinesCardSaid :=
  Claim7.holds_tied_plain_at .later [] [.data] true (true, "5e2f1324bc4e4e770a9017a9228d2a9a59162323bd99a58c092da7a91d37423c") false over (fun _ h => by cases h) (by kernel_rfl) (fun _ h => by cases h) crcMachines_row_tie rfl ⟨rfl, rfl⟩ (by kernel_rfl) rfl
    (fun f fn hf hfn => by
      obtain rfl : f = 6 := Option.some.inj ((show Tryd.prog.funcNamed "polyglot/polyglotlaw03.CrcMachines" = some 6 by kernel_rfl).symm.trans hf) |>.symm
      obtain rfl : fn = Tryd.f6 := (Option.some.inj (Tryd.func6.symm.trans hfn)).symm
      exact ⟨by kernel_rfl, fun j t ht => by
        rw [Tryd.params6] at ht
        have hm : t ∈ [31] := by simpa using Array.mem_of_getElem? ht
        have hall : ([31].all fun u => !Tryd.prog.wantsStandIn u) = true := by kernel_rfl
        exact (show Tryd.prog.wantsStandIn t = false by simpa using List.all_eq_true.1 hall t hm)⟩)
    (by kernel_rfl)
#print axioms proved
end Go.Proofs.YtlkljfpgphhpdaaDoor.crcMachines
