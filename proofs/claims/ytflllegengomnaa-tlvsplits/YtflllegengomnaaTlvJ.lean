/-
  Package tlv: fault, length, put, Join; Num.
-/
import Derived.Test.YtflllegengomnaaTlvM
import Derived.Test.YtflllegengomnaaKnowB
import Derived.Deep.RegionHeld3
import Derived.RegionCalls
namespace Go.Proofs.Ytflllegengomnaa
open Go.RowKit
set_option linter.unusedSimpArgs false
set_option linter.unusedVariables false
set_option maxRecDepth 10000

/-- A field's box. -/
structure InBF (w : World) (f : Fd) (X : World) : Prop where
  below : Below w.heap.size w X
  box : X.heap[w.heap.size]? = some (.cells #[.int .i64 f.tag, .slice f.p f.d.length f.cap] 30 (0, 0))
theorem InBF.start (w : World) (f : Fd) : InBF w f (w.alloc (.cells #[.int .i64 f.tag, .slice f.p f.d.length f.cap] 30)) := ⟨(Below.refl _ _).alloc (Nat.le_refl _) _, heap_alloc_new _ _⟩

set_option maxHeartbeats 1600000 in
theorem tfault_any (f : Fd) (w : World) (hf : FOk w f) :
    Calls Try.prog 16 #[.agg #[.int .i64 f.tag, .slice f.p f.d.length f.cap]] w fun e w' => e = .returned (.int .i64 (fltK (ky f))) ∧ Below w.heap.size w w' := by
  have HB := Hid.mk' (InBF.start w f)
  have HV := Hid.mk' (show fltK (ky f) = if f.tag < 0 ∨ 255 < f.tag then 5 else if 65535 < f.d.length then 3 else 0 from rfl)
  have hcap := hf.few
  generalize fltK (ky f) = r at HV ⊢
  by_cases t1 : f.tag < 0
  · obtain rfl : r = 5 := by rw [HV.out, if_pos (.inl t1)]
    go_enter Try.func16, Try.ntmps16
    go_wp2_with fail
    go_ret
    exact ⟨rfl, HB.out.below⟩
  by_cases t2 : 255 < f.tag
  · obtain rfl : r = 5 := by rw [HV.out, if_pos (.inr t2)]
    go_enter Try.func16, Try.ntmps16
    go_wp2_with fail
    go_ret
    exact ⟨rfl, HB.out.below⟩
  by_cases t3 : 65535 < f.d.length
  · obtain rfl : r = 3 := by rw [HV.out, if_neg (by omega), if_pos t3]
    have t3' : (65535 : Int) < f.d.length := by omega
    go_enter Try.func16, Try.ntmps16
    go_wp2_with fail
    go_ret
    exact ⟨rfl, HB.out.below⟩
  · obtain rfl : r = 0 := by rw [HV.out, if_neg (by omega), if_neg t3]
    have t3' : ¬ (65535 : Int) < f.d.length := by omega
    go_enter Try.func16, Try.ntmps16
    go_wp2_with fail
    go_ret
    exact ⟨rfl, HB.out.below⟩

theorem made_two : madeCells #[Value.int .u8 0] 2 = #[.int .u8 0, .int .u8 0] := by simp [madeCells, Array.range, Array.ofFn_succ]
theorem two_BIn {w : World} {g : Nat} {x y : Int} {e : TypeId} (h : w.heap[g]? = some (.cells #[.int .u8 x, .int .u8 y] e (0, 0))) : BIn w (some ⟨g, 0, none⟩) [x, y] :=
  BIn.of_block (rest := []) (e := e) (f := (0, 0)) (by simpa using h)

set_option maxHeartbeats 1600000 in
theorem tlength_any (n : Int) (w : World) (h0 : 0 ≤ n) (h1 : n ≤ 65535) :
    Calls Try.prog 27 #[.int .i64 n] w fun e w' => ∃ g, e = .returned (.slice (some ⟨g, 0, none⟩) 2 2) ∧ BIn w' (some ⟨g, 0, none⟩) [n / 256 % 256, n % 256] ∧ Below w.heap.size w w' := by
  have hmk := fun w => run_make_row' (P := Try.prog) 25 5 (.int .u8 0) 1 Try.underlying25 infoA rfl .i64 .i64 2 (by omega) (by omega) w
  rw [made_two] at hmk
  simp only [Int.cast_ofNat_Int] at hmk
  go_enter Try.func27, Try.ntmps27
  go_wp2_with fail
  go_loopw [6] (fun i wr => ∃ j : Nat, j ≤ 2 ∧ i = .int .i64 j ∧ wr.heap[w.heap.size]? = some (.cells #[.int .u8 (if j = 2 then n / 256 % 256 else 0), .int .u8 (if j = 0 then 0 else n % 256)] 5 (0, 0)) ∧ Below w.heap.size w wr) (fun i _ => 2 - (intOf i).toNat)
  case atStart => exact ⟨0, by omega, rfl, by rw [heap_alloc_new]; rfl, (Below.refl _ _).alloc (Nat.le_refl _) _⟩
  case round =>
    obtain ⟨j, hj, rfl, hblk, hB⟩ := hrel
    obtain ⟨c0, c1, f0, f1⟩ := two_cells hblk
    by_cases e0 : j = 0
    · subst e0
      have HN := Hid.mk' (set_second hblk (.int .u8 (n % 256)))
      clear hblk
      simp only [if_true, Nat.reduceEqDiff, if_false, show ¬ (0 = 2) by decide] at c0 c1 HN
      go_wp2
      go_roundw
      case rel => exact ⟨1, by omega, by go_num, by simpa using HN.out, hB.setCell (Nat.le_refl _) _⟩
      case measure => simp [intOf]
    by_cases e1 : j = 1
    · subst e1
      have HN := Hid.mk' (set_first hblk (.int .u8 (n / 256 % 256)))
      clear hblk
      simp only [Nat.reduceEqDiff, if_false, show ¬ (1 = 2) by decide, show ¬ (1 = 0) by decide] at c0 c1 HN
      go_wp2
      go_roundw
      case rel => exact ⟨2, by omega, by go_num, by have h := HN.out; rw [show n / 256 % 256 = n / 256 by omega] at h ⊢; simpa using h, hB.setCell (Nat.le_refl _) _⟩
      case measure => simp [intOf]
    · obtain rfl : j = 2 := by omega
      simp only [if_true, Nat.reduceEqDiff, if_false, show ¬ (2 = 0) by decide] at hblk
      have HK := Hid.mk' hblk
      clear hblk c0 c1 f0 f1
      go_wp2
      go_ret
      exact ⟨_, rfl, two_BIn HK.out, hB⟩

theorem digB1 (z : Int) : digB 1 z = [z % 256] := by
  have e : z / 256 ^ (1 - 1 - 0) % 256 = z % 256 := by simp
  show [z / 256 ^ (1 - 1 - 0) % 256] = [z % 256]
  rw [e]

/-- What a box's cells say. -/
theorem InBF.two {w X : World} {f : Fd} (h : InBF w f X) : X.cell? ⟨w.heap.size, 0, none⟩ = some (.int .i64 f.tag) ∧ X.cell? ⟨w.heap.size, 1, none⟩ = some (.slice f.p f.d.length f.cap) := by
  obtain ⟨c0, c1, _⟩ := two_cells h.box
  exact ⟨c0, c1⟩

set_option maxHeartbeats 4000000 in
theorem tput_any (W0 : World) (b : Nat) (l : List Int) (f : Fd) (w : World) (h : WrB w W0.heap.size b l false) (hf : FOk W0 f) (hb : Below W0.heap.size W0 w) (hk : fltK (ky f) = 0) (hlen : l.length + f.d.length + 100 ≤ 140737488355328) :
    Calls Try.prog 17 #[.pointer (some ⟨b, 0, none⟩), .agg #[.int .i64 f.tag, .slice f.p f.d.length f.cap]] w fun e w' => e = .returned (.tuple #[]) ∧ WrB w' W0.heap.size b (l ++ encK (ky f)) false ∧ Below W0.heap.size W0 w' := by
  obtain ⟨⟨ht0, ht1⟩, hd⟩ := fltK_ok hk
  simp only [ky] at ht0 ht1 hd
  have HI := Hid.mk' (InBF.start w f)
  have HW := Hid.mk' (WrN.of h (.cells #[.int .i64 f.tag, .slice f.p f.d.length f.cap] 30))
  have HB := Hid.mk' (hb.alloc hb.size (.cells #[.int .i64 f.tag, .slice f.p f.d.length f.cap] 30))
  have HF := Hid.mk' hf
  have HNIL := Hid.mk' hf.nil
  have HE := Hid.mk' (show l ++ encK (ky f) = ((l ++ digB 1 f.tag) ++ [(f.d.length : Int) / 256 % 256, (f.d.length : Int) % 256]) ++ f.d by rw [digB1]; simp [encK, ky])
  have hcap := hf.few
  generalize l ++ encK (ky f) = L2 at HE ⊢
  clear h hf hb hk
  go_enter Try.func17, Try.ntmps17
  go_wp2_with fail
  generalize w.alloc (.cells #[.int .i64 f.tag, .slice f.p f.d.length f.cap] 30) = w1 at HI HW HB ⊢
  have hS0 : (w1.drew.cell? ⟨w.heap.size, 0, none⟩ = some (.int .i64 f.tag) ∧ w1.drew.cell? ⟨w.heap.size, 1, none⟩ = some (.slice f.p f.d.length f.cap)) ∧ Hid (w1.drew.heap[w.heap.size]? = some (.cells #[.int .i64 f.tag, .slice f.p f.d.length f.cap] 30 (0, 0))) := ⟨HI.out.two, HI.out.box⟩
  have HWd := Hid.mk' (HW.out.below (Below.refl _ _).drew)
  have HBd := Hid.mk' (show Below W0.heap.size W0 w1.drew from HB.out.drew)
  clear HI HW HB
  refine wp_region_held_drew (S := fun X => (X.cell? ⟨w.heap.size, 0, none⟩ = some (.int .i64 f.tag) ∧ X.cell? ⟨w.heap.size, 1, none⟩ = some (.slice f.p f.d.length f.cap)) ∧ Hid (X.heap[w.heap.size]? = some (.cells #[.int .i64 f.tag, .slice f.p f.d.length f.cap] 30 (0, 0)))) (by kernel_rfl) hS0 (fun hS => ?_)
  clear hS0
  generalize w1.drew = wd at hS HWd HBd ⊢
  have hl2 : ∀ k : Nat, k = (l ++ digB 1 f.tag).length → k = l.length + 1 := fun k hk => by rw [hk, List.length_append, digB_len]
  refine wpAnyH_take (i := 0) (v := ?v0_1) rfl (by kernel_rfl) (by kernel_rfl) (by kernel_rfl) (fun _ _ _ h => h) (Or.inl ⟨by rfl, ?hy0_1⟩) (by assumption) ?rest0_1
  case hy0_1 => (intro w hSw; (try dsimp only at hSw); go_simp; try (with_reducible rfl))
  simp only [Act.put, List.getElem_toArray, List.getElem_cons_zero, List.getElem_cons_succ, List.setIfInBounds_toArray, List.set_cons_zero, List.set_cons_succ]
  refine wpAnyH_take (i := 1) (v := ?v1_2) rfl (by kernel_rfl) (by kernel_rfl) (by kernel_rfl) (fun _ _ _ h => h) (Or.inl ⟨by rfl, ?hy1_2⟩) (by assumption) ?rest1_2
  case hy1_2 => (intro w hSw; (try dsimp only at hSw); go_simp; try (with_reducible rfl))
  simp only [Act.put, List.getElem_toArray, List.getElem_cons_zero, List.getElem_cons_succ, List.setIfInBounds_toArray, List.set_cons_zero, List.set_cons_succ]
  refine wpAnyH_take (i := 2) (v := ?v2_3) rfl (by kernel_rfl) (by kernel_rfl) (by kernel_rfl) (fun _ _ _ h => h) (Or.inl ⟨by rfl, ?hy2_3⟩) (by assumption) ?rest2_3
  case hy2_3 => (intro w hSw; (try dsimp only at hSw); go_simp; try (with_reducible rfl))
  simp only [Act.put, List.getElem_toArray, List.getElem_cons_zero, List.getElem_cons_succ, List.setIfInBounds_toArray, List.set_cons_zero, List.set_cons_succ]
  refine wpAnyH_take (i := 4) (v := ?v4_4) rfl (by kernel_rfl) (by kernel_rfl) (by kernel_rfl) (fun _ _ _ h => h) (Or.inl ⟨by rfl, ?hy4_4⟩) (by assumption) ?rest4_4
  case hy4_4 => (intro w hSw; (try dsimp only at hSw); go_simp; try (with_reducible rfl))
  simp only [Act.put, List.getElem_toArray, List.getElem_cons_zero, List.getElem_cons_succ, List.setIfInBounds_toArray, List.set_cons_zero, List.set_cons_succ]
  refine wpAnyH_take (i := 5) (v := ?v5_5) rfl (by kernel_rfl) (by kernel_rfl) (by kernel_rfl) (fun _ _ _ h => h) (Or.inl ⟨by rfl, ?hy5_5⟩) (by assumption) ?rest5_5
  case hy5_5 => (intro w hSw; (try dsimp only at hSw); go_simp; try (with_reducible rfl))
  simp only [Act.put, List.getElem_toArray, List.getElem_cons_zero, List.getElem_cons_succ, List.setIfInBounds_toArray, List.set_cons_zero, List.set_cons_succ]
  refine wpAnyH_take (i := 6) (v := ?v6_6) rfl (by kernel_rfl) (by kernel_rfl) (by kernel_rfl) (fun _ _ _ h => h) (Or.inl ⟨by rfl, ?hy6_6⟩) (by assumption) ?rest6_6
  case hy6_6 => (intro w hSw; (try dsimp only at hSw); go_simp; try (with_reducible rfl))
  simp only [Act.put, List.getElem_toArray, List.getElem_cons_zero, List.getElem_cons_succ, List.setIfInBounds_toArray, List.set_cons_zero, List.set_cons_succ]
  refine wpAnyH_take (i := 9) (v := ?v9_7) rfl (by kernel_rfl) (by kernel_rfl) (by kernel_rfl) (fun _ _ _ h => h) (Or.inl ⟨by rfl, ?hy9_7⟩) (by assumption) ?rest9_7
  case hy9_7 => (intro w hSw; (try dsimp only at hSw); go_simp; try (with_reducible rfl))
  simp only [Act.put, List.getElem_toArray, List.getElem_cons_zero, List.getElem_cons_succ, List.setIfInBounds_toArray, List.set_cons_zero, List.set_cons_succ]
  refine wpAnyH_take (i := 10) (v := ?v10_8) rfl (by kernel_rfl) (by kernel_rfl) (by kernel_rfl) (fun _ _ _ h => h) (Or.inl ⟨by rfl, ?hy10_8⟩) (by assumption) ?rest10_8
  case hy10_8 => (intro w hSw; (try dsimp only at hSw); go_simp; try (with_reducible rfl))
  simp only [Act.put, List.getElem_toArray, List.getElem_cons_zero, List.getElem_cons_succ, List.setIfInBounds_toArray, List.set_cons_zero, List.set_cons_succ]
  refine wpAnyH_ready (rs := [3]) (by kernel_rfl) (by simp) ?_
  refine (AllReadyH.cons rfl (fun K hK => ?_) AllReadyH.nil)
  go_simp
  refine (numN W0.heap.size b w.heap.size l 1 f.tag wd HWd.out (by omega) (by omega) ht0 (lt1 ht1) (by omega) (by omega)).mono ?_
  rintro e x3 ⟨rfl, hW3, hB3, hx3⟩
  have hbx3 := hx3.trans hS.2.out
  have HW3 := Hid.mk' hW3
  have HB3 := Hid.mk' (HBd.out.trans hB3)
  have hc3 := two_cells hbx3
  clear hW3 hB3 hx3 HWd HBd
  go_wp2_with fail
  refine hK.out _ _ ?_ (fun hS' => ?_)
  · exact ⟨⟨hc3.1, hc3.2.1⟩, Hid.mk' hbx3⟩
  clear hK K
  try simp only [Act.put, List.getElem_toArray, List.getElem_cons_zero, List.getElem_cons_succ, List.setIfInBounds_toArray, List.set_cons_zero, List.set_cons_succ]
  replace hS := hS'
  clear hS'
  refine wpAnyH_ready (rs := [7]) (by kernel_rfl) (by simp) ?_
  refine (AllReadyH.cons rfl (fun K hK => ?_) AllReadyH.nil)
  go_simp
  refine (tlength_any (f.d.length : Int) x3 (by omega) (by omega)).mono ?_
  rintro e x7 ⟨g7, rfl, hb7, hB7⟩
  have hbx7 := box_bel hbx3 hB7
  have HW7 := Hid.mk' (HW3.out.below hB7)
  have HB7 := Hid.mk' (HB3.out.trans (hB7.mono HB3.out.size))
  have HL7 := Hid.mk' hb7
  have hc7 := two_cells hbx7
  clear hb7 hB7 HW3 HB3 hc3
  go_wp2_with fail
  refine hK.out _ _ ?_ (fun hS' => ?_)
  · exact ⟨⟨hc7.1, hc7.2.1⟩, Hid.mk' hbx7⟩
  clear hK K
  try simp only [Act.put, List.getElem_toArray, List.getElem_cons_zero, List.getElem_cons_succ, List.setIfInBounds_toArray, List.set_cons_zero, List.set_cons_succ]
  replace hS := hS'
  clear hS'
  refine wpAnyH_ready (rs := [8]) (by kernel_rfl) (by simp) ?_
  refine (AllReadyH.cons rfl (fun K hK => ?_) AllReadyH.nil)
  go_simp
  refine (rawN W0.heap.size b w.heap.size (l ++ digB 1 f.tag) [(f.d.length : Int) / 256 % 256, (f.d.length : Int) % 256] (some ⟨g7, 0, none⟩) 2 x7 HW7.out HL7.out (by intro y hy; simp at hy; omega) (by simp) (by rw [List.length_append, digB_len]; simp; omega)).mono ?_
  rintro e x8 ⟨rfl, hW8, hB8, hx8⟩
  have hbx8 := hx8.trans hbx7
  have HW8 := Hid.mk' hW8
  have HB8 := Hid.mk' (HB7.out.trans hB8)
  have hc8 := two_cells hbx8
  clear hW8 hB8 hx8 HW7 HB7 HL7 hc7
  go_wp2_with fail
  refine hK.out _ _ ?_ (fun hS' => ?_)
  · exact ⟨⟨hc8.1, hc8.2.1⟩, Hid.mk' hbx8⟩
  clear hK K
  try simp only [Act.put, List.getElem_toArray, List.getElem_cons_zero, List.getElem_cons_succ, List.setIfInBounds_toArray, List.set_cons_zero, List.set_cons_succ]
  replace hS := hS'
  clear hS'
  refine wpAnyH_ready (rs := [11]) (by kernel_rfl) (by simp) ?_
  refine (AllReadyH.cons rfl (fun K hK => ?_) AllReadyH.nil)
  go_simp
  refine (rawN W0.heap.size b w.heap.size ((l ++ digB 1 f.tag) ++ [(f.d.length : Int) / 256 % 256, (f.d.length : Int) % 256]) f.d f.p f.cap x8 HW8.out (HF.out.below HB8.out).bin HF.out.isb HNIL.out (by simp only [List.length_append, digB_len, List.length_cons, List.length_nil]; omega)).mono ?_
  rintro e x11 ⟨rfl, hW11, hB11, hx11⟩
  have hbx11 := hx11.trans hbx8
  have HW11 := Hid.mk' hW11
  have HB11 := Hid.mk' (HB8.out.trans hB11)
  have hc11 := two_cells hbx11
  clear hW11 hB11 hx11 HW8 HB8 hc8
  go_wp2_with fail
  refine hK.out _ _ ?_ (fun hS' => ?_)
  · exact ⟨⟨hc11.1, hc11.2.1⟩, Hid.mk' hbx11⟩
  clear hK K
  try simp only [Act.put, List.getElem_toArray, List.getElem_cons_zero, List.getElem_cons_succ, List.setIfInBounds_toArray, List.set_cons_zero, List.set_cons_succ]
  replace hS := hS'
  clear hS'
  refine wpAnyH_done (by kernel_rfl) ?_ _
  go_wp2_with fail
  go_end0
  exact ⟨rfl, by rw [HE.out]; exact HW11.out.b, HB11.out⟩
end Go.Proofs.Ytflllegengomnaa
