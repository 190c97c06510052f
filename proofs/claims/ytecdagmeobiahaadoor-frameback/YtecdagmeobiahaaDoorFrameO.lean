/-
  Package frame: Open.
-/
import Derived.Test.YtecdagmeobiahaaDoorFrame
import Derived.Deep.RegionHeld3
import Derived.RegionCalls
namespace Go.Proofs.YtecdagmeobiahaaDoor
open Go.RowKit
set_option linter.unusedSimpArgs false
set_option linter.unusedVariables false

/-- What stays over the region that reads the sum. -/
structure InO (w0 : World) (b o : Nat) (l : List Int) (w : World) : Prop where
  tab : Tab w
  bin : BIn w (some ⟨b, o, none⟩) l
  below : Below w0.heap.size w0 w

/-- At block g lies the row that was laid for 'sum'. -/
def Built (v : Value) (g : Nat) (w : World) : Prop := w.heap[g]? = some (.cells #[v] 22 (0, 0))

theorem InO.alloc {w0 w : World} {b o : Nat} {l : List Int} (h : InO w0 b o l w) (x : Obj) : InO w0 b o l (w.alloc x) :=
  have k : Below w.heap.size w (w.alloc x) := (Below.refl _ _).alloc (Nat.le_refl _) _
  ⟨h.tab.below k h.tab.pos, h.bin.below k, h.below.alloc h.below.size _⟩

theorem InO.on {w0 w w' : World} {b o : Nat} {l : List Int} (h : InO w0 b o l w) (k : Below w.heap.size w w') : InO w0 b o l w' :=
  ⟨h.tab.below k h.tab.pos, h.bin.below k, h.below.trans (k.mono h.below.size)⟩

theorem InO.built {w0 w : World} {b o : Nat} {l : List Int} (h : InO w0 b o l w) (v : Value) : Built v w.heap.size (w.alloc (.cells #[v] 22)) := heap_alloc_new _ _

theorem Built.lt {v : Value} {g : Nat} {w : World} (h : Built v g w) : g < w.heap.size := (Array.getElem?_eq_some_iff.1 h).1

theorem Built.on {v : Value} {g : Nat} {w w' : World} (h : Built v g w) (k : Below w.heap.size w w') : Built v g w' := by
  unfold Built; rw [k.block g h.lt]; exact h

theorem Built.fr {v : Value} {g b : Nat} {w w' : World} (h : Built v g w) (k : Fr (fun i => i = b) w w') (hn : g ≠ b) : Built v g w' := by
  unfold Built; rw [k.block g h.lt hn]; exact h

theorem InO.fr {w0 w w' : World} {b o k : Nat} {l : List Int} (h : InO w0 b o l w) (hb : b < w0.heap.size) (ht : 1 < w0.heap.size) (f : Fr (fun i => i = k) w w') (hk : w0.heap.size ≤ k) : InO w0 b o l w' :=
  ⟨h.tab.fr f (by omega), h.bin.fr f (fun a ha _ q => by cases ha; simp at q; omega), h.below.trans (f.below (fun i q => by omega) h.below.size)⟩

theorem RdQ.lt {Q : Nat → Prop} {w : World} {b : Nat} {l : List Int} {bad : Bool} (h : RdQ Q w b l bad) : b < w.heap.size := by
  obtain ⟨p, c, h1, _⟩ := h
  exact (Array.getElem?_eq_some_iff.1 h1).1

/-- 'sum' of the row that was laid. -/
theorem sum_built {w0 w : World} {b o g c n : Nat} {l t : List Int} (h : InO w0 b o l w) (hg : Built (.slice (some ⟨b, o, none⟩) n c) g w) (ht : t = l.take n) (hn : t.length = n) (hb : isB t) (hm : n ≤ 140737488355328) :
    Calls Tryd.prog 27 #[.slice (some ⟨g, 0, none⟩) 1 1] w fun e w' => e = .returned (.int .i64 ((sumB t : Nat) : Int)) ∧ w = w' := by
  have h := sum_parts (some ⟨g, 0, none⟩) 1 [t] w h.tab (fun _ => ⟨g, 0, rfl, fun i hi => by
    obtain rfl : i = 0 := by simp at hi; omega
    refine ⟨some ⟨b, o, none⟩, c, ?_, by rw [ht]; exact h.bin.take n, hb, by simp only [List.getElem_cons_zero]; omega⟩
    have hg' : w.heap[g]? = some (.cells #[.slice (some ⟨b, o, none⟩) n c] 22 (0, 0)) := hg
    simp [World.cell?, hg', hn]⟩) (by simp) (by simpa using hb)
  simp only [List.flatten_cons, List.flatten_nil, List.append_nil] at h
  exact h

theorem own4_ex (p : Option Addr) (c m : Nat) (l : List Int) (w : World) (hB : BIn w p l) (hn : l.length ≤ 140737488355328) (hm : l.length = m) :
    Calls Tryd.prog 28 #[.slice p m c] w fun e w' => ∃ g, e = .returned (.slice (some ⟨g, 0, none⟩) m m) ∧ Hid (BIn w' (some ⟨g, 0, none⟩) l) ∧ Below w.heap.size w w' := by
  subst hm
  refine (own4_any p c l w hB hn).mono ?_
  rintro e w' ⟨rfl, h1, h2⟩
  exact ⟨_, rfl, Hid.mk' (BIn.of_block (rest := []) (by simpa [cellsB] using h1)), h2⟩

set_option maxHeartbeats 400000 in
theorem open_long (p : Option Addr) (c n : Nat) (w : World) (h : 65507 < n) (hc : n ≤ 9223372036854775807) :
    Calls Tryd.prog 12 #[.slice p n c] w fun e w' => e = .returned (.tuple #[.int .i64 0, .slice none 0 0, .int .i64 3]) ∧ w = w' := by
  have h1 : 65507 < (n : Int) := by omega
  go_enter Tryd.func12, Tryd.ntmps12
  go_wp2
  go_ret3
  exact ⟨rfl, rfl⟩

set_option maxHeartbeats 400000 in
theorem open_short (p : Option Addr) (c n : Nat) (w : World) (h : n < 8) :
    Calls Tryd.prog 12 #[.slice p n c] w fun e w' => e = .returned (.tuple #[.int .i64 0, .slice none 0 0, .int .i64 2]) ∧ w = w' := by
  have h1 : ¬ 65507 < (n : Int) := by omega
  have h2 : (n : Int) < 8 := by omega
  go_enter Tryd.func12, Tryd.ntmps12
  go_wp2
  go_ret3
  exact ⟨rfl, rfl⟩

set_option maxRecDepth 10000 in
set_option maxHeartbeats 3200000 in
theorem open_more (b o : Nat) (c m : Nat) (l : List Int) (w : World) (hT : Tab w) (hB : BIn w (some ⟨b, o, none⟩) l) (hl : isB l) (hn : l.length = m + 8) (hm : m ≤ 65499) (hlc : m + 8 ≤ c) (hcm : c ≤ 9223372036854775807) :
    Calls Tryd.prog 12 #[.slice (some ⟨b, o, none⟩) (m + 8) c] w fun e w' => ∃ p' c', e = .returned (.tuple #[.int .i64 (openR l).1, .slice p' (openR l).2.1.length c', .int .i64 (openR l).2.2]) ∧ BIn w' p' (openR l).2.1 ∧ Below w.heap.size w w' := by
  have hbw : b < w.heap.size := by
    obtain ⟨b', o', e, hc⟩ := hB (by omega)
    cases e
    exact lt_of_cell (hc 0 (by omega))
  have h4 := getD_take4 l (by omega)
  have G := genOf_any (some ⟨b, o, none⟩) c (l.getD 0 0) (l.getD 1 0) (l.getD 2 0) (l.getD 3 0) m w (by rw [← h4]; exact hB.take 4) (by rw [← h4]; exact hl.take 4)
  have hm1 : ¬ 65507 < (m : Int) + 8 := by omega
  have hm2 : ¬ (m : Int) + 8 < 8 := by omega
  have hm3 : (m : Int) + 8 - 4 = (m : Int) + 4 := by omega
  have hm4 : (m : Int) + 4 - 4 = (m : Int) := by omega
  have hc4 : (4 : Int) ≤ (c : Int) := by omega
  have HB := Hid.mk' hB
  have HG := Hid.mk' (show genR (l.getD 0 0) (l.getD 1 0) (l.getD 2 0) (l.getD 3 0) m = decide (formB l) from decide_eq_decide.2 (by unfold formB; rw [hn, show ((m + 8 : Nat) : Int) - 8 = (m : Int) by omega]))
  have HF := Hid.mk' (openR_form l (by omega) (by omega))
  have HS := Hid.mk' (openR_sum l (by omega) (by omega))
  have HO := Hid.mk' (openR_ok l (by omega) (by omega))
  rw [hn, show m + 8 - 4 = m + 4 by omega] at HS HO
  clear hB h4
  by_cases hf : formB l
  · rw [HG.out, decide_eq_true hf] at G
    have hD : (l.drop (m + 4)).length = 4 := by simp; omega
    have hDt : (l.drop (m + 4)).take 4 = l.drop (m + 4) := List.take_of_length_le (by omega)
    have hDb := hl.drop (m + 4)
    have hTl : (l.take (m + 4)).length = m + 4 := by simp; omega
    have hTb := hl.take (m + 4)
    have HD := Hid.mk' (fun x (h : BIn x (some ⟨b, o, none⟩) l) => BIn.drop h (m + 4))
    have HM := Hid.mk' (fun x (h : BIn x (some ⟨b, o, none⟩) l) => BIn.drop (h.take (m + 4)) 4)
    have hMl : ((l.take (m + 4)).drop 4).length = m := by simp; omega
    have hTT : Hid (l.take (m + 4) = l.take (m + 4)) := rfl
    generalize l.drop (m + 4) = D at hD hDt hDb HD HS HO
    generalize hTe : l.take (m + 4) = T at hTl hTb HM hMl HS HO
    have HS := Hid.mk' (HS.out hf)
    have HO := Hid.mk' (HO.out hf)
    have HTe := Hid.mk' hTe.symm
    generalize T.drop 4 = M at HM hMl HO
    generalize l.getD 1 0 = x1 at G HO
    have hpos := hT.pos
    have hcd : ¬ c = m + 4 := by omega
    have hc5 : ¬ c = 4 := by omega
    have hc6 : (m : Int) + 4 ≤ (c : Int) := by omega
    have hc7 : ¬ (m + 4 < 4) := by omega
    have hq1 : (0 : Int) ≤ (m : Int) + 4 := by omega
    have hq2 : ((m : Int) + 4).toNat = m + 4 := by omega
    have hq3 : m + 8 - (m + 4) = 4 := by omega
    clear hTT hTe hf
    go_enter Tryd.func12, Tryd.ntmps12
    go_wp2_with fail
    refine G.mono ?_
    rintro e w1 ⟨rfl, hb1⟩
    have HI := Hid.mk' (show InO w b o l w1 from ⟨hT.below hb1 hT.pos, HB.out.below hb1, hb1⟩)
    clear hb1 G
    go_wp2_with fail
    have hS0 : InO w b o l w1.drew := ⟨HI.out.tab, HI.out.bin, HI.out.below.drew⟩
    refine wp_region_held_drew (S := InO w b o l) (by kernel_rfl) hS0 (fun hS => ?_)
    clear hS0 HI
    generalize w1.drew = wd at hS ⊢
    refine wpAnyH_take (i := 0) (v := ?v0_1) rfl (by kernel_rfl) (by kernel_rfl) (by kernel_rfl) (fun _ _ _ h => h) (Or.inl ⟨by rfl, ?hy0_1⟩) (by assumption) ?rest0_1
    case hy0_1 => (intro w hSw; (try dsimp only at hSw); go_simp; try (with_reducible rfl))
    simp only [Act.put, List.getElem_toArray, List.getElem_cons_zero, List.getElem_cons_succ, List.setIfInBounds_toArray, List.set_cons_zero, List.set_cons_succ]
    refine wpAnyH_take (i := 1) (v := ?v1_2) rfl (by kernel_rfl) (by kernel_rfl) (by kernel_rfl) (fun _ _ _ h => h) (Or.inl ⟨by rfl, ?hy1_2⟩) (by assumption) ?rest1_2
    case hy1_2 => (intro w hSw; (try dsimp only at hSw); go_simp; try (with_reducible rfl))
    simp only [Act.put, List.getElem_toArray, List.getElem_cons_zero, List.getElem_cons_succ, List.setIfInBounds_toArray, List.set_cons_zero, List.set_cons_succ]
    refine wpAnyH_take (i := 2) (v := ?v2_3) rfl (by kernel_rfl) (by kernel_rfl) (by kernel_rfl) (fun _ _ _ h => h) (Or.inl ⟨by rfl, ?hy2_3⟩) (by assumption) ?rest2_3
    case hy2_3 => (intro w hSw; (try dsimp only at hSw); go_simp; try (with_reducible rfl))
    simp only [Act.put, List.getElem_toArray, List.getElem_cons_zero, List.getElem_cons_succ, List.setIfInBounds_toArray, List.set_cons_zero, List.set_cons_succ]
    refine wpAnyH_take (i := 5) (v := ?v5_4) rfl (by kernel_rfl) (by kernel_rfl) (by kernel_rfl) (fun _ _ _ h => h) (Or.inl ⟨by rfl, ?hy5_4⟩) (by assumption) ?rest5_4
    case hy5_4 => (intro w hSw; (try dsimp only at hSw); go_simp; try (with_reducible rfl))
    simp only [Act.put, List.getElem_toArray, List.getElem_cons_zero, List.getElem_cons_succ, List.setIfInBounds_toArray, List.set_cons_zero, List.set_cons_succ]
    refine wpAnyH_take (i := 6) (v := ?v6_5) rfl (by kernel_rfl) (by kernel_rfl) (by kernel_rfl) (fun _ _ _ h => h) (Or.inl ⟨by rfl, ?hy6_5⟩) (by assumption) ?rest6_5
    case hy6_5 => (intro w hSw; (try dsimp only at hSw); go_simp; try (with_reducible rfl))
    simp only [Act.put, List.getElem_toArray, List.getElem_cons_zero, List.getElem_cons_succ, List.setIfInBounds_toArray, List.set_cons_zero, List.set_cons_succ]
    refine wpAnyH_take (i := 7) (v := ?v7_6) rfl (by kernel_rfl) (by kernel_rfl) (by kernel_rfl) (fun _ _ _ h => h) (Or.inl ⟨by rfl, ?hy7_6⟩) (by assumption) ?rest7_6
    case hy7_6 => (intro w hSw; (try dsimp only at hSw); go_simp; try (with_reducible rfl))
    simp only [Act.put, List.getElem_toArray, List.getElem_cons_zero, List.getElem_cons_succ, List.setIfInBounds_toArray, List.set_cons_zero, List.set_cons_succ]
    refine wpAnyH_ready (rs := [3, 8]) (by kernel_rfl) (by simp) ?_
    refine (AllReadyH.cons rfl (fun K hK => ?_) (AllReadyH.cons rfl (fun K hK => ?_) AllReadyH.nil))
    · skip
      go_simp
      have R := read_at (some ⟨b, o + (m + 4), none⟩) (c - (m + 4)) D _ (HD.out _ hS.bin) hDb (by omega)
      rw [hD] at R
      refine R.mono ?_
      rintro e w2 ⟨br, rfl, hr1, hr2, hR, hbel⟩
      have hr0 := Nat.le_trans hS.below.size hr1
      try (have hgb := Nat.ne_of_lt (Nat.lt_of_lt_of_le hC.lt hr1); replace hC := hC.on hbel)
      go_wp2_with fail
      refine hK.out _ _ ?_ (fun hS' => ?_)
      · exact hS.on hbel
      clear hK K
      try simp only [Act.put, List.getElem_toArray, List.getElem_cons_zero, List.getElem_cons_succ, List.setIfInBounds_toArray, List.set_cons_zero, List.set_cons_succ]
      replace hS := hS'
      clear hS'
      refine wpAnyH_ready (rs := [4, 8]) (by kernel_rfl) (by simp) ?_
      refine (AllReadyH.cons rfl (fun K hK => ?_) (AllReadyH.cons rfl (fun K hK => ?_) AllReadyH.nil))
      · skip
        go_simp
        have N := num_ok br D 4 _ hR (by omega) (by omega) (by omega)
        rw [hDt] at N
        refine N.mono ?_
        rintro e w3 ⟨rfl, hR3, hF3, hz3⟩
        try (replace hC := hC.fr hF3 hgb)
        clear hz3
        go_wp2_with fail
        refine hK.out _ _ ?_ (fun hS' => ?_)
        · exact hS.fr hbw hpos hF3 hr0
        clear hK K
        try simp only [Act.put, List.getElem_toArray, List.getElem_cons_zero, List.getElem_cons_succ, List.setIfInBounds_toArray, List.set_cons_zero, List.set_cons_succ]
        replace hS := hS'
        clear hS'
        refine wpAnyH_ready (rs := [8]) (by kernel_rfl) (by simp) ?_
        refine (AllReadyH.cons rfl (fun K hK => ?_) AllReadyH.nil)
        go_simp
        have hC := hS.built (.slice (some ⟨b, o, none⟩) (m + 4) c)
        try (have hgb := Nat.ne_of_gt hR.lt; replace hR := hR.below ((Below.refl _ _).alloc (Nat.le_refl _) (.cells #[.slice (some ⟨b, o, none⟩) (m + 4) c] 22)))
        refine hK.out _ _ ?_ (fun hS' => ?_)
        · exact hS.alloc _
        clear hK K
        try simp only [Act.put, List.getElem_toArray, List.getElem_cons_zero, List.getElem_cons_succ, List.setIfInBounds_toArray, List.set_cons_zero, List.set_cons_succ]
        replace hS := hS'
        clear hS'
        refine wpAnyH_ready (rs := [9]) (by kernel_rfl) (by simp) ?_
        refine (AllReadyH.cons rfl (fun K hK => ?_) AllReadyH.nil)
        go_simp
        refine (sum_built hS hC HTe.out hTl hTb (by omega)).mono ?_
        rintro e w5 ⟨rfl, rfl⟩
        go_wp2_with fail
        refine hK.out _ _ ?_ (fun hS' => ?_)
        · exact hS
        clear hK K
        try simp only [Act.put, List.getElem_toArray, List.getElem_cons_zero, List.getElem_cons_succ, List.setIfInBounds_toArray, List.set_cons_zero, List.set_cons_succ]
        replace hS := hS'
        clear hS'
        refine wpAnyH_take (i := 10) (v := ?v10_7) rfl (by kernel_rfl) (by kernel_rfl) (by kernel_rfl) (fun _ _ _ h => h) (Or.inl ⟨by rfl, ?hy10_7⟩) (by assumption) ?rest10_7
        case hy10_7 => (intro w hSw; (try dsimp only at hSw); go_simp; try (with_reducible rfl))
        simp only [Act.put, List.getElem_toArray, List.getElem_cons_zero, List.getElem_cons_succ, List.setIfInBounds_toArray, List.set_cons_zero, List.set_cons_succ]
        refine wpAnyH_done (by kernel_rfl) ?_ _
        try clear hC
        try clear hgb
        try clear hR3
        try clear hF3
        try clear hR
        clear R N hr1 hr2 hr0 hbel
        generalize numB D = d at HS HO ⊢
        generalize sumB T = s at HS HO ⊢
        have O := own4_ex (some ⟨b, o + 4, none⟩) (c - 4) m M _ (HM.out _ hS.bin) (by omega) hMl
        have hmc : (m : Int) + 4 ≤ (m : Int) + 8 := by omega
        clear hD hDt hDb HD HM HTe hTl hTb HF HG HB hm hm1 hm2 hn hbw hpos
        by_cases q : d = (s : Int)
        · have HO := Hid.mk' (HO.out q)
          have HI := Hid.mk' hS
          have q' : (d != (s : Int)) = false := by simpa using q
          clear hS HS
          go_wp2_with fail
          refine O.mono ?_
          rintro e w6 ⟨gq, rfl, HK, hbel⟩
          go_wp2_with fail
          go_ret3
          refine ⟨some ⟨gq, 0, none⟩, m, ?_, ?_, (HI.out.on hbel).below⟩
          · rw [HO.out, hMl]; rfl
          · rw [HO.out]; exact HK.out
        · have HS := Hid.mk' (HS.out q)
          have HI := Hid.mk' hS
          have q' : (d != (s : Int)) = true := by simpa using q
          clear hS HO O
          go_wp2_with fail
          go_ret3
          refine ⟨none, 0, ?_, ?_, HI.out.below⟩
          · rw [HS.out]; rfl
          · rw [HS.out]; exact BIn.empty _ _
      · skip
        go_simp
        have hC := hS.built (.slice (some ⟨b, o, none⟩) (m + 4) c)
        try (have hgb := Nat.ne_of_gt hR.lt; replace hR := hR.below ((Below.refl _ _).alloc (Nat.le_refl _) (.cells #[.slice (some ⟨b, o, none⟩) (m + 4) c] 22)))
        refine hK.out _ _ ?_ (fun hS' => ?_)
        · exact hS.alloc _
        clear hK K
        try simp only [Act.put, List.getElem_toArray, List.getElem_cons_zero, List.getElem_cons_succ, List.setIfInBounds_toArray, List.set_cons_zero, List.set_cons_succ]
        replace hS := hS'
        clear hS'
        refine wpAnyH_ready (rs := [4]) (by kernel_rfl) (by simp) ?_
        refine (AllReadyH.cons rfl (fun K hK => ?_) AllReadyH.nil)
        go_simp
        have N := num_ok br D 4 _ hR (by omega) (by omega) (by omega)
        rw [hDt] at N
        refine N.mono ?_
        rintro e w3 ⟨rfl, hR3, hF3, hz3⟩
        try (replace hC := hC.fr hF3 hgb)
        clear hz3
        go_wp2_with fail
        refine hK.out _ _ ?_ (fun hS' => ?_)
        · exact hS.fr hbw hpos hF3 hr0
        clear hK K
        try simp only [Act.put, List.getElem_toArray, List.getElem_cons_zero, List.getElem_cons_succ, List.setIfInBounds_toArray, List.set_cons_zero, List.set_cons_succ]
        replace hS := hS'
        clear hS'
        refine wpAnyH_ready (rs := [9]) (by kernel_rfl) (by simp) ?_
        refine (AllReadyH.cons rfl (fun K hK => ?_) AllReadyH.nil)
        go_simp
        refine (sum_built hS hC HTe.out hTl hTb (by omega)).mono ?_
        rintro e w5 ⟨rfl, rfl⟩
        go_wp2_with fail
        refine hK.out _ _ ?_ (fun hS' => ?_)
        · exact hS
        clear hK K
        try simp only [Act.put, List.getElem_toArray, List.getElem_cons_zero, List.getElem_cons_succ, List.setIfInBounds_toArray, List.set_cons_zero, List.set_cons_succ]
        replace hS := hS'
        clear hS'
        refine wpAnyH_take (i := 10) (v := ?v10_8) rfl (by kernel_rfl) (by kernel_rfl) (by kernel_rfl) (fun _ _ _ h => h) (Or.inl ⟨by rfl, ?hy10_8⟩) (by assumption) ?rest10_8
        case hy10_8 => (intro w hSw; (try dsimp only at hSw); go_simp; try (with_reducible rfl))
        simp only [Act.put, List.getElem_toArray, List.getElem_cons_zero, List.getElem_cons_succ, List.setIfInBounds_toArray, List.set_cons_zero, List.set_cons_succ]
        refine wpAnyH_done (by kernel_rfl) ?_ _
        try clear hC
        try clear hgb
        try clear hR3
        try clear hF3
        try clear hR
        clear R N hr1 hr2 hr0 hbel
        generalize numB D = d at HS HO ⊢
        generalize sumB T = s at HS HO ⊢
        have O := own4_ex (some ⟨b, o + 4, none⟩) (c - 4) m M _ (HM.out _ hS.bin) (by omega) hMl
        have hmc : (m : Int) + 4 ≤ (m : Int) + 8 := by omega
        clear hD hDt hDb HD HM HTe hTl hTb HF HG HB hm hm1 hm2 hn hbw hpos
        by_cases q : d = (s : Int)
        · have HO := Hid.mk' (HO.out q)
          have HI := Hid.mk' hS
          have q' : (d != (s : Int)) = false := by simpa using q
          clear hS HS
          go_wp2_with fail
          refine O.mono ?_
          rintro e w6 ⟨gq, rfl, HK, hbel⟩
          go_wp2_with fail
          go_ret3
          refine ⟨some ⟨gq, 0, none⟩, m, ?_, ?_, (HI.out.on hbel).below⟩
          · rw [HO.out, hMl]; rfl
          · rw [HO.out]; exact HK.out
        · have HS := Hid.mk' (HS.out q)
          have HI := Hid.mk' hS
          have q' : (d != (s : Int)) = true := by simpa using q
          clear hS HO O
          go_wp2_with fail
          go_ret3
          refine ⟨none, 0, ?_, ?_, HI.out.below⟩
          · rw [HS.out]; rfl
          · rw [HS.out]; exact BIn.empty _ _
    · skip
      go_simp
      have hC := hS.built (.slice (some ⟨b, o, none⟩) (m + 4) c)
      try (have hgb := Nat.ne_of_gt hR.lt; replace hR := hR.below ((Below.refl _ _).alloc (Nat.le_refl _) (.cells #[.slice (some ⟨b, o, none⟩) (m + 4) c] 22)))
      refine hK.out _ _ ?_ (fun hS' => ?_)
      · exact hS.alloc _
      clear hK K
      try simp only [Act.put, List.getElem_toArray, List.getElem_cons_zero, List.getElem_cons_succ, List.setIfInBounds_toArray, List.set_cons_zero, List.set_cons_succ]
      replace hS := hS'
      clear hS'
      refine wpAnyH_ready (rs := [3]) (by kernel_rfl) (by simp) ?_
      refine (AllReadyH.cons rfl (fun K hK => ?_) AllReadyH.nil)
      go_simp
      have R := read_at (some ⟨b, o + (m + 4), none⟩) (c - (m + 4)) D _ (HD.out _ hS.bin) hDb (by omega)
      rw [hD] at R
      refine R.mono ?_
      rintro e w2 ⟨br, rfl, hr1, hr2, hR, hbel⟩
      have hr0 := Nat.le_trans hS.below.size hr1
      try (have hgb := Nat.ne_of_lt (Nat.lt_of_lt_of_le hC.lt hr1); replace hC := hC.on hbel)
      go_wp2_with fail
      refine hK.out _ _ ?_ (fun hS' => ?_)
      · exact hS.on hbel
      clear hK K
      try simp only [Act.put, List.getElem_toArray, List.getElem_cons_zero, List.getElem_cons_succ, List.setIfInBounds_toArray, List.set_cons_zero, List.set_cons_succ]
      replace hS := hS'
      clear hS'
      refine wpAnyH_ready (rs := [4]) (by kernel_rfl) (by simp) ?_
      refine (AllReadyH.cons rfl (fun K hK => ?_) AllReadyH.nil)
      go_simp
      have N := num_ok br D 4 _ hR (by omega) (by omega) (by omega)
      rw [hDt] at N
      refine N.mono ?_
      rintro e w3 ⟨rfl, hR3, hF3, hz3⟩
      try (replace hC := hC.fr hF3 hgb)
      clear hz3
      go_wp2_with fail
      refine hK.out _ _ ?_ (fun hS' => ?_)
      · exact hS.fr hbw hpos hF3 hr0
      clear hK K
      try simp only [Act.put, List.getElem_toArray, List.getElem_cons_zero, List.getElem_cons_succ, List.setIfInBounds_toArray, List.set_cons_zero, List.set_cons_succ]
      replace hS := hS'
      clear hS'
      refine wpAnyH_ready (rs := [9]) (by kernel_rfl) (by simp) ?_
      refine (AllReadyH.cons rfl (fun K hK => ?_) AllReadyH.nil)
      go_simp
      refine (sum_built hS hC HTe.out hTl hTb (by omega)).mono ?_
      rintro e w5 ⟨rfl, rfl⟩
      go_wp2_with fail
      refine hK.out _ _ ?_ (fun hS' => ?_)
      · exact hS
      clear hK K
      try simp only [Act.put, List.getElem_toArray, List.getElem_cons_zero, List.getElem_cons_succ, List.setIfInBounds_toArray, List.set_cons_zero, List.set_cons_succ]
      replace hS := hS'
      clear hS'
      refine wpAnyH_take (i := 10) (v := ?v10_9) rfl (by kernel_rfl) (by kernel_rfl) (by kernel_rfl) (fun _ _ _ h => h) (Or.inl ⟨by rfl, ?hy10_9⟩) (by assumption) ?rest10_9
      case hy10_9 => (intro w hSw; (try dsimp only at hSw); go_simp; try (with_reducible rfl))
      simp only [Act.put, List.getElem_toArray, List.getElem_cons_zero, List.getElem_cons_succ, List.setIfInBounds_toArray, List.set_cons_zero, List.set_cons_succ]
      refine wpAnyH_done (by kernel_rfl) ?_ _
      try clear hC
      try clear hgb
      try clear hR3
      try clear hF3
      try clear hR
      clear R N hr1 hr2 hr0 hbel
      generalize numB D = d at HS HO ⊢
      generalize sumB T = s at HS HO ⊢
      have O := own4_ex (some ⟨b, o + 4, none⟩) (c - 4) m M _ (HM.out _ hS.bin) (by omega) hMl
      have hmc : (m : Int) + 4 ≤ (m : Int) + 8 := by omega
      clear hD hDt hDb HD HM HTe hTl hTb HF HG HB hm hm1 hm2 hn hbw hpos
      by_cases q : d = (s : Int)
      · have HO := Hid.mk' (HO.out q)
        have HI := Hid.mk' hS
        have q' : (d != (s : Int)) = false := by simpa using q
        clear hS HS
        go_wp2_with fail
        refine O.mono ?_
        rintro e w6 ⟨gq, rfl, HK, hbel⟩
        go_wp2_with fail
        go_ret3
        refine ⟨some ⟨gq, 0, none⟩, m, ?_, ?_, (HI.out.on hbel).below⟩
        · rw [HO.out, hMl]; rfl
        · rw [HO.out]; exact HK.out
      · have HS := Hid.mk' (HS.out q)
        have HI := Hid.mk' hS
        have q' : (d != (s : Int)) = true := by simpa using q
        clear hS HO O
        go_wp2_with fail
        go_ret3
        refine ⟨none, 0, ?_, ?_, HI.out.below⟩
        · rw [HS.out]; rfl
        · rw [HS.out]; exact BIn.empty _ _
  · rw [HG.out, decide_eq_false hf] at G
    go_enter Tryd.func12, Tryd.ntmps12
    go_wp2_with fail
    refine G.mono ?_
    rintro e w1 ⟨rfl, hb1⟩
    go_wp2_with fail
    go_ret3
    refine ⟨none, 0, ?_, ?_, hb1⟩
    · rw [HF.out hf]; rfl
    · rw [HF.out hf]; exact BIn.empty _ _

/-- Open, of any bytes. -/
theorem open_any (p : Option Addr) (c : Nat) (l : List Int) (w : World) (hT : Tab w) (hB : BIn w p l) (hl : isB l) (hlc : l.length ≤ c) (hcm : c ≤ 9223372036854775807) :
    Calls Tryd.prog 12 #[.slice p l.length c] w fun e w' => ∃ p' c', e = .returned (.tuple #[.int .i64 (openR l).1, .slice p' (openR l).2.1.length c', .int .i64 (openR l).2.2]) ∧ BIn w' p' (openR l).2.1 ∧ Below w.heap.size w w' := by
  by_cases h1 : 65507 < l.length
  · refine (open_long p c l.length w h1 (by omega)).mono ?_
    rintro e w' ⟨rfl, rfl⟩
    rw [openR_long l h1]
    exact ⟨none, 0, rfl, BIn.empty _ _, Below.refl _ _⟩
  · by_cases h2 : l.length < 8
    · refine (open_short p c l.length w h2).mono ?_
      rintro e w' ⟨rfl, rfl⟩
      rw [openR_short l h2]
      exact ⟨none, 0, rfl, BIn.empty _ _, Below.refl _ _⟩
    · obtain ⟨m, hm⟩ : ∃ m, l.length = m + 8 := ⟨l.length - 8, by omega⟩
      obtain ⟨b, o, rfl, _⟩ := hB (by omega)
      rw [hm]
      exact open_more b o c m l w hT hB hl hm (by omega) (by omega) hcm

end Go.Proofs.YtecdagmeobiahaaDoor
