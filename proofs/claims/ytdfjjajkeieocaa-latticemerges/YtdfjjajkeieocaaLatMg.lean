/-
  Package lattice: Merge.
-/
import Derived.Test.YtdfjjajkeieocaaLatRise
import Derived.Test.YtdfjjajkeieocaaRecL
namespace Go.Proofs.Ytdfjjajkeieocaa
open Go.RowKit
set_option linter.unusedSimpArgs false
set_option linter.unusedVariables false
set_option maxRecDepth 10000
set_option synthInstance.maxSize 2000

def allSorted (ps : List PtR) : Bool := ps.all fun q => sortR (-1) (rks q.l)
theorem allSorted_next (ps : List PtR) (k : Nat) (h : k < ps.length) : allSorted (ps.take (k + 1)) = (allSorted (ps.take k) && sortR (-1) (rks (ps.getD k zpR).l)) := by
  rw [show ps.take (k + 1) = ps.take k ++ [ps.getD k zpR] by rw [List.take_succ_eq_append_getElem h]; simp [List.getD, h]]
  simp [allSorted]
theorem allSorted_miss (ps : List PtR) (k : Nat) (h : k < ps.length) (hb : sortR (-1) (rks (ps.getD k zpR).l) = false) : allSorted ps = false := by
  rw [allSorted, List.all_eq_false]
  exact ⟨ps[k], List.getElem_mem h, by simpa [List.getD, h] using hb⟩

def MergeP (w : World) (ps : List PtR) (e : Ending) (w' : World) : Prop :=
  (if allSorted ps = true then ∃ p cap l, e = .returned (.tuple #[.slice p l.length cap, .bool true]) ∧ RIn w' p l ∧ Asc (rks l) ∧ (∀ x, gK (rks l) x = gK (rks (allR ps)) x) ∧ l.length ≤ (allR ps).length ∧ (∀ y ∈ l, y.bag.length ≤ 1099511627776) ∧ (p = none → cap = 0)
   else e = .returned (.tuple #[.slice none 0 0, .bool false])) ∧ Below w.heap.size w w'

theorem allR_len_le (n : Nat) : ∀ ps : List PtR, (∀ q ∈ ps, q.l.length ≤ n) → (allR ps).length ≤ ps.length * n
  | [], _ => by simp [allR]
  | q :: t, h => by
    have ih := allR_len_le n t (fun x hx => h x (by simp [hx]))
    have h1 := h q (by simp)
    have e : allR (q :: t) = q.l ++ allR t := rfl
    rw [e, List.length_append, List.length_cons, Nat.add_mul, Nat.one_mul]
    omega

set_option maxHeartbeats 8000000 in
theorem merge_any (b : Nat) (ps : List PtR) (w : World) (hp : PInR w b ps) (hn : ps.length ≤ 10) (hl : ∀ q ∈ ps, q.l.length ≤ 1000) (hs : ∀ q ∈ ps, ∀ x ∈ q.l, x.bag.length ≤ 1099511627776 ∧ szK (kys x.bag) ≤ 4611686018427387904) :
    Calls Try.prog 23 #[.slice (some ⟨b, 0, none⟩) ps.length ps.length] w (MergeP w ps) := by
  have HMP := Hid.mk' (show ∀ e w', MergeP w ps e w' = ((if allSorted ps = true then ∃ p cap l, e = .returned (.tuple #[.slice p l.length cap, .bool true]) ∧ RIn w' p l ∧ Asc (rks l) ∧ (∀ x, gK (rks l) x = gK (rks (allR ps)) x) ∧ l.length ≤ (allR ps).length ∧ (∀ y ∈ l, y.bag.length ≤ 1099511627776) ∧ (p = none → cap = 0)
   else e = .returned (.tuple #[.slice none 0 0, .bool false])) ∧ Below w.heap.size w w') from fun _ _ => rfl)
  generalize MergeP w ps = Post at HMP ⊢
  have hmm := @run_makeMap Try.prog
  have HP := Hid.mk' hp
  have HL := Hid.mk' hl
  have HS := Hid.mk' hs
  have HAL := Hid.mk' (show (allR ps).length ≤ 10000 from by have := allR_len_le 1000 ps hl; omega)
  have HM0 := Hid.mk' (show MapR (w.alloc (.map #[] 0)) w.heap.size (allR (ps.take 0)).length (gK (rks (allR (ps.take 0)))) (.map []) from MapR.made w)
  have HB0 := Hid.mk' ((Below.refl w.heap.size w).alloc (Nat.le_refl _) (.map #[] 0))
  clear hp hl hs
  go_enter Try.func23, Try.ntmps23
  go_wp2_with fail
  go_loopw [10] (fun i W => ∃ k : Nat, ∃ D', k ≤ ps.length ∧ i = .int .i64 k ∧ Hid (MapR W w.heap.size (allR (ps.take k)).length (gK (rks (allR (ps.take k)))) D') ∧ Hid (allSorted (ps.take k) = true) ∧ Hid (Below w.heap.size w W)) (fun i _ => ps.length - (intOf i).toNat)
  case atStart => exact ⟨0, .map [], by omega, rfl, HM0, Hid.mk' rfl, HB0⟩
  case round =>
    obtain ⟨k, D', hk, rfl, HM, HA, HB⟩ := hrel
    by_cases t : k < ps.length
    · have hpk := HP.out.below HB.out
      have e0 := hpk.cell k t
      have hmem : ps.getD k zpR ∈ ps := by simp [List.getD, t]
      have hfi := hpk.fin _ hmem
      have hly := HL.out _ hmem
      have hsy := HS.out _ hmem
      have HE := Hid.mk' (allR_next ps k t)
      have HLE := Hid.mk' (Nat.le_trans (allR_le ps (k + 1)) HAL.out)
      have HAN := Hid.mk' (allSorted_next ps k t)
      have HAM := Hid.mk' (allSorted_miss ps k t)
      generalize ps.getD k zpR = y at HE e0 hfi hly hsy HAN HAM
      have SO := sorted_any y.p y.c y.l wr hfi (by unfold maxLen; omega) (fun x hx => (hsy x hx).2)
      have HFI := Hid.mk' hfi
      have HSY := Hid.mk' hsy
      obtain ⟨so, hso⟩ : ∃ so, sortR (-1) (rks y.l) = so := ⟨_, rfl⟩
      rw [hso] at SO HAN HAM
      clear hpk hmem hfi hsy hso
      go_wp2_with fail
      refine SO.mono ?_
      clear SO e0
      rintro e w2 ⟨rfl, hb2⟩
      have HB2 := Hid.mk' (HB.out.trans (hb2.mono HB.out.size))
      cases so
      · have HF := Hid.mk' (HAM.out rfl)
        clear hb2 HM HA HB
        go_wp2_with fail
        rw [HMP.out, if_neg (by rw [HF.out]; simp)]
        exact ⟨rfl, HB2.out⟩
      · have HM2 := Hid.mk' (HM.out.on hb2)
        have hle2 : (allR (ps.take k)).length + y.l.length ≤ 10000 := by have := HLE.out; rw [HE.out, List.length_append] at this; exact this
        have JA := joinAll_any y.p y.c y.l w.heap.size (allR (ps.take k)).length (gK (rks (allR (ps.take k)))) D' w2 HM2.out (HFI.out.below hb2) hly (by omega) (fun x hx => (HSY.out x hx).1)
        have HA2 := Hid.mk' (show allSorted (ps.take (k + 1)) = true by rw [HAN.out, HA.out]; rfl)
        clear hb2 HM HA HB hle2
        go_wp2_with fail
        refine JA.mono ?_
        clear JA
        rintro e w3 ⟨rfl, D3, hm3, hf3⟩
        have HM3 := Hid.mk' (show MapR w3 w.heap.size (allR (ps.take (k + 1))).length (gK (rks (allR (ps.take (k + 1))))) D3 by
          rw [HE.out, List.length_append, rks_append]
          have e : gK (rks (allR (ps.take k)) ++ rks y.l) = GL (gK (rks (allR (ps.take k)))) (rks y.l) := by funext x; rw [gK_append]; rfl
          rw [e]; exact hm3)
        have HB3 := Hid.mk' (HB2.out.trans (hf3.below (B := w.heap.size) (fun i q => by omega) HB2.out.size))
        clear hm3 hf3 HM2 HB2
        go_wp2_with fail
        go_roundw
        case rel => exact ⟨k + 1, D3, by omega, by go_num, HM3, HA2, HB3⟩
        case measure => simp [intOf]; omega
    · obtain rfl : k = ps.length := by omega
      rw [List.take_of_length_le (Nat.le_refl _)] at HM HA
      have RI := rising_any w.heap.size (allR ps).length (gK (rks (allR ps))) D' wr HM.out (by have := HAL.out; omega)
      go_wp2_with fail
      refine RI.mono ?_
      clear RI
      rintro e w2 ⟨p, cap, l, rfl, hin, hasc, hg, hln, hfew, hb2⟩
      have HB2 := Hid.mk' (HB.out.trans (hb2.mono HB.out.size))
      have CP := rcopy_any p cap l w2 hin (by have := HAL.out; omega) hfew
      have HG := Hid.mk' (And.intro hasc hg)
      have HF := Hid.mk' (And.intro hln hfew)
      clear hin hasc hg hln hfew hb2 HM HB
      go_wp2_with fail
      refine CP.mono ?_
      clear CP
      rintro e w3 ⟨g, l', rfl, hrk, hin', hb3⟩
      have HB3 := Hid.mk' (HB2.out.trans (hb3.mono HB2.out.size))
      have HRK := Hid.mk' hrk
      have hlen : l'.length = l.length := by rw [← rks_len, ← rks_len, hrk]
      have HIN := Hid.mk' hin'
      have HLN := Hid.mk' hlen
      have HFW := Hid.mk' (show ∀ y ∈ l', y.bag.length ≤ 1099511627776 from fun y hy => by
        have h1 : rk y ∈ rks l := by rw [← hrk]; exact List.mem_map_of_mem hy
        obtain ⟨x, hx, e⟩ := List.mem_map.1 h1
        have e2 := congrArg (fun q => (RK.bag q).length) e
        simp only [rk, RK.bag, kys_len] at e2
        rw [← e2]; exact HF.out.2 x hx)
      clear hrk hin' hb3 hlen HB2
      go_wp2_with fail
      rw [HMP.out, if_pos HA.out]
      refine ⟨⟨_, _, l', rfl, HIN.out, by rw [HRK.out]; exact HG.out.1, fun x => by rw [HRK.out]; exact HG.out.2 x, by rw [HLN.out]; exact HF.out.1, HFW.out, by simp⟩, HB3.out⟩

theorem PInR.of {X : World} {g : Nat} {ps : List PtR} {t : TypeId} (hb : X.heap[g]? = some (.cells (ps.map (fun q => Value.slice q.p q.l.length q.c)).toArray t (0, 0))) (hf : ∀ q ∈ ps, RIn X q.p q.l) (hn : ∀ q ∈ ps, q.p = none → q.c = 0) : PInR X g ps := by
  refine ⟨fun i hi => ?_, hf, hn⟩
  have e : (ps.map (fun q => Value.slice q.p q.l.length q.c)).toArray[i]? = some (Value.slice (ps.getD i zpR).p (ps.getD i zpR).l.length (ps.getD i zpR).c) := by
    simp [List.getD, hi]
  simpa [World.cell?, hb] using e

/-- What is merged of lists that may be. -/
structure PtOk (X : World) (q : PtR) : Prop where
  inn : RIn X q.p q.l
  nil : q.p = none → q.c = 0
  len : q.l.length ≤ 1000
  few : ∀ x ∈ q.l, x.bag.length ≤ 1099511627776 ∧ szK (kys x.bag) ≤ 4611686018427387904
theorem PtOk.below {X X' : World} {q : PtR} (h : PtOk X q) (k : Below X.heap.size X X') : PtOk X' q := ⟨h.inn.below k, h.nil, h.len, h.few⟩

/-- 'Merge(..)' of lists that were laid for it. -/
theorem mergeS (ps : List PtR) (X : World) (hps : ∀ q ∈ ps, PtOk X q) (hn : ps.length ≤ 10) {g : Nat} (hg : X.heap.size = g) (n : Nat) (hnn : ps.length = n) :
    Calls Try.prog 23 #[.slice (some ⟨g, 0, none⟩) n n] (X.alloc (.cells (ps.map (fun q => Value.slice q.p q.l.length q.c)).toArray 22)) (fun e X' => MergeP (X.alloc (.cells (ps.map (fun q => Value.slice q.p q.l.length q.c)).toArray 22)) ps e X') := by
  subst hg hnn
  have hb := (Below.refl X.heap.size X).alloc (Nat.le_refl _) (.cells (ps.map (fun q => Value.slice q.p q.l.length q.c)).toArray 22)
  exact merge_any X.heap.size ps _ (PInR.of (heap_alloc_new _ _) (fun q hq => ((hps q hq).inn).below hb) (fun q hq => (hps q hq).nil)) hn (fun q hq => (hps q hq).len) (fun q hq => (hps q hq).few)
end Go.Proofs.Ytdfjjajkeieocaa
