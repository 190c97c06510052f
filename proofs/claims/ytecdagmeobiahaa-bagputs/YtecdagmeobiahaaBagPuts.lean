/-
  Proved: the statement on layer 6's Put, Drop and Get (BagPuts) returns true at every input, and leaves its arguments as they were. No condition.
-/
import Derived.Test.YtecdagmeobiahaaRows
import Derived.Test.YtecdagmeobiahaaLaw06b
import Derived.Test.YtecdagmeobiahaaBagX
import Derived.ShutString
import Derived.ChangeOld
namespace Go.Proofs.Ytecdagmeobiahaa.bagPuts
open Go.ChangeShapes Go.WideShapes Go.ChangeAt Go.RowKit
open Go.ChangeMaps (open_string shut_string)
set_option linter.unusedVariables false
set_option linter.unusedSimpArgs false

theorem froz {p : Prop} (h : Hid p) : p := h.out

/-- What Put answered. -/
structure PutR (x : Key) (L : List Key) (pg : Option Addr) (lg : List Fd) (ev : Int) (X : World) : Prop where
  fin : FIn X pg lg
  says : if (mayK L && mayK [x]) = true then (if mayK (putK x L) = true then ev = 0 ∧ kys lg = putK x L else ev = 6 ∧ lg = []) else ev = 1 ∧ lg = []

theorem put_all (p : Option Addr) (c : Nat) (l : List Fd) (f : Fd) (w : World) (hp : FIn w p l) (hf : FOk w f) (hlc : l.length ≤ c) (hcm : c ≤ maxLen) (hpn : p = none → c = 0) (hn : l.length ≤ 1000000) (hz : szK (kys l) ≤ 4611686018427387) :
    Calls Try.prog 21 #[.slice p l.length c, .agg #[.int .i64 f.tag, .slice f.p f.d.length f.cap]] w fun e w' => ∃ pg cg lg ev, e = .returned (.tuple #[.slice pg lg.length cg, .int .i64 ev]) ∧ PutR (ky f) (kys l) pg lg ev w' ∧ Below w.heap.size w w' := by
  refine (put_any p c l f w hp hf hlc hcm hpn hn hz).mono fun e w' ⟨h, hb⟩ => ?_
  by_cases h1 : (mayK (kys l) && mayK [ky f]) = true
  · rw [if_pos h1] at h
    by_cases h2 : mayK (putK (ky f) (kys l)) = true
    · rw [if_pos h2] at h
      obtain ⟨g, l', rfl, hk, hf, _⟩ := h
      exact ⟨_, _, l', 0, rfl, ⟨hf, by rw [if_pos h1, if_pos h2]; exact ⟨rfl, hk⟩⟩, hb⟩
    · rw [if_neg h2] at h
      exact ⟨none, 0, [], 6, h, ⟨FIn.empty _ _, by rw [if_pos h1, if_neg h2]; exact ⟨rfl, rfl⟩⟩, hb⟩
  · rw [if_neg h1] at h
    exact ⟨none, 0, [], 1, h, ⟨FIn.empty _ _, by rw [if_neg h1]; exact ⟨rfl, rfl⟩⟩, hb⟩

/-- What stays: the field that was handed in lies in a place of its own. -/
structure Kp (w : World) (f : Fd) (X : World) : Prop where
  below : Below w.heap.size w X
  box : X.heap[w.heap.size]? = some (.cells #[.int .i64 f.tag, .slice f.p f.d.length f.cap] 32 (0, 0))

theorem Kp.on {w X X' : World} {f : Fd} {B : Nat} (h : Kp w f X) (k : Below B X X') (hB : w.heap.size < B) (hX : B ≤ X.heap.size) : Kp w f X' :=
  ⟨h.below.trans (k.mono (by omega)), by rw [k.block _ hB]; exact h.box⟩

theorem Kp.lt {w X : World} {f : Fd} (h : Kp w f X) : w.heap.size < X.heap.size := (Array.getElem?_eq_some_iff.1 h.box).1

/-- All that stays from the loop on: B is where its rows begin. -/
structure Kg (w : World) (f : Fd) (L : List Key) (pg : Option Addr) (lg : List Fd) (ev : Int) (W0 X : World) : Prop where
  kp : Kp w f X
  got : PutR (ky f) L pg lg ev X
  below : Below W0.heap.size W0 X
  lt : w.heap.size < W0.heap.size

theorem PutR.on {x : Key} {L : List Key} {pg : Option Addr} {lg : List Fd} {ev : Int} {X X' : World} (h : PutR x L pg lg ev X) (k : Below X.heap.size X X') : PutR x L pg lg ev X' := ⟨h.fin.below k, h.says⟩

/-- Got's fields lie below W0's end. -/
theorem Kg.of {w W0 X : World} {f : Fd} {L : List Key} {pg : Option Addr} {lg : List Fd} {ev : Int} (h : Kp w f W0) (g : PutR (ky f) L pg lg ev W0) (k : Below W0.heap.size W0 X) : Kg w f L pg lg ev W0 X :=
  ⟨h.on k h.lt (Nat.le_refl _), g.on k, k, h.lt⟩

theorem reads {w X : World} {b o : Nat} {l : List Fd} (hin : FIn w (some ⟨b, o, none⟩) l) (hb : Below w.heap.size w X) (k : Nat) (hk : k < l.length) :
    X.cell? ⟨b, o + k * 2, none⟩ = some (.int .i64 (l.getD k zf).tag) ∧ X.cell? ⟨b, o + k * 2 + 1, none⟩ = some (.slice (l.getD k zf).p (l.getD k zf).d.length (l.getD k zf).cap) := by
  obtain ⟨b', o', e, hc⟩ := (hin.below hb).at (by omega)
  simp at e
  obtain ⟨rfl, rfl⟩ := e
  exact ⟨(hc k hk).1, (hc k hk).2.1⟩

set_option maxRecDepth 10000 in
set_option maxHeartbeats 8000000 in
theorem walk (p0 : Option Addr) (c0 : Nat) (l0 : List Fd) (a1 : Fd) (w : World) (hlc0 : l0.length ≤ c0) (hcm0 : c0 ≤ maxLen) (hp0 : p0 = none → c0 = 0) (hin0 : FIn w p0 l0) (w1 : FOk w a1) :
    Calls Try.prog 6 #[.slice p0 l0.length c0, .agg #[.int .i64 a1.tag, .slice a1.p a1.d.length a1.cap]] w fun e w' => e = .returned (.bool true) ∧ Below w.heap.size w w' := by
  have n0 := Nat.le_trans hlc0 hcm0
  have AW := fun X => awake6_any X
  have hK1 : Kp w a1 (w.alloc (.cells #[.int .i64 a1.tag, .slice a1.p a1.d.length a1.cap] 32)) := ⟨(Below.refl _ _).alloc (Nat.le_refl _) _, heap_alloc_new _ _⟩
  have F0 := few_any p0 c0 l0 _ (hin0.below hK1.below) n0
  obtain ⟨q0, q1, _, _⟩ := two_cells hK1.box
  by_cases tf : fewK (kys l0) = true
  case neg =>
    have tf' : fewK (kys l0) = false := by simpa using tf
    rw [tf'] at F0
    have HK1 := Hid.mk' hK1
    clear hK1
    go_enter Try.func6, Try.ntmps6
    go_wp2_with fail
    refine F0.mono ?_
    rintro e w1 ⟨rfl, rfl⟩
    go_wp2_with (go_at_call 10; refine (AW _).mono ?_; rintro e w' ⟨rfl, hb⟩)
    go_ret
    exact ⟨rfl, HK1.out.below.trans (hb.mono HK1.out.below.size)⟩
  obtain ⟨m0, z0⟩ := few_yes tf
  rw [tf] at F0
  by_cases t1 : 5000 < (a1.d.length : Int)
  · have HK1 := Hid.mk' hK1
    clear hK1
    go_enter Try.func6, Try.ntmps6
    go_wp2_with fail
    refine F0.mono ?_
    rintro e w1 ⟨rfl, rfl⟩
    go_wp2_with (go_at_call 10; refine (AW _).mono ?_; rintro e w' ⟨rfl, hb⟩)
    go_ret
    exact ⟨rfl, HK1.out.below.trans (hb.mono HK1.out.below.size)⟩
  have d1 : decide (5000 < (a1.d.length : Int)) = false := decide_eq_false t1
  have P := put_all p0 c0 l0 a1 _ (hin0.below hK1.below) (w1.below hK1.below) hlc0 hcm0 hp0 (by omega) (by omega)
  have HK1 := Hid.mk' hK1
  have HIN := Hid.mk' hin0
  have HW1 := Hid.mk' w1
  clear hK1 hin0 w1 tf
  go_enter Try.func6, Try.ntmps6
  go_wp2_with fail
  refine F0.mono ?_
  rintro e w1 ⟨rfl, rfl⟩
  go_wp2_with fail
  refine P.mono ?_
  rintro e W2 ⟨pg, cg, lg, ev, rfl, hR2, hb2⟩
  have hK2 := HK1.out.on hb2 HK1.out.lt (Nat.le_refl _)
  have HX := Hid.mk' (show ∀ X, Below W2.heap.size W2 X → Kg w a1 (kys l0) pg lg ev W2 X from fun X h => Kg.of hK2 hR2 h)
  clear F0 P hR2 hb2 hK2 HK1 q0 q1 d1
  go_wp2_with fail
  go_loopw [7, 8, 9, 10, 11] (fun lo hi re fi i X => ∃ (k : Nat) (fr : Int), k ≤ l0.length ∧ i = .int .i64 k ∧ fi = .int .i64 fr ∧ Hid (FirstAt a1.tag l0 k fr) ∧ Hid (Own3 W2.heap.size X lo hi re (lowF a1.tag (l0.take k)) (highF a1.tag (l0.take k)) (keepF a1.tag (l0.take k))) ∧ Hid (Below W2.heap.size W2 X)) (fun _ _ _ _ i _ => l0.length - (intOf i).toNat)
  case atStart => exact ⟨0, -1, by omega, rfl, rfl, .inl ⟨rfl, fun x hx => by simp at hx⟩, Own3.nil _ _, Below.refl _ _⟩
  case round =>
    obtain ⟨k, fr, hk, rfl, rfl, HF, H3, HB⟩ := hrel
    by_cases t : k < l0.length
    · obtain ⟨b, o, rfl, _⟩ := HIN.out.at (by omega)
      have RD := Hid.mk' (fun X h => reads (X := X) HIN.out h k t)
      have hL := lowF_next (v := a1.tag) t
      have hH := highF_next (v := a1.tag) t
      have hE := keepF_next (v := a1.tag) t
      have hF1 := fun h => HF.out.miss t h
      have hF2 := fun hr h => HF.out.hit (k := k) hr h
      have hF3 := fun hr => HF.out.more (k := k) hr
      have hlen : ∀ n : Nat, (lowF a1.tag (l0.take n)).length ≤ 1000 ∧ (highF a1.tag (l0.take n)).length ≤ 1000 ∧ (keepF a1.tag (l0.take n)).length ≤ 1000 := fun n => by
        have h1 := List.length_filter_le (fun x : Fd => decide (x.tag ≤ a1.tag)) (l0.take n)
        have h2 := List.length_filter_le (fun x : Fd => !decide (x.tag ≤ a1.tag)) (l0.take n)
        have h3 := List.length_filter_le (fun x : Fd => decide (x.tag ≠ a1.tag)) (l0.take n)
        have h4 : (l0.take n).length ≤ l0.length := by simp; omega
        unfold lowF highF keepF
        omega
      generalize l0.getD k zf = y at RD hL hH hE hF1 hF2
      obtain ⟨e0, e1⟩ := RD.out wr (HX.out _ HB.out).kp.below
      obtain ⟨g0, g1, _, _⟩ := two_cells (HX.out _ HB.out).kp.box
      have HL := Hid.mk' hL
      have HH := Hid.mk' hH
      have HE := Hid.mk' hE
      have HF1 := Hid.mk' hF1
      have HF2 := Hid.mk' hF2
      have HF3 := Hid.mk' hF3
      have HLEN := Hid.mk' hlen
      have hB1 := HB.out.size
      clear hL hH hE hF1 hF2 hF3 hlen HF
      rcases Int.lt_trichotomy y.tag a1.tag with tt | tt | tt
      · have d2 : (y.tag != a1.tag) = true := by simp; omega
        have d3 : decide (y.tag ≤ a1.tag) = true := by simp; omega
        go_wp2_with fail
        go_quiet (fail)
        go_wp2_with (at_builtin; refine wpList_addF (by rfl) (.tmp 45) (.tmp 50) (by rfl) (by rfl) (by exact H3.out.on (bel_drewN (Below.refl _ _) _)) (by exact hB1) y (by rfl) (by exact (HLEN.out k).1) ?_)
        intro a' x1 h31 hx1
        have HB1 := Hid.mk' (HB.out.trans (⟨hx1.os, hx1.tape, hx1.output, hx1.size, hx1.block⟩ : Below W2.heap.size wr x1))
        have H31 := Hid.mk' h31
        clear e0 e1 g0 g1 h31 hx1 H3 HB hB1
        obtain ⟨e0, e1⟩ := RD.out x1 (HX.out _ HB1.out).kp.below
        obtain ⟨g0, g1, _, _⟩ := two_cells (HX.out _ HB1.out).kp.box
        have hB2 := HB1.out.size
        go_wp2_with fail
        go_quiet (fail)
        go_wp2_with (at_builtin; refine wpList_addF (by rfl) (.tmp 67) (.tmp 72) (by rfl) (by rfl) (by exact H31.out.rot.rot.on (bel_drewN (Below.refl _ _) _)) (by exact hB2) y (by rfl) (by exact (HLEN.out k).2.2) ?_)
        intro a2 x2 h32 hx2
        have HB2 := Hid.mk' (HB1.out.trans (⟨hx2.os, hx2.tape, hx2.output, hx2.size, hx2.block⟩ : Below W2.heap.size x1 x2))
        have H32 := Hid.mk' h32.rot
        clear e0 e1 g0 g1 h32 hx2 HB1 hB2 H31
        go_wp2_with fail
        go_roundw
        case rel => exact ⟨k + 1, fr, by omega, by go_num, rfl, HF1.out (by omega), by rw [HL.out, HH.out, HE.out, if_pos (by omega), if_pos (by omega), if_neg (by omega)]; exact H32.out, HB2.out⟩
        case measure => simp [intOf]; omega
      · have d2 : (y.tag != a1.tag) = false := by simp [tt]
        have d3 : decide (y.tag ≤ a1.tag) = true := by simp; omega
        have HTT := Hid.mk' tt
        clear tt
        go_wp2_with fail
        go_quiet (fail)
        go_wp2_with (at_builtin; refine wpList_addF (by rfl) (.tmp 45) (.tmp 50) (by rfl) (by rfl) (by exact H3.out.on (bel_drewN (Below.refl _ _) _)) (by exact hB1) y (by rfl) (by exact (HLEN.out k).1) ?_)
        intro a' x1 h31 hx1
        have HB1 := Hid.mk' (HB.out.trans (⟨hx1.os, hx1.tape, hx1.output, hx1.size, hx1.block⟩ : Below W2.heap.size wr x1))
        have H31 := Hid.mk' h31
        clear e0 e1 g0 g1 h31 hx1 H3 HB hB1
        obtain ⟨e0, e1⟩ := RD.out x1 (HX.out _ HB1.out).kp.below
        obtain ⟨g0, g1, _, _⟩ := two_cells (HX.out _ HB1.out).kp.box
        by_cases t5 : fr < 0
        · go_wp2_with fail
          go_quiet (fail)
          go_wp2_with fail
          go_roundw
          case rel => exact ⟨k + 1, k, by omega, by go_num, rfl, HF2.out t5 HTT.out, by rw [HL.out, HH.out, HE.out, if_pos (by rw [HTT.out]; omega), if_pos (by rw [HTT.out]; omega), if_pos HTT.out]; exact H31.out.on (bel_drewN (Below.refl _ _) _), bel_drewN HB1.out _⟩
          case measure => simp [intOf]; omega
        · go_wp2_with fail
          go_quiet (fail)
          go_wp2_with fail
          go_roundw
          case rel => exact ⟨k + 1, fr, by omega, by go_num, rfl, HF3.out (by omega), by rw [HL.out, HH.out, HE.out, if_pos (by rw [HTT.out]; omega), if_pos (by rw [HTT.out]; omega), if_pos HTT.out]; exact H31.out.on (bel_drewN (Below.refl _ _) _), bel_drewN HB1.out _⟩
          case measure => simp [intOf]; omega
      · have d2 : (y.tag != a1.tag) = true := by simp; omega
        have d3 : decide (y.tag ≤ a1.tag) = false := by simp; omega
        go_wp2_with fail
        go_quiet (fail)
        go_wp2_with (at_builtin; refine wpList_addF (by rfl) (.tmp 52) (.tmp 57) (by rfl) (by rfl) (by exact H3.out.rot.on (bel_drewN (Below.refl _ _) _)) (by exact hB1) y (by rfl) (by exact (HLEN.out k).2.1) ?_)
        intro a' x1 h31 hx1
        have HB1 := Hid.mk' (HB.out.trans (⟨hx1.os, hx1.tape, hx1.output, hx1.size, hx1.block⟩ : Below W2.heap.size wr x1))
        have H31 := Hid.mk' h31
        clear e0 e1 g0 g1 h31 hx1 H3 HB hB1
        obtain ⟨e0, e1⟩ := RD.out x1 (HX.out _ HB1.out).kp.below
        obtain ⟨g0, g1, _, _⟩ := two_cells (HX.out _ HB1.out).kp.box
        have hB2 := HB1.out.size
        go_wp2_with fail
        go_quiet (fail)
        go_wp2_with (at_builtin; refine wpList_addF (by rfl) (.tmp 67) (.tmp 72) (by rfl) (by rfl) (by exact H31.out.rot.on (bel_drewN (Below.refl _ _) _)) (by exact hB2) y (by rfl) (by exact (HLEN.out k).2.2) ?_)
        intro a2 x2 h32 hx2
        have HB2 := Hid.mk' (HB1.out.trans (⟨hx2.os, hx2.tape, hx2.output, hx2.size, hx2.block⟩ : Below W2.heap.size x1 x2))
        have H32 := Hid.mk' h32.rot
        clear e0 e1 g0 g1 h32 hx2 HB1 hB2 H31
        go_wp2_with fail
        go_roundw
        case rel => exact ⟨k + 1, fr, by omega, by go_num, rfl, HF1.out (by omega), by rw [HL.out, HH.out, HE.out, if_neg (by omega), if_neg (by omega), if_neg (by omega)]; exact H32.out, HB2.out⟩
        case measure => simp [intOf]; omega
    · obtain rfl : k = l0.length := by omega
      rw [List.take_of_length_le (Nat.le_refl _)] at H3
      have hlen : (lowF a1.tag l0).length ≤ 40 ∧ (highF a1.tag l0).length ≤ 40 ∧ (keepF a1.tag l0).length ≤ 40 := by
        have h1 := List.length_filter_le (fun x : Fd => decide (x.tag ≤ a1.tag)) l0
        have h2 := List.length_filter_le (fun x : Fd => !decide (x.tag ≤ a1.tag)) l0
        have h3 := List.length_filter_le (fun x : Fd => decide (x.tag ≠ a1.tag)) l0
        unfold lowF highF keepF
        omega
      have HLEN := Hid.mk' hlen
      have HFR := Hid.mk' HF.out.all
      have HKK := Hid.mk' (keepF_kys a1.tag l0)
      have HWP := Hid.mk' (fun h => want_put (l := l0) (f := a1) h)
      have hoks : ∀ X, Below W2.heap.size W2 X → ∀ x ∈ l0, FOk X x := fun X h => (HIN.out.below (HX.out X h).kp.below).oks
      have HOL := Hid.mk' (show ∀ X, Below W2.heap.size W2 X → ∀ x ∈ lowF a1.tag l0 ++ a1 :: highF a1.tag l0, FOk X x from fun X h x hx => by
        simp only [List.mem_append, List.mem_cons] at hx
        rcases hx with hx | rfl | hx
        · exact hoks X h x ((List.mem_filter.1 hx).1)
        · exact HW1.out.below (HX.out X h).kp.below
        · exact hoks X h x ((List.mem_filter.1 hx).1))
      have HWZ := Hid.mk' (show szK (kys (lowF a1.tag l0 ++ a1 :: highF a1.tag l0)) ≤ 4611686018427387904 by have := want_sz a1.tag l0 a1; omega)
      obtain ⟨pr, cr, rfl, hre, hrn, _⟩ := own_fin H3.out.oc (fun x hx => hoks _ HB.out x ((List.mem_filter.1 hx).1))
      obtain ⟨ph, ch, rfl, hhi, hhn, _⟩ := own_fin H3.out.ob (fun x hx => hoks _ HB.out x ((List.mem_filter.1 hx).1))
      have HRE := Hid.mk' hre
      have HHI := Hid.mk' hhi
      generalize hLL : lowF a1.tag l0 = LL at H3 HLEN HWP HOL HWZ
      generalize hHH : highF a1.tag l0 = HH at H3 HLEN HWP HOL HHI HWZ
      generalize hRR : keepF a1.tag l0 = RR at H3 HLEN HKK HRE
      have HS0 := Hid.mk' (HX.out _ HB.out).got.says
      have D := drop_any p0 c0 l0 a1.tag wr (HIN.out.below (HX.out _ HB.out).kp.below) (by omega)
      obtain ⟨g0, g1, _, _⟩ := two_cells (HX.out _ HB.out).kp.box
      clear hoks hlen hre hhi hLL hHH hRR HF hrn
      go_wp2_with fail
      refine D.mono ?_
      rintro e x1 ⟨g, l', rfl, hk1, hk2, hf1, hb1⟩
      have hB1 := HB.out.trans (hb1.mono HB.out.size)
      have A := alike_any (some ⟨g, 0, none⟩) pr l0.length cr l' RR x1 hf1 (HRE.out.below hb1) (by unfold maxLen; omega) (by have := HLEN.out.2.2; unfold maxLen; omega)
      rw [decide_eq_true (by rw [hk1, ← HKK.out])] at A
      have H31 := Hid.mk' (H3.out.on hb1)
      have HHI1 := Hid.mk' (HHI.out.below hb1)
      have HB1 := Hid.mk' hB1
      clear hb1 hB1 hf1 hk1 H3 HHI HRE HB D g0 g1 HKK
      go_wp2_with fail
      refine A.mono ?_
      rintro e x2 ⟨rfl, hb2⟩
      have hB2 := HB1.out.trans (hb2.mono HB1.out.size)
      have G := get_any p0 c0 l0 a1.tag x2 (HIN.out.below (HX.out _ hB2).kp.below) n0
      obtain ⟨g0, g1, _, _⟩ := two_cells (HX.out _ hB2).kp.box
      have H32 := Hid.mk' (H31.out.on hb2)
      have HHI2 := Hid.mk' (HHI1.out.below hb2)
      have HB2 := Hid.mk' hB2
      clear hb2 hB2 H31 HHI1 HB1 A
      go_wp2_with fail
      refine G.mono ?_
      intro e x3 hG
      have M1 := fun X (h : Below W2.heap.size W2 X) => mayR_any p0 c0 l0 X (HIN.out.below (HX.out _ h).kp.below) n0 (by omega)
      have M2 := fun X (h : Below W2.heap.size W2 X) g (hg : X.heap[g]? = some (.cells #[.int .i64 a1.tag, .slice a1.p a1.d.length a1.cap] 32 (0, 0))) => mayR_any (some ⟨g, 0, none⟩) 1 [a1] X (FIn.one hg (HW1.out.below (HX.out _ h).kp.below)) (by simp [maxLen]) (by rw [show kys [a1] = [ky a1] from rfl, szK_one]; have := HW1.out.few; simp only [ky]; omega)
      simp only [show kys [a1] = [ky a1] from rfl, show [a1].length = 1 from rfl] at M2
      obtain ⟨m1, hm1⟩ : ∃ m, mayK (kys l0) = m := ⟨_, rfl⟩
      obtain ⟨m2, hm2⟩ : ∃ m, mayK [ky a1] = m := ⟨_, rfl⟩
      rw [hm1] at M1 HS0 HWP
      rw [hm2] at M2 HS0
      clear hm1 hm2 G g0 g1
      rcases HFR.out with ⟨rfl, hget⟩ | ⟨q, hq, rfl, hget⟩
      all_goals first
        | (rw [hget] at hG
           obtain ⟨rfl, hb3⟩ := hG
           have H33 := Hid.mk' (H32.out.on hb3)
           have HB3 := Hid.mk' (HB2.out.trans (hb3.mono HB2.out.size))
           clear hb3 H32 HB2 HHI2 hget HFR HIN
           go_wp2_with fail
           go_quiet (fail)
           have HB4 := Hid.mk' (bel_drewN HB3.out nq)
           have H34 := Hid.mk' (H33.out.on (bel_drewN (Below.refl _ _) nq))
           clear HB3 H33
           generalize x3.drewN nq = x4 at HB4 H34 ⊢
           clear nq)
        | (rw [hget] at hG
           obtain ⟨g2, rfl, hnew, _, hisb, hb3⟩ := hG
           have hB3 := HB2.out.trans (hb3.mono HB2.out.size)
           have H33 := Hid.mk' (H32.out.on hb3)
           have hin3 := HIN.out.below (HX.out _ hB3).kp.below
           have cv1 := fun n => BIn.convert (P := Try.prog) (w := x3.drewN n) (show BIn (x3.drewN n) (some ⟨g2, 0, none⟩) (l0.getD q zf).d from BIn.of_block (rest := []) (by simpa [cellsB] using hnew)) (l0.getD q zf).d.length 30 5 9 Try.underlying30 Try.underlying5 Try.underlying9
           obtain ⟨b, o, rfl, hc⟩ := hin3.at (by omega)
           obtain ⟨e0, e1, hy⟩ := hc q hq
           have cv2 := conv_any hy
           generalize l0.getD q zf = y at e0 e1 cv1 cv2
           have HB3 := Hid.mk' hB3
           have hq0 : (0 : Int) ≤ (q : Int) := by omega
           clear hb3 hB3 H32 HB2 HHI2 hget HFR HIN hin3 hnew hisb hc hy
           go_wp2_with fail
           go_quiet (fail)
           have HB4 := Hid.mk' (bel_drewN HB3.out nq)
           have H34 := Hid.mk' (H33.out.on (bel_drewN (Below.refl _ _) nq))
           clear HB3 H33 cv1 cv2 e0 e1
           generalize x3.drewN nq = x4 at HB4 H34 ⊢
           clear nq)
      all_goals
        go_wp2_with fail
        refine (M1 _ HB4.out).mono ?_
        rintro e x5 ⟨rfl, hb5⟩
        have HB5 := Hid.mk' (HB4.out.trans (hb5.mono HB4.out.size))
        have H35 := Hid.mk' (H34.out.on hb5)
        clear hb5 HB4 H34 M1
        cases m1
        · obtain ⟨rfl, rfl⟩ : ev = 1 ∧ lg = [] := by have := HS0.out; simpa using this
          go_wp2_with (go_at_call 10; refine (AW _).mono ?_; rintro e w' ⟨rfl, hb⟩)
          go_ret
          have h1 := (HX.out _ HB5.out).kp.below
          exact ⟨rfl, h1.trans (hb.mono h1.size)⟩
        obtain ⟨g0, g1, _, _⟩ := two_cells (HX.out _ HB5.out).kp.box
        have hb6 := (Below.refl x5.heap.size x5).alloc (Nat.le_refl _) (.cells #[.int .i64 a1.tag, .slice a1.p a1.d.length a1.cap] 32)
        have M3 := M2 _ (HB5.out.trans (hb6.mono HB5.out.size)) _ (heap_alloc_new x5 _)
        have HB6 := Hid.mk' (HB5.out.trans (hb6.mono HB5.out.size))
        have H36 := Hid.mk' (H35.out.on hb6)
        clear hb6 HB5 H35 M2
        go_wp2_with fail
        refine M3.mono ?_
        rintro e x7 ⟨rfl, hb7⟩
        have HB7 := Hid.mk' (HB6.out.trans (hb7.mono HB6.out.size))
        have H37 := Hid.mk' (H36.out.on hb7)
        clear hb7 HB6 H36 M3 g0 g1
        cases m2
        · obtain ⟨rfl, rfl⟩ : ev = 1 ∧ lg = [] := by have := HS0.out; simpa using this
          go_wp2_with (go_at_call 10; refine (AW _).mono ?_; rintro e w' ⟨rfl, hb⟩)
          go_ret
          have h1 := (HX.out _ HB7.out).kp.below
          exact ⟨rfl, h1.trans (hb.mono h1.size)⟩
        obtain ⟨g0, g1, _, _⟩ := two_cells (HX.out _ HB7.out).kp.box
        go_wp2_with (at_builtin; refine wpList_addF (by rfl) (.tmp 137) (.tmp 139) (by rfl) (by rfl) (by exact H37.out) (by exact HB7.out.size) a1 (by rfl) (by have := HLEN.out.1; omega) ?_)
        intro v8 x8 h38 hx8
        have HB8 := Hid.mk' (HB7.out.trans hx8)
        have H38 := Hid.mk' h38
        have hhi8 : FIn x8 ph HH := by
          obtain ⟨p', c', he, hf, _⟩ := own_fin h38.ob (fun x hx => HOL.out _ HB8.out x (by simp [hx]))
          simp at he
          rw [he.1]; exact hf
        have HH8 := Hid.mk' hhi8
        clear h38 hx8 hhi8 HB7 H37 g0 g1
        go_wp2_with (at_builtin; refine wpList_addL (by rfl) (.tmp 140) (.tmp 141) (by rfl) (by rfl) (by exact H38.out) (by exact HB8.out.size) HH ph ch (by rfl) (by exact hhn) (by exact HH8.out) (by have := HLEN.out.1; rw [List.length_append]; simp only [List.length_cons, List.length_nil]; omega) (by have := HLEN.out.2.1; omega) ?_)
        intro v9 x9 h39 hx9
        have HB9 := Hid.mk' (HB8.out.trans hx9)
        have h39a := h39.oa
        try simp only [List.append_assoc, List.cons_append, List.nil_append] at h39a
        obtain ⟨pw, cw, rfl, hfw, _⟩ := own_fin h39a (fun x hx => HOL.out _ HB9.out x hx)
        have HFW := Hid.mk' hfw
        have HWL := Hid.mk' (show (LL ++ a1 :: HH).length ≤ 3000 by have := HLEN.out; simp; omega)
        have hwp := HWP.out (by simp)
        clear h39 h39a hfw
        generalize LL ++ a1 :: HH = WW at HFW HWL hwp HWZ ⊢
        have M4 := mayR_any pw cw WW x9 HFW.out (by have := HWL.out; unfold maxLen; omega) HWZ.out
        rw [hwp] at M4
        obtain ⟨m3, hm3⟩ : ∃ m, mayK (putK (ky a1) (kys l0)) = m := ⟨_, rfl⟩
        rw [hm3] at M4 HS0
        have HWQ := Hid.mk' hwp
        clear hx9 hwp hm3 HB8 H38 HH8 HWP HOL HWZ
        go_wp2_with fail
        refine M4.mono ?_
        rintro e x10 ⟨rfl, hb10⟩
        have HB10 := Hid.mk' (HB9.out.trans (hb10.mono HB9.out.size))
        have HF10 := Hid.mk' (HFW.out.below hb10)
        clear hb10 HB9 HFW M4
        cases m3
        · obtain ⟨rfl, rfl⟩ : ev = 6 ∧ lg = [] := by have := HS0.out; simpa using this
          go_wp2_with (go_at_call 10; refine (AW _).mono ?_; rintro e w' ⟨rfl, hb⟩)
          go_ret
          have h1 := (HX.out _ HB10.out).kp.below
          exact ⟨rfl, h1.trans (hb.mono h1.size)⟩
        obtain ⟨rfl, hlg⟩ : ev = 0 ∧ kys lg = putK (ky a1) (kys l0) := by have := HS0.out; simpa using this
        have hll : lg.length = WW.length := by rw [← kys_len, hlg, ← HWQ.out, kys_len]
        have A2 := alike_any pg pw cg cw lg WW x10 (HX.out _ HB10.out).got.fin HF10.out (by have := HWL.out; unfold maxLen; omega) (by have := HWL.out; unfold maxLen; omega)
        rw [decide_eq_true (by rw [hlg, HWQ.out])] at A2
        clear hlg hll HS0 HWQ
        go_wp2_with fail
        refine A2.mono ?_
        rintro e x11 ⟨rfl, hb11⟩
        have HB11 := Hid.mk' (HB10.out.trans (hb11.mono HB10.out.size))
        clear hb11 HB10 HF10 A2
        go_wp2_with (go_at_call 10; refine (AW _).mono ?_; rintro e w' ⟨rfl, hb⟩)
        go_ret
        have h1 := (HX.out _ HB11.out).kp.below
        exact ⟨rfl, h1.trans (hb.mono h1.size)⟩

theorem own : ownKnob Try.prog.godebug = none := by kernel_rfl
theorem laidOut : laidOutB Try.prog = true := by kernel_rfl

set_option maxRecDepth 100000 in
theorem lifted (os : Os) (started : os.Started) (H : Type) (enc : TypeId × Value → H) :
    ReturnsInHanded {} Try.checked os 6 .any (Rows.bagPutsSpec.pre6 enc Try.prog Try.f6 Rows.bagPutsRow.domain false) (Rows.bagPutsSpec.post enc Try.prog Try.f6 false true false false) := by
  refine returnsInHanded_of_change_sized (C := Try.checked) own started (by kernel_rfl) Try.func6
    (ChangeSpec.witness6 (enc := enc) (C := Try.checked) false ⟨#[], #[.slice none 0 0, .agg #[.int .i64 0, .slice none 0 0]], []⟩ 8 (by kernel_rfl) (by kernel_rfl) (by kernel_rfl) (by kernel_rfl)) ?_
  intro W base args ds gs before hval0 hW hcnd hsz0 _
  have hz : ∀ (j : Nat) t d, Try.f6.params.toList[j]? = some t → ds[j]? = some d → ∀ n ∈ d.weights Try.prog t, n ≤ reachBytes := fun j t d ht hd n hn => by
    have := List.all_eq_true.1 hsz0 n (DataW.weights_mem_each (j := j) (t := t) (d := d) (by rw [List.getElem?_append_left (List.getElem?_eq_some_iff.1 ht).1]; exact ht) (by rw [List.getElem?_append_left (List.getElem?_eq_some_iff.1 hd).1]; exact hd) n hn)
    simpa using this
  have hval : ∀ (j : Nat) t v, Try.f6.params[j]? = some t → args[j]? = some v → Value.okWide Try.prog W .any base t v := hval0
  have hW' := hW
  obtain ⟨p, q, hA0, hV, rfl, hfz, hnd⟩ := hW
  have hA : DataW.TrodAll enc Try.prog W 0 (fun _ => true) true Try.f6.params.toList args.toList ds p := hA0
  rw [Try.params6] at hA hval hz
  obtain ⟨v0, vs0, d0, ds0, p0x, q0, hargs, rfl, rfl, h0, r0⟩ := trodAll_cons hA
  obtain ⟨v1, vs1, d1, ds1, p1x, q1, rfl, rfl, rfl, h1, r1⟩ := trodAll_cons r0
  obtain ⟨rfl, rfl, rfl⟩ := trodAll_nil r1
  obtain rfl : args = #[v0, v1] := by cases args; simp_all
  obtain ⟨rfl, rfl⟩ := trodVars_none hV
  obtain ⟨p0, len0, c0, rfl⟩ := okWide_slice Try.underlying22 (hval 0 22 v0 rfl rfl)
  have k0 := h0
  have lt0 : ∀ x ∈ p0x, x.block < W.heap.size := by obtain ⟨m, hm⟩ := k0; exact DataW.trod_lt m _ _ _ hm
  obtain ⟨l0, rfl, hlc0, hcm0, hp0, hin0⟩ : ∃ l : List Fd, l.length = len0 ∧ len0 ≤ c0 ∧ c0 ≤ maxLen ∧ (p0 = none → c0 = 0) ∧ LIn W p0 2 shFd l := by
    haveI : Inhabited Fd := ⟨zf⟩
    obtain ⟨fuel, hf⟩ := h0
    obtain ⟨l, p, c, hcs, hl1, hl2, hl3, _, hl4⟩ := opensZ_slice (size := 2) (bytes := 32) Try.underlying22 (by kernel_rfl) (by kernel_rfl) (by decide) opensZ_fd _ _ _ hf (hz 0 22 d0 rfl rfl)
    simp [Value.cells] at hcs
    obtain ⟨rfl, rfl, rfl⟩ := hcs
    exact ⟨l, rfl, hl1, hl2, hl3, hl4⟩
  obtain ⟨cs1, rfl, _⟩ := okWide_struct Try.underlying32 (hval 1 32 v1 rfl rfl)
  have k1 := h1
  have lt1 : ∀ x ∈ p1x, x.block < W.heap.size := by obtain ⟨m, hm⟩ := k1; exact DataW.trod_lt m _ _ _ hm
  obtain ⟨a1, rfl, w1⟩ : ∃ a : Fd, cs1 = #[.int .i64 a.tag, .slice a.p a.d.length a.cap] ∧ FOk W a := by
    obtain ⟨fuel, hf⟩ := h1
    obtain ⟨a, hcs, h1⟩ := opensZ_fd _ _ _ hf (hz 1 32 d1 rfl rfl)
    exact ⟨a, by cases cs1; simpa [Value.cells, Fd.cells] using hcs, h1⟩
  clear hA0 hval0
  refine (walk p0 c0 l0 a1 W hlc0 hcm0 hp0 hin0 w1).mono fun e W' ⟨he, bel⟩ => ?_
  subst he
  exact ⟨_, rfl, _, _, _, [], _, [], hW', trodAll_mk1 (shut_bool Try.underlying4 _), (trodAll_cons_mk (Below.trod laidOut (by kernel_rfl) (of_decide_eq_true (by kernel_rfl)) k0 bel lt0) (trodAll_cons_mk (Below.trod laidOut (by kernel_rfl) (of_decide_eq_true (by kernel_rfl)) k1 bel lt1) trodAll_mk0)), rfl, bel.frame _, fun h => by cases h⟩

theorem over : Rows.bagPutsRow.holds Try.pinned (OpenSpec.ofChange Rows.bagPutsSpec) :=
  OpenClaim.holds_of_wide 6 Try.f6 rfl rfl rfl rfl rfl rfl rfl ⟨rfl, rfl, rfl, rfl, rfl⟩ rfl rfl rfl rfl rfl (by kernel_rfl) Try.func6 (by kernel_rfl)
    (of_decide_eq_true (by kernel_rfl)) (by unfold Func.isWrapper; first | (rw [if_pos (by decide +kernel)]; kernel_rfl) | (rw [if_neg (by decide +kernel)]; exact ⟨rfl, rfl⟩))
    (fun os started H enc _ => lifted os started H enc)

/-- The given statement. -/
theorem proved : Rows.BagPutsSaid := over
#print axioms proved
end Go.Proofs.Ytecdagmeobiahaa.bagPuts
