/-
  Package tlv: next, Split.
-/
import Derived.Test.YtflllegengomnaaTlvJ
import Derived.Test.YtflllegengomnaaLaw07
namespace Go.Proofs.Ytflllegengomnaa
open Go.RowKit
set_option linter.unusedSimpArgs false
set_option linter.unusedVariables false
set_option maxRecDepth 10000

/-- A row of fields of its own; all their bytes lie from block B on too. -/
structure OwnT (B : Nat) (W : World) (v : Value) (L : List Fd) : Prop where
  own : OwnF B W v L
  hi : ∀ f ∈ L, 0 < f.d.length → ∀ a, f.p = some a → B ≤ a.block
theorem OwnT.on {B : Nat} {W W' : World} {v : Value} {L : List Fd} (h : OwnT B W v L) (k : Below W.heap.size W W') : OwnT B W' v L := ⟨h.own.on k, h.hi⟩
theorem OwnT.fr {B b : Nat} {W W' : World} {v : Value} {L : List Fd} (h : OwnT B W v L) (k : Fr (fun i => i = b) W W') (hb : b < B) : OwnT B W' v L :=
  ⟨⟨h.own.own.fr k fun g hg q => by have := h.own.own.above g hg; omega, fun f hf => (h.own.oks f hf).fr k fun hl a ha q => by have := h.hi f hf hl a ha; omega, h.own.off⟩, h.hi⟩

/-- What next comes to. -/
def NextP (w : World) (B b : Nat) (s : St) (e : Ending) (w' : World) : Prop :=
  ∃ p, e = .returned (.agg #[.int .i64 (nxK s).1, .slice p (nxK s).2.length (nxK s).2.length]) ∧ FOk w' ⟨(nxK s).1, p, (nxK s).2.length, (nxK s).2⟩ ∧ (0 < (nxK s).2.length → ∀ a, p = some a → w.heap.size ≤ a.block) ∧ RS B w' b (nxS s) ∧ Fr (fun i => i = b) w w'

set_option maxHeartbeats 4000000 in
theorem tnext_any (B b : Nat) (s : St) (w : World) (h : RS B w b s) (hl : ∀ l, s = some l → l.length ≤ 140737488355328) :
    Calls Try.prog 21 #[.pointer (some ⟨b, 0, none⟩)] w fun e w' => NextP w B b s e w' := by
  have hs := h.stB
  have h1 := nV1 hs
  have hk := nV2 (hs.nS 1)
  have hti := tV_isB ((hs.nS 1).nS 2) (nV 2 (nS 1 s)).toNat
  have htl := tV_len (nS 2 (nS 1 s)) (nV 2 (nS 1 s)).toNat
  have htag : (Lit.int .i64 (nV 1 s)).wf = true := small_wf h1.1 (by omega)
  have HP := Hid.mk' (show ∀ g w', BIn w' (some ⟨g, 0, none⟩) (tV (nV 2 (nS 1 s)).toNat (nS 2 (nS 1 s))) → (0 < (tV (nV 2 (nS 1 s)).toNat (nS 2 (nS 1 s))).length → w.heap.size ≤ g) → RS B w' b (nS (nV 2 (nS 1 s)).toNat (nS 2 (nS 1 s))) → Fr (fun i => i = b) w w' → NextP w B b s (.returned (.agg #[.int .i64 (nV 1 s), .slice (some ⟨g, 0, none⟩) (tV (nV 2 (nS 1 s)).toNat (nS 2 (nS 1 s))).length (tV (nV 2 (nS 1 s)).toNat (nS 2 (nS 1 s))).length])) w' from
    fun g w' q1 q2 q3 q4 => ⟨some ⟨g, 0, none⟩, rfl, ⟨htag, Nat.le_refl _, by simp only [nxK, maxLen]; omega, by simp, q1, hti, by simp only [nxK]; omega⟩, fun hl a ha => by cases ha; exact q2 hl, q3, q4⟩)
  have HLL := Hid.mk' (show ∀ l, nS 2 (nS 1 s) = some l → l.length ≤ 140737488355328 from fun l e => by
    cases s with
    | none => cases e
    | some b0 =>
      have hb0 := hl b0 rfl
      by_cases q1 : 1 ≤ b0.length
      · rw [nS_some q1] at e
        by_cases q2 : 2 ≤ (b0.drop 1).length
        · rw [nS_some q2] at e; cases e; simp; omega
        · rw [nS_short (by omega)] at e; cases e
      · rw [nS_short (by omega)] at e; cases e)
  generalize NextP w B b s = Post at HP ⊢
  have B1 := (Below.refl w.heap.size w).alloc (Nat.le_refl _) (.cells #[.int .i64 0, .slice none 0 0] 30)
  have HG0 := Hid.mk' (heap_alloc_new w (.cells #[.int .i64 0, .slice none 0 0] 30))
  have HR0 := Hid.mk' (h.on B1)
  have HF0 := Hid.mk' (Fr.of_below B1 fun i => i = b)
  have HN := Hid.mk' (show w.heap.size ≠ b by have := h.lt; have := h.le; omega)
  have HLT := Hid.mk' h.lt
  have HLE := Hid.mk' h.le
  have N1 := gnum_any B b 1 s _ HR0.out (by omega) (by omega)
  have N2 := Hid.mk' (fun X (q : RS B X b (nS 1 s)) => gnum_any B b 2 (nS 1 s) X q (by omega) (by omega))
  obtain ⟨k, hkk⟩ : ∃ k : Nat, nV 2 (nS 1 s) = k := ⟨(nV 2 (nS 1 s)).toNat, by omega⟩
  rw [hkk] at N2 HP hk
  rw [Int.toNat_natCast] at HP
  have N3 := Hid.mk' (fun X (q : RS B X b (nS 2 (nS 1 s))) => gtake_any B b k (nS 2 (nS 1 s)) X q HLL.out)
  obtain ⟨x0, hx0⟩ : ∃ x, nV 1 s = x := ⟨_, rfl⟩
  rw [hx0] at N1 HP
  clear h hs hti htl htag hkk hx0 B1 h1
  generalize tV k (nS 2 (nS 1 s)) = d at HP N3
  go_enter Try.func21, Try.ntmps21
  go_wp2_with fail
  refine N1.mono ?_
  rintro e w1 ⟨rfl, hr1, hf1⟩
  have HG1 := Hid.mk' (box_on HG0.out hf1 HN.out)
  have HF1 := Hid.mk' (fr_on HF0.out hf1)
  have HR1 := Hid.mk' hr1
  clear hr1 hf1 HG0 HF0 HR0 N1
  go_wp2_with fail
  refine (N2.out w1 HR1.out).mono ?_
  rintro e w2 ⟨rfl, hr2, hf2⟩
  have HG2 := Hid.mk' (box_on HG1.out hf2 HN.out)
  have HF2 := Hid.mk' (fr_on HF1.out hf2)
  have HR2 := Hid.mk' hr2
  clear hr2 hf2 HG1 HF1 HR1 N2
  go_wp2_with fail
  refine (N3.out w2 HR2.out).mono ?_
  rintro e w3 ⟨g, rfl, hbi, hgg, hr3, hf3⟩
  have hbox := box_on HG2.out hf3 HN.out
  obtain ⟨c0, c1, f0, f1⟩ := two_cells hbox
  have HBX := Hid.mk' hbox
  have HF3 := Hid.mk' (fr_on HF2.out hf3)
  have HR3 := Hid.mk' hr3
  have HBI := Hid.mk' hbi
  have HGG := Hid.mk' (show 0 < d.length → w.heap.size < g from fun q => by have := hgg q; have := box_lt HG2.out; omega)
  clear hr3 hf3 hbi hgg HG2 HF2 HR2 N3 hbox
  obtain ⟨Q0, Q1⟩ := two_set HBX.out (.int .i64 x0) (.slice (some ⟨g, 0, none⟩) d.length d.length)
  have HQ0 := Hid.mk' Q0
  have HQ1 := Hid.mk' Q1
  clear Q0 Q1
  go_wp2_with fail
  have f : Below w.heap.size w3 ((w3.setCell ⟨w.heap.size, 0, none⟩ (.int .i64 x0)).setCell ⟨w.heap.size, 1, none⟩ (.slice (some ⟨g, 0, none⟩) d.length d.length)) :=
    ((Below.refl w.heap.size w3).setCell (p := ⟨w.heap.size, 0, none⟩) (Nat.le_refl _) _).setCell (p := ⟨w.heap.size, 1, none⟩) (Nat.le_refl _) _
  have f2 : Fr (fun k => k = w.heap.size) w3 ((w3.setCell ⟨w.heap.size, 0, none⟩ (.int .i64 x0)).setCell ⟨w.heap.size, 1, none⟩ (.slice (some ⟨g, 0, none⟩) d.length d.length)) :=
    Fr.setCell (S := fun k => k = w.heap.size) (p := ⟨w.heap.size, 1, none⟩) (Fr.setCell (S := fun k => k = w.heap.size) (p := ⟨w.heap.size, 0, none⟩) (Fr.refl _ _) (.inl rfl) _) (.inl rfl) _
  have hbi : BIn ((w3.setCell ⟨w.heap.size, 0, none⟩ (.int .i64 x0)).setCell ⟨w.heap.size, 1, none⟩ (.slice (some ⟨g, 0, none⟩) d.length d.length)) (some ⟨g, 0, none⟩) d := fun hl => (HBI.out.fr f2 (fun a ha _ q => by cases ha; have := HGG.out hl; simp only at q; omega)) hl
  exact bodyPost_ret (v := .agg #[.int .i64 x0, .slice (some ⟨g, 0, none⟩) d.length d.length]) (by have q0 := HQ0.out; have q1 := HQ1.out; simp [results, Try.results21, go_sem, q0, q1]) rfl
    (HP.out g _ hbi (fun hl => Nat.le_of_lt (HGG.out hl)) (HR3.out.low (f.mono HLE.out)) (fr_bel0 HF3.out f))

def sliceLen : Value → Nat
  | .slice _ n _ => n
  | _ => 0

/-- What is left comes behind what is split already. -/
def RestT (l : List Int) (L : List Fd) : St → Prop
  | some r => splitB l = (splitB r).map (kys L ++ ·) ∧ 3 * L.length + r.length ≤ l.length
  | none => splitB l = none
theorem RestT.start (l : List Int) : RestT l [] (some l) := ⟨by simp [kys], by simp⟩
theorem RestT.next {l r : List Int} {L : List Fd} (hb : isB r) (h0 : 0 < r.length) (h : RestT l L (some r)) (p : Option Addr) (c : Nat) : RestT l (L ++ [⟨(nxK (some r)).1, p, c, (nxK (some r)).2⟩]) (nxS (some r)) := by
  obtain ⟨h1, h2⟩ := h
  by_cases q : r.length < 3 + itLen r ∨ r.length < 3
  · rw [nx_no q]
    show splitB l = none
    rw [h1, splitB_short h0 q]
    rfl
  · obtain ⟨e1, e2⟩ := nx_ok hb (by omega) (by omega)
    rw [e1, e2]
    refine ⟨?_, ?_⟩
    · rw [h1, splitB_step (by omega) (by omega), Option.map_map]
      congr 1
      funext x
      simp [kys, ky]
    · simp only [List.length_append, List.length_cons, List.length_nil, List.length_drop]
      omega
theorem RestT.few {l r : List Int} {L : List Fd} (h0 : 0 < r.length) (h : RestT l L (some r)) : L.length + 1 ≤ l.length := by
  obtain ⟨_, h2⟩ := h
  omega
theorem RestT.done {l : List Int} {L : List Fd} {s : St} (h : RestT l L s) (h0 : lV s = 0) : splitB l = if s.isNone = true then none else some (kys L) := by
  cases s with
  | none => exact h
  | some r =>
    have hr : r = [] := List.eq_nil_of_length_eq_zero h0
    subst hr
    rw [h.1, splitB_nil]
    simp

/-- What Split comes to. -/
def SplitP (w : World) (l : List Int) (e : Ending) (w' : World) : Prop :=
  ((splitB l = none ∧ e = .returned (.tuple #[.slice none 0 0, .int .i64 2])) ∨
   ∃ p c L, splitB l = some (kys L) ∧ e = .returned (.tuple #[.slice p L.length c, .int .i64 0]) ∧ OwnT w.heap.size w' (.slice p L.length c) L) ∧ Below w.heap.size w w'

theorem OwnT.low {B B' : Nat} {W : World} {v : Value} {L : List Fd} (h : OwnT B W v L) (k : B' ≤ B) : OwnT B' W v L :=
  ⟨⟨⟨h.own.own.owns, fun g hg => Nat.le_trans k (h.own.own.above g hg)⟩, h.own.oks, h.own.off⟩, fun f hf hl a ha => Nat.le_trans k (h.hi f hf hl a ha)⟩

set_option maxHeartbeats 4000000 in
theorem tsplit_any (p : Option Addr) (c : Nat) (l : List Int) (w : World) (hp : BIn w p l) (hb : isB l) (hl : l.length ≤ 1000000) :
    Calls Try.prog 11 #[.slice p l.length c] w fun e w' => SplitP w l e w' := by
  have HY := Hid.mk' (show ∀ p c L w', splitB l = some (kys L) → OwnT w.heap.size w' (.slice p L.length c) L → Below w.heap.size w w' → SplitP w l (.returned (.tuple #[.slice p L.length c, .int .i64 0])) w' from fun p c L w' h1 h2 h3 => ⟨.inr ⟨p, c, L, h1, rfl, h2⟩, h3⟩)
  have HN := Hid.mk' (show ∀ w', splitB l = none → Below w.heap.size w w' → SplitP w l (.returned (.tuple #[.slice none 0 0, .int .i64 2])) w' from fun w' h1 h3 => ⟨.inl ⟨h1, rfl⟩, h3⟩)
  generalize SplitP w l = Post at HY HN ⊢
  have R := gread_any p c l w hp hb (by omega)
  have HSB := Hid.mk' hb
  clear hp hb
  go_enter Try.func11, Try.ntmps11
  go_wp2_with fail
  refine R.mono ?_
  clear R
  rintro e w1 ⟨b, rfl, hb1, hR1, hbel⟩
  have HB1 := Hid.mk' hbel
  have HR1 := Hid.mk' hR1
  have HBB := Hid.mk' hb1
  clear hbel hR1 hb1
  go_wp2_with fail
  go_loopw [5] (fun v W => ∃ p c L s, v = .slice p L.length c ∧ L.length ≤ l.length ∧ Hid (OwnT w1.heap.size W (.slice p L.length c) L) ∧ Hid (RS w1.heap.size W b s) ∧ Hid (RestT l L s) ∧ Hid (Below w.heap.size w W)) (fun v _ => l.length - sliceLen v)
  case atStart => exact ⟨none, 0, [], some l, rfl, by simp, ⟨OwnF.nil _ _, by simp⟩, HR1, RestT.start l, HB1⟩
  case round =>
    obtain ⟨p2, c2, L, s, rfl, hLl, HO, HR, HT, HB⟩ := hrel
    have LF := gleft_any _ b s wr HR.out
    obtain ⟨n, hn⟩ : ∃ n, lV s = n := ⟨_, rfl⟩
    rw [hn] at LF
    by_cases t : 0 < n
    · obtain ⟨r, rfl⟩ : ∃ r, s = some r := by
        cases s with
        | none => simp [lV] at hn; omega
        | some r => exact ⟨r, rfl⟩
      have hr0 : 0 < r.length := by simp only [lV] at hn; omega
      have hrl : L.length + 1 ≤ l.length := RestT.few hr0 HT.out
      have hrb : isB r := HR.out.stB r rfl
      have NX := tnext_any _ b (some r) wr HR.out (fun l' e => by cases e; have := HT.out.2; omega)
      have HNT := Hid.mk' (RestT.next hrb hr0 HT.out)
      obtain ⟨np, hnp⟩ : ∃ np, NextP wr w1.heap.size b (some r) = np := ⟨_, rfl⟩
      have HNP := Hid.mk' hnp
      rw [hnp] at NX
      have t' : (0 : Int) < (n : Int) := by omega
      clear hn hrb hr0 hnp HT
      go_wp2_with fail
      refine LF.mono ?_
      clear LF
      rintro e w2 ⟨rfl, rfl⟩
      go_wp2_with fail
      refine NX.mono ?_
      clear NX
      intro e w2 hN
      rw [← HNP.out] at hN
      obtain ⟨pn, rfl, hok, hoff, hR2, hF2⟩ := hN
      have HNT2 := Hid.mk' (HNT.out pn (nxK (some r)).2.length)
      generalize nxK (some r) = x at hok hoff HNT2 ⊢
      generalize nxS (some r) = s2 at hR2 HNT2
      obtain ⟨tg, d⟩ := x
      dsimp only at hok hoff HNT2 ⊢
      have HO2 := Hid.mk' (HO.out.fr hF2 HR.out.lt)
      have HR2 := Hid.mk' hR2
      have HOK := Hid.mk' hok
      have HB2 := Hid.mk' (HB.out.trans (hF2.below (fun i q => by have := HBB.out; omega) HB.out.size))
      have HOF := Hid.mk' hoff
      have HOV := Hid.mk' (show 0 < d.length → ∀ a, pn = some a → (Value.slice p2 L.length c2).ownBlock ≠ some a.block from fun hl a ha => own_ne HO.out.own.own a.block (hoff hl a ha))
      have HWS := Hid.mk' (show w1.heap.size ≤ wr.heap.size from HR.out.le)
      clear hok hoff hR2 hF2 HO HR HB HNT HNP
      go_wp2_with (at_builtin; refine wpList_addN (by rfl) (.tmp 11) (.tmp 14) (by rfl) (by rfl) (by exact HO2.out.own) (by exact HR2.out.le) tg pn d.length d.length d rfl (by exact HOK.out) (by exact HOV.out) (by rfl) (by omega) ?_)
      intro v' w' ho hbw
      have hlen : (L ++ [(⟨tg, pn, d.length, d⟩ : Fd)]).length = L.length + 1 := by simp
      obtain ⟨p3, c3, rfl, _⟩ := ho.own.slice
      have HO3 := Hid.mk' (show OwnT w1.heap.size w' (.slice p3 (L ++ [(⟨tg, pn, d.length, d⟩ : Fd)]).length c3) (L ++ [(⟨tg, pn, d.length, d⟩ : Fd)]) from ⟨ho, fun f hf hl a ha => by
        rcases List.mem_append.1 hf with q | q
        · exact HO2.out.hi f q hl a ha
        · simp at q; subst q; exact Nat.le_trans HWS.out (HOF.out hl a ha)⟩)
      have HR3 := Hid.mk' (HR2.out.low hbw)
      have HB3 := Hid.mk' (HB2.out.trans (hbw.mono HB1.out.size))
      clear ho hbw HO2 HR2 HB2 HOK HOF HOV
      generalize L ++ [(⟨tg, pn, d.length, d⟩ : Fd)] = L2 at hlen HO3 HNT2
      rw [hlen] at HO3
      rw [hlen]
      have HL2 := Hid.mk' hlen
      clear hlen
      go_wp2_with fail
      go_roundw
      case rel => exact ⟨p3, c3, L2, s2, by rw [HL2.out], by rw [HL2.out]; omega, by rw [HL2.out]; exact HO3, HR3, HNT2, HB3⟩
      case measure => simp [sliceLen]; omega
    · obtain rfl : n = 0 := by omega
      have BD := gbad_any _ b s wr HR.out
      have HD := Hid.mk' (HT.out.done hn)
      obtain ⟨d, hd⟩ : ∃ d, s.isNone = d := ⟨_, rfl⟩
      rw [hd] at BD HD
      clear hn hd HT
      go_wp2_with fail
      refine LF.mono ?_
      clear LF
      rintro e w2 ⟨rfl, rfl⟩
      go_wp2_with fail
      refine BD.mono ?_
      clear BD
      rintro e w2 ⟨rfl, rfl⟩
      cases d
      · have HQ := Hid.mk' (HY.out p2 c2 L wr (by rw [HD.out]; rfl) (HO.out.low HB1.out.size) HB.out)
        clear HO HR HB HD
        go_wp2_with fail
        exact HQ.out
      · have HQ := Hid.mk' (HN.out wr (by rw [HD.out]; rfl) HB.out)
        clear HO HR HB HD
        go_wp2_with fail
        exact HQ.out
end Go.Proofs.Ytflllegengomnaa
