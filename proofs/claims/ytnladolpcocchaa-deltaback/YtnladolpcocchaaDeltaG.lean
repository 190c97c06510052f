/-
  Package delta: sideBySide, of records.
-/
import Derived.Test.YtnladolpcocchaaDeltaP
namespace Go.Proofs.Ytnladolpcocchaa
open Go.RowKit
set_option linter.unusedSimpArgs false
set_option linter.unusedVariables false
set_option maxRecDepth 10000
set_option synthInstance.maxSize 2000

def lenV : Value → Nat
  | .slice _ n _ => n
  | _ => 0

/-- The state of a walk side by side: what is left of both, what has been picked. -/
structure SideR (K : List RK → List RK → List RK) (b n : List Rc) (w : World) (L M A : List Rc) (v : Value) (W : World) : Prop where
  both : Both L M
  sum : rks A ++ K (rks L) (rks M) = K (rks b) (rks n)
  own : OwnR 34 7 W w.heap.size v A.length (A.flatMap Rc.cells)
  mem : ∀ x ∈ A, x ∈ b ∨ x ∈ n
  len : A.length + L.length + M.length ≤ b.length + n.length
  bel : Below w.heap.size w W
theorem SideR.on {K : List RK → List RK → List RK} {b n : List Rc} {w : World} {L M A : List Rc} {v : Value} {W W' : World} (h : SideR K b n w L M A v W) (k : Below W.heap.size W W') : SideR K b n w L M A v W' :=
  ⟨h.both, h.sum, h.own.below k, h.mem, h.len, h.bel.trans (k.mono h.bel.size)⟩

/-- What lies where: a list in a slice, as it was at w. -/
structure AtR (w : World) (p : Option Addr) (c : Nat) (l b : List Rc) : Prop where
  rin : RIn w p l
  cap : l.length ≤ c ∧ c ≤ maxLen
  nil : p = none → c = 0
  sub : ∀ x ∈ l, x ∈ b

theorem AtR.behind {w : World} {p : Option Addr} {c : Nat} {l b : List Rc} (h : AtR w p c l b) (k : Nat) (hk : k ≤ l.length) : AtR w (if c = k then p else p.map fun x => x.add (k * 7)) (c - k) (l.drop k) b := by
  have h1 := h.cap
  refine ⟨h.rin.behind hk h1.1 fun q => by rw [if_neg (by omega)], ⟨by rw [List.length_drop]; omega, by omega⟩, fun q => ?_, fun x hx => h.sub x (List.mem_of_mem_drop hx)⟩
  by_cases z : c = k
  · omega
  · rw [if_neg z] at q
    have := h.nil (by simpa using q)
    omega
theorem SideR.step {K : List RK → List RK → List RK} {pick : List Rc → List Rc → List RK} {b n : List Rc} {w : World} {L M A u1 u2 P : List Rc} {v v' : Value} {W W' : World} {i : Int} (h : SideR K b n w L M A v W) (st : Steps RK K pick L M) (hi : leastL L M = i) (h1 : ofI i L = u1) (h2 : ofI i M = u2)
    (hk : rks P = pick u1 u2) (hm : ∀ x ∈ P, x ∈ u1 ∨ x ∈ u2) (m1 : ∀ x ∈ u1, x ∈ b) (m2 : ∀ x ∈ u2, x ∈ n) (hl : P.length ≤ 1) (ho : OwnR 34 7 W' w.heap.size v' (A ++ P).length ((A ++ P).flatMap Rc.cells)) (hb : Below w.heap.size W W') :
    SideR K b n w (L.drop u1.length) (M.drop u2.length) (A ++ P) v' W' := by
  obtain ⟨s1, s2, s3⟩ := st
  have k1 := (ofI_len i L).2
  have k2 := (ofI_len i M).2
  rw [hi, h1, h2] at s1 s2 s3
  rw [h1] at k1
  rw [h2] at k2
  refine ⟨s3, ?_, ho, fun x hx => ?_, ?_, h.bel.trans hb⟩
  · rw [rks_append, List.append_assoc, hk, s2]; exact h.sum
  · rcases List.mem_append.1 hx with q | q
    · exact h.mem x q
    · rcases hm x q with z | z
      · exact .inl (m1 x z)
      · exact .inr (m2 x z)
  · have := h.len
    rw [List.length_append, List.length_drop, List.length_drop]
    omega

def SidePost (K : List RK → List RK → List RK) (b n : List Rc) (w : World) (e : Ending) (w' : World) : Prop :=
  ∃ p c A, e = .returned (.tuple #[.slice p (List.length A) c, .bool (bothS (rks b) (rks n))]) ∧ RIn w' p A ∧ List.length A ≤ 2000 ∧ (∀ x ∈ A, x ∈ b ∨ x ∈ n) ∧ rks A = (if bothS (rks b) (rks n) = true then K (rks b) (rks n) else []) ∧ Below w.heap.size w w'

set_option maxHeartbeats 8000000 in
theorem sideR_any (fn : Nat) (K : List RK → List RK → List RK) (pick : List Rc → List Rc → List RK)
    (RUN : ∀ (x y : Value) (w : World), Sem.run Try.prog (callFunc fn #[x, y]) w = .ok (.enter fn #[x, y]) w)
    (ST : ∀ (L M : List Rc), Both L M → 0 < L.length + M.length → Steps RK K pick L M) (hK : K [] [] = [])
    (PK : ∀ (p q : Option Addr) (c d : Nat) (A B : List Rc) (w : World), RIn w p A → RIn w q B → A.length ≤ 1 → B.length ≤ 1 → (p = none → c = 0) → (q = none → d = 0) → Calls Try.prog fn #[.slice p A.length c, .slice q B.length d] w (PickR pick A B w))
    (p : Option Addr) (c : Nat) (b : List Rc) (q : Option Addr) (d : Nat) (n : List Rc) (w : World) (hp : RIn w p b) (hbc : b.length ≤ c) (hcm : c ≤ maxLen) (hpn : p = none → c = 0) (hb : SmK (rks b)) (hq : RIn w q n) (hnd : n.length ≤ d) (hdm : d ≤ maxLen) (hqn : q = none → d = 0) (hn : SmK (rks n)) :
    Calls Try.prog 18 #[.slice p b.length c, .slice q n.length d, .func (.func fn) #[] #[]] w (SidePost K b n w) := by
  have hl0 := hb.len
  have hl1 := hn.len
  have HB := Hid.mk' hb
  have HN := Hid.mk' hn
  have AL := Hid.mk' (AtR.mk hp ⟨hbc, hcm⟩ hpn (fun x hx => hx) : AtR w p c b b)
  have AM := Hid.mk' (AtR.mk hq ⟨hnd, hdm⟩ hqn (fun x hx => hx) : AtR w q d n n)
  have PKX := Hid.mk' PK
  have OKS := Hid.mk' (And.intro hp.oks hq.oks)
  have STX := Hid.mk' ST
  have HK := Hid.mk' hK
  have RUNX := Hid.mk' RUN
  have S0 := sorted_any p c b w hp (by simp only [maxLen]; omega) (fun x hx => by have := (hb.bags x hx).2; omega)
  have S1 := Hid.mk' (fun X (k : Below w.heap.size w X) => sorted_any q d n X (hq.below k) (by simp only [maxLen]; omega) (fun x hx => by have := (hn.bags x hx).2; omega))
  obtain ⟨sb, hsb⟩ : ∃ s, sortR (-1) (rks b) = s := ⟨_, rfl⟩
  obtain ⟨sn, hsn⟩ : ∃ s, sortR (-1) (rks n) = s := ⟨_, rfl⟩
  have hbs : bothS (rks b) (rks n) = (sb && sn) := by rw [bothS, hsb, hsn]
  rw [hsb] at S0
  rw [hsn] at S1
  unfold SidePost
  rw [hbs]
  have HSB := Hid.mk' hsb
  have HSN := Hid.mk' hsn
  clear hp hq hbc hcm hpn hnd hdm hqn hb hn PK ST hK RUN hsb hsn hbs
  go_enter Try.func18, Try.ntmps18
  go_wp2_with fail
  refine S0.mono ?_
  clear S0
  rintro e w1 ⟨rfl, hb1⟩
  have HB1 := Hid.mk' hb1
  have S1X := S1.out w1 hb1
  clear S1 hb1
  cases sb
  · go_wp2_with fail
    go_ret2
    exact ⟨none, 0, [], rfl, RIn.empty _ _, by simp, fun x hx => (by cases hx), rfl, HB1.out⟩
  go_wp2_with fail
  refine S1X.mono ?_
  clear S1X
  rintro e w2 ⟨rfl, hb2⟩
  have HB2 := Hid.mk' (HB1.out.trans (hb2.mono HB1.out.size))
  clear hb2 HB1
  cases sn
  · go_wp2_with fail
    go_ret2
    exact ⟨none, 0, [], rfl, RIn.empty _ _, by simp, fun x hx => (by cases hx), rfl, HB2.out⟩
  have ST0 := Hid.mk' (SideR.mk ⟨-1, HSB.out, HSN.out⟩ (by simp [rks]) (OwnR.nil _ _ _ _) (fun x hx => (by cases hx)) (by simp) HB2.out : SideR K b n w b n [] (.slice none 0 0) w2)
  clear HSB HSN HB2
  go_wp2_with fail
  go_loopw [0, 1, 8] (fun v0 v1 v W => ∃ (p : Option Addr) (c : Nat) (L : List Rc) (q : Option Addr) (d : Nat) (M A : List Rc), v0 = .slice p L.length c ∧ v1 = .slice q M.length d ∧ Hid (AtR w p c L b) ∧ Hid (AtR w q d M n) ∧ Hid (SideR K b n w L M A v W)) (fun v0 v1 _ _ => lenV v0 + lenV v1)
  case atStart => exact ⟨p, c, b, q, d, n, [], rfl, rfl, AL, AM, ST0⟩
  case round =>
    obtain ⟨p, c, L, q, d, M, A, rfl, rfl, AL, AM, SD⟩ := hrel
    have hlen := SD.out.len
    obtain ⟨nl, hnl⟩ : ∃ k, L.length = k := ⟨_, rfl⟩
    obtain ⟨nm, hnm⟩ : ∃ k, M.length = k := ⟨_, rfl⟩
    have HNL := Hid.mk' hnl
    have HNM := Hid.mk' hnm
    rw [hnl, hnm]
    by_cases tt : 0 < nl ∨ 0 < nm
    · have hne : 0 < L.length + M.length := by omega
      have STP := Hid.mk' (STX.out L M SD.out.both hne)
      have LI := leastID_any p q c d L M wr (AL.out.rin.below SD.out.bel) (AM.out.rin.below SD.out.bel) (by omega) (by omega) hne
      obtain ⟨i, hi⟩ : ∃ i, leastL L M = i := ⟨_, rfl⟩
      rw [hi, hnl, hnm] at LI
      have HI := Hid.mk' hi
      have O1 := Hid.mk' (fun X (k : Below wr.heap.size wr X) => ofID_any p c L i X ((AL.out.rin.below SD.out.bel).below k) (by omega) AL.out.cap.1 AL.out.cap.2)
      have O2 := Hid.mk' (fun X (k : Below wr.heap.size wr X) => ofID_any q d M i X ((AM.out.rin.below SD.out.bel).below k) (by omega) AM.out.cap.1 AM.out.cap.2)
      rw [hnl] at O1
      rw [hnm] at O2
      obtain ⟨u1, hu1⟩ : ∃ l, ofI i L = l := ⟨_, rfl⟩
      obtain ⟨u2, hu2⟩ : ∃ l, ofI i M = l := ⟨_, rfl⟩
      have k1 := ofI_len i L
      have k2 := ofI_len i M
      have m1 := Hid.mk' (fun x (h : x ∈ ofI i L) => AL.out.sub x (ofI_mem h))
      have m2 := Hid.mk' (fun x (h : x ∈ ofI i M) => AM.out.sub x (ofI_mem h))
      rw [hu1] at O1 k1 m1
      rw [hu2] at O2 k2 m2
      have HU1 := Hid.mk' hu1
      have HU2 := Hid.mk' hu2
      rw [hnl] at k1
      rw [hnm] at k2
      clear hnl hnm hi hu1 hu2 hne
      have hcase : (0 < nl) ∨ (nl = 0 ∧ 0 < nm) := by omega
      rcases hcase with h1 | ⟨rfl, h2⟩
      all_goals (
        go_wp2_with fail
        refine LI.mono ?_
        clear LI
        rintro e w3 ⟨rfl, hb3⟩
        have HB3 := Hid.mk' hb3
        have O1X := O1.out w3 hb3
        clear hb3 O1
        go_wp2_with fail
        refine O1X.mono ?_
        clear O1X
        rintro e w4 ⟨r1, s1, rfl, hr1, hl1, hm1, hn1, hb4⟩
        have HB4 := Hid.mk' (HB3.out.trans (hb4.mono HB3.out.size))
        have HR1 := Hid.mk' hr1
        have hb4x := Hid.mk' hb4
        have O2X := O2.out w4 HB4.out
        clear hb4 hr1 HB3 O2
        go_wp2_with fail
        refine O2X.mono ?_
        clear O2X
        rintro e w5 ⟨r2, s2, rfl, hr2, hl2, hm2, hn2, hb5⟩
        have HB5 := Hid.mk' (HB4.out.trans (hb5.mono HB4.out.size))
        have PX := PKX.out r1 r2 s1 s2 u1 u2 w5 ((HR1.out.below hb4x.out).below hb5) (hr2.below hb5) k1.1 k2.1 hn1 hn2
        clear hb5 hr2 HB4 HR1 hb4x
        go_wp2_with fail
        rw [RUNX.out, Oper.upon_enter]
        refine PX.mono ?_
        clear PX
        rintro e w6 ⟨r3, s3, P, rfl, hr3, hn3, hk3, hm3, hl3, hb6⟩
        have HB6 := Hid.mk' (HB5.out.trans (hb6.mono HB5.out.size))
        have SD6 := Hid.mk' (SD.out.on HB6.out)
        have HR3 := Hid.mk' hr3
        clear hb6 hr3 HB5
        have hPA : A.length + P.length ≤ 1000000 := by have := SD.out.len; omega
        go_wp2_with (at_builtin; refine wpList_addRs (by rfl) (.tmp 37) (.tmp 41) (by rfl) (by rfl) SD6.out.own SD6.out.bel.size r3 P s3 (by rfl) hn3 HR3.out hPA ?_)
        intro v' w' hv hbv
        have HV := Hid.mk' hv
        have HB7 := Hid.mk' hbv
        clear hv hbv
        have c1 := AL.out.cap
        have c2 := AM.out.cap
        go_wp2
        go_quiet (fail)
        go_roundw
        case rel =>
          have hbd := bel_drewN (Below.refl w'.heap.size w') nq
          (repeat apply Exists.intro)
          refine ⟨⟨_, _, L.drop u1.length, _, _, M.drop u2.length, A ++ P, ?_, ?_, AL.out.behind u1.length (by have := HNL.out; omega), AM.out.behind u2.length (by have := HNM.out; omega), (SD6.out.step STP.out HI.out HU1.out HU2.out hk3 hm3 m1.out m2.out hl3 (by simpa using HV.out) HB7.out).on hbd⟩, rfl⟩
          · rw [List.length_drop, HNL.out]; try rw [Nat.zero_sub]
          · rw [List.length_drop, HNM.out]
        case measure =>
          have s1 := STP.out.some
          rw [HI.out, HU1.out, HU2.out] at s1
          first
            | (show (nl - u1.length) + (nm - u2.length) < nl + nm; omega)
            | (show 0 + (nm - u2.length) < 0 + nm; omega))
    · have e1 : L = [] := by cases L; rfl; simp at hnl; omega
      have e2 : M = [] := by cases M; rfl; simp at hnm; omega
      subst e1 e2
      have hn1 : nl = 0 := by simpa using hnl.symm
      have hn2 : nm = 0 := by simpa using hnm.symm
      subst hn1 hn2
      have HS := Hid.mk' SD.out.sum
      have HM := Hid.mk' SD.out.mem
      have HBW := Hid.mk' SD.out.bel
      obtain ⟨pa, ca, rfl, hra, hna, hla, hma⟩ := own_rin SD.out.own (fun x hx => by
        rcases SD.out.mem x hx with z | z
        · exact (OKS.out.1 x z).below SD.out.bel
        · exact (OKS.out.2 x z).below SD.out.bel)
      have HRA := Hid.mk' hra
      clear hra AL AM SD
      go_wp2
      go_ret2
      exact ⟨pa, ca, A, rfl, HRA.out, by omega, HM.out, by
        have h := HS.out
        rw [show K (rks []) (rks []) = [] from HK.out, List.append_nil] at h
        exact h, HBW.out⟩
end Go.Proofs.Ytnladolpcocchaa
