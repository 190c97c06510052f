/-
  Generation 1: what Decode comes to, number by number, as plain Lean; that it is what a body is read as. No function of the program is named here.
-/
import Derived.Test.YtmfkdohfejklhaaDoorGen1R
namespace Go.Proofs.YtmfkdohfejklhaaDoor
open Go.RowKit
set_option linter.unusedSimpArgs false
set_option linter.unusedVariables false
set_option maxRecDepth 10000
set_option synthInstance.maxSize 2000

/-- The bytes that are left of a reader; none: it is spoilt. -/
abbrev St := Option (List Int)
def nV (k : Nat) : St → Int
  | some l => if k ≤ l.length then numB (l.take k) else 0
  | none => 0
def nS (k : Nat) : St → St
  | some l => if k ≤ l.length then some (l.drop k) else none
  | none => none
def stB (s : St) : Prop := ∀ l, s = some l → isB l
theorem stB.nS {s : St} (h : stB s) (k : Nat) : stB (nS k s) := fun l e => by
  cases s with
  | none => simp [Go.Proofs.YtmfkdohfejklhaaDoor.nS] at e
  | some b =>
    simp only [Go.Proofs.YtmfkdohfejklhaaDoor.nS] at e
    split at e
    · cases e; exact (h b rfl).drop k
    · cases e
theorem nV_range {s : St} (h : stB s) (k : Nat) : 0 ≤ nV k s ∧ nV k s < 256 ^ k := by
  have hp := pow_pos k
  cases s with
  | none => simp only [nV]; omega
  | some b =>
    simp only [nV]
    split
    · rename_i hk
      have := numB_bound _ ((h b rfl).take k)
      rw [show (b.take k).length = k by simp; omega] at this
      exact this
    · omega
theorem nV1 {s : St} (h : stB s) : 0 ≤ nV 1 s ∧ nV 1 s ≤ 255 := by have := nV_range h 1; omega
theorem nV2 {s : St} (h : stB s) : 0 ≤ nV 2 s ∧ nV 2 s ≤ 65535 := by have := nV_range h 2; omega
theorem nV6 {s : St} (h : stB s) : 0 ≤ nV 6 s ∧ nV 6 s ≤ 281474976710655 := by have := nV_range h 6; omega
theorem nV_some {k : Nat} {l : List Int} (h : k ≤ l.length) : nV k (some l) = numB (l.take k) := by simp [nV, h]
theorem nS_some {k : Nat} {l : List Int} (h : k ≤ l.length) : nS k (some l) = some (l.drop k) := by simp [nS, h]
theorem nS_short {k : Nat} {l : List Int} (h : l.length < k) : nS k (some l) = none := by simp [nS, show ¬ k ≤ l.length by omega]
theorem nS_none (k : Nat) : nS k none = none := rfl

/-- One record. -/
def rcS (s : St) : St := nS 1 (nS 2 (nS 2 s))
def rcN (s : St) : Int := nV 1 (nS 2 (nS 2 s))
def rcOf (s : St) : Rc := ⟨nV 2 s, nV 2 (nS 2 s), rcN s % 4, rcN s % 16 / 4, rcN s % 64 / 16, rcN s / 64 == 1, none, 0, []⟩
def okR (s : St) : Bool := lastB (rk (rcOf s)) == rcN s
theorem okR_iff {s : St} (h : stB s) : okR s = decide (rcN s ≤ 127) := by
  have hn := nV1 ((h.nS 2).nS 2)
  have hn' : 0 ≤ rcN s ∧ rcN s ≤ 255 := hn
  have e : lastB (rk (rcOf s)) = rcN s % 4 + 4 * (rcN s % 16 / 4) + 16 * (rcN s % 64 / 16) + (if (rcN s / 64 == 1) = true then 64 else 0) := rfl
  unfold okR
  rw [e]
  generalize rcN s = n at hn' ⊢
  clear hn e
  rw [Bool.eq_iff_iff, beq_iff_eq, decide_eq_true_eq]
  by_cases q : n / 64 = 1
  · rw [if_pos (by simpa using q)]
    constructor <;> intro _ <;> omega
  · rw [if_neg (by simpa using q)]
    constructor <;> intro _ <;> omega
theorem rcOf_nb {s : St} (h : stB s) : RNb (rcOf s) := by
  have h1 := nV2 h
  have h2 := nV2 (h.nS 2)
  have h3 : 0 ≤ rcN s ∧ rcN s ≤ 255 := nV1 ((h.nS 2).nS 2)
  refine ⟨?_, ?_, ?_, ?_, ?_, rfl, rfl, rfl⟩
  · show (Lit.int .i64 (nV 2 s)).wf = true
    exact small_wf h1.1 (by omega)
  · show (Lit.int .i64 (nV 2 (nS 2 s))).wf = true
    exact small_wf h2.1 (by omega)
  · show (Lit.int .i64 (rcN s % 4)).wf = true
    exact small_wf (by omega) (by omega)
  · show (Lit.int .i64 (rcN s % 16 / 4)).wf = true
    exact small_wf (by omega) (by omega)
  · show (Lit.int .i64 (rcN s % 64 / 16)).wf = true
    exact small_wf (by omega) (by omega)

/-- n records. -/
def rcsF : Nat → St → Option (List Rc) × St
  | 0, s => (some [], s)
  | n + 1, s => if okR s = true then ((rcsF n (rcS s)).1.map (rcOf s :: ·), (rcsF n (rcS s)).2) else (none, rcS s)

theorem rcsF_short : ∀ (n : Nat) (s : St), (∀ b, s = some b → b.length < 5 * n) → (rcsF n s).1 = none ∨ (rcsF n s).2 = none
  | 0, s, h => by
    cases s with
    | none => exact .inr rfl
    | some b => exact absurd (h b rfl) (by omega)
  | n + 1, s, h => by
    rw [rcsF]
    split
    · have := rcsF_short n (rcS s) (fun b e => by
        cases s with
        | none => simp [rcS, nS] at e
        | some c =>
          have hc := h c rfl
          by_cases h1 : 2 ≤ c.length
          · rw [rcS, nS_some h1] at e
            by_cases h2 : 2 ≤ (c.drop 2).length
            · rw [nS_some h2] at e
              by_cases h3 : 1 ≤ ((c.drop 2).drop 2).length
              · rw [nS_some h3] at e
                cases e
                simp at h1 h2 h3 ⊢
                omega
              · rw [nS_short (by omega)] at e; cases e
            · rw [nS_short (by omega)] at e; simp [nS] at e
          · rw [rcS, nS_short (by omega)] at e; simp [nS] at e)
      rcases this with h | h
      · left; simp [h]
      · right; exact h
    · exact .inl rfl

theorem numB_one (l : List Int) (h : 1 ≤ l.length) : numB (l.take 1) = l.getD 0 0 := by
  cases l with
  | nil => simp at h
  | cons x t => simp [numB]

theorem rc_some {b : List Int} (h : 5 ≤ b.length) (hb : isB b) : rcN (some b) = b.getD 4 0 ∧ rcS (some b) = some (b.drop 5) ∧ (b.getD 4 0 ≤ 127 → rk (rcOf (some b)) = recOf b) := by
  have e1 : nS 2 (some b) = some (b.drop 2) := nS_some (by omega)
  have e2 : nS 2 (some (b.drop 2)) = some (b.drop 4) := by rw [nS_some (by simp; omega), List.drop_drop]
  have e3 : nS 1 (some (b.drop 4)) = some (b.drop 5) := by rw [nS_some (by simp; omega), List.drop_drop]
  have en : rcN (some b) = b.getD 4 0 := by
    rw [rcN, e1, e2, nV_some (by simp; omega), numB_one _ (by simp; omega)]
    simp [List.getD]
  refine ⟨en, by rw [rcS, e1, e2, e3], fun q => ?_⟩
  have hx := hb.getD 4
  have e : rk (rcOf (some b)) = (nV 2 (some b), nV 2 (nS 2 (some b)), rcN (some b) % 4, rcN (some b) % 16 / 4, rcN (some b) % 64 / 16, rcN (some b) / 64 == 1, []) := rfl
  rw [e, en, e1, nV_some (by omega), nV_some (by simp; omega), recOf]
  generalize b.getD 4 0 = v at hx q ⊢
  have c1 : v % 16 / 4 = v / 4 % 4 := by omega
  have c2 : v % 64 / 16 = v / 16 % 4 := by omega
  have c3 : (v / 64 == 1) = decide (64 ≤ v) := by
    rw [Bool.eq_iff_iff, beq_iff_eq, decide_eq_true_eq]
    constructor <;> intro _ <;> omega
  rw [c1, c2, c3]

/-- As many as there are bytes for. -/
theorem rcsF_good : ∀ (n : Nat) (b : List Int), isB b → 5 * n ≤ b.length →
    (recsOf n b = none → (rcsF n (some b)).1 = none) ∧ (∀ ks, recsOf n b = some ks → ∃ rs, rcsF n (some b) = (some rs, some (b.drop (5 * n))) ∧ rks rs = ks ∧ ∀ x ∈ rs, RNb x)
  | 0, b, hb, h => ⟨fun e => by simp [recsOf] at e, fun ks e => by simp [recsOf] at e; subst e; exact ⟨[], by simp [rcsF], rfl, by simp⟩⟩
  | n + 1, b, hb, h => by
    have hs : stB (some b) := fun l e => by cases e; exact hb
    obtain ⟨e1, e2, e3⟩ := rc_some (b := b) (by omega) hb
    obtain ⟨i1, i2⟩ := rcsF_good n (b.drop 5) (hb.drop 5) (by simp; omega)
    rw [rcsF, okR_iff hs, e1, e2, recsOf]
    by_cases q : b.getD 4 0 ≤ 127
    · rw [if_neg (by omega), if_pos (by simpa using q)]
      constructor
      · intro hn
        have := i1 (by simpa using hn)
        simp [this]
      · intro ks hk
        obtain ⟨kt, hkt, rfl⟩ := Option.map_eq_some_iff.1 hk
        obtain ⟨rs, h1, h2, h3⟩ := i2 kt hkt
        refine ⟨rcOf (some b) :: rs, ?_, ?_, ?_⟩
        · rw [h1, List.drop_drop, show 5 + 5 * n = 5 * (n + 1) by omega]; rfl
        · rw [rks, List.map_cons, e3 q, ← h2]; rfl
        · intro x hx
          rcases List.mem_cons.1 hx with rfl | hx
          · exact rcOf_nb hs
          · exact h3 x hx
    · rw [if_pos (by omega), if_neg (by simpa using q)]
      exact ⟨fun _ => rfl, fun ks e => by cases e⟩

/-- What stands ahead of the records. -/
def hd1 (s : St) : St := nS 1 s
def hd2 (s : St) : St := nS 2 (hd1 s)
def hd3 (s : St) : St := nS 6 (hd2 s)
def hd4 (s : St) : St := nS 1 (hd3 s)
def hd5 (s : St) : St := nS 2 (hd4 s)
def hd6 (s : St) : St := nS 2 (hd5 s)
def spO (c : Int) : Int × Int := if okS (ofLo c) (ofHi c) = true then (ofLo c, ofHi c) else (0, 0)
def hdM (s : St) : Mg := ⟨nV 1 s, nV 2 (hd1 s), nV 6 (hd2 s), (spO (nV 1 (hd3 s))).1, (spO (nV 1 (hd3 s))).2, nV 2 (hd4 s), nV 2 (hd5 s), 0, 0, 0, none, 0, []⟩
def withR (m : Mg) (p : Option Addr) (c : Nat) (rs : List Rc) : Mg := ⟨m.kind, m.frm, m.inc, m.lo, m.hi, m.seq, m.tgt, 0, 0, 0, p, c, rs⟩

theorem hd_none : hd6 none = none := rfl
theorem rcsF_none : ∀ n, (rcsF n none).2 = none
  | 0 => rfl
  | n + 1 => by
    rw [rcsF]
    split
    · exact rcsF_none n
    · rfl

theorem hd_short {l : List Int} (h : l.length < 15) : nS 1 (hd6 (some l)) = none := by
  unfold hd6 hd5 hd4 hd3 hd2 hd1
  by_cases h1 : 1 ≤ l.length
  · rw [nS_some h1]
    by_cases h2 : 2 ≤ (l.drop 1).length
    · rw [nS_some h2]
      by_cases h3 : 6 ≤ ((l.drop 1).drop 2).length
      · rw [nS_some h3]
        by_cases h4 : 1 ≤ (((l.drop 1).drop 2).drop 6).length
        · rw [nS_some h4]
          by_cases h5 : 2 ≤ ((((l.drop 1).drop 2).drop 6).drop 1).length
          · rw [nS_some h5]
            by_cases h6 : 2 ≤ (((((l.drop 1).drop 2).drop 6).drop 1).drop 2).length
            · rw [nS_some h6, nS_short (by simp at h6 ⊢; omega)]
            · rw [nS_short (k := 2) (by omega)]; rfl
          · rw [nS_short (k := 2) (by omega)]; rfl
        · rw [nS_short (k := 1) (by omega)]; rfl
      · rw [nS_short (k := 6) (by omega)]; rfl
    · rw [nS_short (k := 2) (by omega)]; rfl
  · rw [nS_short (k := 1) (by omega)]; rfl

theorem hd_long {l : List Int} (h : 15 ≤ l.length) : hd6 (some l) = some (l.drop 14) ∧ nV 1 (hd6 (some l)) = l.getD 14 0 ∧ nS 1 (hd6 (some l)) = some (l.drop 15) ∧
    hdM (some l) = ⟨l.getD 0 0, numB ((l.drop 1).take 2), numB ((l.drop 3).take 6), (spO (l.getD 9 0)).1, (spO (l.getD 9 0)).2, numB ((l.drop 10).take 2), numB ((l.drop 12).take 2), 0, 0, 0, none, 0, []⟩ := by
  have e1 : hd1 (some l) = some (l.drop 1) := by unfold hd1; rw [nS_some (by omega)]
  have e2 : hd2 (some l) = some (l.drop 3) := by unfold hd2; rw [e1, nS_some (by simp; omega), List.drop_drop]
  have e3 : hd3 (some l) = some (l.drop 9) := by unfold hd3; rw [e2, nS_some (by simp; omega), List.drop_drop]
  have e4 : hd4 (some l) = some (l.drop 10) := by unfold hd4; rw [e3, nS_some (by simp; omega), List.drop_drop]
  have e5 : hd5 (some l) = some (l.drop 12) := by unfold hd5; rw [e4, nS_some (by simp; omega), List.drop_drop]
  have e6 : hd6 (some l) = some (l.drop 14) := by unfold hd6; rw [e5, nS_some (by simp; omega), List.drop_drop]
  refine ⟨e6, ?_, ?_, ?_⟩
  · rw [e6, nV_some (by simp; omega), numB_one _ (by simp; omega)]; simp [List.getD]
  · rw [e6, nS_some (by simp; omega), List.drop_drop]
  · have f0 : nV 1 (some l) = l.getD 0 0 := by rw [nV_some (by omega), numB_one _ (by omega)]
    have f3 : nV 1 (hd3 (some l)) = l.getD 9 0 := by rw [e3, nV_some (by simp; omega), numB_one _ (by simp; omega)]; simp [List.getD]
    unfold hdM
    rw [f0, f3, e1, e2, e4, e5, nV_some (by simp; omega), nV_some (by simp; omega), nV_some (by simp; omega), nV_some (by simp; omega)]

theorem spO_ok {c : Int} (hc : 0 ≤ c ∧ c < 256) (h : okS (spO c).1 (spO c).2 = true) : (spO c).1 = c / 16 ∧ (spO c).2 = c % 16 := by
  unfold spO at h ⊢
  unfold ofLo ofHi at h ⊢
  rw [Int.tdiv_eq_ediv_of_nonneg (by omega), Int.tmod_eq_emod_of_nonneg (by omega)] at h ⊢
  split
  · exact ⟨rfl, rfl⟩
  · rename_i q
    rw [if_neg q] at h
    exact absurd h (by decide)
theorem spO_of {c : Int} (hc : 0 ≤ c ∧ c < 256) (h : okS (c / 16) (c % 16) = true) : spO c = (c / 16, c % 16) := by
  unfold spO ofLo ofHi
  rw [Int.tdiv_eq_ediv_of_nonneg (by omega), Int.tmod_eq_emod_of_nonneg (by omega), if_pos h]

/-- Is it read, and as what? -/
theorem dec_yes {l : List Int} (hb : isB l) {p : Option Addr} {c : Nat} {rs : List Rc} {n : Nat} (hn : nV 1 (hd6 (some l)) = n) (h : rcsF n (nS 1 (hd6 (some l))) = (some rs, some []))
    (hf : fit1 (withR (hdM (some l)) p c rs) = true) : Read1 l (mv (withR (hdM (some l)) p c rs)) := by
  by_cases h15 : 15 ≤ l.length
  · obtain ⟨e1, e2, e3, e4⟩ := hd_long h15
    rw [e2] at hn
    rw [e3] at h
    have hlen : 5 * n ≤ (l.drop 15).length := by
      by_cases q : 5 * n ≤ (l.drop 15).length
      · exact q
      · have := rcsF_short n (some (l.drop 15)) (fun b e => by cases e; omega)
        rw [h] at this
        simp at this
    obtain ⟨g1, g2⟩ := rcsF_good n (l.drop 15) (hb.drop 15) hlen
    have hf' := (fit1_iff _).1 hf
    cases hk : recsOf n (l.drop 15) with
    | none => rw [h] at g1; exact absurd (g1 hk) (by simp)
    | some ks =>
      obtain ⟨rs', h1, h2, h3⟩ := g2 ks hk
      rw [h] at h1
      simp only [Prod.mk.injEq, Option.some.injEq] at h1
      obtain ⟨rfl, h4⟩ := h1
      have hl5 : (l.drop 15).length = 5 * n := by
        have := congrArg List.length h4
        simp at this
        simp at hlen ⊢
        omega
      have hx := hb.getD 9
      have hsp := spO_ok hx (by have := hf'.1.2.1; rw [e4] at this; exact this)
      refine ⟨h15, by rw [hn]; simp at hl5; omega, ks, ?_, ?_, hf'.1, hf'.2.1⟩
      · rw [hn, Int.toNat_natCast]; exact hk
      · rw [e4]
        show (⟨l.getD 0 0, numB ((l.drop 1).take 2), numB ((l.drop 3).take 6), (spO (l.getD 9 0)).1, (spO (l.getD 9 0)).2, numB ((l.drop 10).take 2), numB ((l.drop 12).take 2), 0, 0, 0, rks rs⟩ : MV) = _
        rw [hsp.1, hsp.2, h2]
        rfl
  · have e : (rcsF n (nS 1 (hd6 (some l)))).2 = none := by rw [hd_short (by omega)]; exact rcsF_none n
    rw [h] at e
    cases e

theorem dec_no {l : List Int} (hb : isB l) {n : Nat} (hn : nV 1 (hd6 (some l)) = n)
    (h : ∀ rs, rcsF n (nS 1 (hd6 (some l))) = (some rs, some []) → ∀ p c, fit1 (withR (hdM (some l)) p c rs) = false) : ∀ x, ¬ Read1 l x := by
  intro x hx
  have hxf := (body_read hb hx).2
  obtain ⟨h15, hlen, ks, hks, rfl, hm, h9⟩ := hx
  obtain ⟨e1, e2, e3, e4⟩ := hd_long h15
  rw [e2] at hn
  rw [hn, Int.toNat_natCast] at hks
  rw [hn] at hlen
  obtain ⟨_, g2⟩ := rcsF_good n (l.drop 15) (hb.drop 15) (by simp; omega)
  obtain ⟨rs, h1, h2, h3⟩ := g2 ks hks
  have h4 : (l.drop 15).drop (5 * n) = [] := by rw [List.drop_drop]; exact List.drop_eq_nil_of_le (by omega)
  rw [h4] at h1
  have hsp := spO_of (hb.getD 9) (by have := hm.2.1; exact this)
  have e : mv (withR (hdM (some l)) none 0 rs) = readV l ks := by
    rw [e4]
    show (⟨l.getD 0 0, numB ((l.drop 1).take 2), numB ((l.drop 3).take 6), (spO (l.getD 9 0)).1, (spO (l.getD 9 0)).2, numB ((l.drop 10).take 2), numB ((l.drop 12).take 2), 0, 0, 0, rks rs⟩ : MV) = _
    rw [hsp, h2]
    rfl
  have := h rs (by rw [e3]; exact h1) none 0
  rw [(fit1_iff _).2 (by rw [e]; exact hxf)] at this
  cases this
end Go.Proofs.YtmfkdohfejklhaaDoor
