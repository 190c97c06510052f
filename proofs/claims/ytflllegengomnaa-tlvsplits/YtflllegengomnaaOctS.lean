/-
  A reader as what is left of it, good or spoilt: one contract a function; a writer beside a block that it does not own.
-/
import Derived.Test.YtflllegengomnaaOctetR
import Derived.Test.YtflllegengomnaaOctetW
namespace Go.Proofs.Ytflllegengomnaa
open Go.RowKit
set_option linter.unusedSimpArgs false
set_option linter.unusedVariables false
set_option maxRecDepth 10000

/-- The bytes that are left of a reader; none: it is spoilt. -/
abbrev St := Option (List Int)
def nV (k : Nat) : St → Int
  | some l => if k ≤ l.length then numB (l.take k) else 0
  | none => 0
def nS (k : Nat) : St → St
  | some l => if k ≤ l.length then some (l.drop k) else none
  | none => none
def stB (s : St) : Prop := ∀ l, s = some l → isB l
theorem stB.nS {s : St} (h : stB s) (k : Nat) : stB (nS k s) := fun l e => by
  cases s with
  | none => simp [Go.Proofs.Ytflllegengomnaa.nS] at e
  | some b =>
    simp only [Go.Proofs.Ytflllegengomnaa.nS] at e
    split at e
    · cases e; exact (h b rfl).drop k
    · cases e
theorem nV_range {s : St} (h : stB s) (k : Nat) : 0 ≤ nV k s ∧ nV k s < 256 ^ k := by
  have hp := pow_pos k
  cases s with
  | none => simp only [nV]; omega
  | some b =>
    simp only [nV]
    split
    · rename_i hk
      have := numB_bound _ ((h b rfl).take k)
      rw [show (b.take k).length = k by simp; omega] at this
      exact this
    · omega
theorem nV1 {s : St} (h : stB s) : 0 ≤ nV 1 s ∧ nV 1 s ≤ 255 := by have := nV_range h 1; omega
theorem nV2 {s : St} (h : stB s) : 0 ≤ nV 2 s ∧ nV 2 s ≤ 65535 := by have := nV_range h 2; omega
theorem nV6 {s : St} (h : stB s) : 0 ≤ nV 6 s ∧ nV 6 s ≤ 281474976710655 := by have := nV_range h 6; omega
theorem nV_some {k : Nat} {l : List Int} (h : k ≤ l.length) : nV k (some l) = numB (l.take k) := by simp [nV, h]
theorem nS_some {k : Nat} {l : List Int} (h : k ≤ l.length) : nS k (some l) = some (l.drop k) := by simp [nS, h]
theorem nS_short {k : Nat} {l : List Int} (h : l.length < k) : nS k (some l) = none := by simp [nS, show ¬ k ≤ l.length by omega]
theorem nS_none (k : Nat) : nS k none = none := rfl

/-- At block b lies a reader with s left; all its memory lies below B. -/
structure RS (B : Nat) (w : World) (b : Nat) (s : St) : Prop where
  lt : b < B
  le : B ≤ w.heap.size
  good : ∀ l, s = some l → RdQ (fun k => k < B) w b l false
  bad : s = none → Rd w b [] true

theorem RS.low {B : Nat} {w w' : World} {b : Nat} {s : St} (h : RS B w b s) (k : Below B w w') : RS B w' b s := by
  refine ⟨h.lt, Nat.le_trans h.le k.size, fun l e => (h.good l e).low h.lt h.le k, fun e => ?_⟩
  obtain ⟨p, c, h1, h2, h3, h4, h5, h6, h7⟩ := h.bad e
  exact ⟨p, c, by rw [k.block b h.lt]; exact h1, h2, h3, h4, BIn.empty _ _, h6, h7⟩
theorem RS.on {B : Nat} {w w' : World} {b : Nat} {s : St} (h : RS B w b s) (k : Below w.heap.size w w') : RS B w' b s := h.low (k.mono h.le)
theorem RS.stB {B : Nat} {w : World} {b : Nat} {s : St} (h : RS B w b s) : stB s := fun l e => by
  obtain ⟨p, c, h1, h2, h3, h4, _⟩ := h.good l e
  exact h4

theorem gnum_any (B b : Nat) (k : Nat) (s : St) (w : World) (h : RS B w b s) (h1 : 1 ≤ k) (h7 : k ≤ 7) :
    Calls Try.prog 24 #[.pointer (some ⟨b, 0, none⟩), .int .i64 k] w fun e w' => e = .returned (.int .i64 (nV k s)) ∧ RS B w' b (nS k s) ∧ Fr (fun i => i = b) w w' := by
  cases s with
  | none =>
    refine (num_no b [] true k w (h.bad rfl) (.inl rfl)).mono ?_
    rintro e w' ⟨rfl, h1, h2⟩
    exact ⟨rfl, ⟨h.lt, Nat.le_trans h.le h2.size, fun l e => (by cases e), fun _ => h1⟩, h2⟩
  | some l =>
    by_cases q : k ≤ l.length
    · refine (num_ok b l k w (h.good l rfl) q h1 h7).mono ?_
      rintro e w' ⟨rfl, h1, h2, _⟩
      rw [nV_some q, nS_some q]
      exact ⟨rfl, ⟨h.lt, Nat.le_trans h.le h2.size, fun l e => (by cases e; exact h1), fun e => (by cases e)⟩, h2⟩
    · refine (num_no b l false k w (h.good l rfl) (.inr (.inr (.inr (by omega))))).mono ?_
      rintro e w' ⟨rfl, h1, h2⟩
      rw [nS_short (by omega), show nV k (some l) = 0 by simp [nV, q]]
      exact ⟨rfl, ⟨h.lt, Nat.le_trans h.le h2.size, fun l e => (by cases e), fun _ => h1⟩, h2⟩

/-- The reader, and what stands beside it, behind a number. -/
theorem fr_on {b : Nat} {w X X' : World} (h : Fr (fun i => i = b) w X) (k : Fr (fun i => i = b) X X') : Fr (fun i => i = b) w X' := h.trans k fun _ q => .inl q
theorem fr_bel {b : Nat} {w X X' : World} (h : Fr (fun i => i = b) w X) (k : Below X.heap.size X X') : Fr (fun i => i = b) w X' := h.trans (Fr.of_below k fun _ => False) fun _ q => q.elim
theorem fr_bel0 {b : Nat} {w X X' : World} (h : Fr (fun i => i = b) w X) (k : Below w.heap.size X X') : Fr (fun i => i = b) w X' :=
  h.trans (S' := fun i => w.heap.size ≤ i) ⟨k.os, k.tape, k.output, k.size, fun i _ hn => k.block i (by omega)⟩ fun _ q => .inr q
theorem box_on {b g : Nat} {X X' : World} {o : Obj} (h : X.heap[g]? = some o) (k : Fr (fun i => i = b) X X') (hn : g ≠ b) : X'.heap[g]? = some o := by
  rw [k.block g (Array.getElem?_eq_some_iff.1 h).1 hn]; exact h
theorem box_bel {g : Nat} {X X' : World} {o : Obj} (h : X.heap[g]? = some o) (k : Below X.heap.size X X') : X'.heap[g]? = some o := by
  rw [k.block g (Array.getElem?_eq_some_iff.1 h).1]; exact h
theorem box_lt {g : Nat} {X : World} {o : Obj} (h : X.heap[g]? = some o) : g < X.heap.size := (Array.getElem?_eq_some_iff.1 h).1

theorem gdone_any (B b : Nat) (t : St) (w : World) (h : RS B w b t) :
    Calls Try.prog 25 #[.pointer (some ⟨b, 0, none⟩)] w fun e w' => e = .returned (.bool (decide (t = some []))) ∧ w = w' := by
  cases t with
  | none =>
    refine (done_any b [] true w (h.bad rfl)).mono ?_
    rintro e w' ⟨rfl, rfl⟩
    exact ⟨rfl, rfl⟩
  | some l =>
    refine (done_any b l false w (h.good l rfl)).mono ?_
    rintro e w' ⟨rfl, rfl⟩
    refine ⟨?_, rfl⟩
    cases l with
    | nil => rfl
    | cons x t => simp; omega

theorem small_wf {z : Int} (h : 0 ≤ z) (h2 : z ≤ 281474976710655) : (Lit.int .i64 z).wf = true := by
  simp [Lit.wf, IntKind.min, IntKind.max, IntKind.signed, IntKind.bits]; omega

theorem lt1 {v : Int} (h : v ≤ 255) : v < 256 ^ 1 := by simp; omega
theorem lt2 {v : Int} (h : v ≤ 65535) : v < 256 ^ 2 := by simp; omega
theorem lt6 {v : Int} (h : v ≤ 281474976710655) : v < 256 ^ 6 := by simp; omega

/-- A writer beside a block r that it does not own. -/
def WrN (w : World) (B b r : Nat) (l : List Int) : Prop := ∃ g, Wr w b g l false ∧ B ≤ b ∧ (∀ k, g = some k → B ≤ k) ∧ g ≠ some r ∧ r ≠ b ∧ r < w.heap.size
theorem WrN.of {w : World} {B b : Nat} {l : List Int} (h : WrB w B b l false) (o : Obj) : WrN (w.alloc o) B b w.heap.size l := by
  obtain ⟨g, h1, h2, h3⟩ := h
  have hl := h1.lt
  refine ⟨g, h1.below ((Below.refl _ _).alloc (Nat.le_refl _) _), h2, h3, fun q => ?_, by omega, by simp⟩
  have := hl.2 _ q
  omega
theorem WrN.b {w : World} {B b r : Nat} {l : List Int} (h : WrN w B b r l) : WrB w B b l false := by
  obtain ⟨g, h1, h2, h3, _⟩ := h
  exact ⟨g, h1, h2, h3⟩
theorem WrN.below {w w' : World} {B b r : Nat} {l : List Int} (h : WrN w B b r l) (k : Below w.heap.size w w') : WrN w' B b r l := by
  obtain ⟨g, h1, h2, h3, h4, h5, h6⟩ := h
  exact ⟨g, h1.below k, h2, h3, h4, h5, Nat.lt_of_lt_of_le h6 k.size⟩
theorem numN (B b r : Nat) (l : List Int) (n : Nat) (v : Int) (w : World) (h : WrN w B b r l) (h1 : 1 ≤ n) (h7 : n ≤ 7) (hv : 0 ≤ v) (hv2 : v < 256 ^ n) (hv3 : v ≤ 9223372036854775807) (hlen : l.length + 7 ≤ 140737488355328) :
    Calls Try.prog 23 #[.pointer (some ⟨b, 0, none⟩), .int .i64 n, .int .i64 v] w fun e w' => e = .returned (.pointer (some ⟨b, 0, none⟩)) ∧ WrN w' B b r (l ++ digB n v) ∧ Below B w w' ∧ w'.heap[r]? = w.heap[r]? := by
  obtain ⟨g, h, q1, q2, q3, q4, q5⟩ := h
  have hlt := h.lt
  refine (numW_ok b g l n v w h h1 h7 hv hv2 hv3 hlen).mono ?_
  rintro e w' ⟨rfl, g', h3, h4, h5⟩
  obtain ⟨⟨g2, k1, k2, k3⟩, kb⟩ := WrB.next q1 q2 hlt.1 h3 h4 h5
  refine ⟨rfl, ⟨g', h3, q1, fun k hk => ?_, ?_, q4, Nat.lt_of_lt_of_le q5 kb.size⟩, kb, h5.block r q5 (fun q => ?_)⟩
  · rcases h4 with e | e | ⟨i, e, hi⟩
    · exact q2 k (e ▸ hk)
    · rw [e] at hk; cases hk
    · rw [e] at hk; cases hk; omega
  · rcases h4 with e | e | ⟨i, e, hi⟩
    · rw [e]; exact q3
    · rw [e]; simp
    · rw [e]; intro q; cases q; omega
  · rcases q with q | q
    · exact q4 q
    · exact q3 q

theorem writeX (w : World) (B : Nat) (hB : B = w.heap.size) : Calls Try.prog 15 #[] w fun e w' => ∃ b, e = .returned (.pointer (some ⟨b, 0, none⟩)) ∧ Hid (WrB w' B b [] false) ∧ Below B w w' := by
  subst hB
  refine (writeB w).mono ?_
  rintro e w' ⟨rfl, h1, h2⟩
  exact ⟨_, rfl, h1, h2⟩
theorem bytesX (B b : Nat) (l : List Int) (w : World) (h : WrB w B b l false) (hlen : l.length ≤ 100000) :
    Calls Try.prog 18 #[.pointer (some ⟨b, 0, none⟩)] w fun e w' => ∃ g, e = .returned (.tuple #[.slice (some ⟨g, 0, none⟩) l.length l.length, .bool true]) ∧ BIn w' (some ⟨g, 0, none⟩) l ∧ Below w.heap.size w w' := by
  refine (bytesB B b l w h (by omega)).mono ?_
  rintro e w' ⟨rfl, h1, h2⟩
  exact ⟨_, rfl, h1, h2⟩


/-- The bytes that come next. -/
def tV (k : Nat) : St → List Int
  | some l => if k ≤ l.length then l.take k else []
  | none => []
theorem tV_isB {s : St} (h : stB s) (k : Nat) : isB (tV k s) := by
  cases s with
  | none => exact isB.nil
  | some l =>
    simp only [tV]
    split
    · exact (h l rfl).take k
    · exact isB.nil
theorem tV_len (s : St) (k : Nat) : (tV k s).length ≤ k := by
  cases s with
  | none => simp [tV]
  | some l =>
    simp only [tV]
    split
    · simp; omega
    · simp

theorem gtake_any (B b : Nat) (k : Nat) (s : St) (w : World) (h : RS B w b s) (hl : ∀ l, s = some l → l.length ≤ 140737488355328) :
    Calls Try.prog 30 #[.pointer (some ⟨b, 0, none⟩), .int .i64 k] w fun e w' => ∃ g, e = .returned (.slice (some ⟨g, 0, none⟩) (tV k s).length (tV k s).length) ∧ BIn w' (some ⟨g, 0, none⟩) (tV k s) ∧ (0 < (tV k s).length → w.heap.size ≤ g) ∧ RS B w' b (nS k s) ∧ Fr (fun i => i = b) w w' := by
  cases s with
  | none =>
    refine (take_no b [] true k w (h.bad rfl) (.inl rfl)).mono ?_
    rintro e w' ⟨⟨g, rfl⟩, h1, h2⟩
    exact ⟨g, rfl, BIn.empty _ _, fun q => absurd q (by simp [tV]), ⟨h.lt, Nat.le_trans h.le h2.size, fun l e => (by cases e), fun _ => h1⟩, h2⟩
  | some l =>
    by_cases q : k ≤ l.length
    · refine (take_ok b l k w (h.good l rfl) q (hl l rfl)).mono ?_
      rintro e w' ⟨rfl, h1, h2, h3⟩
      have e1 : tV k (some l) = l.take k := by simp [tV, q]
      have e2 : (l.take k).length = k := by simp; omega
      rw [nS_some q, e1, e2]
      exact ⟨_, rfl, h1, fun _ => Nat.le_refl _, ⟨h.lt, Nat.le_trans h.le h3.size, fun l e => (by cases e; exact h2), fun e => (by cases e)⟩, h3⟩
    · refine (take_no b l false k w (h.good l rfl) (.inr (.inr (by omega)))).mono ?_
      rintro e w' ⟨⟨g, rfl⟩, h1, h2⟩
      have e1 : tV k (some l) = [] := by simp [tV, q]
      rw [nS_short (by omega), e1]
      exact ⟨g, rfl, BIn.empty _ _, fun q => absurd q (by simp), ⟨h.lt, Nat.le_trans h.le h2.size, fun l e => (by cases e), fun _ => h1⟩, h2⟩

/-- How many bytes are left. -/
def lV : St → Nat
  | some l => l.length
  | none => 0
theorem gleft_any (B b : Nat) (s : St) (w : World) (h : RS B w b s) :
    Calls Try.prog 20 #[.pointer (some ⟨b, 0, none⟩)] w fun e w' => e = .returned (.int .i64 (lV s)) ∧ w = w' := by
  cases s with
  | none => exact left_any b [] true w (h.bad rfl)
  | some l => exact left_any b l false w (h.good l rfl)

theorem gbad_any (B b : Nat) (s : St) (w : World) (h : RS B w b s) :
    Calls Try.prog 22 #[.pointer (some ⟨b, 0, none⟩)] w fun e w' => e = .returned (.bool s.isNone) ∧ w = w' := by
  cases s with
  | none => exact badR_any b [] true w (h.bad rfl)
  | some l => exact badR_any b l false w (h.good l rfl)

theorem gread_any (p : Option Addr) (c : Nat) (l : List Int) (w : World) (hB : BIn w p l) (hl : isB l) (hn : l.length ≤ 140737488355328) :
    Calls Try.prog 19 #[.slice p l.length c] w fun e w' => ∃ b, e = .returned (.pointer (some ⟨b, 0, none⟩)) ∧ w.heap.size ≤ b ∧ RS w'.heap.size w' b (some l) ∧ Below w.heap.size w w' := by
  refine (read_at p c l w hB hl hn).mono ?_
  rintro e w' ⟨b, rfl, h1, h2, h3, h4⟩
  exact ⟨b, rfl, h1, ⟨h2, Nat.le_refl _, fun l' e => (by cases e; exact h3.mono fun i q => q.2), fun e => (by cases e)⟩, h4⟩

theorem rawN (B b r : Nat) (l m : List Int) (p : Option Addr) (c : Nat) (w : World) (h : WrN w B b r l) (hB : BIn w p m) (hm : isB m) (hp : p = none → c = 0) (hlen : l.length + m.length ≤ 140737488355328) :
    Calls Try.prog 26 #[.pointer (some ⟨b, 0, none⟩), .slice p m.length c] w fun e w' => e = .returned (.pointer (some ⟨b, 0, none⟩)) ∧ WrN w' B b r (l ++ m) ∧ Below B w w' ∧ w'.heap[r]? = w.heap[r]? := by
  obtain ⟨g, h, q1, q2, q3, q4, q5⟩ := h
  have hlt := h.lt
  refine (raw_ok b g l m p c w h hB hm hp hlen).mono ?_
  rintro e w' ⟨rfl, g', h3, h4, h5⟩
  obtain ⟨⟨g2, k1, k2, k3⟩, kb⟩ := WrB.next q1 q2 hlt.1 h3 h4 h5
  refine ⟨rfl, ⟨g', h3, q1, fun k hk => ?_, ?_, q4, Nat.lt_of_lt_of_le q5 kb.size⟩, kb, h5.block r q5 (fun q => ?_)⟩
  · rcases h4 with e | e | ⟨i, e, hi⟩
    · exact q2 k (e ▸ hk)
    · rw [e] at hk; cases hk
    · rw [e] at hk; cases hk; omega
  · rcases h4 with e | e | ⟨i, e, hi⟩
    · rw [e]; exact q3
    · rw [e]; simp
    · rw [e]; intro q; cases q; omega
  · rcases q with q | q
    · exact q4 q
    · exact q3 q

theorem num_digs (n : Nat) (v : Int) (hv : 0 ≤ v) (hv2 : v < 256 ^ n) : numB (digB n v) = v := by
  have key : ∀ j, j ≤ n → numB ((digB n v).take j) = v / 256 ^ (n - j) := by
    intro j
    induction j with
    | zero => intro _; simp [numB]; exact (Int.ediv_eq_zero_of_lt hv hv2).symm
    | succ j ih =>
      intro hj
      rw [digB_take n v j (by omega), numB_snoc, ih (by omega)]
      have e1 : n - 1 - j = n - (j + 1) := by omega
      have e2 : (256 : Int) ^ (n - j) = 256 ^ (n - (j + 1)) * 256 := by
        rw [← Int.pow_succ]; congr 1; omega
      rw [e1, e2, ← Int.ediv_ediv_of_nonneg (Int.le_of_lt (pow_pos _))]
      omega
  have := key n (Nat.le_refl _)
  rw [List.take_of_length_le (by rw [digB_len]; exact Nat.le_refl _)] at this
  simpa using this
end Go.Proofs.Ytflllegengomnaa
