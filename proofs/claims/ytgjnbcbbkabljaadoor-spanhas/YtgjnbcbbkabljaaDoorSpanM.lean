/-
  The mathematics of spans: what is in all of some spans; if each two meet, all do.
-/
import Derived.Test.YtgjnbcbbkabljaaDoorSpanC
namespace Go.Proofs.YtgjnbcbbkabljaaDoor
set_option linter.unusedSimpArgs false
set_option linter.unusedVariables false

open Go.RowKit

/-- Block g is a span. -/
def Has (W : World) (g : Nat) (x : Int × Int) : Prop := W.heap[g]? = some (.cells #[.int .i64 x.1, .int .i64 x.2] 23 (0, 0))

theorem Has.lt {W : World} {g : Nat} {x : Int × Int} (h : Has W g x) : g < W.heap.size := (Array.getElem?_eq_some_iff.1 h).1
theorem Has.on {W W' : World} {g : Nat} {x : Int × Int} (h : Has W g x) (k : Below W.heap.size W W') : Has W' g x := by
  unfold Has; rw [k.block _ h.lt]; exact h
theorem Has.new (W : World) (x : Int × Int) (g : Nat) (hg : g = W.heap.size) : Has (W.alloc (.cells #[.int .i64 x.1, .int .i64 x.2] 23)) g x := by
  subst hg; exact heap_alloc_new _ _
theorem Has.alloc {W : World} {g : Nat} {x : Int × Int} (h : Has W g x) (o : Obj) : Has (W.alloc o) g x := h.on ((Below.refl _ _).alloc (Nat.le_refl _) _)
theorem Has.cells {W : World} {g : Nat} {x : Int × Int} (h : Has W g x) : W.cell? ⟨g, 0, none⟩ = some (.int .i64 x.1) ∧ W.cell? ⟨g, 1, none⟩ = some (.int .i64 x.2) ∧ g < W.heap.size :=
  ⟨(two_cells h).1, (two_cells h).2.1, h.lt⟩

theorem cellOn {W W' : World} {a : Addr} {v : Value} (k : Below W.heap.size W W') (h : W.cell? a = some v) : W'.cell? a = some v := by
  rw [k.cell (lt_of_cell h)]; exact h

/-- m is just what is in all of l. -/
def Just (m : Int × Int) (l : List (Int × Int)) : Prop := (okS m.1 m.2 = true ∨ m = (0, 0)) ∧ ∀ g, inS l g = true ↔ (m.1 ≤ g ∧ g ≤ m.2 ∧ 1 ≤ g)

theorem inS_snoc (l : List (Int × Int)) (s : Int × Int) (g : Int) : inS (l ++ [s]) g = true ↔ inS l g = true ∧ okS s.1 s.2 = true ∧ s.1 ≤ g ∧ g ≤ s.2 := by
  simp only [inS, decide_eq_true_eq, List.mem_append, List.mem_singleton]
  constructor
  · rintro ⟨h, h1⟩
    exact ⟨⟨fun x hx => h x (.inl hx), h1⟩, h s (.inr rfl)⟩
  · rintro ⟨⟨h, h1⟩, h2⟩
    refine ⟨fun x hx => ?_, h1⟩
    rcases hx with hx | rfl
    · exact h x hx
    · exact h2

theorem just_nil : Just (1, 3) [] := by
  refine ⟨.inl (by decide), fun g => ?_⟩
  simp [inS]
  omega

theorem just_next {m : Int × Int} {l : List (Int × Int)} (h : Just m l) (s : Int × Int) : Just (nar m s) (l ++ [s]) := by
  obtain ⟨h1, h2⟩ := h
  obtain ⟨a, b⟩ := m
  obtain ⟨c, d⟩ := s
  unfold nar
  dsimp only at *
  by_cases t : okS c d = true ∧ okS (max a c) (min b d) = true
  · rw [if_pos t]
    refine ⟨.inl t.2, fun g => ?_⟩
    rw [inS_snoc, h2]
    have := t.1
    simp only [this, true_and]
    omega
  · rw [if_neg t]
    refine ⟨.inr rfl, fun g => ?_⟩
    rw [inS_snoc, h2]
    dsimp only
    constructor
    · rintro ⟨⟨q1, q2, q3⟩, q4, q5, q6⟩
      exfalso
      apply t
      refine ⟨q4, okS_mk ?_⟩
      have := okS_yes q4
      omega
    · omega

theorem just_com (l : List (Int × Int)) : Just (com l) l := by
  have : ∀ k, k ≤ l.length → Just (com (l.take k)) (l.take k) := by
    intro k
    induction k with
    | zero => intro _; exact just_nil
    | succ n ih =>
      intro hn
      rw [com_next l n hn]
      have e : l.take (n + 1) = l.take n ++ [l.getD n (0, 0)] := by
        rw [List.take_succ_eq_append_getElem (by omega)]
        simp [List.getD, show n < l.length by omega]
      rw [e]
      exact just_next (ih (by omega)) _
  have := this l.length (Nat.le_refl _)
  rwa [List.take_of_length_le (Nat.le_refl _)] at this

/-- The greatest and the least of 3, 2, 1 so far that f says yes to. -/
def stp (f : Int → Bool) : Nat → Int × Int
  | 0 => (0, 0)
  | k + 1 => if f (3 - (k : Int)) then (if (stp f k).1 = 0 then 3 - (k : Int) else (stp f k).1, 3 - (k : Int)) else stp f k

theorem just_stp {m : Int × Int} {l : List (Int × Int)} (h : Just m l) : stp (inS l) 3 = (m.2, m.1) := by
  obtain ⟨h1, h2⟩ := h
  have g1 := h2 1
  have g2 := h2 2
  have g3 := h2 3
  obtain ⟨a, b⟩ := m
  dsimp only at *
  have hc : (a = 1 ∧ b = 1) ∨ (a = 1 ∧ b = 2) ∨ (a = 1 ∧ b = 3) ∨ (a = 2 ∧ b = 2) ∨ (a = 2 ∧ b = 3) ∨ (a = 3 ∧ b = 3) ∨ (a = 0 ∧ b = 0) := by
    rcases h1 with h | h
    · have := okS_yes h; omega
    · simp at h; omega
  rcases hc with ⟨rfl, rfl⟩ | ⟨rfl, rfl⟩ | ⟨rfl, rfl⟩ | ⟨rfl, rfl⟩ | ⟨rfl, rfl⟩ | ⟨rfl, rfl⟩ | ⟨rfl, rfl⟩ <;> simp at g1 g2 g3 <;> simp [stp, g1, g2, g3]

theorem com_ok (l : List (Int × Int)) : okS (com l).1 (com l).2 = true ∨ com l = (0, 0) := (just_com l).1

theorem com_best (l : List (Int × Int)) : (com l != (0, 0)) = decide (0 < (com l).2) := by
  rcases com_ok l with h | h
  · have := okS_yes h
    have e : com l ≠ (0, 0) := fun q => by rw [q] at this; dsimp only at this; omega
    rw [bne_iff_ne.2 e, decide_eq_true (by omega)]
  · rw [h]; rfl

/-- Something is in all of them, if and only if each two meet. -/
theorem helly (l : List (Int × Int)) : com l ≠ (0, 0) ↔ ∀ i, i < l.length → ∀ k, k ≤ i → (com [l.getD i (0, 0), l.getD k (0, 0)]).2 ≠ 0 := by
  have J := just_com l
  have two : ∀ x y : Int × Int, (com [x, y]).2 ≠ 0 ↔ ∃ g, inS [x, y] g = true := by
    intro x y
    have j := just_com [x, y]
    rcases j.1 with h | h
    · have := okS_yes h
      exact ⟨fun _ => ⟨(com [x, y]).2, (j.2 _).2 (by omega)⟩, fun _ => by omega⟩
    · refine ⟨fun q => absurd (by rw [h]) q, fun ⟨g, hg⟩ => ?_⟩
      have := (j.2 g).1 hg
      rw [h] at this
      dsimp only at this
      omega
  constructor
  · intro h i hi k hk
    rw [two]
    rcases J.1 with q | q
    · have q' := okS_yes q
      have h1 := (J.2 (com l).1).2 (by omega)
      simp only [inS, decide_eq_true_eq] at h1
      refine ⟨(com l).1, ?_⟩
      simp only [inS, decide_eq_true_eq]
      refine ⟨fun x hx => h1.1 x ?_, h1.2⟩
      simp at hx
      rcases hx with rfl | rfl
      · simp [List.getD, hi]
      · simp [List.getD, show k < l.length by omega]
    · exact absurd q h
  · intro h
    -- the greatest Lo is in all
    have ok : ∀ i (hi : i < l.length), okS l[i].1 l[i].2 = true := by
      intro i hi
      obtain ⟨g, hg⟩ := (two _ _).1 (h i hi i (Nat.le_refl _))
      simp only [inS, decide_eq_true_eq] at hg
      have := (hg.1 _ (List.mem_cons_self)).1
      simpa [List.getD, hi] using this
    have meet : ∀ i k (hi : i < l.length) (hk : k < l.length), l[i].1 ≤ l[k].2 := by
      intro i k hi hk
      have key : ∃ g, l[i].1 ≤ g ∧ g ≤ l[k].2 := by
        rcases Nat.le_total k i with q | q
        · obtain ⟨g, hg⟩ := (two _ _).1 (h i hi k q)
          simp only [inS, decide_eq_true_eq] at hg
          have a := hg.1 _ (List.mem_cons_self)
          have b := hg.1 _ (List.mem_cons_of_mem _ List.mem_cons_self)
          simp [List.getD, hi, hk] at a b
          exact ⟨g, by omega, by omega⟩
        · obtain ⟨g, hg⟩ := (two _ _).1 (h k hk i q)
          simp only [inS, decide_eq_true_eq] at hg
          have a := hg.1 _ (List.mem_cons_self)
          have b := hg.1 _ (List.mem_cons_of_mem _ List.mem_cons_self)
          simp [List.getD, hi, hk] at a b
          exact ⟨g, by omega, by omega⟩
      obtain ⟨g, h1, h2⟩ := key
      omega
    have top : ∀ n, n ≤ l.length → ∃ g, 1 ≤ g ∧ g ≤ 3 ∧ (∀ i (hi : i < n) (hl : i < l.length), l[i].1 ≤ g) ∧ (∀ k (hk : k < l.length), g ≤ l[k].2) := by
      intro n
      induction n with
      | zero => exact fun _ => ⟨1, by omega, by omega, fun i hi => absurd hi (by omega), fun k hk => by have := okS_yes (ok k hk); omega⟩
      | succ m ih =>
        intro hm
        obtain ⟨g, g1, g2, g3, g4⟩ := ih (by omega)
        have om := okS_yes (ok m (by omega))
        refine ⟨max g (l[m].1), by omega, by omega, fun i hi hl => ?_, fun k hk => ?_⟩
        · rcases Nat.lt_or_ge i m with q | q
          · have := g3 i q hl; omega
          · obtain rfl : i = m := by omega
            omega
        · have a := g4 k hk
          have b := meet m k (by omega) hk
          omega
    obtain ⟨g, g1, g2, g3, g4⟩ := top l.length (Nat.le_refl _)
    have : inS l g = true := by
      simp only [inS, decide_eq_true_eq]
      refine ⟨fun x hx => ?_, g1, g2⟩
      obtain ⟨i, hi, rfl⟩ := List.getElem_of_mem hx
      exact ⟨ok i hi, g3 i hi hi, g4 i hi⟩
    have := (J.2 g).1 this
    intro q
    rw [q] at this
    dsimp only at this
    omega
end Go.Proofs.YtgjnbcbbkabljaaDoor
