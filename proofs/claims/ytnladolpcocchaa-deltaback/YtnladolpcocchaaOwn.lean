/-
  Rows of whatever type that grow by 'append' in memory of their own. No function of the program is named here.
-/
import Derived.Test.YtnladolpcocchaaBase
import Derived.WalkKit
import Derived.WalkSpells
import Derived.WalkLawsBesides
import Derived.Deep.OwnRows
import Derived.Deep.Draws
namespace Go.Proofs.Ytnladolpcocchaa
open Go.RowKit
set_option linter.unusedSimpArgs false
set_option linter.unusedVariables false
set_option maxRecDepth 10000

theorem bel_drewN {B : Nat} {a b : World} (h : Below B a b) (n : Nat) : Below B a (b.drewN n) := ⟨h.os, h.tape, h.output, h.size, h.block⟩

/-- v owns a row of n elements of the type e, 'size' cells each, which are xs; it lies from block B on. -/
structure OwnR (e : TypeId) (size : Nat) (w : World) (B : Nat) (v : Value) (n : Nat) (xs : List Value) : Prop where
  owns : w.ownsRow 0 e size v n xs
  above : ∀ k, v.ownBlock = some k → B ≤ k

section
variable {e : TypeId} {size : Nat} {w w' : World} {B : Nat} {v v' : Value} {n m : Nat} {xs news : List Value}

theorem OwnR.nil (e : TypeId) (size : Nat) (w : World) (B : Nat) : OwnR e size w B (.slice none 0 0) 0 [] := ⟨World.ownsRow_nil _ _ _ _, fun k hk => by cases hk⟩

theorem OwnR.fr {S : Nat → Prop} (h : OwnR e size w B v n xs) (k : Fr S w w') (hn : ∀ g, v.ownBlock = some g → ¬ S g) : OwnR e size w' B v n xs := ⟨owns_fr h.owns k hn, h.above⟩

theorem OwnR.below (h : OwnR e size w B v n xs) (k : Below w.heap.size w w') : OwnR e size w' B v n xs :=
  h.fr (Fr.of_below k fun _ => False) fun _ _ q => q

theorem OwnR.slice (h : OwnR e size w B v n xs) : ∃ p c, v = .slice p n c ∧ (p = none → c = 0) ∧ n ≤ c ∧ c ≤ maxLen ∧ (0 < n → ∃ g, p = some ⟨g, 0, none⟩ ∧ B ≤ g ∧ ∀ j u, xs[j]? = some u → w.cell? ⟨g, j, none⟩ = some u) := by
  obtain ⟨h1, h2⟩ := h
  rcases h1.2 with ⟨rfl, h0⟩ | ⟨g, cap, cur, rfl, hb, hg, hnc, hcm, hcs, ht⟩
  · subst h0
    exact ⟨none, 0, rfl, fun _ => rfl, Nat.le_refl _, by simp [maxLen], fun q => absurd q (by omega)⟩
  · refine ⟨_, _, rfl, by simp, hnc, hcm, fun _ => ⟨g, rfl, h2 g rfl, fun j u hj => ?_⟩⟩
    have := h1.cells (g := g) rfl j u hj
    simpa [Go.WideShapes.add_plain] using this

/-- Behind an append. -/
theorem OwnR.next (h : OwnR e size w B v n xs) (hB : B ≤ w.heap.size) (hA : Appended w e size v n xs m news v' w') : OwnR e size w' B v' (n + m) (xs ++ news) ∧ Below B w w' := by
  refine ⟨⟨hA.owns, fun k hk => ?_⟩, hA.fr.below (fun i q => h.above i q) hB⟩
  rcases hA.moved with q | ⟨g, hg, hg2⟩
  · rw [q] at hk; exact h.above k hk
  · rw [hg] at hk; cases hk; omega
end

section
variable {P : Program}
/-- 'append(v, x...)' in a walk: x is a row that lies wherever. -/
theorem wpList_own {w : World} {ops : Array Oper} {rest : List Oper} {o : Oper} {a : Act} {Q : Exit → Act → World → Prop} (hgd : o.guard = none) (s x : Operand) (t : TypeId)
    (ho : o.op = .call { callee := .builtin .append, args := #[s, x], argTypes := #[t, t] })
    (e : TypeId) (z : Value) (size bytes : Nat) (ht : P.underlying t = some (.slice e)) (hinfo : (P.info? e).map (fun i => (i.zero, i.size, i.bytes)) = some (some z, size, bytes)) (hzs : z.cells.size = size) (hsz : 0 < size)
    (B : Nat) (v : Value) (n : Nat) (xs : List Value) (hs : a.eval s = v) (hown : OwnR e size w B v n xs) (hB : B ≤ w.heap.size)
    (p : Option Addr) (m c : Nat) (news : List Value) (hx : a.eval x = .slice p m c) (hp0 : p = none → c = 0) (hl : news.length = m * size) (hnews : 0 < m → ∃ a, p = some a ∧ ∀ j u, news[j]? = some u → w.cell? (a.add j) = some u) (h1 : ∀ u ∈ news, u.oneCell' = true)
    (h63 : n + m ≤ maxLen) (hbytes : (n + m) * bytes ≤ 140737488355328)
    (h : ∀ v' w', OwnR e size w' B v' (n + m) (xs ++ news) → Below B w w' → wpList P ops Q rest (a.put o.dst v') w') : wpList P ops Q (o :: rest) a w := by
  obtain ⟨i0, hi, hz0, hz1, hz2⟩ := info_parts hinfo
  exact wpList_append_fr hgd s x t ho e i0 z size bytes ht hi hz0 hz1 hz2 hzs hsz v n xs hs hown.owns p m c news hx hp0 hl hnews h1 h63 hbytes
    fun v' w' hA => h v' w' (hown.next hB hA).1 (hown.next hB hA).2

/-- 'append(v, x)' of one element that was laid for it. -/
theorem wpList_own1 {w : World} {ops : Array Oper} {rest : List Oper} {o : Oper} {a : Act} {Q : Exit → Act → World → Prop} (hgd : o.guard = none) (s x : Operand) (t : TypeId)
    (ho : o.op = .call { callee := .builtin .append, args := #[s, x], argTypes := #[t, t] })
    (e : TypeId) (z : Value) (size bytes : Nat) (ht : P.underlying t = some (.slice e)) (hinfo : (P.info? e).map (fun i => (i.zero, i.size, i.bytes)) = some (some z, size, bytes)) (hzs : z.cells.size = size) (hsz : 0 < size)
    (B : Nat) (v : Value) (n : Nat) (xs : List Value) (hs : a.eval s = v) (hown : OwnR e size w B v n xs) (hB : B ≤ w.heap.size)
    (news : Array Value) (u : TypeId) (hx : a.eval x = .slice (some ⟨w.heap.size, 0, none⟩) 1 1) (hl : news.size = size) (h1 : ∀ u ∈ news, u.oneCell' = true)
    (h63 : n + 1 ≤ maxLen) (hbytes : (n + 1) * bytes ≤ 140737488355328)
    (h : ∀ v' w', OwnR e size w' B v' (n + 1) (xs ++ news.toList) → Below B w w' → wpList P ops Q rest (a.put o.dst v') w') : wpList P ops Q (o :: rest) a (w.alloc (.cells news u)) := by
  have b : Below w.heap.size w (w.alloc (.cells news u)) := (Below.refl _ _).alloc (Nat.le_refl _) _
  refine wpList_own hgd s x t ho e z size bytes ht hinfo hzs hsz B v n xs hs (hown.below b) (Nat.le_trans hB b.size) (some ⟨w.heap.size, 0, none⟩) 1 1 news.toList hx (by simp) (by simpa using hl) (fun _ => ⟨_, rfl, fun j y hj => ?_⟩) (by simpa using h1) h63 hbytes fun v' w' k1 k2 => h v' w' k1 ((b.mono hB).trans k2)
  have hg := heap_alloc_new w (.cells news u)
  rw [Go.WideShapes.add_plain]
  generalize w.alloc (.cells news u) = W at hg ⊢
  simp [World.cell?, hg]
  simpa using hj
end
end Go.Proofs.Ytnladolpcocchaa
