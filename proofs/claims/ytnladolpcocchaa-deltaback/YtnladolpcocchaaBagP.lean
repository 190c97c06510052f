/-
  Package bag: Get, slices.Grow, slices.Concat, Put.
-/
import Derived.Test.YtnladolpcocchaaBagR
import Derived.Lib.AppendZerosOnto
import Derived.Lib.Walk
namespace Go.Proofs.Ytnladolpcocchaa
open Go.RowKit
set_option linter.unusedSimpArgs false
set_option linter.unusedVariables false
set_option maxRecDepth 10000

/-- The bytes of the first field with a tag. -/
def getK (v : Int) : List Key → Option (List Int)
  | [] => none
  | x :: t => if x.1 = v then some x.2 else getK v t

def GetPost (w : World) : Option (List Int) → Ending → World → Prop
  | some d, e, w' => ∃ g, e = .returned (.tuple #[.slice (some ⟨g, 0, none⟩) d.length d.length, .bool true]) ∧ w'.heap[g]? = some (.cells (cellsB d) 5 (0, 0)) ∧ w.heap.size ≤ g ∧ isB d ∧ Below w.heap.size w w'
  | none, e, w' => e = .returned (.tuple #[.slice none 0 0, .bool false]) ∧ Below w.heap.size w w'



theorem flat_one (l : List Fd) : ∀ u ∈ l.flatMap Fd.cells, u.oneCell' = true := by
  intro u hu
  simp only [List.mem_flatMap, Fd.cells, List.mem_cons, List.not_mem_nil, or_false] at hu
  obtain ⟨f, _, rfl | rfl⟩ := hu <;> rfl

theorem FIn.news {w : World} {p : Option Addr} {l : List Fd} (h : FIn w p l) : 0 < l.length → ∃ a, p = some a ∧ ∀ j u, (l.flatMap Fd.cells)[j]? = some u → w.cell? (a.add j) = some u := fun hl => by
  obtain ⟨b, o, rfl, hc⟩ := h.at hl
  refine ⟨_, rfl, fun j u hj => ?_⟩
  have hlt : j < l.length * 2 := by rw [← flat_len]; exact (List.getElem?_eq_some_iff.1 hj).1
  obtain ⟨h1, h2, _⟩ := hc (j / 2) (by omega)
  obtain ⟨g1, g2⟩ := flat_get l (j / 2)
  have hl2 : j / 2 < l.length := by omega
  rw [Go.WideShapes.add_plain]
  rcases Nat.mod_two_eq_zero_or_one j with q | q
  · have e : j = j / 2 * 2 := by omega
    rw [e] at hj ⊢
    rw [g1] at hj
    rw [h1, ← hj]
    simp [List.getD, hl2]
  · have e : j = j / 2 * 2 + 1 := by omega
    rw [e] at hj ⊢
    rw [g2] at hj
    rw [← Nat.add_assoc, h2, ← hj]
    simp [List.getD, hl2]

/-- A row that is owned, as fields. -/
theorem own_fin {w : World} {B : Nat} {v : Value} {n : Nat} {l : List Fd} (h : OwnR 55 2 w B v n (l.flatMap Fd.cells)) (hok : ∀ f ∈ l, FOk w f) : ∃ p c, v = .slice p l.length c ∧ FIn w p l ∧ (p = none → c = 0) ∧ l.length ≤ c ∧ c ≤ maxLen := by
  have hn : n = l.length := by have := h.owns.1; rw [flat_len] at this; omega
  subst hn
  obtain ⟨p, c, rfl, h1, h2, h3, h4⟩ := h.slice
  refine ⟨p, c, rfl, fun hl => ?_, h1, h2, h3⟩
  obtain ⟨g, rfl, _, hc⟩ := h4 hl
  refine FIn.of (fun i hi => ?_) hl
  obtain ⟨g1, g2⟩ := flat_get l i
  refine ⟨?_, ?_, hok _ (by simp [List.getD, hi])⟩
  · rw [Nat.zero_add]; exact hc _ _ (by rw [g1]; simp [List.getD, hi])
  · rw [Nat.zero_add]; exact hc _ _ (by rw [g2]; simp [List.getD, hi])

/-- Bags in a slice: where each lies. -/
structure Pt where
  p : Option Addr
  c : Nat
  l : List Fd
def zp : Pt := ⟨none, 0, []⟩
structure PIn (w : World) (b : Nat) (ps : List Pt) : Prop where
  cell : ∀ i, i < ps.length → w.cell? ⟨b, i, none⟩ = some (.slice (ps.getD i zp).p (ps.getD i zp).l.length (ps.getD i zp).c)
  fin : ∀ x ∈ ps, FIn w x.p x.l
  nil : ∀ x ∈ ps, x.p = none → x.c = 0

theorem PIn.below {w w' : World} {b : Nat} {ps : List Pt} (h : PIn w b ps) (k : Below w.heap.size w w') : PIn w' b ps :=
  ⟨fun i hi => by rw [k.cell (p := ⟨b, i, none⟩) (lt_of_cell (h.cell i hi))]; exact h.cell i hi, fun x hx => (h.fin x hx).below k, h.nil⟩

def allP (ps : List Pt) : List Fd := ps.flatMap Pt.l
theorem allP_next (ps : List Pt) (k : Nat) (h : k < ps.length) : allP (ps.take (k + 1)) = allP (ps.take k) ++ (ps.getD k zp).l := by
  unfold allP
  rw [List.take_succ_eq_append_getElem h, List.flatMap_append]; simp [List.getD, h]
theorem allP_le (ps : List Pt) (k : Nat) : (allP (ps.take k)).length ≤ (allP ps).length := by
  have : allP ps = allP (ps.take k) ++ allP (ps.drop k) := by simp only [allP]; rw [← List.flatMap_append, List.take_append_drop]
  rw [this, List.length_append]; omega

theorem flatF_append (a b : List Fd) : (a ++ b).flatMap Fd.cells = a.flatMap Fd.cells ++ b.flatMap Fd.cells := List.flatMap_append


end Go.Proofs.Ytnladolpcocchaa
