/-
  Rows of records in memory of their own; package rec: Copy, Find; slices.Grow and slices.Concat of records.
-/
import Derived.Test.YtmfkdohfejklhaaDoorRecL
namespace Go.Proofs.YtmfkdohfejklhaaDoor
open Go.RowKit
set_option linter.unusedSimpArgs false
set_option linter.unusedVariables false
set_option maxRecDepth 10000
set_option synthInstance.maxSize 2000

theorem infoR : (Tryd.prog.info? 43).map (fun i => (i.zero, i.size, i.bytes)) = some (some (.agg #[.int .i64 0, .int .i64 0, .int .i64 0, .int .i64 0, .int .i64 0, .bool false, .slice none 0 0]), 7, 72) := by kernel_rfl

/-- The cells of records. -/
def cellsR (l : List Rc) : Array Value := (l.flatMap Rc.cells).toArray

theorem flatR_get : ∀ (l : List Rc) (i j : Nat), j < 7 → (l.flatMap Rc.cells)[i * 7 + j]? = (l[i]?).bind (fun r => r.cells[j]?)
  | [], i, j, _ => by simp
  | x :: l, 0, j, hj => by
    simp only [List.flatMap_cons, Nat.zero_mul, Nat.zero_add]
    rw [List.getElem?_append_left (by simpa [Rc.cells] using hj)]
    simp
  | x :: l, i + 1, j, hj => by
    have := flatR_get l i j hj
    simp only [List.flatMap_cons]
    rw [List.getElem?_append_right (by simp [Rc.cells]; omega), show (i + 1) * 7 + j - x.cells.length = i * 7 + j by simp [Rc.cells]; omega, this]
    rfl

theorem flatR_len (l : List Rc) : (l.flatMap Rc.cells).length = l.length * 7 := by
  induction l with
  | nil => rfl
  | cons x l ih => simp [Rc.cells, ih]; omega

theorem flatR_set : ∀ (l : List Rc) (i : Nat) (f : Rc), (((((((l.flatMap Rc.cells).set (i * 7) (.int .i64 f.id)).set (i * 7 + 1) (.int .i64 f.inc)).set (i * 7 + 2) (.int .i64 f.st)).set (i * 7 + 3) (.int .i64 f.lo)).set (i * 7 + 4) (.int .i64 f.hi)).set (i * 7 + 5) (.bool f.cut)).set (i * 7 + 6) (.slice f.p f.bag.length f.cap) = (l.set i f).flatMap Rc.cells
  | [], i, f => by simp
  | x :: l, 0, f => by simp [Rc.cells]
  | x :: l, i + 1, f => by
    have := flatR_set l i f
    simp only [List.flatMap_cons, Rc.cells, List.cons_append, List.nil_append, show (i + 1) * 7 = i * 7 + 7 by omega, List.set_cons_succ, Nat.add_right_comm _ 7]
    rw [← this]

theorem cellsR_size (l : List Rc) : (cellsR l).size = l.length * 7 := by rw [cellsR, List.size_toArray, flatR_len]

theorem cellsR_set (l : List Rc) (i : Nat) (f : Rc) : (((((((cellsR l).setIfInBounds (i * 7) (.int .i64 f.id)).setIfInBounds (i * 7 + 1) (.int .i64 f.inc)).setIfInBounds (i * 7 + 2) (.int .i64 f.st)).setIfInBounds (i * 7 + 3) (.int .i64 f.lo)).setIfInBounds (i * 7 + 4) (.int .i64 f.hi)).setIfInBounds (i * 7 + 5) (.bool f.cut)).setIfInBounds (i * 7 + 6) (.slice f.p f.bag.length f.cap) = cellsR (l.set i f) := by
  unfold cellsR
  simp only [List.setIfInBounds_toArray]
  rw [flatR_set]

theorem cellsR_made (n : Nat) : madeCells #[Value.int .i64 0, .int .i64 0, .int .i64 0, .int .i64 0, .int .i64 0, .bool false, .slice none 0 0] (n * 7) = cellsR (List.replicate n zr) := by
  apply Array.ext
  · rw [cellsR_size, size_madeCells, List.length_replicate]
  · intro i h1 h2
    have hi : i < n * 7 := by simpa [madeCells] using h1
    have h3 := flatR_get (List.replicate n zr) (i / 7) (i % 7) (Nat.mod_lt _ (by omega))
    rw [show i / 7 * 7 + i % 7 = i by omega, List.getElem?_replicate_of_lt (by omega)] at h3
    have h4 : (cellsR (List.replicate n zr))[i]? = zr.cells[i % 7]? := by
      simp only [cellsR, List.getElem?_toArray, h3]
      rfl
    rw [Array.getElem?_eq_getElem h2] at h4
    have h5 : some (madeCells #[Value.int .i64 0, .int .i64 0, .int .i64 0, .int .i64 0, .int .i64 0, .bool false, .slice none 0 0] (n * 7))[i] = zr.cells[i % 7]? := by
      have hm : i % 7 < 7 := Nat.mod_lt _ (by omega)
      simp only [madeCells, Array.getElem_map, Array.getElem_range]
      change some (#[Value.int .i64 0, .int .i64 0, .int .i64 0, .int .i64 0, .int .i64 0, .bool false, .slice none 0 0][i % 7]!) = _
      generalize i % 7 = j at hm ⊢
      match j, hm with
      | 0, _ => rfl
      | 1, _ => rfl
      | 2, _ => rfl
      | 3, _ => rfl
      | 4, _ => rfl
      | 5, _ => rfl
      | 6, _ => rfl
    exact Option.some.inj (h5.trans h4.symm)

/-- The row at block g. -/
theorem cellsR_at {w : World} {g : Nat} {l : List Rc} {t : TypeId} (h : w.heap[g]? = some (.cells (cellsR l) t (0, 0))) (i : Nat) (hi : i < l.length) : RAt w g (i * 7) (l.getD i zr) ∧ ∀ j, w.frozen? ⟨g, j, none⟩ = false := by
  refine ⟨RAt.of fun j hj => ?_, fun j => by simp [World.frozen?, h]⟩
  have := flatR_get l i j hj
  simp [World.cell?, h, cellsR, this, hi, List.getD]

theorem RIn.of_row {w : World} {g : Nat} {t : TypeId} {l : List Rc} (h : w.heap[g]? = some (.cells (cellsR l) t (0, 0))) (hok : ∀ f ∈ l, ROk w f) : RIn w (some ⟨g, 0, none⟩) l := by
  refine RIn.of fun i hi => ?_
  rw [Nat.zero_add]
  exact ⟨(cellsR_at h i hi).1, hok _ (by simp [List.getD, hi])⟩

/-- While a list is copied: what is done, and all that is old. -/
structure InCr (w : World) (l : List Rc) (k : Nat) (done : List Rc) (W : World) : Prop where
  row : W.heap[w.heap.size]? = some (.cells (cellsR (done ++ List.replicate (l.length - k) zr)) 43 (0, 0))
  len : done.length = k
  keys : rks done = rks (l.take k)
  oks : ∀ f ∈ done, ROkA w.heap.size W f
  below : Below w.heap.size w W

theorem InCr.lt {w W : World} {l done : List Rc} {k : Nat} (h : InCr w l k done W) : w.heap.size < W.heap.size := (Array.getElem?_eq_some_iff.1 h.row).1

theorem InCr.on {w W W' : World} {l done : List Rc} {k : Nat} (h : InCr w l k done W) (b : Below W.heap.size W W') : InCr w l k done W' :=
  ⟨by rw [b.block _ h.lt]; exact h.row, h.len, h.keys, fun f hf => (h.oks f hf).below b, h.below.trans (b.mono h.below.size)⟩

theorem InCr.next {w W : World} {l done : List Rc} {k : Nat} (h : InCr w l k done W) (hk : k < l.length) (f : Rc) (hf : ROkA w.heap.size W f) (hky : rk f = rk (l.getD k zr)) :
    InCr w l (k + 1) (done ++ [f]) (((((((W.setCell ⟨w.heap.size, k * 7, none⟩ (.int .i64 f.id)).setCell ⟨w.heap.size, k * 7 + 1, none⟩ (.int .i64 f.inc)).setCell ⟨w.heap.size, k * 7 + 2, none⟩ (.int .i64 f.st)).setCell ⟨w.heap.size, k * 7 + 3, none⟩ (.int .i64 f.lo)).setCell ⟨w.heap.size, k * 7 + 4, none⟩ (.int .i64 f.hi)).setCell ⟨w.heap.size, k * 7 + 5, none⟩ (.bool f.cut)).setCell ⟨w.heap.size, k * 7 + 6, none⟩ (.slice f.p f.bag.length f.cap)) := by
  have hfr := (Fr.refl (fun i => i = w.heap.size) W).seven (b := w.heap.size) (o := k * 7) rfl f
  refine ⟨?_, by simp [h.len], ?_, ?_, ((((((h.below.setCell (by simp) _).setCell (by simp) _).setCell (by simp) _).setCell (by simp) _).setCell (by simp) _).setCell (by simp) _).setCell (by simp) _⟩
  · have h1 := fset_at (fset_at (fset_at (fset_at (fset_at (fset_at (fset_at h.row (i := k * 7) (.int .i64 f.id)) (i := k * 7 + 1) (.int .i64 f.inc)) (i := k * 7 + 2) (.int .i64 f.st)) (i := k * 7 + 3) (.int .i64 f.lo)) (i := k * 7 + 4) (.int .i64 f.hi)) (i := k * 7 + 5) (.bool f.cut)) (i := k * 7 + 6) (.slice f.p f.bag.length f.cap)
    have e : (done ++ List.replicate (l.length - k) zr).set k f = done ++ [f] ++ List.replicate (l.length - (k + 1)) zr := by
      rw [← h.len, show l.length - done.length = (l.length - (done.length + 1)) + 1 by have := h.len; omega, List.replicate_succ]
      simp
    rw [cellsR_set, e] at h1
    exact h1
  · rw [rtake_next l k hk, rks_append, rks_append, h.keys]
    simp [rks, hky]
  · intro x hx
    rcases List.mem_append.1 hx with q | q
    · exact (h.oks x q).fr hfr fun i q => Nat.le_of_eq q
    · simp at q; subst q; exact hf.fr hfr fun i q => Nat.le_of_eq q

def CopyPost (w : World) (l : List Rc) (e : Ending) (w' : World) : Prop :=
  ∃ g l', e = .returned (.slice (some ⟨g, 0, none⟩) l'.length l'.length) ∧ rks l' = rks l ∧ RIn w' (some ⟨g, 0, none⟩) l' ∧ Below w.heap.size w w'



theorem flatR_one (l : List Rc) : ∀ u ∈ l.flatMap Rc.cells, u.oneCell' = true := by
  intro u hu
  simp only [List.mem_flatMap, Rc.cells, List.mem_cons, List.not_mem_nil, or_false] at hu
  obtain ⟨f, _, rfl | rfl | rfl | rfl | rfl | rfl | rfl⟩ := hu <;> rfl

theorem RIn.news {w : World} {p : Option Addr} {l : List Rc} (h : RIn w p l) : 0 < l.length → ∃ a, p = some a ∧ ∀ j u, (l.flatMap Rc.cells)[j]? = some u → w.cell? (a.add j) = some u := fun hl => by
  obtain ⟨b, o, rfl, hc⟩ := h.at hl
  refine ⟨_, rfl, fun j u hj => ?_⟩
  have hlt : j < l.length * 7 := by rw [← flatR_len]; exact (List.getElem?_eq_some_iff.1 hj).1
  have hl2 : j / 7 < l.length := by omega
  have h1 := (hc (j / 7) hl2).1.cell (j % 7) (Nat.mod_lt _ (by omega))
  have g1 := flatR_get l (j / 7) (j % 7) (Nat.mod_lt _ (by omega))
  rw [show j / 7 * 7 + j % 7 = j by omega, hj] at g1
  rw [Go.WideShapes.add_plain]
  rw [show o + j / 7 * 7 + j % 7 = o + j by omega] at h1
  rw [h1, g1]
  simp [List.getD, hl2]

/-- A row that is owned, as records. -/
theorem own_rin {w : World} {B : Nat} {v : Value} {n : Nat} {l : List Rc} (h : OwnR 43 7 w B v n (l.flatMap Rc.cells)) (hok : ∀ f ∈ l, ROk w f) : ∃ p c, v = .slice p l.length c ∧ RIn w p l ∧ (p = none → c = 0) ∧ l.length ≤ c ∧ c ≤ maxLen := by
  have hn : n = l.length := by have := h.owns.1; rw [flatR_len] at this; omega
  subst hn
  obtain ⟨p, c, rfl, h1, h2, h3, h4⟩ := h.slice
  refine ⟨p, c, rfl, fun hl => ?_, h1, h2, h3⟩
  obtain ⟨g, rfl, _, hc⟩ := h4 hl
  refine RIn.of (fun i hi => ⟨RAt.of fun j hj => ?_, hok _ (by simp [List.getD, hi])⟩) hl
  have g1 := flatR_get l i j hj
  rw [Nat.zero_add]
  have hx : (l[i]?).bind (fun r => r.cells[j]?) = (l.getD i zr).cells[j]? := by simp [List.getD, hi]
  rw [hx] at g1
  obtain ⟨u, hu⟩ : ∃ u, (l.getD i zr).cells[j]? = some u := ⟨_, List.getElem?_eq_getElem (by simpa [Rc.cells] using hj)⟩
  rw [hu] at g1 ⊢
  exact hc _ _ g1

/-- Lists in a slice: where each lies. -/
structure PtR where
  p : Option Addr
  c : Nat
  l : List Rc
def zpR : PtR := ⟨none, 0, []⟩
structure PInR (w : World) (b : Nat) (ps : List PtR) : Prop where
  cell : ∀ i, i < ps.length → w.cell? ⟨b, i, none⟩ = some (.slice (ps.getD i zpR).p (ps.getD i zpR).l.length (ps.getD i zpR).c)
  fin : ∀ x ∈ ps, RIn w x.p x.l
  nil : ∀ x ∈ ps, x.p = none → x.c = 0

theorem PInR.below {w w' : World} {b : Nat} {ps : List PtR} (h : PInR w b ps) (k : Below w.heap.size w w') : PInR w' b ps :=
  ⟨fun i hi => by rw [k.cell (p := ⟨b, i, none⟩) (lt_of_cell (h.cell i hi))]; exact h.cell i hi, fun x hx => (h.fin x hx).below k, h.nil⟩

def allR (ps : List PtR) : List Rc := ps.flatMap PtR.l
theorem allR_next (ps : List PtR) (k : Nat) (h : k < ps.length) : allR (ps.take (k + 1)) = allR (ps.take k) ++ (ps.getD k zpR).l := by
  unfold allR
  rw [List.take_succ_eq_append_getElem h, List.flatMap_append]; simp [List.getD, h]
theorem allR_le (ps : List PtR) (k : Nat) : (allR (ps.take k)).length ≤ (allR ps).length := by
  have : allR ps = allR (ps.take k) ++ allR (ps.drop k) := by simp only [allR]; rw [← List.flatMap_append, List.take_append_drop]
  rw [this, List.length_append]; omega

theorem flatR_append (a b : List Rc) : (a ++ b).flatMap Rc.cells = a.flatMap Rc.cells ++ b.flatMap Rc.cells := List.flatMap_append


end Go.Proofs.YtmfkdohfejklhaaDoor
