/-
  Rows of fields in memory of their own; package bag: own, Copy, Get, above.
-/
import Derived.Test.YtflllegengomnaaBagC
import Derived.Test.YtflllegengomnaaAcc
import Derived.Laws.CopyOwn
import Derived.Laws.MakeOwn
import Derived.Deep.OwnRows
namespace Go.Proofs.Ytflllegengomnaa
open Go.RowKit
set_option linter.unusedSimpArgs false
set_option linter.unusedVariables false

theorem infoA1 : (Try.prog.info? 5).map (·.size) = some 1 := by kernel_rfl
theorem infoF : (Try.prog.info? 30).map (fun i => (i.zero, i.size, i.bytes)) = some (some (.agg #[.int .i64 0, .slice none 0 0]), 2, 32) := by kernel_rfl

theorem made_size (n : Nat) (z : Array Value) : (madeCells z n).toList.length = n := by simp [madeCells]
theorem splice_full (L cs : List Value) (h : L.length = cs.length) : splice L 0 cs = cs := by
  simp [splice, h.symm]

/-- What 'copy' asks of its source, where the bytes lie in old memory and one block has been laid. -/
theorem src_laid {w : World} {p : Option Addr} {l : List Int} (hB : BIn w p l) (o : Obj) (dp : Option Addr) : 0 < (l.map (Value.int .u8)).length → dp = dp ∧ ∃ ad, p = some ad ∧ ∀ j v, (l.map (Value.int .u8))[j]? = some v → (w.alloc o).cell? (ad.add j) = some v := by
  intro h
  obtain ⟨a, rfl, hc⟩ := (hB.below ((Below.refl _ _).alloc (Nat.le_refl _) o)).news (by simpa using h)
  exact ⟨rfl, _, rfl, hc⟩


/-- The cells of fields. -/
def cellsF (l : List Fd) : Array Value := (l.flatMap Fd.cells).toArray

theorem flat_get : ∀ (l : List Fd) (i : Nat), (l.flatMap Fd.cells)[i * 2]? = (l[i]?).map (fun f => Value.int .i64 f.tag) ∧ (l.flatMap Fd.cells)[i * 2 + 1]? = (l[i]?).map (fun f => Value.slice f.p f.d.length f.cap)
  | [], i => by simp
  | x :: l, 0 => by simp [Fd.cells]
  | x :: l, i + 1 => by
    have := flat_get l i
    simp only [List.flatMap_cons, Fd.cells, List.cons_append, List.nil_append, List.getElem?_cons_succ, show (i + 1) * 2 = i * 2 + 1 + 1 by omega]
    exact this

theorem flat_len (l : List Fd) : (l.flatMap Fd.cells).length = l.length * 2 := by
  induction l with
  | nil => rfl
  | cons x l ih => simp [Fd.cells, ih]; omega

theorem flat_set : ∀ (l : List Fd) (i : Nat) (f : Fd), ((l.flatMap Fd.cells).set (i * 2) (.int .i64 f.tag)).set (i * 2 + 1) (.slice f.p f.d.length f.cap) = (l.set i f).flatMap Fd.cells
  | [], i, f => by simp
  | x :: l, 0, f => by simp [Fd.cells]
  | x :: l, i + 1, f => by
    have := flat_set l i f
    simp only [List.flatMap_cons, Fd.cells, List.cons_append, List.nil_append, show (i + 1) * 2 = i * 2 + 1 + 1 by omega, List.set_cons_succ]
    rw [← this]

theorem cellsF_size (l : List Fd) : (cellsF l).size = l.length * 2 := by rw [cellsF, List.size_toArray, flat_len]

theorem cellsF_set (l : List Fd) (i : Nat) (f : Fd) : ((cellsF l).setIfInBounds (i * 2) (.int .i64 f.tag)).setIfInBounds (i * 2 + 1) (.slice f.p f.d.length f.cap) = cellsF (l.set i f) := by
  unfold cellsF
  rw [List.setIfInBounds_toArray, List.setIfInBounds_toArray, flat_set]

theorem cellsF_made (n : Nat) : madeCells #[Value.int .i64 0, Value.slice none 0 0] (n * 2) = cellsF (List.replicate n zf) := by
  apply Array.ext
  · rw [cellsF_size, size_madeCells, List.length_replicate]
  · intro i h1 h2
    have hi : i < n * 2 := by simpa [madeCells] using h1
    have := flat_get (List.replicate n zf) (i / 2)
    rcases Nat.mod_two_eq_zero_or_one i with h | h
    · have e : i = i / 2 * 2 := by omega
      have h3 := this.1
      rw [← e] at h3
      have h4 : (cellsF (List.replicate n zf))[i]? = some (.int .i64 0) := by
        simp only [cellsF, List.getElem?_toArray, h3]
        rw [List.getElem?_replicate_of_lt (by omega)]
        rfl
      rw [Array.getElem?_eq_getElem h2] at h4
      simp only [Option.some.injEq] at h4
      rw [h4]
      simp [madeCells, h]
    · have e : i = i / 2 * 2 + 1 := by omega
      have h3 := this.2
      rw [← e] at h3
      have h4 : (cellsF (List.replicate n zf))[i]? = some (.slice none 0 0) := by
        simp only [cellsF, List.getElem?_toArray, h3]
        rw [List.getElem?_replicate_of_lt (by omega)]
        rfl
      rw [Array.getElem?_eq_getElem h2] at h4
      simp only [Option.some.injEq] at h4
      rw [h4]
      simp [madeCells, h]

/-- The row at block g. -/
theorem cellsF_at {w : World} {g : Nat} {l : List Fd} {t : TypeId} (h : w.heap[g]? = some (.cells (cellsF l) t (0, 0))) (i : Nat) (hi : i < l.length) :
    w.cell? ⟨g, i * 2, none⟩ = some (.int .i64 (l.getD i zf).tag) ∧ w.cell? ⟨g, i * 2 + 1, none⟩ = some (.slice (l.getD i zf).p (l.getD i zf).d.length (l.getD i zf).cap) ∧ w.frozen? ⟨g, i * 2, none⟩ = false ∧ w.frozen? ⟨g, i * 2 + 1, none⟩ = false := by
  obtain ⟨h1, h2⟩ := flat_get l i
  simp [World.cell?, World.frozen?, h, cellsF, h1, h2, hi, List.getD]

/-- A block's cells behind a store. -/
theorem fset_at {w : World} {g i : Nat} {cs : Array Value} {t : TypeId} {f : Nat × Nat} (h : w.heap[g]? = some (.cells cs t f)) (u : Value) :
    (w.setCell ⟨g, i, none⟩ u).heap[g]? = some (.cells (cs.setIfInBounds i u) t f) := by
  simp [World.setCell, Array.getElem?_modify, h]

theorem FOk.fr {S : Nat → Prop} {w w' : World} {f : Fd} (h : FOk w f) (k : Fr S w w') (hn : 0 < f.d.length → ∀ a, f.p = some a → ¬ S a.block) : FOk w' f :=
  ⟨h.tag, h.len, h.cap, h.nil, fun hl => (h.bin.fr k (fun a ha _ => hn hl a ha)) hl, h.isb, h.few⟩

/-- Its bytes lie behind block g. -/
structure FOkN (g : Nat) (w : World) (f : Fd) : Prop where
  ok : FOk w f
  off : 0 < f.d.length → ∀ a, f.p = some a → g < a.block

theorem FOkN.below {g : Nat} {w w' : World} {f : Fd} (h : FOkN g w f) (k : Below w.heap.size w w') : FOkN g w' f := ⟨h.ok.below k, h.off⟩
theorem FOkN.fr {g : Nat} {w w' : World} {f : Fd} (h : FOkN g w f) (k : Fr (fun i => i = g) w w') : FOkN g w' f := ⟨h.ok.fr k fun hl a ha q => by have := h.off hl a ha; omega, h.off⟩

theorem FIn.of_row {w : World} {g : Nat} {t : TypeId} {l : List Fd} (h : w.heap[g]? = some (.cells (cellsF l) t (0, 0))) (hok : ∀ f ∈ l, FOk w f) : FIn w (some ⟨g, 0, none⟩) l := by
  refine FIn.of fun i hi => ?_
  obtain ⟨h1, h2, _, _⟩ := cellsF_at h i hi
  rw [Nat.zero_add]
  refine ⟨h1, h2, hok _ ?_⟩
  simp [List.getD, hi]

/-- While a bag is copied: what is done, and all that is old. -/
structure InCp (w : World) (l : List Fd) (k : Nat) (done : List Fd) (W : World) : Prop where
  row : W.heap[w.heap.size]? = some (.cells (cellsF (done ++ List.replicate (l.length - k) zf)) 30 (0, 0))
  len : done.length = k
  keys : kys done = kys (l.take k)
  oks : ∀ f ∈ done, FOkN w.heap.size W f
  below : Below w.heap.size w W

theorem InCp.lt {w W : World} {l done : List Fd} {k : Nat} (h : InCp w l k done W) : w.heap.size < W.heap.size := (Array.getElem?_eq_some_iff.1 h.row).1

theorem InCp.on {w W W' : World} {l done : List Fd} {k : Nat} (h : InCp w l k done W) (b : Below W.heap.size W W') : InCp w l k done W' :=
  ⟨by rw [b.block _ h.lt]; exact h.row, h.len, h.keys, fun f hf => (h.oks f hf).below b, h.below.trans (b.mono h.below.size)⟩

theorem InCp.next {w W : World} {l done : List Fd} {k : Nat} (h : InCp w l k done W) (hk : k < l.length) (f : Fd) (hf : FOkN w.heap.size W f) (hky : ky f = ky (l.getD k zf)) :
    InCp w l (k + 1) (done ++ [f]) ((W.setCell ⟨w.heap.size, k * 2, none⟩ (.int .i64 f.tag)).setCell ⟨w.heap.size, k * 2 + 1, none⟩ (.slice f.p f.d.length f.cap)) := by
  have hfr : Fr (fun i => i = w.heap.size) W ((W.setCell ⟨w.heap.size, k * 2, none⟩ (.int .i64 f.tag)).setCell ⟨w.heap.size, k * 2 + 1, none⟩ (.slice f.p f.d.length f.cap)) := Fr.setCell (p := ⟨w.heap.size, k * 2 + 1, none⟩) (Fr.setCell (p := ⟨w.heap.size, k * 2, none⟩) (Fr.refl (fun i => i = w.heap.size) _) (.inl rfl) _) (.inl rfl) _
  refine ⟨?_, by simp [h.len], ?_, ?_, (h.below.setCell (by simp) _).setCell (by simp) _⟩
  · have h1 := fset_at (fset_at h.row (i := k * 2) (.int .i64 f.tag)) (i := k * 2 + 1) (.slice f.p f.d.length f.cap)
    rw [h1, cellsF_set]
    congr 2
    rw [← h.len]
    rw [show l.length - done.length = (l.length - (done.length + 1)) + 1 by have := h.len; omega, List.replicate_succ]
    simp
  · rw [take_next l k hk, kys_append, kys_append, h.keys]
    simp [kys, hky]
  · intro x hx
    rcases List.mem_append.1 hx with q | q
    · exact (h.oks x q).fr hfr
    · simp at q; subst q; exact hf.fr hfr

/-- The same in the midst of a round: the place k may be written or not. -/
structure InCq (w : World) (l : List Fd) (k : Nat) (done : List Fd) (y : Fd) (bx : Nat) (X : World) : Prop where
  row : ∃ z, X.heap[w.heap.size]? = some (.cells (cellsF (done ++ z :: List.replicate (l.length - (k + 1)) zf)) 30 (0, 0))
  len : done.length = k
  keys : kys done = kys (l.take k)
  oks : ∀ f ∈ done, FOkN w.heap.size X f
  below : Below w.heap.size w X
  box : X.heap[bx]? = some (.cells #[.int .i64 y.tag, .slice y.p y.d.length y.cap] 30 (0, 0))

theorem InCq.on {w X X' : World} {l done : List Fd} {k bx : Nat} {y : Fd} (h : InCq w l k done y bx X) (b : Below X.heap.size X X') : InCq w l k done y bx X' := by
  obtain ⟨z, hz⟩ := h.row
  exact ⟨⟨z, by rw [b.block _ (Array.getElem?_eq_some_iff.1 hz).1]; exact hz⟩, h.len, h.keys, fun f hf => (h.oks f hf).below b, h.below.trans (b.mono h.below.size), by rw [b.block _ (Array.getElem?_eq_some_iff.1 h.box).1]; exact h.box⟩

theorem InCp.q {w W : World} {l done : List Fd} {k : Nat} (h : InCp w l k done W) (hk : k < l.length) {y : Fd} {bx : Nat} (box : W.heap[bx]? = some (.cells #[.int .i64 y.tag, .slice y.p y.d.length y.cap] 30 (0, 0))) : InCq w l k done y bx W :=
  ⟨⟨zf, by have := h.row; rwa [show l.length - k = (l.length - (k + 1)) + 1 by omega, List.replicate_succ] at this⟩, h.len, h.keys, h.oks, h.below, box⟩

theorem InCq.cells {w X : World} {l done : List Fd} {k bx : Nat} {y : Fd} (h : InCq w l k done y bx X) : ∃ z : Fd, X.cell? ⟨w.heap.size, k * 2, none⟩ = some (.int .i64 z.tag) ∧ X.cell? ⟨w.heap.size, k * 2 + 1, none⟩ = some (.slice z.p z.d.length z.cap) ∧ X.frozen? ⟨w.heap.size, k * 2, none⟩ = false ∧ X.frozen? ⟨w.heap.size, k * 2 + 1, none⟩ = false := by
  obtain ⟨z, hz⟩ := h.row
  have := cellsF_at hz k (by simp [h.len])
  rw [show (done ++ z :: List.replicate (l.length - (k + 1)) zf).getD k zf = z by rw [← h.len]; simp [List.getD]] at this
  exact ⟨z, this⟩

theorem InCq.put {w X : World} {l done : List Fd} {k bx : Nat} {y : Fd} (h : InCq w l k done y bx X) (hk : k < l.length) (f : Fd) (hf : FOkN w.heap.size X f) (hky : ky f = ky (l.getD k zf)) (hbx : bx ≠ w.heap.size) :
    InCp w l (k + 1) (done ++ [f]) ((X.setCell ⟨w.heap.size, k * 2, none⟩ (.int .i64 f.tag)).setCell ⟨w.heap.size, k * 2 + 1, none⟩ (.slice f.p f.d.length f.cap)) ∧
    InCq w l k done y bx ((X.setCell ⟨w.heap.size, k * 2, none⟩ (.int .i64 f.tag)).setCell ⟨w.heap.size, k * 2 + 1, none⟩ (.slice f.p f.d.length f.cap)) := by
  obtain ⟨z, hz⟩ := h.row
  have hfr : Fr (fun i => i = w.heap.size) X ((X.setCell ⟨w.heap.size, k * 2, none⟩ (.int .i64 f.tag)).setCell ⟨w.heap.size, k * 2 + 1, none⟩ (.slice f.p f.d.length f.cap)) := Fr.setCell (p := ⟨w.heap.size, k * 2 + 1, none⟩) (Fr.setCell (p := ⟨w.heap.size, k * 2, none⟩) (Fr.refl (fun i => i = w.heap.size) _) (.inl rfl) _) (.inl rfl) _
  have hrow : ((X.setCell ⟨w.heap.size, k * 2, none⟩ (.int .i64 f.tag)).setCell ⟨w.heap.size, k * 2 + 1, none⟩ (.slice f.p f.d.length f.cap)).heap[w.heap.size]? = some (.cells (cellsF (done ++ f :: List.replicate (l.length - (k + 1)) zf)) 30 (0, 0)) := by
    have h1 := fset_at (fset_at hz (i := k * 2) (.int .i64 f.tag)) (i := k * 2 + 1) (.slice f.p f.d.length f.cap)
    rw [h1, cellsF_set]
    congr 3
    rw [← h.len]
    simp
  have hb := (h.below.setCell (p := ⟨w.heap.size, k * 2, none⟩) (Nat.le_refl _) (.int .i64 f.tag)).setCell (p := ⟨w.heap.size, k * 2 + 1, none⟩) (Nat.le_refl _) (.slice f.p f.d.length f.cap)
  refine ⟨⟨by rw [hrow]; simp, by simp [h.len], ?_, ?_, hb⟩, ⟨⟨f, hrow⟩, h.len, h.keys, fun f hf => (h.oks f hf).fr hfr, hb, ?_⟩⟩
  · rw [take_next l k hk, kys_append, kys_append, h.keys]
    simp [kys, hky]
  · intro x hx
    rcases List.mem_append.1 hx with q | q
    · exact (h.oks x q).fr hfr
    · simp at q; subst q; exact hf.fr hfr
  · rw [hfr.block _ (Array.getElem?_eq_some_iff.1 h.box).1 hbx]; exact h.box



end Go.Proofs.Ytflllegengomnaa
