/-
  Rows of fields in memory of their own; package bag: own, Copy, Get, above.
-/
import Derived.Test.YtnladolpcocchaaBagC
import Derived.Test.YtnladolpcocchaaAcc
import Derived.Laws.CopyOwn
import Derived.Laws.MakeOwn
import Derived.Deep.OwnRows
namespace Go.Proofs.Ytnladolpcocchaa
open Go.RowKit
set_option linter.unusedSimpArgs false
set_option linter.unusedVariables false
set_option maxRecDepth 10000

theorem infoA1 : (Try.prog.info? 5).map (·.size) = some 1 := by kernel_rfl
theorem infoF : (Try.prog.info? 55).map (fun i => (i.zero, i.size, i.bytes)) = some (some (.agg #[.int .i64 0, .slice none 0 0]), 2, 32) := by kernel_rfl

theorem made_size (n : Nat) (z : Array Value) : (madeCells z n).toList.length = n := by simp [madeCells]
theorem splice_full (L cs : List Value) (h : L.length = cs.length) : splice L 0 cs = cs := by
  simp [splice, h.symm]

/-- What 'copy' asks of its source, where the bytes lie in old memory and one block has been laid. -/
theorem src_laid {w : World} {p : Option Addr} {l : List Int} (hB : BIn w p l) (o : Obj) (dp : Option Addr) : 0 < (l.map (Value.int .u8)).length → dp = dp ∧ ∃ ad, p = some ad ∧ ∀ j v, (l.map (Value.int .u8))[j]? = some v → (w.alloc o).cell? (ad.add j) = some v := by
  intro h
  obtain ⟨a, rfl, hc⟩ := (hB.below ((Below.refl _ _).alloc (Nat.le_refl _) o)).news (by simpa using h)
  exact ⟨rfl, _, rfl, hc⟩

set_option maxHeartbeats 400000 in
theorem bown_any (p : Option Addr) (c : Nat) (l : List Int) (w : World) (hB : BIn w p l) (hn : l.length ≤ 140737488355328) :
    Calls Try.prog 46 #[.slice p l.length c] w fun e w' => e = .returned (.slice (some ⟨w.heap.size, 0, none⟩) l.length l.length) ∧
      w'.heap[w.heap.size]? = some (.cells (cellsB l) 5 (0, 0)) ∧ Below w.heap.size w w' := by
  have hmk := fun w => run_make_row' (P := Try.prog) 53 5 (.int .u8 0) 1 Try.underlying53 infoA rfl .i64 .i64 l.length (by omega) (by omega) w
  go_enter Try.func46, Try.ntmps46
  go_wp2_with (refine wpList_copy_splice rfl (.tmp 7) (.tmp 8) 53 53 rfl 5 Try.underlying53 infoA1 (some ⟨w.heap.size, 0, none⟩) p l.length l.length l.length c rfl rfl w.heap.size 0 (madeCells #[Value.int .u8 0] l.length).toList 5 (by simpa using heap_alloc_new w _) (l.map (Value.int .u8)) (by simp) (src_laid hB _ _) (by simp [size_madeCells]) (oneCells l) w.heap.size w ((Below.refl _ _).alloc (Nat.le_refl _) _) (Nat.le_refl _) ?_)
  intro w' hg hb
  go_wp2
  go_ret
  refine ⟨rfl, ?_, hb⟩
  rw [hg.out, splice_full _ _ (by simp [size_madeCells])]
  rfl

/-- The cells of fields. -/
def cellsF (l : List Fd) : Array Value := (l.flatMap Fd.cells).toArray

theorem flat_get : ∀ (l : List Fd) (i : Nat), (l.flatMap Fd.cells)[i * 2]? = (l[i]?).map (fun f => Value.int .i64 f.tag) ∧ (l.flatMap Fd.cells)[i * 2 + 1]? = (l[i]?).map (fun f => Value.slice f.p f.d.length f.cap)
  | [], i => by simp
  | x :: l, 0 => by simp [Fd.cells]
  | x :: l, i + 1 => by
    have := flat_get l i
    simp only [List.flatMap_cons, Fd.cells, List.cons_append, List.nil_append, List.getElem?_cons_succ, show (i + 1) * 2 = i * 2 + 1 + 1 by omega]
    exact this

theorem flat_len (l : List Fd) : (l.flatMap Fd.cells).length = l.length * 2 := by
  induction l with
  | nil => rfl
  | cons x l ih => simp [Fd.cells, ih]; omega

theorem flat_set : ∀ (l : List Fd) (i : Nat) (f : Fd), ((l.flatMap Fd.cells).set (i * 2) (.int .i64 f.tag)).set (i * 2 + 1) (.slice f.p f.d.length f.cap) = (l.set i f).flatMap Fd.cells
  | [], i, f => by simp
  | x :: l, 0, f => by simp [Fd.cells]
  | x :: l, i + 1, f => by
    have := flat_set l i f
    simp only [List.flatMap_cons, Fd.cells, List.cons_append, List.nil_append, show (i + 1) * 2 = i * 2 + 1 + 1 by omega, List.set_cons_succ]
    rw [← this]

theorem cellsF_size (l : List Fd) : (cellsF l).size = l.length * 2 := by rw [cellsF, List.size_toArray, flat_len]

theorem cellsF_set (l : List Fd) (i : Nat) (f : Fd) : ((cellsF l).setIfInBounds (i * 2) (.int .i64 f.tag)).setIfInBounds (i * 2 + 1) (.slice f.p f.d.length f.cap) = cellsF (l.set i f) := by
  unfold cellsF
  rw [List.setIfInBounds_toArray, List.setIfInBounds_toArray, flat_set]

theorem cellsF_made (n : Nat) : madeCells #[Value.int .i64 0, Value.slice none 0 0] (n * 2) = cellsF (List.replicate n zf) := by
  apply Array.ext
  · rw [cellsF_size, size_madeCells, List.length_replicate]
  · intro i h1 h2
    have hi : i < n * 2 := by simpa [madeCells] using h1
    have := flat_get (List.replicate n zf) (i / 2)
    rcases Nat.mod_two_eq_zero_or_one i with h | h
    · have e : i = i / 2 * 2 := by omega
      have h3 := this.1
      rw [← e] at h3
      have h4 : (cellsF (List.replicate n zf))[i]? = some (.int .i64 0) := by
        simp only [cellsF, List.getElem?_toArray, h3]
        rw [List.getElem?_replicate_of_lt (by omega)]
        rfl
      rw [Array.getElem?_eq_getElem h2] at h4
      simp only [Option.some.injEq] at h4
      rw [h4]
      simp [madeCells, h]
    · have e : i = i / 2 * 2 + 1 := by omega
      have h3 := this.2
      rw [← e] at h3
      have h4 : (cellsF (List.replicate n zf))[i]? = some (.slice none 0 0) := by
        simp only [cellsF, List.getElem?_toArray, h3]
        rw [List.getElem?_replicate_of_lt (by omega)]
        rfl
      rw [Array.getElem?_eq_getElem h2] at h4
      simp only [Option.some.injEq] at h4
      rw [h4]
      simp [madeCells, h]

/-- The row at block g. -/
theorem cellsF_at {w : World} {g : Nat} {l : List Fd} {t : TypeId} (h : w.heap[g]? = some (.cells (cellsF l) t (0, 0))) (i : Nat) (hi : i < l.length) :
    w.cell? ⟨g, i * 2, none⟩ = some (.int .i64 (l.getD i zf).tag) ∧ w.cell? ⟨g, i * 2 + 1, none⟩ = some (.slice (l.getD i zf).p (l.getD i zf).d.length (l.getD i zf).cap) ∧ w.frozen? ⟨g, i * 2, none⟩ = false ∧ w.frozen? ⟨g, i * 2 + 1, none⟩ = false := by
  obtain ⟨h1, h2⟩ := flat_get l i
  simp [World.cell?, World.frozen?, h, cellsF, h1, h2, hi, List.getD]

/-- A block's cells behind a store. -/
theorem fset_at {w : World} {g i : Nat} {cs : Array Value} {t : TypeId} {f : Nat × Nat} (h : w.heap[g]? = some (.cells cs t f)) (u : Value) :
    (w.setCell ⟨g, i, none⟩ u).heap[g]? = some (.cells (cs.setIfInBounds i u) t f) := by
  simp [World.setCell, Array.getElem?_modify, h]

theorem FOk.fr {S : Nat → Prop} {w w' : World} {f : Fd} (h : FOk w f) (k : Fr S w w') (hn : 0 < f.d.length → ∀ a, f.p = some a → ¬ S a.block) : FOk w' f :=
  ⟨h.tag, h.len, h.cap, h.nil, fun hl => (h.bin.fr k (fun a ha _ => hn hl a ha)) hl, h.isb, h.few⟩

/-- Its bytes lie behind block g. -/
structure FOkN (g : Nat) (w : World) (f : Fd) : Prop where
  ok : FOk w f
  off : 0 < f.d.length → ∀ a, f.p = some a → g < a.block

theorem FOkN.below {g : Nat} {w w' : World} {f : Fd} (h : FOkN g w f) (k : Below w.heap.size w w') : FOkN g w' f := ⟨h.ok.below k, h.off⟩
theorem FOkN.fr {g : Nat} {w w' : World} {f : Fd} (h : FOkN g w f) (k : Fr (fun i => i = g) w w') : FOkN g w' f := ⟨h.ok.fr k fun hl a ha q => by have := h.off hl a ha; omega, h.off⟩

theorem FIn.of_row {w : World} {g : Nat} {t : TypeId} {l : List Fd} (h : w.heap[g]? = some (.cells (cellsF l) t (0, 0))) (hok : ∀ f ∈ l, FOk w f) : FIn w (some ⟨g, 0, none⟩) l := by
  refine FIn.of fun i hi => ?_
  obtain ⟨h1, h2, _, _⟩ := cellsF_at h i hi
  rw [Nat.zero_add]
  refine ⟨h1, h2, hok _ ?_⟩
  simp [List.getD, hi]

/-- While a bag is copied: what is done, and all that is old. -/
structure InCp (w : World) (l : List Fd) (k : Nat) (done : List Fd) (W : World) : Prop where
  row : W.heap[w.heap.size]? = some (.cells (cellsF (done ++ List.replicate (l.length - k) zf)) 55 (0, 0))
  len : done.length = k
  keys : kys done = kys (l.take k)
  oks : ∀ f ∈ done, FOkN w.heap.size W f
  below : Below w.heap.size w W

theorem InCp.lt {w W : World} {l done : List Fd} {k : Nat} (h : InCp w l k done W) : w.heap.size < W.heap.size := (Array.getElem?_eq_some_iff.1 h.row).1

theorem InCp.on {w W W' : World} {l done : List Fd} {k : Nat} (h : InCp w l k done W) (b : Below W.heap.size W W') : InCp w l k done W' :=
  ⟨by rw [b.block _ h.lt]; exact h.row, h.len, h.keys, fun f hf => (h.oks f hf).below b, h.below.trans (b.mono h.below.size)⟩

theorem InCp.next {w W : World} {l done : List Fd} {k : Nat} (h : InCp w l k done W) (hk : k < l.length) (f : Fd) (hf : FOkN w.heap.size W f) (hky : ky f = ky (l.getD k zf)) :
    InCp w l (k + 1) (done ++ [f]) ((W.setCell ⟨w.heap.size, k * 2, none⟩ (.int .i64 f.tag)).setCell ⟨w.heap.size, k * 2 + 1, none⟩ (.slice f.p f.d.length f.cap)) := by
  have hfr : Fr (fun i => i = w.heap.size) W ((W.setCell ⟨w.heap.size, k * 2, none⟩ (.int .i64 f.tag)).setCell ⟨w.heap.size, k * 2 + 1, none⟩ (.slice f.p f.d.length f.cap)) := Fr.setCell (p := ⟨w.heap.size, k * 2 + 1, none⟩) (Fr.setCell (p := ⟨w.heap.size, k * 2, none⟩) (Fr.refl (fun i => i = w.heap.size) _) (.inl rfl) _) (.inl rfl) _
  refine ⟨?_, by simp [h.len], ?_, ?_, (h.below.setCell (by simp) _).setCell (by simp) _⟩
  · have h1 := fset_at (fset_at h.row (i := k * 2) (.int .i64 f.tag)) (i := k * 2 + 1) (.slice f.p f.d.length f.cap)
    rw [h1, cellsF_set]
    congr 2
    rw [← h.len]
    rw [show l.length - done.length = (l.length - (done.length + 1)) + 1 by have := h.len; omega, List.replicate_succ]
    simp
  · rw [take_next l k hk, kys_append, kys_append, h.keys]
    simp [kys, hky]
  · intro x hx
    rcases List.mem_append.1 hx with q | q
    · exact (h.oks x q).fr hfr
    · simp at q; subst q; exact hf.fr hfr

/-- The same in the midst of a round: the place k may be written or not. -/
structure InCq (w : World) (l : List Fd) (k : Nat) (done : List Fd) (y : Fd) (bx : Nat) (X : World) : Prop where
  row : ∃ z, X.heap[w.heap.size]? = some (.cells (cellsF (done ++ z :: List.replicate (l.length - (k + 1)) zf)) 55 (0, 0))
  len : done.length = k
  keys : kys done = kys (l.take k)
  oks : ∀ f ∈ done, FOkN w.heap.size X f
  below : Below w.heap.size w X
  box : X.heap[bx]? = some (.cells #[.int .i64 y.tag, .slice y.p y.d.length y.cap] 55 (0, 0))

theorem InCq.on {w X X' : World} {l done : List Fd} {k bx : Nat} {y : Fd} (h : InCq w l k done y bx X) (b : Below X.heap.size X X') : InCq w l k done y bx X' := by
  obtain ⟨z, hz⟩ := h.row
  exact ⟨⟨z, by rw [b.block _ (Array.getElem?_eq_some_iff.1 hz).1]; exact hz⟩, h.len, h.keys, fun f hf => (h.oks f hf).below b, h.below.trans (b.mono h.below.size), by rw [b.block _ (Array.getElem?_eq_some_iff.1 h.box).1]; exact h.box⟩

theorem InCp.q {w W : World} {l done : List Fd} {k : Nat} (h : InCp w l k done W) (hk : k < l.length) {y : Fd} {bx : Nat} (box : W.heap[bx]? = some (.cells #[.int .i64 y.tag, .slice y.p y.d.length y.cap] 55 (0, 0))) : InCq w l k done y bx W :=
  ⟨⟨zf, by have := h.row; rwa [show l.length - k = (l.length - (k + 1)) + 1 by omega, List.replicate_succ] at this⟩, h.len, h.keys, h.oks, h.below, box⟩

theorem InCq.cells {w X : World} {l done : List Fd} {k bx : Nat} {y : Fd} (h : InCq w l k done y bx X) : ∃ z : Fd, X.cell? ⟨w.heap.size, k * 2, none⟩ = some (.int .i64 z.tag) ∧ X.cell? ⟨w.heap.size, k * 2 + 1, none⟩ = some (.slice z.p z.d.length z.cap) ∧ X.frozen? ⟨w.heap.size, k * 2, none⟩ = false ∧ X.frozen? ⟨w.heap.size, k * 2 + 1, none⟩ = false := by
  obtain ⟨z, hz⟩ := h.row
  have := cellsF_at hz k (by simp [h.len])
  rw [show (done ++ z :: List.replicate (l.length - (k + 1)) zf).getD k zf = z by rw [← h.len]; simp [List.getD]] at this
  exact ⟨z, this⟩

theorem InCq.put {w X : World} {l done : List Fd} {k bx : Nat} {y : Fd} (h : InCq w l k done y bx X) (hk : k < l.length) (f : Fd) (hf : FOkN w.heap.size X f) (hky : ky f = ky (l.getD k zf)) (hbx : bx ≠ w.heap.size) :
    InCp w l (k + 1) (done ++ [f]) ((X.setCell ⟨w.heap.size, k * 2, none⟩ (.int .i64 f.tag)).setCell ⟨w.heap.size, k * 2 + 1, none⟩ (.slice f.p f.d.length f.cap)) ∧
    InCq w l k done y bx ((X.setCell ⟨w.heap.size, k * 2, none⟩ (.int .i64 f.tag)).setCell ⟨w.heap.size, k * 2 + 1, none⟩ (.slice f.p f.d.length f.cap)) := by
  obtain ⟨z, hz⟩ := h.row
  have hfr : Fr (fun i => i = w.heap.size) X ((X.setCell ⟨w.heap.size, k * 2, none⟩ (.int .i64 f.tag)).setCell ⟨w.heap.size, k * 2 + 1, none⟩ (.slice f.p f.d.length f.cap)) := Fr.setCell (p := ⟨w.heap.size, k * 2 + 1, none⟩) (Fr.setCell (p := ⟨w.heap.size, k * 2, none⟩) (Fr.refl (fun i => i = w.heap.size) _) (.inl rfl) _) (.inl rfl) _
  have hrow : ((X.setCell ⟨w.heap.size, k * 2, none⟩ (.int .i64 f.tag)).setCell ⟨w.heap.size, k * 2 + 1, none⟩ (.slice f.p f.d.length f.cap)).heap[w.heap.size]? = some (.cells (cellsF (done ++ f :: List.replicate (l.length - (k + 1)) zf)) 55 (0, 0)) := by
    have h1 := fset_at (fset_at hz (i := k * 2) (.int .i64 f.tag)) (i := k * 2 + 1) (.slice f.p f.d.length f.cap)
    rw [h1, cellsF_set]
    congr 3
    rw [← h.len]
    simp
  have hb := (h.below.setCell (p := ⟨w.heap.size, k * 2, none⟩) (Nat.le_refl _) (.int .i64 f.tag)).setCell (p := ⟨w.heap.size, k * 2 + 1, none⟩) (Nat.le_refl _) (.slice f.p f.d.length f.cap)
  refine ⟨⟨by rw [hrow]; simp, by simp [h.len], ?_, ?_, hb⟩, ⟨⟨f, hrow⟩, h.len, h.keys, fun f hf => (h.oks f hf).fr hfr, hb, ?_⟩⟩
  · rw [take_next l k hk, kys_append, kys_append, h.keys]
    simp [kys, hky]
  · intro x hx
    rcases List.mem_append.1 hx with q | q
    · exact (h.oks x q).fr hfr
    · simp at q; subst q; exact hf.fr hfr
  · rw [hfr.block _ (Array.getElem?_eq_some_iff.1 h.box).1 hbx]; exact h.box

set_option maxHeartbeats 4000000 in
set_option maxRecDepth 10000 in
theorem copy_any (p : Option Addr) (c : Nat) (l : List Fd) (w : World) (hp : FIn w p l) (hn : l.length ≤ 1099511627776) :
    Calls Try.prog 37 #[.slice p l.length c] w fun e w' => e = .returned (.slice (some ⟨w.heap.size, 0, none⟩) l.length l.length) ∧
      ∃ l', kys l' = kys l ∧ w'.heap[w.heap.size]? = some (.cells (cellsF l') 55 (0, 0)) ∧ (∀ f ∈ l', FOkN w.heap.size w' f) ∧ Below w.heap.size w w' := by
  obtain ⟨i0, hi, hz0, hz1, hz2⟩ := info_parts infoF
  have hmk : ∀ w, (Instr.makeSlice 32 (.int .i64 (l.length : Int)) (.int .i64 (l.length : Int))).run Try.prog w = .ok (.slice (some ⟨w.heap.size, 0, none⟩) l.length l.length) (w.alloc (.cells (cellsF (List.replicate l.length zf)) 55)) := fun w => by
    have := run_make (P := Try.prog) w 32 55 i0 _ Try.underlying32 hi hz0 .i64 .i64 l.length l.length (by omega) (Int.le_refl _) (by rw [hz2]; omega) (by omega)
    rw [this, hz1]
    simp only [Int.toNat_natCast]
    rw [show (Value.agg #[.int .i64 0, .slice none 0 0]).cells = #[Value.int .i64 0, Value.slice none 0 0] from rfl, cellsF_made]
  clear hi hz0 hz1 hz2
  go_enter Try.func37, Try.ntmps37
  go_wp2
  go_loopw [11] (fun i W => ∃ k : Nat, ∃ done, k ≤ l.length ∧ i = .int .i64 k ∧ Hid (InCp w l k done W)) (fun i _ => l.length - (intOf i).toNat)
  case atStart => exact ⟨0, [], by omega, rfl, by simpa using heap_alloc_new w _, rfl, rfl, by simp, (Below.refl _ _).alloc (Nat.le_refl _) _⟩
  case round =>
    obtain ⟨k, done, hk, rfl, HI⟩ := hrel
    by_cases t : k < l.length
    · obtain ⟨b, o, rfl, hc⟩ := (hp.below HI.out.below).at (by omega)
      obtain ⟨e0, e1, _⟩ := hc k t
      have hx : FOk w (l.getD k zf) := by
        obtain ⟨_, _, _, hcw⟩ := hp.at (by omega)
        exact (hcw k t).2.2
      obtain ⟨y, hy⟩ : ∃ y, l.getD k zf = y := ⟨_, rfl⟩
      rw [hy] at e0 e1 hx
      have HY := Hid.mk' hy
      have hB := (Below.refl wr.heap.size wr).alloc (Nat.le_refl _) (.cells #[.int .i64 y.tag, .slice y.p y.d.length y.cap] 55)
      have hbx : wr.heap.size ≠ w.heap.size := by have := HI.out.lt; omega
      have hQ : InCq w l k done y wr.heap.size (wr.alloc (.cells #[.int .i64 y.tag, .slice y.p y.d.length y.cap] 55)).drew := ((HI.out.on hB).q t (heap_alloc_new wr _)).on (Below.refl _ _).drew
      obtain ⟨q0, q1, _, _⟩ := two_cells hQ.box
      have hS0 : (wr.alloc (.cells #[.int .i64 y.tag, .slice y.p y.d.length y.cap] 55)).drew.cell? ⟨wr.heap.size, 0, none⟩ = some (.int .i64 y.tag) ∧ (wr.alloc (.cells #[.int .i64 y.tag, .slice y.p y.d.length y.cap] 55)).drew.cell? ⟨wr.heap.size, 1, none⟩ = some (.slice y.p y.d.length y.cap) ∧ Hid (InCq w l k done y wr.heap.size (wr.alloc (.cells #[.int .i64 y.tag, .slice y.p y.d.length y.cap] 55)).drew) := ⟨q0, q1, hQ⟩
      clear hc hy hB q0 q1 hQ HI
      go_wp2_with fail
      refine wp_region_held_drew (S := fun X => X.cell? ⟨wr.heap.size, 0, none⟩ = some (.int .i64 y.tag) ∧ X.cell? ⟨wr.heap.size, 1, none⟩ = some (.slice y.p y.d.length y.cap) ∧ Hid (InCq w l k done y wr.heap.size X)) (by kernel_rfl) hS0 (fun hS => ?_)
      clear hS0
      generalize (wr.alloc (.cells #[.int .i64 y.tag, .slice y.p y.d.length y.cap] 55)).drew = wd at hS ⊢
      refine wpAnyH_take (i := 0) (v := ?v0_10) rfl (by kernel_rfl) (by kernel_rfl) (by kernel_rfl) (fun _ _ _ h => h) (Or.inl ⟨by rfl, ?hy0_10⟩) (by assumption) ?rest0_10
      case hy0_10 => (intro w hSw; (try dsimp only at hSw); go_simp; try (with_reducible rfl))
      simp only [Act.put, List.getElem_toArray, List.getElem_cons_zero, List.getElem_cons_succ, List.setIfInBounds_toArray, List.set_cons_zero, List.set_cons_succ]
      refine wpAnyH_take (i := 1) (v := ?v1_11) rfl (by kernel_rfl) (by kernel_rfl) (by kernel_rfl) (fun _ _ _ h => h) (Or.inl ⟨by rfl, ?hy1_11⟩) (by assumption) ?rest1_11
      case hy1_11 => (intro w hSw; (try dsimp only at hSw); go_simp; try (with_reducible rfl))
      simp only [Act.put, List.getElem_toArray, List.getElem_cons_zero, List.getElem_cons_succ, List.setIfInBounds_toArray, List.set_cons_zero, List.set_cons_succ]
      refine wpAnyH_take (i := 2) (v := ?v2_12) rfl (by kernel_rfl) (by kernel_rfl) (by kernel_rfl) (fun _ _ _ h => h) (Or.inl ⟨by rfl, ?hy2_12⟩) (by assumption) ?rest2_12
      case hy2_12 => (intro w hSw; (try dsimp only at hSw); go_simp; try (with_reducible rfl))
      simp only [Act.put, List.getElem_toArray, List.getElem_cons_zero, List.getElem_cons_succ, List.setIfInBounds_toArray, List.set_cons_zero, List.set_cons_succ]
      refine wpAnyH_take (i := 3) (v := ?v3_13) rfl (by kernel_rfl) (by kernel_rfl) (by kernel_rfl) (fun _ _ _ h => h) (Or.inl ⟨by rfl, ?hy3_13⟩) (by assumption) ?rest3_13
      case hy3_13 => (intro w hSw; (try dsimp only at hSw); go_simp; try (with_reducible rfl))
      simp only [Act.put, List.getElem_toArray, List.getElem_cons_zero, List.getElem_cons_succ, List.setIfInBounds_toArray, List.set_cons_zero, List.set_cons_succ]
      refine wpAnyH_take (i := 4) (v := ?v4_14) rfl (by kernel_rfl) (by kernel_rfl) (by kernel_rfl) (fun _ _ _ h => h) (Or.inl ⟨by rfl, ?hy4_14⟩) (by assumption) ?rest4_14
      case hy4_14 => (intro w hSw; (try dsimp only at hSw); go_simp; try (with_reducible rfl))
      simp only [Act.put, List.getElem_toArray, List.getElem_cons_zero, List.getElem_cons_succ, List.setIfInBounds_toArray, List.set_cons_zero, List.set_cons_succ]
      refine wpAnyH_take (i := 5) (v := ?v5_15) rfl (by kernel_rfl) (by kernel_rfl) (by kernel_rfl) (fun _ _ _ h => h) (Or.inl ⟨by rfl, ?hy5_15⟩) (by assumption) ?rest5_15
      case hy5_15 => (intro w hSw; (try dsimp only at hSw); go_simp; try (with_reducible rfl))
      simp only [Act.put, List.getElem_toArray, List.getElem_cons_zero, List.getElem_cons_succ, List.setIfInBounds_toArray, List.set_cons_zero, List.set_cons_succ]
      refine wpAnyH_ready (rs := [6]) (by kernel_rfl) (by simp) ?_
      refine (AllReadyH.cons rfl (fun K hK => ?_) AllReadyH.nil)
      go_simp
      refine (bown_any y.p y.cap y.d _ (hx.below hS.2.2.out.below).bin hx.few).mono ?_
      rintro e w3 ⟨rfl, hnew, hb3⟩
      have hQ3 := hS.2.2.out.on hb3
      obtain ⟨q0, q1, _, _⟩ := two_cells hQ3.box
      have hgt : w.heap.size < wd.heap.size := Nat.lt_of_lt_of_le (by obtain ⟨z, hz⟩ := hS.2.2.out.row; exact (Array.getElem?_eq_some_iff.1 hz).1) (Nat.le_refl _)
      have HF := Hid.mk' (show FOkN w.heap.size w3 ⟨y.tag, some ⟨wd.heap.size, 0, none⟩, y.d.length, y.d⟩ from ⟨⟨hx.tag, Nat.le_refl _, Nat.le_trans hx.len hx.cap, by simp, BIn.of_block (rest := []) (by simpa [cellsB] using hnew), hx.isb, hx.few⟩, fun _ a ha => by cases ha; simp; omega⟩)
      clear hnew hb3
      go_wp2_with fail
      refine hK.out _ _ ?_ (fun hS' => ?_)
      · exact ⟨q0, q1, hQ3⟩
      clear hK K
      try simp only [Act.put, List.getElem_toArray, List.getElem_cons_zero, List.getElem_cons_succ, List.setIfInBounds_toArray, List.set_cons_zero, List.set_cons_succ]
      replace hS := hS'
      clear hS'
      refine wpAnyH_take (i := 7) (v := ?v7_16) rfl (by kernel_rfl) (by kernel_rfl) (by kernel_rfl) (fun _ _ _ h => h) (Or.inl ⟨by rfl, ?hy7_16⟩) (by assumption) ?rest7_16
      case hy7_16 => (intro w hSw; (try dsimp only at hSw); go_simp; try (with_reducible rfl))
      simp only [Act.put, List.getElem_toArray, List.getElem_cons_zero, List.getElem_cons_succ, List.setIfInBounds_toArray, List.set_cons_zero, List.set_cons_succ]
      refine wpAnyH_take (i := 8) (v := ?v8_17) rfl (by kernel_rfl) (by kernel_rfl) (by kernel_rfl) (fun _ _ _ h => h) (Or.inl ⟨by rfl, ?hy8_17⟩) (by assumption) ?rest8_17
      case hy8_17 => (intro w hSw; (try dsimp only at hSw); go_simp; try (with_reducible rfl))
      simp only [Act.put, List.getElem_toArray, List.getElem_cons_zero, List.getElem_cons_succ, List.setIfInBounds_toArray, List.set_cons_zero, List.set_cons_succ]
      refine wpAnyH_ready (rs := [9]) (by kernel_rfl) (by simp) ?_
      refine (AllReadyH.cons rfl (fun K hK => ?_) AllReadyH.nil)
      obtain ⟨z, c0, c1, f0, f1⟩ := hS.2.2.out.cells
      go_simp
      have hput := hS.2.2.out.put t _ HF.out (by rw [HY.out]; rfl) hbx
      obtain ⟨q0, q1, _, _⟩ := two_cells hput.2.box
      refine hK.out _ _ ?_ (fun hS' => ?_)
      · exact ⟨q0, q1, hput.2⟩
      clear hK K
      try simp only [Act.put, List.getElem_toArray, List.getElem_cons_zero, List.getElem_cons_succ, List.setIfInBounds_toArray, List.set_cons_zero, List.set_cons_succ]
      replace hS := hS'
      clear hS'
      refine wpAnyH_done (by kernel_rfl) ?_ _
      have HP := Hid.mk' hput.1
      clear hS hput q0 q1 c0 c1 f0 f1
      go_wp2
      go_roundw
      case rel => exact ⟨k + 1, _, by omega, by go_num, HP.out⟩
      case measure => simp [intOf]; omega
    · obtain rfl : k = l.length := by omega
      go_wp2
      go_ret
      refine ⟨rfl, done, ?_, ?_, HI.out.oks, HI.out.below⟩
      · rw [HI.out.keys, List.take_of_length_le (Nat.le_refl _)]
      · have := HI.out.row
        simpa using this


end Go.Proofs.Ytnladolpcocchaa
