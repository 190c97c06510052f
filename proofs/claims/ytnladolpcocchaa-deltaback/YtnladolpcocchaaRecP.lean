/-
  Rows of records in memory of their own; package rec: Copy, Find; slices.Grow and slices.Concat of records.
-/
import Derived.Test.YtnladolpcocchaaRecL
namespace Go.Proofs.Ytnladolpcocchaa
open Go.RowKit
set_option linter.unusedSimpArgs false
set_option linter.unusedVariables false
set_option maxRecDepth 10000
set_option synthInstance.maxSize 2000

theorem infoR : (Try.prog.info? 34).map (fun i => (i.zero, i.size, i.bytes)) = some (some (.agg #[.int .i64 0, .int .i64 0, .int .i64 0, .int .i64 0, .int .i64 0, .bool false, .slice none 0 0]), 7, 72) := by kernel_rfl

/-- The cells of records. -/
def cellsR (l : List Rc) : Array Value := (l.flatMap Rc.cells).toArray

theorem flatR_get : ∀ (l : List Rc) (i j : Nat), j < 7 → (l.flatMap Rc.cells)[i * 7 + j]? = (l[i]?).bind (fun r => r.cells[j]?)
  | [], i, j, _ => by simp
  | x :: l, 0, j, hj => by
    simp only [List.flatMap_cons, Nat.zero_mul, Nat.zero_add]
    rw [List.getElem?_append_left (by simpa [Rc.cells] using hj)]
    simp
  | x :: l, i + 1, j, hj => by
    have := flatR_get l i j hj
    simp only [List.flatMap_cons]
    rw [List.getElem?_append_right (by simp [Rc.cells]; omega), show (i + 1) * 7 + j - x.cells.length = i * 7 + j by simp [Rc.cells]; omega, this]
    rfl

theorem flatR_len (l : List Rc) : (l.flatMap Rc.cells).length = l.length * 7 := by
  induction l with
  | nil => rfl
  | cons x l ih => simp [Rc.cells, ih]; omega

theorem flatR_set : ∀ (l : List Rc) (i : Nat) (f : Rc), (((((((l.flatMap Rc.cells).set (i * 7) (.int .i64 f.id)).set (i * 7 + 1) (.int .i64 f.inc)).set (i * 7 + 2) (.int .i64 f.st)).set (i * 7 + 3) (.int .i64 f.lo)).set (i * 7 + 4) (.int .i64 f.hi)).set (i * 7 + 5) (.bool f.cut)).set (i * 7 + 6) (.slice f.p f.bag.length f.cap) = (l.set i f).flatMap Rc.cells
  | [], i, f => by simp
  | x :: l, 0, f => by simp [Rc.cells]
  | x :: l, i + 1, f => by
    have := flatR_set l i f
    simp only [List.flatMap_cons, Rc.cells, List.cons_append, List.nil_append, show (i + 1) * 7 = i * 7 + 7 by omega, List.set_cons_succ, Nat.add_right_comm _ 7]
    rw [← this]

theorem cellsR_size (l : List Rc) : (cellsR l).size = l.length * 7 := by rw [cellsR, List.size_toArray, flatR_len]

theorem cellsR_set (l : List Rc) (i : Nat) (f : Rc) : (((((((cellsR l).setIfInBounds (i * 7) (.int .i64 f.id)).setIfInBounds (i * 7 + 1) (.int .i64 f.inc)).setIfInBounds (i * 7 + 2) (.int .i64 f.st)).setIfInBounds (i * 7 + 3) (.int .i64 f.lo)).setIfInBounds (i * 7 + 4) (.int .i64 f.hi)).setIfInBounds (i * 7 + 5) (.bool f.cut)).setIfInBounds (i * 7 + 6) (.slice f.p f.bag.length f.cap) = cellsR (l.set i f) := by
  unfold cellsR
  simp only [List.setIfInBounds_toArray]
  rw [flatR_set]

theorem cellsR_made (n : Nat) : madeCells #[Value.int .i64 0, .int .i64 0, .int .i64 0, .int .i64 0, .int .i64 0, .bool false, .slice none 0 0] (n * 7) = cellsR (List.replicate n zr) := by
  apply Array.ext
  · rw [cellsR_size, size_madeCells, List.length_replicate]
  · intro i h1 h2
    have hi : i < n * 7 := by simpa [madeCells] using h1
    have h3 := flatR_get (List.replicate n zr) (i / 7) (i % 7) (Nat.mod_lt _ (by omega))
    rw [show i / 7 * 7 + i % 7 = i by omega, List.getElem?_replicate_of_lt (by omega)] at h3
    have h4 : (cellsR (List.replicate n zr))[i]? = zr.cells[i % 7]? := by
      simp only [cellsR, List.getElem?_toArray, h3]
      rfl
    rw [Array.getElem?_eq_getElem h2] at h4
    have h5 : some (madeCells #[Value.int .i64 0, .int .i64 0, .int .i64 0, .int .i64 0, .int .i64 0, .bool false, .slice none 0 0] (n * 7))[i] = zr.cells[i % 7]? := by
      have hm : i % 7 < 7 := Nat.mod_lt _ (by omega)
      simp only [madeCells, Array.getElem_map, Array.getElem_range]
      change some (#[Value.int .i64 0, .int .i64 0, .int .i64 0, .int .i64 0, .int .i64 0, .bool false, .slice none 0 0][i % 7]!) = _
      generalize i % 7 = j at hm ⊢
      match j, hm with
      | 0, _ => rfl
      | 1, _ => rfl
      | 2, _ => rfl
      | 3, _ => rfl
      | 4, _ => rfl
      | 5, _ => rfl
      | 6, _ => rfl
    exact Option.some.inj (h5.trans h4.symm)

/-- The row at block g. -/
theorem cellsR_at {w : World} {g : Nat} {l : List Rc} {t : TypeId} (h : w.heap[g]? = some (.cells (cellsR l) t (0, 0))) (i : Nat) (hi : i < l.length) : RAt w g (i * 7) (l.getD i zr) ∧ ∀ j, w.frozen? ⟨g, j, none⟩ = false := by
  refine ⟨RAt.of fun j hj => ?_, fun j => by simp [World.frozen?, h]⟩
  have := flatR_get l i j hj
  simp [World.cell?, h, cellsR, this, hi, List.getD]

theorem RIn.of_row {w : World} {g : Nat} {t : TypeId} {l : List Rc} (h : w.heap[g]? = some (.cells (cellsR l) t (0, 0))) (hok : ∀ f ∈ l, ROk w f) : RIn w (some ⟨g, 0, none⟩) l := by
  refine RIn.of fun i hi => ?_
  rw [Nat.zero_add]
  exact ⟨(cellsR_at h i hi).1, hok _ (by simp [List.getD, hi])⟩

/-- While a list is copied: what is done, and all that is old. -/
structure InCr (w : World) (l : List Rc) (k : Nat) (done : List Rc) (W : World) : Prop where
  row : W.heap[w.heap.size]? = some (.cells (cellsR (done ++ List.replicate (l.length - k) zr)) 34 (0, 0))
  len : done.length = k
  keys : rks done = rks (l.take k)
  oks : ∀ f ∈ done, ROkA w.heap.size W f
  below : Below w.heap.size w W

theorem InCr.lt {w W : World} {l done : List Rc} {k : Nat} (h : InCr w l k done W) : w.heap.size < W.heap.size := (Array.getElem?_eq_some_iff.1 h.row).1

theorem InCr.on {w W W' : World} {l done : List Rc} {k : Nat} (h : InCr w l k done W) (b : Below W.heap.size W W') : InCr w l k done W' :=
  ⟨by rw [b.block _ h.lt]; exact h.row, h.len, h.keys, fun f hf => (h.oks f hf).below b, h.below.trans (b.mono h.below.size)⟩

theorem InCr.next {w W : World} {l done : List Rc} {k : Nat} (h : InCr w l k done W) (hk : k < l.length) (f : Rc) (hf : ROkA w.heap.size W f) (hky : rk f = rk (l.getD k zr)) :
    InCr w l (k + 1) (done ++ [f]) (((((((W.setCell ⟨w.heap.size, k * 7, none⟩ (.int .i64 f.id)).setCell ⟨w.heap.size, k * 7 + 1, none⟩ (.int .i64 f.inc)).setCell ⟨w.heap.size, k * 7 + 2, none⟩ (.int .i64 f.st)).setCell ⟨w.heap.size, k * 7 + 3, none⟩ (.int .i64 f.lo)).setCell ⟨w.heap.size, k * 7 + 4, none⟩ (.int .i64 f.hi)).setCell ⟨w.heap.size, k * 7 + 5, none⟩ (.bool f.cut)).setCell ⟨w.heap.size, k * 7 + 6, none⟩ (.slice f.p f.bag.length f.cap)) := by
  have hfr := (Fr.refl (fun i => i = w.heap.size) W).seven (b := w.heap.size) (o := k * 7) rfl f
  refine ⟨?_, by simp [h.len], ?_, ?_, ((((((h.below.setCell (by simp) _).setCell (by simp) _).setCell (by simp) _).setCell (by simp) _).setCell (by simp) _).setCell (by simp) _).setCell (by simp) _⟩
  · have h1 := fset_at (fset_at (fset_at (fset_at (fset_at (fset_at (fset_at h.row (i := k * 7) (.int .i64 f.id)) (i := k * 7 + 1) (.int .i64 f.inc)) (i := k * 7 + 2) (.int .i64 f.st)) (i := k * 7 + 3) (.int .i64 f.lo)) (i := k * 7 + 4) (.int .i64 f.hi)) (i := k * 7 + 5) (.bool f.cut)) (i := k * 7 + 6) (.slice f.p f.bag.length f.cap)
    have e : (done ++ List.replicate (l.length - k) zr).set k f = done ++ [f] ++ List.replicate (l.length - (k + 1)) zr := by
      rw [← h.len, show l.length - done.length = (l.length - (done.length + 1)) + 1 by have := h.len; omega, List.replicate_succ]
      simp
    rw [cellsR_set, e] at h1
    exact h1
  · rw [rtake_next l k hk, rks_append, rks_append, h.keys]
    simp [rks, hky]
  · intro x hx
    rcases List.mem_append.1 hx with q | q
    · exact (h.oks x q).fr hfr fun i q => Nat.le_of_eq q
    · simp at q; subst q; exact hf.fr hfr fun i q => Nat.le_of_eq q

def CopyPost (w : World) (l : List Rc) (e : Ending) (w' : World) : Prop :=
  ∃ g l', e = .returned (.slice (some ⟨g, 0, none⟩) l'.length l'.length) ∧ rks l' = rks l ∧ RIn w' (some ⟨g, 0, none⟩) l' ∧ Below w.heap.size w w'

set_option maxHeartbeats 4000000 in
theorem rcopy_any (p : Option Addr) (c : Nat) (l : List Rc) (w : World) (hp : RIn w p l) (hn : l.length ≤ 1000000) (hs : ∀ x ∈ l, x.bag.length ≤ 1099511627776) :
    Calls Try.prog 15 #[.slice p l.length c] w (CopyPost w l) := by
  obtain ⟨i0, hi, hz0, hz1, hz2⟩ := info_parts infoR
  have hmk : ∀ w, (Instr.makeSlice 22 (.int .i64 (l.length : Int)) (.int .i64 (l.length : Int))).run Try.prog w = .ok (.slice (some ⟨w.heap.size, 0, none⟩) l.length l.length) (w.alloc (.cells (cellsR (List.replicate l.length zr)) 34)) := fun w => by
    have := run_make (P := Try.prog) w 22 34 i0 _ Try.underlying22 hi hz0 .i64 .i64 l.length l.length (by omega) (Int.le_refl _) (by rw [hz2]; omega) (by omega)
    rw [this, hz1]
    simp only [Int.toNat_natCast]
    rw [show (Value.agg #[.int .i64 0, .int .i64 0, .int .i64 0, .int .i64 0, .int .i64 0, .bool false, .slice none 0 0]).cells = #[Value.int .i64 0, .int .i64 0, .int .i64 0, .int .i64 0, .int .i64 0, .bool false, .slice none 0 0] from rfl, cellsR_made]
  clear hi hz0 hz1 hz2
  go_enter Try.func15, Try.ntmps15
  go_wp2
  go_loopw [11] (fun i W => ∃ k : Nat, ∃ done, k ≤ l.length ∧ i = .int .i64 k ∧ Hid (InCr w l k done W)) (fun i _ => l.length - (intOf i).toNat)
  case atStart => exact ⟨0, [], by omega, rfl, by simpa using heap_alloc_new w _, rfl, rfl, by simp, (Below.refl _ _).alloc (Nat.le_refl _) _⟩
  case round =>
    obtain ⟨k, done, hk, rfl, HI⟩ := hrel
    by_cases t : k < l.length
    · obtain ⟨b, o, rfl, hc⟩ := (hp.below HI.out.below).at (by omega)
      obtain ⟨hx, hok⟩ := hc k t
      have hsk := hs (l.getD k zr) (by simp [List.getD, t])
      obtain ⟨y, hy⟩ : ∃ y, l.getD k zr = y := ⟨_, rfl⟩
      rw [hy] at hx hok hsk
      have HY := Hid.mk' hy
      obtain ⟨e0, e1, e2, e3, e4, e5, e6⟩ := hx
      have hB := (Below.refl wr.heap.size wr).alloc (Nat.le_refl _) (.cells #[.int .i64 y.id, .int .i64 y.inc, .int .i64 y.st, .int .i64 y.lo, .int .i64 y.hi, .bool y.cut, .slice y.p y.bag.length y.cap] 34)
      have N := rown_any y _ (hok.below hB) hsk
      have HI2 := Hid.mk' (HI.out.on hB)
      have HLT := Hid.mk' (show w.heap.size ≤ (wr.alloc (.cells #[.int .i64 y.id, .int .i64 y.inc, .int .i64 y.st, .int .i64 y.lo, .int .i64 y.hi, .bool y.cut, .slice y.p y.bag.length y.cap] 34)).heap.size by have := HI.out.lt; have := hB.size; omega)
      clear hc hy hB hok hsk HI
      go_wp2_with fail
      refine N.mono ?_
      rintro e w3 ⟨r', rfl, hrk, hra, hb3⟩
      have HI3 := Hid.mk' (HI2.out.on hb3)
      have HN := Hid.mk' (fun h1 h2 => HI3.out.next t r' h1 h2)
      have HP := Hid.mk' (HN.out (hra.mono HLT.out) (by rw [hrk, HY.out]))
      obtain ⟨⟨c0, c1, c2, c3, c4, c5, c6⟩, hfz⟩ := cellsR_at HI3.out.row k (by have := HI3.out.len; simp; omega)
      have f0 := hfz (k * 7)
      have f1 := hfz (k * 7 + 1)
      have f2 := hfz (k * 7 + 2)
      have f3 := hfz (k * 7 + 3)
      have f4 := hfz (k * 7 + 4)
      have f5 := hfz (k * 7 + 5)
      have f6 := hfz (k * 7 + 6)
      generalize (done ++ List.replicate (l.length - k) zr).getD k zr = z at c0 c1 c2 c3 c4 c5 c6
      clear hfz hrk hra hb3 HN HI2 HI3 N
      go_wp2_with fail
      go_roundw
      case rel => exact ⟨k + 1, _, by omega, by go_num, HP⟩
      case measure => simp [intOf]; omega
    · obtain rfl : k = l.length := by omega
      have HD := Hid.mk' (show l.length = done.length from HI.out.len.symm)
      go_wp2
      go_ret
      refine ⟨w.heap.size, done, by rw [← HD.out]; rfl, ?_, ?_, HI.out.below⟩
      · rw [HI.out.keys, List.take_of_length_le (Nat.le_refl _)]
      · have := HI.out.row
        simp only [Nat.sub_self, List.replicate_zero, List.append_nil] at this
        exact RIn.of_row this fun f hf => (HI.out.oks f hf).ok

set_option maxHeartbeats 4000000 in
theorem rgrow_any (n : Nat) (w : World) (hn : n ≤ 1000000) :
    Calls Try.prog 39 #[.slice none 0 0, .int .i64 n] w fun e w' => ∃ v, e = .returned v ∧ OwnR 34 7 w' w.heap.size v 0 [] ∧ Below w.heap.size w w' := by
  by_cases t : n = 0
  · subst t
    go_enter Try.func39, Try.ntmps39
    go_wp2_with fail
    go_ret
    exact ⟨_, rfl, OwnR.nil _ _ _ _, Below.refl _ _⟩
  · obtain ⟨i0, hi, hz0, hz1, hz2⟩ := info_parts infoR
    have hrz : ∀ ty, (Builtin.append_ #[22, 3] ty #[.slice none 0 0, .int .i64 (n : Int)]).run Try.prog w =
        .ok (.slice (some ⟨w.heap.size, 0, none⟩) n (grownCap w n 0 34)) (w.drew.alloc (.cells (Builtin.zeroCells #[Value.int .i64 0, .int .i64 0, .int .i64 0, .int .i64 0, .int .i64 0, .bool false, .slice none 0 0] n ++ Builtin.zeroCells #[Value.int .i64 0, .int .i64 0, .int .i64 0, .int .i64 0, .int .i64 0, .bool false, .slice none 0 0] (grownCap w n 0 34 - n)) 34)) := fun ty => by
      have h := Lib.run_append_grow_zeros (P := Try.prog) w 22 3 ty 34 i0 _ .i64 .i64 Try.underlying22 Try.underlying3 hi hz0 none 0 0 [] (run_firstCells_none w.drew i0.size 0 0 0) n (by omega) (by omega) (by omega) (by omega) (by rw [hz2]; omega) (by rw [hz2]; exact growslice_fits (by omega) (by omega))
      rw [show (Value.agg #[.int .i64 0, .int .i64 0, .int .i64 0, .int .i64 0, .int .i64 0, .bool false, .slice none 0 0]).cells = #[Value.int .i64 0, .int .i64 0, .int .i64 0, .int .i64 0, .int .i64 0, .bool false, .slice none 0 0] from rfl] at h
      simpa using h
    have hGn : n ≤ grownCap w n 0 34 := grownCap_ge w _ _ _
    have hG63 := grownCap_le_maxLen w n 0 34 (by unfold maxLen; omega)
    generalize grownCap w n 0 34 = G at hrz hGn hG63
    unfold maxLen at hG63
    have hpos : (0 : Int) < (n : Int) := by omega
    have hnn : ¬ ((n : Int) < 0) := by omega
    clear hi hz0 hz1 hz2
    go_enter Try.func39, Try.ntmps39
    go_wp2_with (refine Lib.wpList_append_run _ rfl _ _ _ _ rfl _ _ rfl rfl _ _ (hrz _) ?_)
    go_ret
    refine ⟨_, rfl, ⟨⟨rfl, .inr ⟨_, G, _, rfl, Nat.zero_le _, heap_alloc_new w.drew _, Nat.zero_le _, hG63, ?_, by simp⟩⟩, fun k hk => by cases hk; exact Nat.le_refl _⟩, (Below.refl _ _).drew.alloc (Nat.le_refl _) _⟩
    simp [Builtin.zeroCells]
    omega

theorem flatR_one (l : List Rc) : ∀ u ∈ l.flatMap Rc.cells, u.oneCell' = true := by
  intro u hu
  simp only [List.mem_flatMap, Rc.cells, List.mem_cons, List.not_mem_nil, or_false] at hu
  obtain ⟨f, _, rfl | rfl | rfl | rfl | rfl | rfl | rfl⟩ := hu <;> rfl

theorem RIn.news {w : World} {p : Option Addr} {l : List Rc} (h : RIn w p l) : 0 < l.length → ∃ a, p = some a ∧ ∀ j u, (l.flatMap Rc.cells)[j]? = some u → w.cell? (a.add j) = some u := fun hl => by
  obtain ⟨b, o, rfl, hc⟩ := h.at hl
  refine ⟨_, rfl, fun j u hj => ?_⟩
  have hlt : j < l.length * 7 := by rw [← flatR_len]; exact (List.getElem?_eq_some_iff.1 hj).1
  have hl2 : j / 7 < l.length := by omega
  have h1 := (hc (j / 7) hl2).1.cell (j % 7) (Nat.mod_lt _ (by omega))
  have g1 := flatR_get l (j / 7) (j % 7) (Nat.mod_lt _ (by omega))
  rw [show j / 7 * 7 + j % 7 = j by omega, hj] at g1
  rw [Go.WideShapes.add_plain]
  rw [show o + j / 7 * 7 + j % 7 = o + j by omega] at h1
  rw [h1, g1]
  simp [List.getD, hl2]

/-- A row that is owned, as records. -/
theorem own_rin {w : World} {B : Nat} {v : Value} {n : Nat} {l : List Rc} (h : OwnR 34 7 w B v n (l.flatMap Rc.cells)) (hok : ∀ f ∈ l, ROk w f) : ∃ p c, v = .slice p l.length c ∧ RIn w p l ∧ (p = none → c = 0) ∧ l.length ≤ c ∧ c ≤ maxLen := by
  have hn : n = l.length := by have := h.owns.1; rw [flatR_len] at this; omega
  subst hn
  obtain ⟨p, c, rfl, h1, h2, h3, h4⟩ := h.slice
  refine ⟨p, c, rfl, fun hl => ?_, h1, h2, h3⟩
  obtain ⟨g, rfl, _, hc⟩ := h4 hl
  refine RIn.of (fun i hi => ⟨RAt.of fun j hj => ?_, hok _ (by simp [List.getD, hi])⟩) hl
  have g1 := flatR_get l i j hj
  rw [Nat.zero_add]
  have hx : (l[i]?).bind (fun r => r.cells[j]?) = (l.getD i zr).cells[j]? := by simp [List.getD, hi]
  rw [hx] at g1
  obtain ⟨u, hu⟩ : ∃ u, (l.getD i zr).cells[j]? = some u := ⟨_, List.getElem?_eq_getElem (by simpa [Rc.cells] using hj)⟩
  rw [hu] at g1 ⊢
  exact hc _ _ g1

/-- Lists in a slice: where each lies. -/
structure PtR where
  p : Option Addr
  c : Nat
  l : List Rc
def zpR : PtR := ⟨none, 0, []⟩
structure PInR (w : World) (b : Nat) (ps : List PtR) : Prop where
  cell : ∀ i, i < ps.length → w.cell? ⟨b, i, none⟩ = some (.slice (ps.getD i zpR).p (ps.getD i zpR).l.length (ps.getD i zpR).c)
  fin : ∀ x ∈ ps, RIn w x.p x.l
  nil : ∀ x ∈ ps, x.p = none → x.c = 0

theorem PInR.below {w w' : World} {b : Nat} {ps : List PtR} (h : PInR w b ps) (k : Below w.heap.size w w') : PInR w' b ps :=
  ⟨fun i hi => by rw [k.cell (p := ⟨b, i, none⟩) (lt_of_cell (h.cell i hi))]; exact h.cell i hi, fun x hx => (h.fin x hx).below k, h.nil⟩

def allR (ps : List PtR) : List Rc := ps.flatMap PtR.l
theorem allR_next (ps : List PtR) (k : Nat) (h : k < ps.length) : allR (ps.take (k + 1)) = allR (ps.take k) ++ (ps.getD k zpR).l := by
  unfold allR
  rw [List.take_succ_eq_append_getElem h, List.flatMap_append]; simp [List.getD, h]
theorem allR_le (ps : List PtR) (k : Nat) : (allR (ps.take k)).length ≤ (allR ps).length := by
  have : allR ps = allR (ps.take k) ++ allR (ps.drop k) := by simp only [allR]; rw [← List.flatMap_append, List.take_append_drop]
  rw [this, List.length_append]; omega

theorem flatR_append (a b : List Rc) : (a ++ b).flatMap Rc.cells = a.flatMap Rc.cells ++ b.flatMap Rc.cells := List.flatMap_append

set_option maxHeartbeats 4000000 in
theorem rconcat_any (b : Nat) (ps : List PtR) (w : World) (hp : PInR w b ps) (hn : ps.length ≤ 1000) (hl : (allR ps).length ≤ 1000000) :
    Calls Try.prog 27 #[.slice (some ⟨b, 0, none⟩) ps.length ps.length] w fun e w' => ∃ v, e = .returned v ∧ OwnR 34 7 w' w.heap.size v (allR ps).length ((allR ps).flatMap Rc.cells) ∧ Below w.heap.size w w' := by
  go_enter Try.func27, Try.ntmps27
  go_wp2
  go_loop [3, 11] (fun z i => ∃ k : Nat, k ≤ ps.length ∧ i = .int .i64 k ∧ z = .int .i64 ((allR (ps.take k)).length : Nat)) (fun _ i => ps.length - (intOf i).toNat)
  case atStart => exact ⟨0, by omega, rfl, rfl⟩
  case round =>
    obtain ⟨k, hk, rfl, rfl⟩ := hrel
    by_cases t : k < ps.length
    · have e0 := hp.cell k t
      have HN := Hid.mk' (allR_next ps k t)
      have hle := allR_le ps (k + 1)
      rw [HN.out, List.length_append] at hle
      generalize ps.getD k zpR = y at HN e0 hle
      have HL := Hid.mk' (show ((allR (ps.take (k + 1))).length : Nat) = (allR (ps.take k)).length + y.l.length by rw [HN.out, List.length_append])
      generalize (allR (ps.take k)).length = z at HL hle ⊢
      go_wp2
      go_round
      case rel => exact ⟨k + 1, by omega, by go_num, by rw [HL.out]; go_num⟩
      case measure => simp [intOf]; omega
    · obtain rfl : k = ps.length := by omega
      rw [List.take_of_length_le (Nat.le_refl _)]
      have N := rgrow_any (allR ps).length w hl
      go_wp2_with fail
      refine N.mono ?_
      rintro e w1 ⟨v1, rfl, hO1, hb1⟩
      have HO1 := Hid.mk' hO1
      have HB1 := Hid.mk' hb1
      clear hO1 hb1 N
      go_wp2_with fail
      go_loopw [6, 27] (fun v i W => ∃ k : Nat, k ≤ ps.length ∧ i = .int .i64 k ∧ Hid (OwnR 34 7 W w.heap.size v (allR (ps.take k)).length ((allR (ps.take k)).flatMap Rc.cells)) ∧ Hid (Below w.heap.size w W)) (fun _ i _ => ps.length - (intOf i).toNat)
      case atStart => exact ⟨0, by omega, rfl, HO1.out, HB1.out⟩
      case round =>
        obtain ⟨k, hk, rfl, HO, HB⟩ := hrel
        by_cases t : k < ps.length
        · have hpk := hp.below HB.out
          have e0 := hpk.cell k t
          have hmem : ps.getD k zpR ∈ ps := by simp [List.getD, t]
          have hfi := hpk.fin _ hmem
          have hni := hpk.nil _ hmem
          have HN := Hid.mk' (allR_next ps k t)
          have hle := allR_le ps (k + 1)
          rw [HN.out, List.length_append] at hle
          generalize ps.getD k zpR = y at HN e0 hle hfi hni
          have HLE := Hid.mk' hle
          clear hpk hmem hle
          go_wp2_with (refine wpList_own rfl (.tmp 31) (.tmp 32) 22 rfl 34 (.agg #[.int .i64 0, .int .i64 0, .int .i64 0, .int .i64 0, .int .i64 0, .bool false, .slice none 0 0]) 7 72 Try.underlying22 infoR rfl (by decide) w.heap.size _ _ _ rfl HO.out HB.out.size y.p y.l.length y.c (y.l.flatMap Rc.cells) rfl hni (flatR_len _) hfi.news (flatR_one _) (by have := HLE.out; unfold maxLen; omega) (by have := HLE.out; omega) ?_)
          intro v2 w2 hO2 hb2
          have HO2 := Hid.mk' hO2
          have HB2 := Hid.mk' (HB.out.trans hb2)
          clear hO2 hb2 HO HB
          go_wp2
          go_roundw
          case rel => exact ⟨k + 1, by omega, by go_num, by rw [HN.out, flatR_append, List.length_append]; exact HO2.out, HB2.out⟩
          case measure => simp [intOf]; omega
        · obtain rfl : k = ps.length := by omega
          rw [List.take_of_length_le (Nat.le_refl _)] at HO
          go_wp2
          go_ret
          exact ⟨_, rfl, HO.out, HB.out⟩
end Go.Proofs.Ytnladolpcocchaa
