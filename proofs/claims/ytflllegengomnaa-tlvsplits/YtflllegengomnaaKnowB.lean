/-
  Package known: numbered, made, Make; the statements' own example.
-/
import Derived.Test.YtflllegengomnaaKnowM
import Derived.Deep.DeepCutAuto
import Derived.Laws.IdiomStrings
namespace Go.Proofs.Ytflllegengomnaa
open Go.RowKit
set_option linter.unusedSimpArgs false
set_option linter.unusedVariables false

/-- v owns a row of the fields L, whose bytes lie elsewhere. -/
structure OwnF (B : Nat) (W : World) (v : Value) (L : List Fd) : Prop where
  own : OwnR 30 2 W B v L.length (L.flatMap Fd.cells)
  oks : ∀ f ∈ L, FOk W f
  off : ∀ f ∈ L, 0 < f.d.length → ∀ a, f.p = some a → v.ownBlock ≠ some a.block

theorem OwnF.nil (B : Nat) (W : World) : OwnF B W (.slice none 0 0) [] := ⟨OwnR.nil _ _ _ _, fun f hf => (by simp at hf), fun f hf => (by simp at hf)⟩

theorem OwnF.on {B : Nat} {W W' : World} {v : Value} {L : List Fd} (h : OwnF B W v L) (k : Below W.heap.size W W') : OwnF B W' v L :=
  ⟨h.own.below k, fun f hf => (h.oks f hf).below k, h.off⟩

theorem FOk.lt {W : World} {f : Fd} (h : FOk W f) (hl : 0 < f.d.length) (a : Addr) (ha : f.p = some a) : a.block < W.heap.size := by
  obtain ⟨b, o, e, hc⟩ := h.bin hl
  rw [ha] at e
  cases e
  exact lt_of_cell (hc 0 hl)

theorem OwnF.add {B : Nat} {W W' : World} {v v' : Value} {L : List Fd} {f : Fd} (h : OwnF B W v L) (hB : B ≤ W.heap.size) (hf : FOk W f) (ho : 0 < f.d.length → ∀ a, f.p = some a → v.ownBlock ≠ some a.block)
    (hA : Appended W 30 2 v L.length (L.flatMap Fd.cells) 1 ([f].flatMap Fd.cells) v' W') : OwnF B W' v' (L ++ [f]) ∧ Below B W W' := by
  obtain ⟨h1, h2⟩ := h.own.next hB hA
  have hall : ∀ g ∈ L ++ [f], FOk W g ∧ (0 < g.d.length → ∀ a, g.p = some a → v.ownBlock ≠ some a.block) := fun g hg => by
    rcases List.mem_append.1 hg with q | q
    · exact ⟨h.oks g q, h.off g q⟩
    · simp at q; subst q; exact ⟨hf, ho⟩
  refine ⟨⟨by rw [List.length_append, flatF_append]; exact h1, fun g hg => (hall g hg).1.fr hA.fr fun hl a ha => (hall g hg).2 hl a ha, fun g hg hl a ha => ?_⟩, h2⟩
  rcases hA.moved with q | ⟨k, hk, hk2⟩
  · rw [q]; exact (hall g hg).2 hl a ha
  · rw [hk]
    have := (hall g hg).1.lt hl a ha
    simp
    omega

/-- 'append(v, y)' of one field that was laid for it. -/
theorem wpList_addN {W : World} {ops : Array Oper} {rest : List Oper} {o : Oper} {ac : Act} {Q : Exit → Act → World → Prop} (hgd : o.guard = none) (s x : Operand)
    (ho : o.op = .call { callee := .builtin .append, args := #[s, x], argTypes := #[22, 22] })
    {B : Nat} {v : Value} {L : List Fd} (hs : ac.eval s = v) (h3 : OwnF B W v L) (hB : B ≤ W.heap.size) (tg : Int) (p : Option Addr) (n cp : Nat) (d : List Int) (hn : d.length = n) (hy : FOk W ⟨tg, p, cp, d⟩) (hoff : 0 < d.length → ∀ a, p = some a → v.ownBlock ≠ some a.block) (hx : ac.eval x = .slice (some ⟨W.heap.size, 0, none⟩) 1 1) (hl : L.length ≤ 1000000)
    (h : ∀ v' w', OwnF B w' v' (L ++ [⟨tg, p, cp, d⟩]) → Below B W w' → wpList Try.prog ops Q rest (ac.put o.dst v') w') : wpList Try.prog ops Q (o :: rest) ac (W.alloc (.cells #[.int .i64 tg, .slice p n cp] 30)) := by
  subst hn
  obtain ⟨y, hyy⟩ : ∃ y : Fd, y = ⟨tg, p, cp, d⟩ := ⟨_, rfl⟩
  rw [← hyy] at hy h
  rw [show W.alloc (.cells #[.int .i64 tg, .slice p d.length cp] 30) = W.alloc (.cells #[.int .i64 y.tag, .slice y.p y.d.length y.cap] 30) by rw [hyy]]
  obtain ⟨i0, hi, hz0, hz1, hz2⟩ := info_parts infoF
  have hb : Below W.heap.size W (W.alloc (.cells #[.int .i64 y.tag, .slice y.p y.d.length y.cap] 30)) := (Below.refl _ _).alloc (Nat.le_refl _) _
  refine wpList_append_fr hgd s x 22 ho 30 i0 _ 2 32 Try.underlying22 hi hz0 hz1 hz2 rfl (by decide) v L.length _ hs (h3.on hb).own.owns (some ⟨W.heap.size, 0, none⟩) 1 1 ([y].flatMap Fd.cells) hx (by simp) (by simp [Fd.cells]) (fun _ => ?_) (flat_one _) (by unfold maxLen; omega) (by omega) fun v' w' hA => ?_
  · refine ⟨_, rfl, fun j u hj => ?_⟩
    have hg := heap_alloc_new W (.cells #[.int .i64 y.tag, .slice y.p y.d.length y.cap] 30)
    rw [Go.WideShapes.add_plain]
    generalize W.alloc (.cells #[.int .i64 y.tag, .slice y.p y.d.length y.cap] 30) = X at hg ⊢
    simp [World.cell?, hg]
    simpa [Fd.cells] using hj
  · obtain ⟨k1, k2⟩ := (h3.on hb).add (f := y) (Nat.le_trans hB hb.size) (hy.below hb) (by rw [hyy]; exact hoff) hA
    exact h v' w' k1 ((hb.mono hB).trans k2)

theorem two_set {w : World} {b : Nat} {x y : Value} {t : TypeId} (h : w.heap[b]? = some (.cells #[x, y] t (0, 0))) (u v : Value) :
    ((w.setCell ⟨b, 0, none⟩ u).setCell ⟨b, 1, none⟩ v).cell? ⟨b, 0, none⟩ = some u ∧ ((w.setCell ⟨b, 0, none⟩ u).setCell ⟨b, 1, none⟩ v).cell? ⟨b, 1, none⟩ = some v := by
  obtain ⟨h0, h1, _, _⟩ := two_cells (set_second (set_first h u) v)
  exact ⟨h0, h1⟩

theorem own_ne {e : TypeId} {size : Nat} {W : World} {B : Nat} {v : Value} {n : Nat} {xs : List Value} (h : OwnR e size W B v n xs) (g : Nat) (hg : W.heap.size ≤ g) : v.ownBlock ≠ some g := fun q => by
  have := (h.owns.lt g q).2
  omega


/-- The fields of a zone, a load and a build. -/
def madeK (z l : Int) (b : List Int) : List Key :=
  (if z = -1 then [] else [(32, digB 1 z)]) ++ (if l = -1 then [] else [(33, digB 2 l)]) ++ (if b = [] then [] else [(34, b)])

theorem Str.empty {s : ByteArray} {l : List Int} (h : Str s l) : s.toList.isEmpty = decide (l = []) := by
  rw [h.str, ByteArray.toList_eq, strOfNums_data]
  cases l <;> simp

/-- A field whose bytes were laid in a new block. -/
theorem FOk.new {W : World} {tg : Int} {g n : Nat} {d : List Int} (ht : (Lit.int .i64 tg).wf = true) (hB : BIn W (some ⟨g, 0, none⟩) d) (hn : d.length = n) (hs : n ≤ 1000) (hb : isB d) : FOk W ⟨tg, some ⟨g, 0, none⟩, n, d⟩ :=
  ⟨ht, by simp [hn], by simp only [maxLen]; omega, by simp, hB, hb, by simp only [hn]; omega⟩

theorem bytesRow_cells (s : ByteArray) (b : List Int) (hs : Str s b) (cap : Nat) : ∃ rest : List Value, bytesRow s cap = (b.map (Value.int .u8) ++ rest).toArray := by
  refine ⟨(Array.replicate (cap - s.size) (Value.int .u8 0)).toList, ?_⟩
  have e : b = numsOf s := by
    have h := hs.uniq (Str.all s)
    simpa using h
  rw [e]
  apply Array.ext'
  simp [bytesRow, numsOf]


/-- What 'Make' answers: why not, or the fields. -/
def makeK (z l : Int) (b : List Int) : Int × List Key :=
  if z < -1 ∨ 255 < z ∨ l < -1 ∨ 65535 < l then (5, []) else if plainL b then (0, madeK z l b) else (4, [])

def MakeP (w : World) (r : Int × List Key) (e : Ending) (w' : World) : Prop := ∃ v L, e = .returned (.tuple #[v, .int .i64 r.1]) ∧ kys L = r.2 ∧ OwnF w.heap.size w' v L ∧ Below w.heap.size w w'

theorem make_no {z l : Int} {b : List Int} (h : z < -1 ∨ 255 < z ∨ l < -1 ∨ 65535 < l) : makeK z l b = (5, []) := if_pos h


end Go.Proofs.Ytflllegengomnaa
