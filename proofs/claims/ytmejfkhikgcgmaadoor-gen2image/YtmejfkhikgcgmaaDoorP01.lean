/-
  What the program's own memory is like: frames, bytes behind a slice, and small facts on lists of bytes. No function of the program is named here.
  What an argument of a call is, as a plain Lean value: shapes, put together type by type, and how a reading of memory opens them.
  Shapes of arguments that hold slices inside: what the reading's reach says of their lengths.
  Rows of whatever type that grow by 'append' in memory of their own. No function of the program is named here.
  Fields and bags as plain Lean values; package bag: Size, tagsMayBe, Valid, Light.
  Orders of lists and pairs, and how two bags stand to each other: no function is named here.
  Package bag: Compare and Same, with cmp.Compare, bytes.Compare, cmp.Or and slices.CompareFunc.
  Bytes that grow by 'append' in memory of their own: an accumulator.
  Rows of fields in memory of their own; package bag: own, Copy, Get, above.
  Package bag: Get, slices.Grow, slices.Concat, Put.
  Package bag: Put.
-/
import Derived.WalkKit
import Derived.Laws.CopyOwn
import Derived.ProofKit
import Derived.OpenShut
import Derived.Deep.Slices
import Derived.Deep.Strs
import Derived.SizedLaws
import Derived.WalkSpells
import Derived.WalkLawsBesides
import Derived.Deep.OwnRows
import Derived.Deep.Draws
import Derived.BigQuiet
import Derived.Test.YtmejfkhikgcgmaaDoorRows
import Derived.Lib.Bytealg
import Derived.Lib.Bytes
import Derived.Lib.BytesEntry
import Derived.Laws.Entries
import Derived.RegionCalls
import Derived.Deep.RegionHeld3
import Derived.Deep.DeepCutAuto
import Derived.Laws.MakeOwn
import Derived.Lib.AppendZerosOnto
import Derived.Lib.Walk
namespace Go.Proofs.YtmejfkhikgcgmaaDoor
open Go.RowKit

/-- Outside the blocks S (and beyond the old blocks) the world w' is as w was. -/
structure Fr (S : Nat → Prop) (w w' : World) : Prop where
  os : w'.os = w.os
  tape : w'.tape = w.tape
  output : w'.output = w.output
  size : w.heap.size ≤ w'.heap.size
  block : ∀ k, k < w.heap.size → ¬ S k → w'.heap[k]? = w.heap[k]?

theorem Fr.refl (S : Nat → Prop) (w : World) : Fr S w w := ⟨rfl, rfl, rfl, Nat.le_refl _, fun _ _ _ => rfl⟩

/-- Two steps: what the second writes is what the first may write, or new. -/
theorem Fr.trans {S S' : Nat → Prop} {a b c : World} (h : Fr S a b) (k : Fr S' b c) (hs : ∀ i, S' i → S i ∨ a.heap.size ≤ i) : Fr S a c :=
  ⟨k.os.trans h.os, k.tape.trans h.tape, k.output.trans h.output, Nat.le_trans h.size k.size, fun i hi hn => by
    rw [k.block i (Nat.lt_of_lt_of_le hi h.size) (fun q => by rcases hs i q with q | q; exact hn q; omega), h.block i hi hn]⟩

theorem Fr.mono {S S' : Nat → Prop} {a b : World} (h : Fr S a b) (hs : ∀ i, i < a.heap.size → S i → S' i) : Fr S' a b :=
  ⟨h.os, h.tape, h.output, h.size, fun i hi hn => h.block i hi (fun q => hn (hs i hi q))⟩

theorem Fr.below {S : Nat → Prop} {B : Nat} {a b : World} (h : Fr S a b) (hs : ∀ i, S i → B ≤ i) (hB : B ≤ a.heap.size) : Below B a b :=
  ⟨h.os, h.tape, h.output, h.size, fun k hk => h.block k (by omega) (fun q => by have := hs k q; omega)⟩

theorem Fr.of_below {a b : World} (h : Below a.heap.size a b) (S : Nat → Prop) : Fr S a b :=
  ⟨h.os, h.tape, h.output, h.size, fun k hk _ => h.block k hk⟩

theorem Fr.alloc {S : Nat → Prop} {a b : World} (h : Fr S a b) (o : Obj) : Fr S a (b.alloc o) :=
  h.trans (S' := S) ⟨rfl, rfl, rfl, by simp, fun k hk _ => Below.heap_alloc _ _ _ hk⟩ fun _ q => .inl q

theorem Fr.setCell {S : Nat → Prop} {a b : World} (h : Fr S a b) {p : Addr} (hp : S p.block ∨ a.heap.size ≤ p.block) (u : Value) : Fr S a (b.setCell p u) :=
  h.trans (S' := fun k => k = p.block) ⟨rfl, rfl, rfl, by simp [World.setCell], fun k _ hn => Below.heap_setCell _ _ _ _ hn⟩ fun i q => by subst q; exact hp

theorem Fr.drew {S : Nat → Prop} {a b : World} (h : Fr S a b) : Fr S a b.drew := ⟨h.os, h.tape, h.output, h.size, h.block⟩

theorem Fr.grown {S : Nat → Prop} {a b c : World} {row : Option Nat} (h : Fr S a b) (hg : b.grownBy c row) (hr : ∀ k, row = some k → S k ∨ a.heap.size ≤ k) : Fr S a c :=
  h.trans (S' := fun k => row = some k) ⟨hg.os, hg.tape, hg.output, hg.size, fun k hk hn => hg.block k hk (fun e => hn e.symm)⟩ fun i q => hr i q

theorem Fr.cell {S : Nat → Prop} {w w' : World} (h : Fr S w w') {p : Addr} (hp : p.block < w.heap.size) (hn : ¬ S p.block) : w'.cell? p = w.cell? p :=
  World.cell?_of_block (w := w) (h.block p.block hp hn)

theorem lt_of_cell {w : World} {p : Addr} {v : Value} (h : w.cell? p = some v) : p.block < w.heap.size := by
  by_cases hb : p.block < w.heap.size
  · exact hb
  · have : w.heap[p.block]? = none := by simp; omega
    simp [World.cell?, this] at h

/-- The slice at p has the bytes l. -/
def BIn (w : World) (p : Option Addr) (l : List Int) : Prop :=
  0 < l.length → ∃ b o, p = some ⟨b, o, none⟩ ∧ ∀ i, i < l.length → w.cell? ⟨b, o + i, none⟩ = some (.int .u8 (l.getD i 0))

/-- Each one is a byte. -/
def isB (l : List Int) : Prop := ∀ x ∈ l, 0 ≤ x ∧ x < 256

theorem isB.getD {l : List Int} (h : isB l) (i : Nat) : 0 ≤ l.getD i 0 ∧ l.getD i 0 < 256 := by
  by_cases hi : i < l.length
  · have := h (l[i]) (List.getElem_mem hi)
    simpa [List.getD, hi] using this
  · simp [List.getD, List.getElem?_eq_none (Nat.le_of_not_lt hi)]

theorem isB.take {l : List Int} (h : isB l) (n : Nat) : isB (l.take n) := fun x hx => h x (List.mem_of_mem_take hx)
theorem isB.drop {l : List Int} (h : isB l) (n : Nat) : isB (l.drop n) := fun x hx => h x (List.mem_of_mem_drop hx)
theorem isB.append {a b : List Int} (ha : isB a) (hb : isB b) : isB (a ++ b) := fun x hx => by
  rcases List.mem_append.1 hx with h | h
  · exact ha x h
  · exact hb x h
theorem isB.nil : isB [] := fun x hx => by simp at hx

theorem BIn.empty (w : World) (p : Option Addr) : BIn w p [] := fun h => absurd h (by simp)

theorem BIn.fr {S : Nat → Prop} {w w' : World} {p : Option Addr} {l : List Int} (h : BIn w p l) (k : Fr S w w') (hn : ∀ a, p = some a → a.block < w.heap.size → ¬ S a.block) : BIn w' p l := fun hl => by
  obtain ⟨b, o, rfl, hc⟩ := h hl
  refine ⟨b, o, rfl, fun i hi => ?_⟩
  have hb : b < w.heap.size := lt_of_cell (hc 0 hl)
  have hnb : ¬ S b := hn ⟨b, o, none⟩ rfl hb
  rw [k.cell (p := ⟨b, o + i, none⟩) hb hnb]
  exact hc i hi

theorem BIn.below {w w' : World} {p : Option Addr} {l : List Int} (h : BIn w p l) (k : Below w.heap.size w w') : BIn w' p l :=
  h.fr (Fr.of_below k fun _ => False) fun _ _ _ q => q

/-- The cells of bytes. -/
def cellsB (l : List Int) : Array Value := (l.map (Value.int .u8)).toArray
theorem cellsB_size (l : List Int) : (cellsB l).size = l.length := by simp [cellsB]

theorem BIn.of_block {w : World} {g : Nat} {e : TypeId} {f : Nat × Nat} {l : List Int} {rest : List Value} (h : w.heap[g]? = some (.cells ((l.map (Value.int .u8) ++ rest).toArray) e f)) : BIn w (some ⟨g, 0, none⟩) l := fun _ => by
  refine ⟨g, 0, rfl, fun i hi => ?_⟩
  simp [World.cell?, h, List.getElem?_append, hi, List.getD]

/-- A cut off the front. -/
theorem BIn.drop {w : World} {b o : Nat} {l : List Int} (h : BIn w (some ⟨b, o, none⟩) l) (n : Nat) : BIn w (some ⟨b, o + n, none⟩) (l.drop n) := fun hl => by
  simp at hl
  obtain ⟨b', o', e, hc⟩ := h (by omega)
  simp at e
  obtain ⟨rfl, rfl⟩ := e
  refine ⟨b, o + n, rfl, fun i hi => ?_⟩
  simp at hi
  rw [Nat.add_assoc, hc (n + i) (by omega)]
  simp [List.getD]

theorem BIn.take {w : World} {p : Option Addr} {l : List Int} (h : BIn w p l) (n : Nat) : BIn w p (l.take n) := fun hl => by
  simp at hl
  obtain ⟨b, o, e, hc⟩ := h (by omega)
  refine ⟨b, o, e, fun i hi => ?_⟩
  simp at hi
  rw [hc i (by omega)]
  have h1 : i < n := by omega
  simp [List.getD, h1]

theorem BIn.cut {w : World} {p : Option Addr} {l : List Int} (h : BIn w p l) (n : Nat) : BIn w (p.map fun x => x.add n) (l.drop n) := fun hl => by
  have hl' : 0 < l.length := by simp at hl; omega
  obtain ⟨b, o, rfl, hc⟩ := h hl'
  have hd := BIn.drop (b := b) (o := o) h n hl
  simpa [Go.WideShapes.add_plain] using hd

/-- 'string(b)'. -/
theorem BIn.convert {P : Program} {w : World} {p : Option Addr} {l : List Int} (h : BIn w p l) (c : Nat) (src e dst : TypeId)
    (hs : P.underlying src = some (.slice e)) (he : P.underlying e = some (.int .u8)) (hd : P.underlying dst = some .string) :
    (convert src dst (.slice p l.length c)).run P w = .ok (.string (strOfNums l)) w := by
  rcases Nat.eq_zero_or_pos l.length with hn | hn
  · obtain rfl : l = [] := List.eq_nil_of_length_eq_zero hn
    rw [run_convert_bytes_string w src dst e _ _ c hs he hd]
    cases p <;> simp [Conv.bytesToString, loadCells]
    all_goals rfl
  · obtain ⟨b, o, rfl, hc⟩ := h hn
    exact run_convert_bytes_arg (P := P) w src e hs he b o _ c l rfl hc dst hd

theorem Hid.mk' {p : Prop} (h : p) : Hid p := h

/-- A block of two cells. -/
theorem two_cells {w : World} {b : Nat} {x y : Value} {t : TypeId} (h : w.heap[b]? = some (.cells #[x, y] t (0, 0))) :
    w.cell? ⟨b, 0, none⟩ = some x ∧ w.cell? ⟨b, 1, none⟩ = some y ∧ w.frozen? ⟨b, 0, none⟩ = false ∧ w.frozen? ⟨b, 1, none⟩ = false := by
  simp [World.cell?, World.frozen?, h]

theorem set_first {w : World} {b : Nat} {x y : Value} {t : TypeId} (h : w.heap[b]? = some (.cells #[x, y] t (0, 0))) (u : Value) :
    (w.setCell ⟨b, 0, none⟩ u).heap[b]? = some (.cells #[u, y] t (0, 0)) := by
  simp [World.setCell, Array.getElem?_modify, h]

theorem set_second {w : World} {b : Nat} {x y : Value} {t : TypeId} (h : w.heap[b]? = some (.cells #[x, y] t (0, 0))) (u : Value) :
    (w.setCell ⟨b, 1, none⟩ u).heap[b]? = some (.cells #[x, u] t (0, 0)) := by
  simp [World.setCell, Array.getElem?_modify, h]

/-- What is owned behind an append lies where it lay, or in a new block. -/
def Moved (w : World) (v v' : Value) : Prop := v'.ownBlock = v.ownBlock ∨ ∃ k, v'.ownBlock = some k ∧ w.heap.size ≤ k

/-- Behind 'append': what is owned, what has turned, where it lies. -/
structure Appended (w : World) (e : TypeId) (size : Nat) (v : Value) (n : Nat) (xs : List Value) (m : Nat) (news : List Value) (v' : Value) (w' : World) : Prop where
  owns : w'.ownsRow 0 e size v' (n + m) (xs ++ news)
  fr : Fr (fun k => v.ownBlock = some k) w w'
  moved : Moved w v v'

/-- The value that owns a row is a slice. -/
theorem owns_slice {w : World} {e : TypeId} {size : Nat} {v : Value} {n : Nat} {xs : List Value} (h : w.ownsRow 0 e size v n xs) : ∃ p c, v = .slice p n c ∧ (p = none → c = 0) ∧ n ≤ c ∧ c ≤ maxLen := by
  rcases h.2 with ⟨rfl, rfl⟩ | ⟨g, cap, cur, rfl, _, _, hnc, hcm, _⟩
  · exact ⟨none, 0, rfl, fun _ => rfl, Nat.le_refl _, by simp [maxLen]⟩
  · exact ⟨_, cap, rfl, by simp, hnc, hcm⟩

section
variable {P : Program}

/-- 'append(v, x...)', v owned, x wherever it lies (nil too): what is owned then, where, and what else has turned. -/
theorem run_append_fr (w : World) (t ty e : TypeId) (i : TypeInfo) (z : Value) (size bytes : Nat) (ht : P.underlying t = some (.slice e)) (hi : P.info? e = some i) (hz : i.zero = some z)
    (hsize : i.size = size) (hby : i.bytes = bytes) (hzs : z.cells.size = size) (hsz : 0 < size)
    (v : Value) (n : Nat) (xs : List Value) (hown : w.ownsRow 0 e size v n xs)
    (p : Option Addr) (m c : Nat) (hp0 : p = none → c = 0) (news : List Value) (hl : news.length = m * size) (hnews : 0 < m → ∃ a, p = some a ∧ ∀ j u, news[j]? = some u → w.cell? (a.add j) = some u) (h1 : ∀ u ∈ news, u.oneCell' = true)
    (h63 : n + m ≤ maxLen) (hbytes : (n + m) * bytes ≤ 140737488355328) :
    ∃ v' w', (Builtin.append_ #[t, t] ty #[v, .slice p m c]).run P w = .ok v' w' ∧ w'.ownsRow 0 e size v' (n + m) (xs ++ news) ∧ Fr (fun k => v.ownBlock = some k) w w' ∧ Moved w v v' := by
  cases p with
  | none =>
    obtain rfl := hp0 rfl
    have hm : m = 0 := by
      rcases Nat.eq_zero_or_pos m with h | h
      · exact h
      · obtain ⟨a, ha, _⟩ := hnews h; cases ha
    subst hm
    obtain rfl : news = [] := List.eq_nil_of_length_eq_zero (by simpa using hl)
    exact ⟨v, w, run_append_owned_none w 0 t ty e i size ht hi v n xs hown, by simpa using hown, Fr.refl _ _, .inl rfl⟩
  | some a =>
    have hn : ∀ j u, news[j]? = some u → w.cell? (a.add j) = some u := by
      rcases Nat.eq_zero_or_pos m with h | h
      · subst h
        obtain rfl : news = [] := List.eq_nil_of_length_eq_zero (by simpa using hl)
        simp
      · obtain ⟨a', ha, hh⟩ := hnews h
        cases ha
        exact hh
    obtain ⟨v', w', hr, ho, hg, _⟩ := run_append_own (P := P) w 0 t ty e i z size bytes ht hi hz hsize hby hzs hsz v n xs hown a m c news hl hn h1 h63 hbytes (Nat.zero_le _)
    refine ⟨v', w', hr, ho, ⟨hg.os, hg.tape, hg.output, hg.size, fun k hk hne => hg.block k hk fun q => hne q.symm⟩, ?_⟩
    rcases hown.2 with ⟨rfl, rfl⟩ | ⟨g, cap, cur, rfl, _, hgg, hnc, hcm, hcs, htake⟩
    · have hx : xs = [] := List.eq_nil_of_length_eq_zero (by simpa using hown.1)
      subst hx
      obtain ⟨v2, w2, hr2, ho2, _, _⟩ := run_append_own (P := P) w w.heap.size t ty e i z size bytes ht hi hz hsize hby hzs hsz _ 0 [] (World.ownsRow_nil _ _ _ _) a m c news hl hn h1 h63 hbytes (Nat.le_refl _)
      rw [hr] at hr2
      simp at hr2
      obtain ⟨rfl, rfl⟩ := hr2
      rcases ho2.2 with ⟨rfl, _⟩ | ⟨g, cap, cur, rfl, hb, _⟩
      · exact .inl rfl
      · exact .inr ⟨g, rfl, hb⟩
    · by_cases hroom : n + m ≤ cap
      · have hr2 := run_append_room (P := P) w t ty e i ht hi g n cap cur hgg a m c news (by rw [hsize]; exact hl) hn h1 hroom (by rw [hsize, hl, hcs, ← Nat.add_mul]; exact Nat.mul_le_mul_right _ hroom)
        rw [hr] at hr2
        simp at hr2
        obtain ⟨rfl, _⟩ := hr2
        exact .inl rfl
      · have holds : ∀ j u, xs[j]? = some u → w.cell? ((⟨g, 0, none⟩ : Addr).add j) = some u := hown.cells (g := g) rfl
        have hr2 := run_append_grow (P := P) w t ty e i z ht hi hz ⟨g, 0, none⟩ n cap xs (by rw [hsize]; exact hown.1) holds a m c news (by rw [hsize]; exact hl) hn (by omega) (by simp only [maxLen] at h63; omega) (by rw [hby]; exact growslice_fits (by omega) hbytes)
        rw [hr] at hr2
        simp at hr2
        obtain ⟨rfl, _⟩ := hr2
        exact .inr ⟨_, rfl, Nat.le_refl _⟩

theorem wpList_append_fr {w : World} {ops : Array Oper} {rest : List Oper} {o : Oper} {a : Act} {Q : Exit → Act → World → Prop} (hgd : o.guard = none) (s x : Operand) (t : TypeId)
    (ho : o.op = .call { callee := .builtin .append, args := #[s, x], argTypes := #[t, t] })
    (e : TypeId) (i : TypeInfo) (z : Value) (size bytes : Nat) (ht : P.underlying t = some (.slice e)) (hi : P.info? e = some i) (hz : i.zero = some z)
    (hsize : i.size = size) (hby : i.bytes = bytes) (hzs : z.cells.size = size) (hsz : 0 < size)
    (v : Value) (n : Nat) (xs : List Value) (hs : a.eval s = v) (hown : w.ownsRow 0 e size v n xs)
    (p : Option Addr) (m c : Nat) (news : List Value) (hx : a.eval x = .slice p m c) (hp0 : p = none → c = 0) (hl : news.length = m * size) (hnews : 0 < m → ∃ a, p = some a ∧ ∀ j u, news[j]? = some u → w.cell? (a.add j) = some u) (h1 : ∀ u ∈ news, u.oneCell' = true)
    (h63 : n + m ≤ maxLen) (hbytes : (n + m) * bytes ≤ 140737488355328)
    (h : ∀ v' w', Appended w e size v n xs m news v' w' → wpList P ops Q rest (a.put o.dst v') w') : wpList P ops Q (o :: rest) a w := by
  refine wpList_plain hgd fun K hK => ?_
  obtain ⟨v', w', hr, h2, h3, h4⟩ := run_append_fr (P := P) w t o.type e i z size bytes ht hi hz hsize hby hzs hsz v n xs hown p m c hp0 news hl hnews h1 h63 hbytes
  unfold Oper.wp execOp
  simp only [ho, resolve, invoke, builtin, Sem.run_bind, Sem.run_pure, Result.andThen_ok, List.map_toArray, List.map_cons, List.map_nil, hs, hx, hr]
  exact hK _ _ (h v' w' ⟨h2, h3, h4⟩)

/-- The same as one step of a region that draws its order. -/
theorem step_append_fr {w : World} {ops : Array Oper} {o : Oper} {a : Act} {K : Act → World → Prop} {Q : Exit → Act → World → Prop} {E : Prop} (hgd : o.guard = none) (s x : Operand) (t : TypeId)
    (ho : o.op = .call { callee := .builtin .append, args := #[s, x], argTypes := #[t, t] })
    (e : TypeId) (i : TypeInfo) (z : Value) (size bytes : Nat) (ht : P.underlying t = some (.slice e)) (hi : P.info? e = some i) (hz : i.zero = some z)
    (hsize : i.size = size) (hby : i.bytes = bytes) (hzs : z.cells.size = size) (hsz : 0 < size)
    (v : Value) (n : Nat) (xs : List Value) (hs : a.eval s = v) (hown : w.ownsRow 0 e size v n xs)
    (p : Option Addr) (m c : Nat) (news : List Value) (hx : a.eval x = .slice p m c) (hp0 : p = none → c = 0) (hl : news.length = m * size) (hnews : 0 < m → ∃ a, p = some a ∧ ∀ j u, news[j]? = some u → w.cell? (a.add j) = some u) (h1 : ∀ u ∈ news, u.oneCell' = true)
    (h63 : n + m ≤ maxLen) (hbytes : (n + m) * bytes ≤ 140737488355328)
    (h : ∀ v' w', Appended w e size v n xs m news v' w' → K (a.put o.dst v') w') : if Region.wanted o (yielded ops a.tmps) = true then Oper.wp P o a w K Q else E := by
  have hw : Region.wanted o (yielded ops a.tmps) = true := by simp [Region.wanted, hgd]
  rw [if_pos hw]
  obtain ⟨v', w', hr, h2, h3, h4⟩ := run_append_fr (P := P) w t o.type e i z size bytes ht hi hz hsize hby hzs hsz v n xs hown p m c hp0 news hl hnews h1 h63 hbytes
  unfold Oper.wp execOp
  simp only [ho, resolve, invoke, builtin, Sem.run_bind, Sem.run_pure, Result.andThen_ok, List.map_toArray, List.map_cons, List.map_nil, hs, hx, hr]
  exact h v' w' ⟨h2, h3, h4⟩
end

/-- A row that is owned stays so where its block is not written. -/
theorem owns_fr {S : Nat → Prop} {w w' : World} {e : TypeId} {size : Nat} {v : Value} {n : Nat} {xs : List Value} (h : w.ownsRow 0 e size v n xs) (k : Fr S w w') (hn : ∀ g, v.ownBlock = some g → ¬ S g) : w'.ownsRow 0 e size v n xs := by
  refine ⟨h.1, ?_⟩
  rcases h.2 with q | ⟨g, cap, cur, rfl, hb, hg, rest⟩
  · exact .inl q
  · refine .inr ⟨g, cap, cur, rfl, hb, ?_, rest⟩
    rw [k.block g (Array.getElem?_eq_some_iff.1 hg).1 (hn g rfl)]
    exact hg

/-- What is owned, as bytes. -/
theorem owns_BIn {w : World} {e : TypeId} {v : Value} {l : List Int} (h : w.ownsRow 0 e 1 v l.length (l.map (Value.int .u8))) : ∃ p c, v = .slice p l.length c ∧ BIn w p l ∧ (p = none → c = 0) ∧ l.length ≤ c ∧ c ≤ maxLen ∧ v.ownBlock = p.map (·.block) := by
  rcases h.2 with ⟨rfl, h0⟩ | ⟨g, cap, cur, rfl, _, hg, hnc, hcm, hcs, ht⟩
  · obtain rfl : l = [] := List.eq_nil_of_length_eq_zero h0
    exact ⟨none, 0, rfl, BIn.empty _ _, fun _ => rfl, Nat.le_refl _, by simp [maxLen], rfl⟩
  · refine ⟨_, _, rfl, ?_, by simp, hnc, hcm, rfl⟩
    refine BIn.of_block (rest := cur.toList.drop l.length) (e := e) (f := (0, 0)) ?_
    rw [← ht, Nat.mul_one, List.take_append_drop]
    simpa using hg

/-- What 'append' asks of its source. -/
theorem BIn.news {w : World} {p : Option Addr} {l : List Int} (h : BIn w p l) : 0 < l.length → ∃ a, p = some a ∧ ∀ j u, (l.map (Value.int .u8))[j]? = some u → w.cell? (a.add j) = some u := by
  intro hl
  obtain ⟨b, o, rfl, hc⟩ := h hl
  refine ⟨_, rfl, fun j u hj => ?_⟩
  simp at hj
  obtain ⟨x, hx, rfl⟩ := hj
  have hj : j < l.length := by
    by_cases hh : j < l.length
    · exact hh
    · simp [List.getElem?_eq_none (Nat.le_of_not_lt hh)] at hx
  rw [Go.WideShapes.add_plain, hc j hj]
  simp [List.getD, hx]

theorem oneCells (l : List Int) : ∀ v ∈ l.map (Value.int .u8), v.oneCell' = true := by
  intro v hv; simp at hv; obtain ⟨x, _, rfl⟩ := hv; rfl

theorem str_inj (a b : List Int) (ha : isB a) (hb : isB b) : ((strOfNums a).toList == (strOfNums b).toList) = decide (a = b) := by
  rw [ByteArray.toList_eq, ByteArray.toList_eq, strOfNums_data, strOfNums_data, Bool.eq_iff_iff]
  simp
  constructor
  · intro h
    have hl : a.length = b.length := by simpa using congrArg List.length h
    apply List.ext_getElem hl
    intro i h1 h2
    have h3 := congrArg (fun l => l[i]?) h
    simp [h1, h2] at h3
    have h4 := congrArg UInt8.toNat h3
    have ha' := ha a[i] (List.getElem_mem h1)
    have hb' := hb b[i] (List.getElem_mem h2)
    simp [UInt8.toNat_ofNat'] at h4
    omega
  · rintro rfl; rfl

end Go.Proofs.YtmejfkhikgcgmaaDoor
namespace Go.Proofs.YtmejfkhikgcgmaaDoor
open Go.RowKit Go.ChangeShapes Go.WideShapes
set_option linter.unusedSimpArgs false
set_option linter.unusedVariables false
set_option maxRecDepth 10000

/-- Which cells are which value, in a world. -/
abbrev Sh (α : Type) := World → List Value → α → Prop

def shInt (k : IntKind) : Sh Int := fun _ cs n => cs = [.int k n] ∧ (Lit.int k n).wf = true
def shBool : Sh Bool := fun _ cs b => cs = [.bool b]
def shStr : Sh ByteArray := fun _ cs s => cs = [.string s] ∧ s.size ≤ maxLen
def shTwo {α β : Type} (E : Sh α) (F : Sh β) : Sh (α × β) := fun w cs x => ∃ a b, cs = a ++ b ∧ E w a x.1 ∧ F w b x.2

/-- The elements of a slice, 'size' cells each. -/
def LIn {α : Type} (w : World) (p : Option Addr) (size : Nat) (E : Sh α) (l : List α) : Prop :=
  0 < l.length → ∃ b o, p = some ⟨b, o, none⟩ ∧ ∀ i (h : i < l.length), ∃ cs, cs.length = size ∧ (∀ j, j < size → w.cell? ⟨b, o + i * size + j, none⟩ = cs[j]?) ∧ E w cs l[i]

def shSlice {α : Type} (size : Nat) (E : Sh α) : Sh (List α) := fun w cs l => ∃ p cap, cs = [.slice p l.length cap] ∧ l.length ≤ cap ∧ cap ≤ maxLen ∧ (p = none → cap = 0) ∧ LIn w p size E l

theorem LIn.empty {α : Type} (w : World) (p : Option Addr) (size : Nat) (E : Sh α) : LIn w p size E [] := fun h => absurd h (by simp)

section
variable {H : Type} {enc : TypeId × Value → H} {P : Program} {w : World} {base : Nat} {spare : Nat → Bool} {held : Bool}

/-- Whatever reads by the type t has the shape E. -/
def Opens {α : Type} (enc : TypeId × Value → H) (P : Program) (w : World) (base : Nat) (spare : Nat → Bool) (held : Bool) (t : TypeId) (E : Sh α) : Prop :=
  ∀ fuel cs x, DataW.trod enc P w base spare held fuel t cs = some x → ∃ a, E w cs a

theorem opens_int {t : TypeId} {k : IntKind} (ht : P.underlying t = some (.int k)) : Opens enc P w base spare held t (shInt k) := fun _ _ _ h => by
  obtain ⟨n, h1, _, h3⟩ := DataW.trod_int ht h
  exact ⟨n, h1, h3⟩

theorem opens_bool {t : TypeId} (ht : P.underlying t = some .bool) : Opens enc P w base spare held t shBool := fun _ _ _ h => by
  obtain ⟨b, h1, _⟩ := DataW.trod_bool ht h
  exact ⟨b, h1⟩

theorem opens_str {t : TypeId} (ht : P.underlying t = some .string) : Opens enc P w base spare held t shStr := fun _ _ _ h => by
  obtain ⟨s, h1, _, h3⟩ := DataW.trod_string ht h
  exact ⟨s, h1, h3⟩

theorem opens_slice {α : Type} [Inhabited α] {t e : TypeId} {size : Nat} {E : Sh α} (ht : P.underlying t = some (.slice e)) (hs : P.cellsOf e = size) (h0 : 0 < size) (hE : Opens enc P w base spare held e E) : Opens enc P w base spare held t (shSlice size E) := fun _ _ _ h => by
  rcases Go.Deep.open_slice ht h with ⟨rfl, _⟩ | ⟨a, len, cap, m, n, D, Pl, rfl, hb, hl, hm, hmm, rfl, hx⟩
  · exact ⟨[], none, 0, rfl, Nat.le_refl _, by simp [maxLen], fun _ => rfl, LIn.empty _ _ _ _⟩
  · have hlm : len ≤ m := by rw [hmm]; split <;> omega
    have each : ∀ i, i < len → ∃ q : α, ∃ cs, cs.length = size ∧ (∀ j, j < size → w.cell? (a.add (i * size + j)) = cs[j]?) ∧ E w cs q := by
      intro i hi
      obtain ⟨cs', h1, h2⟩ := hx i (by omega)
      obtain ⟨q, hq⟩ := hE _ _ _ h2
      rw [hs] at h1
      obtain ⟨_, hlen, hcell⟩ := World.cells?_some h1
      exact ⟨q, cs', hlen, fun j hj => by rw [← Go.Deep.add_add]; exact hcell j hj, hq⟩
    obtain ⟨f, hf⟩ := Go.Deep.choose_lt each
    refine ⟨(List.range len).map f, some a, cap, by simp, by simpa using hl, hm, by simp, fun hpos => ?_⟩
    have hpos' : 0 < len := by simpa using hpos
    obtain ⟨b, o, s⟩ := a
    obtain rfl : s = none := by
      obtain ⟨cs, hcl, hc, _⟩ := hf 0 hpos'
      have h1 := hc 0 h0
      have h2 : cs[0]? = some cs[0] := by simp
      rw [h2] at h1
      simpa [Addr.add] using World.cell?_spot h1
    refine ⟨b, o, rfl, fun i hi => ?_⟩
    have hi' : i < len := by simpa using hi
    obtain ⟨cs, hcl, hc, hq⟩ := hf i hi'
    refine ⟨cs, hcl, fun j hj => ?_, by simpa using hq⟩
    rw [Nat.add_assoc, ← Go.WideShapes.add_plain]
    exact hc j hj

theorem opens_struct2 {α β : Type} {t : TypeId} {f0 f1 : Field} {E : Sh α} {F : Sh β} (ht : P.underlying t = some (.struct #[f0, f1])) (o0 : f0.offset = 0) (o1 : f1.offset = P.cellsOf f0.type) (o2 : P.cellsOf t = P.cellsOf f0.type + P.cellsOf f1.type)
    (hE : Opens enc P w base spare held f0.type E) (hF : Opens enc P w base spare held f1.type F) : Opens enc P w base spare held t (shTwo E F) := fun _ cs _ h => by
  obtain ⟨y0, y1, n, _, hl, h0, h1⟩ := trod_struct2 ht h
  obtain ⟨a, ha⟩ := hE _ _ _ h0
  obtain ⟨b, hb⟩ := hF _ _ _ h1
  rw [o0, List.drop_zero] at ha
  rw [o1, List.take_of_length_le (by simp; omega)] at hb
  exact ⟨(a, b), _, _, (List.take_append_drop (P.cellsOf f0.type) cs).symm, ha, hb⟩

theorem opens_struct3 {α β γ : Type} {t : TypeId} {f0 f1 f2 : Field} {E : Sh α} {F : Sh β} {G : Sh γ} (ht : P.underlying t = some (.struct #[f0, f1, f2])) (o0 : f0.offset = 0) (o1 : f1.offset = P.cellsOf f0.type) (o2 : f2.offset = P.cellsOf f0.type + P.cellsOf f1.type)
    (o3 : P.cellsOf t = P.cellsOf f0.type + P.cellsOf f1.type + P.cellsOf f2.type)
    (hE : Opens enc P w base spare held f0.type E) (hF : Opens enc P w base spare held f1.type F) (hG : Opens enc P w base spare held f2.type G) : Opens enc P w base spare held t (shTwo E (shTwo F G)) := fun _ cs _ h => by
  obtain ⟨y0, y1, y2, n, _, hl, h0, h1, h2⟩ := Go.Deep.trod_struct3 ht h
  obtain ⟨a, ha⟩ := hE _ _ _ h0
  obtain ⟨b, hb⟩ := hF _ _ _ h1
  obtain ⟨c, hc⟩ := hG _ _ _ h2
  rw [o0, List.drop_zero] at ha
  rw [o1] at hb
  rw [o2, List.take_of_length_le (by simp; omega)] at hc
  refine ⟨(a, b, c), _, _, (List.take_append_drop (P.cellsOf f0.type) cs).symm, ha, _, _, (List.take_append_drop (P.cellsOf f1.type) (cs.drop (P.cellsOf f0.type))).symm, hb, ?_⟩
  rw [List.drop_drop]
  exact hc
end

/-- The bytes of a shape. -/
theorem LIn.bytes {w : World} {p : Option Addr} {l : List Int} (h : LIn w p 1 (shInt .u8) l) : BIn w p l := fun hl => by
  obtain ⟨b, o, rfl, hc⟩ := h hl
  refine ⟨b, o, rfl, fun i hi => ?_⟩
  obtain ⟨cs, _, h1, rfl, _⟩ := hc i hi
  have := h1 0 (by omega)
  simpa [List.getD, hi] using this

theorem LIn.isB {w : World} {p : Option Addr} {l : List Int} (h : LIn w p 1 (shInt .u8) l) : isB l := fun x hx => by
  obtain ⟨i, hi, rfl⟩ := List.getElem_of_mem hx
  obtain ⟨b, o, rfl, hc⟩ := h (by omega)
  obtain ⟨cs, _, _, _, hw⟩ := hc i hi
  have := bounds_u8 hw
  omega

end Go.Proofs.YtmejfkhikgcgmaaDoor
namespace Go.Proofs.YtmejfkhikgcgmaaDoor
open Go.RowKit Go.ChangeShapes Go.WideShapes
set_option linter.unusedSimpArgs false
set_option linter.unusedVariables false
set_option maxRecDepth 10000

section
variable {H : Type} {enc : TypeId × Value → H} {P : Program} {w : World} {base : Nat} {spare : Nat → Bool} {held : Bool}

/-- Whatever reads by the type t, and weighs no more than may be, has the shape E. -/
def OpensZ {α : Type} (enc : TypeId × Value → H) (P : Program) (w : World) (base : Nat) (spare : Nat → Bool) (held : Bool) (t : TypeId) (E : Sh α) : Prop :=
  ∀ fuel cs x, DataW.trod enc P w base spare held fuel t cs = some x → (∀ n ∈ x.1.weights P t, n ≤ reachBytes) → ∃ a, E w cs a

theorem Opens.z {α : Type} {t : TypeId} {E : Sh α} (h : Opens enc P w base spare held t E) : OpensZ enc P w base spare held t E := fun fuel cs x hx _ => h fuel cs x hx

theorem weightsAll_mem {e : TypeId} {d : DataW H} {n : Nat} : ∀ {l : List (DataW H)}, d ∈ l → n ∈ d.weights P e → n ∈ DataW.weightsAll P e l
  | x :: l, hd, hn => by
    simp only [DataW.weightsAll, List.mem_append]
    rcases List.mem_cons.1 hd with rfl | q
    · exact .inl hn
    · exact .inr (weightsAll_mem q hn)

def shSliceZ {α : Type} (size bytes : Nat) (E : Sh α) : Sh (List α) := fun w cs l => ∃ p cap, cs = [.slice p l.length cap] ∧ l.length ≤ cap ∧ cap ≤ maxLen ∧ (p = none → cap = 0) ∧ l.length * bytes ≤ reachBytes ∧ LIn w p size E l

theorem opensZ_slice {α : Type} [Inhabited α] {t e : TypeId} {size bytes : Nat} {E : Sh α} (ht : P.underlying t = some (.slice e)) (hs : P.cellsOf e = size) (hby : P.bytesOf e = bytes) (h0 : 0 < size) (hE : OpensZ enc P w base spare held e E) : OpensZ enc P w base spare held t (shSliceZ size bytes E) := fun _ _ _ h hz => by
  rcases Go.Deep.open_slice ht h with ⟨rfl, _⟩ | ⟨a, len, cap, m, n, D, Pl, rfl, hb, hl, hm, hmm, rfl, hx⟩
  · exact ⟨[], none, 0, rfl, Nat.le_refl _, by simp [maxLen], fun _ => rfl, by simp [reachBytes], LIn.empty _ _ _ _⟩
  · have hlm : len ≤ m := by rw [hmm]; split <;> omega
    simp only [DataW.weights, ht, List.mem_cons, List.mem_append] at hz
    have hlen : len * bytes ≤ reachBytes := by
      have := hz _ (.inl rfl)
      rw [hby] at this
      simp only [List.length_map, List.length_range] at this
      exact Nat.le_trans (Nat.mul_le_mul_right _ (by omega)) this
    have each : ∀ i, i < len → ∃ q : α, ∃ cs, cs.length = size ∧ (∀ j, j < size → w.cell? (a.add (i * size + j)) = cs[j]?) ∧ E w cs q := by
      intro i hi
      obtain ⟨cs', h1, h2⟩ := hx i (by omega)
      obtain ⟨q, hq⟩ := hE _ _ _ h2 (fun n hn => hz n (.inr (.inl (weightsAll_mem (List.mem_map.2 ⟨i, by simpa using hi, rfl⟩) hn))))
      rw [hs] at h1
      obtain ⟨_, hlen, hcell⟩ := World.cells?_some h1
      exact ⟨q, cs', hlen, fun j hj => by rw [← Go.Deep.add_add]; exact hcell j hj, hq⟩
    obtain ⟨f, hf⟩ := Go.Deep.choose_lt each
    refine ⟨(List.range len).map f, some a, cap, by simp, by simpa using hl, hm, by simp, by simpa using hlen, fun hpos => ?_⟩
    have hpos' : 0 < len := by simpa using hpos
    obtain ⟨b, o, s⟩ := a
    obtain rfl : s = none := by
      obtain ⟨cs, hcl, hc, _⟩ := hf 0 hpos'
      have h1 := hc 0 h0
      have h2 : cs[0]? = some cs[0] := by simp
      rw [h2] at h1
      simpa [Addr.add] using World.cell?_spot h1
    refine ⟨b, o, rfl, fun i hi => ?_⟩
    have hi' : i < len := by simpa using hi
    obtain ⟨cs, hcl, hc, hq⟩ := hf i hi'
    refine ⟨cs, hcl, fun j hj => ?_, by simpa using hq⟩
    rw [Nat.add_assoc, ← Go.WideShapes.add_plain]
    exact hc j hj

theorem opensZ_struct2 {α β : Type} {t : TypeId} {f0 f1 : Field} {E : Sh α} {F : Sh β} (ht : P.underlying t = some (.struct #[f0, f1])) (o0 : f0.offset = 0) (o1 : f1.offset = P.cellsOf f0.type) (o2 : P.cellsOf t = P.cellsOf f0.type + P.cellsOf f1.type)
    (hE : OpensZ enc P w base spare held f0.type E) (hF : OpensZ enc P w base spare held f1.type F) : OpensZ enc P w base spare held t (shTwo E F) := fun _ cs x h hz => by
  obtain ⟨y0, y1, n, rfl, hl, h0, h1⟩ := trod_struct2 ht h
  simp only [DataW.weights, ht, List.map_cons, List.map_nil, DataW.weightsEach, List.mem_append] at hz
  obtain ⟨a, ha⟩ := hE _ _ _ h0 (fun n hn => hz n (by simp [DataW.weightsEach, hn]))
  obtain ⟨b, hb⟩ := hF _ _ _ h1 (fun n hn => hz n (by simp [DataW.weightsEach, hn]))
  rw [o0, List.drop_zero] at ha
  rw [o1, List.take_of_length_le (by simp; omega)] at hb
  exact ⟨(a, b), _, _, (List.take_append_drop (P.cellsOf f0.type) cs).symm, ha, hb⟩
end
end Go.Proofs.YtmejfkhikgcgmaaDoor
namespace Go.Proofs.YtmejfkhikgcgmaaDoor
open Go.RowKit
set_option linter.unusedSimpArgs false
set_option linter.unusedVariables false
set_option maxRecDepth 10000

theorem bel_drewN {B : Nat} {a b : World} (h : Below B a b) (n : Nat) : Below B a (b.drewN n) := ⟨h.os, h.tape, h.output, h.size, h.block⟩

/-- v owns a row of n elements of the type e, 'size' cells each, which are xs; it lies from block B on. -/
structure OwnR (e : TypeId) (size : Nat) (w : World) (B : Nat) (v : Value) (n : Nat) (xs : List Value) : Prop where
  owns : w.ownsRow 0 e size v n xs
  above : ∀ k, v.ownBlock = some k → B ≤ k

section
variable {e : TypeId} {size : Nat} {w w' : World} {B : Nat} {v v' : Value} {n m : Nat} {xs news : List Value}

theorem OwnR.nil (e : TypeId) (size : Nat) (w : World) (B : Nat) : OwnR e size w B (.slice none 0 0) 0 [] := ⟨World.ownsRow_nil _ _ _ _, fun k hk => by cases hk⟩

theorem OwnR.fr {S : Nat → Prop} (h : OwnR e size w B v n xs) (k : Fr S w w') (hn : ∀ g, v.ownBlock = some g → ¬ S g) : OwnR e size w' B v n xs := ⟨owns_fr h.owns k hn, h.above⟩

theorem OwnR.below (h : OwnR e size w B v n xs) (k : Below w.heap.size w w') : OwnR e size w' B v n xs :=
  h.fr (Fr.of_below k fun _ => False) fun _ _ q => q

theorem OwnR.slice (h : OwnR e size w B v n xs) : ∃ p c, v = .slice p n c ∧ (p = none → c = 0) ∧ n ≤ c ∧ c ≤ maxLen ∧ (0 < n → ∃ g, p = some ⟨g, 0, none⟩ ∧ B ≤ g ∧ ∀ j u, xs[j]? = some u → w.cell? ⟨g, j, none⟩ = some u) := by
  obtain ⟨h1, h2⟩ := h
  rcases h1.2 with ⟨rfl, h0⟩ | ⟨g, cap, cur, rfl, hb, hg, hnc, hcm, hcs, ht⟩
  · subst h0
    exact ⟨none, 0, rfl, fun _ => rfl, Nat.le_refl _, by simp [maxLen], fun q => absurd q (by omega)⟩
  · refine ⟨_, _, rfl, by simp, hnc, hcm, fun _ => ⟨g, rfl, h2 g rfl, fun j u hj => ?_⟩⟩
    have := h1.cells (g := g) rfl j u hj
    simpa [Go.WideShapes.add_plain] using this

/-- Behind an append. -/
theorem OwnR.next (h : OwnR e size w B v n xs) (hB : B ≤ w.heap.size) (hA : Appended w e size v n xs m news v' w') : OwnR e size w' B v' (n + m) (xs ++ news) ∧ Below B w w' := by
  refine ⟨⟨hA.owns, fun k hk => ?_⟩, hA.fr.below (fun i q => h.above i q) hB⟩
  rcases hA.moved with q | ⟨g, hg, hg2⟩
  · rw [q] at hk; exact h.above k hk
  · rw [hg] at hk; cases hk; omega
end

section
variable {P : Program}
/-- 'append(v, x...)' in a walk: x is a row that lies wherever. -/
theorem wpList_own {w : World} {ops : Array Oper} {rest : List Oper} {o : Oper} {a : Act} {Q : Exit → Act → World → Prop} (hgd : o.guard = none) (s x : Operand) (t : TypeId)
    (ho : o.op = .call { callee := .builtin .append, args := #[s, x], argTypes := #[t, t] })
    (e : TypeId) (z : Value) (size bytes : Nat) (ht : P.underlying t = some (.slice e)) (hinfo : (P.info? e).map (fun i => (i.zero, i.size, i.bytes)) = some (some z, size, bytes)) (hzs : z.cells.size = size) (hsz : 0 < size)
    (B : Nat) (v : Value) (n : Nat) (xs : List Value) (hs : a.eval s = v) (hown : OwnR e size w B v n xs) (hB : B ≤ w.heap.size)
    (p : Option Addr) (m c : Nat) (news : List Value) (hx : a.eval x = .slice p m c) (hp0 : p = none → c = 0) (hl : news.length = m * size) (hnews : 0 < m → ∃ a, p = some a ∧ ∀ j u, news[j]? = some u → w.cell? (a.add j) = some u) (h1 : ∀ u ∈ news, u.oneCell' = true)
    (h63 : n + m ≤ maxLen) (hbytes : (n + m) * bytes ≤ 140737488355328)
    (h : ∀ v' w', OwnR e size w' B v' (n + m) (xs ++ news) → Below B w w' → wpList P ops Q rest (a.put o.dst v') w') : wpList P ops Q (o :: rest) a w := by
  obtain ⟨i0, hi, hz0, hz1, hz2⟩ := info_parts hinfo
  exact wpList_append_fr hgd s x t ho e i0 z size bytes ht hi hz0 hz1 hz2 hzs hsz v n xs hs hown.owns p m c news hx hp0 hl hnews h1 h63 hbytes
    fun v' w' hA => h v' w' (hown.next hB hA).1 (hown.next hB hA).2

/-- 'append(v, x)' of one element that was laid for it. -/
theorem wpList_own1 {w : World} {ops : Array Oper} {rest : List Oper} {o : Oper} {a : Act} {Q : Exit → Act → World → Prop} (hgd : o.guard = none) (s x : Operand) (t : TypeId)
    (ho : o.op = .call { callee := .builtin .append, args := #[s, x], argTypes := #[t, t] })
    (e : TypeId) (z : Value) (size bytes : Nat) (ht : P.underlying t = some (.slice e)) (hinfo : (P.info? e).map (fun i => (i.zero, i.size, i.bytes)) = some (some z, size, bytes)) (hzs : z.cells.size = size) (hsz : 0 < size)
    (B : Nat) (v : Value) (n : Nat) (xs : List Value) (hs : a.eval s = v) (hown : OwnR e size w B v n xs) (hB : B ≤ w.heap.size)
    (news : Array Value) (u : TypeId) (hx : a.eval x = .slice (some ⟨w.heap.size, 0, none⟩) 1 1) (hl : news.size = size) (h1 : ∀ u ∈ news, u.oneCell' = true)
    (h63 : n + 1 ≤ maxLen) (hbytes : (n + 1) * bytes ≤ 140737488355328)
    (h : ∀ v' w', OwnR e size w' B v' (n + 1) (xs ++ news.toList) → Below B w w' → wpList P ops Q rest (a.put o.dst v') w') : wpList P ops Q (o :: rest) a (w.alloc (.cells news u)) := by
  have b : Below w.heap.size w (w.alloc (.cells news u)) := (Below.refl _ _).alloc (Nat.le_refl _) _
  refine wpList_own hgd s x t ho e z size bytes ht hinfo hzs hsz B v n xs hs (hown.below b) (Nat.le_trans hB b.size) (some ⟨w.heap.size, 0, none⟩) 1 1 news.toList hx (by simp) (by simpa using hl) (fun _ => ⟨_, rfl, fun j y hj => ?_⟩) (by simpa using h1) h63 hbytes fun v' w' k1 k2 => h v' w' k1 ((b.mono hB).trans k2)
  have hg := heap_alloc_new w (.cells news u)
  rw [Go.WideShapes.add_plain]
  generalize w.alloc (.cells news u) = W at hg ⊢
  simp [World.cell?, hg]
  simpa using hj
end
end Go.Proofs.YtmejfkhikgcgmaaDoor
namespace Go.Proofs.YtmejfkhikgcgmaaDoor
open Go.RowKit
set_option linter.unusedSimpArgs false
set_option linter.unusedVariables false
set_option maxRecDepth 10000

/-- A field: its tag, and where its bytes lie. -/
structure Fd where
  tag : Int
  p : Option Addr
  cap : Nat
  d : List Int
def zf : Fd := ⟨0, none, 0, []⟩
def Fd.cells (f : Fd) : List Value := [.int .i64 f.tag, .slice f.p f.d.length f.cap]

structure FOk (w : World) (f : Fd) : Prop where
  tag : (Lit.int .i64 f.tag).wf = true
  len : f.d.length ≤ f.cap
  cap : f.cap ≤ maxLen
  nil : f.p = none → f.cap = 0
  bin : BIn w f.p f.d
  isb : isB f.d
  few : f.d.length ≤ 140737488355328

def shFd : Sh Fd := fun w cs f => cs = f.cells ∧ FOk w f
/-- Fields in a slice. -/
abbrev FIn (w : World) (p : Option Addr) (l : List Fd) : Prop := LIn w p 2 shFd l

/-- What a field says. -/
abbrev Key := Int × List Int
def ky (f : Fd) : Key := (f.tag, f.d)
def kys (l : List Fd) : List Key := l.map ky
def szK (l : List Key) : Nat := (l.map fun x => x.2.length).sum
def tagsK : Int → List Key → Bool
  | _, [] => true
  | a, x :: t => decide (a ≤ x.1) && decide (x.1 ≤ 255) && tagsK x.1 t
def mayK (l : List Key) : Bool := decide (l.length ≤ 32) && tagsK 32 l && decide (szK l ≤ 4096)

theorem opensZ_fd {H : Type} {enc : TypeId × Value → H} {w : World} {base : Nat} {spare : Nat → Bool} {held : Bool} : OpensZ enc Tryd.prog w base spare held 55 shFd := fun fuel cs x h hz => by
  obtain ⟨⟨t, d⟩, a, b, rfl, ⟨rfl, h1⟩, ⟨p, cap, rfl, h2, h3, h4, h6, h5⟩⟩ := opensZ_struct2 Tryd.underlying55 rfl (by kernel_rfl) (by kernel_rfl) (opens_int Tryd.underlying3).z (opensZ_slice (size := 1) (bytes := 1) Tryd.underlying29 (by kernel_rfl) (by kernel_rfl) (by decide) (opens_int Tryd.underlying5).z) fuel cs x h hz
  exact ⟨⟨t, p, cap, d⟩, rfl, ⟨h1, h2, h3, h4, h5.bytes, h5.isB, by have := reachBytes_lt; simp only at h6 ⊢; omega⟩⟩

theorem FOk.below {w w' : World} {f : Fd} (h : FOk w f) (k : Below w.heap.size w w') : FOk w' f := ⟨h.tag, h.len, h.cap, h.nil, h.bin.below k, h.isb, h.few⟩

theorem FIn.at {w : World} {p : Option Addr} {l : List Fd} (h : FIn w p l) (hl : 0 < l.length) : ∃ b o, p = some ⟨b, o, none⟩ ∧ ∀ i, i < l.length → w.cell? ⟨b, o + i * 2, none⟩ = some (.int .i64 (l.getD i zf).tag) ∧ w.cell? ⟨b, o + i * 2 + 1, none⟩ = some (.slice (l.getD i zf).p (l.getD i zf).d.length (l.getD i zf).cap) ∧ FOk w (l.getD i zf) := by
  obtain ⟨b, o, rfl, hc⟩ := h hl
  refine ⟨b, o, rfl, fun i hi => ?_⟩
  obtain ⟨cs, _, h1, rfl, h3⟩ := hc i hi
  have h0 := h1 0 (by omega)
  have h2 := h1 1 (by omega)
  simp [List.getD, hi, Fd.cells] at h0 h2 ⊢
  exact ⟨h0, h2, h3⟩

theorem FIn.of {w : World} {b o : Nat} {l : List Fd} (h : ∀ i, i < l.length → w.cell? ⟨b, o + i * 2, none⟩ = some (.int .i64 (l.getD i zf).tag) ∧ w.cell? ⟨b, o + i * 2 + 1, none⟩ = some (.slice (l.getD i zf).p (l.getD i zf).d.length (l.getD i zf).cap) ∧ FOk w (l.getD i zf)) : FIn w (some ⟨b, o, none⟩) l := fun _ => by
  refine ⟨b, o, rfl, fun i hi => ?_⟩
  obtain ⟨h1, h2, h3⟩ := h i hi
  simp [List.getD, hi] at h1 h2 h3
  refine ⟨l[i].cells, rfl, fun j hj => ?_, rfl, h3⟩
  have hj' : j = 0 ∨ j = 1 := by omega
  rcases hj' with rfl | rfl <;> simpa [Fd.cells]

theorem FIn.below {w w' : World} {p : Option Addr} {l : List Fd} (h : FIn w p l) (k : Below w.heap.size w w') : FIn w' p l := fun hl => by
  obtain ⟨b, o, rfl, hc⟩ := h.at hl
  refine FIn.of (fun i hi => ?_) hl
  obtain ⟨h1, h2, h3⟩ := hc i hi
  exact ⟨by rw [k.cell (p := ⟨b, o + i * 2, none⟩) (lt_of_cell h1)]; exact h1, by rw [k.cell (p := ⟨b, o + i * 2 + 1, none⟩) (lt_of_cell h2)]; exact h2, h3.below k⟩

theorem FIn.empty (w : World) (p : Option Addr) : FIn w p [] := LIn.empty _ _ _ _

theorem kys_len (l : List Fd) : (kys l).length = l.length := by simp [kys]
theorem kys_append (a b : List Fd) : kys (a ++ b) = kys a ++ kys b := by simp [kys]
theorem szK_append (a b : List Key) : szK (a ++ b) = szK a + szK b := by simp [szK]
theorem take_next (l : List Fd) (k : Nat) (h : k < l.length) : l.take (k + 1) = l.take k ++ [l.getD k zf] := by
  rw [List.take_succ_eq_append_getElem h]; simp [List.getD, h]
theorem drop_next (l : List Fd) (k : Nat) (h : k < l.length) : l.drop k = l.getD k zf :: l.drop (k + 1) := by
  rw [List.drop_eq_getElem_cons h]; simp [List.getD, h]
theorem sz_next (l : List Fd) (k : Nat) (h : k < l.length) : szK (kys (l.take (k + 1))) = szK (kys (l.take k)) + (l.getD k zf).d.length := by
  rw [take_next l k h, kys_append, szK_append]; simp [szK, kys, ky]
theorem sz_take_le (l : List Fd) (k : Nat) : szK (kys (l.take k)) ≤ szK (kys l) := by
  have h : szK (kys l) = szK (kys (l.take k)) + szK (kys (l.drop k)) := by rw [← szK_append, ← kys_append, List.take_append_drop]
  omega

set_option maxHeartbeats 1600000 in
theorem size_any (p : Option Addr) (c : Nat) (l : List Fd) (w : World) (hp : FIn w p l) (hn : l.length ≤ maxLen) (hz : szK (kys l) ≤ 4611686018427387904) :
    Calls Tryd.prog 86 #[.slice p l.length c] w fun e w' => e = .returned (.int .i64 (szK (kys l))) ∧ Below w.heap.size w w' := by
  simp only [maxLen] at hn
  go_enter Tryd.func86, Tryd.ntmps86
  go_wp2
  go_loopw [3, 8] (fun n i W => ∃ k : Nat, k ≤ l.length ∧ i = .int .i64 k ∧ n = .int .i64 (szK (kys (l.take k)) : Nat) ∧ Below w.heap.size w W) (fun n i _ => l.length - (intOf i).toNat)
  case atStart => exact ⟨0, by omega, rfl, rfl, Below.refl _ _⟩
  case round =>
    obtain ⟨k, hk, rfl, rfl, hb⟩ := hrel
    by_cases t : k < l.length
    · obtain ⟨b, o, rfl, hc⟩ := (hp.below hb).at (by omega)
      obtain ⟨e0, e1, _⟩ := hc k t
      have HN := Hid.mk' (sz_next l k t)
      have hle := sz_take_le l (k + 1)
      rw [HN.out] at hle
      generalize l.getD k zf = y at HN e0 e1 hle
      have HB := Hid.mk' (hb.alloc hb.size (.cells #[.int .i64 y.tag, .slice y.p y.d.length y.cap] 55))
      clear hc hb
      go_wp2
      go_roundw
      case rel => exact ⟨k + 1, by omega, by go_num, by rw [HN.out]; go_num, HB.out⟩
      case measure => simp [intOf]; omega
    · obtain rfl : k = l.length := by omega
      rw [List.take_of_length_le (Nat.le_refl _)]
      go_wp2
      go_ret
      exact ⟨rfl, hb⟩

set_option maxHeartbeats 1600000 in
theorem tags_any (p : Option Addr) (c : Nat) (l : List Fd) (w : World) (hp : FIn w p l) (hn : l.length ≤ maxLen) :
    Calls Tryd.prog 85 #[.slice p l.length c] w fun e w' => e = .returned (.bool (tagsK 32 (kys l))) ∧ Below w.heap.size w w' := by
  simp only [maxLen] at hn
  go_enter Tryd.func85, Tryd.ntmps85
  go_wp2
  go_loopw [3, 8] (fun n i W => ∃ k : Nat, ∃ a : Int, k ≤ l.length ∧ i = .int .i64 k ∧ n = .int .i64 a ∧ tagsK 32 (kys l) = tagsK a (kys (l.drop k)) ∧ Below w.heap.size w W) (fun n i _ => l.length - (intOf i).toNat)
  case atStart => exact ⟨0, 32, by omega, rfl, rfl, rfl, Below.refl _ _⟩
  case round =>
    obtain ⟨k, a, hk, rfl, rfl, ht, hb⟩ := hrel
    by_cases t : k < l.length
    · obtain ⟨b, o, rfl, hc⟩ := (hp.below hb).at (by omega)
      obtain ⟨e0, e1, _⟩ := hc k t
      rw [drop_next l k t] at ht
      have HT := Hid.mk' ht
      clear ht
      generalize l.getD k zf = y at HT e0 e1
      have HB := Hid.mk' (hb.alloc hb.size (.cells #[.int .i64 y.tag, .slice y.p y.d.length y.cap] 55))
      clear hc hb
      by_cases t1 : y.tag < a
      · have tt : tagsK 32 (kys l) = false := by rw [HT.out]; simp [kys, ky, tagsK]; intro h1; omega
        have TT := Hid.mk' tt
        clear tt
        go_wp2
        try rw [Exit.noGoto_ret]
        rw [TT.out]
        go_ret
        exact ⟨rfl, HB.out⟩
      · by_cases t2 : 255 < y.tag
        · have tt : tagsK 32 (kys l) = false := by rw [HT.out]; simp [kys, ky, tagsK]; intro h1 h2; omega
          have TT := Hid.mk' tt
          clear tt
          go_wp2
          try rw [Exit.noGoto_ret]
          rw [TT.out]
          go_ret
          exact ⟨rfl, HB.out⟩
        · go_wp2
          go_roundw
          case rel => exact ⟨k + 1, y.tag, by omega, by go_num, rfl, by rw [HT.out]; simp [kys, ky, tagsK, Int.not_lt.1 t1, Int.not_lt.1 t2], HB.out⟩
          case measure => simp [intOf]; omega
    · obtain rfl : k = l.length := by omega
      rw [List.drop_of_length_le (Nat.le_refl _)] at ht
      have HT := Hid.mk' ht
      clear ht
      go_wp2
      go_ret
      exact ⟨by rw [HT.out]; rfl, hb⟩

set_option maxHeartbeats 1600000 in
theorem valid_any (p : Option Addr) (c : Nat) (l : List Fd) (w : World) (hp : FIn w p l) (hn : l.length ≤ maxLen) (hz : szK (kys l) ≤ 4611686018427387904) :
    Calls Tryd.prog 73 #[.slice p l.length c] w fun e w' => e = .returned (.bool (mayK (kys l))) ∧ Below w.heap.size w w' := by
  have HM := Hid.mk' (show mayK (kys l) = (decide (l.length ≤ 32) && tagsK 32 (kys l) && decide (szK (kys l) ≤ 4096)) by rw [mayK, kys_len])
  have T := tags_any p c l w hp hn
  have S := fun w1 (hb : Below w.heap.size w w1) => size_any p c l w1 (hp.below hb) hn hz
  simp only [maxLen] at hn
  generalize mayK (kys l) = r at HM ⊢
  generalize tagsK 32 (kys l) = tg at HM T
  generalize szK (kys l) = z at HM S hz
  go_enter Tryd.func73, Tryd.ntmps73
  by_cases t1 : l.length ≤ 32
  · go_wp2_with fail
    refine T.mono ?_
    rintro e w1 ⟨rfl, hb⟩
    cases tg
    · go_wp2_with fail
      go_ret
      exact ⟨by rw [HM.out]; simp, hb⟩
    · go_wp2_with fail
      refine (S w1 hb).mono ?_
      rintro e w2 ⟨rfl, hb2⟩
      by_cases t2 : z ≤ 4096
      · go_wp2_with fail
        go_ret
        exact ⟨by rw [HM.out]; simp [t1, t2]; try omega, hb.trans (hb2.mono hb.size)⟩
      · go_wp2_with fail
        go_ret
        exact ⟨by rw [HM.out]; simp [t1, t2]; try omega, hb.trans (hb2.mono hb.size)⟩
  · go_wp2_with fail
    go_ret
    exact ⟨by rw [HM.out]; simp [t1], Below.refl _ _⟩

end Go.Proofs.YtmejfkhikgcgmaaDoor
namespace Go.Proofs.YtmejfkhikgcgmaaDoor
open Go.RowKit
set_option linter.unusedSimpArgs false
set_option linter.unusedVariables false
set_option maxRecDepth 10000

/-- An order, as -1, 0 and 1. -/
structure Ord3 {α : Type} (c : α → α → Int) : Prop where
  rng : ∀ x y, c x y = -1 ∨ c x y = 0 ∨ c x y = 1
  anti : ∀ x y, c y x = -(c x y)
  eq : ∀ x y, c x y = 0 ↔ x = y
  tr : ∀ x y z, c x y < 0 → c y z < 0 → c x z < 0

def cmpI (a b : Int) : Int := if a < b then -1 else if b < a then 1 else 0
theorem cmpI_ord : Ord3 cmpI := by
  constructor
  · intro x y; unfold cmpI; split; simp; split <;> simp
  · intro x y; unfold cmpI; split <;> split <;> (try split) <;> omega
  · intro x y; unfold cmpI; split; simp; omega; split <;> simp <;> omega
  · intro x y z; unfold cmpI; repeat' split
    all_goals omega

def lexC {α : Type} (c : α → α → Int) : List α → List α → Int
  | [], [] => 0
  | [], _ :: _ => -1
  | _ :: _, [] => 1
  | x :: a, y :: b => if c x y = 0 then lexC c a b else c x y

theorem lexC_ord {α : Type} {c : α → α → Int} (h : Ord3 c) : Ord3 (lexC c) := by
  constructor
  · intro a
    induction a with
    | nil => intro b; cases b <;> simp [lexC]
    | cons x a ih =>
      intro b
      cases b with
      | nil => simp [lexC]
      | cons y b =>
        simp only [lexC]
        split
        · exact ih b
        · exact h.rng x y
  · intro a
    induction a with
    | nil => intro b; cases b <;> simp [lexC]
    | cons x a ih =>
      intro b
      cases b with
      | nil => simp [lexC]
      | cons y b =>
        have := h.anti x y
        simp only [lexC]
        split <;> split
        · exact ih b
        · omega
        · omega
        · exact this
  · intro a
    induction a with
    | nil => intro b; cases b <;> simp [lexC]
    | cons x a ih =>
      intro b
      cases b with
      | nil => simp [lexC]
      | cons y b =>
        have := h.eq x y
        simp only [lexC]
        split
        · rename_i q
          rw [ih b]
          simp [this.1 q]
        · rename_i q
          simp only [List.cons.injEq]
          constructor
          · intro k; exact absurd k q
          · intro k; exact absurd (this.2 k.1) q
  · intro a
    induction a with
    | nil =>
      intro b d
      cases b with
      | nil => simp [lexC]
      | cons y b => cases d <;> simp [lexC]
    | cons x a ih =>
      intro b d
      cases b with
      | nil => simp [lexC]
      | cons y b =>
        cases d with
        | nil => simp [lexC]
        | cons z d =>
          simp only [lexC]
          by_cases h1 : c x y = 0
          · obtain rfl := (h.eq x y).1 h1
            by_cases h2 : c x z = 0
            · simp only [h1, h2, if_true]
              exact ih b d
            · simp only [h1, h2, if_true, if_false]
              intro _ k; exact k
          · by_cases h2 : c y z = 0
            · obtain rfl := (h.eq y z).1 h2
              simp only [h1, h2, if_true, if_false]
              intro k _; exact k
            · simp only [h1, h2, if_false]
              intro k1 k2
              have h3 := h.tr x y z k1 k2
              rw [if_neg (by omega)]
              exact h3

def pairC {α β : Type} (c : α → α → Int) (e : β → β → Int) (x y : α × β) : Int := if c x.1 y.1 = 0 then e x.2 y.2 else c x.1 y.1
theorem pairC_ord {α β : Type} {c : α → α → Int} {e : β → β → Int} (h : Ord3 c) (k : Ord3 e) : Ord3 (pairC c e) := by
  constructor
  · intro x y; unfold pairC; split; exact k.rng _ _; exact h.rng _ _
  · intro x y
    have h1 := h.anti x.1 y.1
    have k1 := k.anti x.2 y.2
    unfold pairC; split <;> split
    · exact k1
    · omega
    · omega
    · exact h1
  · rintro ⟨a, b⟩ ⟨c', d⟩
    have h1 := h.eq a c'
    have k1 := k.eq b d
    unfold pairC
    simp only [Prod.mk.injEq]
    split
    · rename_i q; rw [k1]; simp [h1.1 q]
    · rename_i q; constructor
      · intro m; exact absurd m q
      · intro m; exact absurd (h1.2 m.1) q
  · rintro ⟨a, b⟩ ⟨a', b'⟩ ⟨a2, b2⟩
    unfold pairC
    simp only
    by_cases h1 : c a a' = 0
    · obtain rfl := (h.eq a a').1 h1
      by_cases h2 : c a a2 = 0
      · simp only [h1, h2, if_true]; exact k.tr _ _ _
      · simp only [h1, h2, if_true, if_false]; intro _ m; exact m
    · by_cases h2 : c a' a2 = 0
      · obtain rfl := (h.eq a' a2).1 h2
        simp only [h1, h2, if_true, if_false]; intro m _; exact m
      · simp only [h1, h2, if_false]
        intro k1 k2
        have h3 := h.tr _ _ _ k1 k2
        rw [if_neg (by omega)]
        exact h3

def cmpB : List Int → List Int → Int := lexC cmpI
def cmpK1 : Key → Key → Int := pairC cmpI cmpB
def cmpK : List Key → List Key → Int := lexC cmpK1
theorem cmpB_ord : Ord3 cmpB := lexC_ord cmpI_ord
theorem cmpK1_ord : Ord3 cmpK1 := pairC_ord cmpI_ord cmpB_ord
theorem cmpK_ord : Ord3 cmpK := lexC_ord cmpK1_ord

theorem Ord3.chain {α : Type} {c : α → α → Int} (h : Ord3 c) (x y z : α) (h1 : c x y ≤ 0) (h2 : c y z ≤ 0) : c x z ≤ 0 ∧ (c x z < 0 ∨ c x y = 0) := by
  by_cases e1 : c x y = 0
  · obtain rfl := (h.eq x y).1 e1
    exact ⟨h2, .inr e1⟩
  · by_cases e2 : c y z = 0
    · obtain rfl := (h.eq y z).1 e2
      exact ⟨h1, .inl (by omega)⟩
    · have := h.tr x y z (by omega) (by omega)
      exact ⟨by omega, .inl this⟩

theorem u8_lt {x y : Int} (hx : 0 ≤ x ∧ x < 256) (hy : 0 ≤ y ∧ y < 256) : (UInt8.ofNat x.toNat < UInt8.ofNat y.toNat) ↔ x < y := by
  rw [UInt8.lt_iff_toNat_lt]
  simp [UInt8.toNat_ofNat']
  omega

theorem isB.head {x : Int} {l : List Int} (h : isB (x :: l)) : 0 ≤ x ∧ x < 256 := h x (by simp)
theorem isB.tail {x : Int} {l : List Int} (h : isB (x :: l)) : isB l := fun y hy => h y (by simp [hy])

theorem cmpB_cons (x y : Int) (a b : List Int) : cmpB (x :: a) (y :: b) = if cmpI x y = 0 then cmpB a b else cmpI x y := rfl

theorem compareBytes_eq : ∀ (a b : List Int), isB a → isB b → Lib.compareBytes (Lib.bytesOf a) (Lib.bytesOf b) = cmpB a b
  | [], [], _, _ => rfl
  | [], _ :: _, _, _ => rfl
  | _ :: _, [], _, _ => rfl
  | x :: a, y :: b, ha, hb => by
    have ih := compareBytes_eq a b ha.tail hb.tail
    simp only [Lib.bytesOf] at ih
    simp only [Lib.bytesOf, List.map_cons, Lib.compareBytes]
    rw [cmpB_cons, ih]
    generalize cmpB a b = r
    have h1 := u8_lt ha.head hb.head
    have h2 := u8_lt hb.head ha.head
    unfold cmpI
    by_cases k1 : x < y
    · rw [if_pos (h1.2 k1)]; simp [k1]
    · rw [if_neg (fun q => k1 (h1.1 q))]
      by_cases k2 : y < x
      · rw [if_pos (h2.2 k2)]; simp [k1, k2]
      · rw [if_neg (fun q => k2 (h2.1 q))]; simp [k1, k2]

theorem bytesLess_cmp : ∀ (a b : List Int), isB a → isB b → Op.bytesLess (Lib.bytesOf a) (Lib.bytesOf b) = decide (cmpB a b < 0)
  | [], [], _, _ => rfl
  | [], _ :: _, _, _ => rfl
  | _ :: _, [], _, _ => rfl
  | x :: a, y :: b, ha, hb => by
    have ih := bytesLess_cmp a b ha.tail hb.tail
    simp only [Lib.bytesOf] at ih
    simp only [Lib.bytesOf, List.map_cons, Op.bytesLess]
    rw [cmpB_cons, ih]
    have h1 := u8_lt ha.head hb.head
    have h2 := u8_lt hb.head ha.head
    have hx := ha.head
    have hy := hb.head
    have h3 : (UInt8.ofNat x.toNat == UInt8.ofNat y.toNat) = decide (x = y) := by
      rw [Bool.eq_iff_iff]
      simp only [beq_iff_eq, decide_eq_true_eq]
      constructor
      · intro h
        have := congrArg UInt8.toNat h
        simp [UInt8.toNat_ofNat'] at this
        omega
      · rintro rfl; rfl
    rw [h3]
    generalize cmpB a b = r
    unfold cmpI
    by_cases k1 : x < y
    · simp [k1, h1.2 k1]
    · have : ¬ UInt8.ofNat x.toNat < UInt8.ofNat y.toNat := fun q => k1 (h1.1 q)
      by_cases k2 : y < x
      · have k3 : ¬ x = y := by omega
        simp [k1, k2, k3, this]
      · have k3 : x = y := by omega
        subst k3
        simp

theorem strLess (a b : List Int) (ha : isB a) (hb : isB b) : Op.bytesLess (strOfNums a).toList (strOfNums b).toList = decide (cmpB a b < 0) := by
  rw [Lib.strOfNums_toList, Lib.strOfNums_toList, bytesLess_cmp a b ha hb]

theorem cmpK_cons (x y : Key) (a b : List Key) : cmpK (x :: a) (y :: b) = if cmpK1 x y = 0 then cmpK a b else cmpK1 x y := rfl
theorem cmpK_left (x : Key) (a : List Key) : cmpK (x :: a) [] = 1 := rfl
theorem cmpK_right (x : Key) (a : List Key) : cmpK [] (x :: a) = -1 := rfl
end Go.Proofs.YtmejfkhikgcgmaaDoor
namespace Go.Proofs.YtmejfkhikgcgmaaDoor
open Go.RowKit
set_option linter.unusedSimpArgs false
set_option linter.unusedVariables false
set_option maxRecDepth 10000

theorem nan_any (a : Int) (w : World) : Calls Tryd.prog 97 #[.int .i64 a] w fun e w' => e = .returned (.bool false) ∧ w = w' := by
  go_enter Tryd.func97, Tryd.ntmps97
  go_wp2
  go_ret
  exact ⟨by simp, rfl⟩

set_option maxHeartbeats 1600000 in
theorem cmpI_any (a b : Int) (w : World) : Calls Tryd.prog 95 #[.int .i64 a, .int .i64 b] w fun e w' => e = .returned (.int .i64 (cmpI a b)) ∧ w = w' := by
  unfold cmpI
  by_cases t1 : a < b
  · rw [if_pos t1]
    go_enter Tryd.func95, Tryd.ntmps95
    go_wp2_with (go_at_call 97; refine (nan_any _ _).mono ?_; rintro e w' ⟨rfl, rfl⟩)
    go_ret
    exact ⟨rfl, rfl⟩
  · rw [if_neg t1]
    by_cases t2 : b < a
    · rw [if_pos t2]
      go_enter Tryd.func95, Tryd.ntmps95
      go_wp2_with (go_at_call 97; refine (nan_any _ _).mono ?_; rintro e w' ⟨rfl, rfl⟩)
      go_ret
      exact ⟨rfl, rfl⟩
    · rw [if_neg t2]
      go_enter Tryd.func95, Tryd.ntmps95
      go_wp2_with (go_at_call 97; refine (nan_any _ _).mono ?_; rintro e w' ⟨rfl, rfl⟩)
      go_ret
      exact ⟨rfl, rfl⟩

theorem bytesOf_run {w : World} {p : Option Addr} {l : List Int} (h : BIn w p l) (c : Nat) : (Extern.Bytes.bytesOf (.slice p l.length c)).run Tryd.prog w = .ok ⟨(Lib.bytesOf l).toArray⟩ w := by
  cases p with
  | none =>
    rcases Nat.eq_zero_or_pos l.length with hn | hn
    · obtain rfl : l = [] := List.eq_nil_of_length_eq_zero hn
      simp [Extern.Bytes.bytesOf, Lib.bytesOf]
      rfl
    · obtain ⟨b, o, e, _⟩ := h hn; cases e
  | some a =>
    have := Lib.run_loadBytesX (P := Tryd.prog) w l a .empty (fun j x hj => by
      have hjl : j < l.length := (List.getElem?_eq_some_iff.1 hj).1
      obtain ⟨b, o, e, hc⟩ := h (by omega)
      cases e
      rw [Go.WideShapes.add_plain, hc j hjl, List.getD_eq_getElem?_getD, hj]
      rfl)
    simp only [Extern.Bytes.bytesOf]
    rw [this]
    simp

theorem compare_run {w : World} {p q : Option Addr} {a b : List Int} (ha : BIn w p a) (hb : BIn w q b) (ia : isB a) (ib : isB b) (c d : Nat) :
    (Extern.BytealgCompare.compare #[.slice p a.length c, .slice q b.length d]).run Tryd.prog w = .ok (.int .i64 (cmpB a b)) w := by
  change Sem.run Tryd.prog (do pure (goInt (Extern.BytealgCompare.cmp (← Extern.Bytes.bytesOf (.slice p a.length c)) (← Extern.Bytes.bytesOf (.slice q b.length d))))) w = _
  rw [Sem.run_bind, bytesOf_run ha, Result.andThen_ok, Sem.run_bind, bytesOf_run hb, Result.andThen_ok, Sem.run_pure, Lib.cmp_eq, ← compareBytes_eq a b ia ib]
  rfl

set_option maxHeartbeats 1600000 in
theorem bcompare_any (p q : Option Addr) (a b : List Int) (c d : Nat) (w : World) (ha : BIn w p a) (hb : BIn w q b) (ia : isB a) (ib : isB b) :
    Calls Tryd.prog 96 #[.slice p a.length c, .slice q b.length d] w fun e w' => e = .returned (.int .i64 (cmpB a b)) ∧ w = w' := by
  have R := compare_run ha hb ia ib c d
  generalize cmpB a b = r at R ⊢
  go_enter Tryd.func96, Tryd.ntmps96
  go_wp2
  rw [run_callFunc_extern Tryd.func98 (by kernel_rfl) (by kernel_rfl) (by kernel_rfl) (e := Extern.BytealgCompare.compare) (by kernel_rfl), R]
  simp only [Result.andThen]
  rw [Oper.upon_value]
  go_wp2
  go_ret
  exact ⟨rfl, rfl⟩

set_option maxHeartbeats 1600000 in
theorem or_any (x y : Int) (b : Nat) (w : World) (h0 : w.cell? ⟨b, 0, none⟩ = some (.int .i64 x)) (h1 : w.cell? ⟨b, 1, none⟩ = some (.int .i64 y)) :
    Calls Tryd.prog 94 #[.slice (some ⟨b, 0, none⟩) 2 2] w fun e w' => e = .returned (.int .i64 (if x = 0 then y else x)) ∧ w = w' := by
  go_enter Tryd.func94, Tryd.ntmps94
  go_wp2
  go_loop [8] (fun i => ∃ k : Nat, i = .int .i64 k ∧ (k = 0 ∨ (k = 1 ∧ x = 0) ∨ (k = 2 ∧ x = 0 ∧ y = 0))) (fun i => 2 - (intOf i).toNat)
  case atStart => exact ⟨0, rfl, .inl rfl⟩
  case round =>
    obtain ⟨k, rfl, hk⟩ := hrel
    rcases hk with rfl | ⟨rfl, rfl⟩ | ⟨rfl, rfl, rfl⟩
    · by_cases t : x = 0
      · subst t
        go_wp2
        go_round
        case rel => exact ⟨1, by go_num, by simp⟩
        case measure => simp [intOf]
      · have d : (x != 0) = true := by simpa using t
        go_wp2
        try rw [Exit.noGoto_ret]
        go_ret
        exact ⟨rfl, rfl⟩
    · by_cases t : y = 0
      · subst t
        go_wp2
        go_round
        case rel => exact ⟨2, by go_num, by simp⟩
        case measure => simp [intOf]
      · have d : (y != 0) = true := by simpa using t
        go_wp2
        try rw [Exit.noGoto_ret]
        go_ret
        exact ⟨rfl, rfl⟩
    · go_wp2
      go_ret
      exact ⟨rfl, rfl⟩

/-- Two fields that were laid for a call. -/
structure InP (w : World) (x y : Fd) (W : World) : Prop where
  bx : W.heap[w.heap.size]? = some (.cells #[.int .i64 x.tag, .slice x.p x.d.length x.cap] 55 (0, 0))
  by' : W.heap[w.heap.size + 1]? = some (.cells #[.int .i64 y.tag, .slice y.p y.d.length y.cap] 55 (0, 0))
  below : Below w.heap.size w W

theorem InP.on {w W W' : World} {x y : Fd} (h : InP w x y W) (k : Below W.heap.size W W') : InP w x y W' :=
  ⟨by rw [k.block _ (Array.getElem?_eq_some_iff.1 h.bx).1]; exact h.bx, by rw [k.block _ (Array.getElem?_eq_some_iff.1 h.by').1]; exact h.by', h.below.trans (k.mono h.below.size)⟩

def SInP (w : World) (x y : Fd) (W : World) : Prop :=
  W.cell? ⟨w.heap.size, 0, none⟩ = some (.int .i64 x.tag) ∧ W.cell? ⟨w.heap.size, 1, none⟩ = some (.slice x.p x.d.length x.cap) ∧ W.cell? ⟨w.heap.size + 1, 0, none⟩ = some (.int .i64 y.tag) ∧ W.cell? ⟨w.heap.size + 1, 1, none⟩ = some (.slice y.p y.d.length y.cap) ∧ Hid (InP w x y W)

theorem InP.s {w W : World} {x y : Fd} (h : InP w x y W) : SInP w x y W := by
  obtain ⟨a0, a1, _, _⟩ := two_cells h.bx
  obtain ⟨b0, b1, _, _⟩ := two_cells h.by'
  exact ⟨a0, a1, b0, b1, h⟩

set_option maxHeartbeats 4000000 in
theorem cmpF_any (x y : Fd) (w : World) (hx : FOk w x) (hy : FOk w y) :
    Calls Tryd.prog 93 #[.agg #[.int .i64 x.tag, .slice x.p x.d.length x.cap], .agg #[.int .i64 y.tag, .slice y.p y.d.length y.cap]] w fun e w' => e = .returned (.int .i64 (cmpK1 (ky x) (ky y))) ∧ Below w.heap.size w w' := by
  have HO := Hid.mk' (show (if cmpI x.tag y.tag = 0 then cmpB x.d y.d else cmpI x.tag y.tag) = cmpK1 (ky x) (ky y) from rfl)
  have B := fun W (hb : Below w.heap.size w W) => bcompare_any x.p y.p x.d y.d x.cap y.cap W (hx.bin.below hb) (hy.bin.below hb) hx.isb hy.isb
  generalize cmpK1 (ky x) (ky y) = r at HO ⊢
  have hI : InP w x y ((w.alloc (.cells #[.int .i64 x.tag, .slice x.p x.d.length x.cap] 55)).alloc (.cells #[.int .i64 y.tag, .slice y.p y.d.length y.cap] 55)).drew := by
    refine ⟨?_, ?_, (((Below.refl _ _).alloc (Nat.le_refl _) _).alloc (by simp) _).drew⟩
    · exact (heap_alloc_old _ _ (by simp)).trans (heap_alloc_new _ _)
    · have := heap_alloc_new (w.alloc (.cells #[.int .i64 x.tag, .slice x.p x.d.length x.cap] 55)) (.cells #[.int .i64 y.tag, .slice y.p y.d.length y.cap] 55)
      rw [show (w.alloc (.cells #[.int .i64 x.tag, .slice x.p x.d.length x.cap] 55)).heap.size = w.heap.size + 1 by simp] at this
      exact this
  have hS0 := hI.s
  clear hI
  go_enter Tryd.func93, Tryd.ntmps93
  go_wp2_with fail
  unfold SInP at hS0
  refine wp_region_held_drew (S := fun W => W.cell? ⟨w.heap.size, 0, none⟩ = some (.int .i64 x.tag) ∧ W.cell? ⟨w.heap.size, 1, none⟩ = some (.slice x.p x.d.length x.cap) ∧ W.cell? ⟨w.heap.size + 1, 0, none⟩ = some (.int .i64 y.tag) ∧ W.cell? ⟨w.heap.size + 1, 1, none⟩ = some (.slice y.p y.d.length y.cap) ∧ Hid (InP w x y W)) (by kernel_rfl) hS0 (fun hS => ?_)
  clear hS0
  generalize ((w.alloc (.cells #[.int .i64 x.tag, .slice x.p x.d.length x.cap] 55)).alloc (.cells #[.int .i64 y.tag, .slice y.p y.d.length y.cap] 55)).drew = wd at hS ⊢
  refine wpAnyH_take (i := 0) (v := ?v0_1) rfl (by kernel_rfl) (by kernel_rfl) (by kernel_rfl) (fun _ _ _ h => h) (Or.inl ⟨by rfl, ?hy0_1⟩) (by assumption) ?rest0_1
  case hy0_1 => (intro w hSw; (try dsimp only at hSw); go_simp; try (with_reducible rfl))
  simp only [Act.put, List.getElem_toArray, List.getElem_cons_zero, List.getElem_cons_succ, List.setIfInBounds_toArray, List.set_cons_zero, List.set_cons_succ]
  refine wpAnyH_take (i := 1) (v := ?v1_2) rfl (by kernel_rfl) (by kernel_rfl) (by kernel_rfl) (fun _ _ _ h => h) (Or.inl ⟨by rfl, ?hy1_2⟩) (by assumption) ?rest1_2
  case hy1_2 => (intro w hSw; (try dsimp only at hSw); go_simp; try (with_reducible rfl))
  simp only [Act.put, List.getElem_toArray, List.getElem_cons_zero, List.getElem_cons_succ, List.setIfInBounds_toArray, List.set_cons_zero, List.set_cons_succ]
  refine wpAnyH_take (i := 2) (v := ?v2_3) rfl (by kernel_rfl) (by kernel_rfl) (by kernel_rfl) (fun _ _ _ h => h) (Or.inl ⟨by rfl, ?hy2_3⟩) (by assumption) ?rest2_3
  case hy2_3 => (intro w hSw; (try dsimp only at hSw); go_simp; try (with_reducible rfl))
  simp only [Act.put, List.getElem_toArray, List.getElem_cons_zero, List.getElem_cons_succ, List.setIfInBounds_toArray, List.set_cons_zero, List.set_cons_succ]
  refine wpAnyH_take (i := 3) (v := ?v3_4) rfl (by kernel_rfl) (by kernel_rfl) (by kernel_rfl) (fun _ _ _ h => h) (Or.inl ⟨by rfl, ?hy3_4⟩) (by assumption) ?rest3_4
  case hy3_4 => (intro w hSw; (try dsimp only at hSw); go_simp; try (with_reducible rfl))
  simp only [Act.put, List.getElem_toArray, List.getElem_cons_zero, List.getElem_cons_succ, List.setIfInBounds_toArray, List.set_cons_zero, List.set_cons_succ]
  refine wpAnyH_take (i := 5) (v := ?v5_5) rfl (by kernel_rfl) (by kernel_rfl) (by kernel_rfl) (fun _ _ _ h => h) (Or.inl ⟨by rfl, ?hy5_5⟩) (by assumption) ?rest5_5
  case hy5_5 => (intro w hSw; (try dsimp only at hSw); go_simp; try (with_reducible rfl))
  simp only [Act.put, List.getElem_toArray, List.getElem_cons_zero, List.getElem_cons_succ, List.setIfInBounds_toArray, List.set_cons_zero, List.set_cons_succ]
  refine wpAnyH_take (i := 6) (v := ?v6_6) rfl (by kernel_rfl) (by kernel_rfl) (by kernel_rfl) (fun _ _ _ h => h) (Or.inl ⟨by rfl, ?hy6_6⟩) (by assumption) ?rest6_6
  case hy6_6 => (intro w hSw; (try dsimp only at hSw); go_simp; try (with_reducible rfl))
  simp only [Act.put, List.getElem_toArray, List.getElem_cons_zero, List.getElem_cons_succ, List.setIfInBounds_toArray, List.set_cons_zero, List.set_cons_succ]
  refine wpAnyH_take (i := 7) (v := ?v7_7) rfl (by kernel_rfl) (by kernel_rfl) (by kernel_rfl) (fun _ _ _ h => h) (Or.inl ⟨by rfl, ?hy7_7⟩) (by assumption) ?rest7_7
  case hy7_7 => (intro w hSw; (try dsimp only at hSw); go_simp; try (with_reducible rfl))
  simp only [Act.put, List.getElem_toArray, List.getElem_cons_zero, List.getElem_cons_succ, List.setIfInBounds_toArray, List.set_cons_zero, List.set_cons_succ]
  refine wpAnyH_take (i := 8) (v := ?v8_8) rfl (by kernel_rfl) (by kernel_rfl) (by kernel_rfl) (fun _ _ _ h => h) (Or.inl ⟨by rfl, ?hy8_8⟩) (by assumption) ?rest8_8
  case hy8_8 => (intro w hSw; (try dsimp only at hSw); go_simp; try (with_reducible rfl))
  simp only [Act.put, List.getElem_toArray, List.getElem_cons_zero, List.getElem_cons_succ, List.setIfInBounds_toArray, List.set_cons_zero, List.set_cons_succ]
  refine wpAnyH_ready (rs := [4]) (by kernel_rfl) (by simp) ?_
  refine (AllReadyH.cons rfl (fun K hK => ?_) AllReadyH.nil)
  go_simp
  refine (cmpI_any _ _ _).mono ?_
  rintro e w3 ⟨rfl, rfl⟩
  go_wp2_with fail
  refine hK.out _ _ ?_ (fun hS' => ?_)
  · exact hS
  clear hK K
  try simp only [Act.put, List.getElem_toArray, List.getElem_cons_zero, List.getElem_cons_succ, List.setIfInBounds_toArray, List.set_cons_zero, List.set_cons_succ]
  replace hS := hS'
  clear hS'
  refine wpAnyH_ready (rs := [9]) (by kernel_rfl) (by simp) ?_
  refine (AllReadyH.cons rfl (fun K hK => ?_) AllReadyH.nil)
  go_simp
  refine (B _ hS.2.2.2.2.out.below).mono ?_
  rintro e w3 ⟨rfl, rfl⟩
  go_wp2_with fail
  refine hK.out _ _ ?_ (fun hS' => ?_)
  · exact hS
  clear hK K
  try simp only [Act.put, List.getElem_toArray, List.getElem_cons_zero, List.getElem_cons_succ, List.setIfInBounds_toArray, List.set_cons_zero, List.set_cons_succ]
  replace hS := hS'
  clear hS'
  refine wpAnyH_ready (rs := [10]) (by kernel_rfl) (by simp) ?_
  refine (AllReadyH.cons rfl (fun K hK => ?_) AllReadyH.nil)
  go_simp
  have hI3 := hS.2.2.2.2.out.on ((Below.refl _ _).alloc (Nat.le_refl _) (.cells #[.int .i64 (cmpI x.tag y.tag), .int .i64 (cmpB x.d y.d)] 3))
  have hnew := two_cells (heap_alloc_new wd (.cells #[.int .i64 (cmpI x.tag y.tag), .int .i64 (cmpB x.d y.d)] 3))
  have OR := or_any (cmpI x.tag y.tag) (cmpB x.d y.d) wd.heap.size _ hnew.1 hnew.2.1
  rw [HO.out] at OR
  clear hnew
  refine hK.out _ _ ?_ (fun hS' => ?_)
  · exact hI3.s
  clear hK K
  try simp only [Act.put, List.getElem_toArray, List.getElem_cons_zero, List.getElem_cons_succ, List.setIfInBounds_toArray, List.set_cons_zero, List.set_cons_succ]
  replace hS := hS'
  clear hS'
  refine wpAnyH_ready (rs := [11]) (by kernel_rfl) (by simp) ?_
  refine (AllReadyH.cons rfl (fun K hK => ?_) AllReadyH.nil)
  go_simp
  refine OR.mono ?_
  rintro e w3 ⟨rfl, rfl⟩
  go_wp2_with fail
  refine hK.out _ _ ?_ (fun hS' => ?_)
  · exact hS
  clear hK K
  try simp only [Act.put, List.getElem_toArray, List.getElem_cons_zero, List.getElem_cons_succ, List.setIfInBounds_toArray, List.set_cons_zero, List.set_cons_succ]
  replace hS := hS'
  clear hS'
  refine wpAnyH_take (i := 12) (v := ?v12_9) rfl (by kernel_rfl) (by kernel_rfl) (by kernel_rfl) (fun _ _ _ h => h) (Or.inl ⟨by rfl, ?hy12_9⟩) (by assumption) ?rest12_9
  case hy12_9 => (intro w hSw; (try dsimp only at hSw); go_simp; try (with_reducible rfl))
  simp only [Act.put, List.getElem_toArray, List.getElem_cons_zero, List.getElem_cons_succ, List.setIfInBounds_toArray, List.set_cons_zero, List.set_cons_succ]
  refine wpAnyH_done (by kernel_rfl) ?_ _
  go_wp2
  go_ret
  exact ⟨rfl, hS.2.2.2.2.out.below⟩

set_option maxHeartbeats 4000000 in
theorem cmpFunc_any (p q : Option Addr) (c d : Nat) (a b : List Fd) (w : World) (hp : FIn w p a) (hq : FIn w q b) (hn : a.length ≤ maxLen) (hm : b.length ≤ maxLen) :
    Calls Tryd.prog 92 #[.slice p a.length c, .slice q b.length d, .func (.func 93) #[] #[]] w fun e w' => e = .returned (.int .i64 (cmpK (kys a) (kys b))) ∧ Below w.heap.size w w' := by
  simp only [maxLen] at hn hm
  obtain ⟨r, hr⟩ : ∃ r, cmpK (kys a) (kys b) = r := ⟨_, rfl⟩
  rw [hr]
  go_enter Tryd.func92, Tryd.ntmps92
  go_wp2
  go_loopw [13] (fun i W => ∃ k : Nat, k ≤ a.length ∧ k ≤ b.length ∧ i = .int .i64 k ∧ r = cmpK (kys (a.drop k)) (kys (b.drop k)) ∧ Below w.heap.size w W) (fun i _ => a.length - (intOf i).toNat)
  case atStart => exact ⟨0, by omega, by omega, rfl, hr.symm, Below.refl _ _⟩
  case round =>
    obtain ⟨k, hk, hk2, rfl, ht, hb⟩ := hrel
    by_cases t : k < a.length
    · obtain ⟨b1, o1, rfl, hc⟩ := (hp.below hb).at (by omega)
      obtain ⟨e0, e1, hx⟩ := hc k t
      by_cases t2 : k < b.length
      · obtain ⟨b2, o2, rfl, hc2⟩ := (hq.below hb).at (by omega)
        obtain ⟨f0, f1, hy⟩ := hc2 k t2
        rw [drop_next a k t, drop_next b k t2] at ht
        simp only [kys, List.map_cons] at ht
        rw [cmpK_cons] at ht
        generalize a.getD k zf = x at ht e0 e1 hx
        generalize b.getD k zf = y at ht f0 f1 hy
        have hb2 := ((Below.refl wr.heap.size wr).alloc (Nat.le_refl _) (.cells #[.int .i64 x.tag, .slice x.p x.d.length x.cap] 55)).alloc (by simp) (.cells #[.int .i64 y.tag, .slice y.p y.d.length y.cap] 55)
        have N := cmpF_any x y _ (hx.below hb2) (hy.below hb2)
        have HB := Hid.mk' (hb.trans (hb2.mono hb.size))
        generalize cmpK1 (ky x) (ky y) = v at ht N
        have HT := Hid.mk' ht
        have hlt2 : b2 < wr.heap.size := lt_of_cell f0
        clear ht hb hc hc2 hx hy hb2
        go_wp2_with fail
        refine N.mono ?_
        rintro e w' ⟨rfl, hb3⟩
        have HB' := Hid.mk' (HB.out.trans (hb3.mono HB.out.size))
        clear HB hb3 N
        by_cases t3 : v = 0
        · subst t3
          go_wp2_with fail
          go_roundw
          case rel => exact ⟨k + 1, by omega, by omega, by go_num, by rw [HT.out]; rfl, HB'.out⟩
          case measure => simp [intOf]; omega
        · have d3 : (v != 0) = true := by simpa using t3
          have hv := HT.out
          rw [if_neg t3] at hv
          subst hv
          go_wp2_with fail
          try rw [Exit.noGoto_ret]
          go_ret
          exact ⟨rfl, HB'.out⟩
      · obtain rfl : k = b.length := by omega
        rw [drop_next a b.length t, List.drop_of_length_le (l := b) (Nat.le_refl _)] at ht
        obtain rfl : r = 1 := ht
        generalize a.getD b.length zf = x at e0 e1 hx
        have HB := Hid.mk' (hb.alloc hb.size (.cells #[.int .i64 x.tag, .slice x.p x.d.length x.cap] 55))
        clear hb hc hx
        go_wp2_with fail
        try rw [Exit.noGoto_ret]
        go_ret
        exact ⟨rfl, HB.out⟩
    · obtain rfl : k = a.length := by omega
      rw [List.drop_of_length_le (l := a) (Nat.le_refl _)] at ht
      by_cases t2 : a.length < b.length
      · rw [drop_next b a.length t2] at ht
        obtain rfl : r = -1 := ht
        go_wp2_with fail
        go_ret
        exact ⟨rfl, hb⟩
      · rw [List.drop_of_length_le (l := b) (by omega)] at ht
        obtain rfl : r = 0 := ht
        go_wp2_with fail
        go_ret
        exact ⟨rfl, hb⟩

set_option maxHeartbeats 1600000 in
theorem compare_any (p q : Option Addr) (c d : Nat) (a b : List Fd) (w : World) (hp : FIn w p a) (hq : FIn w q b) (hn : a.length ≤ maxLen) (hm : b.length ≤ maxLen) :
    Calls Tryd.prog 87 #[.slice p a.length c, .slice q b.length d] w fun e w' => e = .returned (.int .i64 (cmpK (kys a) (kys b))) ∧ Below w.heap.size w w' := by
  have N := cmpFunc_any p q c d a b w hp hq hn hm
  generalize cmpK (kys a) (kys b) = v at N ⊢
  go_enter Tryd.func87, Tryd.ntmps87
  go_wp2_with fail
  refine N.mono ?_
  rintro e w' ⟨rfl, hb3⟩
  go_wp2_with fail
  go_ret
  exact ⟨rfl, hb3⟩

set_option maxHeartbeats 1600000 in
theorem same_any (p q : Option Addr) (c d : Nat) (a b : List Fd) (w : World) (hp : FIn w p a) (hq : FIn w q b) (hn : a.length ≤ maxLen) (hm : b.length ≤ maxLen) :
    Calls Tryd.prog 75 #[.slice p a.length c, .slice q b.length d] w fun e w' => e = .returned (.bool (decide (kys a = kys b))) ∧ Below w.heap.size w w' := by
  have N := compare_any p q c d a b w hp hq hn hm
  have hd := cmpK_ord.eq (kys a) (kys b)
  generalize cmpK (kys a) (kys b) = v at N hd
  go_enter Tryd.func75, Tryd.ntmps75
  go_wp2_with fail
  refine N.mono ?_
  rintro e w' ⟨rfl, hb3⟩
  by_cases t : v = 0
  · have := hd.1 t
    subst t
    go_wp2_with fail
    go_ret
    exact ⟨by simp [this], hb3⟩
  · have this : ¬ kys a = kys b := fun q => t (hd.2 q)
    have d3 : (v == 0) = false := by simpa using t
    go_wp2_with fail
    go_ret
    exact ⟨by simp [this], hb3⟩
end Go.Proofs.YtmejfkhikgcgmaaDoor
namespace Go.Proofs.YtmejfkhikgcgmaaDoor
open Go.RowKit
set_option linter.unusedSimpArgs false
set_option linter.unusedVariables false
set_option maxRecDepth 10000

theorem infoA : (Tryd.prog.info? 5).map (fun i => (i.zero, i.size, i.bytes)) = some (some (.int .u8 0), 1, 1) := by kernel_rfl

/-- v owns the bytes l, in a block from B on. -/
structure Acc (w : World) (B : Nat) (v : Value) (l : List Int) : Prop where
  owns : w.ownsRow 0 5 1 v l.length (l.map (Value.int .u8))
  above : ∀ k, v.ownBlock = some k → B ≤ k

theorem Acc.nil (w : World) (B : Nat) : Acc w B (.slice none 0 0) [] := ⟨World.ownsRow_nil _ _ _ _, fun k hk => by cases hk⟩

/-- '[]byte{}'. -/
theorem Acc.empty {w : World} {g B : Nat} (h : w.heap[g]? = some (.cells #[] 5 (0, 0))) (hB : B ≤ g) : Acc w B (.slice (some ⟨g, 0, none⟩) 0 0) [] :=
  ⟨⟨by simp, .inr ⟨g, 0, #[], rfl, Nat.zero_le _, h, Nat.le_refl _, by simp [maxLen], by simp, by simp⟩⟩, fun k hk => by cases hk; exact hB⟩

theorem Acc.fr {S : Nat → Prop} {w w' : World} {B : Nat} {v : Value} {l : List Int} (h : Acc w B v l) (k : Fr S w w') (hn : ∀ g, v.ownBlock = some g → ¬ S g) : Acc w' B v l := ⟨owns_fr h.owns k hn, h.above⟩

theorem Acc.below {w w' : World} {B : Nat} {v : Value} {l : List Int} (h : Acc w B v l) (k : Below w.heap.size w w') : Acc w' B v l :=
  h.fr (Fr.of_below k fun _ => False) fun _ _ q => q

theorem Acc.mono {w : World} {B B' : Nat} {v : Value} {l : List Int} (h : Acc w B v l) (k : B' ≤ B) : Acc w B' v l := ⟨h.owns, fun g hg => Nat.le_trans k (h.above g hg)⟩

theorem Acc.slice {w : World} {B : Nat} {v : Value} {l : List Int} (h : Acc w B v l) : ∃ p c, v = .slice p l.length c ∧ BIn w p l ∧ (p = none → c = 0) ∧ l.length ≤ c ∧ c ≤ maxLen := by
  obtain ⟨p, c, h1, h2, h3, h4, h5, _⟩ := owns_BIn h.owns
  exact ⟨p, c, h1, h2, h3, h4, h5⟩

/-- Behind an append. -/
theorem Acc.next {w w' : World} {B : Nat} {v v' : Value} {l m : List Int} (h : Acc w B v l) (hB : B ≤ w.heap.size) (hA : Appended w 5 1 v l.length (l.map (Value.int .u8)) m.length (m.map (Value.int .u8)) v' w') : Acc w' B v' (l ++ m) ∧ Below B w w' := by
  refine ⟨⟨?_, fun k hk => ?_⟩, hA.fr.below (fun i q => h.above i q) hB⟩
  · rw [List.length_append, List.map_append]; exact hA.owns
  · rcases hA.moved with q | ⟨g, hg, hg2⟩
    · rw [q] at hk; exact h.above k hk
    · rw [hg] at hk; cases hk; omega

/-- One byte of its own is turned. -/
theorem Acc.set {w : World} {B : Nat} {v : Value} {l : List Int} (h : Acc w B v l) (i : Nat) (hi : i < l.length) :
    ∃ g cap, v = .slice (some ⟨g, 0, none⟩) l.length cap ∧ B ≤ g ∧ g < w.heap.size ∧ l.length ≤ cap ∧ cap ≤ maxLen ∧ w.cell? ⟨g, i, none⟩ = some (.int .u8 (l.getD i 0)) ∧ w.frozen? ⟨g, i, none⟩ = false ∧
      ∀ x : Int, Acc (w.setCell ⟨g, i, none⟩ (.int .u8 x)) B v (l.set i x) := by
  obtain ⟨h1, h2⟩ := h
  rcases h1.2 with ⟨rfl, h0⟩ | ⟨g, cap, cur, rfl, hb, hg, hnc, hcm, hcs, ht⟩
  · omega
  · rw [Nat.mul_one] at ht
    have hic : i < cur.size := by omega
    have hci : cur.toList[i]? = some (.int .u8 (l.getD i 0)) := by
      have : (cur.toList.take l.length)[i]? = (l.map (Value.int .u8))[i]? := by rw [ht]
      rw [List.getElem?_take, if_pos hi, List.getElem?_map] at this
      rw [this]
      simp [List.getD, hi]
    refine ⟨g, cap, rfl, h2 g rfl, (Array.getElem?_eq_some_iff.1 hg).1, hnc, hcm, ?_, ?_, fun x => ⟨⟨by simp, .inr ⟨g, cap, cur.setIfInBounds i (.int .u8 x), by simp, hb, ?_, by simpa using hnc, hcm, by simpa using hcs, ?_⟩⟩, fun k hk => by cases hk; exact h2 g rfl⟩⟩
    · rw [← hci]; simp [World.cell?, hg]
    · simp [World.frozen?, hg]
    · simp [World.setCell, Array.getElem?_modify, hg]
    · rw [Array.toList_setIfInBounds, Nat.mul_one, List.length_set, List.take_set, ht, List.map_set]

section
/-- 'append(v, x...)' in a walk. -/
theorem wpList_acc {w : World} {ops : Array Oper} {rest : List Oper} {o : Oper} {a : Act} {Q : Exit → Act → World → Prop} (hgd : o.guard = none) (s x : Operand)
    (ho : o.op = .call { callee := .builtin .append, args := #[s, x], argTypes := #[29, 29] })
    (B : Nat) (v : Value) (l : List Int) (hs : a.eval s = v) (hown : Acc w B v l) (hB : B ≤ w.heap.size)
    (p : Option Addr) (c : Nat) (m : List Int) (hx : a.eval x = .slice p m.length c) (hp0 : p = none → c = 0) (hm : BIn w p m)
    (hlen : l.length + m.length ≤ 140737488355328)
    (h : ∀ v' w', Acc w' B v' (l ++ m) → Below B w w' → wpList Tryd.prog ops Q rest (a.put o.dst v') w') : wpList Tryd.prog ops Q (o :: rest) a w := by
  obtain ⟨i0, hi, hz0, hz1, hz2⟩ := info_parts infoA
  exact wpList_append_fr hgd s x 29 ho 5 i0 (.int .u8 0) 1 1 Tryd.underlying29 hi hz0 hz1 hz2 rfl (by decide) v l.length (l.map (Value.int .u8)) hs hown.owns p m.length c (m.map (Value.int .u8)) hx hp0 (by simp) hm.news (oneCells m) (by simp only [maxLen]; omega) (by omega)
    fun v' w' hA => h v' w' (hown.next hB hA).1 (hown.next hB hA).2

/-- 'append(v, x)' of one byte that was laid for it. -/
theorem wpList_acc1 {w : World} {ops : Array Oper} {rest : List Oper} {o : Oper} {a : Act} {Q : Exit → Act → World → Prop} (hgd : o.guard = none) (s x : Operand)
    (ho : o.op = .call { callee := .builtin .append, args := #[s, x], argTypes := #[29, 29] })
    (B : Nat) (v : Value) (l : List Int) (hs : a.eval s = v) (hown : Acc w B v l) (hB : B ≤ w.heap.size) (u : Int)
    (hx : a.eval x = .slice (some ⟨w.heap.size, 0, none⟩) 1 1)
    (hlen : l.length + 1 ≤ 140737488355328)
    (h : ∀ v' w', Acc w' B v' (l ++ [u]) → Below B w w' → wpList Tryd.prog ops Q rest (a.put o.dst v') w') : wpList Tryd.prog ops Q (o :: rest) a (w.alloc (.cells #[.int .u8 u] 5)) := by
  have b : Below w.heap.size w (w.alloc (.cells #[.int .u8 u] 5)) := (Below.refl _ _).alloc (Nat.le_refl _) _
  refine wpList_acc hgd s x ho B v l hs (hown.below b) (Nat.le_trans hB b.size) (some ⟨w.heap.size, 0, none⟩) 1 [u] hx (by simp) (BIn.of_block (rest := []) (e := 5) (f := (0, 0)) (by simpa using heap_alloc_new w _)) hlen fun v' w' h1 h2 => h v' w' h1 ((b.mono hB).trans h2)
/-- 'append(v, x...)' as one step of a region that draws its order. -/
theorem step_acc {w : World} {ops : Array Oper} {o : Oper} {a : Act} {K : Act → World → Prop} {Q : Exit → Act → World → Prop} {E : Prop} (hgd : o.guard = none) (s x : Operand)
    (ho : o.op = .call { callee := .builtin .append, args := #[s, x], argTypes := #[29, 29] })
    (B : Nat) (v : Value) (l : List Int) (hs : a.eval s = v) (hown : Acc w B v l) (hB : B ≤ w.heap.size)
    (p : Option Addr) (c : Nat) (m : List Int) (hx : a.eval x = .slice p m.length c) (hp0 : p = none → c = 0) (hm : BIn w p m)
    (hlen : l.length + m.length ≤ 140737488355328)
    (h : ∀ v' w', Acc w' B v' (l ++ m) → Below B w w' → Fr (fun k => v.ownBlock = some k) w w' → K (a.put o.dst v') w') : if Region.wanted o (yielded ops a.tmps) = true then Oper.wp Tryd.prog o a w K Q else E := by
  obtain ⟨i0, hi, hz0, hz1, hz2⟩ := info_parts infoA
  exact step_append_fr hgd s x 29 ho 5 i0 (.int .u8 0) 1 1 Tryd.underlying29 hi hz0 hz1 hz2 rfl (by decide) v l.length (l.map (Value.int .u8)) hs hown.owns p m.length c (m.map (Value.int .u8)) hx hp0 (by simp) hm.news (oneCells m) (by simp only [maxLen]; omega) (by omega)
    fun v' w' hA => h v' w' (hown.next hB hA).1 (hown.next hB hA).2 hA.fr
end
end Go.Proofs.YtmejfkhikgcgmaaDoor
namespace Go.Proofs.YtmejfkhikgcgmaaDoor
open Go.RowKit
set_option linter.unusedSimpArgs false
set_option linter.unusedVariables false
set_option maxRecDepth 10000

theorem infoA1 : (Tryd.prog.info? 5).map (·.size) = some 1 := by kernel_rfl
theorem infoF : (Tryd.prog.info? 55).map (fun i => (i.zero, i.size, i.bytes)) = some (some (.agg #[.int .i64 0, .slice none 0 0]), 2, 32) := by kernel_rfl

theorem made_size (n : Nat) (z : Array Value) : (madeCells z n).toList.length = n := by simp [madeCells]
theorem splice_full (L cs : List Value) (h : L.length = cs.length) : splice L 0 cs = cs := by
  simp [splice, h.symm]

/-- What 'copy' asks of its source, where the bytes lie in old memory and one block has been laid. -/
theorem src_laid {w : World} {p : Option Addr} {l : List Int} (hB : BIn w p l) (o : Obj) (dp : Option Addr) : 0 < (l.map (Value.int .u8)).length → dp = dp ∧ ∃ ad, p = some ad ∧ ∀ j v, (l.map (Value.int .u8))[j]? = some v → (w.alloc o).cell? (ad.add j) = some v := by
  intro h
  obtain ⟨a, rfl, hc⟩ := (hB.below ((Below.refl _ _).alloc (Nat.le_refl _) o)).news (by simpa using h)
  exact ⟨rfl, _, rfl, hc⟩


/-- The cells of fields. -/
def cellsF (l : List Fd) : Array Value := (l.flatMap Fd.cells).toArray

theorem flat_get : ∀ (l : List Fd) (i : Nat), (l.flatMap Fd.cells)[i * 2]? = (l[i]?).map (fun f => Value.int .i64 f.tag) ∧ (l.flatMap Fd.cells)[i * 2 + 1]? = (l[i]?).map (fun f => Value.slice f.p f.d.length f.cap)
  | [], i => by simp
  | x :: l, 0 => by simp [Fd.cells]
  | x :: l, i + 1 => by
    have := flat_get l i
    simp only [List.flatMap_cons, Fd.cells, List.cons_append, List.nil_append, List.getElem?_cons_succ, show (i + 1) * 2 = i * 2 + 1 + 1 by omega]
    exact this

theorem flat_len (l : List Fd) : (l.flatMap Fd.cells).length = l.length * 2 := by
  induction l with
  | nil => rfl
  | cons x l ih => simp [Fd.cells, ih]; omega

theorem flat_set : ∀ (l : List Fd) (i : Nat) (f : Fd), ((l.flatMap Fd.cells).set (i * 2) (.int .i64 f.tag)).set (i * 2 + 1) (.slice f.p f.d.length f.cap) = (l.set i f).flatMap Fd.cells
  | [], i, f => by simp
  | x :: l, 0, f => by simp [Fd.cells]
  | x :: l, i + 1, f => by
    have := flat_set l i f
    simp only [List.flatMap_cons, Fd.cells, List.cons_append, List.nil_append, show (i + 1) * 2 = i * 2 + 1 + 1 by omega, List.set_cons_succ]
    rw [← this]

theorem cellsF_size (l : List Fd) : (cellsF l).size = l.length * 2 := by rw [cellsF, List.size_toArray, flat_len]

theorem cellsF_set (l : List Fd) (i : Nat) (f : Fd) : ((cellsF l).setIfInBounds (i * 2) (.int .i64 f.tag)).setIfInBounds (i * 2 + 1) (.slice f.p f.d.length f.cap) = cellsF (l.set i f) := by
  unfold cellsF
  rw [List.setIfInBounds_toArray, List.setIfInBounds_toArray, flat_set]

theorem cellsF_made (n : Nat) : madeCells #[Value.int .i64 0, Value.slice none 0 0] (n * 2) = cellsF (List.replicate n zf) := by
  apply Array.ext
  · rw [cellsF_size, size_madeCells, List.length_replicate]
  · intro i h1 h2
    have hi : i < n * 2 := by simpa [madeCells] using h1
    have := flat_get (List.replicate n zf) (i / 2)
    rcases Nat.mod_two_eq_zero_or_one i with h | h
    · have e : i = i / 2 * 2 := by omega
      have h3 := this.1
      rw [← e] at h3
      have h4 : (cellsF (List.replicate n zf))[i]? = some (.int .i64 0) := by
        simp only [cellsF, List.getElem?_toArray, h3]
        rw [List.getElem?_replicate_of_lt (by omega)]
        rfl
      rw [Array.getElem?_eq_getElem h2] at h4
      simp only [Option.some.injEq] at h4
      rw [h4]
      simp [madeCells, h]
    · have e : i = i / 2 * 2 + 1 := by omega
      have h3 := this.2
      rw [← e] at h3
      have h4 : (cellsF (List.replicate n zf))[i]? = some (.slice none 0 0) := by
        simp only [cellsF, List.getElem?_toArray, h3]
        rw [List.getElem?_replicate_of_lt (by omega)]
        rfl
      rw [Array.getElem?_eq_getElem h2] at h4
      simp only [Option.some.injEq] at h4
      rw [h4]
      simp [madeCells, h]

/-- The row at block g. -/
theorem cellsF_at {w : World} {g : Nat} {l : List Fd} {t : TypeId} (h : w.heap[g]? = some (.cells (cellsF l) t (0, 0))) (i : Nat) (hi : i < l.length) :
    w.cell? ⟨g, i * 2, none⟩ = some (.int .i64 (l.getD i zf).tag) ∧ w.cell? ⟨g, i * 2 + 1, none⟩ = some (.slice (l.getD i zf).p (l.getD i zf).d.length (l.getD i zf).cap) ∧ w.frozen? ⟨g, i * 2, none⟩ = false ∧ w.frozen? ⟨g, i * 2 + 1, none⟩ = false := by
  obtain ⟨h1, h2⟩ := flat_get l i
  simp [World.cell?, World.frozen?, h, cellsF, h1, h2, hi, List.getD]

/-- A block's cells behind a store. -/
theorem fset_at {w : World} {g i : Nat} {cs : Array Value} {t : TypeId} {f : Nat × Nat} (h : w.heap[g]? = some (.cells cs t f)) (u : Value) :
    (w.setCell ⟨g, i, none⟩ u).heap[g]? = some (.cells (cs.setIfInBounds i u) t f) := by
  simp [World.setCell, Array.getElem?_modify, h]

theorem FOk.fr {S : Nat → Prop} {w w' : World} {f : Fd} (h : FOk w f) (k : Fr S w w') (hn : 0 < f.d.length → ∀ a, f.p = some a → ¬ S a.block) : FOk w' f :=
  ⟨h.tag, h.len, h.cap, h.nil, fun hl => (h.bin.fr k (fun a ha _ => hn hl a ha)) hl, h.isb, h.few⟩

/-- Its bytes lie behind block g. -/
structure FOkN (g : Nat) (w : World) (f : Fd) : Prop where
  ok : FOk w f
  off : 0 < f.d.length → ∀ a, f.p = some a → g < a.block

theorem FOkN.below {g : Nat} {w w' : World} {f : Fd} (h : FOkN g w f) (k : Below w.heap.size w w') : FOkN g w' f := ⟨h.ok.below k, h.off⟩
theorem FOkN.fr {g : Nat} {w w' : World} {f : Fd} (h : FOkN g w f) (k : Fr (fun i => i = g) w w') : FOkN g w' f := ⟨h.ok.fr k fun hl a ha q => by have := h.off hl a ha; omega, h.off⟩

theorem FIn.of_row {w : World} {g : Nat} {t : TypeId} {l : List Fd} (h : w.heap[g]? = some (.cells (cellsF l) t (0, 0))) (hok : ∀ f ∈ l, FOk w f) : FIn w (some ⟨g, 0, none⟩) l := by
  refine FIn.of fun i hi => ?_
  obtain ⟨h1, h2, _, _⟩ := cellsF_at h i hi
  rw [Nat.zero_add]
  refine ⟨h1, h2, hok _ ?_⟩
  simp [List.getD, hi]

/-- While a bag is copied: what is done, and all that is old. -/
structure InCp (w : World) (l : List Fd) (k : Nat) (done : List Fd) (W : World) : Prop where
  row : W.heap[w.heap.size]? = some (.cells (cellsF (done ++ List.replicate (l.length - k) zf)) 55 (0, 0))
  len : done.length = k
  keys : kys done = kys (l.take k)
  oks : ∀ f ∈ done, FOkN w.heap.size W f
  below : Below w.heap.size w W

theorem InCp.lt {w W : World} {l done : List Fd} {k : Nat} (h : InCp w l k done W) : w.heap.size < W.heap.size := (Array.getElem?_eq_some_iff.1 h.row).1

theorem InCp.on {w W W' : World} {l done : List Fd} {k : Nat} (h : InCp w l k done W) (b : Below W.heap.size W W') : InCp w l k done W' :=
  ⟨by rw [b.block _ h.lt]; exact h.row, h.len, h.keys, fun f hf => (h.oks f hf).below b, h.below.trans (b.mono h.below.size)⟩

theorem InCp.next {w W : World} {l done : List Fd} {k : Nat} (h : InCp w l k done W) (hk : k < l.length) (f : Fd) (hf : FOkN w.heap.size W f) (hky : ky f = ky (l.getD k zf)) :
    InCp w l (k + 1) (done ++ [f]) ((W.setCell ⟨w.heap.size, k * 2, none⟩ (.int .i64 f.tag)).setCell ⟨w.heap.size, k * 2 + 1, none⟩ (.slice f.p f.d.length f.cap)) := by
  have hfr : Fr (fun i => i = w.heap.size) W ((W.setCell ⟨w.heap.size, k * 2, none⟩ (.int .i64 f.tag)).setCell ⟨w.heap.size, k * 2 + 1, none⟩ (.slice f.p f.d.length f.cap)) := Fr.setCell (p := ⟨w.heap.size, k * 2 + 1, none⟩) (Fr.setCell (p := ⟨w.heap.size, k * 2, none⟩) (Fr.refl (fun i => i = w.heap.size) _) (.inl rfl) _) (.inl rfl) _
  refine ⟨?_, by simp [h.len], ?_, ?_, (h.below.setCell (by simp) _).setCell (by simp) _⟩
  · have h1 := fset_at (fset_at h.row (i := k * 2) (.int .i64 f.tag)) (i := k * 2 + 1) (.slice f.p f.d.length f.cap)
    rw [h1, cellsF_set]
    congr 2
    rw [← h.len]
    rw [show l.length - done.length = (l.length - (done.length + 1)) + 1 by have := h.len; omega, List.replicate_succ]
    simp
  · rw [take_next l k hk, kys_append, kys_append, h.keys]
    simp [kys, hky]
  · intro x hx
    rcases List.mem_append.1 hx with q | q
    · exact (h.oks x q).fr hfr
    · simp at q; subst q; exact hf.fr hfr

/-- The same in the midst of a round: the place k may be written or not. -/
structure InCq (w : World) (l : List Fd) (k : Nat) (done : List Fd) (y : Fd) (bx : Nat) (X : World) : Prop where
  row : ∃ z, X.heap[w.heap.size]? = some (.cells (cellsF (done ++ z :: List.replicate (l.length - (k + 1)) zf)) 55 (0, 0))
  len : done.length = k
  keys : kys done = kys (l.take k)
  oks : ∀ f ∈ done, FOkN w.heap.size X f
  below : Below w.heap.size w X
  box : X.heap[bx]? = some (.cells #[.int .i64 y.tag, .slice y.p y.d.length y.cap] 55 (0, 0))

theorem InCq.on {w X X' : World} {l done : List Fd} {k bx : Nat} {y : Fd} (h : InCq w l k done y bx X) (b : Below X.heap.size X X') : InCq w l k done y bx X' := by
  obtain ⟨z, hz⟩ := h.row
  exact ⟨⟨z, by rw [b.block _ (Array.getElem?_eq_some_iff.1 hz).1]; exact hz⟩, h.len, h.keys, fun f hf => (h.oks f hf).below b, h.below.trans (b.mono h.below.size), by rw [b.block _ (Array.getElem?_eq_some_iff.1 h.box).1]; exact h.box⟩

theorem InCp.q {w W : World} {l done : List Fd} {k : Nat} (h : InCp w l k done W) (hk : k < l.length) {y : Fd} {bx : Nat} (box : W.heap[bx]? = some (.cells #[.int .i64 y.tag, .slice y.p y.d.length y.cap] 55 (0, 0))) : InCq w l k done y bx W :=
  ⟨⟨zf, by have := h.row; rwa [show l.length - k = (l.length - (k + 1)) + 1 by omega, List.replicate_succ] at this⟩, h.len, h.keys, h.oks, h.below, box⟩

theorem InCq.cells {w X : World} {l done : List Fd} {k bx : Nat} {y : Fd} (h : InCq w l k done y bx X) : ∃ z : Fd, X.cell? ⟨w.heap.size, k * 2, none⟩ = some (.int .i64 z.tag) ∧ X.cell? ⟨w.heap.size, k * 2 + 1, none⟩ = some (.slice z.p z.d.length z.cap) ∧ X.frozen? ⟨w.heap.size, k * 2, none⟩ = false ∧ X.frozen? ⟨w.heap.size, k * 2 + 1, none⟩ = false := by
  obtain ⟨z, hz⟩ := h.row
  have := cellsF_at hz k (by simp [h.len])
  rw [show (done ++ z :: List.replicate (l.length - (k + 1)) zf).getD k zf = z by rw [← h.len]; simp [List.getD]] at this
  exact ⟨z, this⟩

theorem InCq.put {w X : World} {l done : List Fd} {k bx : Nat} {y : Fd} (h : InCq w l k done y bx X) (hk : k < l.length) (f : Fd) (hf : FOkN w.heap.size X f) (hky : ky f = ky (l.getD k zf)) (hbx : bx ≠ w.heap.size) :
    InCp w l (k + 1) (done ++ [f]) ((X.setCell ⟨w.heap.size, k * 2, none⟩ (.int .i64 f.tag)).setCell ⟨w.heap.size, k * 2 + 1, none⟩ (.slice f.p f.d.length f.cap)) ∧
    InCq w l k done y bx ((X.setCell ⟨w.heap.size, k * 2, none⟩ (.int .i64 f.tag)).setCell ⟨w.heap.size, k * 2 + 1, none⟩ (.slice f.p f.d.length f.cap)) := by
  obtain ⟨z, hz⟩ := h.row
  have hfr : Fr (fun i => i = w.heap.size) X ((X.setCell ⟨w.heap.size, k * 2, none⟩ (.int .i64 f.tag)).setCell ⟨w.heap.size, k * 2 + 1, none⟩ (.slice f.p f.d.length f.cap)) := Fr.setCell (p := ⟨w.heap.size, k * 2 + 1, none⟩) (Fr.setCell (p := ⟨w.heap.size, k * 2, none⟩) (Fr.refl (fun i => i = w.heap.size) _) (.inl rfl) _) (.inl rfl) _
  have hrow : ((X.setCell ⟨w.heap.size, k * 2, none⟩ (.int .i64 f.tag)).setCell ⟨w.heap.size, k * 2 + 1, none⟩ (.slice f.p f.d.length f.cap)).heap[w.heap.size]? = some (.cells (cellsF (done ++ f :: List.replicate (l.length - (k + 1)) zf)) 55 (0, 0)) := by
    have h1 := fset_at (fset_at hz (i := k * 2) (.int .i64 f.tag)) (i := k * 2 + 1) (.slice f.p f.d.length f.cap)
    rw [h1, cellsF_set]
    congr 3
    rw [← h.len]
    simp
  have hb := (h.below.setCell (p := ⟨w.heap.size, k * 2, none⟩) (Nat.le_refl _) (.int .i64 f.tag)).setCell (p := ⟨w.heap.size, k * 2 + 1, none⟩) (Nat.le_refl _) (.slice f.p f.d.length f.cap)
  refine ⟨⟨by rw [hrow]; simp, by simp [h.len], ?_, ?_, hb⟩, ⟨⟨f, hrow⟩, h.len, h.keys, fun f hf => (h.oks f hf).fr hfr, hb, ?_⟩⟩
  · rw [take_next l k hk, kys_append, kys_append, h.keys]
    simp [kys, hky]
  · intro x hx
    rcases List.mem_append.1 hx with q | q
    · exact (h.oks x q).fr hfr
    · simp at q; subst q; exact hf.fr hfr
  · rw [hfr.block _ (Array.getElem?_eq_some_iff.1 h.box).1 hbx]; exact h.box



end Go.Proofs.YtmejfkhikgcgmaaDoor
namespace Go.Proofs.YtmejfkhikgcgmaaDoor
open Go.RowKit
set_option linter.unusedSimpArgs false
set_option linter.unusedVariables false
set_option maxRecDepth 10000

/-- The bytes of the first field with a tag. -/
def getK (v : Int) : List Key → Option (List Int)
  | [] => none
  | x :: t => if x.1 = v then some x.2 else getK v t

def GetPost (w : World) : Option (List Int) → Ending → World → Prop
  | some d, e, w' => ∃ g, e = .returned (.tuple #[.slice (some ⟨g, 0, none⟩) d.length d.length, .bool true]) ∧ w'.heap[g]? = some (.cells (cellsB d) 5 (0, 0)) ∧ w.heap.size ≤ g ∧ isB d ∧ Below w.heap.size w w'
  | none, e, w' => e = .returned (.tuple #[.slice none 0 0, .bool false]) ∧ Below w.heap.size w w'



theorem flat_one (l : List Fd) : ∀ u ∈ l.flatMap Fd.cells, u.oneCell' = true := by
  intro u hu
  simp only [List.mem_flatMap, Fd.cells, List.mem_cons, List.not_mem_nil, or_false] at hu
  obtain ⟨f, _, rfl | rfl⟩ := hu <;> rfl

theorem FIn.news {w : World} {p : Option Addr} {l : List Fd} (h : FIn w p l) : 0 < l.length → ∃ a, p = some a ∧ ∀ j u, (l.flatMap Fd.cells)[j]? = some u → w.cell? (a.add j) = some u := fun hl => by
  obtain ⟨b, o, rfl, hc⟩ := h.at hl
  refine ⟨_, rfl, fun j u hj => ?_⟩
  have hlt : j < l.length * 2 := by rw [← flat_len]; exact (List.getElem?_eq_some_iff.1 hj).1
  obtain ⟨h1, h2, _⟩ := hc (j / 2) (by omega)
  obtain ⟨g1, g2⟩ := flat_get l (j / 2)
  have hl2 : j / 2 < l.length := by omega
  rw [Go.WideShapes.add_plain]
  rcases Nat.mod_two_eq_zero_or_one j with q | q
  · have e : j = j / 2 * 2 := by omega
    rw [e] at hj ⊢
    rw [g1] at hj
    rw [h1, ← hj]
    simp [List.getD, hl2]
  · have e : j = j / 2 * 2 + 1 := by omega
    rw [e] at hj ⊢
    rw [g2] at hj
    rw [← Nat.add_assoc, h2, ← hj]
    simp [List.getD, hl2]

/-- A row that is owned, as fields. -/
theorem own_fin {w : World} {B : Nat} {v : Value} {n : Nat} {l : List Fd} (h : OwnR 55 2 w B v n (l.flatMap Fd.cells)) (hok : ∀ f ∈ l, FOk w f) : ∃ p c, v = .slice p l.length c ∧ FIn w p l ∧ (p = none → c = 0) ∧ l.length ≤ c ∧ c ≤ maxLen := by
  have hn : n = l.length := by have := h.owns.1; rw [flat_len] at this; omega
  subst hn
  obtain ⟨p, c, rfl, h1, h2, h3, h4⟩ := h.slice
  refine ⟨p, c, rfl, fun hl => ?_, h1, h2, h3⟩
  obtain ⟨g, rfl, _, hc⟩ := h4 hl
  refine FIn.of (fun i hi => ?_) hl
  obtain ⟨g1, g2⟩ := flat_get l i
  refine ⟨?_, ?_, hok _ (by simp [List.getD, hi])⟩
  · rw [Nat.zero_add]; exact hc _ _ (by rw [g1]; simp [List.getD, hi])
  · rw [Nat.zero_add]; exact hc _ _ (by rw [g2]; simp [List.getD, hi])

/-- Bags in a slice: where each lies. -/
structure Pt where
  p : Option Addr
  c : Nat
  l : List Fd
def zp : Pt := ⟨none, 0, []⟩
structure PIn (w : World) (b : Nat) (ps : List Pt) : Prop where
  cell : ∀ i, i < ps.length → w.cell? ⟨b, i, none⟩ = some (.slice (ps.getD i zp).p (ps.getD i zp).l.length (ps.getD i zp).c)
  fin : ∀ x ∈ ps, FIn w x.p x.l
  nil : ∀ x ∈ ps, x.p = none → x.c = 0

theorem PIn.below {w w' : World} {b : Nat} {ps : List Pt} (h : PIn w b ps) (k : Below w.heap.size w w') : PIn w' b ps :=
  ⟨fun i hi => by rw [k.cell (p := ⟨b, i, none⟩) (lt_of_cell (h.cell i hi))]; exact h.cell i hi, fun x hx => (h.fin x hx).below k, h.nil⟩

def allP (ps : List Pt) : List Fd := ps.flatMap Pt.l
theorem allP_next (ps : List Pt) (k : Nat) (h : k < ps.length) : allP (ps.take (k + 1)) = allP (ps.take k) ++ (ps.getD k zp).l := by
  unfold allP
  rw [List.take_succ_eq_append_getElem h, List.flatMap_append]; simp [List.getD, h]
theorem allP_le (ps : List Pt) (k : Nat) : (allP (ps.take k)).length ≤ (allP ps).length := by
  have : allP ps = allP (ps.take k) ++ allP (ps.drop k) := by simp only [allP]; rw [← List.flatMap_append, List.take_append_drop]
  rw [this, List.length_append]; omega

theorem flatF_append (a b : List Fd) : (a ++ b).flatMap Fd.cells = a.flatMap Fd.cells ++ b.flatMap Fd.cells := List.flatMap_append


end Go.Proofs.YtmejfkhikgcgmaaDoor
namespace Go.Proofs.YtmejfkhikgcgmaaDoor
open Go.RowKit
set_option linter.unusedSimpArgs false
set_option linter.unusedVariables false
set_option maxRecDepth 10000

def putK (x : Key) (l : List Key) : List Key := l.takeWhile (fun y => decide (y.1 ≤ x.1)) ++ x :: l.dropWhile (fun y => decide (y.1 ≤ x.1))

def PutPost (w : World) (x : Key) (L : List Key) (e : Ending) (w' : World) : Prop :=
  (if (mayK L && mayK [x]) = true then
    (if mayK (putK x L) = true then ∃ g l', e = .returned (.tuple #[.slice (some ⟨g, 0, none⟩) l'.length l'.length, .int .i64 0]) ∧ kys l' = putK x L ∧ FIn w' (some ⟨g, 0, none⟩) l' ∧ w.heap.size ≤ g
     else e = .returned (.tuple #[.slice none 0 0, .int .i64 6]))
   else e = .returned (.tuple #[.slice none 0 0, .int .i64 1])) ∧ Below w.heap.size w w'

theorem FIn.take {w : World} {p : Option Addr} {l : List Fd} (h : FIn w p l) (n : Nat) : FIn w p (l.take n) := fun hl => by
  simp at hl
  obtain ⟨b, o, rfl, hc⟩ := h.at (by omega)
  refine FIn.of (fun i hi => ?_) (by simpa using hl)
  simp at hi
  have := hc i (by omega)
  rwa [show (l.take n).getD i zf = l.getD i zf by simp [List.getD, List.getElem?_take, show i < n by omega]]

theorem FIn.drop {w : World} {p : Option Addr} {l : List Fd} (h : FIn w p l) (n : Nat) : FIn w (p.map fun x => x.add (n * 2)) (l.drop n) := fun hl => by
  simp at hl
  obtain ⟨b, o, rfl, hc⟩ := h.at (by omega)
  rw [Option.map_some, Go.WideShapes.add_plain]
  refine FIn.of (fun i hi => ?_) (by simpa using hl)
  simp at hi
  have := hc (n + i) (by omega)
  rw [show o + (n + i) * 2 = o + n * 2 + i * 2 by omega] at this
  rwa [show (l.drop n).getD i zf = l.getD (n + i) zf by simp [List.getD]]

theorem FIn.one {w : World} {g : Nat} {f : Fd} {t : TypeId} (h : w.heap[g]? = some (.cells #[.int .i64 f.tag, .slice f.p f.d.length f.cap] t (0, 0))) (hf : FOk w f) : FIn w (some ⟨g, 0, none⟩) [f] := by
  obtain ⟨h0, h1, _, _⟩ := two_cells h
  refine FIn.of fun i hi => ?_
  obtain rfl : i = 0 := by simp at hi; omega
  exact ⟨h0, h1, hf⟩

theorem while_take {l : List Fd} {v : Int} {k : Nat} (hk : k ≤ l.length) (h1 : ∀ f ∈ l.take k, f.tag ≤ v) (h2 : k < l.length → v < (l.getD k zf).tag) :
    (kys l).takeWhile (fun y => decide (y.1 ≤ v)) = kys (l.take k) ∧ (kys l).dropWhile (fun y => decide (y.1 ≤ v)) = kys (l.drop k) := by
  induction l generalizing k with
  | nil => simp [kys]
  | cons a l ih =>
    cases k with
    | zero =>
      have : ¬ a.tag ≤ v := by have := h2 (by simp); simp at this; omega
      simp [kys, ky, this, List.takeWhile_cons, List.dropWhile_cons]
    | succ k =>
      have ha : a.tag ≤ v := h1 a (by simp)
      have := ih (k := k) (by simpa using hk) (fun f hf => h1 f (by simp [hf])) (fun h => by simpa using h2 (by simpa using h))
      simp only [kys] at this ⊢
      simp [ky, ha, List.takeWhile_cons, List.dropWhile_cons, this]

theorem szK_one (x : Key) : szK [x] = x.2.length := by simp [szK]

/-- What stays while a field is put. -/
structure InPt (w : World) (f : Fd) (X : World) : Prop where
  below : Below w.heap.size w X
  box : X.heap[w.heap.size]? = some (.cells #[.int .i64 f.tag, .slice f.p f.d.length f.cap] 55 (0, 0))
  one : X.heap[w.heap.size + 1]? = some (.cells #[.int .i64 f.tag, .slice f.p f.d.length f.cap] 55 (0, 0))

theorem InPt.on {w X X' : World} {f : Fd} (h : InPt w f X) (k : Below X.heap.size X X') : InPt w f X' :=
  ⟨h.below.trans (k.mono h.below.size), by rw [k.block _ (Array.getElem?_eq_some_iff.1 h.box).1]; exact h.box, by rw [k.block _ (Array.getElem?_eq_some_iff.1 h.one).1]; exact h.one⟩

theorem FIn.oks {w : World} {p : Option Addr} {l : List Fd} (h : FIn w p l) : ∀ x ∈ l, FOk w x := fun x hx => by
  obtain ⟨i, hi, rfl⟩ := List.getElem_of_mem hx
  obtain ⟨_, _, _, hc⟩ := h.at (by omega)
  have := (hc i hi).2.2
  simpa [List.getD, hi] using this

/-- The three parts of what is put together. -/
theorem parts_in {X w : World} {p q : Option Addr} {c k : Nat} {l : List Fd} {f : Fd} (hk : k ≤ l.length) (hp : FIn X p l) (hf : FOk X f) (hq : FIn X q (l.drop k)) (hpn : p = none → c = 0) (hqn : q = none → c - k = 0)
    (h1 : X.heap[w.heap.size + 1]? = some (.cells #[.int .i64 f.tag, .slice f.p f.d.length f.cap] 55 (0, 0))) :
    PIn (X.alloc (.cells #[.slice p k c, .slice (some ⟨w.heap.size + 1, 0, none⟩) 1 1, .slice q (l.length - k) (c - k)] 42)) X.heap.size [⟨p, c, l.take k⟩, ⟨some ⟨w.heap.size + 1, 0, none⟩, 1, [f]⟩, ⟨q, c - k, l.drop k⟩] := by
  have hnew := heap_alloc_new X (.cells #[.slice p k c, .slice (some ⟨w.heap.size + 1, 0, none⟩) 1 1, .slice q (l.length - k) (c - k)] 42)
  have hb := (Below.refl X.heap.size X).alloc (Nat.le_refl _) (.cells #[.slice p k c, .slice (some ⟨w.heap.size + 1, 0, none⟩) 1 1, .slice q (l.length - k) (c - k)] 42)
  generalize X.alloc (.cells #[.slice p k c, .slice (some ⟨w.heap.size + 1, 0, none⟩) 1 1, .slice q (l.length - k) (c - k)] 42) = Y at hnew hb ⊢
  refine ⟨fun i hi => ?_, fun x hx => ?_, fun x hx => ?_⟩
  · have : i = 0 ∨ i = 1 ∨ i = 2 := by simp at hi; omega
    rcases this with rfl | rfl | rfl
    · simp [World.cell?, hnew, Nat.min_eq_left hk]
    · simp [World.cell?, hnew]
    · simp [World.cell?, hnew]
  · simp only [List.mem_cons, List.not_mem_nil, or_false] at hx
    rcases hx with rfl | rfl | rfl
    · exact (hp.below hb).take k
    · exact FIn.one (by rw [hb.block _ (Array.getElem?_eq_some_iff.1 h1).1]; exact h1) (hf.below hb)
    · exact hq.below hb
  · simp only [List.mem_cons, List.not_mem_nil, or_false] at hx
    rcases hx with rfl | rfl | rfl
    · exact hpn
    · simp
    · exact hqn


end Go.Proofs.YtmejfkhikgcgmaaDoor
