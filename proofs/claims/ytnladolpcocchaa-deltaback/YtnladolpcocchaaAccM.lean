/-
  'append(b, x, y, z)' of bytes that were laid for it; whole numbers in a slice.
-/
import Derived.Test.YtnladolpcocchaaAcc
import Derived.Test.YtnladolpcocchaaOctetW
import Derived.Test.YtnladolpcocchaaOctetR
import Derived.Test.YtnladolpcocchaaShapes
namespace Go.Proofs.Ytnladolpcocchaa
open Go.RowKit
set_option linter.unusedSimpArgs false
set_option linter.unusedVariables false
set_option maxRecDepth 10000

theorem brow_cell {w : World} {g : Nat} {l : List Int} {e : TypeId} (h : w.heap[g]? = some (.cells (cellsB l) e (0, 0))) (i : Nat) (hi : i < l.length) : w.cell? ⟨g, i, none⟩ = some (.int .u8 l[i]) ∧ w.frozen? ⟨g, i, none⟩ = false := by
  simp [World.cell?, World.frozen?, h, cellsB, hi]
theorem brow_set {w : World} {g : Nat} {l : List Int} {e : TypeId} (h : w.heap[g]? = some (.cells (cellsB l) e (0, 0))) (i : Nat) (x : Int) : (w.setCell ⟨g, i, none⟩ (.int .u8 x)).heap[g]? = some (.cells (cellsB (l.set i x)) e (0, 0)) := by
  simp [World.setCell, Array.getElem?_modify, h, cellsB, List.map_set]

/-- The row of digits behind j rounds. -/
def dRow (n : Nat) (v : Int) (j : Nat) : List Int := List.replicate (n - j) 0 ++ (digB n v).drop (n - j)
theorem dRow_len (n : Nat) (v : Int) (j : Nat) (hj : j ≤ n) : (dRow n v j).length = n := by simp [dRow, digB_len, hj]
theorem dRow_zero (n : Nat) (v : Int) : dRow n v 0 = List.replicate n 0 := by
  simp [dRow, List.drop_eq_nil_of_le, digB_len]
theorem dRow_all (n : Nat) (v : Int) : dRow n v n = digB n v := by simp [dRow]
theorem dRow_step (n : Nat) (v : Int) (j : Nat) (hj : j < n) : (dRow n v j).set (n - 1 - j) (v / 256 ^ j % 256) = dRow n v (j + 1) := by
  have e1 : n - j = (n - 1 - j) + 1 := by omega
  have e2 : n - (j + 1) = n - 1 - j := by omega
  have hl : n - 1 - j < (digB n v).length := by rw [digB_len]; omega
  unfold dRow
  rw [e1, e2, List.drop_eq_getElem_cons hl, List.replicate_succ', List.append_assoc]
  rw [List.set_append_right _ _ (by simp)]
  have e3 : n - 1 - (n - 1 - j) = j := by omega
  simp [digB, e3]

/-- 'append(v, x...)' of bytes in a walk: what has turned, and where it lies then. -/
theorem wpList_accF {w : World} {ops : Array Oper} {rest : List Oper} {o : Oper} {a : Act} {Q : Exit → Act → World → Prop} (hgd : o.guard = none) (s x : Operand)
    (ho : o.op = .call { callee := .builtin .append, args := #[s, x], argTypes := #[53, 53] })
    (B : Nat) (v : Value) (l : List Int) (hs : a.eval s = v) (hown : Acc w B v l) (hB : B ≤ w.heap.size)
    (p : Option Addr) (c : Nat) (m : List Int) (hx : a.eval x = .slice p m.length c) (hp0 : p = none → c = 0) (hm : BIn w p m)
    (hlen : l.length + m.length ≤ 140737488355328)
    (h : ∀ v' w', Acc w' B v' (l ++ m) → Below B w w' → Fr (fun k => v.ownBlock = some k) w w' → Moved w v v' → wpList Try.prog ops Q rest (a.put o.dst v') w') : wpList Try.prog ops Q (o :: rest) a w := by
  obtain ⟨i0, hi, hz0, hz1, hz2⟩ := info_parts infoA
  exact wpList_append_fr hgd s x 53 ho 5 i0 (.int .u8 0) 1 1 Try.underlying53 hi hz0 hz1 hz2 rfl (by decide) v l.length (l.map (Value.int .u8)) hs hown.owns p m.length c (m.map (Value.int .u8)) hx hp0 (by simp) hm.news (oneCells m) (by simp only [maxLen]; omega) (by omega)
    fun v' w' hA => h v' w' (hown.next hB hA).1 (hown.next hB hA).2 hA.fr hA.moved

theorem acc_ne {w : World} {B : Nat} {v : Value} {l : List Int} (h : Acc w B v l) (g : Nat) (hg : w.heap.size ≤ g) : v.ownBlock ≠ some g := fun q => by
  have := (h.owns.lt g q).2
  omega

/-- 'append(v, x, y, ..)' of bytes that were laid for it. -/
theorem wpList_accM {w : World} {ops : Array Oper} {rest : List Oper} {o : Oper} {a : Act} {Q : Exit → Act → World → Prop} {cs : Array Value} (hgd : o.guard = none) (s x : Operand)
    (ho : o.op = .call { callee := .builtin .append, args := #[s, x], argTypes := #[53, 53] })
    (B : Nat) (v : Value) (l : List Int) (hs : a.eval s = v) (hown : Acc w B v l) (hB : B ≤ w.heap.size) (m : List Int) (hcs : cs = cellsB m)
    (hx : a.eval x = .slice (some ⟨w.heap.size, 0, none⟩) m.length m.length)
    (hlen : l.length + m.length ≤ 140737488355328)
    (h : ∀ v' w', Acc w' B v' (l ++ m) → Below B w w' → Fr (fun k => v.ownBlock = some k) w w' → Moved w v v' → wpList Try.prog ops Q rest (a.put o.dst v') w') : wpList Try.prog ops Q (o :: rest) a (w.alloc (.cells cs 5)) := by
  subst hcs
  have b : Below w.heap.size w (w.alloc (.cells (cellsB m) 5)) := (Below.refl _ _).alloc (Nat.le_refl _) _
  refine wpList_accF hgd s x ho B v l hs (hown.below b) (Nat.le_trans hB b.size) (some ⟨w.heap.size, 0, none⟩) m.length m hx (by simp) (BIn.of_block (rest := []) (e := 5) (f := (0, 0)) (by rw [heap_alloc_new]; simp [cellsB])) hlen fun v' w' h1 h2 h3 h4 => h v' w' h1 ((b.mono hB).trans h2) ((Fr.of_below b _).trans h3 fun _ q => .inl q) ?_
  rcases h4 with q | ⟨k, hk, hk2⟩
  · exact .inl q
  · exact .inr ⟨k, hk, Nat.le_trans b.size hk2⟩

/-- The slice at p has the whole numbers l. -/
def NIn (w : World) (p : Option Addr) (l : List Int) : Prop :=
  0 < l.length → ∃ b o, p = some ⟨b, o, none⟩ ∧ ∀ i, i < l.length → w.cell? ⟨b, o + i, none⟩ = some (.int .i64 (l.getD i 0))
theorem NIn.fr {S : Nat → Prop} {w w' : World} {p : Option Addr} {l : List Int} (h : NIn w p l) (k : Fr S w w') (hn : ∀ a, p = some a → a.block < w.heap.size → ¬ S a.block) : NIn w' p l := fun hl => by
  obtain ⟨b, o, rfl, hc⟩ := h hl
  refine ⟨b, o, rfl, fun i hi => ?_⟩
  have hb : b < w.heap.size := lt_of_cell (hc 0 hl)
  rw [k.cell (p := ⟨b, o + i, none⟩) hb (hn ⟨b, o, none⟩ rfl hb)]
  exact hc i hi
theorem NIn.below {w w' : World} {p : Option Addr} {l : List Int} (h : NIn w p l) (k : Below w.heap.size w w') : NIn w' p l :=
  h.fr (Fr.of_below k fun _ => False) fun _ _ _ q => q
theorem NIn.of_block {w : World} {g : Nat} {e : TypeId} {f : Nat × Nat} {l : List Int} {rest : List Value} (h : w.heap[g]? = some (.cells ((l.map (Value.int .i64) ++ rest).toArray) e f)) : NIn w (some ⟨g, 0, none⟩) l := fun _ => by
  refine ⟨g, 0, rfl, fun i hi => ?_⟩
  simp [World.cell?, h, List.getElem?_append, hi, List.getD]
end Go.Proofs.Ytnladolpcocchaa
