/-
  Bytes that grow by 'append' in memory of their own: an accumulator.
-/
import Derived.Test.YtnladolpcocchaaRows
import Derived.Test.YtnladolpcocchaaBase
import Derived.WalkKit
import Derived.WalkSpells
import Derived.WalkLawsBesides
import Derived.Deep.OwnRows
namespace Go.Proofs.Ytnladolpcocchaa
open Go.RowKit
set_option linter.unusedSimpArgs false
set_option linter.unusedVariables false
set_option maxRecDepth 10000

theorem infoA : (Try.prog.info? 5).map (fun i => (i.zero, i.size, i.bytes)) = some (some (.int .u8 0), 1, 1) := by kernel_rfl

/-- v owns the bytes l, in a block from B on. -/
structure Acc (w : World) (B : Nat) (v : Value) (l : List Int) : Prop where
  owns : w.ownsRow 0 5 1 v l.length (l.map (Value.int .u8))
  above : ∀ k, v.ownBlock = some k → B ≤ k

theorem Acc.nil (w : World) (B : Nat) : Acc w B (.slice none 0 0) [] := ⟨World.ownsRow_nil _ _ _ _, fun k hk => by cases hk⟩

/-- '[]byte{}'. -/
theorem Acc.empty {w : World} {g B : Nat} (h : w.heap[g]? = some (.cells #[] 5 (0, 0))) (hB : B ≤ g) : Acc w B (.slice (some ⟨g, 0, none⟩) 0 0) [] :=
  ⟨⟨by simp, .inr ⟨g, 0, #[], rfl, Nat.zero_le _, h, Nat.le_refl _, by simp [maxLen], by simp, by simp⟩⟩, fun k hk => by cases hk; exact hB⟩

theorem Acc.fr {S : Nat → Prop} {w w' : World} {B : Nat} {v : Value} {l : List Int} (h : Acc w B v l) (k : Fr S w w') (hn : ∀ g, v.ownBlock = some g → ¬ S g) : Acc w' B v l := ⟨owns_fr h.owns k hn, h.above⟩

theorem Acc.below {w w' : World} {B : Nat} {v : Value} {l : List Int} (h : Acc w B v l) (k : Below w.heap.size w w') : Acc w' B v l :=
  h.fr (Fr.of_below k fun _ => False) fun _ _ q => q

theorem Acc.mono {w : World} {B B' : Nat} {v : Value} {l : List Int} (h : Acc w B v l) (k : B' ≤ B) : Acc w B' v l := ⟨h.owns, fun g hg => Nat.le_trans k (h.above g hg)⟩

theorem Acc.slice {w : World} {B : Nat} {v : Value} {l : List Int} (h : Acc w B v l) : ∃ p c, v = .slice p l.length c ∧ BIn w p l ∧ (p = none → c = 0) ∧ l.length ≤ c ∧ c ≤ maxLen := by
  obtain ⟨p, c, h1, h2, h3, h4, h5, _⟩ := owns_BIn h.owns
  exact ⟨p, c, h1, h2, h3, h4, h5⟩

/-- Behind an append. -/
theorem Acc.next {w w' : World} {B : Nat} {v v' : Value} {l m : List Int} (h : Acc w B v l) (hB : B ≤ w.heap.size) (hA : Appended w 5 1 v l.length (l.map (Value.int .u8)) m.length (m.map (Value.int .u8)) v' w') : Acc w' B v' (l ++ m) ∧ Below B w w' := by
  refine ⟨⟨?_, fun k hk => ?_⟩, hA.fr.below (fun i q => h.above i q) hB⟩
  · rw [List.length_append, List.map_append]; exact hA.owns
  · rcases hA.moved with q | ⟨g, hg, hg2⟩
    · rw [q] at hk; exact h.above k hk
    · rw [hg] at hk; cases hk; omega

/-- One byte of its own is turned. -/
theorem Acc.set {w : World} {B : Nat} {v : Value} {l : List Int} (h : Acc w B v l) (i : Nat) (hi : i < l.length) :
    ∃ g cap, v = .slice (some ⟨g, 0, none⟩) l.length cap ∧ B ≤ g ∧ g < w.heap.size ∧ l.length ≤ cap ∧ cap ≤ maxLen ∧ w.cell? ⟨g, i, none⟩ = some (.int .u8 (l.getD i 0)) ∧ w.frozen? ⟨g, i, none⟩ = false ∧
      ∀ x : Int, Acc (w.setCell ⟨g, i, none⟩ (.int .u8 x)) B v (l.set i x) := by
  obtain ⟨h1, h2⟩ := h
  rcases h1.2 with ⟨rfl, h0⟩ | ⟨g, cap, cur, rfl, hb, hg, hnc, hcm, hcs, ht⟩
  · omega
  · rw [Nat.mul_one] at ht
    have hic : i < cur.size := by omega
    have hci : cur.toList[i]? = some (.int .u8 (l.getD i 0)) := by
      have : (cur.toList.take l.length)[i]? = (l.map (Value.int .u8))[i]? := by rw [ht]
      rw [List.getElem?_take, if_pos hi, List.getElem?_map] at this
      rw [this]
      simp [List.getD, hi]
    refine ⟨g, cap, rfl, h2 g rfl, (Array.getElem?_eq_some_iff.1 hg).1, hnc, hcm, ?_, ?_, fun x => ⟨⟨by simp, .inr ⟨g, cap, cur.setIfInBounds i (.int .u8 x), by simp, hb, ?_, by simpa using hnc, hcm, by simpa using hcs, ?_⟩⟩, fun k hk => by cases hk; exact h2 g rfl⟩⟩
    · rw [← hci]; simp [World.cell?, hg]
    · simp [World.frozen?, hg]
    · simp [World.setCell, Array.getElem?_modify, hg]
    · rw [Array.toList_setIfInBounds, Nat.mul_one, List.length_set, List.take_set, ht, List.map_set]

section
/-- 'append(v, x...)' in a walk. -/
theorem wpList_acc {w : World} {ops : Array Oper} {rest : List Oper} {o : Oper} {a : Act} {Q : Exit → Act → World → Prop} (hgd : o.guard = none) (s x : Operand)
    (ho : o.op = .call { callee := .builtin .append, args := #[s, x], argTypes := #[53, 53] })
    (B : Nat) (v : Value) (l : List Int) (hs : a.eval s = v) (hown : Acc w B v l) (hB : B ≤ w.heap.size)
    (p : Option Addr) (c : Nat) (m : List Int) (hx : a.eval x = .slice p m.length c) (hp0 : p = none → c = 0) (hm : BIn w p m)
    (hlen : l.length + m.length ≤ 140737488355328)
    (h : ∀ v' w', Acc w' B v' (l ++ m) → Below B w w' → wpList Try.prog ops Q rest (a.put o.dst v') w') : wpList Try.prog ops Q (o :: rest) a w := by
  obtain ⟨i0, hi, hz0, hz1, hz2⟩ := info_parts infoA
  exact wpList_append_fr hgd s x 53 ho 5 i0 (.int .u8 0) 1 1 Try.underlying53 hi hz0 hz1 hz2 rfl (by decide) v l.length (l.map (Value.int .u8)) hs hown.owns p m.length c (m.map (Value.int .u8)) hx hp0 (by simp) hm.news (oneCells m) (by simp only [maxLen]; omega) (by omega)
    fun v' w' hA => h v' w' (hown.next hB hA).1 (hown.next hB hA).2

/-- 'append(v, x)' of one byte that was laid for it. -/
theorem wpList_acc1 {w : World} {ops : Array Oper} {rest : List Oper} {o : Oper} {a : Act} {Q : Exit → Act → World → Prop} (hgd : o.guard = none) (s x : Operand)
    (ho : o.op = .call { callee := .builtin .append, args := #[s, x], argTypes := #[53, 53] })
    (B : Nat) (v : Value) (l : List Int) (hs : a.eval s = v) (hown : Acc w B v l) (hB : B ≤ w.heap.size) (u : Int)
    (hx : a.eval x = .slice (some ⟨w.heap.size, 0, none⟩) 1 1)
    (hlen : l.length + 1 ≤ 140737488355328)
    (h : ∀ v' w', Acc w' B v' (l ++ [u]) → Below B w w' → wpList Try.prog ops Q rest (a.put o.dst v') w') : wpList Try.prog ops Q (o :: rest) a (w.alloc (.cells #[.int .u8 u] 5)) := by
  have b : Below w.heap.size w (w.alloc (.cells #[.int .u8 u] 5)) := (Below.refl _ _).alloc (Nat.le_refl _) _
  refine wpList_acc hgd s x ho B v l hs (hown.below b) (Nat.le_trans hB b.size) (some ⟨w.heap.size, 0, none⟩) 1 [u] hx (by simp) (BIn.of_block (rest := []) (e := 5) (f := (0, 0)) (by simpa using heap_alloc_new w _)) hlen fun v' w' h1 h2 => h v' w' h1 ((b.mono hB).trans h2)
/-- 'append(v, x...)' as one step of a region that draws its order. -/
theorem step_acc {w : World} {ops : Array Oper} {o : Oper} {a : Act} {K : Act → World → Prop} {Q : Exit → Act → World → Prop} {E : Prop} (hgd : o.guard = none) (s x : Operand)
    (ho : o.op = .call { callee := .builtin .append, args := #[s, x], argTypes := #[53, 53] })
    (B : Nat) (v : Value) (l : List Int) (hs : a.eval s = v) (hown : Acc w B v l) (hB : B ≤ w.heap.size)
    (p : Option Addr) (c : Nat) (m : List Int) (hx : a.eval x = .slice p m.length c) (hp0 : p = none → c = 0) (hm : BIn w p m)
    (hlen : l.length + m.length ≤ 140737488355328)
    (h : ∀ v' w', Acc w' B v' (l ++ m) → Below B w w' → Fr (fun k => v.ownBlock = some k) w w' → K (a.put o.dst v') w') : if Region.wanted o (yielded ops a.tmps) = true then Oper.wp Try.prog o a w K Q else E := by
  obtain ⟨i0, hi, hz0, hz1, hz2⟩ := info_parts infoA
  exact step_append_fr hgd s x 53 ho 5 i0 (.int .u8 0) 1 1 Try.underlying53 hi hz0 hz1 hz2 rfl (by decide) v l.length (l.map (Value.int .u8)) hs hown.owns p m.length c (m.map (Value.int .u8)) hx hp0 (by simp) hm.news (oneCells m) (by simp only [maxLen]; omega) (by omega)
    fun v' w' hA => h v' w' (hown.next hB hA).1 (hown.next hB hA).2 hA.fr
end
end Go.Proofs.Ytnladolpcocchaa
