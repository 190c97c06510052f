/-
  The reader of package octet: what each of its functions does to the world, said of a reader that lies in one block.
-/
import Derived.Test.YtnladolpcocchaaRows
import Derived.Test.YtnladolpcocchaaBase
import Derived.WalkKit
import Derived.WalkSpells
import Derived.WalkLawsBesides
import Derived.Deep.OwnRows
namespace Go.Proofs.Ytnladolpcocchaa
open Go.RowKit
set_option linter.unusedSimpArgs false
set_option linter.unusedVariables false
set_option maxRecDepth 10000

theorem infoB : (Try.prog.info? 5).map (fun i => (i.zero, i.size, i.bytes)) = some (some (.int .u8 0), 1, 1) := by kernel_rfl
theorem infoB1 : (Try.prog.info? 5).map (·.size) = some 1 := by kernel_rfl

theorem made_len (n : Nat) : (madeCells #[Value.int .u8 0] n).size = n := by simp [madeCells]

theorem splice_all (L cs : List Value) (h : L.length = cs.length) : splice L 0 cs = cs := by
  simp [splice, h.symm]

/-- What 'copy' asks of its source, where the bytes lie in old memory and one block has been laid. -/
theorem src_old {w : World} {p : Option Addr} {l : List Int} (hB : BIn w p l) (o : Obj) (dp : Option Addr) : 0 < (l.map (Value.int .u8)).length → dp = dp ∧ ∃ ad, p = some ad ∧ ∀ j v, (l.map (Value.int .u8))[j]? = some v → (w.alloc o).cell? (ad.add j) = some v := by
  intro h
  obtain ⟨b, o, rfl, hc⟩ := hB (by simpa using h)
  refine ⟨rfl, _, rfl, fun j v hj => ?_⟩
  simp at hj
  obtain ⟨x, hx, rfl⟩ := hj
  have hj : j < l.length := by
    by_cases hh : j < l.length
    · exact hh
    · simp [List.getElem?_eq_none (Nat.le_of_not_lt hh)] at hx
  have hcj := hc j hj
  have hb : b < w.heap.size := lt_of_cell hcj
  rw [Go.WideShapes.add_plain, World.cell?_of_block (a := ⟨b, o + j, none⟩) (heap_alloc_old w _ hb), hcj]
  simp [List.getD, hx]











theorem block_map {p : Option Addr} {R : Nat → Prop} {k : Nat} (h : ∀ a, p = some a → R a.block) : ∀ a, p.map (fun x => x.add k) = some a → R a.block := by
  intro a ha
  cases p with
  | none => simp at ha
  | some x =>
    simp at ha
    subst ha
    have := h x rfl
    unfold Addr.add
    split <;> simpa using this




/-- What bytes are as a number, the highest first. -/
def numB (l : List Int) : Int := l.foldl (fun v x => v * 256 + x) 0
theorem numB_snoc (l : List Int) (x : Int) : numB (l ++ [x]) = numB l * 256 + x := by simp [numB]
theorem numB_take (l : List Int) (j : Nat) (hj : j < l.length) : numB (l.take (j + 1)) = numB (l.take j) * 256 + l.getD j 0 := by
  rw [List.take_succ_eq_append_getElem hj, numB_snoc]; simp [List.getD, hj]
theorem numB_bound (l : List Int) (h : isB l) : 0 ≤ numB l ∧ numB l < 256 ^ l.length := by
  have : ∀ (l : List Int) (v : Int), isB l → 0 ≤ v → 0 ≤ l.foldl (fun v x => v * 256 + x) v ∧ l.foldl (fun v x => v * 256 + x) v < (v + 1) * 256 ^ l.length := by
    intro l
    induction l with
    | nil => intro v _ hv; simp; omega
    | cons x l ih =>
      intro v hl hv
      have hx := hl x (by simp)
      obtain ⟨i1, i2⟩ := ih (v * 256 + x) (fun y hy => hl y (by simp [hy])) (by omega)
      refine ⟨by simpa using i1, ?_⟩
      simp only [List.foldl_cons, List.length_cons]
      refine Int.lt_of_lt_of_le i2 ?_
      rw [Int.pow_succ, Int.mul_comm (256 ^ l.length) 256, ← Int.mul_assoc]
      exact Int.mul_le_mul_of_nonneg_right (by omega) (Int.le_of_lt (Int.pow_pos (by omega)))
  have := this l 0 h (Int.le_refl _)
  simpa [numB] using this
theorem pow6 (n : Nat) (h : n ≤ 6) : (256 : Int) ^ n ≤ 281474976710656 := by
  have : n = 0 ∨ n = 1 ∨ n = 2 ∨ n = 3 ∨ n = 4 ∨ n = 5 ∨ n = 6 := by omega
  rcases this with rfl | rfl | rfl | rfl | rfl | rfl | rfl <;> decide
theorem numB_small (l : List Int) (h : isB l) (j : Nat) (hj : j ≤ 6) : 0 ≤ numB (l.take j) ∧ numB (l.take j) < 281474976710656 := by
  have := numB_bound _ (h.take j)
  exact ⟨this.1, Int.lt_of_lt_of_le this.2 (pow6 _ (by simp; omega))⟩
theorem i64_or8 (x y : Int) (h1 : 0 ≤ x) (h2 : x < 281474976710656) (h3 : 0 ≤ y) (h4 : y < 256) : bits .or .i64 (x * 256) y = x * 256 + y :=
  bits_join .i64 63 (by decide) (fun n a b => by rw [IntKind.wrap_i64]; omega) 8 (x * 256) y (by omega) (by omega) (by omega) h3 (by omega) (by omega)






end Go.Proofs.Ytnladolpcocchaa
