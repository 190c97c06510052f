/-
  Several boxed records of one id, and what the calls of stage 9's statements leave of them.
-/
import Derived.Test.YtdfjjajkeieocaaLaw09
import Derived.Test.YtdfjjajkeieocaaRecX
import Derived.Test.YtdfjjajkeieocaaRecP
namespace Go.Proofs.Ytdfjjajkeieocaa
open Go.RowKit
set_option linter.unusedSimpArgs false
set_option linter.unusedVariables false
set_option maxRecDepth 10000
set_option synthInstance.maxSize 2000

structure St (w : World) (i : Int) (X : World) (L : List (Nat × Rc)) : Prop where
  bx : ∀ p ∈ L, Bx X p.1 p.2
  ok : ∀ p ∈ L, ROk X p.2
  id : ∀ p ∈ L, p.2.id = i
  few : ∀ p ∈ L, p.2.bag.length ≤ 1099511627776
  below : Below w.heap.size w X

theorem St.on {w X X' : World} {i : Int} {L : List (Nat × Rc)} (h : St w i X L) (b : Below X.heap.size X X') : St w i X' L :=
  ⟨fun p hp => (h.bx p hp).on b, fun p hp => (h.ok p hp).below b, h.id, h.few, h.below.trans (b.mono h.below.size)⟩
theorem St.add {w X : World} {i : Int} {L : List (Nat × Rc)} (h : St w i X L) {r : Rc} (hr : ROk X r) (hi : r.id = i) (hf : r.bag.length ≤ 1099511627776) : St w i (X.alloc (.cells #[.int .i64 r.id, .int .i64 r.inc, .int .i64 r.st, .int .i64 r.lo, .int .i64 r.hi, .bool r.cut, .slice r.p r.bag.length r.cap] 27)) ((X.heap.size, r) :: L) := by
  have b := (Below.refl X.heap.size X).alloc (Nat.le_refl _) (.cells #[.int .i64 r.id, .int .i64 r.inc, .int .i64 r.st, .int .i64 r.lo, .int .i64 r.hi, .bool r.cut, .slice r.p r.bag.length r.cap] 27)
  have k := h.on b
  refine ⟨?_, ?_, ?_, ?_, k.below⟩ <;> intro p hp <;> rcases List.mem_cons.1 hp with rfl | hp
  · exact Bx.new X r
  · exact k.bx p hp
  · exact hr.below b
  · exact k.ok p hp
  · exact hi
  · exact h.id p hp
  · exact hf
  · exact h.few p hp
theorem St.cells {w X : World} {i : Int} {L : List (Nat × Rc)} (h : St w i X L) (k : Nat) (r : Rc) (hp : (k, r) ∈ L) : X.cell? ⟨k, 0, none⟩ = some (.int .i64 r.id) ∧ X.cell? ⟨k, 1, none⟩ = some (.int .i64 r.inc) ∧ X.cell? ⟨k, 2, none⟩ = some (.int .i64 r.st) ∧ X.cell? ⟨k, 3, none⟩ = some (.int .i64 r.lo) ∧ X.cell? ⟨k, 4, none⟩ = some (.int .i64 r.hi) ∧ X.cell? ⟨k, 5, none⟩ = some (.bool r.cut) ∧ X.cell? ⟨k, 6, none⟩ = some (.slice r.p r.bag.length r.cap) := (h.bx _ hp).cells
theorem St.lt {w X : World} {i : Int} {L : List (Nat × Rc)} (h : St w i X L) (k : Nat) (r : Rc) (hp : (k, r) ∈ L) : k < X.heap.size := (h.bx _ hp).lt

theorem joinK_few {a b : RK} {n : Nat} (ha : a.bag.length ≤ n) (hb : b.bag.length ≤ n) : (joinK a b).bag.length ≤ n := by
  unfold joinK
  split
  · exact ha
  · split
    · exact hb
    · split <;> assumption

theorem joinS {w X : World} {i : Int} {L : List (Nat × Rc)} (h : St w i X L) (k : Nat) (a : Rc) (m : Nat) (b : Rc) (hp : (k, a) ∈ L) (hq : (m, b) ∈ L) :
    Calls Try.prog 20 #[.agg #[.int .i64 a.id, .int .i64 a.inc, .int .i64 a.st, .int .i64 a.lo, .int .i64 a.hi, .bool a.cut, .slice a.p a.bag.length a.cap], .agg #[.int .i64 b.id, .int .i64 b.inc, .int .i64 b.st, .int .i64 b.lo, .int .i64 b.hi, .bool b.cut, .slice b.p b.bag.length b.cap]] X fun e X' => ∃ r, e = .returned (.tuple #[.agg #[.int .i64 r.id, .int .i64 r.inc, .int .i64 r.st, .int .i64 r.lo, .int .i64 r.hi, .bool r.cut, .slice r.p r.bag.length r.cap], .bool true]) ∧ rk r = joinK (rk a) (rk b) ∧ St w i X' L ∧ St w i (X'.alloc (.cells #[.int .i64 r.id, .int .i64 r.inc, .int .i64 r.st, .int .i64 r.lo, .int .i64 r.hi, .bool r.cut, .slice r.p r.bag.length r.cap] 27)) ((X'.heap.size, r) :: L) := by
  have ha := h.ok _ hp
  have hb := h.ok _ hq
  have ia := h.id _ hp
  have ib := h.id _ hq
  have fa := h.few _ hp
  have fb := h.few _ hq
  refine (join2_yes a b X ha hb fa fb (ia.trans ib.symm)).mono ?_
  rintro e X' ⟨r, rfl, hk, hr, hb'⟩
  have h' := h.on hb'
  have hf : r.bag.length ≤ 1099511627776 := by
    have := joinK_few (a := rk a) (b := rk b) (n := 1099511627776) (by rw [show (rk a).bag = kys a.bag from rfl, kys_len]; exact fa) (by rw [show (rk b).bag = kys b.bag from rfl, kys_len]; exact fb)
    rw [← hk, show (rk r).bag = kys r.bag from rfl, kys_len] at this
    exact this
  have hi : r.id = i := by
    have := joinK_id (a := rk a) (b := rk b) (ia.trans ib.symm)
    rw [← hk] at this
    exact this.trans ia
  exact ⟨r, rfl, hk, h', h'.add hr.ok hi hf⟩

theorem belowS {w X : World} {i : Int} {L : List (Nat × Rc)} (h : St w i X L) (k : Nat) (a : Rc) (m : Nat) (b : Rc) (hp : (k, a) ∈ L) (hq : (m, b) ∈ L) :
    Calls Try.prog 21 #[.agg #[.int .i64 a.id, .int .i64 a.inc, .int .i64 a.st, .int .i64 a.lo, .int .i64 a.hi, .bool a.cut, .slice a.p a.bag.length a.cap], .agg #[.int .i64 b.id, .int .i64 b.inc, .int .i64 b.st, .int .i64 b.lo, .int .i64 b.hi, .bool b.cut, .slice b.p b.bag.length b.cap]] X fun e X' => e = .returned (.bool (decide (joinK (rk a) (rk b) = rk b))) ∧ St w i X' L := by
  have e1 : belK (rk a) (rk b) = decide (joinK (rk a) (rk b) = rk b) := by
    rw [belK, decide_eq_true (show (rk a).id = (rk b).id from (h.id _ hp).trans (h.id _ hq).symm)]; rfl
  rw [← e1]
  refine (below_any a b X (h.ok _ hp) (h.ok _ hq)).mono ?_
  rintro e X' ⟨rfl, hb'⟩
  exact ⟨rfl, h.on hb'⟩

theorem alikeS {w X : World} {i : Int} {L : List (Nat × Rc)} (h : St w i X L) (k : Nat) (a : Rc) (m : Nat) (b : Rc) (hp : (k, a) ∈ L) (hq : (m, b) ∈ L) :
    Calls Try.prog 14 #[.agg #[.int .i64 a.id, .int .i64 a.inc, .int .i64 a.st, .int .i64 a.lo, .int .i64 a.hi, .bool a.cut, .slice a.p a.bag.length a.cap], .agg #[.int .i64 b.id, .int .i64 b.inc, .int .i64 b.st, .int .i64 b.lo, .int .i64 b.hi, .bool b.cut, .slice b.p b.bag.length b.cap]] X fun e X' => e = .returned (.bool (decide (rk a = rk b))) ∧ St w i X' L := by
  refine (lalike_any a b X (h.ok _ hp) (h.ok _ hq)).mono ?_
  rintro e X' ⟨rfl, hb'⟩
  exact ⟨rfl, h.on hb'⟩

theorem awakeS {w X : World} {i : Int} {L : List (Nat × Rc)} (h : St w i X L) :
    Calls Try.prog 19 #[] X fun e X' => e = .returned (.bool true) ∧ St w i X' L := by
  refine (awake9_any X).mono ?_
  rintro e X' ⟨rfl, hb'⟩
  exact ⟨rfl, h.on hb'⟩

/-- What follows of the joins' laws. -/
theorem up_left {a b : RK} (h : a.id = b.id) : joinK a (joinK a b) = joinK a b := by rw [← joinK_assoc rfl h, joinK_self]
theorem up_right {a b : RK} (h : a.id = b.id) : joinK b (joinK a b) = joinK a b := by rw [joinK_comm h, up_left h.symm]
theorem up_least {a b c : RK} (h : a.id = b.id) (h2 : b.id = c.id) (ha : joinK a c = c) (hb : joinK b c = c) : joinK (joinK a b) c = c := by rw [joinK_assoc h h2, hb, ha]
theorem up_anti {a b : RK} (h : a.id = b.id) (ha : joinK a b = b) (hb : joinK b a = a) : a = b := by rw [← hb, joinK_comm h.symm, ha]
end Go.Proofs.Ytdfjjajkeieocaa
