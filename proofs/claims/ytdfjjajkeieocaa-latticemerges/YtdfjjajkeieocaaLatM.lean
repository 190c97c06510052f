/-
  Joins as plain Lean functions, and their laws: no function is named here.
-/
import Derived.Test.YtdfjjajkeieocaaRecW
namespace Go.Proofs.Ytdfjjajkeieocaa
open Go.RowKit
set_option linter.unusedSimpArgs false
set_option linter.unusedVariables false
set_option maxRecDepth 10000
set_option synthInstance.maxSize 2000

/-- The greater one by an order. -/
def maxC {α : Type} (c : α → α → Int) (x y : α) : α := if c x y < 0 then y else x

theorem maxC_self {α : Type} {c : α → α → Int} (x : α) : maxC c x x = x := by unfold maxC; split <;> rfl
theorem maxC_comm {α : Type} {c : α → α → Int} (h : Ord3 c) (x y : α) : maxC c x y = maxC c y x := by
  have h1 := h.anti x y
  have h2 := h.eq x y
  unfold maxC
  split <;> split
  · omega
  · rfl
  · rfl
  · exact h2.1 (by omega)
theorem maxC_assoc {α : Type} {c : α → α → Int} (h : Ord3 c) (x y z : α) : maxC c (maxC c x y) z = maxC c x (maxC c y z) := by
  have axy := h.anti x y
  have ayz := h.anti y z
  have axz := h.anti x z
  have exy := h.eq x y
  have eyz := h.eq y z
  have t1 := h.tr x y z
  have t2 := h.tr z y x
  by_cases p : c x y < 0 <;> by_cases q : c y z < 0 <;> by_cases r : c x z < 0 <;> simp [maxC, p, q, r]
  · exact absurd (t1 p q) r
  · by_cases u : c x y = 0
    · have := exy.1 u; subst this; exact absurd r q
    · by_cases v : c y z = 0
      · have := eyz.1 v; subst this; exact absurd r p
      · have := t2 (by omega) (by omega); omega

/-- What a record of one id comes to. -/
abbrev Up := Int × Int × (Int × Int × Int × List Key)
def joinU (a b : Up) : Up := if b.1 < a.1 then a else if a.1 < b.1 then b else (a.1, max a.2.1 b.2.1, maxC (pairC cmpI (pairC cmpI (pairC cmpI cmpK))) a.2.2 b.2.2)

theorem joinU_self (a : Up) : joinU a a = a := by
  obtain ⟨i, s, l⟩ := a
  simp [joinU, maxC_self]
theorem joinU_comm (a b : Up) : joinU a b = joinU b a := by
  obtain ⟨i, s, l⟩ := a
  obtain ⟨j, t, m⟩ := b
  simp only [joinU, maxC_comm load_ord l m]
  by_cases p : j < i
  · simp [p, show ¬ i < j by omega]
  · by_cases q : i < j
    · simp [p, q]
    · obtain rfl : i = j := by omega
      simp [Int.max_comm]
theorem joinU_assoc (a b c : Up) : joinU (joinU a b) c = joinU a (joinU b c) := by
  obtain ⟨i, s, l⟩ := a
  obtain ⟨j, t, m⟩ := b
  obtain ⟨k, u, n⟩ := c
  have hl := maxC_assoc load_ord l m n
  rcases Int.lt_trichotomy i j with p | p | p <;> rcases Int.lt_trichotomy j k with q | q | q <;> rcases Int.lt_trichotomy i k with r | r | r <;>
    first
    | (exfalso; omega)
    | (simp only [joinU]; subst_vars; repeat' (first | rfl | omega | split))
    | skip
  all_goals (simp only [joinU]; try subst_vars)
  all_goals (simp_all [Int.max_assoc]; try omega)

def joinK (a b : RK) : RK := if b.inc < a.inc then a else if a.inc < b.inc then b else if weighK a b < 0 then (b.id, b.inc, max a.st b.st, b.lo, b.hi, b.cut, b.bag) else (a.id, a.inc, max a.st b.st, a.lo, a.hi, a.cut, a.bag)
def upK (a : RK) : Up := (a.inc, a.st, loadR a)
theorem upK_inj {a b : RK} (h : a.id = b.id) (k : upK a = upK b) : a = b := by
  obtain ⟨a1, a2, a3, a4, a5, a6, a7⟩ := a
  obtain ⟨b1, b2, b3, b4, b5, b6, b7⟩ := b
  simp only [upK, loadR, Prod.mk.injEq] at h k
  obtain ⟨k1, k2, k3, k4, k5, k6⟩ := k
  have : a6 = b6 := by revert k3; cases a6 <;> cases b6 <;> simp [uncR]
  simp_all [RK.id, RK.inc, RK.st, RK.lo, RK.hi, RK.bag]
theorem joinU_a {a b : Up} (p : b.1 < a.1) : joinU a b = a := by unfold joinU; exact if_pos p
theorem joinU_b {a b : Up} (p : ¬ b.1 < a.1) (q : a.1 < b.1) : joinU a b = b := by unfold joinU; rw [if_neg p]; exact if_pos q
theorem joinU_c {a b : Up} (p : ¬ b.1 < a.1) (q : ¬ a.1 < b.1) : joinU a b = (a.1, max a.2.1 b.2.1, maxC (pairC cmpI (pairC cmpI (pairC cmpI cmpK))) a.2.2 b.2.2) := by unfold joinU; rw [if_neg p]; exact if_neg q
theorem upK_join (a b : RK) : upK (joinK a b) = joinU (upK a) (upK b) := by
  by_cases p : b.inc < a.inc
  · rw [joinU_a (a := upK a) (b := upK b) p]; unfold joinK; rw [if_pos p]
  · by_cases q : a.inc < b.inc
    · rw [joinU_b (a := upK a) (b := upK b) p q]; unfold joinK; rw [if_neg p, if_pos q]
    · have e : a.inc = b.inc := by omega
      rw [joinU_c (a := upK a) (b := upK b) p q]
      unfold joinK; rw [if_neg p, if_neg q]
      by_cases u : weighK a b < 0
      · rw [if_pos u, maxC, if_pos (show pairC cmpI (pairC cmpI (pairC cmpI cmpK)) (upK a).2.2 (upK b).2.2 < 0 from u)]; simp [upK, loadR, e]
      · rw [if_neg u, maxC, if_neg (show ¬ pairC cmpI (pairC cmpI (pairC cmpI cmpK)) (upK a).2.2 (upK b).2.2 < 0 from u)]; simp [upK, loadR]
theorem joinK_id {a b : RK} (h : a.id = b.id) : (joinK a b).id = a.id := by
  unfold joinK; split; rfl; split; exact h.symm; split; exact h.symm; rfl
theorem joinK_self (a : RK) : joinK a a = a := upK_inj (joinK_id rfl) (by rw [upK_join, joinU_self])
theorem joinK_comm {a b : RK} (h : a.id = b.id) : joinK a b = joinK b a := upK_inj (by rw [joinK_id h, joinK_id h.symm, h]) (by rw [upK_join, upK_join, joinU_comm])
theorem joinK_assoc {a b c : RK} (h : a.id = b.id) (k : b.id = c.id) : joinK (joinK a b) c = joinK a (joinK b c) :=
  upK_inj (by rw [joinK_id (by rw [joinK_id h, h, k]), joinK_id h, joinK_id (by rw [joinK_id k, h])]) (by rw [upK_join, upK_join, upK_join, upK_join, joinU_assoc])

def belK (a b : RK) : Bool := decide (a.id = b.id) && decide (joinK a b = b)

/-- Of two records, the one with the greater load; their join. -/
def heavR (a b : Rc) : Rc := if weighK (rk a) (rk b) < 0 then b else a
def joinR (a b : Rc) : Rc := if b.inc < a.inc then a else if a.inc < b.inc then b else { heavR a b with st := max a.st b.st }
theorem rk_join (a b : Rc) : rk (joinR a b) = joinK (rk a) (rk b) := by
  unfold joinR joinK
  rw [show (rk a).inc = a.inc from rfl, show (rk b).inc = b.inc from rfl]
  split
  · rfl
  · split
    · rfl
    · unfold heavR; split <;> rfl
theorem max_wf {x y : Int} (hx : (Lit.int .i64 x).wf = true) (hy : (Lit.int .i64 y).wf = true) : (Lit.int .i64 (max x y)).wf = true := by
  rcases Int.le_total x y with h | h
  · rwa [Int.max_eq_right h]
  · rwa [Int.max_eq_left h]
theorem joinR_ok {w : World} {a b : Rc} (ha : ROk w a) (hb : ROk w b) : ROk w (joinR a b) := by
  unfold joinR
  split
  · exact ha
  · split
    · exact hb
    · unfold heavR
      split
      · exact ⟨hb.id, hb.inc, max_wf ha.st hb.st, hb.lo, hb.hi, hb.len, hb.cap, hb.nil, hb.fin, hb.few⟩
      · exact ⟨ha.id, ha.inc, max_wf ha.st hb.st, ha.lo, ha.hi, ha.len, ha.cap, ha.nil, ha.fin, ha.few⟩
theorem joinR_len {a b : Rc} {n : Nat} (ha : a.bag.length ≤ n) (hb : b.bag.length ≤ n) : (joinR a b).bag.length ≤ n := by
  unfold joinR heavR
  split
  · exact ha
  · split
    · exact hb
    · split <;> assumption
end Go.Proofs.Ytdfjjajkeieocaa
