/-
  Package span, and the statements' own 'may': spans as two whole numbers.
-/
import Derived.Test.YtnladolpcocchaaRows
import Derived.Test.YtnladolpcocchaaShapes
import Derived.WalkKit
import Derived.WalkSpells
import Derived.WalkLawsBesides
namespace Go.Proofs.Ytnladolpcocchaa
open Go.RowKit
set_option linter.unusedSimpArgs false
set_option linter.unusedVariables false
set_option maxRecDepth 10000

/-- May a span be? -/
def okS (lo hi : Int) : Bool := decide (1 ≤ lo ∧ lo ≤ hi ∧ hi ≤ 3)

theorem okS_yes {lo hi : Int} (h : okS lo hi = true) : 1 ≤ lo ∧ lo ≤ hi ∧ hi ≤ 3 := by simpa [okS] using h
theorem okS_mk {lo hi : Int} (h : 1 ≤ lo ∧ lo ≤ hi ∧ hi ≤ 3) : okS lo hi = true := by simpa [okS] using h
theorem okS_no {lo hi : Int} (h : okS lo hi = false) : ¬ (1 ≤ lo ∧ lo ≤ hi ∧ hi ≤ 3) := by simpa [okS] using h
theorem okS_mk_no {lo hi : Int} (h : ¬ (1 ≤ lo ∧ lo ≤ hi ∧ hi ≤ 3)) : okS lo hi = false := by simpa [okS] using h

/-- The world behind the box of a span. -/
abbrev boxS (w : World) (lo hi : Int) : World := w.alloc (.cells #[.int .i64 lo, .int .i64 hi] 31)

set_option maxHeartbeats 800000 in
theorem okS_any (lo hi : Int) (w : World) :
    Calls Try.prog 43 #[.agg #[.int .i64 lo, .int .i64 hi]] w fun e w' => e = .returned (.bool (okS lo hi)) ∧ w' = w.alloc (.cells #[.int .i64 lo, .int .i64 hi] 31) := by
  by_cases h1 : 1 ≤ lo <;> by_cases h2 : lo ≤ hi <;> by_cases h3 : hi ≤ 3 <;> first | (exfalso; omega) | skip
  all_goals
    have e : okS lo hi = true ∨ okS lo hi = false := by cases okS lo hi <;> simp
    rcases e with e | e <;> first | (exfalso; (first | (have := okS_yes e; omega) | (exact okS_no e ⟨h1, h2, h3⟩))) | skip
    rw [e]
    clear e
    go_enter Try.func43, Try.ntmps43
    go_wp2
    go_ret
    exact ⟨rfl, rfl⟩





/-- What of a span is in another one too. -/
def nar (m s : Int × Int) : Int × Int := if okS s.1 s.2 = true ∧ okS (max m.1 s.1) (min m.2 s.2) = true then (max m.1 s.1, min m.2 s.2) else (0, 0)


end Go.Proofs.Ytnladolpcocchaa
