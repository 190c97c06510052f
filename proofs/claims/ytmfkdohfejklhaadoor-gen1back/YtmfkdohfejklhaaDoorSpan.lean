/-
  Package span, and the statements' own 'may': spans as two whole numbers.
-/
import Derived.Test.YtmfkdohfejklhaaDoorRows
import Derived.Test.YtmfkdohfejklhaaDoorShapes
import Derived.WalkKit
import Derived.WalkSpells
import Derived.WalkLawsBesides
namespace Go.Proofs.YtmfkdohfejklhaaDoor
open Go.RowKit
set_option linter.unusedSimpArgs false
set_option linter.unusedVariables false

/-- May a span be? -/
def okS (lo hi : Int) : Bool := decide (1 ≤ lo ∧ lo ≤ hi ∧ hi ≤ 3)

theorem okS_yes {lo hi : Int} (h : okS lo hi = true) : 1 ≤ lo ∧ lo ≤ hi ∧ hi ≤ 3 := by simpa [okS] using h
theorem okS_mk {lo hi : Int} (h : 1 ≤ lo ∧ lo ≤ hi ∧ hi ≤ 3) : okS lo hi = true := by simpa [okS] using h
theorem okS_no {lo hi : Int} (h : okS lo hi = false) : ¬ (1 ≤ lo ∧ lo ≤ hi ∧ hi ≤ 3) := by simpa [okS] using h
theorem okS_mk_no {lo hi : Int} (h : ¬ (1 ≤ lo ∧ lo ≤ hi ∧ hi ≤ 3)) : okS lo hi = false := by simpa [okS] using h

/-- The world behind the box of a span. -/
abbrev boxS (w : World) (lo hi : Int) : World := w.alloc (.cells #[.int .i64 lo, .int .i64 hi] 23)

set_option maxHeartbeats 800000 in
theorem okS_any (lo hi : Int) (w : World) :
    Calls Tryd.prog 40 #[.agg #[.int .i64 lo, .int .i64 hi]] w fun e w' => e = .returned (.bool (okS lo hi)) ∧ w' = w.alloc (.cells #[.int .i64 lo, .int .i64 hi] 23) := by
  by_cases h1 : 1 ≤ lo <;> by_cases h2 : lo ≤ hi <;> by_cases h3 : hi ≤ 3 <;> first | (exfalso; omega) | skip
  all_goals
    have e : okS lo hi = true ∨ okS lo hi = false := by cases okS lo hi <;> simp
    rcases e with e | e <;> first | (exfalso; (first | (have := okS_yes e; omega) | (exact okS_no e ⟨h1, h2, h3⟩))) | skip
    rw [e]
    clear e
    go_enter Tryd.func40, Tryd.ntmps40
    go_wp2
    go_ret
    exact ⟨rfl, rfl⟩



set_option maxHeartbeats 800000 in
theorem code_yes (lo hi : Int) (w : World) (h : okS lo hi = true) :
    Calls Tryd.prog 36 #[.agg #[.int .i64 lo, .int .i64 hi]] w fun e w' => e = .returned (.int .i64 (16 * lo + hi)) ∧ Below w.heap.size w w' := by
  have V := fun w => okS_any lo hi w
  rw [h] at V
  obtain ⟨h1, h2, h3⟩ := okS_yes h
  clear h
  go_enter Tryd.func36, Tryd.ntmps36
  go_wp2_with (go_at_call 40; refine (V _).mono ?_; rintro e w' ⟨rfl, rfl⟩)
  go_ret
  exact ⟨rfl, ((Below.refl _ _).alloc (Nat.le_refl _) _).alloc (by simp) _⟩

set_option maxHeartbeats 800000 in
theorem code_no (lo hi : Int) (w : World) (h : okS lo hi = false) :
    Calls Tryd.prog 36 #[.agg #[.int .i64 lo, .int .i64 hi]] w fun e w' => e = .returned (.int .i64 0) ∧ Below w.heap.size w w' := by
  have V := fun w => okS_any lo hi w
  rw [h] at V
  clear h
  go_enter Tryd.func36, Tryd.ntmps36
  go_wp2_with (go_at_call 40; refine (V _).mono ?_; rintro e w' ⟨rfl, rfl⟩)
  go_ret
  exact ⟨rfl, ((Below.refl _ _).alloc (Nat.le_refl _) _).alloc (by simp) _⟩

/-- The two parts of a code. -/
def ofLo (c : Int) : Int := c.tdiv 16
def ofHi (c : Int) : Int := c.tmod 16

theorem of_code {lo hi c : Int} (h : 1 ≤ lo ∧ lo ≤ hi ∧ hi ≤ 3) (e : lo * 16 + hi = c) : ofLo c = lo ∧ ofHi c = hi := by
  subst e
  unfold ofLo ofHi
  rw [Int.tdiv_eq_ediv_of_nonneg (by omega), Int.tmod_eq_emod_of_nonneg (by omega)]
  omega

theorem code_of (c : Int) : ofLo c * 16 + ofHi c = c := by
  unfold ofLo ofHi
  rw [Int.tmod_def]
  generalize c.tdiv 16 = q
  omega

set_option maxHeartbeats 800000 in
theorem of_yes (c : Int) (w : World) (hc : (Lit.int .i64 c).wf = true) (h : okS (ofLo c) (ofHi c) = true) :
    Calls Tryd.prog 48 #[.int .i64 c] w fun e w' => e = .returned (.tuple #[.agg #[.int .i64 (ofLo c), .int .i64 (ofHi c)], .bool true]) ∧ Below w.heap.size w w' := by
  have hb := bounds_i64 hc
  clear hc
  have V := fun w => okS_any (ofLo c) (ofHi c) w
  rw [h] at V
  unfold ofLo ofHi at V ⊢
  clear h
  go_enter Tryd.func48, Tryd.ntmps48
  go_wp2_with (go_at_call 40; refine (V _).mono ?_; rintro e w' ⟨rfl, rfl⟩)
  exact bodyPost_ret (v := .tuple #[.agg #[.int .i64 (c.tdiv 16), .int .i64 (c.tmod 16)], .bool true]) (by simp [results, Tryd.results48, go_sem]) rfl ⟨rfl, (((Below.refl _ _).alloc (Nat.le_refl _) _).alloc (by simp) _).alloc (by simp; omega) _⟩

set_option maxHeartbeats 800000 in
theorem of_no (c : Int) (w : World) (hc : (Lit.int .i64 c).wf = true) (h : okS (ofLo c) (ofHi c) = false) :
    Calls Tryd.prog 48 #[.int .i64 c] w fun e w' => e = .returned (.tuple #[.agg #[.int .i64 0, .int .i64 0], .bool false]) ∧ Below w.heap.size w w' := by
  have hb := bounds_i64 hc
  clear hc
  have V := fun w => okS_any (ofLo c) (ofHi c) w
  rw [h] at V
  unfold ofLo ofHi at V
  clear h
  go_enter Tryd.func48, Tryd.ntmps48
  go_wp2_with (go_at_call 40; refine (V _).mono ?_; rintro e w' ⟨rfl, rfl⟩)
  exact bodyPost_ret (v := .tuple #[.agg #[.int .i64 0, .int .i64 0], .bool false]) (by simp [results, Tryd.results48, go_sem]) rfl ⟨rfl, (((Below.refl _ _).alloc (Nat.le_refl _) _).alloc (by simp) _).alloc (by simp; omega) _⟩

/-- What of a span is in another one too. -/
def nar (m s : Int × Int) : Int × Int := if okS s.1 s.2 = true ∧ okS (max m.1 s.1) (min m.2 s.2) = true then (max m.1 s.1, min m.2 s.2) else (0, 0)


end Go.Proofs.YtmfkdohfejklhaaDoor
