/-
  Package span, and the statements' own 'may': spans as two whole numbers.
-/
import Derived.Test.YtgjnbcbbkabljaaDoorRows
import Derived.Test.YtgjnbcbbkabljaaDoorShapes
import Derived.WalkKit
import Derived.WalkSpells
import Derived.WalkLawsBesides
namespace Go.Proofs.YtgjnbcbbkabljaaDoor
open Go.RowKit
set_option linter.unusedSimpArgs false
set_option linter.unusedVariables false

/-- May a span be? -/
def okS (lo hi : Int) : Bool := decide (1 ≤ lo ∧ lo ≤ hi ∧ hi ≤ 3)

theorem okS_yes {lo hi : Int} (h : okS lo hi = true) : 1 ≤ lo ∧ lo ≤ hi ∧ hi ≤ 3 := by simpa [okS] using h
theorem okS_mk {lo hi : Int} (h : 1 ≤ lo ∧ lo ≤ hi ∧ hi ≤ 3) : okS lo hi = true := by simpa [okS] using h
theorem okS_no {lo hi : Int} (h : okS lo hi = false) : ¬ (1 ≤ lo ∧ lo ≤ hi ∧ hi ≤ 3) := by simpa [okS] using h
theorem okS_mk_no {lo hi : Int} (h : ¬ (1 ≤ lo ∧ lo ≤ hi ∧ hi ≤ 3)) : okS lo hi = false := by simpa [okS] using h

/-- The world behind the box of a span. -/
abbrev boxS (w : World) (lo hi : Int) : World := w.alloc (.cells #[.int .i64 lo, .int .i64 hi] 23)

set_option maxHeartbeats 800000 in
theorem valid_any (lo hi : Int) (w : World) :
    Calls Tryd.prog 8 #[.agg #[.int .i64 lo, .int .i64 hi]] w fun e w' => e = .returned (.bool (okS lo hi)) ∧ w' = w.alloc (.cells #[.int .i64 lo, .int .i64 hi] 23) := by
  by_cases h1 : 1 ≤ lo <;> by_cases h2 : lo ≤ hi <;> by_cases h3 : hi ≤ 3 <;> first | (exfalso; omega) | skip
  all_goals
    have e : okS lo hi = true ∨ okS lo hi = false := by cases okS lo hi <;> simp
    rcases e with e | e <;> first | (exfalso; (first | (have := okS_yes e; omega) | (exact okS_no e ⟨h1, h2, h3⟩))) | skip
    rw [e]
    clear e
    go_enter Tryd.func8, Tryd.ntmps8
    go_wp2
    go_ret
    exact ⟨rfl, rfl⟩

set_option maxHeartbeats 1600000 in
theorem may_any (lo hi : Int) (w : World) :
    Calls Tryd.prog 9 #[.agg #[.int .i64 lo, .int .i64 hi]] w fun e w' => e = .returned (.bool (okS lo hi)) ∧ w' = w.alloc (.cells #[.int .i64 lo, .int .i64 hi] 23) := by
  go_enter Tryd.func9, Tryd.ntmps9
  go_wp2
  go_loop [3] (fun a => ∃ x : Int, 1 ≤ x ∧ x ≤ 4 ∧ a = .int .i64 x ∧ Hid (lo < x → okS lo hi = false)) (fun a => (4 - intOf a).toNat)
  case atStart => exact ⟨1, by omega, by omega, rfl, fun h => okS_mk_no (by omega)⟩
  case round =>
    obtain ⟨x, hx1, hx2, rfl, HX⟩ := hrel
    by_cases hx3 : x ≤ 3
    · go_wp2
      go_loop [4] (fun a => ∃ y : Int, x ≤ y ∧ y ≤ 4 ∧ a = .int .i64 y ∧ Hid (lo = x → hi < y → okS lo hi = false)) (fun a => (4 - intOf a).toNat)
      case atStart => exact ⟨x, by omega, by omega, rfl, fun h h2 => okS_mk_no (by omega)⟩
      case round =>
        obtain ⟨y, hy1, hy2, rfl, HY⟩ := hrel
        by_cases hy3 : y ≤ 3
        · by_cases t1 : lo = x
          · by_cases t2 : hi = y
            · subst t1 t2
              have e : Hid (okS lo hi = true) := okS_mk (by omega)
              clear HX HY
              go_wp2
              go_ret
              exact ⟨by rw [e.out]; rfl, rfl⟩
            · subst t1
              have HY' := HY.out rfl
              have HZ : Hid (hi < y + 1 → okS lo hi = false) := fun h2 => by
                by_cases q : hi < y
                · exact HY' q
                · omega
              clear HY HY'
              go_wp2
              go_round
              case rel => exact ⟨y + 1, by omega, by omega, by go_num, by first | exact HZ | exact fun _ => HZ.out⟩
              case measure => simp [intOf]; omega
          · go_wp2
            go_round
            case rel => exact ⟨y + 1, by omega, by omega, by go_num, fun h h2 => absurd h t1⟩
            case measure => simp [intOf]; omega
        · go_wp2
          go_round
          case rel => exact ⟨x + 1, by omega, by omega, by go_num, fun h => by
            by_cases q : lo = x
            · by_cases q2 : hi < y
              · exact HY.out q q2
              · exact okS_mk_no (by omega)
            · exact HX.out (by omega)⟩
          case measure => simp [intOf]; omega
    · have e : Hid (okS lo hi = false) := by
        by_cases q : lo < x
        · exact HX.out q
        · exact okS_mk_no (by omega)
      clear HX
      go_wp2
      go_ret
      exact ⟨by rw [e.out]; rfl, rfl⟩

set_option maxHeartbeats 800000 in
theorem has_any (lo hi g : Int) (w : World) :
    Calls Tryd.prog 10 #[.agg #[.int .i64 lo, .int .i64 hi], .int .i64 g] w fun e w' => e = .returned (.bool (okS lo hi && decide (lo ≤ g) && decide (g ≤ hi))) ∧ Below w.heap.size w w' := by
  have V := fun w => valid_any lo hi w
  generalize okS lo hi = b at V ⊢
  cases b
  · go_enter Tryd.func10, Tryd.ntmps10
    go_wp2_with (go_at_call 8; refine (V _).mono ?_; rintro e w' ⟨rfl, rfl⟩)
    go_ret
    exact ⟨rfl, ((Below.refl _ _).alloc (Nat.le_refl _) _).alloc (by simp) _⟩
  · by_cases h1 : lo ≤ g
    · by_cases h2 : g ≤ hi
      all_goals
        go_enter Tryd.func10, Tryd.ntmps10
        go_wp2_with (go_at_call 8; refine (V _).mono ?_; rintro e w' ⟨rfl, rfl⟩)
        go_ret
        exact ⟨by simp [h1, h2], ((Below.refl _ _).alloc (Nat.le_refl _) _).alloc (by simp) _⟩
    · go_enter Tryd.func10, Tryd.ntmps10
      go_wp2_with (go_at_call 8; refine (V _).mono ?_; rintro e w' ⟨rfl, rfl⟩)
      go_ret
      exact ⟨by simp; omega, ((Below.refl _ _).alloc (Nat.le_refl _) _).alloc (by simp) _⟩

set_option maxHeartbeats 800000 in
theorem code_yes (lo hi : Int) (w : World) (h : okS lo hi = true) :
    Calls Tryd.prog 11 #[.agg #[.int .i64 lo, .int .i64 hi]] w fun e w' => e = .returned (.int .i64 (16 * lo + hi)) ∧ Below w.heap.size w w' := by
  have V := fun w => valid_any lo hi w
  rw [h] at V
  obtain ⟨h1, h2, h3⟩ := okS_yes h
  clear h
  go_enter Tryd.func11, Tryd.ntmps11
  go_wp2_with (go_at_call 8; refine (V _).mono ?_; rintro e w' ⟨rfl, rfl⟩)
  go_ret
  exact ⟨rfl, ((Below.refl _ _).alloc (Nat.le_refl _) _).alloc (by simp) _⟩

set_option maxHeartbeats 800000 in
theorem code_no (lo hi : Int) (w : World) (h : okS lo hi = false) :
    Calls Tryd.prog 11 #[.agg #[.int .i64 lo, .int .i64 hi]] w fun e w' => e = .returned (.int .i64 0) ∧ Below w.heap.size w w' := by
  have V := fun w => valid_any lo hi w
  rw [h] at V
  clear h
  go_enter Tryd.func11, Tryd.ntmps11
  go_wp2_with (go_at_call 8; refine (V _).mono ?_; rintro e w' ⟨rfl, rfl⟩)
  go_ret
  exact ⟨rfl, ((Below.refl _ _).alloc (Nat.le_refl _) _).alloc (by simp) _⟩

/-- The two parts of a code. -/
def ofLo (c : Int) : Int := c.tdiv 16
def ofHi (c : Int) : Int := c.tmod 16

theorem of_code {lo hi c : Int} (h : 1 ≤ lo ∧ lo ≤ hi ∧ hi ≤ 3) (e : lo * 16 + hi = c) : ofLo c = lo ∧ ofHi c = hi := by
  subst e
  unfold ofLo ofHi
  rw [Int.tdiv_eq_ediv_of_nonneg (by omega), Int.tmod_eq_emod_of_nonneg (by omega)]
  omega

theorem code_of (c : Int) : ofLo c * 16 + ofHi c = c := by
  unfold ofLo ofHi
  rw [Int.tmod_def]
  generalize c.tdiv 16 = q
  omega

set_option maxHeartbeats 800000 in
theorem of_yes (c : Int) (w : World) (hc : (Lit.int .i64 c).wf = true) (h : okS (ofLo c) (ofHi c) = true) :
    Calls Tryd.prog 12 #[.int .i64 c] w fun e w' => e = .returned (.tuple #[.agg #[.int .i64 (ofLo c), .int .i64 (ofHi c)], .bool true]) ∧ Below w.heap.size w w' := by
  have hb := bounds_i64 hc
  clear hc
  have V := fun w => valid_any (ofLo c) (ofHi c) w
  rw [h] at V
  unfold ofLo ofHi at V ⊢
  clear h
  go_enter Tryd.func12, Tryd.ntmps12
  go_wp2_with (go_at_call 8; refine (V _).mono ?_; rintro e w' ⟨rfl, rfl⟩)
  exact bodyPost_ret (v := .tuple #[.agg #[.int .i64 (c.tdiv 16), .int .i64 (c.tmod 16)], .bool true]) (by simp [results, Tryd.results12, go_sem]) rfl ⟨rfl, (((Below.refl _ _).alloc (Nat.le_refl _) _).alloc (by simp) _).alloc (by simp; omega) _⟩

set_option maxHeartbeats 800000 in
theorem of_no (c : Int) (w : World) (hc : (Lit.int .i64 c).wf = true) (h : okS (ofLo c) (ofHi c) = false) :
    Calls Tryd.prog 12 #[.int .i64 c] w fun e w' => e = .returned (.tuple #[.agg #[.int .i64 0, .int .i64 0], .bool false]) ∧ Below w.heap.size w w' := by
  have hb := bounds_i64 hc
  clear hc
  have V := fun w => valid_any (ofLo c) (ofHi c) w
  rw [h] at V
  unfold ofLo ofHi at V
  clear h
  go_enter Tryd.func12, Tryd.ntmps12
  go_wp2_with (go_at_call 8; refine (V _).mono ?_; rintro e w' ⟨rfl, rfl⟩)
  exact bodyPost_ret (v := .tuple #[.agg #[.int .i64 0, .int .i64 0], .bool false]) (by simp [results, Tryd.results12, go_sem]) rfl ⟨rfl, (((Below.refl _ _).alloc (Nat.le_refl _) _).alloc (by simp) _).alloc (by simp; omega) _⟩

/-- What of a span is in another one too. -/
def nar (m s : Int × Int) : Int × Int := if okS s.1 s.2 = true ∧ okS (max m.1 s.1) (min m.2 s.2) = true then (max m.1 s.1, min m.2 s.2) else (0, 0)

set_option maxHeartbeats 3200000 in
theorem narrowed_any (m s : Int × Int) (w : World) :
    Calls Tryd.prog 20 #[.agg #[.int .i64 m.1, .int .i64 m.2], .agg #[.int .i64 s.1, .int .i64 s.2]] w fun e w' => e = .returned (.agg #[.int .i64 (nar m s).1, .int .i64 (nar m s).2]) ∧ Below w.heap.size w w' := by
  obtain ⟨a, b⟩ := m
  obtain ⟨c, d⟩ := s
  have V1 := fun w => valid_any c d w
  have V2 := fun w => valid_any (max a c) (min b d) w
  unfold nar
  dsimp only
  generalize okS (max a c) (min b d) = t2 at V2 ⊢
  generalize okS c d = t1 at V1 ⊢
  have hx : ∃ x, max a c = x ∧ ((a < c ∧ x = c) ∨ (¬ a < c ∧ x = a)) := ⟨_, rfl, by omega⟩
  have hy : ∃ y, min b d = y ∧ ((b ≤ d ∧ y = b) ∨ (¬ b ≤ d ∧ y = d)) := ⟨_, rfl, by omega⟩
  obtain ⟨x, ex, hx⟩ := hx
  obtain ⟨y, ey, hy⟩ := hy
  rw [ex, ey] at V2
  simp only [ex, ey]
  clear ex ey
  have fin : ∀ w' : World, (((((w.alloc (.cells #[.int .i64 a, .int .i64 b] 23)).alloc (.cells #[.int .i64 c, .int .i64 d] 23)).alloc (.cells #[.int .i64 0, .int .i64 0] 23)).alloc (.cells #[.int .i64 x, .int .i64 y] 23)).alloc (.cells #[.int .i64 c, .int .i64 d] 23)) = w' → Below w.heap.size w w' := by
    rintro w' rfl
    exact (((((Below.refl _ _).alloc (Nat.le_refl _) _).alloc (by simp) _).alloc (by simp; omega) _).alloc (by simp; omega) _).alloc (by simp; omega) _
  have FIN := Hid.mk' fin
  clear fin
  rcases hx with ⟨hx, rfl⟩ | ⟨hx, rfl⟩ <;> rcases hy with ⟨hy, rfl⟩ | ⟨hy, rfl⟩
  all_goals
    cases t1
    · rw [if_neg (by simp)]
      dsimp only
      go_enter Tryd.func20, Tryd.ntmps20
      go_wp2_with fail
      refine (V1 _).mono ?_
      rintro e w' ⟨rfl, rfl⟩
      go_wp2
      exact bodyPost_ret (v := .agg #[.int .i64 0, .int .i64 0]) (by simp [results, Tryd.results20, go_sem]) rfl ⟨rfl, FIN.out _ rfl⟩
    · cases t2
      · rw [if_neg (by simp)]
        dsimp only
        go_enter Tryd.func20, Tryd.ntmps20
        go_wp2_with fail
        refine (V1 _).mono ?_
        rintro e w' ⟨rfl, rfl⟩
        go_wp2_with fail
        refine (V2 _).mono ?_
        rintro e w' ⟨rfl, rfl⟩
        go_wp2
        exact bodyPost_ret (v := .agg #[.int .i64 0, .int .i64 0]) (by simp [results, Tryd.results20, go_sem]) rfl ⟨rfl, (FIN.out _ rfl).alloc (by simp; omega) _⟩
      · rw [if_pos ⟨rfl, rfl⟩]
        dsimp only
        go_enter Tryd.func20, Tryd.ntmps20
        go_wp2_with fail
        refine (V1 _).mono ?_
        rintro e w' ⟨rfl, rfl⟩
        go_wp2_with fail
        refine (V2 _).mono ?_
        rintro e w' ⟨rfl, rfl⟩
        go_wp2
        refine bodyPost_ret (v := .agg #[.int .i64 x, .int .i64 y]) (by simp [results, Tryd.results20, go_sem]) rfl ⟨rfl, ?_⟩
        exact ((((((Below.refl _ _).alloc (Nat.le_refl _) _).alloc (by simp) _).alloc (by simp; omega) _).alloc (by simp; omega) _).alloc (by simp; omega) _).alloc (by simp; omega) _

end Go.Proofs.YtgjnbcbbkabljaaDoor
