/-
  Package rec: names, Name, Status, with place over texts.
-/
import Derived.Test.YtdfjjajkeieocaaRecF
import Derived.Test.YtdfjjajkeieocaaRecL
namespace Go.Proofs.Ytdfjjajkeieocaa
open Go.RowKit
set_option linter.unusedSimpArgs false
set_option linter.unusedVariables false
set_option maxRecDepth 10000
set_option synthInstance.maxSize 2000

def aliveS : ByteArray := ⟨#[97, 108, 105, 118, 101]⟩
def suspectS : ByteArray := ⟨#[115, 117, 115, 112, 101, 99, 116]⟩
def deadS : ByteArray := ⟨#[100, 101, 97, 100]⟩
def leftS : ByteArray := ⟨#[108, 101, 102, 116]⟩
def stS (s : Int) : ByteArray := if s = 0 then aliveS else if s = 1 then suspectS else if s = 2 then deadS else if s = 3 then leftS else ⟨#[]⟩

theorem textR_eq (a b : ByteArray) : (a.toList == b.toList) = decide (a = b) := by
  rw [ByteArray.toList_eq, ByteArray.toList_eq, Bool.eq_iff_iff]
  simp
  constructor
  · intro h
    cases a; cases b
    simp at h
    rw [h]
  · rintro rfl; rfl

set_option maxHeartbeats 1600000 in
theorem names_any (w : World) : Calls Try.prog 49 #[] w fun e w' => e = .returned (.agg #[.string aliveS, .string suspectS, .string deadS, .string leftS]) ∧ Below w.heap.size w w' := by
  have HB := Hid.mk' ((Below.refl w.heap.size w).alloc (Nat.le_refl _) (.cells #[.string aliveS, .string suspectS, .string deadS, .string leftS] 65))
  unfold aliveS suspectS deadS leftS at HB ⊢
  go_enter Try.func49, Try.ntmps49
  go_wp2_with fail
  refine bodyPost_ret (v := .agg #[.string ⟨#[97, 108, 105, 118, 101]⟩, .string ⟨#[115, 117, 115, 112, 101, 99, 116]⟩, .string ⟨#[100, 101, 97, 100]⟩, .string ⟨#[108, 101, 102, 116]⟩]) (by simp [results, Try.results49, go_sem]) rfl ⟨rfl, ?_⟩
  exact HB.out

set_option maxHeartbeats 1600000 in
theorem rname_any (s : Int) (w : World) : Calls Try.prog 28 #[.int .i64 s] w fun e w' => e = .returned (.string (stS s)) ∧ Below w.heap.size w w' := by
  have W := fun X => within_any s 3 X
  have x0 : ∀ w, (Instr.index 65 (.agg #[.string aliveS, .string suspectS, .string deadS, .string leftS]) (.int .i64 0)).run Try.prog w = .ok (.string aliveS) w := fun w => rfl
  have x1 : ∀ w, (Instr.index 65 (.agg #[.string aliveS, .string suspectS, .string deadS, .string leftS]) (.int .i64 1)).run Try.prog w = .ok (.string suspectS) w := fun w => rfl
  have x2 : ∀ w, (Instr.index 65 (.agg #[.string aliveS, .string suspectS, .string deadS, .string leftS]) (.int .i64 2)).run Try.prog w = .ok (.string deadS) w := fun w => rfl
  have x3 : ∀ w, (Instr.index 65 (.agg #[.string aliveS, .string suspectS, .string deadS, .string leftS]) (.int .i64 3)).run Try.prog w = .ok (.string leftS) w := fun w => rfl
  by_cases t : 0 ≤ s ∧ s ≤ 3
  · rw [decide_eq_true t] at W
    have ht : s = 0 ∨ s = 1 ∨ s = 2 ∨ s = 3 := by omega
    clear t
    rcases ht with rfl | rfl | rfl | rfl
    · rw [show stS 0 = aliveS from rfl]
      go_enter Try.func28, Try.ntmps28
      go_wp2_with fail
      refine (W _).mono ?_
      rintro e w1 ⟨rfl, rfl⟩
      go_wp2_with fail
      refine (names_any _).mono ?_
      rintro e w2 ⟨rfl, hb⟩
      go_wp2_with fail
      go_ret
      exact ⟨rfl, hb⟩
    · rw [show stS 1 = suspectS from rfl]
      go_enter Try.func28, Try.ntmps28
      go_wp2_with fail
      refine (W _).mono ?_
      rintro e w1 ⟨rfl, rfl⟩
      go_wp2_with fail
      refine (names_any _).mono ?_
      rintro e w2 ⟨rfl, hb⟩
      go_wp2_with fail
      go_ret
      exact ⟨rfl, hb⟩
    · rw [show stS 2 = deadS from rfl]
      go_enter Try.func28, Try.ntmps28
      go_wp2_with fail
      refine (W _).mono ?_
      rintro e w1 ⟨rfl, rfl⟩
      go_wp2_with fail
      refine (names_any _).mono ?_
      rintro e w2 ⟨rfl, hb⟩
      go_wp2_with fail
      go_ret
      exact ⟨rfl, hb⟩
    · rw [show stS 3 = leftS from rfl]
      go_enter Try.func28, Try.ntmps28
      go_wp2_with fail
      refine (W _).mono ?_
      rintro e w1 ⟨rfl, rfl⟩
      go_wp2_with fail
      refine (names_any _).mono ?_
      rintro e w2 ⟨rfl, hb⟩
      go_wp2_with fail
      go_ret
      exact ⟨rfl, hb⟩
  · rw [decide_eq_false t] at W
    rw [show stS s = ⟨#[]⟩ by unfold stS; rw [if_neg (by omega), if_neg (by omega), if_neg (by omega), if_neg (by omega)]]
    clear t
    go_enter Try.func28, Try.ntmps28
    go_wp2_with fail
    refine (W _).mono ?_
    rintro e w1 ⟨rfl, rfl⟩
    go_wp2_with fail
    go_ret
    exact ⟨rfl, Below.refl _ _⟩


def fst4 (a b c d : Bool) : Int := if a then 0 else if b then 1 else if c then 2 else if d then 3 else 4


def statS (s : ByteArray) : Int × Bool := if aliveS = s then (0, true) else if suspectS = s then (1, true) else if deadS = s then (2, true) else if leftS = s then (3, true) else (0, false)

/-- The cells of four texts. -/
theorem four_texts {w : World} {b : Nat} {x y z u : Value} {t : TypeId} (h : w.heap[b]? = some (.cells #[x, y, z, u] t (0, 0))) :
    w.cell? ⟨b, 0, none⟩ = some x ∧ w.cell? ⟨b, 1, none⟩ = some y ∧ w.cell? ⟨b, 2, none⟩ = some z ∧ w.cell? ⟨b, 3, none⟩ = some u := by
  simp [World.cell?, h]


end Go.Proofs.Ytdfjjajkeieocaa
