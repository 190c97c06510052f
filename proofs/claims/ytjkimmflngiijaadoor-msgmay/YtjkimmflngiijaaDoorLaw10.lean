/-
  Stage 10: the statements' own functions: has, May, Alike, Few, awake.
-/
import Derived.Test.YtjkimmflngiijaaDoorMsgV
import Derived.Test.YtjkimmflngiijaaDoorMsgK
import Derived.Test.YtjkimmflngiijaaDoorRecX
namespace Go.Proofs.YtjkimmflngiijaaDoor
open Go.RowKit
set_option linter.unusedSimpArgs false
set_option linter.unusedVariables false
set_option maxRecDepth 10000
set_option synthInstance.maxSize 2000

set_option maxHeartbeats 4000000 in
theorem lhas_any (k p : Int) (w : World) : Calls Tryd.prog 9 #[.int .i64 k, .int .i64 p] w fun e w' => e = .returned (.bool (hasB k p)) ∧ w = w' := by
  by_cases p0 : p = 0
  · subst p0
    have HM := Hid.mk' (show hasB k 0 = decide (k = 1 ∨ k = 2 ∨ k = 4 ∨ k = 5 ∨ k = 6) by simp [hasB])
    generalize hasB k 0 = q at HM ⊢
    by_cases t0 : k = 1
    · subst t0
      obtain rfl : q = true := by rw [HM.out]; simp
      clear HM
      go_enter Tryd.func9, Tryd.ntmps9
      go_wp2_with fail
      go_ret
      exact ⟨rfl, rfl⟩
    have d0 : (k == 1) = false := by simp [t0]
    by_cases t1 : k = 2
    · subst t1
      obtain rfl : q = true := by rw [HM.out]; simp
      clear HM
      go_enter Tryd.func9, Tryd.ntmps9
      go_wp2_with fail
      go_ret
      exact ⟨rfl, rfl⟩
    have d1 : (k == 2) = false := by simp [t1]
    by_cases t2 : k = 4
    · subst t2
      obtain rfl : q = true := by rw [HM.out]; simp
      clear HM
      go_enter Tryd.func9, Tryd.ntmps9
      go_wp2_with fail
      go_ret
      exact ⟨rfl, rfl⟩
    have d2 : (k == 4) = false := by simp [t2]
    by_cases t3 : k = 5
    · subst t3
      obtain rfl : q = true := by rw [HM.out]; simp
      clear HM
      go_enter Tryd.func9, Tryd.ntmps9
      go_wp2_with fail
      go_ret
      exact ⟨rfl, rfl⟩
    have d3 : (k == 5) = false := by simp [t3]
    by_cases t4 : k = 6
    · subst t4
      obtain rfl : q = true := by rw [HM.out]; simp
      clear HM
      go_enter Tryd.func9, Tryd.ntmps9
      go_wp2_with fail
      go_ret
      exact ⟨rfl, rfl⟩
    have d4 : (k == 6) = false := by simp [t4]
    obtain rfl : q = false := by rw [HM.out]; simp [t0, t1, t2, t3, t4]
    clear HM
    go_enter Tryd.func9, Tryd.ntmps9
    go_wp2_with fail
    go_ret
    exact ⟨rfl, rfl⟩
  by_cases p1 : p = 1
  · subst p1
    have HM := Hid.mk' (show hasB k 1 = decide (k = 3 ∨ k = 6) by simp [hasB])
    generalize hasB k 1 = q at HM ⊢
    by_cases t0 : k = 3
    · subst t0
      obtain rfl : q = true := by rw [HM.out]; simp
      clear HM
      go_enter Tryd.func9, Tryd.ntmps9
      go_wp2_with fail
      go_ret
      exact ⟨rfl, rfl⟩
    have d0 : (k == 3) = false := by simp [t0]
    by_cases t1 : k = 6
    · subst t1
      obtain rfl : q = true := by rw [HM.out]; simp
      clear HM
      go_enter Tryd.func9, Tryd.ntmps9
      go_wp2_with fail
      go_ret
      exact ⟨rfl, rfl⟩
    have d1 : (k == 6) = false := by simp [t1]
    obtain rfl : q = false := by rw [HM.out]; simp [t0, t1]
    clear HM
    go_enter Tryd.func9, Tryd.ntmps9
    go_wp2_with fail
    go_ret
    exact ⟨rfl, rfl⟩
  by_cases p2 : p = 2
  · subst p2
    have HM := Hid.mk' (show hasB k 2 = decide (k = 7 ∨ k = 8 ∨ k = 9) by simp [hasB])
    generalize hasB k 2 = q at HM ⊢
    by_cases t0 : k = 7
    · subst t0
      obtain rfl : q = true := by rw [HM.out]; simp
      clear HM
      go_enter Tryd.func9, Tryd.ntmps9
      go_wp2_with fail
      go_ret
      exact ⟨rfl, rfl⟩
    have d0 : (k == 7) = false := by simp [t0]
    by_cases t1 : k = 8
    · subst t1
      obtain rfl : q = true := by rw [HM.out]; simp
      clear HM
      go_enter Tryd.func9, Tryd.ntmps9
      go_wp2_with fail
      go_ret
      exact ⟨rfl, rfl⟩
    have d1 : (k == 8) = false := by simp [t1]
    by_cases t2 : k = 9
    · subst t2
      obtain rfl : q = true := by rw [HM.out]; simp
      clear HM
      go_enter Tryd.func9, Tryd.ntmps9
      go_wp2_with fail
      go_ret
      exact ⟨rfl, rfl⟩
    have d2 : (k == 9) = false := by simp [t2]
    obtain rfl : q = false := by rw [HM.out]; simp [t0, t1, t2]
    clear HM
    go_enter Tryd.func9, Tryd.ntmps9
    go_wp2_with fail
    go_ret
    exact ⟨rfl, rfl⟩
  by_cases p3 : p = 3
  · subst p3
    have HM := Hid.mk' (show hasB k 3 = decide (k = 7) by simp [hasB])
    generalize hasB k 3 = q at HM ⊢
    by_cases t0 : k = 7
    · subst t0
      obtain rfl : q = true := by rw [HM.out]; simp
      clear HM
      go_enter Tryd.func9, Tryd.ntmps9
      go_wp2_with fail
      go_ret
      exact ⟨rfl, rfl⟩
    have d0 : (k == 7) = false := by simp [t0]
    obtain rfl : q = false := by rw [HM.out]; simp [t0]
    clear HM
    go_enter Tryd.func9, Tryd.ntmps9
    go_wp2_with fail
    go_ret
    exact ⟨rfl, rfl⟩
  have e0 : (p == 0) = false := by simp [p0]
  have e1 : (p == 1) = false := by simp [p1]
  have e2 : (p == 2) = false := by simp [p2]
  have e3 : (p == 3) = false := by simp [p3]
  have HM := Hid.mk' (show hasB k p = (decide (p = 4) && decide (4 ≤ k ∧ k ≤ 8)) by simp [hasB, p0, p1, p2, p3])
  generalize hasB k p = q at HM ⊢
  by_cases p4 : p = 4
  · subst p4
    by_cases t0 : 4 ≤ k
    · by_cases t1 : k ≤ 8
      · obtain rfl : q = true := by rw [HM.out]; simp [t0, t1]
        clear HM
        go_enter Tryd.func9, Tryd.ntmps9
        go_wp2_with fail
        go_ret
        exact ⟨rfl, rfl⟩
      · obtain rfl : q = false := by rw [HM.out]; simp; omega
        clear HM
        go_enter Tryd.func9, Tryd.ntmps9
        go_wp2_with fail
        go_ret
        exact ⟨rfl, rfl⟩
    · obtain rfl : q = false := by rw [HM.out]; simp; omega
      clear HM
      go_enter Tryd.func9, Tryd.ntmps9
      go_wp2_with fail
      go_ret
      exact ⟨rfl, rfl⟩
  · have e4 : (p == 4) = false := by simp [p4]
    obtain rfl : q = false := by rw [HM.out]; simp [p4]
    clear HM
    go_enter Tryd.func9, Tryd.ntmps9
    go_wp2_with fail
    go_ret
    exact ⟨rfl, rfl⟩

end Go.Proofs.YtjkimmflngiijaaDoor
