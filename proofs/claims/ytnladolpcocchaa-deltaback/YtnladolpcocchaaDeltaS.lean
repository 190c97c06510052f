/-
  Deltas of sorted lists, gone over side by side: what has changed, what is gone and what is laid over, by the heads of both. No function of the program is named here.
-/
import Derived.Test.YtnladolpcocchaaDeltaM
namespace Go.Proofs.Ytnladolpcocchaa
open Go.RowKit
set_option linter.unusedSimpArgs false
set_option linter.unusedVariables false
set_option maxRecDepth 10000
set_option synthInstance.maxSize 2000

theorem sortM_head {x : RK} {t : List RK} {a : Int} (h : sortR a (x :: t) = true) : mayR x = true ∧ a < x.id ∧ sortR x.id t = true ∧ ∀ y ∈ t, x.id < y.id := by
  simp only [sortR, Bool.and_eq_true, decide_eq_true_eq] at h
  exact ⟨h.1.1, h.1.2, h.2, fun y hy => (sortM_low h.2 y hy).1⟩
theorem sortM_weak {t : List RK} {a b : Int} (h : sortR a t = true) (hb : b ≤ a) : sortR b t = true := sortM_mono h fun x hx => by have := (sortM_low h x hx).1; omega
theorem getI_skip {x : RK} {t : List RK} {i : Int} (h : x.id ≠ i) : getI i (x :: t) = getI i t := by rw [getI, if_neg h]
theorem getI_head (x : RK) (t : List RK) : getI x.id (x :: t) = some x := by rw [getI, if_pos rfl]
theorem getI_low {t : List RK} {a i : Int} (h : sortR a t = true) (hi : i ≤ a) : getI i t = none := getI_none fun r hr => by have := (sortM_low h r hr).1; omega

theorem diff_nil_l (n : List RK) : diffK [] n = n := by
  unfold diffK
  rw [List.filter_eq_self]
  intro r _
  simp [getI]
theorem diff_nil_r (b : List RK) : diffK b [] = [] := rfl
theorem diff_skip {x : RK} {b n : List RK} (h : ∀ r ∈ n, x.id ≠ r.id) : diffK (x :: b) n = diffK b n := by
  unfold diffK
  refine List.filter_congr fun r hr => ?_
  rw [getI_skip (h r hr)]
theorem diff_lt {x y : RK} {b n : List RK} (hn : sortR y.id n = true) (h : x.id < y.id) : diffK (x :: b) (y :: n) = diffK b (y :: n) :=
  diff_skip fun r hr => by
    rcases List.mem_cons.1 hr with rfl | hr
    · omega
    · have := (sortM_low hn r hr).1; omega
theorem diff_gt {x y : RK} {b n : List RK} (hb : sortR x.id b = true) (h : y.id < x.id) : diffK (x :: b) (y :: n) = y :: diffK (x :: b) n := by
  have e : getI y.id (x :: b) = none := by rw [getI_skip (by omega)]; exact getI_low hb (by omega)
  unfold diffK
  rw [List.filter_cons, e]
  simp
theorem diff_eq {x y : RK} {b n : List RK} (hn : sortR y.id n = true) (h : x.id = y.id) : diffK (x :: b) (y :: n) = if x = y then diffK b n else y :: diffK b n := by
  have e : getI y.id (x :: b) = some x := by rw [← h]; exact getI_head x b
  have e2 : diffK (x :: b) n = diffK b n := diff_skip fun r hr => by have := (sortM_low hn r hr).1; omega
  have e3 : diffK (x :: b) (y :: n) = if (!decide (getI y.id (x :: b) = some y)) = true then y :: diffK (x :: b) n else diffK (x :: b) n := by
    unfold diffK
    rw [List.filter_cons]
  rw [e3, e, e2]
  by_cases q : x = y
  · rw [if_pos q, q]; simp
  · rw [if_neg q]; simp [q]

theorem gone_nil_l (n : List RK) : goneK [] n = [] := rfl
theorem gone_nil_r (b : List RK) : goneK b [] = b.map RK.id := by
  unfold goneK
  rw [List.filter_eq_self.2 fun r _ => by simp [getI]]
theorem gone_skip {y : RK} {b n : List RK} (h : ∀ r ∈ b, y.id ≠ r.id) : goneK b (y :: n) = goneK b n := by
  unfold goneK
  congr 1
  refine List.filter_congr fun r hr => ?_
  rw [getI_skip (h r hr)]
theorem gone_lt {x y : RK} {b n : List RK} (hn : sortR y.id n = true) (h : x.id < y.id) : goneK (x :: b) (y :: n) = x.id :: goneK b (y :: n) := by
  have e : getI x.id (y :: n) = none := by rw [getI_skip (by omega)]; exact getI_low hn (by omega)
  unfold goneK
  rw [List.filter_cons, e]
  simp
theorem gone_gt {x y : RK} {b n : List RK} (hb : sortR x.id b = true) (h : y.id < x.id) : goneK (x :: b) (y :: n) = goneK (x :: b) n :=
  gone_skip fun r hr => by
    rcases List.mem_cons.1 hr with rfl | hr
    · omega
    · have := (sortM_low hb r hr).1; omega
theorem gone_eq {x y : RK} {b n : List RK} (hb : sortR x.id b = true) (h : x.id = y.id) : goneK (x :: b) (y :: n) = goneK b n := by
  have e : getI x.id (y :: n) = some y := by rw [h]; exact getI_head y n
  have e2 : goneK (x :: b) (y :: n) = goneK b (y :: n) := by
    unfold goneK
    rw [List.filter_cons, e]
    simp
  rw [e2]
  exact gone_skip fun r hr => by have := (sortM_low hb r hr).1; omega

theorem over_nil_r (b : List RK) : overK b [] = b := rfl
theorem over_below {x : RK} : ∀ {d : List RK} {t : List RK}, sortR x.id d = true → sortR x.id t = true → overK (x :: t) d = x :: overK t d
  | [], _, _, _ => rfl
  | y :: d, t, hd, ht => by
    obtain ⟨hm, hlt, hs, _⟩ := sortM_head hd
    have e : putM y (x :: t) = x :: putM y t := by
      rw [putM_cons y x t (fun _ _ _ => trivial), if_neg (by omega), if_neg (by omega)]
    show overK (putM y (x :: t)) d = x :: overK (putM y t) d
    rw [e]
    exact over_below (sortM_weak hs (by omega)) (sortM_put y hm t x.id ht hlt)
theorem over_lt {x y : RK} {b d : List RK} (hb : sortR x.id b = true) (hd : sortR x.id (y :: d) = true) : overK (x :: b) (y :: d) = x :: overK b (y :: d) := over_below hd hb
theorem over_gt {x y : RK} {b d : List RK} (hb : sortR y.id (x :: b) = true) (hd : sortR y.id d = true) : overK (x :: b) (y :: d) = y :: overK (x :: b) d := by
  obtain ⟨_, hlt, hs, _⟩ := sortM_head hb
  have e : putM y (x :: b) = y :: x :: b := by
    rw [putM_cons y x b (fun _ _ _ => trivial), if_neg (by omega), if_pos ⟨getI_low hs (by omega), hlt⟩]
  show overK (putM y (x :: b)) d = _
  rw [e]
  exact over_below hd hb
theorem over_eq {x y : RK} {b d : List RK} (h : x.id = y.id) (hb : sortR y.id b = true) (hd : sortR y.id d = true) : overK (x :: b) (y :: d) = y :: overK b d := by
  have e : putM y (x :: b) = y :: b := by rw [putM_cons y x b (fun _ _ _ => trivial), if_pos h]
  show overK (putM y (x :: b)) d = _
  rw [e]
  exact over_below hd hb
theorem over_nil_l : ∀ {d : List RK} {a : Int}, sortR a d = true → overK [] d = d
  | [], _, _ => rfl
  | y :: d, a, h => by
    obtain ⟨_, _, hs, _⟩ := sortM_head h
    show overK (putM y []) d = _
    rw [putM_nil, over_below hs rfl, over_nil_l hs]
end Go.Proofs.Ytnladolpcocchaa
