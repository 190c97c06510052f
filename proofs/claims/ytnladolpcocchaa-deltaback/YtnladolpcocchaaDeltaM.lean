/-
  Deltas of lists of records as plain Lean: what has changed, what is gone, what a delta laid over a base comes to; that the delta over the base is what is now, and that no less does. No function of the program is named here.
-/
import Derived.Test.YtnladolpcocchaaRecY
namespace Go.Proofs.Ytnladolpcocchaa
open Go.RowKit
set_option linter.unusedSimpArgs false
set_option linter.unusedVariables false
set_option maxRecDepth 10000
set_option synthInstance.maxSize 2000

/-- The record with an id. -/
def getI (i : Int) : List RK → Option RK
  | [] => none
  | r :: t => if r.id = i then some r else getI i t
/-- Where the first one stands that is wanted, or the end. -/
def firstM (f : Int → Bool) : List RK → Nat
  | [] => 0
  | x :: t => if f x.id then 0 else firstM f t + 1
theorem firstP_rks (f : Int → Bool) : ∀ l : List Rc, firstP f l = firstM f (rks l)
  | [] => rfl
  | x :: t => by
    have := firstP_rks f t
    show (if f x.id then 0 else firstP f t + 1) = (if f (rk x).id then 0 else firstM f (rks t) + 1)
    rw [this]
    rfl
/-- A list with a record in its place. -/
def putM (r : RK) (l : List RK) : List RK :=
  if firstM (fun i => i == r.id) l < l.length then l.take (firstM (fun i => i == r.id) l) ++ r :: l.drop (firstM (fun i => i == r.id) l + 1)
  else l.take (firstM (fun i => decide (r.id < i)) l) ++ r :: l.drop (firstM (fun i => decide (r.id < i)) l)
theorem putL_rks (r : Rc) (l : List Rc) : rks (putL r l) = putM (rk r) (rks l) := by
  have e1 := firstP_rks (fun i => i == r.id) l
  have e2 := firstP_rks (fun i => decide (r.id < i)) l
  unfold putL putM
  rw [e1, e2, rks_len]
  show rks (if firstM (fun i => i == r.id) (rks l) < l.length then _ else _) = if firstM (fun i => i == r.id) (rks l) < l.length then _ else _
  split
  · rw [rks_append]; simp [rks, List.map_take, List.map_drop]; rfl
  · rw [rks_append]; simp [rks, List.map_take, List.map_drop]; rfl
/-- In plain words: what putting comes to, from the front. -/
theorem putM_cons (r x : RK) (t : List RK) (h : ∀ y ∈ x :: t, y.id ≠ r.id → True) : putM r (x :: t) = if x.id = r.id then r :: t else if getI r.id t = none ∧ r.id < x.id then r :: x :: t else x :: putM r t := by
  have key : ∀ l : List RK, firstM (fun i => i == r.id) l < l.length ↔ getI r.id l ≠ none := by
    intro l
    induction l with
    | nil => simp [firstM, getI]
    | cons y l ih =>
      simp only [firstM, getI]
      by_cases q : y.id = r.id
      · simp [q]
      · simp only [show (y.id == r.id) = false by simpa using q, Bool.false_eq_true, if_false, if_neg q, List.length_cons]
        rw [← ih]; omega
  by_cases c1 : x.id = r.id
  · rw [if_pos c1]
    have q : firstM (fun i => i == r.id) (x :: t) = 0 := by simp [firstM, c1]
    simp only [putM, q]
    simp
  · rw [if_neg c1]
    have q : firstM (fun i => i == r.id) (x :: t) = firstM (fun i => i == r.id) t + 1 := by
      simp only [firstM, show (x.id == r.id) = false by simpa using c1]
      rfl
    by_cases c2 : getI r.id t = none
    · have n1 : ¬ firstM (fun i => i == r.id) t < t.length := fun z => (key t).1 z c2
      have n2 : ¬ firstM (fun i => i == r.id) (x :: t) < (x :: t).length := by rw [q]; simp only [List.length_cons]; omega
      by_cases c3 : r.id < x.id
      · rw [if_pos ⟨c2, c3⟩]
        have q2 : firstM (fun i => decide (r.id < i)) (x :: t) = 0 := by simp [firstM, c3]
        unfold putM
        rw [if_neg n2, q2]
        simp
      · rw [if_neg (fun z => c3 z.2)]
        have q2 : firstM (fun i => decide (r.id < i)) (x :: t) = firstM (fun i => decide (r.id < i)) t + 1 := by
          simp only [firstM, show decide (r.id < x.id) = false by simpa using c3]
          rfl
        unfold putM
        rw [if_neg n2, q2, if_neg n1]
        simp
    · have n1 : firstM (fun i => i == r.id) t < t.length := (key t).2 c2
      have n2 : firstM (fun i => i == r.id) (x :: t) < (x :: t).length := by rw [q]; simp only [List.length_cons]; omega
      rw [if_neg (fun z => c2 z.1)]
      unfold putM
      rw [if_pos n2, q, if_pos n1]
      simp
theorem putM_nil (r : RK) : putM r [] = [r] := by simp [putM, firstM]

theorem getI_id {i : Int} {l : List RK} {r : RK} (h : getI i l = some r) : r.id = i ∧ r ∈ l := by
  induction l with
  | nil => cases h
  | cons x t ih =>
    rw [getI] at h
    by_cases q : x.id = i
    · rw [if_pos q] at h
      cases h
      exact ⟨q, by simp⟩
    · rw [if_neg q] at h
      have := ih h
      exact ⟨this.1, by simp [this.2]⟩
theorem getI_none {i : Int} {l : List RK} (h : ∀ r ∈ l, r.id ≠ i) : getI i l = none := by
  induction l with
  | nil => rfl
  | cons x t ih => rw [getI, if_neg (h x (by simp))]; exact ih fun r hr => h r (by simp [hr])
theorem getI_put (i : Int) (r : RK) : ∀ l : List RK, getI i (putM r l) = if r.id = i then some r else getI i l
  | [] => by rw [putM_nil]; rfl
  | x :: t => by
    rw [putM_cons r x t (fun _ _ _ => trivial)]
    by_cases c1 : x.id = r.id
    · rw [if_pos c1, getI]
      by_cases q : r.id = i
      · rw [if_pos q, if_pos q]
      · rw [if_neg q, if_neg q, getI, if_neg (by rw [c1]; exact q)]
    · rw [if_neg c1]
      by_cases c2 : getI r.id t = none ∧ r.id < x.id
      · rw [if_pos c2, getI]
      · rw [if_neg c2, getI, getI_put i r t, getI]
        by_cases q : r.id = i
        · rw [if_pos q, if_pos q, if_neg (by rw [← q]; exact c1)]
        · rw [if_neg q, if_neg q]

theorem sortM_low : ∀ {l : List RK} {a : Int}, sortR a l = true → ∀ x ∈ l, a < x.id ∧ mayR x = true
  | y :: t, a, h, x, hx => by
    simp only [sortR, Bool.and_eq_true, decide_eq_true_eq] at h
    obtain ⟨⟨h1, h2⟩, h3⟩ := h
    rcases List.mem_cons.1 hx with rfl | q
    · exact ⟨h2, h1⟩
    · have h4 := sortM_low h3 x q
      exact ⟨by have := h4.1; omega, h4.2⟩
theorem sortM_mono : ∀ {l : List RK} {a b : Int}, sortR a l = true → (∀ x ∈ l, b < x.id) → sortR b l = true
  | [], _, _, _, _ => rfl
  | y :: t, a, b, h, hb => by
    simp only [sortR, Bool.and_eq_true, decide_eq_true_eq] at h ⊢
    exact ⟨⟨h.1.1, hb y (by simp)⟩, h.2⟩
theorem sortM_put (r : RK) (hr : mayR r = true) : ∀ (l : List RK) (a : Int), sortR a l = true → a < r.id → sortR a (putM r l) = true
  | [], a, h, ha => by rw [putM_nil]; simp [sortR, hr, ha]
  | x :: t, a, h, ha => by
    have h' := h
    simp only [sortR, Bool.and_eq_true, decide_eq_true_eq] at h'
    obtain ⟨⟨h1, h2⟩, h3⟩ := h'
    rw [putM_cons r x t (fun _ _ _ => trivial)]
    by_cases c1 : x.id = r.id
    · rw [if_pos c1]
      simp only [sortR, Bool.and_eq_true, decide_eq_true_eq]
      exact ⟨⟨hr, ha⟩, by rw [← c1]; exact h3⟩
    · rw [if_neg c1]
      by_cases c2 : getI r.id t = none ∧ r.id < x.id
      · rw [if_pos c2]
        simp only [sortR, Bool.and_eq_true, decide_eq_true_eq]
        exact ⟨⟨hr, ha⟩, ⟨h1, c2.2⟩, h3⟩
      · rw [if_neg c2]
        simp only [sortR, Bool.and_eq_true, decide_eq_true_eq]
        refine ⟨⟨h1, h2⟩, sortM_put r hr t x.id h3 ?_⟩
        by_cases c3 : r.id < x.id
        · have hn : getI r.id t = none := getI_none fun y hy => by have := (sortM_low h3 y hy).1; omega
          exact absurd ⟨hn, c3⟩ c2
        · omega

/-- Two sorted lists with the same records are the same. -/
theorem sort_ext : ∀ {l k : List RK} {a b : Int}, sortR a l = true → sortR b k = true → (∀ i, getI i l = getI i k) → l = k
  | [], [], _, _, _, _, _ => rfl
  | [], y :: k, _, _, _, _, h => by
    have := h y.id
    rw [getI, getI, if_pos rfl] at this
    cases this
  | x :: l, [], _, _, _, _, h => by
    have := h x.id
    rw [getI, getI, if_pos rfl] at this
    cases this
  | x :: l, y :: k, a, b, hl, hk, h => by
    simp only [sortR, Bool.and_eq_true, decide_eq_true_eq] at hl hk
    obtain ⟨⟨_, hxa⟩, hl3⟩ := hl
    obtain ⟨⟨_, hyb⟩, hk3⟩ := hk
    have hxy : x = y := by
      have h1 := h x.id
      have h2 := h y.id
      rw [getI, if_pos rfl] at h1
      rw [getI, getI, if_pos (rfl : y.id = y.id)] at h2
      by_cases q : y.id = x.id
      · rw [getI, if_pos q] at h1
        exact Option.some.inj h1
      · rw [getI, if_neg q] at h1
        rw [if_neg (fun z => q z.symm)] at h2
        have g1 := (sortM_low hk3 x (getI_id h1.symm).2).1
        have g2 := (sortM_low hl3 y (getI_id h2).2).1
        omega
    subst hxy
    congr 1
    refine sort_ext hl3 hk3 fun i => ?_
    have hi := h i
    rw [getI, getI] at hi
    by_cases q : x.id = i
    · rw [getI_none fun r hr => by have := (sortM_low hl3 r hr).1; omega, getI_none fun r hr => by have := (sortM_low hk3 r hr).1; omega]
    · rw [if_neg q, if_neg q] at hi
      exact hi

/-- What has changed; which ids are gone; a delta over a base. -/
def diffK (b n : List RK) : List RK := n.filter fun r => !decide (getI r.id b = some r)
def goneK (b n : List RK) : List Int := (b.filter fun r => (getI r.id n).isNone).map RK.id
def overK (b d : List RK) : List RK := d.foldl (fun l r => putM r l) b

theorem over_sort : ∀ {d b : List RK}, sortR (-1) b = true → (∀ r ∈ d, mayR r = true) → sortR (-1) (overK b d) = true
  | [], _, h, _ => h
  | r :: d, b, h, hd => by
    have hm := hd r (by simp)
    have h0 : 0 ≤ r.id := by
      have hc : coreOk r = true := by simp only [mayR, Bool.and_eq_true] at hm; exact hm.1.1
      simp only [coreOk, Bool.and_eq_true, decide_eq_true_eq] at hc
      exact hc.1.1.1.1
    exact over_sort (d := d) (b := putM r b) (sortM_put r hm b (-1) h (by omega)) fun x hx => hd x (by simp [hx])
theorem getI_over (i : Int) : ∀ {d b : List RK} {a : Int}, sortR a d = true → getI i (overK b d) = match getI i d with | some r => some r | none => getI i b
  | [], b, _, _ => rfl
  | r :: d, b, a, h => by
    simp only [sortR, Bool.and_eq_true, decide_eq_true_eq] at h
    have ih := getI_over i (d := d) (b := putM r b) h.2
    show getI i (overK (putM r b) d) = _
    rw [ih, getI_put, getI]
    by_cases q : r.id = i
    · rw [if_pos q, if_pos q, getI_none fun x hx => by have := (sortM_low h.2 x hx).1; omega]
    · rw [if_neg q, if_neg q]
theorem sort_filter (p : RK → Bool) : ∀ {l : List RK} {a : Int}, sortR a l = true → sortR a (l.filter p) = true
  | [], _, h => h
  | x :: t, a, h => by
    simp only [sortR, Bool.and_eq_true, decide_eq_true_eq] at h
    rw [List.filter_cons]
    split
    · simp only [sortR, Bool.and_eq_true, decide_eq_true_eq]
      exact ⟨h.1, sort_filter p h.2⟩
    · exact sortM_mono (sort_filter p h.2) fun y hy => by have := (sortM_low h.2 y (List.mem_filter.1 hy).1).1; omega
theorem getI_filter (p : RK → Bool) (i : Int) : ∀ {l : List RK} {a : Int}, sortR a l = true → getI i (l.filter p) = match getI i l with | some r => if p r = true then some r else none | none => none
  | [], _, _ => rfl
  | x :: t, a, h => by
    simp only [sortR, Bool.and_eq_true, decide_eq_true_eq] at h
    rw [List.filter_cons, getI]
    by_cases q : x.id = i
    · rw [if_pos q]
      by_cases z : p x = true
      · rw [if_pos z, getI, if_pos q]; simp [z]
      · rw [if_neg z, getI_none fun y hy => by have := (sortM_low h.2 y (List.mem_filter.1 hy).1).1; omega]; simp [z]
    · rw [if_neg q]
      by_cases z : p x = true
      · rw [if_pos z, getI, if_neg q]; exact getI_filter p i h.2
      · rw [if_neg z]; exact getI_filter p i h.2

/-- The delta over the base is what is now. -/
theorem over_diff {b n : List RK} (hb : sortR (-1) b = true) (hn : sortR (-1) n = true) (hg : goneK b n = []) : overK b (diffK b n) = n := by
  have hd : sortR (-1) (diffK b n) = true := sort_filter _ hn
  refine sort_ext (over_sort hb fun r hr => (sortM_low hd r hr).2) hn fun i => ?_
  rw [getI_over i hd, diffK, getI_filter _ i hn]
  cases e : getI i n with
  | none =>
    show getI i b = none
    cases e2 : getI i b with
    | none => rfl
    | some r =>
      obtain ⟨h1, h2⟩ := getI_id e2
      have : r.id ∈ goneK b n := by
        unfold goneK
        exact List.mem_map_of_mem (List.mem_filter.2 ⟨h2, by rw [h1, e]; rfl⟩)
      rw [hg] at this
      cases this
  | some r =>
    obtain ⟨h1, _⟩ := getI_id e
    by_cases z : getI r.id b = some r
    · have e2 : getI i b = some r := by rw [← h1]; exact z
      simp [z, e2]
    · simp [z]

/-- What is now without one record of the delta is not what it was. -/
theorem over_less {b n : List RK} (hb : sortR (-1) b = true) (hn : sortR (-1) n = true) {k : Nat} (hk : k < (diffK b n).length) : sortR (-1) ((diffK b n).take k ++ (diffK b n).drop (k + 1)) = true ∧ overK b ((diffK b n).take k ++ (diffK b n).drop (k + 1)) ≠ n := by
  have hd : sortR (-1) (diffK b n) = true := sort_filter _ hn
  have key : ∀ (l : List RK) (a : Int) (k : Nat) (h : k < l.length), sortR a l = true → sortR a (l.take k ++ l.drop (k + 1)) = true ∧ getI (l[k]).id (l.take k ++ l.drop (k + 1)) = none := by
    intro l
    induction l with
    | nil => intro a k h _; simp at h
    | cons x t ih =>
      intro a k h hs
      have hs' := hs
      simp only [sortR, Bool.and_eq_true, decide_eq_true_eq] at hs
      cases k with
      | zero =>
        simp only [List.take_zero, List.nil_append, Nat.zero_add, List.drop_succ_cons, List.drop_zero, List.getElem_cons_zero]
        exact ⟨sortM_mono hs.2 fun y hy => by have := (sortM_low hs.2 y hy).1; omega, getI_none fun y hy => by have := (sortM_low hs.2 y hy).1; omega⟩
      | succ k =>
        have hk : k < t.length := by simpa using h
        obtain ⟨i1, i2⟩ := ih x.id k hk hs.2
        simp only [List.take_succ_cons, List.drop_succ_cons, List.cons_append, List.getElem_cons_succ]
        refine ⟨?_, ?_⟩
        · simp only [sortR, Bool.and_eq_true, decide_eq_true_eq]
          exact ⟨hs.1, i1⟩
        · have := (sortM_low hs.2 t[k] (List.getElem_mem hk)).1
          rw [getI, if_neg (by omega)]
          exact i2
  obtain ⟨k1, k2⟩ := key (diffK b n) (-1) k hk hd
  refine ⟨k1, fun e => ?_⟩
  have hmem := List.getElem_mem hk
  generalize (diffK b n)[k] = r at k2 hmem
  have h1 := getI_over r.id (b := b) k1
  rw [k2, e] at h1
  have hm2 := hmem
  unfold diffK at hm2
  obtain ⟨hm3, hm4⟩ := List.mem_filter.1 hm2
  have h3 : getI r.id n = some r := by
    have : ∀ (l : List RK) (a : Int), sortR a l = true → r ∈ l → getI r.id l = some r := by
      intro l
      induction l with
      | nil => intro a _ h; cases h
      | cons x t ih =>
        intro a hs hr
        simp only [sortR, Bool.and_eq_true, decide_eq_true_eq] at hs
        rw [getI]
        rcases List.mem_cons.1 hr with rfl | hr
        · rw [if_pos rfl]
        · have := (sortM_low hs.2 r hr).1
          rw [if_neg (by omega)]
          exact ih x.id hs.2 hr
    exact this n (-1) hn hm3
  rw [h3] at h1
  simp [← h1] at hm4
end Go.Proofs.Ytnladolpcocchaa
