/-
  Lists of records: where the first one stands, what is put together step by step, what stays sorted. No function of the program is named here.
-/
import Derived.Test.YtnladolpcocchaaRecU
namespace Go.Proofs.Ytnladolpcocchaa
open Go.RowKit
set_option linter.unusedSimpArgs false
set_option linter.unusedVariables false
set_option maxRecDepth 10000
set_option synthInstance.maxSize 2000

/-- Where the first record that is wanted stands among the first k. -/
def FstR (f : Int → Bool) (l : List Rc) (k : Nat) (r : Int) : Prop :=
  (r = -1 ∧ ∀ x ∈ l.take k, f x.id = false) ∨ ∃ q : Nat, q < k ∧ r = q ∧ f (l.getD q zr).id = true ∧ ∀ x ∈ l.take q, f x.id = false

theorem FstR.start (f : Int → Bool) (l : List Rc) : FstR f l 0 (-1) := .inl ⟨rfl, fun x hx => by simp at hx⟩

theorem FstR.miss {f : Int → Bool} {l : List Rc} {k : Nat} {r : Int} (h : FstR f l k r) (hk : k < l.length) (ht : f (l.getD k zr).id = false) : FstR f l (k + 1) r := by
  rcases h with ⟨h1, h2⟩ | ⟨q, h1, h2, h3, h4⟩
  · refine .inl ⟨h1, fun x hx => ?_⟩
    rw [rtake_next l k hk] at hx
    rcases List.mem_append.1 hx with m | m
    · exact h2 x m
    · simp only [List.mem_singleton] at m; subst m; exact ht
  · exact .inr ⟨q, by omega, h2, h3, h4⟩

theorem FstR.hit {f : Int → Bool} {l : List Rc} {k : Nat} {r : Int} (h : FstR f l k r) (hr : r < 0) (ht : f (l.getD k zr).id = true) : FstR f l (k + 1) k := by
  rcases h with ⟨h1, h2⟩ | ⟨q, h1, h2, h3, h4⟩
  · exact .inr ⟨k, by omega, rfl, ht, h2⟩
  · omega

theorem FstR.more {f : Int → Bool} {l : List Rc} {k : Nat} {r : Int} (h : FstR f l k r) (hr : ¬ r < 0) : FstR f l (k + 1) r := by
  rcases h with ⟨h1, h2⟩ | ⟨q, h1, h2, h3, h4⟩
  · omega
  · exact .inr ⟨q, by omega, h2, h3, h4⟩

theorem FstR.all {f : Int → Bool} {l : List Rc} {r : Int} (h : FstR f l l.length r) : (r = -1 ∧ firstP f l = l.length) ∨ (firstP f l < l.length ∧ r = (firstP f l : Nat)) := by
  rcases h with ⟨h1, h2⟩ | ⟨q, h1, h2, h3, h4⟩
  · rw [List.take_of_length_le (Nat.le_refl _)] at h2
    exact .inl ⟨h1, firstP_miss f l h2⟩
  · have := firstP_hit f l q h1 h4 h3
    exact .inr ⟨by omega, by rw [this]; exact h2⟩

/-- The id ahead of place k. -/
def prevI (l : List Rc) (k : Nat) : Int := if k = 0 then -1 else (l.getD (k - 1) zr).id

theorem sort_next {l : List Rc} {k : Nat} {sv : Bool} (hk : k < l.length) (h : sortR (-1) (rks l) = (sv && sortR (prevI l k) (rks (l.drop k)))) :
    sortR (-1) (rks l) = ((sv && (mayR (rk (l.getD k zr)) && (decide (k = 0) || decide (prevI l k < (l.getD k zr).id)))) && sortR (prevI l (k + 1)) (rks (l.drop (k + 1)))) := by
  rw [h, rdrop_next l k hk]
  have e : prevI l (k + 1) = (l.getD k zr).id := by simp [prevI]
  rw [e, show rks (l.getD k zr :: l.drop (k + 1)) = rk (l.getD k zr) :: rks (l.drop (k + 1)) from rfl, sortR, show (rk (l.getD k zr)).id = (l.getD k zr).id from rfl]
  generalize l.getD k zr = y
  cases hm : mayR (rk y)
  · simp
  · by_cases h0 : k = 0
    · subst h0
      have hid : 0 ≤ y.id := by
        have : (coreOk (rk y)) = true := by simp only [mayR, Bool.and_eq_true] at hm; exact hm.1.1
        simp only [coreOk, Bool.and_eq_true, decide_eq_true_eq] at this
        exact this.1.1.1.1
      have hlt : prevI l 0 < y.id := by simp only [prevI, if_pos]; omega
      simp [hlt]
    · simp [h0, Bool.and_assoc]

/-- What is put together behind k steps. -/
def wlK (l : List Rc) (r : Rc) (s u : Int) : Nat → List Rc
  | 0 => []
  | k + 1 => (wlK l r s u k ++ (if (k : Int) = s ∨ (s < 0 ∧ (k : Int) = u) then [r] else [])) ++ (if (k : Int) = s then [] else [l.getD k zr])

theorem wl_len (l : List Rc) (r : Rc) (s u : Int) : ∀ k, (wlK l r s u k).length ≤ k * 2
  | 0 => by simp [wlK]
  | k + 1 => by
    have := wl_len l r s u k
    simp only [wlK, List.length_append]
    have h1 : (if (k : Int) = s ∨ (s < 0 ∧ (k : Int) = u) then [r] else []).length ≤ 1 := by split <;> simp
    have h2 : (if (k : Int) = s then [] else [l.getD k zr]).length ≤ 1 := by split <;> simp
    omega

theorem wl_mem {l : List Rc} {r : Rc} {s u : Int} {P : Rc → Prop} (hr : P r) (hl : ∀ x ∈ l, P x) : ∀ k, k ≤ l.length → ∀ x ∈ wlK l r s u k, P x
  | 0, _, x, hx => by simp [wlK] at hx
  | k + 1, hk, x, hx => by
    simp only [wlK, List.mem_append] at hx
    rcases hx with (hx | hx) | hx
    · exact wl_mem hr hl k (by omega) x hx
    · split at hx
      · simp at hx; subst hx; exact hr
      · simp at hx
    · split at hx
      · simp at hx
      · simp only [List.mem_singleton] at hx
        subst hx
        exact hl _ (by simp [List.getD, show k < l.length by omega])

theorem wl_same {l : List Rc} {r : Rc} {u : Int} {q : Nat} (hq : q < l.length) : ∀ k, k ≤ l.length → wlK l r q u k = if k ≤ q then l.take k else l.take q ++ r :: (l.take k).drop (q + 1)
  | 0, _ => by simp [wlK]
  | k + 1, hk => by
    have ih := wl_same (r := r) (u := u) hq k (by omega)
    have hn := rtake_next l k (by omega)
    by_cases h1 : k = q
    · subst h1
      rw [wlK, ih, if_pos (Nat.le_refl k), if_pos (Or.inl rfl), if_pos rfl, if_neg (show ¬ k + 1 ≤ k by omega), List.drop_of_length_le (l := l.take (k + 1)) (by simp; omega), List.append_nil]
    · have h2 : ¬ (k : Int) = (q : Int) := by omega
      have h3 : ¬ ((k : Int) = (q : Int) ∨ ((q : Int) < 0 ∧ (k : Int) = u)) := by omega
      rw [wlK, if_neg h3, if_neg h2, ih]
      by_cases h4 : k ≤ q
      · rw [if_pos h4, if_pos (show k + 1 ≤ q by omega), hn]; simp
      · rw [if_neg h4, if_neg (show ¬ k + 1 ≤ q by omega), hn, List.drop_append_of_le_length (by simp; omega)]
        simp

theorem wl_above {l : List Rc} {r : Rc} {q : Nat} (hq : q < l.length) : ∀ k, k ≤ l.length → wlK l r (-1) q k = if k ≤ q then l.take k else l.take q ++ r :: (l.take k).drop q
  | 0, _ => by simp [wlK]
  | k + 1, hk => by
    have ih := wl_above (r := r) hq k (by omega)
    have hn := rtake_next l k (by omega)
    rw [wlK, if_neg (show ¬ (k : Int) = -1 by omega), ih]
    by_cases h1 : k = q
    · subst h1
      rw [if_pos (Nat.le_refl k), if_pos (show (k : Int) = -1 ∨ ((-1 : Int) < 0 ∧ (k : Int) = (k : Int)) by omega), if_neg (show ¬ k + 1 ≤ k by omega), hn, List.drop_append_of_le_length (by simp; omega), List.drop_of_length_le (l := l.take k) (by simp; omega)]
      simp
    · rw [if_neg (show ¬ ((k : Int) = -1 ∨ ((-1 : Int) < 0 ∧ (k : Int) = (q : Int))) by omega)]
      by_cases h4 : k ≤ q
      · rw [if_pos h4, if_pos (show k + 1 ≤ q by omega), hn]; simp
      · rw [if_neg h4, if_neg (show ¬ k + 1 ≤ q by omega), hn, List.drop_append_of_le_length (by simp; omega)]
        simp

theorem wl_none {l : List Rc} {r : Rc} : ∀ k, k ≤ l.length → wlK l r (-1) (-1) k = l.take k
  | 0, _ => by simp [wlK]
  | k + 1, hk => by
    have ih := wl_none (l := l) (r := r) k (by omega)
    have hn := rtake_next l k (by omega)
    rw [wlK, ih, if_neg (show ¬ ((k : Int) = -1 ∨ ((-1 : Int) < 0 ∧ (k : Int) = -1)) by omega), if_neg (show ¬ (k : Int) = -1 by omega), hn]
    simp

theorem wl_put {l : List Rc} {r : Rc} {s u : Int} (hs : FstR (fun i => i == r.id) l l.length s) (hu : FstR (fun i => decide (r.id < i)) l l.length u) :
    wlK l r s u l.length ++ (if s < 0 ∧ u < 0 then [r] else []) = putL r l := by
  unfold putL
  rcases hs.all with ⟨rfl, h1⟩ | ⟨h1, h2⟩
  · rw [if_neg (show ¬ firstP (fun i => i == r.id) l < l.length by omega)]
    rcases hu.all with ⟨rfl, h3⟩ | ⟨h3, h4⟩
    · rw [wl_none _ (Nat.le_refl _), h3, if_pos (show (-1 : Int) < 0 ∧ (-1 : Int) < 0 by omega)]
      simp
    · subst h4
      rw [wl_above h3 _ (Nat.le_refl _), if_neg (show ¬ l.length ≤ firstP (fun i => decide (r.id < i)) l by omega), if_neg (show ¬ ((-1 : Int) < 0 ∧ ((firstP (fun i => decide (r.id < i)) l : Nat) : Int) < 0) by omega)]
      simp
  · subst h2
    rw [if_pos h1, wl_same h1 _ (Nat.le_refl _), if_neg (show ¬ l.length ≤ firstP (fun i => i == r.id) l by omega), if_neg (show ¬ (((firstP (fun i => i == r.id) l : Nat) : Int) < 0 ∧ u < 0) by omega)]
    simp

theorem sortR_low : ∀ (l : List Rc) (a : Int), sortR a (rks l) = true → ∀ x ∈ l, a < x.id
  | y :: t, a, h, x, hx => by
    simp only [rks, List.map_cons, sortR, Bool.and_eq_true, decide_eq_true_eq] at h
    rcases List.mem_cons.1 hx with rfl | q
    · exact h.1.2
    · have h2 := sortR_low t y.id h.2 x q
      have h3 : a < y.id := h.1.2
      omega

theorem sort_put (r : Rc) (hr : mayR (rk r) = true) : ∀ (l : List Rc) (a : Int), sortR a (rks l) = true → a < r.id → sortR a (rks (putL r l)) = true
  | [], a, h, ha => by
    simp only [putL, firstP, List.length_nil, Nat.lt_irrefl, if_false, List.take_nil, List.drop_nil, List.nil_append]
    simp [rks, sortR, hr, show a < (rk r).id from ha]
  | x :: t, a, h, ha => by
    have h' := h
    simp only [rks, List.map_cons, sortR, Bool.and_eq_true, decide_eq_true_eq] at h'
    obtain ⟨⟨h1, h2⟩, h3⟩ := h'
    have h2' : a < x.id := h2
    have h3' : sortR x.id (rks t) = true := h3
    by_cases c1 : x.id = r.id
    · have e : putL r (x :: t) = r :: t := by
        have q : firstP (fun i => i == r.id) (x :: t) = 0 := by simp [firstP, c1]
        simp only [putL, q]
        simp
      rw [e]
      simp only [rks, List.map_cons, sortR, Bool.and_eq_true, decide_eq_true_eq]
      exact ⟨⟨hr, ha⟩, by rw [show (rk r).id = x.id from c1.symm]; exact h3'⟩
    · by_cases c2 : r.id < x.id
      · have e : putL r (x :: t) = r :: x :: t := by
          have q : firstP (fun i => i == r.id) (x :: t) = (x :: t).length := firstP_miss _ _ (fun y hy => by
            have : x.id ≤ y.id := by
              rcases List.mem_cons.1 hy with rfl | m
              · exact Int.le_refl _
              · exact Int.le_of_lt (sortR_low t x.id h3' y m)
            simp; omega)
          have q2 : firstP (fun i => decide (r.id < i)) (x :: t) = 0 := by simp [firstP, c2]
          simp only [putL, q, Nat.lt_irrefl, if_false, q2]
          simp
        rw [e]
        simp only [rks, List.map_cons, sortR, Bool.and_eq_true, decide_eq_true_eq]
        exact ⟨⟨hr, ha⟩, ⟨h1, c2⟩, h3'⟩
      · have e : putL r (x :: t) = x :: putL r t := by
          have q : firstP (fun i => i == r.id) (x :: t) = firstP (fun i => i == r.id) t + 1 := by simp [firstP, c1]
          have q2 : firstP (fun i => decide (r.id < i)) (x :: t) = firstP (fun i => decide (r.id < i)) t + 1 := by simp [firstP, c2]
          simp only [putL, q, q2, List.length_cons, Nat.add_lt_add_iff_right]
          split <;> simp
        rw [e]
        have ih := sort_put r hr t x.id h3' (by omega)
        simp only [rks, List.map_cons, sortR, Bool.and_eq_true, decide_eq_true_eq] at ih ⊢
        exact ⟨⟨h1, h2⟩, ih⟩
end Go.Proofs.Ytnladolpcocchaa
