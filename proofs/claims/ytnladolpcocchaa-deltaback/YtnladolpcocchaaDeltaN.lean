/-
  Two sorted lists of records, gone over side by side: what each has of the least id, and what is picked. No function of the program is named here.
-/
import Derived.Test.YtnladolpcocchaaDeltaS
import Derived.Test.YtnladolpcocchaaDeltaF
namespace Go.Proofs.Ytnladolpcocchaa
open Go.RowKit
set_option linter.unusedSimpArgs false
set_option linter.unusedVariables false
set_option maxRecDepth 10000
set_option synthInstance.maxSize 2000

/-- What a list begins with, if it has that id. -/
def ofI (i : Int) : List Rc → List Rc
  | [] => []
  | x :: _ => if x.id = i then [x] else []
/-- The least id of two lists. -/
def leastL : List Rc → List Rc → Int
  | [], [] => 0
  | [], y :: _ => y.id
  | x :: _, [] => x.id
  | x :: _, y :: _ => if y.id < x.id then y.id else x.id
def pickD (A B : List Rc) : List RK := if rks A = rks B then [] else rks B
def pickO (A B : List Rc) : List RK := if B.length = 0 then rks A else rks B
def pickG (A B : List Rc) : List Int := if B.length = 0 then A.map Rc.id else []

theorem ofI_len (i : Int) (l : List Rc) : (ofI i l).length ≤ 1 ∧ (ofI i l).length ≤ l.length := by
  cases l with
  | nil => simp [ofI]
  | cons x t => rw [ofI]; split <;> simp
theorem ofI_mem {i : Int} {l : List Rc} {x : Rc} (h : x ∈ ofI i l) : x ∈ l := by
  cases l with
  | nil => cases h
  | cons y t =>
    rw [ofI] at h
    split at h
    · simp at h; simp [h]
    · cases h
theorem ofI_hit {i : Int} {x : Rc} {t : List Rc} (h : x.id = i) : ofI i (x :: t) = [x] := by rw [ofI, if_pos h]
theorem ofI_miss {i : Int} {x : Rc} {t : List Rc} (h : ¬ x.id = i) : ofI i (x :: t) = [] := by rw [ofI, if_neg h]

/-- Both lists are sorted, all ids above a. -/
def Both (L M : List Rc) : Prop := ∃ a, sortR a (rks L) = true ∧ sortR a (rks M) = true
/-- A step: what each list begins with, and what is left. -/
structure Steps (V : Type) (K : List RK → List RK → List V) (pick : List Rc → List Rc → List V) (L M : List Rc) : Prop where
  some : 0 < (ofI (leastL L M) L).length + (ofI (leastL L M) M).length
  fst : pick (ofI (leastL L M) L) (ofI (leastL L M) M) ++ K (rks (L.drop (ofI (leastL L M) L).length)) (rks (M.drop (ofI (leastL L M) M).length)) = K (rks L) (rks M)
  both : Both (L.drop (ofI (leastL L M) L).length) (M.drop (ofI (leastL L M) M).length)

theorem rks_cons (x : Rc) (t : List Rc) : rks (x :: t) = rk x :: rks t := rfl

theorem steps_of {V : Type} {K : List RK → List RK → List V} {pick : List Rc → List Rc → List V}
    (h1 : ∀ (y : Rc) (M : List Rc) a, sortR a (rks (y :: M)) = true → pick [] [y] ++ K [] (rks M) = K [] (rk y :: rks M))
    (h2 : ∀ (x : Rc) (L : List Rc) a, sortR a (rks (x :: L)) = true → pick [x] [] ++ K (rks L) [] = K (rk x :: rks L) [])
    (h3 : ∀ (x y : Rc) (L M : List Rc), x.id < y.id → mayR (rk x) = true → mayR (rk y) = true → sortR x.id (rks L) = true → sortR y.id (rks M) = true → pick [x] [] ++ K (rks L) (rk y :: rks M) = K (rk x :: rks L) (rk y :: rks M))
    (h4 : ∀ (x y : Rc) (L M : List Rc), y.id < x.id → mayR (rk x) = true → mayR (rk y) = true → sortR x.id (rks L) = true → sortR y.id (rks M) = true → pick [] [y] ++ K (rk x :: rks L) (rks M) = K (rk x :: rks L) (rk y :: rks M))
    (h5 : ∀ (x y : Rc) (L M : List Rc), x.id = y.id → mayR (rk x) = true → mayR (rk y) = true → sortR x.id (rks L) = true → sortR y.id (rks M) = true → pick [x] [y] ++ K (rks L) (rks M) = K (rk x :: rks L) (rk y :: rks M))
    (L M : List Rc) (hs : Both L M) (hne : 0 < L.length + M.length) : Steps V K pick L M := by
  obtain ⟨a, hl, hm⟩ := hs
  match L, M, hl, hm with
  | [], [], _, _ => simp at hne
  | [], y :: M, hl, hm =>
    have e : ofI (leastL [] (y :: M)) (y :: M) = [y] := ofI_hit rfl
    have e2 : ofI (leastL [] (y :: M)) [] = [] := rfl
    refine ⟨by rw [e, e2]; simp, by rw [e, e2]; exact h1 y M a hm, ?_⟩
    rw [e, e2]
    obtain ⟨_, _, q, _⟩ := sortM_head hm
    exact ⟨y.id, rfl, q⟩
  | x :: L, [], hl, hm =>
    have e : ofI (leastL (x :: L) []) (x :: L) = [x] := ofI_hit rfl
    have e2 : ofI (leastL (x :: L) []) [] = [] := rfl
    refine ⟨by rw [e, e2]; simp, by rw [e, e2]; exact h2 x L a hl, ?_⟩
    rw [e, e2]
    obtain ⟨_, _, q, _⟩ := sortM_head hl
    exact ⟨x.id, q, rfl⟩
  | x :: L, y :: M, hl, hm =>
    obtain ⟨m1, l1, q1, _⟩ := sortM_head hl
    obtain ⟨m2, l2, q2, _⟩ := sortM_head hm
    have u1 : (rk x).id = x.id := rfl
    have u2 : (rk y).id = y.id := rfl
    by_cases t : y.id < x.id
    · have e : leastL (x :: L) (y :: M) = y.id := by rw [leastL, if_pos t]
      have e1 : ofI (leastL (x :: L) (y :: M)) (x :: L) = [] := by rw [e]; exact ofI_miss (by omega)
      have e2 : ofI (leastL (x :: L) (y :: M)) (y :: M) = [y] := by rw [e]; exact ofI_hit rfl
      refine ⟨by rw [e1, e2]; simp, by rw [e1, e2]; exact h4 x y L M t m1 m2 q1 q2, ?_⟩
      rw [e1, e2]
      refine ⟨y.id, ?_, q2⟩
      show sortR y.id (rk x :: rks L) = true
      simp only [sortR, Bool.and_eq_true, decide_eq_true_eq]
      exact ⟨⟨m1, t⟩, q1⟩
    · have e : leastL (x :: L) (y :: M) = x.id := by rw [leastL, if_neg t]
      have e1 : ofI (leastL (x :: L) (y :: M)) (x :: L) = [x] := by rw [e]; exact ofI_hit rfl
      by_cases t2 : x.id = y.id
      · have e2 : ofI (leastL (x :: L) (y :: M)) (y :: M) = [y] := by rw [e]; exact ofI_hit t2.symm
        refine ⟨by rw [e1, e2]; simp, by rw [e1, e2]; exact h5 x y L M t2 m1 m2 q1 q2, ?_⟩
        rw [e1, e2]
        exact ⟨x.id, q1, sortM_weak q2 (by omega)⟩
      · have e2 : ofI (leastL (x :: L) (y :: M)) (y :: M) = [] := by rw [e]; exact ofI_miss (by omega)
        refine ⟨by rw [e1, e2]; simp, by rw [e1, e2]; exact h3 x y L M (by omega) m1 m2 q1 q2, ?_⟩
        rw [e1, e2]
        refine ⟨x.id, q1, ?_⟩
        show sortR x.id (rk y :: rks M) = true
        simp only [sortR, Bool.and_eq_true, decide_eq_true_eq]
        exact ⟨⟨m2, by omega⟩, q2⟩

theorem steps_diff (L M : List Rc) (hs : Both L M) (hne : 0 < L.length + M.length) : Steps RK diffK pickD L M := by
  refine steps_of ?_ ?_ ?_ ?_ ?_ L M hs hne
  · intro y M a _
    rw [diff_nil_l, diff_nil_l]; rfl
  · intro x L a _
    rfl
  · intro x y L M t _ _ _ q2
    rw [diff_lt q2 t]; rfl
  · intro x y L M t _ _ q1 _
    rw [diff_gt q1 t]; rfl
  · intro x y L M t _ _ _ q2
    rw [diff_eq q2 t]
    unfold pickD
    by_cases z : rk x = rk y
    · rw [if_pos z, if_pos (by simp [rks, z])]; rfl
    · rw [if_neg z, if_neg (by simp [rks, z])]; rfl
theorem steps_over (L M : List Rc) (hs : Both L M) (hne : 0 < L.length + M.length) : Steps RK overK pickO L M := by
  refine steps_of ?_ ?_ ?_ ?_ ?_ L M hs hne
  · intro y M a h
    obtain ⟨_, _, q, _⟩ := sortM_head h
    rw [show overK [] (rks M) = rks M from over_nil_l q, show overK [] (rk y :: rks M) = rk y :: rks M from over_nil_l h]; rfl
  · intro x L a _
    rfl
  · intro x y L M t _ m2 q1 q2
    rw [over_lt q1 (by simp only [sortR, Bool.and_eq_true, decide_eq_true_eq]; exact ⟨⟨m2, t⟩, q2⟩)]; rfl
  · intro x y L M t m1 _ q1 q2
    rw [over_gt (by simp only [sortR, Bool.and_eq_true, decide_eq_true_eq]; exact ⟨⟨m1, t⟩, q1⟩) q2]; rfl
  · intro x y L M t _ _ q1 q2
    have q1' : sortR y.id (rks L) = true := by rw [← t]; exact q1
    rw [over_eq t q1' q2]; rfl
theorem steps_gone (L M : List Rc) (hs : Both L M) (hne : 0 < L.length + M.length) : Steps Int goneK pickG L M := by
  refine steps_of ?_ ?_ ?_ ?_ ?_ L M hs hne
  · intro y M a _
    rw [gone_nil_l, gone_nil_l]; rfl
  · intro x L a _
    rw [gone_nil_r, gone_nil_r]; rfl
  · intro x y L M t _ _ _ q2
    rw [gone_lt q2 t]; rfl
  · intro x y L M t _ _ q1 _
    rw [gone_gt q1 t]; rfl
  · intro x y L M t _ _ q1 _
    rw [gone_eq q1 t]; rfl

/-- What lies behind the first records of a slice. -/
theorem RIn.behind {w : World} {p q : Option Addr} {l : List Rc} {k c : Nat} (h : RIn w p l) (hk : k ≤ l.length) (hc : l.length ≤ c) (hq : k < c → q = p.map fun x => x.add (k * 7)) : RIn w q (l.drop k) := fun hl => by
  simp at hl
  rw [hq (by omega)]
  exact (h.drop k) (by simp; omega)

/-- 'append(v, l...)' of records that lie wherever. -/
theorem wpList_addRs {W : World} {ops : Array Oper} {rest : List Oper} {o : Oper} {ac : Act} {Q : Exit → Act → World → Prop} (hgd : o.guard = none) (s x : Operand)
    (ho : o.op = .call { callee := .builtin .append, args := #[s, x], argTypes := #[22, 22] })
    {B : Nat} {v : Value} {A : List Rc} (hs : ac.eval s = v) (h3 : OwnR 34 7 W B v A.length (A.flatMap Rc.cells)) (hB : B ≤ W.heap.size) (r : Option Addr) (P : List Rc) (c : Nat) (hx : ac.eval x = .slice r P.length c) (hr : r = none → c = 0) (hP : RIn W r P) (hl : A.length + P.length ≤ 1000000)
    (h : ∀ v' w', OwnR 34 7 w' B v' (A ++ P).length ((A ++ P).flatMap Rc.cells) → Below B W w' → wpList Try.prog ops Q rest (ac.put o.dst v') w') : wpList Try.prog ops Q (o :: rest) ac W := by
  refine wpList_own hgd s x 22 ho 34 (.agg #[.int .i64 0, .int .i64 0, .int .i64 0, .int .i64 0, .int .i64 0, .bool false, .slice none 0 0]) 7 72 Try.underlying22 infoR rfl (by decide) B v A.length _ hs h3 hB r P.length c (P.flatMap Rc.cells) hx hr (flatR_len P) hP.news (flatR_one P) (by unfold maxLen; omega) (by omega) fun v' w' h1 h2 => h v' w' ?_ h2
  rw [List.length_append, flatR_append]
  exact h1

theorem infoI : (Try.prog.info? 3).map (fun i => (i.zero, i.size, i.bytes)) = some (some (.int .i64 0), 1, 8) := by kernel_rfl
/-- 'append(v, l...)' of whole numbers that lie wherever. -/
theorem wpList_addIs {W : World} {ops : Array Oper} {rest : List Oper} {o : Oper} {ac : Act} {Q : Exit → Act → World → Prop} (hgd : o.guard = none) (s x : Operand)
    (ho : o.op = .call { callee := .builtin .append, args := #[s, x], argTypes := #[27, 27] })
    {B : Nat} {v : Value} {G : List Int} (hs : ac.eval s = v) (h3 : OwnR 3 1 W B v G.length (G.map (Value.int .i64))) (hB : B ≤ W.heap.size) (r : Option Addr) (P : List Int) (c : Nat) (hx : ac.eval x = .slice r P.length c) (hr : r = none → c = 0) (hP : NIn W r P) (hl : G.length + P.length ≤ 1000000)
    (h : ∀ v' w', OwnR 3 1 w' B v' (G ++ P).length ((G ++ P).map (Value.int .i64)) → Below B W w' → wpList Try.prog ops Q rest (ac.put o.dst v') w') : wpList Try.prog ops Q (o :: rest) ac W := by
  refine wpList_own hgd s x 27 ho 3 (.int .i64 0) 1 8 Try.underlying27 infoI rfl (by decide) B v G.length _ hs h3 hB r P.length c (P.map (Value.int .i64)) hx hr (by simp) (fun hm => ?_) (fun u hu => ?_) (by unfold maxLen; omega) (by omega) fun v' w' h1 h2 => h v' w' ?_ h2
  · obtain ⟨b, o, rfl, hc⟩ := hP hm
    refine ⟨_, rfl, fun j u hj => ?_⟩
    have hlt : j < P.length := by simpa using (List.getElem?_eq_some_iff.1 hj).1
    rw [Go.WideShapes.add_plain, hc j hlt]
    simp [hlt] at hj
    simp [List.getD, hlt, hj]
  · simp at hu
    obtain ⟨z, _, rfl⟩ := hu
    rfl
  · rw [List.length_append, List.map_append]
    exact h1
/-- A row of whole numbers that is owned. -/
theorem own_nin {w : World} {B : Nat} {v : Value} {G : List Int} (h : OwnR 3 1 w B v G.length (G.map (Value.int .i64))) : ∃ p c, v = .slice p G.length c ∧ NIn w p G ∧ (p = none → c = 0) ∧ G.length ≤ c ∧ c ≤ maxLen := by
  obtain ⟨p, c, rfl, h1, h2, h3, h4⟩ := h.slice
  refine ⟨p, c, rfl, fun hl => ?_, h1, h2, h3⟩
  obtain ⟨g, rfl, _, hc⟩ := h4 hl
  refine ⟨g, 0, rfl, fun i hi => ?_⟩
  rw [Nat.zero_add]
  exact hc i _ (by simp [List.getD, hi])
end Go.Proofs.Ytnladolpcocchaa
