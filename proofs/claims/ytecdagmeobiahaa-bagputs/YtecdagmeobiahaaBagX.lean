/-
  Three rows of fields that grow beside each other; where the first field of a tag stands; a bag in order, cut at a tag.
-/
import Derived.Test.YtecdagmeobiahaaBagQ
import Derived.Test.YtecdagmeobiahaaBagD
namespace Go.Proofs.Ytecdagmeobiahaa
open Go.RowKit
set_option linter.unusedSimpArgs false
set_option linter.unusedVariables false

def Apart (x y : Value) : Prop := ∀ g, x.ownBlock = some g → y.ownBlock ≠ some g
theorem Apart.symm {x y : Value} (h : Apart x y) : Apart y x := fun g hg hx => h g hx hg

theorem owns_lt {w : World} {e : TypeId} {size : Nat} {v : Value} {n : Nat} {xs : List Value} (h : w.ownsRow 0 e size v n xs) (g : Nat) (hg : v.ownBlock = some g) : g < w.heap.size := by
  rcases h.2 with ⟨rfl, _⟩ | ⟨g', cap, cur, rfl, _, hb, _⟩
  · cases hg
  · cases hg; exact (Array.getElem?_eq_some_iff.1 hb).1

theorem OwnR.other {e : TypeId} {size : Nat} {W W' : World} {B : Nat} {v v' u : Value} {n m k : Nat} {xs news ys : List Value} (hu : OwnR e size W B u k ys) (hap : Apart v u) (hA : Appended W e size v n xs m news v' W') : OwnR e size W' B u k ys ∧ Apart v' u := by
  refine ⟨hu.fr hA.fr fun g hg q => hap g q hg, fun g hg hug => ?_⟩
  rcases hA.moved with q | ⟨k, hk, hk2⟩
  · rw [q] at hg; exact hap g hg hug
  · rw [hk] at hg; cases hg
    have := owns_lt hu.owns _ hug
    omega

/-- Three rows, each in memory of its own. -/
structure Own3 (B : Nat) (W : World) (a b c : Value) (A Bl C : List Fd) : Prop where
  oa : OwnR 32 2 W B a A.length (A.flatMap Fd.cells)
  ob : OwnR 32 2 W B b Bl.length (Bl.flatMap Fd.cells)
  oc : OwnR 32 2 W B c C.length (C.flatMap Fd.cells)
  ab : Apart a b
  ac : Apart a c
  bc : Apart b c

section
variable {B : Nat} {W W' : World} {a b c a' : Value} {A Bl C N : List Fd}

theorem Own3.nil (B : Nat) (W : World) : Own3 B W (.slice none 0 0) (.slice none 0 0) (.slice none 0 0) [] [] [] :=
  ⟨OwnR.nil _ _ _ _, OwnR.nil _ _ _ _, OwnR.nil _ _ _ _, (fun g hg => by cases hg), (fun g hg => by cases hg), (fun g hg => by cases hg)⟩

theorem Own3.rot (h : Own3 B W a b c A Bl C) : Own3 B W b c a Bl C A := ⟨h.ob, h.oc, h.oa, h.bc, h.ab.symm, h.ac.symm⟩

theorem Own3.on (h : Own3 B W a b c A Bl C) (k : Below W.heap.size W W') : Own3 B W' a b c A Bl C := ⟨h.oa.below k, h.ob.below k, h.oc.below k, h.ab, h.ac, h.bc⟩

theorem Own3.add (h : Own3 B W a b c A Bl C) (hB : B ≤ W.heap.size) (hA : Appended W 32 2 a A.length (A.flatMap Fd.cells) N.length (N.flatMap Fd.cells) a' W') : Own3 B W' a' b c (A ++ N) Bl C ∧ Below B W W' := by
  obtain ⟨h1, h2⟩ := h.oa.next hB hA
  obtain ⟨h3, h4⟩ := h.ob.other h.ab hA
  obtain ⟨h5, h6⟩ := h.oc.other h.ac hA
  exact ⟨⟨by rw [List.length_append, flatF_append]; exact h1, h3, h5, h4, h6, h.bc⟩, h2⟩
end

section
variable {P : Program}
/-- 'append(v, y)' of one field that was laid for it. -/
theorem wpList_addF {W : World} {ops : Array Oper} {rest : List Oper} {o : Oper} {ac : Act} {Q : Exit → Act → World → Prop} (hgd : o.guard = none) (s x : Operand)
    (ho : o.op = .call { callee := .builtin .append, args := #[s, x], argTypes := #[22, 22] })
    {B : Nat} {a b c : Value} {A Bl C : List Fd} (hs : ac.eval s = a) (h3 : Own3 B W a b c A Bl C) (hB : B ≤ W.heap.size) (y : Fd) (hx : ac.eval x = .slice (some ⟨W.heap.size, 0, none⟩) 1 1) (hl : A.length ≤ 1000)
    (h : ∀ a' w', Own3 B w' a' b c (A ++ [y]) Bl C → Below B W w' → wpList Try.prog ops Q rest (ac.put o.dst a') w') : wpList Try.prog ops Q (o :: rest) ac (W.alloc (.cells #[.int .i64 y.tag, .slice y.p y.d.length y.cap] 32)) := by
  obtain ⟨i0, hi, hz0, hz1, hz2⟩ := info_parts infoF
  have hb : Below W.heap.size W (W.alloc (.cells #[.int .i64 y.tag, .slice y.p y.d.length y.cap] 32)) := (Below.refl _ _).alloc (Nat.le_refl _) _
  refine wpList_append_fr hgd s x 22 ho 32 i0 _ 2 32 Try.underlying22 hi hz0 hz1 hz2 rfl (by decide) a A.length _ hs (h3.on hb).oa.owns (some ⟨W.heap.size, 0, none⟩) 1 1 ([y].flatMap Fd.cells) hx (by simp) (by simp [Fd.cells]) (fun _ => ?_) (flat_one _) (by unfold maxLen; omega) (by omega) fun v' w' hA => ?_
  · refine ⟨_, rfl, fun j u hj => ?_⟩
    have hg := heap_alloc_new W (.cells #[.int .i64 y.tag, .slice y.p y.d.length y.cap] 32)
    rw [Go.WideShapes.add_plain]
    generalize W.alloc (.cells #[.int .i64 y.tag, .slice y.p y.d.length y.cap] 32) = X at hg ⊢
    simp [World.cell?, hg]
    simpa [Fd.cells] using hj
  · obtain ⟨k1, k2⟩ := (h3.on hb).add (N := [y]) (Nat.le_trans hB hb.size) hA
    exact h v' w' k1 ((hb.mono hB).trans k2)

/-- 'append(v, l...)' of a bag that lies wherever. -/
theorem wpList_addL {W : World} {ops : Array Oper} {rest : List Oper} {o : Oper} {ac : Act} {Q : Exit → Act → World → Prop} (hgd : o.guard = none) (s x : Operand)
    (ho : o.op = .call { callee := .builtin .append, args := #[s, x], argTypes := #[22, 22] })
    {B : Nat} {a b c : Value} {A Bl C : List Fd} (hs : ac.eval s = a) (h3 : Own3 B W a b c A Bl C) (hB : B ≤ W.heap.size) (l : List Fd) (p : Option Addr) (cp : Nat) (hx : ac.eval x = .slice p l.length cp) (hp : p = none → cp = 0) (hin : FIn W p l) (hl : A.length ≤ 1000) (hl2 : l.length ≤ 1000)
    (h : ∀ a' w', Own3 B w' a' b c (A ++ l) Bl C → Below B W w' → wpList Try.prog ops Q rest (ac.put o.dst a') w') : wpList Try.prog ops Q (o :: rest) ac W := by
  obtain ⟨i0, hi, hz0, hz1, hz2⟩ := info_parts infoF
  refine wpList_append_fr hgd s x 22 ho 32 i0 _ 2 32 Try.underlying22 hi hz0 hz1 hz2 rfl (by decide) a A.length _ hs h3.oa.owns p l.length cp (l.flatMap Fd.cells) hx hp (flat_len _) hin.news (flat_one _) (by unfold maxLen; omega) (by omega) fun v' w' hA => ?_
  obtain ⟨k1, k2⟩ := h3.add (N := l) hB hA
  exact h v' w' k1 k2
end

/-- Where the first field of a tag stands among the first k. -/
def FirstAt (v : Int) (l : List Fd) (k : Nat) (r : Int) : Prop :=
  (r = -1 ∧ ∀ x ∈ l.take k, x.tag ≠ v) ∨ ∃ q : Nat, q < k ∧ r = q ∧ (l.getD q zf).tag = v ∧ ∀ x ∈ l.take q, x.tag ≠ v

theorem FirstAt.miss {v : Int} {l : List Fd} {k : Nat} {r : Int} (h : FirstAt v l k r) (hk : k < l.length) (ht : (l.getD k zf).tag ≠ v) : FirstAt v l (k + 1) r := by
  rcases h with ⟨h1, h2⟩ | ⟨q, h1, h2, h3, h4⟩
  · refine .inl ⟨h1, fun x hx => ?_⟩
    rw [take_next l k hk] at hx
    rcases List.mem_append.1 hx with m | m
    · exact h2 x m
    · simp only [List.mem_singleton] at m; subst m; exact ht
  · exact .inr ⟨q, by omega, h2, h3, h4⟩

theorem FirstAt.hit {v : Int} {l : List Fd} {k : Nat} {r : Int} (h : FirstAt v l k r) (hr : r < 0) (ht : (l.getD k zf).tag = v) : FirstAt v l (k + 1) k := by
  rcases h with ⟨h1, h2⟩ | ⟨q, h1, h2, h3, h4⟩
  · exact .inr ⟨k, by omega, rfl, ht, h2⟩
  · omega

theorem FirstAt.more {v : Int} {l : List Fd} {k : Nat} {r : Int} (h : FirstAt v l k r) (hr : ¬ r < 0) : FirstAt v l (k + 1) r := by
  rcases h with ⟨h1, h2⟩ | ⟨q, h1, h2, h3, h4⟩
  · omega
  · exact .inr ⟨q, by omega, h2, h3, h4⟩

theorem getK_skip {v : Int} : ∀ {a : List Fd}, (∀ x ∈ a, x.tag ≠ v) → ∀ b, getK v (kys (a ++ b)) = getK v (kys b)
  | [], _, b => rfl
  | x :: a, h, b => by
    have hx := h x (by simp)
    have := getK_skip (a := a) (fun y hy => h y (by simp [hy])) b
    simp only [kys] at this
    simp only [kys, List.cons_append, List.map_cons, getK, ky]
    rw [if_neg hx]
    exact this

theorem FirstAt.all {v : Int} {l : List Fd} {r : Int} (h : FirstAt v l l.length r) : (r = -1 ∧ getK v (kys l) = none) ∨ ∃ q : Nat, q < l.length ∧ r = q ∧ getK v (kys l) = some (l.getD q zf).d := by
  rcases h with ⟨h1, h2⟩ | ⟨q, h1, h2, h3, h4⟩
  · rw [List.take_of_length_le (Nat.le_refl _)] at h2
    refine .inl ⟨h1, ?_⟩
    have := getK_skip h2 []
    simpa [kys, getK] using this
  · refine .inr ⟨q, h1, h2, ?_⟩
    have := getK_skip h4 (l.drop q)
    rw [List.take_append_drop] at this
    rw [this, drop_next l q h1]
    simp only [kys, List.map_cons, getK, ky]
    rw [if_pos h3]

def lowF (v : Int) (l : List Fd) : List Fd := l.filter fun x => decide (x.tag ≤ v)
def highF (v : Int) (l : List Fd) : List Fd := l.filter fun x => !decide (x.tag ≤ v)
theorem lowF_next {v : Int} {l : List Fd} {k : Nat} (hk : k < l.length) : lowF v (l.take (k + 1)) = if (l.getD k zf).tag ≤ v then lowF v (l.take k) ++ [l.getD k zf] else lowF v (l.take k) := by
  rw [take_next l k hk]
  generalize l.getD k zf = y
  by_cases h : y.tag ≤ v <;> simp [lowF, h]
theorem highF_next {v : Int} {l : List Fd} {k : Nat} (hk : k < l.length) : highF v (l.take (k + 1)) = if (l.getD k zf).tag ≤ v then highF v (l.take k) else highF v (l.take k) ++ [l.getD k zf] := by
  rw [take_next l k hk]
  generalize l.getD k zf = y
  by_cases h : y.tag ≤ v <;> simp [highF, h]
theorem keepF_next {v : Int} {l : List Fd} {k : Nat} (hk : k < l.length) : keepF v (l.take (k + 1)) = if (l.getD k zf).tag = v then keepF v (l.take k) else keepF v (l.take k) ++ [l.getD k zf] := by
  rw [take_next l k hk, keepF_append]
  split
  · rename_i h; rw [keepF_one h, List.append_nil]
  · rename_i h; rw [keepF_all (l := [l.getD k zf]) (by simpa using h)]

theorem tagsK_low : ∀ (L : List Key) (a : Int), tagsK a L = true → ∀ x ∈ L, a ≤ x.1
  | y :: L, a, h, x, hx => by
    simp only [tagsK, Bool.and_eq_true, decide_eq_true_eq] at h
    rcases List.mem_cons.1 hx with rfl | q
    · exact h.1.1
    · have := tagsK_low L y.1 h.2 x q; omega

theorem tagsK_cut (v : Int) : ∀ (L : List Key) (a : Int), tagsK a L = true → L.takeWhile (fun y => decide (y.1 ≤ v)) = L.filter (fun y => decide (y.1 ≤ v)) ∧ L.dropWhile (fun y => decide (y.1 ≤ v)) = L.filter (fun y => !decide (y.1 ≤ v))
  | [], _, _ => ⟨rfl, rfl⟩
  | y :: L, a, h => by
    simp only [tagsK, Bool.and_eq_true, decide_eq_true_eq] at h
    by_cases hy : y.1 ≤ v
    · have := tagsK_cut v L y.1 h.2
      simp [hy, this]
    · have hall := tagsK_low L y.1 h.2
      have e1 : L.filter (fun y => decide (y.1 ≤ v)) = [] := by
        rw [List.filter_eq_nil_iff]; intro x hx; have := hall x hx; simp; omega
      have e2 : L.filter (fun y => !decide (y.1 ≤ v)) = L := by
        rw [List.filter_eq_self]; intro x hx; have := hall x hx; simp; omega
      simp [hy, e1, e2]

theorem lowF_kys (v : Int) (l : List Fd) : kys (lowF v l) = (kys l).filter (fun y => decide (y.1 ≤ v)) := by unfold lowF kys; rw [List.filter_map]; rfl
theorem highF_kys (v : Int) (l : List Fd) : kys (highF v l) = (kys l).filter (fun y => !decide (y.1 ≤ v)) := by unfold highF kys; rw [List.filter_map]; rfl

/-- In a bag that may be: what is put together is what Put makes. -/
theorem want_put {l : List Fd} {f : Fd} (h : mayK (kys l) = true) : kys (lowF f.tag l ++ f :: highF f.tag l) = putK (ky f) (kys l) := by
  simp only [mayK, Bool.and_eq_true] at h
  obtain ⟨h1, h2⟩ := tagsK_cut f.tag (kys l) 32 h.1.2
  rw [show f :: highF f.tag l = [f] ++ highF f.tag l from rfl, kys_append, kys_append, lowF_kys, highF_kys, putK, show (ky f).1 = f.tag from rfl, h1, h2]
  simp [kys]

theorem sz_filter (p : Fd → Bool) : ∀ l : List Fd, szK (kys (l.filter p)) ≤ szK (kys l)
  | [] => Nat.le_refl _
  | x :: l => by
    have ih := sz_filter p l
    by_cases h : p x = true
    · simp only [List.filter_cons_of_pos h]
      simp only [kys, szK, List.map_cons, List.sum_cons] at ih ⊢
      omega
    · simp only [List.filter_cons_of_neg h]
      simp only [kys, szK, List.map_cons, List.sum_cons] at ih ⊢
      omega

theorem want_sz (v : Int) (l : List Fd) (f : Fd) : szK (kys (lowF v l ++ f :: highF v l)) ≤ szK (kys l) + f.d.length + szK (kys l) := by
  rw [show f :: highF v l = [f] ++ highF v l from rfl, kys_append, kys_append, szK_append, szK_append]
  have h1 := sz_filter (fun x => decide (x.tag ≤ v)) l
  have h2 := sz_filter (fun x => !decide (x.tag ≤ v)) l
  have h3 : szK (kys [f]) = f.d.length := by simp [szK, kys, ky]
  unfold lowF highF
  omega
end Go.Proofs.Ytecdagmeobiahaa
