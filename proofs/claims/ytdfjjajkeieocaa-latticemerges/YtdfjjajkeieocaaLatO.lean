/-
  What merged lists are, as plain Lean facts: no function is named here.
-/
import Derived.Test.YtdfjjajkeieocaaLatG
import Derived.Test.YtdfjjajkeieocaaLatU
namespace Go.Proofs.Ytdfjjajkeieocaa
open Go.RowKit
set_option linter.unusedSimpArgs false
set_option linter.unusedVariables false
set_option synthInstance.maxSize 2000

theorem gK_absorb {r : RK} : ∀ {L : List RK}, r ∈ L → oj (some r) (gK L r.id) = gK L r.id
  | [], h => by simp at h
  | s :: t, h => by
    have hr : Ix r.id (some r) := fun q e => by cases e; rfl
    have hs := sg_ix s r.id
    have ht := gK_ix r.id t
    show oj (some r) (oj (sg s r.id) (gK t r.id)) = oj (sg s r.id) (gK t r.id)
    rcases List.mem_cons.1 h with rfl | h
    · have e : sg r r.id = some r := by simp [sg]
      rw [e, ← oj_assoc hr hr ht, oj_self]
    · rw [← oj_assoc hr hs ht, oj_comm hr hs, oj_assoc hs hr ht, gK_absorb h]

/-- Rising, and what L comes to. -/
structure Mrg (M L : List RK) : Prop where
  asc : Asc M
  eq : ∀ x, gK M x = gK L x

theorem Mrg.keeps {M L : List RK} (h : Mrg M L) {P : RK → Prop} (hj : ∀ a b, a.id = b.id → P a → P b → P (joinK a b)) (hL : ∀ r ∈ L, P r) : ∀ r ∈ M, P r := fun r hr =>
  gK_keeps hj hL r (by rw [← h.eq]; exact asc_get h.asc r hr)
theorem Mrg.over {M L : List RK} (h : Mrg M L) : ∀ r ∈ L, ∃ s ∈ M, s.id = r.id ∧ joinK r s = s := fun r hr => by
  have h1 := gK_absorb hr
  rw [← h.eq] at h1
  cases e : gK M r.id with
  | none => rw [e] at h1; cases h1
  | some s =>
    rw [e] at h1
    exact ⟨s, asc_in h.asc e, gK_ix _ _ s e, Option.some.inj h1⟩
theorem Mrg.sorted {M L : List RK} (h : Mrg M L) (hL : ∀ r ∈ L, mayR r = true ∧ -1 < r.id) : sortR (-1) M = true :=
  asc_sortR h.asc (h.keeps (P := fun r => mayR r = true ∧ -1 < r.id) (fun a b e p q => ⟨joinK_may e p.1 q.1, by rw [joinK_id e]; exact p.2⟩) hL)
theorem Mrg.bags {M L : List RK} (h : Mrg M L) {n : Nat} (hL : ∀ r ∈ L, szK r.bag ≤ n) : ∀ r ∈ M, szK r.bag ≤ n :=
  h.keeps (P := fun r => szK r.bag ≤ n) (fun a b e p q => by rcases joinK_bag (a := a) (b := b) with k | k <;> rw [k] <;> assumption) hL
theorem Mrg.same {A B L L' : List RK} (hA : Mrg A L) (hB : Mrg B L') (h : ∀ x, gK L x = gK L' x) : A = B := asc_same hA.asc hB.asc fun x => by rw [hA.eq, hB.eq, h]

theorem order_eq (a b c : List RK) (x : Int) : gK (a ++ (b ++ (c ++ []))) x = gK (c ++ (a ++ (b ++ (a ++ [])))) x := by
  simp only [List.append_nil, gK_append]
  have ha := gK_ix x a
  have hb := gK_ix x b
  have hc := gK_ix x c
  generalize gK a x = p at ha ⊢
  generalize gK b x = q at hb ⊢
  generalize gK c x = r at hc ⊢
  rw [oj_comm hb ha, ← oj_assoc ha ha hb, oj_self, oj_comm hc (oj_ix ha hb), oj_assoc ha hb hc]
theorem late_eq (a b c y : List RK) (h : ∀ x, gK y x = gK (b ++ (c ++ [])) x) (x : Int) : gK (a ++ (b ++ (c ++ []))) x = gK (a ++ (y ++ [])) x := by
  have h' := h x
  simp only [List.append_nil, gK_append] at h' ⊢
  rw [h']

theorem under_yes {l A : List Rc} (h : ∀ r ∈ rks l, ∃ s ∈ rks A, s.id = r.id ∧ joinK r s = s) : underK l A = true := by
  rw [underK, List.all_eq_true]
  intro r hr
  obtain ⟨s, hs, h1, h2⟩ := h (rk r) (List.mem_map.2 ⟨r, hr, rfl⟩)
  obtain ⟨y, hy, rfl⟩ := List.mem_map.1 hs
  rw [anyB, List.any_eq_true]
  exact ⟨y, hy, by rw [belK, decide_eq_true h1.symm, decide_eq_true h2]; rfl⟩
theorem under_get {l A : List Rc} (h : underK l A = true) : ∀ r ∈ rks l, ∃ s ∈ rks A, r.id = s.id ∧ joinK r s = s := fun r hr => by
  obtain ⟨x, hx, rfl⟩ := List.mem_map.1 hr
  rw [underK, List.all_eq_true] at h
  have h1 := h x hx
  rw [anyB, List.any_eq_true] at h1
  obtain ⟨y, hy, h2⟩ := h1
  rw [belK, Bool.and_eq_true, decide_eq_true_eq, decide_eq_true_eq] at h2
  exact ⟨rk y, List.mem_map.2 ⟨y, hy, rfl⟩, h2.1, h2.2⟩
theorem asc_one {M : List RK} (h : Asc M) {a b : RK} (ha : a ∈ M) (hb : b ∈ M) (e : a.id = b.id) : a = b := by
  have h1 := asc_get h a ha
  have h2 := asc_get h b hb
  rw [← e, h1] at h2
  cases h2
  rfl
theorem under_same {A l : List Rc} {L : List RK} (hA : Mrg (rks A) L) (hl : Asc (rks l)) (hs : ∀ r ∈ rks l, r ∈ L) (h : underK A l = true) : rks A = rks l := by
  have h1 := under_get h
  refine asc_ext hA.asc hl fun r => ⟨fun hr => ?_, fun hr => ?_⟩
  · obtain ⟨s, q1, q2, q3⟩ := h1 r hr
    obtain ⟨t, k1, k2, k3⟩ := hA.over s (hs s q1)
    obtain rfl : t = r := asc_one hA.asc k1 hr (k2.trans q2.symm)
    have : s = t := by rw [← k3, joinK_comm q2.symm, q3]
    rwa [← this]
  · obtain ⟨t, k1, k2, k3⟩ := hA.over r (hs r hr)
    obtain ⟨s, q1, q2, q3⟩ := h1 t k1
    obtain rfl : s = r := asc_one hl q1 hr (q2.symm.trans k2)
    have : t = s := by rw [← q3, joinK_comm q2, k3]
    rwa [← this]
end Go.Proofs.Ytdfjjajkeieocaa
