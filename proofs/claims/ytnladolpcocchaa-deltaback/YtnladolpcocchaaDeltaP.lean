/-
  Package delta: leastID, ofID, changed, later, goneID.
-/
import Derived.Test.YtnladolpcocchaaDeltaN
import Derived.Test.YtnladolpcocchaaRecL
import Derived.Deep.QuietTactic
namespace Go.Proofs.Ytnladolpcocchaa
open Go.RowKit
set_option linter.unusedSimpArgs false
set_option linter.unusedVariables false
set_option maxRecDepth 10000
set_option synthInstance.maxSize 2000

theorem RIn.head {w : World} {p : Option Addr} {x : Rc} {t : List Rc} (h : RIn w p (x :: t)) : ∃ b o, p = some ⟨b, o, none⟩ ∧ w.cell? ⟨b, o, none⟩ = some (.int .i64 x.id) := by
  obtain ⟨b, o, rfl, hc⟩ := h.at (by simp)
  obtain ⟨⟨e0, _⟩, _⟩ := hc 0 (by simp)
  rw [Nat.zero_mul, Nat.add_zero] at e0
  exact ⟨b, o, rfl, e0⟩

set_option maxHeartbeats 4000000 in
theorem leastID_any (p q : Option Addr) (c d : Nat) (L M : List Rc) (w : World) (hp : RIn w p L) (hq : RIn w q M) (hn : L.length ≤ 100000) (hm : M.length ≤ 100000) (hne : 0 < L.length + M.length) :
    Calls Try.prog 30 #[.slice p L.length c, .slice q M.length d] w fun e w' => e = .returned (.int .i64 (leastL L M)) ∧ Below w.heap.size w w' := by
  match L, M, hp, hq, hn, hm, hne with
  | [], [], _, _, _, _, h => simp at h
  | [], y :: M, hp, hq, hn, hm, _ =>
    obtain ⟨b, o, rfl, e0⟩ := hq.head
    obtain ⟨m, hml⟩ : ∃ m, (y :: M).length = m := ⟨_, rfl⟩
    have hm0 : 0 < m := by rw [← hml]; simp
    rw [hml] at hm ⊢
    clear hp hq hn hml
    show Calls _ _ #[.slice p ((0 : Nat) : Nat) c, _] _ _
    go_enter Try.func30, Try.ntmps30
    go_wp2
    go_quiet (fail)
    go_wp2
    go_ret
    exact ⟨rfl, bel_drewN (Below.refl _ _) _⟩
  | x :: L, [], hp, hq, hn, hm, _ =>
    obtain ⟨b, o, rfl, e0⟩ := hp.head
    obtain ⟨m, hml⟩ : ∃ m, (x :: L).length = m := ⟨_, rfl⟩
    have hm0 : 0 < m := by rw [← hml]; simp
    have hm1 : ((m : Int) == 0) = false := by simp; omega
    rw [hml] at hn ⊢
    clear hp hq hm hml
    show Calls _ _ #[_, .slice q ((0 : Nat) : Nat) d] _ _
    go_enter Try.func30, Try.ntmps30
    go_wp2
    go_quiet (fail)
    go_wp2
    go_ret
    exact ⟨rfl, bel_drewN (Below.refl _ _) _⟩
  | x :: L, y :: M, hp, hq, hn, hm, _ =>
    obtain ⟨b, o, rfl, e0⟩ := hp.head
    obtain ⟨b2, o2, rfl, f0⟩ := hq.head
    obtain ⟨n, hnl⟩ : ∃ m, (x :: L).length = m := ⟨_, rfl⟩
    obtain ⟨m, hml⟩ : ∃ m, (y :: M).length = m := ⟨_, rfl⟩
    have hn0 : 0 < n := by rw [← hnl]; simp
    have hm0 : 0 < m := by rw [← hml]; simp
    have hm1 : ((n : Int) == 0) = false := by simp; omega
    have hm2 : decide ((m : Int) > 0) = true := by simp; omega
    have hm3 : decide ((0 : Int) < m) = true := by simp; omega
    rw [hml] at hm ⊢
    rw [hnl] at hn ⊢
    clear hp hq hml hnl
    go_enter Try.func30, Try.ntmps30
    rw [leastL]
    by_cases t : y.id < x.id
    · have t1 : decide (y.id < x.id) = true := by simp [t]
      rw [if_pos t]
      go_wp2
      go_quiet (fail)
      go_wp2
      go_ret
      exact ⟨rfl, bel_drewN (Below.refl _ _) _⟩
    · have t1 : decide (y.id < x.id) = false := by simp; omega
      rw [if_neg t]
      go_wp2
      go_quiet (fail)
      go_wp2
      go_ret
      exact ⟨rfl, bel_drewN (Below.refl _ _) _⟩

set_option maxHeartbeats 4000000 in
theorem ofID_any (p : Option Addr) (c : Nat) (L : List Rc) (i : Int) (w : World) (hp : RIn w p L) (hn : L.length ≤ 100000) (hc : L.length ≤ c) (hm : c ≤ maxLen) :
    Calls Try.prog 31 #[.slice p L.length c, .int .i64 i] w fun e w' => ∃ r s, e = .returned (.slice r (ofI i L).length s) ∧ RIn w r (ofI i L) ∧ (ofI i L).length ≤ s ∧ s ≤ maxLen ∧ (r = none → s = 0) ∧ Below w.heap.size w w' := by
  match L, hp, hn, hc with
  | [], hp, hn, hc =>
    show Calls _ _ #[.slice p ((0 : Nat) : Nat) c, _] _ _
    go_enter Try.func31, Try.ntmps31
    go_wp2
    go_ret
    exact ⟨none, 0, rfl, RIn.empty _ _, Nat.le_refl _, by simp [maxLen], fun _ => rfl, Below.refl _ _⟩
  | x :: L, hp, hn, hc =>
    have HP := Hid.mk' hp
    obtain ⟨b, o, rfl, e0⟩ := hp.head
    obtain ⟨n, hnl⟩ : ∃ m, (x :: L).length = m := ⟨_, rfl⟩
    have hn0 : 0 < n := by rw [← hnl]; simp
    have hm1 : ((n : Int) == 0) = false := by simp; omega
    rw [hnl] at hn hc ⊢
    by_cases t : x.id = i
    · have t1 : (x.id != i) = false := by simp [t]
      rw [ofI_hit t]
      have H1 := Hid.mk' (show RIn w (some ⟨b, o, none⟩) [x] from HP.out.take 1)
      clear hp hnl HP
      simp only [maxLen] at hm
      show Calls _ _ _ _ fun e w' => ∃ r s, e = .returned (.slice r ((1 : Nat) : Nat) s) ∧ _
      go_enter Try.func31, Try.ntmps31
      go_wp2
      go_ret
      exact ⟨some ⟨b, o, none⟩, c, rfl, H1.out, show (1 : Nat) ≤ c by omega, by simp only [maxLen]; omega, by simp, Below.refl _ _⟩
    · have t1 : (x.id != i) = true := by simp [t]
      rw [ofI_miss t]
      clear hp hnl HP
      show Calls _ _ _ _ fun e w' => ∃ r s, e = .returned (.slice r ((0 : Nat) : Nat) s) ∧ _
      go_enter Try.func31, Try.ntmps31
      go_wp2
      go_ret
      exact ⟨none, 0, rfl, RIn.empty _ _, Nat.le_refl _, by simp [maxLen], fun _ => rfl, Below.refl _ _⟩

/-- What a pick of records comes to. -/
def PickR (pick : List Rc → List Rc → List RK) (A B : List Rc) (w : World) (e : Ending) (w' : World) : Prop :=
  ∃ r s P, e = .returned (.slice r (List.length P) s) ∧ RIn w' r P ∧ (r = none → s = 0) ∧ rks P = pick A B ∧ (∀ x ∈ P, x ∈ A ∨ x ∈ B) ∧ P.length ≤ 1 ∧ Below w.heap.size w w'

set_option maxHeartbeats 4000000 in
theorem changed_any (p q : Option Addr) (c d : Nat) (A B : List Rc) (w : World) (hp : RIn w p A) (hq : RIn w q B) (ha : A.length ≤ 1) (hb : B.length ≤ 1) (hc : p = none → c = 0) (hd : q = none → d = 0) :
    Calls Try.prog 19 #[.slice p A.length c, .slice q B.length d] w (PickR pickD A B w) := by
  have N := requal_any p q c d A B w hp hq (by simp only [maxLen]; omega) (by simp only [maxLen]; omega)
  obtain ⟨v, hv⟩ : ∃ v, decide (rks A = rks B) = v := ⟨_, rfl⟩
  rw [hv] at N
  have HV := Hid.mk' hv
  have HQ := Hid.mk' hq
  have HD := Hid.mk' hd
  clear hv hp hq hc hd
  go_enter Try.func19, Try.ntmps19
  go_wp2_with fail
  refine N.mono ?_
  clear N
  rintro e w1 ⟨rfl, hb1⟩
  cases v
  · go_wp2_with fail
    go_ret
    have h := HV.out
    exact ⟨q, d, B, rfl, HQ.out.below hb1, HD.out, by rw [pickD, if_neg (by simpa using h)], fun x hx => .inr hx, hb, hb1⟩
  · go_wp2_with fail
    go_ret
    have h := HV.out
    exact ⟨none, 0, [], rfl, RIn.empty _ _, fun _ => rfl, by rw [pickD, if_pos (by simpa using h)]; rfl, fun x hx => (by cases hx), by simp, hb1⟩

set_option maxHeartbeats 4000000 in
theorem later_any (p q : Option Addr) (c d : Nat) (A B : List Rc) (w : World) (hp : RIn w p A) (hq : RIn w q B) (ha : A.length ≤ 1) (hb : B.length ≤ 1) (hc : p = none → c = 0) (hd : q = none → d = 0) :
    Calls Try.prog 26 #[.slice p A.length c, .slice q B.length d] w (PickR pickO A B w) := by
  have HQ := Hid.mk' hq
  have HD := Hid.mk' hd
  have HP := Hid.mk' hp
  have HC := Hid.mk' hc
  clear hp hq hc hd
  go_enter Try.func26, Try.ntmps26
  by_cases t : B.length = 0
  · have t1 : ((B.length : Int) == 0) = true := by simp [t]
    go_wp2
    go_ret
    exact ⟨p, c, A, rfl, HP.out, HC.out, by rw [pickO, if_pos t], fun x hx => .inl hx, ha, Below.refl _ _⟩
  · have t1 : ((B.length : Int) == 0) = false := by simpa using t
    go_wp2
    go_ret
    exact ⟨q, d, B, rfl, HQ.out, HD.out, by rw [pickO, if_neg t], fun x hx => .inr hx, hb, Below.refl _ _⟩

/-- What a pick of whole numbers comes to. -/
def PickI (pick : List Rc → List Rc → List Int) (A B : List Rc) (w : World) (e : Ending) (w' : World) : Prop :=
  ∃ r s P, e = .returned (.slice r (List.length P) s) ∧ NIn w' r P ∧ (r = none → s = 0) ∧ P = pick A B ∧ P.length ≤ 1 ∧ Below w.heap.size w w'

set_option maxHeartbeats 4000000 in
theorem goneID_any (p q : Option Addr) (c d : Nat) (A B : List Rc) (w : World) (hp : RIn w p A) (hb : B.length ≤ 1) (ha : A.length ≤ 1) (hne : 0 < A.length + B.length) :
    Calls Try.prog 21 #[.slice p A.length c, .slice q B.length d] w (PickI pickG A B w) := by
  by_cases t0 : B.length = 0
  · have t1 : ¬ (B.length : Int) > 0 := by simp [t0]
    match A, hp, ha, hne with
    | [], _, _, h => simp at h; omega
    | x :: t, hp, ha, _ =>
      obtain rfl : t = [] := by simpa using ha
      obtain ⟨b, o, rfl, e0⟩ := hp.head
      clear hp
      show Calls _ _ #[.slice (some ⟨b, o, none⟩) ((1 : Nat) : Nat) c, _] _ _
      go_enter Try.func21, Try.ntmps21
      have hB := (Below.refl w.heap.size w).alloc (Nat.le_refl _) (.cells #[.int .i64 x.id] 3)
      have hN := heap_alloc_new w (.cells #[.int .i64 x.id] 3)
      have HB := Hid.mk' hB
      have HN := Hid.mk' hN
      clear hB hN
      go_wp2
      go_ret
      exact ⟨some ⟨w.heap.size, 0, none⟩, 1, [x.id], rfl, NIn.of_block (rest := []) (by simpa using HN.out), by simp, by rw [pickG, if_pos t0]; rfl, by simp, HB.out⟩
  · have t1 : (B.length : Int) > 0 := by omega
    go_enter Try.func21, Try.ntmps21
    go_wp2
    go_ret
    exact ⟨none, 0, [], rfl, fun h => by simp at h, fun _ => rfl, by rw [pickG, if_neg t0], by simp, Below.refl _ _⟩
end Go.Proofs.Ytnladolpcocchaa
