/-
  Package rec, lists: place, placeOf, Sorted, slices.EqualFunc, Equal.
-/
import Derived.Test.YtmfkdohfejklhaaDoorRecB
namespace Go.Proofs.YtmfkdohfejklhaaDoor
open Go.RowKit
set_option linter.unusedSimpArgs false
set_option linter.unusedVariables false
set_option maxRecDepth 10000
set_option synthInstance.maxSize 2000

/-- The first place that is wanted, or the end. -/
def firstP (f : Int → Bool) : List Rc → Nat
  | [] => 0
  | x :: t => if f x.id then 0 else firstP f t + 1
theorem firstP_le (f : Int → Bool) : ∀ l : List Rc, firstP f l ≤ l.length
  | [] => Nat.le_refl _
  | x :: t => by
    have := firstP_le f t
    unfold firstP
    split
    · exact Nat.zero_le _
    · simp only [List.length_cons]; omega
theorem firstP_hit (f : Int → Bool) : ∀ (l : List Rc) (k : Nat), k < l.length → (∀ x ∈ l.take k, f x.id = false) → f (l.getD k zr).id = true → firstP f l = k
  | [], k, hk, _, _ => by simp at hk
  | x :: t, 0, hk, _, h => by simp [List.getD] at h; simp [firstP, h]
  | x :: t, k + 1, hk, h1, h => by
    have h0 : f x.id = false := h1 x (by simp)
    have := firstP_hit f t k (by simpa using hk) (fun y hy => h1 y (by simp [hy])) (by simpa [List.getD] using h)
    simp [firstP, h0, this]
theorem firstP_miss (f : Int → Bool) : ∀ (l : List Rc), (∀ x ∈ l, f x.id = false) → firstP f l = l.length
  | [], _ => rfl
  | x :: t, h => by
    have := firstP_miss f t (fun y hy => h y (by simp [hy]))
    simp [firstP, h x (by simp), this]
theorem firstP_at (f : Int → Bool) : ∀ (l : List Rc), firstP f l < l.length → f (l.getD (firstP f l) zr).id = true
  | [], h => by simp [firstP] at h
  | x :: t, h => by
    by_cases q : f x.id = true
    · simp [firstP, q, List.getD]
    · have q' : f x.id = false := by simpa using q
      simp only [firstP, q', Bool.false_eq_true, if_false, List.length_cons] at h ⊢
      have := firstP_at f t (by omega)
      simpa [List.getD] using this
theorem firstP_no (f : Int → Bool) : ∀ (l : List Rc), ∀ x ∈ l.take (firstP f l), f x.id = false
  | [], x, hx => by simp at hx
  | y :: t, x, hx => by
    by_cases q : f y.id = true
    · simp [firstP, q] at hx
    · have q' : f y.id = false := by simpa using q
      simp only [firstP, q', Bool.false_eq_true, if_false, List.take_succ_cons, List.mem_cons] at hx
      rcases hx with rfl | hx
      · exact q'
      · exact firstP_no f t x hx

theorem one_cell {w : World} {b : Nat} {x : Value} {t : TypeId} (h : w.heap[b]? = some (.cells #[x] t (0, 0))) : w.cell? ⟨b, 0, none⟩ = some x := by simp [World.cell?, h]






set_option maxHeartbeats 4000000 in
theorem sorted_any (p : Option Addr) (c : Nat) (l : List Rc) (w : World) (hp : RIn w p l) (hn : l.length ≤ maxLen) (hz : ∀ x ∈ l, szK (kys x.bag) ≤ 4611686018427387904) :
    Calls Tryd.prog 59 #[.slice p l.length c] w fun e w' => e = .returned (.bool (sortR (-1) (rks l))) ∧ Below w.heap.size w w' := by
  simp only [maxLen] at hn
  obtain ⟨r, hr⟩ : ∃ r, sortR (-1) (rks l) = r := ⟨_, rfl⟩
  rw [hr]
  have HR := Hid.mk' hr.symm
  clear hr
  go_enter Tryd.func59, Tryd.ntmps59
  go_wp2
  go_loopw [3, 8] (fun n i W => ∃ k : Nat, ∃ a : Int, k ≤ l.length ∧ i = .int .i64 k ∧ n = .int .i64 a ∧ Hid (r = sortR a (rks (l.drop k))) ∧ Below w.heap.size w W) (fun n i _ => l.length - (intOf i).toNat)
  case atStart => exact ⟨0, -1, by omega, rfl, rfl, HR.out, Below.refl _ _⟩
  case round =>
    obtain ⟨k, a, hk, rfl, rfl, HT, hb⟩ := hrel
    by_cases t : k < l.length
    · obtain ⟨b, o, rfl, hcs⟩ := (hp.below hb).at (by omega)
      obtain ⟨hx, hok⟩ := hcs k t
      have HT' := Hid.mk' (show r = (mayR (rk (l.getD k zr)) && decide (a < (l.getD k zr).id) && sortR (l.getD k zr).id (rks (l.drop (k + 1)))) by rw [HT.out, rdrop_next l k t]; rfl)
      have hzk := hz (l.getD k zr) (by simp [List.getD, t])
      generalize l.getD k zr = y at HT' hx hok hzk
      obtain ⟨e0, e1, e2, e3, e4, e5, e6⟩ := hx
      have hB := (Below.refl wr.heap.size wr).alloc (Nat.le_refl _) (.cells #[.int .i64 y.id, .int .i64 y.inc, .int .i64 y.st, .int .i64 y.lo, .int .i64 y.hi, .bool y.cut, .slice y.p y.bag.length y.cap] 43)
      have N := rvalid_any y _ (hok.below hB) hzk
      have HI := Hid.mk' (InB.start wr y)
      have HB := Hid.mk' hb
      generalize mayR (rk y) = m at HT' N
      clear hcs hb hB hok hzk
      go_wp2_with fail
      refine N.mono ?_
      rintro e w3 ⟨rfl, hb3⟩
      have HI3 := Hid.mk' (HI.out.on hb3)
      have HB3 := Hid.mk' (HB.out.trans (HI3.out.below.mono HB.out.size))
      obtain ⟨c0, _, _, _, _, _, _⟩ := box_cells HI3.out.box
      clear HI HB hb3 N HI3
      cases m
      · obtain rfl : r = false := by rw [HT'.out]; simp
        go_wp2_with fail
        try rw [Exit.noGoto_ret]
        go_ret
        exact ⟨rfl, HB3.out⟩
      · by_cases t1 : y.id ≤ a
        · obtain rfl : r = false := by rw [HT'.out]; simp; intro h; omega
          go_wp2_with fail
          try rw [Exit.noGoto_ret]
          go_ret
          exact ⟨rfl, HB3.out⟩
        · have t1' : a < y.id := by omega
          have HV := Hid.mk' (show r = sortR y.id (rks (l.drop (k + 1))) by rw [HT'.out]; simp [t1'])
          go_wp2_with fail
          go_roundw
          case rel => exact ⟨k + 1, y.id, by omega, by go_num, rfl, HV, HB3.out⟩
          case measure => simp [intOf]; omega
    · have HV := Hid.mk' (show r = true by rw [HT.out, List.drop_of_length_le (by omega)]; rfl)
      go_wp2
      go_ret
      exact ⟨by rw [HV.out]; rfl, hb⟩



end Go.Proofs.YtmfkdohfejklhaaDoor
