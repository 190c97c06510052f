/-
  Package rec, lists: place, placeOf, Sorted, slices.EqualFunc, Equal.
-/
import Derived.Test.YtnladolpcocchaaRecB
namespace Go.Proofs.Ytnladolpcocchaa
open Go.RowKit
set_option linter.unusedSimpArgs false
set_option linter.unusedVariables false
set_option maxRecDepth 10000
set_option synthInstance.maxSize 2000

/-- The first place that is wanted, or the end. -/
def firstP (f : Int → Bool) : List Rc → Nat
  | [] => 0
  | x :: t => if f x.id then 0 else firstP f t + 1
theorem firstP_le (f : Int → Bool) : ∀ l : List Rc, firstP f l ≤ l.length
  | [] => Nat.le_refl _
  | x :: t => by
    have := firstP_le f t
    unfold firstP
    split
    · exact Nat.zero_le _
    · simp only [List.length_cons]; omega
theorem firstP_hit (f : Int → Bool) : ∀ (l : List Rc) (k : Nat), k < l.length → (∀ x ∈ l.take k, f x.id = false) → f (l.getD k zr).id = true → firstP f l = k
  | [], k, hk, _, _ => by simp at hk
  | x :: t, 0, hk, _, h => by simp [List.getD] at h; simp [firstP, h]
  | x :: t, k + 1, hk, h1, h => by
    have h0 : f x.id = false := h1 x (by simp)
    have := firstP_hit f t k (by simpa using hk) (fun y hy => h1 y (by simp [hy])) (by simpa [List.getD] using h)
    simp [firstP, h0, this]
theorem firstP_miss (f : Int → Bool) : ∀ (l : List Rc), (∀ x ∈ l, f x.id = false) → firstP f l = l.length
  | [], _ => rfl
  | x :: t, h => by
    have := firstP_miss f t (fun y hy => h y (by simp [hy]))
    simp [firstP, h x (by simp), this]
theorem firstP_at (f : Int → Bool) : ∀ (l : List Rc), firstP f l < l.length → f (l.getD (firstP f l) zr).id = true
  | [], h => by simp [firstP] at h
  | x :: t, h => by
    by_cases q : f x.id = true
    · simp [firstP, q, List.getD]
    · have q' : f x.id = false := by simpa using q
      simp only [firstP, q', Bool.false_eq_true, if_false, List.length_cons] at h ⊢
      have := firstP_at f t (by omega)
      simpa [List.getD] using this
theorem firstP_no (f : Int → Bool) : ∀ (l : List Rc), ∀ x ∈ l.take (firstP f l), f x.id = false
  | [], x, hx => by simp at hx
  | y :: t, x, hx => by
    by_cases q : f y.id = true
    · simp [firstP, q] at hx
    · have q' : f y.id = false := by simpa using q
      simp only [firstP, q', Bool.false_eq_true, if_false, List.take_succ_cons, List.mem_cons] at hx
      rcases hx with rfl | hx
      · exact q'
      · exact firstP_no f t x hx

theorem one_cell {w : World} {b : Nat} {x : Value} {t : TypeId} (h : w.heap[b]? = some (.cells #[x] t (0, 0))) : w.cell? ⟨b, 0, none⟩ = some x := by simp [World.cell?, h]

set_option maxHeartbeats 1600000 in
theorem placeOf1_any (x : Rc) (bt : Nat) (v : Int) (w : World) (hc : w.cell? ⟨bt, 0, none⟩ = some (.int .i64 v)) :
    Calls Try.prog 36 #[.agg #[.int .i64 x.id, .int .i64 x.inc, .int .i64 x.st, .int .i64 x.lo, .int .i64 x.hi, .bool x.cut, .slice x.p x.bag.length x.cap], .pointer (some ⟨bt, 0, none⟩)] w fun e w' => e = .returned (.bool (x.id == v)) ∧ Below w.heap.size w w' := by
  have hb : bt < w.heap.size := lt_of_cell hc
  have HB := Hid.mk' (InB.start w x).below
  go_enter Try.func36, Try.ntmps36
  go_wp2_with fail
  go_ret
  exact ⟨rfl, HB.out⟩

set_option maxHeartbeats 1600000 in
theorem put1_any (x : Rc) (bt : Nat) (v : Int) (w : World) (hc : w.cell? ⟨bt, 0, none⟩ = some (.int .i64 v)) :
    Calls Try.prog 29 #[.agg #[.int .i64 x.id, .int .i64 x.inc, .int .i64 x.st, .int .i64 x.lo, .int .i64 x.hi, .bool x.cut, .slice x.p x.bag.length x.cap], .pointer (some ⟨bt, 0, none⟩)] w fun e w' => e = .returned (.bool (decide (v < x.id))) ∧ Below w.heap.size w w' := by
  have hb : bt < w.heap.size := lt_of_cell hc
  have HB := Hid.mk' (InB.start w x).below
  go_enter Try.func29, Try.ntmps29
  go_wp2_with fail
  go_ret
  exact ⟨rfl, HB.out⟩

set_option maxHeartbeats 4000000 in
theorem placeK_any (p : Option Addr) (c : Nat) (L : List Rc) (bt : Nat) (v : Int) (w : World) (hp : RIn w p L) (hn : L.length ≤ maxLen) (hc : w.cell? ⟨bt, 0, none⟩ = some (.int .i64 v)) :
    Calls Try.prog 28 #[.slice p L.length c, .func (.func 36) #[] #[.pointer (some ⟨bt, 0, none⟩)]] w
      fun e w' => e = .returned (.int .i64 (firstP (fun i => i == v) L : Nat)) ∧ Below w.heap.size w w' := by
  simp only [maxLen] at hn
  obtain ⟨r, hr⟩ : ∃ r, firstP (fun i => i == v) L = r := ⟨_, rfl⟩
  rw [hr]
  have HR := Hid.mk' hr
  clear hr
  go_enter Try.func28, Try.ntmps28
  go_wp2
  go_loopw [9] (fun i W => ∃ k : Nat, k ≤ L.length ∧ i = .int .i64 k ∧ Hid (∀ x ∈ L.take k, (fun i => i == v) x.id = false) ∧ Below w.heap.size w W) (fun i _ => L.length - (intOf i).toNat)
  case atStart => exact ⟨0, by omega, rfl, fun f hf => by simp at hf, Below.refl _ _⟩
  case round =>
    obtain ⟨k, hk, rfl, HT, hb⟩ := hrel
    by_cases t : k < L.length
    · obtain ⟨b, o, rfl, hcs⟩ := (hp.below hb).at (by omega)
      obtain ⟨hx, _⟩ := hcs k t
      obtain ⟨y, hy⟩ : ∃ y, L.getD k zr = y := ⟨_, rfl⟩
      rw [hy] at hx
      obtain ⟨e0, e1, e2, e3, e4, e5, e6⟩ := hx
      have HY := Hid.mk' hy
      have hbt : wr.cell? ⟨bt, 0, none⟩ = some (.int .i64 v) := by rw [hb.cell (p := ⟨bt, 0, none⟩) (lt_of_cell hc)]; exact hc
      have hB := (Below.refl wr.heap.size wr).alloc (Nat.le_refl _) (.cells #[.int .i64 y.id, .int .i64 y.inc, .int .i64 y.st, .int .i64 y.lo, .int .i64 y.hi, .bool y.cut, .slice y.p y.bag.length y.cap] 34)
      have N := placeOf1_any y bt v _ (by rw [hB.cell (p := ⟨bt, 0, none⟩) (lt_of_cell hbt)]; exact hbt)
      have HB := Hid.mk' (hb.trans (hB.mono hb.size))
      clear hcs hb hB hy hbt
      go_wp2_with fail
      refine N.mono ?_
      rintro e w3 ⟨rfl, hb3⟩
      have HB3 := Hid.mk' (HB.out.trans (hb3.mono HB.out.size))
      clear HB hb3 N
      obtain ⟨d, hd⟩ : ∃ d, (y.id == v) = d := ⟨_, rfl⟩
      rw [hd]
      have HD := Hid.mk' hd
      clear hd
      cases d
      · go_wp2_with fail
        go_roundw
        case rel =>
          refine ⟨k + 1, by omega, by go_num, fun f hf => ?_, HB3.out⟩
          rw [rtake_next L k t, HY.out] at hf
          rcases List.mem_append.1 hf with q | q
          · exact HT.out f q
          · simp at q; subst q; exact HD.out
        case measure => simp [intOf]; omega
      · have HV := Hid.mk' (show r = k by rw [← HR.out]; exact firstP_hit _ L k t HT.out (by rw [HY.out]; exact HD.out))
        go_wp2_with fail
        try rw [Exit.noGoto_ret]
        go_ret
        exact ⟨by rw [HV.out]; rfl, HB3.out⟩
    · obtain rfl : k = L.length := by omega
      rw [List.take_of_length_le (Nat.le_refl _)] at HT
      have HV := Hid.mk' (show r = L.length by rw [← HR.out]; exact firstP_miss _ L HT.out)
      go_wp2
      go_ret
      exact ⟨by rw [HV.out]; rfl, hb⟩

set_option maxHeartbeats 4000000 in
theorem placeU_any (p : Option Addr) (c : Nat) (L : List Rc) (bt : Nat) (v : Int) (w : World) (hp : RIn w p L) (hn : L.length ≤ maxLen) (hc : w.cell? ⟨bt, 0, none⟩ = some (.int .i64 v)) :
    Calls Try.prog 28 #[.slice p L.length c, .func (.func 29) #[] #[.pointer (some ⟨bt, 0, none⟩)]] w
      fun e w' => e = .returned (.int .i64 (firstP (fun i => decide (v < i)) L : Nat)) ∧ Below w.heap.size w w' := by
  simp only [maxLen] at hn
  obtain ⟨r, hr⟩ : ∃ r, firstP (fun i => decide (v < i)) L = r := ⟨_, rfl⟩
  rw [hr]
  have HR := Hid.mk' hr
  clear hr
  go_enter Try.func28, Try.ntmps28
  go_wp2
  go_loopw [9] (fun i W => ∃ k : Nat, k ≤ L.length ∧ i = .int .i64 k ∧ Hid (∀ x ∈ L.take k, (fun i => decide (v < i)) x.id = false) ∧ Below w.heap.size w W) (fun i _ => L.length - (intOf i).toNat)
  case atStart => exact ⟨0, by omega, rfl, fun f hf => by simp at hf, Below.refl _ _⟩
  case round =>
    obtain ⟨k, hk, rfl, HT, hb⟩ := hrel
    by_cases t : k < L.length
    · obtain ⟨b, o, rfl, hcs⟩ := (hp.below hb).at (by omega)
      obtain ⟨hx, _⟩ := hcs k t
      obtain ⟨y, hy⟩ : ∃ y, L.getD k zr = y := ⟨_, rfl⟩
      rw [hy] at hx
      obtain ⟨e0, e1, e2, e3, e4, e5, e6⟩ := hx
      have HY := Hid.mk' hy
      have hbt : wr.cell? ⟨bt, 0, none⟩ = some (.int .i64 v) := by rw [hb.cell (p := ⟨bt, 0, none⟩) (lt_of_cell hc)]; exact hc
      have hB := (Below.refl wr.heap.size wr).alloc (Nat.le_refl _) (.cells #[.int .i64 y.id, .int .i64 y.inc, .int .i64 y.st, .int .i64 y.lo, .int .i64 y.hi, .bool y.cut, .slice y.p y.bag.length y.cap] 34)
      have N := put1_any y bt v _ (by rw [hB.cell (p := ⟨bt, 0, none⟩) (lt_of_cell hbt)]; exact hbt)
      have HB := Hid.mk' (hb.trans (hB.mono hb.size))
      clear hcs hb hB hy hbt
      go_wp2_with fail
      refine N.mono ?_
      rintro e w3 ⟨rfl, hb3⟩
      have HB3 := Hid.mk' (HB.out.trans (hb3.mono HB.out.size))
      clear HB hb3 N
      obtain ⟨d, hd⟩ : ∃ d, (decide (v < y.id)) = d := ⟨_, rfl⟩
      rw [hd]
      have HD := Hid.mk' hd
      clear hd
      cases d
      · go_wp2_with fail
        go_roundw
        case rel =>
          refine ⟨k + 1, by omega, by go_num, fun f hf => ?_, HB3.out⟩
          rw [rtake_next L k t, HY.out] at hf
          rcases List.mem_append.1 hf with q | q
          · exact HT.out f q
          · simp at q; subst q; exact HD.out
        case measure => simp [intOf]; omega
      · have HV := Hid.mk' (show r = k by rw [← HR.out]; exact firstP_hit _ L k t HT.out (by rw [HY.out]; exact HD.out))
        go_wp2_with fail
        try rw [Exit.noGoto_ret]
        go_ret
        exact ⟨by rw [HV.out]; rfl, HB3.out⟩
    · obtain rfl : k = L.length := by omega
      rw [List.take_of_length_le (Nat.le_refl _)] at HT
      have HV := Hid.mk' (show r = L.length by rw [← HR.out]; exact firstP_miss _ L HT.out)
      go_wp2
      go_ret
      exact ⟨by rw [HV.out]; rfl, hb⟩

set_option maxHeartbeats 1600000 in
theorem placeOf_any (p : Option Addr) (c : Nat) (L : List Rc) (v : Int) (w : World) (hp : RIn w p L) (hn : L.length ≤ maxLen) :
    Calls Try.prog 23 #[.slice p L.length c, .int .i64 v] w fun e w' => e = .returned (.int .i64 (firstP (fun i => i == v) L : Nat)) ∧ Below w.heap.size w w' := by
  have hB := (Below.refl w.heap.size w).alloc (Nat.le_refl _) (.cells #[.int .i64 v] 3)
  have N := placeK_any p c L w.heap.size v _ (hp.below hB) hn (one_cell (heap_alloc_new w (.cells #[.int .i64 v] 3)))
  generalize firstP (fun i => i == v) L = r at N ⊢
  have HB := Hid.mk' hB
  clear hB
  go_enter Try.func23, Try.ntmps23
  go_wp2_with fail
  refine N.mono ?_
  rintro e w3 ⟨rfl, hb3⟩
  have HB3 := Hid.mk' (HB.out.trans (hb3.mono HB.out.size))
  clear HB hb3 N
  go_wp2_with fail
  go_ret
  exact ⟨rfl, HB3.out⟩

set_option maxHeartbeats 4000000 in
theorem sorted_any (p : Option Addr) (c : Nat) (l : List Rc) (w : World) (hp : RIn w p l) (hn : l.length ≤ maxLen) (hz : ∀ x ∈ l, szK (kys x.bag) ≤ 4611686018427387904) :
    Calls Try.prog 10 #[.slice p l.length c] w fun e w' => e = .returned (.bool (sortR (-1) (rks l))) ∧ Below w.heap.size w w' := by
  simp only [maxLen] at hn
  obtain ⟨r, hr⟩ : ∃ r, sortR (-1) (rks l) = r := ⟨_, rfl⟩
  rw [hr]
  have HR := Hid.mk' hr.symm
  clear hr
  go_enter Try.func10, Try.ntmps10
  go_wp2
  go_loopw [3, 8] (fun n i W => ∃ k : Nat, ∃ a : Int, k ≤ l.length ∧ i = .int .i64 k ∧ n = .int .i64 a ∧ Hid (r = sortR a (rks (l.drop k))) ∧ Below w.heap.size w W) (fun n i _ => l.length - (intOf i).toNat)
  case atStart => exact ⟨0, -1, by omega, rfl, rfl, HR.out, Below.refl _ _⟩
  case round =>
    obtain ⟨k, a, hk, rfl, rfl, HT, hb⟩ := hrel
    by_cases t : k < l.length
    · obtain ⟨b, o, rfl, hcs⟩ := (hp.below hb).at (by omega)
      obtain ⟨hx, hok⟩ := hcs k t
      have HT' := Hid.mk' (show r = (mayR (rk (l.getD k zr)) && decide (a < (l.getD k zr).id) && sortR (l.getD k zr).id (rks (l.drop (k + 1)))) by rw [HT.out, rdrop_next l k t]; rfl)
      have hzk := hz (l.getD k zr) (by simp [List.getD, t])
      generalize l.getD k zr = y at HT' hx hok hzk
      obtain ⟨e0, e1, e2, e3, e4, e5, e6⟩ := hx
      have hB := (Below.refl wr.heap.size wr).alloc (Nat.le_refl _) (.cells #[.int .i64 y.id, .int .i64 y.inc, .int .i64 y.st, .int .i64 y.lo, .int .i64 y.hi, .bool y.cut, .slice y.p y.bag.length y.cap] 34)
      have N := rvalid_any y _ (hok.below hB) hzk
      have HI := Hid.mk' (InB.start wr y)
      have HB := Hid.mk' hb
      generalize mayR (rk y) = m at HT' N
      clear hcs hb hB hok hzk
      go_wp2_with fail
      refine N.mono ?_
      rintro e w3 ⟨rfl, hb3⟩
      have HI3 := Hid.mk' (HI.out.on hb3)
      have HB3 := Hid.mk' (HB.out.trans (HI3.out.below.mono HB.out.size))
      obtain ⟨c0, _, _, _, _, _, _⟩ := box_cells HI3.out.box
      clear HI HB hb3 N HI3
      cases m
      · obtain rfl : r = false := by rw [HT'.out]; simp
        go_wp2_with fail
        try rw [Exit.noGoto_ret]
        go_ret
        exact ⟨rfl, HB3.out⟩
      · by_cases t1 : y.id ≤ a
        · obtain rfl : r = false := by rw [HT'.out]; simp; intro h; omega
          go_wp2_with fail
          try rw [Exit.noGoto_ret]
          go_ret
          exact ⟨rfl, HB3.out⟩
        · have t1' : a < y.id := by omega
          have HV := Hid.mk' (show r = sortR y.id (rks (l.drop (k + 1))) by rw [HT'.out]; simp [t1'])
          go_wp2_with fail
          go_roundw
          case rel => exact ⟨k + 1, y.id, by omega, by go_num, rfl, HV, HB3.out⟩
          case measure => simp [intOf]; omega
    · have HV := Hid.mk' (show r = true by rw [HT.out, List.drop_of_length_le (by omega)]; rfl)
      go_wp2
      go_ret
      exact ⟨by rw [HV.out]; rfl, hb⟩

set_option maxHeartbeats 4000000 in
theorem equalFunc_any (p q : Option Addr) (c d : Nat) (a b : List Rc) (w : World) (hp : RIn w p a) (hq : RIn w q b) (hn : a.length ≤ maxLen) (hm : b.length ≤ maxLen) :
    Calls Try.prog 40 #[.slice p a.length c, .slice q b.length d, .func (.func 41) #[] #[]] w fun e w' => e = .returned (.bool (decide (rks a = rks b))) ∧ Below w.heap.size w w' := by
  simp only [maxLen] at hn hm
  obtain ⟨r, hr⟩ : ∃ r, decide (rks a = rks b) = r := ⟨_, rfl⟩
  rw [hr]
  go_enter Try.func40, Try.ntmps40
  by_cases t0 : a.length = b.length
  · have HR := Hid.mk' hr.symm
    have d0 : ((a.length : Int) != (b.length : Int)) = false := by simp; omega
    have T0 := Hid.mk' t0
    clear hr t0
    go_wp2
    go_loopw [17] (fun i W => ∃ k : Nat, k ≤ a.length ∧ i = .int .i64 k ∧ Hid (r = decide (rks (a.drop k) = rks (b.drop k))) ∧ Below w.heap.size w W) (fun i _ => a.length - (intOf i).toNat)
    case atStart => exact ⟨0, by omega, rfl, HR.out, Below.refl _ _⟩
    case round =>
      obtain ⟨k, hk, rfl, HT, hb⟩ := hrel
      by_cases t : k < a.length
      · have t2 : k < b.length := by have := T0.out; omega
        obtain ⟨b1, o1, rfl, hc⟩ := (hp.below hb).at (by omega)
        obtain ⟨hx, hokx⟩ := hc k t
        obtain ⟨b2, o2, rfl, hc2⟩ := (hq.below hb).at (by omega)
        obtain ⟨hy, hoky⟩ := hc2 k t2
        obtain ⟨e0, e1, e2, e3, e4, e5, e6⟩ := hx
        obtain ⟨f0, f1, f2, f3, f4, f5, f6⟩ := hy
        have HT' := Hid.mk' (show r = (decide (rk (a.getD k zr) = rk (b.getD k zr)) && decide (rks (a.drop (k + 1)) = rks (b.drop (k + 1)))) by rw [HT.out, rdrop_next a k t, rdrop_next b k t2]; simp [rks])
        generalize a.getD k zr = x at HT' e0 e1 e2 e3 e4 e5 e6 hokx
        generalize b.getD k zr = y at HT' f0 f1 f2 f3 f4 f5 f6 hoky
        have hI := (InB2.start wr x y).below
        have N := rsame_any x y _ (hokx.below hI) (hoky.below hI)
        have HB := Hid.mk' (hb.trans (hI.mono hb.size))
        generalize decide (rk x = rk y) = v at HT' N
        have hlt2 : b2 < wr.heap.size := lt_of_cell f0
        clear hc hc2 hokx hoky hb hI
        go_wp2_with fail
        refine N.mono ?_
        rintro e w3 ⟨rfl, hb3⟩
        have HB3 := Hid.mk' (HB.out.trans (hb3.mono HB.out.size))
        clear HB hb3 N
        cases v
        · obtain rfl : r = false := by rw [HT'.out]; simp
          go_wp2_with fail
          try rw [Exit.noGoto_ret]
          go_ret
          exact ⟨rfl, HB3.out⟩
        · have HV := Hid.mk' (show r = decide (rks (a.drop (k + 1)) = rks (b.drop (k + 1))) by rw [HT'.out]; simp)
          go_wp2_with fail
          go_roundw
          case rel => exact ⟨k + 1, by omega, by go_num, HV, HB3.out⟩
          case measure => simp [intOf]; omega
      · have HV := Hid.mk' (show r = true by rw [HT.out, List.drop_of_length_le (l := a) (by omega), List.drop_of_length_le (l := b) (by have := T0.out; omega)]; rfl)
        go_wp2
        go_ret
        exact ⟨by rw [HV.out]; rfl, hb⟩
  · have t0' : ¬ (a.length : Int) = (b.length : Int) := by omega
    have d0 : ((a.length : Int) != (b.length : Int)) = true := by simp; omega
    obtain rfl : r = false := by
      rw [← hr]
      simp
      intro h
      have := congrArg List.length h
      rw [rks_len, rks_len] at this
      omega
    go_wp2
    go_ret
    exact ⟨rfl, Below.refl _ _⟩

set_option maxHeartbeats 1600000 in
theorem requal_any (p q : Option Addr) (c d : Nat) (a b : List Rc) (w : World) (hp : RIn w p a) (hq : RIn w q b) (hn : a.length ≤ maxLen) (hm : b.length ≤ maxLen) :
    Calls Try.prog 32 #[.slice p a.length c, .slice q b.length d] w fun e w' => e = .returned (.bool (decide (rks a = rks b))) ∧ Below w.heap.size w w' := by
  have N := equalFunc_any p q c d a b w hp hq hn hm
  generalize decide (rks a = rks b) = v at N ⊢
  go_enter Try.func32, Try.ntmps32
  go_wp2_with fail
  refine N.mono ?_
  rintro e w' ⟨rfl, hb3⟩
  go_wp2_with fail
  go_ret
  exact ⟨rfl, hb3⟩
end Go.Proofs.Ytnladolpcocchaa
