/-
  The statement on layer 14, what has changed and what is gone: its walk, from what is wanted of the program.
-/
import Derived.Test.YtnladolpcocchaaLaw14
import Derived.Test.YtnladolpcocchaaRecL
import Derived.Deep.RegionHeld3
import Derived.RegionCalls
import Derived.Deep.QuietTactic
namespace Go.Proofs.Ytnladolpcocchaa
open Go.RowKit
set_option linter.unusedSimpArgs false
set_option linter.unusedVariables false
set_option maxRecDepth 10000
set_option synthInstance.maxSize 2000

/-- A row of records of its own, hidden from the walk. -/
def OwnD (W : World) (B : Nat) (a : Value) (A : List Rc) : Prop := OwnR 34 7 W B a A.length (A.flatMap Rc.cells)
/-- 'append(v, y)' of one record that was laid for it. -/
theorem wpList_addD {W : World} {ops : Array Oper} {rest : List Oper} {o : Oper} {ac : Act} {Q : Exit → Act → World → Prop} (hgd : o.guard = none) (s x : Operand)
    (ho : o.op = .call { callee := .builtin .append, args := #[s, x], argTypes := #[22, 22] })
    {B : Nat} {a : Value} {A : List Rc} (hs : ac.eval s = a) (h3 : OwnD W B a A) (hB : B ≤ W.heap.size) (y : Rc) (hx : ac.eval x = .slice (some ⟨W.heap.size, 0, none⟩) 1 1) (hl : A.length ≤ 2000)
    (h : ∀ a' w', OwnD w' B a' (A ++ [y]) → Below B W w' → wpList Try.prog ops Q rest (ac.put o.dst a') w') : wpList Try.prog ops Q (o :: rest) ac (W.alloc (.cells #[.int .i64 y.id, .int .i64 y.inc, .int .i64 y.st, .int .i64 y.lo, .int .i64 y.hi, .bool y.cut, .slice y.p y.bag.length y.cap] 34)) := by
  refine wpList_own1 hgd s x 22 ho 34 (.agg #[.int .i64 0, .int .i64 0, .int .i64 0, .int .i64 0, .int .i64 0, .bool false, .slice none 0 0]) 7 72 Try.underlying22 infoR rfl (by decide) B a A.length _ hs h3 hB #[.int .i64 y.id, .int .i64 y.inc, .int .i64 y.st, .int .i64 y.lo, .int .i64 y.hi, .bool y.cut, .slice y.p y.bag.length y.cap] 34 hx rfl (fun u hu => ?_) (by unfold maxLen; omega) (by omega) fun v' w' h1 h2 => h v' w' ?_ h2
  · refine flatR_one [y] u ?_
    simpa [Rc.cells] using hu
  · have e1 : (A ++ [y]).length = A.length + 1 := by simp
    have e2 : (A ++ [y]).flatMap Rc.cells = A.flatMap Rc.cells ++ [.int .i64 y.id, .int .i64 y.inc, .int .i64 y.st, .int .i64 y.lo, .int .i64 y.hi, .bool y.cut, .slice y.p y.bag.length y.cap] := by rw [flatR_append]; simp [Rc.cells]
    unfold OwnD
    rw [e1, e2]
    exact h1

/-- What is found, by its id. -/
theorem find_getI (i : Int) : ∀ l : List Rc, getI i (rks l) = if firstP (fun j => j == i) l < l.length then some (rk (l.getD (firstP (fun j => j == i) l) zr)) else none
  | [] => rfl
  | x :: t => by
    have ih := find_getI i t
    show (if (rk x).id = i then some (rk x) else getI i (rks t)) = _
    by_cases q : x.id = i
    · have e : firstP (fun j => j == i) (x :: t) = 0 := by simp [firstP, q]
      rw [e, if_pos (show (rk x).id = i from q), if_pos (by simp)]
      simp [List.getD]
    · have e : firstP (fun j => j == i) (x :: t) = firstP (fun j => j == i) t + 1 := by simp [firstP, q]
      rw [e, if_neg (show ¬ (rk x).id = i from q), ih]
      by_cases z : firstP (fun j => j == i) t < t.length
      · rw [if_pos z, if_pos (by simp only [List.length_cons]; omega)]; simp [List.getD]
      · rw [if_neg z, if_neg (by simp only [List.length_cons]; omega)]
/-- What is wanted of the first records of the list. -/
def wantD (b : List RK) (n : List Rc) (k : Nat) : List Rc := (n.take k).filter fun r => !decide (getI r.id b = some (rk r))
theorem wantD_next (b : List RK) (n : List Rc) (k : Nat) (h : k < n.length) : wantD b n (k + 1) = if decide (getI (n.getD k zr).id b = some (rk (n.getD k zr))) = true then wantD b n k else wantD b n k ++ [n.getD k zr] := by
  unfold wantD
  rw [rtake_next n k h, List.filter_append]
  cases q : decide (getI (n.getD k zr).id b = some (rk (n.getD k zr)))
  · rw [if_neg (by simp)]
    congr 1
    simp only [List.filter_cons, q, Bool.not_false, if_true, List.filter_nil]
  · rw [if_pos rfl]
    simp only [List.filter_cons, q, Bool.not_true, Bool.false_eq_true, if_false, List.filter_nil, List.append_nil]
theorem wantD_len (b : List RK) (n : List Rc) (k : Nat) : (wantD b n k).length ≤ n.length := by
  have h1 := List.length_filter_le (fun r : Rc => !decide (getI r.id b = some (rk r))) (n.take k)
  have h2 : (n.take k).length ≤ n.length := by rw [List.length_take]; omega
  exact Nat.le_trans h1 h2
theorem wantD_all (b : List RK) (n : List Rc) : rks (wantD b n n.length) = diffK b (rks n) := by
  unfold wantD diffK rks
  rw [List.take_of_length_le (Nat.le_refl _), List.filter_map]
  rfl
theorem wantD_mem {b : List RK} {n : List Rc} {k : Nat} {x : Rc} (h : x ∈ wantD b n k) : x ∈ n := List.mem_of_mem_take (List.mem_filter.1 h).1
/-- The ids that are gone, among the first records of the base. -/
theorem gone_next (b : List Rc) (n : List RK) (k : Nat) (h : k < b.length) : goneK (rks (b.take (k + 1))) n = goneK (rks (b.take k)) n ++ (if (getI (b.getD k zr).id n).isNone = true then [(b.getD k zr).id] else []) := by
  rw [rtake_next b k h, rks_append]
  unfold goneK
  rw [List.filter_append, List.map_append]
  congr 1
  show ((List.filter (fun r => (getI r.id n).isNone) [rk (b.getD k zr)]).map RK.id) = _
  cases q : (getI (b.getD k zr).id n).isNone
  · have q' : (getI (rk (b.getD k zr)).id n).isNone = false := q
    simp only [List.filter_cons, q', Bool.false_eq_true, if_false, List.filter_nil, List.map_nil]
  · have q' : (getI (rk (b.getD k zr)).id n).isNone = true := q
    simp only [List.filter_cons, q', if_true, List.filter_nil, List.map_cons, List.map_nil]
    rfl
theorem gone_split (b : List Rc) (n : List RK) (k : Nat) : goneK (rks b) n = goneK (rks (b.take k)) n ++ goneK (rks (b.drop k)) n := by
  have e : rks b = rks (b.take k) ++ rks (b.drop k) := by rw [← rks_append, List.take_append_drop]
  conv => lhs; rw [e]
  unfold goneK
  rw [List.filter_append, List.map_append]
theorem gone_len (b : List Rc) (n : List RK) (k : Nat) : (goneK (rks (b.take k)) n).length ≤ b.length := by
  unfold goneK
  rw [List.length_map]
  have h1 := List.length_filter_le (fun r : RK => (getI r.id n).isNone) (rks (b.take k))
  have h2 : (rks (b.take k)).length ≤ b.length := by rw [rks_len, List.length_take]; omega
  exact Nat.le_trans h1 h2
theorem gone_at (b : List Rc) (n : List RK) (k : Nat) (h : k < b.length) (hg : (getI (b.getD k zr).id n).isNone = true) : (goneK (rks (b.take k)) n).length < (goneK (rks b) n).length ∧ (goneK (rks b) n).getD (goneK (rks (b.take k)) n).length 0 = (b.getD k zr).id := by
  have h1 := gone_split b n (k + 1)
  rw [gone_next b n k h, if_pos hg] at h1
  rw [h1]
  refine ⟨by simp only [List.length_append, List.length_cons, List.length_nil]; omega, ?_⟩
  rw [List.append_assoc]
  simp [List.getD, List.getElem?_append]

set_option maxHeartbeats 8000000 in
theorem diffs_walk0 (O : DeltaOk) (p0 : Option Addr) (c0 : Nat) (b : List Rc) (p1 : Option Addr) (c1 : Nat) (n : List Rc) (w : World) (hlc0 : b.length ≤ c0) (hcm0 : c0 ≤ maxLen) (hp0 : p0 = none → c0 = 0) (hin0 : RIn w p0 b) (hlc1 : n.length ≤ c1) (hcm1 : c1 ≤ maxLen) (hp1 : p1 = none → c1 = 0) (hin1 : RIn w p1 n) :
    Calls Try.prog 3 #[.slice p0 b.length c0, .slice p1 n.length c1] w fun e w' => e = .returned (.bool true) ∧ Below w.heap.size w w' := by
  have AW := Hid.mk' (fun X => awake14_any O X)
  have F0 := lfew_any p0 c0 b w hin0 (Nat.le_trans hlc0 hcm0)
  have F1 := lfew_any p1 c1 n w hin1 (Nat.le_trans hlc1 hcm1)
  have HS0 := Hid.mk' (SmK.of_few (l := b))
  have HS1 := Hid.mk' (SmK.of_few (l := n))
  have HI0 := Hid.mk' hin0
  have HI1 := Hid.mk' hin1
  have GN := Hid.mk' (fun X (k : Below w.heap.size w X) (h0 : SmK (rks b)) (h1 : SmK (rks n)) => O.gone p0 c0 b p1 c1 n X (hin0.below k) hlc0 hcm0 hp0 h0 (hin1.below k) hlc1 hcm1 hp1 h1)
  have DF := Hid.mk' (fun (h0 : SmK (rks b)) (h1 : SmK (rks n)) => O.diff p0 c0 b p1 c1 n w hin0 hlc0 hcm0 hp0 h0 hin1 hlc1 hcm1 hp1 h1)
  have HCM := Hid.mk' (And.intro (Nat.le_trans hlc0 hcm0) (Nat.le_trans hlc1 hcm1))
  have S0 := Hid.mk' (fun X (h0 : SmK (rks b)) (k : Below w.heap.size w X) => sorted_any p0 c0 b X (hin0.below k) (Nat.le_trans hlc0 hcm0) (fun x hx => by have := (h0.bags x hx).2; omega))
  have S1 := Hid.mk' (fun X (h1 : SmK (rks n)) (k : Below w.heap.size w X) => sorted_any p1 c1 n X (hin1.below k) (Nat.le_trans hlc1 hcm1) (fun x hx => by have := (h1.bags x hx).2; omega))
  generalize fewR (rks b) = f0 at F0 HS0
  generalize fewR (rks n) = f1 at F1 HS1
  clear hin0 hin1 hlc0 hlc1 hcm0 hcm1 hp0 hp1 O
  go_enter Try.func3, Try.ntmps3
  go_wp2_with fail
  refine F0.mono ?_
  rintro e w1 ⟨rfl, rfl⟩
  cases f0
  · go_wp2_with fail
    refine (AW.out _).mono ?_
    rintro e w2 ⟨rfl, hb2⟩
    go_wp2_with fail
    go_ret
    exact ⟨rfl, hb2⟩
  go_wp2_with fail
  refine F1.mono ?_
  rintro e w1 ⟨rfl, rfl⟩
  cases f1
  · go_wp2_with fail
    refine (AW.out _).mono ?_
    rintro e w2 ⟨rfl, hb2⟩
    go_wp2_with fail
    go_ret
    exact ⟨rfl, hb2⟩
  have hs0 := HS0.out (by first | rfl | trivial)
  have hs1 := HS1.out (by first | rfl | trivial)
  have H0 := Hid.mk' hs0
  have H1 := Hid.mk' hs1
  have hl0 := hs0.len
  have hl1 := hs1.len
  have DFX := DF.out hs0 hs1
  have GNX := Hid.mk' (fun X k => GN.out X k hs0 hs1)
  have S0X := Hid.mk' (fun X k => S0.out X hs0 k)
  have S1X := Hid.mk' (fun X k => S1.out X hs1 k)
  obtain ⟨sb, hsb⟩ : ∃ s, sortR (-1) (rks b) = s := ⟨_, rfl⟩
  obtain ⟨sn, hsn⟩ : ∃ s, sortR (-1) (rks n) = s := ⟨_, rfl⟩
  have hbs : bothS (rks b) (rks n) = (sb && sn) := by rw [bothS, hsb, hsn]
  rw [hsb] at S0X
  rw [hsn] at S1X
  rw [hbs] at GNX DFX
  clear hs0 hs1 F0 F1 HS0 HS1 S0 S1 GN DF hsb hsn hbs
  go_wp2_with fail
  refine DFX.mono ?_
  clear DFX
  intro e w2 hdf
  obtain ⟨pD, cD, D, rfl, hD, hDl, hDm, hDn, hDk, hb2⟩ := hdf
  have HB2 := Hid.mk' hb2
  have HD := Hid.mk' hD
  have HDK := Hid.mk' hDk
  have hDl2 : D.length ≤ 9223372036854775807 := by simp only [maxLen] at hDm; omega
  have GNY := GNX.out w2 HB2.out
  clear hb2 hD hDl hDm hDn hDk GNX
  go_wp2_with fail
  refine GNY.mono ?_
  clear GNY
  intro e w3 hgn
  obtain ⟨pg, cg, G, rfl, hGin, hGl, hGm, hGk, hb3⟩ := hgn
  have hG2 : G.length ≤ 9223372036854775807 := by simp only [maxLen] at hGm; omega
  have HB3 := Hid.mk' (HB2.out.trans (hb3.mono HB2.out.size))
  have HD3 := Hid.mk' (HD.out.below hb3)
  have HGK := Hid.mk' hGk
  have HGI := Hid.mk' hGin
  clear hb3 hGl hGm hGk hGin HB2 HD
  have S0Y := S0X.out w3 HB3.out
  cases sb
  case false =>
    have eD : D = [] := by
      have h := HDK.out
      rw [Bool.false_and, if_neg (by simp)] at h
      exact List.map_eq_nil_iff.1 h
    have eG : G = [] := by have h := HGK.out; rw [Bool.false_and, if_neg (by simp)] at h; exact h
    subst eD eG
    rw [Bool.false_and]
    clear HDK HGK HD3 HGI S1X S0X
    go_wp2_with fail
    refine S0Y.mono ?_
    clear S0Y
    rintro e w4 ⟨rfl, hb4⟩
    have HB4 := Hid.mk' (HB3.out.trans (hb4.mono HB3.out.size))
    clear hb4
    go_wp2_with fail
    refine (AW.out _).mono ?_
    rintro e w5 ⟨rfl, hb5⟩
    have HB5 := Hid.mk' (HB4.out.trans (hb5.mono HB4.out.size))
    clear hb5
    go_wp2_with fail
    go_ret
    exact ⟨rfl, HB5.out⟩
  rw [Bool.true_and] at HDK HGK ⊢
  clear S0X
  go_wp2_with fail
  refine S0Y.mono ?_
  clear S0Y
  rintro e w4 ⟨rfl, hb4⟩
  have HB4 := Hid.mk' (HB3.out.trans (hb4.mono HB3.out.size))
  have HD4 := Hid.mk' (HD3.out.below hb4)
  have HG4 := Hid.mk' (HGI.out.below hb4)
  have S1Y := S1X.out w4 HB4.out
  clear hb4 HB3 HD3 HGI S1X
  go_wp2_with fail
  refine S1Y.mono ?_
  clear S1Y
  rintro e w5 ⟨rfl, hb5⟩
  have HB5 := Hid.mk' (HB4.out.trans (hb5.mono HB4.out.size))
  have HD5 := Hid.mk' (HD4.out.below hb5)
  have HG5 := Hid.mk' (HG4.out.below hb5)
  clear hb5 HB4 HD4 HG4
  cases sn
  case false =>
    have eD : D = [] := by
      have h := HDK.out
      rw [if_neg (by simp)] at h
      exact List.map_eq_nil_iff.1 h
    have eG : G = [] := by have h := HGK.out; rw [if_neg (by simp)] at h; exact h
    subst eD eG
    clear HDK HGK HD5 HG5
    go_wp2_with fail
    refine (AW.out _).mono ?_
    rintro e w6 ⟨rfl, hb6⟩
    have HB6 := Hid.mk' (HB5.out.trans (hb6.mono HB5.out.size))
    clear hb6
    go_wp2_with fail
    go_ret
    exact ⟨rfl, HB6.out⟩
  rw [if_pos rfl] at HDK HGK
  go_wp2_with fail
  go_loopw [9, 10] (fun v i W => ∃ k : Nat, k ≤ n.length ∧ i = .int .i64 k ∧ Hid (OwnD W w5.heap.size v (wantD (rks b) n k)) ∧ Hid (Below w5.heap.size w5 W)) (fun _ i _ => n.length - (intOf i).toNat)
  case atStart => exact ⟨0, by omega, rfl, Hid.mk' (by unfold OwnD wantD; simp; exact OwnR.nil _ _ _ _), Below.refl _ _⟩
  case round =>
    obtain ⟨k, hk, rfl, HO, HB⟩ := hrel
    have HBG := Hid.mk' (HB5.out.trans (HB.out.mono HB5.out.size))
    have HWL := Hid.mk' (show (wantD (rks b) n k).length ≤ 1000 from Nat.le_trans (wantD_len _ n k) hl1)
    by_cases t : k < n.length
    · have hki : (k : Int) < (n.length : Int) := by omega
      obtain ⟨bb, oo, hbo, hc⟩ := (HI1.out.below HBG.out).at (by omega)
      obtain ⟨hx, hok⟩ := hc k t
      have HN := Hid.mk' (wantD_next (rks b) n k t)
      subst hbo
      generalize n.getD k zr = y at hx hok HN
      have HGT := Hid.mk' (find_getI y.id b)
      have FD := find_any p0 c0 b y.id wr (HI0.out.below HBG.out) HCM.out.1 (fun x hx => by have := (H0.out.bags x hx).1; omega)
      obtain ⟨np, hnp⟩ : ∃ np, FindPost wr b y.id = np := ⟨_, rfl⟩
      have HNP := Hid.mk' hnp
      rw [hnp] at FD
      have HY := Hid.mk' hx
      have HOK := Hid.mk' hok
      obtain ⟨e0, e1, e2, e3, e4, e5, e6⟩ := hx
      clear hnp hc hok HBG
      go_wp2_with fail
      refine FD.mono ?_
      clear FD e0 e1 e2 e3 e4 e5 e6
      intro e w6 hfp
      rw [← HNP.out] at hfp
      obtain ⟨hf, hb6⟩ := hfp
      have HB6 := Hid.mk' (HB.out.trans (hb6.mono HB.out.size))
      have HO6 := Hid.mk' (show OwnD w6 w5.heap.size u9 (wantD (rks b) n k) from OwnR.below HO.out hb6)
      have HY6 := Hid.mk' (RAt.below HY.out hb6)
      have HOK6 := Hid.mk' (HOK.out.below hb6)
      clear hb6 HB HO HY HOK HNP
      by_cases q : firstP (fun j => j == y.id) b < b.length
      · rw [if_pos q] at hf
        obtain ⟨r', rfl, hrk, hr'⟩ := hf
        have hgt : getI y.id (rks b) = some (rk r') := by rw [HGT.out, if_pos q, hrk]
        have hbx := (Below.refl w6.heap.size w6).alloc (Nat.le_refl _) (.cells #[.int .i64 r'.id, .int .i64 r'.inc, .int .i64 r'.st, .int .i64 r'.lo, .int .i64 r'.hi, .bool r'.cut, .slice r'.p r'.bag.length r'.cap] 34)
        have hBOX := heap_alloc_new w6 (.cells #[.int .i64 r'.id, .int .i64 r'.inc, .int .i64 r'.st, .int .i64 r'.lo, .int .i64 r'.hi, .bool r'.cut, .slice r'.p r'.bag.length r'.cap] 34)
        have HB7 := Hid.mk' (show Below w5.heap.size w5 (w6.alloc (.cells #[.int .i64 r'.id, .int .i64 r'.inc, .int .i64 r'.st, .int .i64 r'.lo, .int .i64 r'.hi, .bool r'.cut, .slice r'.p r'.bag.length r'.cap] 34)).drew from (HB6.out.trans (hbx.mono HB6.out.size)).drew)
        have HO7 := Hid.mk' (show OwnD (w6.alloc (.cells #[.int .i64 r'.id, .int .i64 r'.inc, .int .i64 r'.st, .int .i64 r'.lo, .int .i64 r'.hi, .bool r'.cut, .slice r'.p r'.bag.length r'.cap] 34)).drew w5.heap.size u9 (wantD (rks b) n k) from (OwnR.below HO6.out hbx).below (Below.refl _ _).drew)
        have HY7 := Hid.mk' (show RAt (w6.alloc (.cells #[.int .i64 r'.id, .int .i64 r'.inc, .int .i64 r'.st, .int .i64 r'.lo, .int .i64 r'.hi, .bool r'.cut, .slice r'.p r'.bag.length r'.cap] 34)).drew bb (oo + k * 7) y from (HY6.out.below hbx).below (Below.refl _ _).drew)
        have HOK7 := Hid.mk' (show ROk (w6.alloc (.cells #[.int .i64 r'.id, .int .i64 r'.inc, .int .i64 r'.st, .int .i64 r'.lo, .int .i64 r'.hi, .bool r'.cut, .slice r'.p r'.bag.length r'.cap] 34)).drew y from (HOK6.out.below hbx).below (Below.refl _ _).drew)
        have HR7 := Hid.mk' (show ROk (w6.alloc (.cells #[.int .i64 r'.id, .int .i64 r'.inc, .int .i64 r'.st, .int .i64 r'.lo, .int .i64 r'.hi, .bool r'.cut, .slice r'.p r'.bag.length r'.cap] 34)).drew r' from (hr'.below hbx).below (Below.refl _ _).drew)
        have HX7 := Hid.mk' (show (w6.alloc (.cells #[.int .i64 r'.id, .int .i64 r'.inc, .int .i64 r'.st, .int .i64 r'.lo, .int .i64 r'.hi, .bool r'.cut, .slice r'.p r'.bag.length r'.cap] 34)).drew.heap[w6.heap.size]? = some (.cells #[.int .i64 r'.id, .int .i64 r'.inc, .int .i64 r'.st, .int .i64 r'.lo, .int .i64 r'.hi, .bool r'.cut, .slice r'.p r'.bag.length r'.cap] 34 (0, 0)) from hBOX)
        have HN2 := Hid.mk' (show wantD (rks b) n (k + 1) = if decide (rk r' = rk y) = true then wantD (rks b) n k else wantD (rks b) n k ++ [y] by rw [HN.out, hgt]; simp only [Option.some.injEq])
        clear hgt hbx hBOX hr' hrk HN HGT q HO6 HB6 HY6 HOK6
        go_upto_region 12 with fail
        have hS0 := And.intro (box_cells HX7.out) HY7.out
        refine wp_region_held_drew (S := fun X => (X.cell? ⟨w6.heap.size, 0, none⟩ = some (.int .i64 r'.id) ∧ X.cell? ⟨w6.heap.size, 1, none⟩ = some (.int .i64 r'.inc) ∧ X.cell? ⟨w6.heap.size, 2, none⟩ = some (.int .i64 r'.st) ∧ X.cell? ⟨w6.heap.size, 3, none⟩ = some (.int .i64 r'.lo) ∧ X.cell? ⟨w6.heap.size, 4, none⟩ = some (.int .i64 r'.hi) ∧ X.cell? ⟨w6.heap.size, 5, none⟩ = some (.bool r'.cut) ∧ X.cell? ⟨w6.heap.size, 6, none⟩ = some (.slice r'.p r'.bag.length r'.cap)) ∧ (X.cell? ⟨bb, oo + k * 7, none⟩ = some (.int .i64 y.id) ∧ X.cell? ⟨bb, oo + k * 7 + 1, none⟩ = some (.int .i64 y.inc) ∧ X.cell? ⟨bb, oo + k * 7 + 2, none⟩ = some (.int .i64 y.st) ∧ X.cell? ⟨bb, oo + k * 7 + 3, none⟩ = some (.int .i64 y.lo) ∧ X.cell? ⟨bb, oo + k * 7 + 4, none⟩ = some (.int .i64 y.hi) ∧ X.cell? ⟨bb, oo + k * 7 + 5, none⟩ = some (.bool y.cut) ∧ X.cell? ⟨bb, oo + k * 7 + 6, none⟩ = some (.slice y.p y.bag.length y.cap))) (by kernel_rfl) hS0 (fun hS => ?_)
        clear hS0
        generalize (w6.alloc (.cells #[.int .i64 r'.id, .int .i64 r'.inc, .int .i64 r'.st, .int .i64 r'.lo, .int .i64 r'.hi, .bool r'.cut, .slice r'.p r'.bag.length r'.cap] 34)).drew = wd at hS HB7 HO7 HY7 HOK7 HR7 HX7 ⊢
        refine wpAnyH_take (i := 0) (v := ?v0_44) rfl (by kernel_rfl) (by kernel_rfl) (by kernel_rfl) (fun _ _ _ h => h) (Or.inl ⟨by rfl, ?hy0_44⟩) (by assumption) ?rest0_44
        case hy0_44 => (intro w hSw; (try dsimp only at hSw); go_simp; try (with_reducible rfl))
        simp only [Act.put, List.getElem_toArray, List.getElem_cons_zero, List.getElem_cons_succ, List.setIfInBounds_toArray, List.set_cons_zero, List.set_cons_succ]
        refine wpAnyH_take (i := 1) (v := ?v1_45) rfl (by kernel_rfl) (by kernel_rfl) (by kernel_rfl) (fun _ _ _ h => h) (Or.inl ⟨by rfl, ?hy1_45⟩) (by assumption) ?rest1_45
        case hy1_45 => (intro w hSw; (try dsimp only at hSw); go_simp; try (with_reducible rfl))
        simp only [Act.put, List.getElem_toArray, List.getElem_cons_zero, List.getElem_cons_succ, List.setIfInBounds_toArray, List.set_cons_zero, List.set_cons_succ]
        refine wpAnyH_take (i := 2) (v := ?v2_46) rfl (by kernel_rfl) (by kernel_rfl) (by kernel_rfl) (fun _ _ _ h => h) (Or.inl ⟨by rfl, ?hy2_46⟩) (by assumption) ?rest2_46
        case hy2_46 => (intro w hSw; (try dsimp only at hSw); go_simp; try (with_reducible rfl))
        simp only [Act.put, List.getElem_toArray, List.getElem_cons_zero, List.getElem_cons_succ, List.setIfInBounds_toArray, List.set_cons_zero, List.set_cons_succ]
        refine wpAnyH_take (i := 3) (v := ?v3_47) rfl (by kernel_rfl) (by kernel_rfl) (by kernel_rfl) (fun _ _ _ h => h) (Or.inl ⟨by rfl, ?hy3_47⟩) (by assumption) ?rest3_47
        case hy3_47 => (intro w hSw; (try dsimp only at hSw); go_simp; try (with_reducible rfl))
        simp only [Act.put, List.getElem_toArray, List.getElem_cons_zero, List.getElem_cons_succ, List.setIfInBounds_toArray, List.set_cons_zero, List.set_cons_succ]
        refine wpAnyH_take (i := 4) (v := ?v4_48) rfl (by kernel_rfl) (by kernel_rfl) (by kernel_rfl) (fun _ _ _ h => h) (Or.inl ⟨by rfl, ?hy4_48⟩) (by assumption) ?rest4_48
        case hy4_48 => (intro w hSw; (try dsimp only at hSw); go_simp; try (with_reducible rfl))
        simp only [Act.put, List.getElem_toArray, List.getElem_cons_zero, List.getElem_cons_succ, List.setIfInBounds_toArray, List.set_cons_zero, List.set_cons_succ]
        refine wpAnyH_take (i := 5) (v := ?v5_49) rfl (by kernel_rfl) (by kernel_rfl) (by kernel_rfl) (fun _ _ _ h => h) (Or.inl ⟨by rfl, ?hy5_49⟩) (by assumption) ?rest5_49
        case hy5_49 => (intro w hSw; (try dsimp only at hSw); go_simp; try (with_reducible rfl))
        simp only [Act.put, List.getElem_toArray, List.getElem_cons_zero, List.getElem_cons_succ, List.setIfInBounds_toArray, List.set_cons_zero, List.set_cons_succ]
        refine wpAnyH_take (i := 6) (v := ?v6_50) rfl (by kernel_rfl) (by kernel_rfl) (by kernel_rfl) (fun _ _ _ h => h) (Or.inl ⟨by rfl, ?hy6_50⟩) (by assumption) ?rest6_50
        case hy6_50 => (intro w hSw; (try dsimp only at hSw); go_simp; try (with_reducible rfl))
        simp only [Act.put, List.getElem_toArray, List.getElem_cons_zero, List.getElem_cons_succ, List.setIfInBounds_toArray, List.set_cons_zero, List.set_cons_succ]
        refine wpAnyH_take (i := 7) (v := ?v7_51) rfl (by kernel_rfl) (by kernel_rfl) (by kernel_rfl) (fun _ _ _ h => h) (Or.inl ⟨by rfl, ?hy7_51⟩) (by assumption) ?rest7_51
        case hy7_51 => (intro w hSw; (try dsimp only at hSw); go_simp; try (with_reducible rfl))
        simp only [Act.put, List.getElem_toArray, List.getElem_cons_zero, List.getElem_cons_succ, List.setIfInBounds_toArray, List.set_cons_zero, List.set_cons_succ]
        refine wpAnyH_ready (rs := [8]) (by kernel_rfl) (by simp) ?_
        refine (AllReadyH.cons rfl (fun K hK => ?_) AllReadyH.nil)
        go_simp
        refine (lalike_any r' y wd HR7.out HOK7.out).mono ?_
        rintro e x8 ⟨rfl, hb8⟩
        have HB8a := Hid.mk' (HB7.out.trans (hb8.mono HB7.out.size))
        have HO8a := Hid.mk' (show OwnD x8 w5.heap.size u9 (wantD (rks b) n k) from OwnR.below HO7.out hb8)
        have HY8a := Hid.mk' (HY7.out.below hb8)
        have HX8a := Hid.mk' (show x8.heap[w6.heap.size]? = some (.cells #[.int .i64 r'.id, .int .i64 r'.inc, .int .i64 r'.st, .int .i64 r'.lo, .int .i64 r'.hi, .bool r'.cut, .slice r'.p r'.bag.length r'.cap] 34 (0, 0)) by rw [hb8.block _ (Array.getElem?_eq_some_iff.1 HX7.out).1]; exact HX7.out)
        clear hb8
        go_wp2_with fail
        refine hK.out _ _ ?_ (fun hS' => ?_)
        · exact ⟨box_cells HX8a.out, HY8a.out⟩
        clear hK K
        try simp only [Act.put, List.getElem_toArray, List.getElem_cons_zero, List.getElem_cons_succ, List.setIfInBounds_toArray, List.set_cons_zero, List.set_cons_succ]
        replace hS := hS'
        clear hS'
        refine wpAnyH_take (i := 9) (v := ?v9_52) rfl (by kernel_rfl) (by kernel_rfl) (by kernel_rfl) (fun _ _ _ h => h) (Or.inl ⟨by rfl, ?hy9_52⟩) (by assumption) ?rest9_52
        case hy9_52 => (intro w hSw; (try dsimp only at hSw); go_simp; try (with_reducible rfl))
        simp only [Act.put, List.getElem_toArray, List.getElem_cons_zero, List.getElem_cons_succ, List.setIfInBounds_toArray, List.set_cons_zero, List.set_cons_succ]
        refine wpAnyH_take (i := 10) (v := ?v10_53) rfl (by kernel_rfl) (by kernel_rfl) (by kernel_rfl) (fun _ _ _ h => h) (Or.inl ⟨by rfl, ?hy10_53⟩) (by assumption) ?rest10_53
        case hy10_53 => (intro w hSw; (try dsimp only at hSw); go_simp; try (with_reducible rfl))
        simp only [Act.put, List.getElem_toArray, List.getElem_cons_zero, List.getElem_cons_succ, List.setIfInBounds_toArray, List.set_cons_zero, List.set_cons_succ]
        refine wpAnyH_done (by kernel_rfl) ?_ _
        clear hS HB7 HO7 HY7 HOK7 HR7 HX7 HX8a
        cases hdd : decide (rk r' = rk y)
        · rw [hdd, if_neg (by simp)] at HN2
          clear hdd
          obtain ⟨g0, g1, g2, g3, g4, g5, g6⟩ := HY8a.out
          go_wp2_with (at_builtin; refine wpList_addD (by rfl) (.tmp 92) (.tmp 97) (by rfl) (by rfl) (by exact HO8a.out) (by exact HB8a.out.size) y (by rfl) (by have := HWL.out; omega) ?_)
          intro v8 w8 hO8 hb8
          have HO8 := Hid.mk' (show OwnD w8 w5.heap.size v8 (wantD (rks b) n (k + 1)) by rw [HN2.out]; exact hO8)
          have HB8 := Hid.mk' (HB8a.out.trans hb8)
          clear hO8 hb8 HO8a HB8a HY8a g0 g1 g2 g3 g4 g5 g6 HN2 HWL
          go_wp2_with fail
          go_roundw
          case rel => exact ⟨k + 1, by omega, by go_num, HO8, HB8⟩
          case measure => simp [intOf]; omega
        · rw [hdd, if_pos rfl] at HN2
          have HO9 := Hid.mk' (show OwnD x8 w5.heap.size u9 (wantD (rks b) n (k + 1)) by rw [HN2.out]; exact HO8a.out)
          clear hdd HO8a HY8a HN2 HWL
          go_wp2_with fail
          go_roundw
          case rel => exact ⟨k + 1, by omega, by go_num, HO9, HB8a⟩
          case measure => simp [intOf]; omega
      · rw [if_neg q] at hf
        subst hf
        have HN2 := Hid.mk' (show wantD (rks b) n (k + 1) = wantD (rks b) n k ++ [y] by rw [HN.out, HGT.out, if_neg q]; simp)
        have hbx := (Below.refl w6.heap.size w6).alloc (Nat.le_refl _) (.cells #[.int .i64 0, .int .i64 0, .int .i64 0, .int .i64 0, .int .i64 0, .bool false, .slice none 0 0] 34)
        have HB7 := Hid.mk' (show Below w5.heap.size w5 (w6.alloc (.cells #[.int .i64 0, .int .i64 0, .int .i64 0, .int .i64 0, .int .i64 0, .bool false, .slice none 0 0] 34)).drew from (HB6.out.trans (hbx.mono HB6.out.size)).drew)
        have HO7 := Hid.mk' (show OwnD (w6.alloc (.cells #[.int .i64 0, .int .i64 0, .int .i64 0, .int .i64 0, .int .i64 0, .bool false, .slice none 0 0] 34)).drew w5.heap.size u9 (wantD (rks b) n k) from (OwnR.below HO6.out hbx).below (Below.refl _ _).drew)
        have HY7 := Hid.mk' (show RAt (w6.alloc (.cells #[.int .i64 0, .int .i64 0, .int .i64 0, .int .i64 0, .int .i64 0, .bool false, .slice none 0 0] 34)).drew bb (oo + k * 7) y from (HY6.out.below hbx).below (Below.refl _ _).drew)
        clear hbx HN HGT q HO6 HB6 HY6 HOK6
        go_upto_region 12 with fail
        refine wp_region_held_drew (S := fun _ => True) (by kernel_rfl) trivial (fun hS => ?_)
        generalize (w6.alloc (.cells #[.int .i64 0, .int .i64 0, .int .i64 0, .int .i64 0, .int .i64 0, .bool false, .slice none 0 0] 34)).drew = wd at HB7 HO7 HY7 ⊢
        refine wpAnyH_take (i := 0) (v := ?v0_54) rfl (by kernel_rfl) (by kernel_rfl) (by kernel_rfl) (fun _ _ _ h => h) (Or.inl ⟨by rfl, ?hy0_54⟩) (by assumption) ?rest0_54
        case hy0_54 => (intro w hSw; (try dsimp only at hSw); go_simp; try (with_reducible rfl))
        simp only [Act.put, List.getElem_toArray, List.getElem_cons_zero, List.getElem_cons_succ, List.setIfInBounds_toArray, List.set_cons_zero, List.set_cons_succ]
        refine wpAnyH_take (i := 1) (v := ?v1_55) rfl (by kernel_rfl) (by kernel_rfl) (by kernel_rfl) (fun _ _ _ h => h) (Or.inl ⟨by rfl, ?hy1_55⟩) (by assumption) ?rest1_55
        case hy1_55 => (intro w hSw; (try dsimp only at hSw); go_simp; try (with_reducible rfl))
        simp only [Act.put, List.getElem_toArray, List.getElem_cons_zero, List.getElem_cons_succ, List.setIfInBounds_toArray, List.set_cons_zero, List.set_cons_succ]
        refine wpAnyH_take (i := 2) (v := ?v2_56) rfl (by kernel_rfl) (by kernel_rfl) (by kernel_rfl) (fun _ _ _ h => h) (Or.inl ⟨by rfl, ?hy2_56⟩) (by assumption) ?rest2_56
        case hy2_56 => (intro w hSw; (try dsimp only at hSw); go_simp; try (with_reducible rfl))
        simp only [Act.put, List.getElem_toArray, List.getElem_cons_zero, List.getElem_cons_succ, List.setIfInBounds_toArray, List.set_cons_zero, List.set_cons_succ]
        refine wpAnyH_take (i := 3) (v := undef) rfl (by kernel_rfl) (by kernel_rfl) (by kernel_rfl) (fun _ _ _ h => h) (Or.inr ⟨by rfl, rfl⟩) (by assumption) ?_
        simp only [Act.put, List.getElem_toArray, List.getElem_cons_zero, List.getElem_cons_succ, List.setIfInBounds_toArray, List.set_cons_zero, List.set_cons_succ]
        refine wpAnyH_take (i := 4) (v := undef) rfl (by kernel_rfl) (by kernel_rfl) (by kernel_rfl) (fun _ _ _ h => h) (Or.inr ⟨by rfl, rfl⟩) (by assumption) ?_
        simp only [Act.put, List.getElem_toArray, List.getElem_cons_zero, List.getElem_cons_succ, List.setIfInBounds_toArray, List.set_cons_zero, List.set_cons_succ]
        refine wpAnyH_take (i := 5) (v := undef) rfl (by kernel_rfl) (by kernel_rfl) (by kernel_rfl) (fun _ _ _ h => h) (Or.inr ⟨by rfl, rfl⟩) (by assumption) ?_
        simp only [Act.put, List.getElem_toArray, List.getElem_cons_zero, List.getElem_cons_succ, List.setIfInBounds_toArray, List.set_cons_zero, List.set_cons_succ]
        refine wpAnyH_take (i := 6) (v := undef) rfl (by kernel_rfl) (by kernel_rfl) (by kernel_rfl) (fun _ _ _ h => h) (Or.inr ⟨by rfl, rfl⟩) (by assumption) ?_
        simp only [Act.put, List.getElem_toArray, List.getElem_cons_zero, List.getElem_cons_succ, List.setIfInBounds_toArray, List.set_cons_zero, List.set_cons_succ]
        refine wpAnyH_take (i := 7) (v := undef) rfl (by kernel_rfl) (by kernel_rfl) (by kernel_rfl) (fun _ _ _ h => h) (Or.inr ⟨by rfl, rfl⟩) (by assumption) ?_
        simp only [Act.put, List.getElem_toArray, List.getElem_cons_zero, List.getElem_cons_succ, List.setIfInBounds_toArray, List.set_cons_zero, List.set_cons_succ]
        refine wpAnyH_take (i := 8) (v := undef) rfl (by kernel_rfl) (by kernel_rfl) (by kernel_rfl) (fun _ _ _ h => h) (Or.inr ⟨by rfl, rfl⟩) (by assumption) ?_
        simp only [Act.put, List.getElem_toArray, List.getElem_cons_zero, List.getElem_cons_succ, List.setIfInBounds_toArray, List.set_cons_zero, List.set_cons_succ]
        refine wpAnyH_take (i := 9) (v := undef) rfl (by kernel_rfl) (by kernel_rfl) (by kernel_rfl) (fun _ _ _ h => h) (Or.inr ⟨by rfl, rfl⟩) (by assumption) ?_
        simp only [Act.put, List.getElem_toArray, List.getElem_cons_zero, List.getElem_cons_succ, List.setIfInBounds_toArray, List.set_cons_zero, List.set_cons_succ]
        refine wpAnyH_take (i := 10) (v := ?v10_57) rfl (by kernel_rfl) (by kernel_rfl) (by kernel_rfl) (fun _ _ _ h => h) (Or.inl ⟨by rfl, ?hy10_57⟩) (by assumption) ?rest10_57
        case hy10_57 => (intro w hSw; (try dsimp only at hSw); go_simp; try (with_reducible rfl))
        simp only [Act.put, List.getElem_toArray, List.getElem_cons_zero, List.getElem_cons_succ, List.setIfInBounds_toArray, List.set_cons_zero, List.set_cons_succ]
        refine wpAnyH_done (by kernel_rfl) ?_ _
        obtain ⟨g0, g1, g2, g3, g4, g5, g6⟩ := HY7.out
        go_wp2_with (at_builtin; refine wpList_addD (by rfl) (.tmp 92) (.tmp 97) (by rfl) (by rfl) (by exact HO7.out) (by exact HB7.out.size) y (by rfl) (by have := HWL.out; omega) ?_)
        intro v8 w8 hO8 hb8
        have HO8 := Hid.mk' (show OwnD w8 w5.heap.size v8 (wantD (rks b) n (k + 1)) by rw [HN2.out]; exact hO8)
        have HB8 := Hid.mk' (HB7.out.trans hb8)
        clear hO8 hb8 HO7 HB7 HY7 g0 g1 g2 g3 g4 g5 g6 HN2 HWL
        go_wp2_with fail
        go_roundw
        case rel => exact ⟨k + 1, by omega, by go_num, HO8, HB8⟩
        case measure => simp [intOf]; omega
    · obtain rfl : k = n.length := by omega
      obtain ⟨pW, cW, rfl, hWin, _, hWl, hWm⟩ := own_rin (l := wantD (rks b) n n.length) HO.out (fun x hx => (HI1.out.below HBG.out).oks x (wantD_mem hx))
      have hWk := wantD_all (rks b) n
      generalize wantD (rks b) n n.length = Wn at hWin hWl hWk HWL ⊢
      have HWI := Hid.mk' hWin
      have HWK := Hid.mk' hWk
      have HWC := Hid.mk' (Nat.le_trans hWl hWm)
      have HDB := Hid.mk' (HD5.out.below HB.out)
      have HGB := Hid.mk' (HG5.out.below HB.out)
      have HGE := Hid.mk' (show goneK (rks b) (rks n) = G from HGK.out.symm)
      clear hWin hWl hWm hWk HO HB t hk
      rename World => wo
      go_wp2_with fail
      go_loopw [13, 14] (fun c i W => ∃ k : Nat, k ≤ b.length ∧ i = .int .i64 k ∧ c = .int .i64 ((goneK (rks (b.take k)) (rks n)).length : Nat) ∧ Hid (Below wo.heap.size wo W)) (fun _ i _ => b.length - (intOf i).toNat)
      case atStart => exact ⟨0, by omega, rfl, by simp [goneK, rks], Below.refl _ _⟩
      case round =>
        obtain ⟨k, hk, rfl, rfl, HB⟩ := hrel
        have HBX := Hid.mk' (HBG.out.trans (HB.out.mono HBG.out.size))
        have HGX := Hid.mk' (HGB.out.below HB.out)
        have hml := gone_len b (rks n) k
        by_cases t : k < b.length
        · have hki : (k : Int) < (b.length : Int) := by omega
          obtain ⟨bb, oo, hbo, hc⟩ := (HI0.out.below HBX.out).at (by omega)
          obtain ⟨hx, hok⟩ := hc k t
          have HN := Hid.mk' (gone_next b (rks n) k t)
          have HAT := Hid.mk' (gone_at b (rks n) k t)
          subst hbo
          generalize b.getD k zr = y at hx hok HN HAT
          have HGT := Hid.mk' (find_getI y.id n)
          have FD := find_any p1 c1 n y.id wr (HI1.out.below HBX.out) HCM.out.2 (fun x hx => by have := (H1.out.bags x hx).1; omega)
          obtain ⟨np, hnp⟩ : ∃ np, FindPost wr n y.id = np := ⟨_, rfl⟩
          have HNP := Hid.mk' hnp
          rw [hnp] at FD
          have HY := Hid.mk' hx
          obtain ⟨e0, e1, e2, e3, e4, e5, e6⟩ := hx
          obtain ⟨m, hm⟩ : ∃ m, (goneK (rks (b.take k)) (rks n)).length = m := ⟨_, rfl⟩
          have HM := Hid.mk' hm
          rw [hm] at HAT hml ⊢
          clear hnp hc hok HBX hm
          go_wp2_with fail
          refine FD.mono ?_
          clear FD e0 e1 e2 e3 e4 e5 e6
          intro e w6 hfp
          rw [← HNP.out] at hfp
          obtain ⟨hf, hb6⟩ := hfp
          have HB6 := Hid.mk' (HB.out.trans (hb6.mono HB.out.size))
          have HY6 := Hid.mk' (RAt.below HY.out hb6)
          have HG6 := Hid.mk' (HGX.out.below hb6)
          clear hb6 HB HY HNP HGX
          by_cases q : firstP (fun j => j == y.id) n < n.length
          · rw [if_pos q] at hf
            obtain ⟨r', rfl, _, _⟩ := hf
            have hbx := (Below.refl w6.heap.size w6).alloc (Nat.le_refl _) (.cells #[.int .i64 r'.id, .int .i64 r'.inc, .int .i64 r'.st, .int .i64 r'.lo, .int .i64 r'.hi, .bool r'.cut, .slice r'.p r'.bag.length r'.cap] 34)
            have HB7 := Hid.mk' (HB6.out.trans (hbx.mono HB6.out.size))
            have HL := Hid.mk' (show (goneK (rks (b.take (k + 1))) (rks n)).length = m by rw [HN.out, HGT.out, if_pos q, ← HM.out]; simp)
            clear hbx q HN HGT HAT HY6 HG6 HB6
            go_wp2_with fail
            go_roundw
            case rel => exact ⟨k + 1, by omega, by go_num, by rw [HL.out], HB7⟩
            case measure => simp [intOf]; omega
          · rw [if_neg q] at hf
            subst hf
            have hbx := (Below.refl w6.heap.size w6).alloc (Nat.le_refl _) (.cells #[.int .i64 0, .int .i64 0, .int .i64 0, .int .i64 0, .int .i64 0, .bool false, .slice none 0 0] 34)
            have hnone : (getI y.id (rks n)).isNone = true := by rw [HGT.out, if_neg q]; rfl
            obtain ⟨a1, a2⟩ := HAT.out hnone
            have HL := Hid.mk' (show (goneK (rks (b.take (k + 1))) (rks n)).length = m + 1 by rw [HN.out, if_pos hnone, List.length_append, HM.out]; rfl)
            rw [HGE.out] at a1 a2
            have HB7 := Hid.mk' (HB6.out.trans (hbx.mono HB6.out.size))
            obtain ⟨gb, go, hgo, hgc⟩ := (HG6.out.below hbx) (by omega)
            have g0 := hgc m a1
            rw [a2] at g0
            subst hgo
            obtain ⟨e0, e1, e2, e3, e4, e5, e6⟩ := HY6.out.below hbx
            have d1 : decide ((G.length : Int) ≤ (m : Int)) = false := by simp; omega
            have d2 : ¬ (G.length : Int) ≤ (m : Int) := by omega
            have d3 : (y.id != y.id) = false := by simp
            have d4 : (m : Int) < (G.length : Int) := by omega
            clear hbx q HN HGT HAT HB6 hnone a2 hgc e1 e2 e3 e4 e5 e6 HY6 HG6
            go_wp2_with fail
            go_quiet (fail)
            go_wp2_with fail
            go_roundw
            case rel => exact ⟨k + 1, by omega, by go_num, by rw [HL.out]; go_num, bel_drewN HB7.out _⟩
            case measure => simp [intOf]; omega
        · obtain rfl : k = b.length := by omega
          rw [List.take_of_length_le (Nat.le_refl _), HGE.out]
          have AL := allAlike_any pD pW cD cW D Wn wr (HDB.out.below HB.out) (HWI.out.below HB.out) (by simp only [maxLen]; omega) HWC.out
          rw [show decide (rks D = rks Wn) = true by rw [HDK.out, HWK.out]; simp] at AL
          have hWn : Wn.length ≤ 9223372036854775807 := by have := HWC.out; simp only [maxLen] at this; omega
          clear HDB HWI HB HGX HGB
          go_wp2_with fail
          refine AL.mono ?_
          clear AL
          rintro e w7 ⟨rfl, hb7⟩
          have HB7 := Hid.mk' (HBX.out.trans (hb7.mono HBX.out.size))
          clear hb7
          go_wp2_with fail
          refine (AW.out _).mono ?_
          rintro e w8 ⟨rfl, hb8⟩
          have HB8 := Hid.mk' (HB7.out.trans (hb8.mono HB7.out.size))
          clear hb8
          go_wp2_with fail
          go_ret
          exact ⟨rfl, HB8.out⟩
end Go.Proofs.Ytnladolpcocchaa
