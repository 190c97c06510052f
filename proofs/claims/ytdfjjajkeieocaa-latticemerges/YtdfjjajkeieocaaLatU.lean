/-
  Package lattice: belowOne, Under, with slices.IndexFunc and slices.ContainsFunc over the closure.
-/
import Derived.Test.YtdfjjajkeieocaaLaw09
namespace Go.Proofs.Ytdfjjajkeieocaa
open Go.RowKit
set_option linter.unusedSimpArgs false
set_option linter.unusedVariables false
set_option maxRecDepth 10000
set_option synthInstance.maxSize 2000

set_option maxHeartbeats 1600000 in
theorem belowOne1_any (r y : Rc) (bt : Nat) (w : World) (hr : ROk w r) (hy : ROk w y) (hc : Bx w bt r) :
    Calls Try.prog 65 #[.agg #[.int .i64 y.id, .int .i64 y.inc, .int .i64 y.st, .int .i64 y.lo, .int .i64 y.hi, .bool y.cut, .slice y.p y.bag.length y.cap], .pointer (some ⟨bt, 0, none⟩)] w fun e w' => e = .returned (.bool (belK (rk r) (rk y))) ∧ Below w.heap.size w w' := by
  have HI := Hid.mk' (InB.start w y)
  have B := below_any r y _ (hr.below HI.out.below) (hy.below HI.out.below)
  obtain ⟨c0, c1, c2, c3, c4, c5, c6⟩ := hc.cells
  have hlt := hc.lt
  clear hc
  go_enter Try.func65, Try.ntmps65
  go_wp2_with fail
  refine B.mono ?_
  clear B c0 c1 c2 c3 c4 c5 c6
  rintro e w1 ⟨rfl, hb1⟩
  have HB := Hid.mk' (HI.out.on hb1).below
  clear hb1 HI
  go_wp2_with fail
  go_ret
  exact ⟨rfl, HB.out⟩

def anyB (r : RK) (l : List Rc) : Bool := l.any fun y => belK r (rk y)
theorem anyB_next (r : RK) (l : List Rc) (k : Nat) (h : k < l.length) : anyB r (l.take (k + 1)) = (anyB r (l.take k) || belK r (rk (l.getD k zr))) := by
  rw [rtake_next l k h]; simp [anyB]
theorem anyB_hit (r : RK) (l : List Rc) (k : Nat) (h : k < l.length) (hb : belK r (rk (l.getD k zr)) = true) : anyB r l = true := by
  rw [anyB, List.any_eq_true]
  exact ⟨l[k], List.getElem_mem h, by simpa [List.getD, h] using hb⟩

set_option maxHeartbeats 4000000 in
theorem indexB_any (p : Option Addr) (c : Nat) (L : List Rc) (bt : Nat) (r : Rc) (w : World) (hp : RIn w p L) (hn : L.length ≤ maxLen) (hr : ROk w r) (hc : Bx w bt r) :
    Calls Try.prog 71 #[.slice p L.length c, .func (.func 65) #[] #[.pointer (some ⟨bt, 0, none⟩)]] w
      fun e w' => ∃ v : Int, e = .returned (.int .i64 v) ∧ decide (0 ≤ v) = anyB (rk r) L ∧ Below w.heap.size w w' := by
  simp only [maxLen] at hn
  obtain ⟨q, hq⟩ : ∃ q, anyB (rk r) L = q := ⟨_, rfl⟩
  rw [hq]
  have HQ := Hid.mk' hq
  have HR := Hid.mk' hr
  clear hq hr
  go_enter Try.func71, Try.ntmps71
  go_wp2
  go_loopw [8] (fun i W => ∃ k : Nat, k ≤ L.length ∧ i = .int .i64 k ∧ Hid (anyB (rk r) (L.take k) = false) ∧ Below w.heap.size w W) (fun i _ => L.length - (intOf i).toNat)
  case atStart => exact ⟨0, by omega, rfl, Hid.mk' (by simp [anyB]), Below.refl _ _⟩
  case round =>
    obtain ⟨k, hk, rfl, HT, hb⟩ := hrel
    by_cases t : k < L.length
    · obtain ⟨b, o, rfl, hcs⟩ := (hp.below hb).at (by omega)
      obtain ⟨hx, hok⟩ := hcs k t
      have HN := Hid.mk' (anyB_next (rk r) L k t)
      have HH := Hid.mk' (anyB_hit (rk r) L k t)
      generalize L.getD k zr = y at hx hok HN HH
      have N := belowOne1_any r y bt wr (HR.out.below hb) hok (hc.on hb)
      obtain ⟨d, hd⟩ : ∃ d, belK (rk r) (rk y) = d := ⟨_, rfl⟩
      rw [hd] at N HN HH
      obtain ⟨e0, e1, e2, e3, e4, e5, e6⟩ := hx
      have HB := Hid.mk' hb
      clear hcs hb hd hok
      go_wp2_with fail
      refine N.mono ?_
      clear N e0 e1 e2 e3 e4 e5 e6
      rintro e w3 ⟨rfl, hb3⟩
      have HB3 := Hid.mk' (HB.out.trans (hb3.mono HB.out.size))
      clear HB hb3
      cases d
      · have HT2 := Hid.mk' (show anyB (rk r) (L.take (k + 1)) = false by rw [HN.out, HT.out]; rfl)
        clear HT HN HH
        go_wp2_with fail
        go_roundw
        case rel => exact ⟨k + 1, by omega, by go_num, HT2, HB3.out⟩
        case measure => simp [intOf]; omega
      · have HV := Hid.mk' (show q = true by rw [← HQ.out]; exact HH.out rfl)
        clear HT HN HH
        go_wp2_with fail
        try rw [Exit.noGoto_ret]
        go_ret
        exact ⟨k, rfl, by rw [HV.out]; simp, HB3.out⟩
    · obtain rfl : k = L.length := by omega
      rw [List.take_of_length_le (Nat.le_refl _)] at HT
      go_wp2
      go_ret
      exact ⟨-1, rfl, by rw [← HQ.out, HT.out]; rfl, hb⟩

set_option maxHeartbeats 1600000 in
theorem containsB_any (p : Option Addr) (c : Nat) (L : List Rc) (bt : Nat) (r : Rc) (w : World) (hp : RIn w p L) (hn : L.length ≤ maxLen) (hr : ROk w r) (hc : Bx w bt r) :
    Calls Try.prog 64 #[.slice p L.length c, .func (.func 65) #[] #[.pointer (some ⟨bt, 0, none⟩)]] w
      fun e w' => e = .returned (.bool (anyB (rk r) L)) ∧ Below w.heap.size w w' := by
  have N := indexB_any p c L bt r w hp hn hr hc
  clear hp hn hr hc
  generalize anyB (rk r) L = q at N ⊢
  go_enter Try.func64, Try.ntmps64
  go_wp2_with fail
  refine N.mono ?_
  clear N
  rintro e w1 ⟨v, rfl, hv, hb1⟩
  have HV := Hid.mk' hv
  have HB := Hid.mk' hb1
  clear hv hb1
  go_wp2_with fail
  go_ret
  exact ⟨by rw [← HV.out]; rfl, HB.out⟩

set_option maxHeartbeats 1600000 in
theorem belowOne_any (r : Rc) (p : Option Addr) (c : Nat) (L : List Rc) (w : World) (hp : RIn w p L) (hn : L.length ≤ maxLen) (hr : ROk w r) :
    Calls Try.prog 45 #[.agg #[.int .i64 r.id, .int .i64 r.inc, .int .i64 r.st, .int .i64 r.lo, .int .i64 r.hi, .bool r.cut, .slice r.p r.bag.length r.cap], .slice p L.length c] w fun e w' => e = .returned (.bool (anyB (rk r) L)) ∧ Below w.heap.size w w' := by
  have HI := Hid.mk' (InB.start w r)
  have N := containsB_any p c L w.heap.size r _ (hp.below HI.out.below) hn (hr.below HI.out.below) ⟨HI.out.box⟩
  clear hp hn hr
  generalize anyB (rk r) L = q at N ⊢
  go_enter Try.func45, Try.ntmps45
  go_wp2_with fail
  refine N.mono ?_
  clear N
  rintro e w1 ⟨rfl, hb1⟩
  have HB := Hid.mk' (HI.out.on hb1).below
  clear hb1 HI
  go_wp2_with fail
  go_ret
  exact ⟨rfl, HB.out⟩

def underK (x y : List Rc) : Bool := x.all fun r => anyB (rk r) y
theorem underK_next (x y : List Rc) (k : Nat) (h : k < x.length) : underK (x.take (k + 1)) y = (underK (x.take k) y && anyB (rk (x.getD k zr)) y) := by
  rw [rtake_next x k h]; simp [underK]
theorem underK_miss (x y : List Rc) (k : Nat) (h : k < x.length) (hb : anyB (rk (x.getD k zr)) y = false) : underK x y = false := by
  rw [underK, List.all_eq_false]
  exact ⟨x[k], List.getElem_mem h, by simpa [List.getD, h] using hb⟩

set_option maxHeartbeats 4000000 in
theorem under_any (p q : Option Addr) (c d : Nat) (X Y : List Rc) (w : World) (hp : RIn w p X) (hq : RIn w q Y) (hn : X.length ≤ maxLen) (hm : Y.length ≤ maxLen) :
    Calls Try.prog 25 #[.slice p X.length c, .slice q Y.length d] w fun e w' => e = .returned (.bool (underK X Y)) ∧ Below w.heap.size w w' := by
  simp only [maxLen] at hn
  have HM := Hid.mk' hm
  obtain ⟨u, hu⟩ : ∃ u, underK X Y = u := ⟨_, rfl⟩
  rw [hu]
  have HU := Hid.mk' hu
  clear hu hm
  go_enter Try.func25, Try.ntmps25
  go_wp2
  go_loopw [9] (fun i W => ∃ k : Nat, k ≤ X.length ∧ i = .int .i64 k ∧ Hid (underK (X.take k) Y = true) ∧ Below w.heap.size w W) (fun i _ => X.length - (intOf i).toNat)
  case atStart => exact ⟨0, by omega, rfl, Hid.mk' (by simp [underK]), Below.refl _ _⟩
  case round =>
    obtain ⟨k, hk, rfl, HT, hb⟩ := hrel
    by_cases t : k < X.length
    · obtain ⟨b, o, rfl, hcs⟩ := (hp.below hb).at (by omega)
      obtain ⟨hx, hok⟩ := hcs k t
      have HN := Hid.mk' (underK_next X Y k t)
      have HH := Hid.mk' (underK_miss X Y k t)
      generalize X.getD k zr = y at hx hok HN HH
      have hB := (Below.refl wr.heap.size wr).alloc (Nat.le_refl _) (.cells #[.int .i64 y.id, .int .i64 y.inc, .int .i64 y.st, .int .i64 y.lo, .int .i64 y.hi, .bool y.cut, .slice y.p y.bag.length y.cap] 27)
      have N := belowOne_any y q d Y _ ((hq.below hb).below hB) HM.out (hok.below hB)
      obtain ⟨v, hv⟩ : ∃ v, anyB (rk y) Y = v := ⟨_, rfl⟩
      rw [hv] at N HN HH
      obtain ⟨e0, e1, e2, e3, e4, e5, e6⟩ := hx
      have HB := Hid.mk' (hb.trans (hB.mono hb.size))
      clear hcs hb hv hok hB
      go_wp2_with fail
      refine N.mono ?_
      clear N e0 e1 e2 e3 e4 e5 e6
      rintro e w3 ⟨rfl, hb3⟩
      have HB3 := Hid.mk' (HB.out.trans (hb3.mono HB.out.size))
      clear HB hb3
      cases v
      · have HV := Hid.mk' (show u = false by rw [← HU.out]; exact HH.out rfl)
        clear HT HN HH
        go_wp2_with fail
        try rw [Exit.noGoto_ret]
        go_ret
        exact ⟨by rw [HV.out]; rfl, HB3.out⟩
      · have HT2 := Hid.mk' (show underK (X.take (k + 1)) Y = true by rw [HN.out, HT.out]; rfl)
        clear HT HN HH
        go_wp2_with fail
        go_roundw
        case rel => exact ⟨k + 1, by omega, by go_num, HT2, HB3.out⟩
        case measure => simp [intOf]; omega
    · obtain rfl : k = X.length := by omega
      rw [List.take_of_length_le (Nat.le_refl _)] at HT
      go_wp2
      go_ret
      exact ⟨by rw [← HU.out, HT.out]; rfl, hb⟩
end Go.Proofs.Ytdfjjajkeieocaa
