/-
  Package gen1: what fits, a record's mark, the body, Encode and Fits.
-/
import Derived.Test.YtmfkdohfejklhaaDoorGen1B
namespace Go.Proofs.YtmfkdohfejklhaaDoor
open Go.RowKit
set_option linter.unusedSimpArgs false
set_option linter.unusedVariables false
set_option maxRecDepth 10000
set_option synthInstance.maxSize 2000

def tooM (r : RK) : Bool := decide (65535 < r.inc) || decide (0 < r.bag.length)
def anyT (l : List Rc) : Bool := (rks l).any tooM
theorem rest_too (l : List Rc) : restOk (rks l) = !anyT l := by
  unfold restOk anyT
  generalize rks l = k
  induction k with
  | nil => rfl
  | cons r k ih =>
    rw [List.all_cons, List.any_cons, ih, Bool.not_or]
    congr 1
    rw [tooM, Bool.not_or]
    congr 1
    · by_cases h : r.inc ≤ 65535
      · simp [h, show ¬ 65535 < r.inc by omega]
      · simp [h, show 65535 < r.inc by omega]
    · by_cases h : r.bag.length = 0
      · simp [h]
      · simp [h, show 0 < r.bag.length by omega]
theorem anyT_next (l : List Rc) (k : Nat) (h : k < l.length) : anyT (l.take (k + 1)) = (anyT (l.take k) || tooM (rk (l.getD k zr))) := by
  rw [rtake_next l k h]; simp [anyT, rks]
theorem anyT_hit (l : List Rc) (k : Nat) (h : k < l.length) (hb : tooM (rk (l.getD k zr)) = true) : anyT l = true := by
  rw [anyT, List.any_eq_true]
  exact ⟨rk l[k], List.mem_map_of_mem (List.getElem_mem h), by simpa [List.getD, h] using hb⟩

set_option maxHeartbeats 1600000 in
theorem tooMuch_any (r : Rc) (w : World) (hr : ROk w r) : Calls Tryd.prog 33 #[.agg #[.int .i64 r.id, .int .i64 r.inc, .int .i64 r.st, .int .i64 r.lo, .int .i64 r.hi, .bool r.cut, .slice r.p r.bag.length r.cap]] w fun e w' => e = .returned (.bool (tooM (rk r))) ∧ Below w.heap.size w w' := by
  have hlen : r.bag.length ≤ 9223372036854775807 := by have := hr.len; have := hr.cap; simp only [maxLen] at this; omega
  have HM := Hid.mk' (show tooM (rk r) = (decide (65535 < r.inc) || decide (0 < r.bag.length)) by rw [tooM, show (rk r).bag.length = r.bag.length from kys_len _]; rfl)
  have HB := Hid.mk' (InB.start w r).below
  clear hr
  generalize tooM (rk r) = q at HM ⊢
  by_cases t1 : 65535 < r.inc
  · obtain rfl : q = true := by rw [HM.out]; simp [t1]
    go_enter Tryd.func33, Tryd.ntmps33
    go_wp2_with fail
    go_ret
    exact ⟨rfl, HB.out⟩
  by_cases t2 : 0 < r.bag.length
  · obtain rfl : q = true := by rw [HM.out]; simp [t2]
    have t3 : 0 < (r.bag.length : Int) := by omega
    go_enter Tryd.func33, Tryd.ntmps33
    go_wp2_with fail
    go_ret
    exact ⟨rfl, HB.out⟩
  · obtain rfl : q = false := by rw [HM.out]; simp [t2]; omega
    have t3 : ¬ 0 < (r.bag.length : Int) := by omega
    go_enter Tryd.func33, Tryd.ntmps33
    go_wp2_with fail
    go_ret
    exact ⟨rfl, HB.out⟩

set_option maxHeartbeats 4000000 in
theorem indexT_any (p : Option Addr) (c : Nat) (L : List Rc) (w : World) (hp : RIn w p L) (hn : L.length ≤ maxLen) :
    Calls Tryd.prog 52 #[.slice p L.length c, .func (.func 33) #[] #[]] w
      fun e w' => ∃ v : Int, e = .returned (.int .i64 v) ∧ decide (0 ≤ v) = anyT L ∧ Below w.heap.size w w' := by
  simp only [maxLen] at hn
  obtain ⟨q, hq⟩ : ∃ q, anyT L = q := ⟨_, rfl⟩
  rw [hq]
  have HQ := Hid.mk' hq
  clear hq
  go_enter Tryd.func52, Tryd.ntmps52
  go_wp2
  go_loopw [8] (fun i W => ∃ k : Nat, k ≤ L.length ∧ i = .int .i64 k ∧ Hid (anyT (L.take k) = false) ∧ Below w.heap.size w W) (fun i _ => L.length - (intOf i).toNat)
  case atStart => exact ⟨0, by omega, rfl, Hid.mk' (by simp [anyT, rks]), Below.refl _ _⟩
  case round =>
    obtain ⟨k, hk, rfl, HT, hb⟩ := hrel
    by_cases t : k < L.length
    · obtain ⟨b, o, rfl, hcs⟩ := (hp.below hb).at (by omega)
      obtain ⟨hx, hok⟩ := hcs k t
      have HN := Hid.mk' (anyT_next L k t)
      have HH := Hid.mk' (anyT_hit L k t)
      generalize L.getD k zr = y at hx hok HN HH
      have N := tooMuch_any y wr hok
      obtain ⟨d, hd⟩ : ∃ d, tooM (rk y) = d := ⟨_, rfl⟩
      rw [hd] at N HN HH
      obtain ⟨e0, e1, e2, e3, e4, e5, e6⟩ := hx
      have HB := Hid.mk' hb
      clear hcs hb hd hok
      go_wp2_with fail
      refine N.mono ?_
      clear N e0 e1 e2 e3 e4 e5 e6
      rintro e w3 ⟨rfl, hb3⟩
      have HB3 := Hid.mk' (HB.out.trans (hb3.mono HB.out.size))
      clear HB hb3
      cases d
      · have HT2 := Hid.mk' (show anyT (L.take (k + 1)) = false by rw [HN.out, HT.out]; rfl)
        clear HT HN HH
        go_wp2_with fail
        go_roundw
        case rel => exact ⟨k + 1, by omega, by go_num, HT2, HB3.out⟩
        case measure => simp [intOf]; omega
      · have HV := Hid.mk' (show q = true by rw [← HQ.out]; exact HH.out rfl)
        clear HT HN HH
        go_wp2_with fail
        try rw [Exit.noGoto_ret]
        go_ret
        exact ⟨k, rfl, by rw [HV.out]; simp, HB3.out⟩
    · obtain rfl : k = L.length := by omega
      rw [List.take_of_length_le (Nat.le_refl _)] at HT
      go_wp2
      go_ret
      exact ⟨-1, rfl, by rw [← HQ.out, HT.out]; rfl, hb⟩

set_option maxHeartbeats 1600000 in
theorem containsT_any (p : Option Addr) (c : Nat) (L : List Rc) (w : World) (hp : RIn w p L) (hn : L.length ≤ maxLen) :
    Calls Tryd.prog 32 #[.slice p L.length c, .func (.func 33) #[] #[]] w
      fun e w' => e = .returned (.bool (anyT L)) ∧ Below w.heap.size w w' := by
  have N := indexT_any p c L w hp hn
  clear hp hn
  generalize anyT L = q at N ⊢
  go_enter Tryd.func32, Tryd.ntmps32
  go_wp2_with fail
  refine N.mono ?_
  clear N
  rintro e w1 ⟨v, rfl, hv, hb1⟩
  have HV := Hid.mk' hv
  have HB := Hid.mk' hb1
  clear hv hb1
  go_wp2_with fail
  go_ret
  exact ⟨by rw [← HV.out]; rfl, HB.out⟩

/-- Has the generation a place for all that it says? -/
def roomM (m : Mg) : Bool := !(decide (m.kind = 9)) && decide (m.life = 0) && decide (m.epoch = 0) && decide (m.base = 0) && !anyT m.recs
theorem fit1_room (m : Mg) : fit1 m = (mayM m && roomM m) := by
  unfold fit1 roomM
  rw [rest_too]
  simp only [Bool.and_assoc]

set_option maxHeartbeats 4000000 in
theorem room_any (m : Mg) (w : World) (hm : MOk w m) :
    Calls Tryd.prog 18 #[.agg #[.int .i64 m.kind, .int .i64 m.frm, .int .i64 m.inc, .int .i64 m.lo, .int .i64 m.hi, .int .i64 m.seq, .int .i64 m.tgt, .int .i64 m.life, .int .i64 m.epoch, .int .i64 m.base, .slice m.p m.recs.length m.cap]] w fun e w' => e = .returned (.bool (roomM m)) ∧ Below w.heap.size w w' := by
  have HM := Hid.mk' (show roomM m = (!(decide (m.kind = 9)) && decide (m.life = 0) && decide (m.epoch = 0) && decide (m.base = 0) && !anyT m.recs) from rfl)
  have HI := Hid.mk' (InM.start w m)
  have C := containsT_any m.p m.cap m.recs (w.alloc (.cells #[.int .i64 m.kind, .int .i64 m.frm, .int .i64 m.inc, .int .i64 m.lo, .int .i64 m.hi, .int .i64 m.seq, .int .i64 m.tgt, .int .i64 m.life, .int .i64 m.epoch, .int .i64 m.base, .slice m.p m.recs.length m.cap] 26)) (hm.rin.below HI.out.below) hm.lenM
  have q0 : (m.kind != 9) = !decide (m.kind = 9) := rfl
  have q1 : (m.life == 0) = decide (m.life = 0) := rfl
  have q2 : (m.epoch == 0) = decide (m.epoch = 0) := rfl
  have q3 : (m.base == 0) = decide (m.base = 0) := rfl
  generalize roomM m = q at HM ⊢
  generalize decide (m.kind = 9) = b1 at HM q0
  generalize decide (m.life = 0) = b2 at HM q1
  generalize decide (m.epoch = 0) = b3 at HM q2
  generalize decide (m.base = 0) = b4 at HM q3
  generalize anyT m.recs = b5 at HM C
  clear hm
  cases b1
  case true =>
    go_enter Tryd.func18, Tryd.ntmps18
    go_wp2_with fail
    go_ret
    exact ⟨by rw [HM.out]; simp, HI.out.below⟩
  cases b2
  · go_enter Tryd.func18, Tryd.ntmps18
    go_wp2_with fail
    go_ret
    exact ⟨by rw [HM.out]; simp, HI.out.below⟩
  cases b3
  · go_enter Tryd.func18, Tryd.ntmps18
    go_wp2_with fail
    go_ret
    exact ⟨by rw [HM.out]; simp, HI.out.below⟩
  cases b4
  · go_enter Tryd.func18, Tryd.ntmps18
    go_wp2_with fail
    go_ret
    exact ⟨by rw [HM.out]; simp, HI.out.below⟩
  go_enter Tryd.func18, Tryd.ntmps18
  go_wp2_with fail
  refine C.mono ?_
  rintro e w1 ⟨rfl, hb1⟩
  have HI1 := Hid.mk' (HI.out.on hb1)
  clear hb1 HI C
  go_wp2_with fail
  go_ret
  exact ⟨by rw [HM.out]; cases b5 <;> rfl, HI1.out.below⟩

set_option maxHeartbeats 1600000 in
theorem mark_any (r : Rc) (w : World) (h1 : 0 ≤ r.st ∧ r.st ≤ 3) (h2 : 0 ≤ r.lo ∧ r.lo ≤ 3) (h3 : 0 ≤ r.hi ∧ r.hi ≤ 3) :
    Calls Tryd.prog 37 #[.agg #[.int .i64 r.id, .int .i64 r.inc, .int .i64 r.st, .int .i64 r.lo, .int .i64 r.hi, .bool r.cut, .slice r.p r.bag.length r.cap]] w fun e w' => e = .returned (.int .i64 (lastB (rk r))) ∧ Below w.heap.size w w' := by
  have HV := Hid.mk' (show lastB (rk r) = r.st + 4 * r.lo + 16 * r.hi + (if r.cut = true then 64 else 0) from rfl)
  have HB := Hid.mk' (InB.start w r).below
  generalize lastB (rk r) = z at HV ⊢
  obtain ⟨id, inc, st, lo, hi, cut, p, cap, bag⟩ := r
  dsimp only at HV HB h1 h2 h3 ⊢
  obtain ⟨a1, a2⟩ := h1
  obtain ⟨a3, a4⟩ := h2
  obtain ⟨a5, a6⟩ := h3
  cases cut
  · obtain rfl : z = st + 4 * lo + 16 * hi := by rw [HV.out]; simp
    clear HV
    go_enter Tryd.func37, Tryd.ntmps37
    go_wp2_with fail
    go_ret
    exact ⟨rfl, HB.out⟩
  · obtain rfl : z = st + 4 * lo + 16 * hi + 64 := by rw [HV.out]; simp
    clear HV
    go_enter Tryd.func37, Tryd.ntmps37
    go_wp2_with fail
    go_ret
    exact ⟨rfl, HB.out⟩

theorem lt1 {v : Int} (h : v ≤ 255) : v < 256 ^ 1 := by simp; omega
theorem lt2 {v : Int} (h : v ≤ 65535) : v < 256 ^ 2 := by simp; omega
theorem lt6 {v : Int} (h : v ≤ 281474976710655) : v < 256 ^ 6 := by simp; omega

/-- A writer beside a block r that it does not own. -/
def WrN (w : World) (B b r : Nat) (l : List Int) : Prop := ∃ g, Wr w b g l false ∧ B ≤ b ∧ (∀ k, g = some k → B ≤ k) ∧ g ≠ some r ∧ r ≠ b ∧ r < w.heap.size
theorem WrN.of {w : World} {B b : Nat} {l : List Int} (h : WrB w B b l false) (o : Obj) : WrN (w.alloc o) B b w.heap.size l := by
  obtain ⟨g, h1, h2, h3⟩ := h
  have hl := h1.lt
  refine ⟨g, h1.below ((Below.refl _ _).alloc (Nat.le_refl _) _), h2, h3, fun q => ?_, by omega, by simp⟩
  have := hl.2 _ q
  omega
theorem WrN.b {w : World} {B b r : Nat} {l : List Int} (h : WrN w B b r l) : WrB w B b l false := by
  obtain ⟨g, h1, h2, h3, _⟩ := h
  exact ⟨g, h1, h2, h3⟩
theorem WrN.below {w w' : World} {B b r : Nat} {l : List Int} (h : WrN w B b r l) (k : Below w.heap.size w w') : WrN w' B b r l := by
  obtain ⟨g, h1, h2, h3, h4, h5, h6⟩ := h
  exact ⟨g, h1.below k, h2, h3, h4, h5, Nat.lt_of_lt_of_le h6 k.size⟩
theorem numN (B b r : Nat) (l : List Int) (n : Nat) (v : Int) (w : World) (h : WrN w B b r l) (h1 : 1 ≤ n) (h7 : n ≤ 7) (hv : 0 ≤ v) (hv2 : v < 256 ^ n) (hv3 : v ≤ 9223372036854775807) (hlen : l.length + 7 ≤ 140737488355328) :
    Calls Tryd.prog 35 #[.pointer (some ⟨b, 0, none⟩), .int .i64 n, .int .i64 v] w fun e w' => e = .returned (.pointer (some ⟨b, 0, none⟩)) ∧ WrN w' B b r (l ++ digB n v) ∧ Below B w w' ∧ w'.heap[r]? = w.heap[r]? := by
  obtain ⟨g, h, q1, q2, q3, q4, q5⟩ := h
  have hlt := h.lt
  refine (numW_ok b g l n v w h h1 h7 hv hv2 hv3 hlen).mono ?_
  rintro e w' ⟨rfl, g', h3, h4, h5⟩
  obtain ⟨⟨g2, k1, k2, k3⟩, kb⟩ := WrB.next q1 q2 hlt.1 h3 h4 h5
  refine ⟨rfl, ⟨g', h3, q1, fun k hk => ?_, ?_, q4, Nat.lt_of_lt_of_le q5 kb.size⟩, kb, h5.block r q5 (fun q => ?_)⟩
  · rcases h4 with e | e | ⟨i, e, hi⟩
    · exact q2 k (e ▸ hk)
    · rw [e] at hk; cases hk
    · rw [e] at hk; cases hk; omega
  · rcases h4 with e | e | ⟨i, e, hi⟩
    · rw [e]; exact q3
    · rw [e]; simp
    · rw [e]; intro q; cases q; omega
  · rcases q with q | q
    · exact q4 q
    · exact q3 q

theorem writeX (w : World) (B : Nat) (hB : B = w.heap.size) : Calls Tryd.prog 34 #[] w fun e w' => ∃ b, e = .returned (.pointer (some ⟨b, 0, none⟩)) ∧ Hid (WrB w' B b [] false) ∧ Below B w w' := by
  subst hB
  refine (writeB w).mono ?_
  rintro e w' ⟨rfl, h1, h2⟩
  exact ⟨_, rfl, h1, h2⟩
theorem bytesX (B b : Nat) (l : List Int) (w : World) (h : WrB w B b l false) (hlen : l.length ≤ 100000) :
    Calls Tryd.prog 38 #[.pointer (some ⟨b, 0, none⟩)] w fun e w' => ∃ g, e = .returned (.tuple #[.slice (some ⟨g, 0, none⟩) l.length l.length, .bool true]) ∧ BIn w' (some ⟨g, 0, none⟩) l ∧ Below w.heap.size w w' := by
  refine (bytesB B b l w h (by omega)).mono ?_
  rintro e w' ⟨rfl, h1, h2⟩
  exact ⟨_, rfl, h1, h2⟩

theorem InM.five {w X : World} {m : Mg} (h : InM w m X) : X.cell? ⟨w.heap.size, 0, none⟩ = some (.int .i64 m.kind) ∧ X.cell? ⟨w.heap.size, 1, none⟩ = some (.int .i64 m.frm) ∧ X.cell? ⟨w.heap.size, 2, none⟩ = some (.int .i64 m.inc) ∧ X.cell? ⟨w.heap.size, 3, none⟩ = some (.int .i64 m.lo) ∧ X.cell? ⟨w.heap.size, 4, none⟩ = some (.int .i64 m.hi) ∧ Hid (InM w m X) := by
  obtain ⟨c0, c1, c2, c3, c4, _⟩ := mbox_cells h.box
  exact ⟨c0, c1, c2, c3, c4, h⟩
theorem InM.three {w X : World} {m : Mg} (h : InM w m X) : X.cell? ⟨w.heap.size, 5, none⟩ = some (.int .i64 m.seq) ∧ X.cell? ⟨w.heap.size, 6, none⟩ = some (.int .i64 m.tgt) ∧ X.cell? ⟨w.heap.size, 10, none⟩ = some (.slice m.p m.recs.length m.cap) ∧ Hid (InM w m X) := by
  obtain ⟨c0, c1, c2, c3, c4, c5, c6, c7, c8, c9, c10⟩ := mbox_cells h.box
  exact ⟨c5, c6, c10, h⟩
theorem rec_seven {X : World} {g : Nat} {r : Rc} (h : X.heap[g]? = some (.cells #[.int .i64 r.id, .int .i64 r.inc, .int .i64 r.st, .int .i64 r.lo, .int .i64 r.hi, .bool r.cut, .slice r.p r.bag.length r.cap] 43 (0, 0))) : X.cell? ⟨g, 0, none⟩ = some (.int .i64 r.id) ∧ X.cell? ⟨g, 1, none⟩ = some (.int .i64 r.inc) ∧ X.cell? ⟨g, 2, none⟩ = some (.int .i64 r.st) ∧ X.cell? ⟨g, 3, none⟩ = some (.int .i64 r.lo) ∧ X.cell? ⟨g, 4, none⟩ = some (.int .i64 r.hi) ∧ X.cell? ⟨g, 5, none⟩ = some (.bool r.cut) ∧ X.cell? ⟨g, 6, none⟩ = some (.slice r.p r.bag.length r.cap) := by
  obtain ⟨c0, c1, c2, c3, c4, c5, c6⟩ := box_cells h
  exact ⟨c0, c1, c2, c3, c4, c5, c6⟩
end Go.Proofs.YtmfkdohfejklhaaDoor
