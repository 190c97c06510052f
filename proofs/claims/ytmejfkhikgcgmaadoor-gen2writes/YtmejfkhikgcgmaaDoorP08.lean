/-
  Package gen2: what fits; Fits, Size.
  Package tlv: Join, Num, Value.
  Package gen2: a record's mark, a record's items.
  Package gen2: the items ahead of the records.
  Package gen2: a body; Encode.
  Package gen2: what bytes say; Decode; what is wanted of the program's functions.
  Package gen2: Decode; what is wanted of the program's functions.
-/
import Derived.Test.YtmejfkhikgcgmaaDoorP07
import Derived.Deep.RegionHeld3
import Derived.RegionCalls
namespace Go.Proofs.YtmejfkhikgcgmaaDoor
open Go.RowKit
set_option linter.unusedSimpArgs false
set_option linter.unusedVariables false
set_option maxRecDepth 10000
set_option synthInstance.maxSize 2000

/-- Is an incarnation too great? -/
def tooL (r : RK) : Bool := decide (4294967295 < r.inc)
def anyL (l : List Rc) : Bool := (rks l).any tooL
theorem inc_too (l : List Rc) : incOk (rks l) = !anyL l := by
  unfold incOk anyL
  generalize rks l = k
  induction k with
  | nil => rfl
  | cons r k ih =>
    rw [List.all_cons, List.any_cons, ih, Bool.not_or]
    congr 1
    rw [tooL]
    by_cases h : r.inc ≤ 4294967295
    · simp [h, show ¬ 4294967295 < r.inc by omega]
    · simp [h, show 4294967295 < r.inc by omega]
theorem anyL_next (l : List Rc) (k : Nat) (h : k < l.length) : anyL (l.take (k + 1)) = (anyL (l.take k) || tooL (rk (l.getD k zr))) := by
  rw [rtake_next l k h]; simp [anyL, rks]
theorem anyL_hit (l : List Rc) (k : Nat) (h : k < l.length) (hb : tooL (rk (l.getD k zr)) = true) : anyL l = true := by
  rw [anyL, List.any_eq_true]
  exact ⟨rk l[k], List.mem_map_of_mem (List.getElem_mem h), by simpa [List.getD, h] using hb⟩

set_option maxHeartbeats 1600000 in
theorem tooLate_any (r : Rc) (w : World) : Calls Tryd.prog 35 #[.agg #[.int .i64 r.id, .int .i64 r.inc, .int .i64 r.st, .int .i64 r.lo, .int .i64 r.hi, .bool r.cut, .slice r.p r.bag.length r.cap]] w fun e w' => e = .returned (.bool (tooL (rk r))) ∧ Below w.heap.size w w' := by
  have HM := Hid.mk' (show tooL (rk r) = decide (4294967295 < r.inc) from rfl)
  have HB := Hid.mk' (InB.start w r).below
  generalize tooL (rk r) = q at HM ⊢
  go_enter Tryd.func35, Tryd.ntmps35
  go_wp2_with fail
  go_ret
  exact ⟨by rw [HM.out]; rfl, HB.out⟩

set_option maxHeartbeats 4000000 in
theorem indexL_any (p : Option Addr) (c : Nat) (L : List Rc) (w : World) (hp : RIn w p L) (hn : L.length ≤ maxLen) :
    Calls Tryd.prog 52 #[.slice p L.length c, .func (.func 35) #[] #[]] w
      fun e w' => ∃ v : Int, e = .returned (.int .i64 v) ∧ decide (0 ≤ v) = anyL L ∧ Below w.heap.size w w' := by
  simp only [maxLen] at hn
  obtain ⟨q, hq⟩ : ∃ q, anyL L = q := ⟨_, rfl⟩
  rw [hq]
  have HQ := Hid.mk' hq
  clear hq
  go_enter Tryd.func52, Tryd.ntmps52
  go_wp2
  go_loopw [8] (fun i W => ∃ k : Nat, k ≤ L.length ∧ i = .int .i64 k ∧ Hid (anyL (L.take k) = false) ∧ Below w.heap.size w W) (fun i _ => L.length - (intOf i).toNat)
  case atStart => exact ⟨0, by omega, rfl, Hid.mk' (by simp [anyL, rks]), Below.refl _ _⟩
  case round =>
    obtain ⟨k, hk, rfl, HT, hb⟩ := hrel
    by_cases t : k < L.length
    · obtain ⟨b, o, rfl, hcs⟩ := (hp.below hb).at (by omega)
      obtain ⟨hx, hok⟩ := hcs k t
      have HN := Hid.mk' (anyL_next L k t)
      have HH := Hid.mk' (anyL_hit L k t)
      generalize L.getD k zr = y at hx hok HN HH
      have N := tooLate_any y wr
      obtain ⟨d, hd⟩ : ∃ d, tooL (rk y) = d := ⟨_, rfl⟩
      rw [hd] at N HN HH
      obtain ⟨e0, e1, e2, e3, e4, e5, e6⟩ := hx
      have HB := Hid.mk' hb
      clear hcs hb hd hok
      go_wp2_with fail
      refine N.mono ?_
      clear N e0 e1 e2 e3 e4 e5 e6
      rintro e w3 ⟨rfl, hb3⟩
      have HB3 := Hid.mk' (HB.out.trans (hb3.mono HB.out.size))
      clear HB hb3
      cases d
      · have HT2 := Hid.mk' (show anyL (L.take (k + 1)) = false by rw [HN.out, HT.out]; rfl)
        clear HT HN HH
        go_wp2_with fail
        go_roundw
        case rel => exact ⟨k + 1, by omega, by go_num, HT2, HB3.out⟩
        case measure => simp [intOf]; omega
      · have HV := Hid.mk' (show q = true by rw [← HQ.out]; exact HH.out rfl)
        clear HT HN HH
        go_wp2_with fail
        try rw [Exit.noGoto_ret]
        go_ret
        exact ⟨k, rfl, by rw [HV.out]; simp, HB3.out⟩
    · obtain rfl : k = L.length := by omega
      rw [List.take_of_length_le (Nat.le_refl _)] at HT
      go_wp2
      go_ret
      exact ⟨-1, rfl, by rw [← HQ.out, HT.out]; rfl, hb⟩

set_option maxHeartbeats 1600000 in
theorem containsL_any (p : Option Addr) (c : Nat) (L : List Rc) (w : World) (hp : RIn w p L) (hn : L.length ≤ maxLen) :
    Calls Tryd.prog 34 #[.slice p L.length c, .func (.func 35) #[] #[]] w
      fun e w' => e = .returned (.bool (anyL L)) ∧ Below w.heap.size w w' := by
  have N := indexL_any p c L w hp hn
  clear hp hn
  generalize anyL L = q at N ⊢
  go_enter Tryd.func34, Tryd.ntmps34
  go_wp2_with fail
  refine N.mono ?_
  clear N
  rintro e w1 ⟨v, rfl, hv, hb1⟩
  have HV := Hid.mk' hv
  have HB := Hid.mk' hb1
  clear hv hb1
  go_wp2_with fail
  go_ret
  exact ⟨by rw [← HV.out]; rfl, HB.out⟩

/-- Has the generation a place for all that it says? -/
def roomM2 (m : Mg) : Bool := !(decide (m.kind = 9)) && decide (m.life = 0) && decide (m.epoch = 0) && decide (m.base = 0) && !anyL m.recs && decide ((body2 (mv m)).length ≤ 65499)
theorem fit2_room (m : Mg) : fit2 m = (mayM m && roomM2 m) := by
  unfold fit2 roomM2
  rw [inc_too]
  simp only [Bool.and_assoc]

set_option maxHeartbeats 4000000 in
theorem groom_any (m : Mg) (w : World) (hm : MOk w m) (hmay : mayM m = true) (hz : ∀ x ∈ m.recs, szK (kys x.bag) ≤ 4611686018427387904) (hK : Kd w) :
    Calls Tryd.prog 19 #[.agg #[.int .i64 m.kind, .int .i64 m.frm, .int .i64 m.inc, .int .i64 m.lo, .int .i64 m.hi, .int .i64 m.seq, .int .i64 m.tgt, .int .i64 m.life, .int .i64 m.epoch, .int .i64 m.base, .slice m.p m.recs.length m.cap]] w fun e w' => e = .returned (.bool (roomM2 m)) ∧ Below w.heap.size w w' := by
  have HM := Hid.mk' (show roomM2 m = (!(decide (m.kind = 9)) && decide (m.life = 0) && decide (m.epoch = 0) && decide (m.base = 0) && !anyL m.recs && decide ((body2 (mv m)).length ≤ 65499)) from rfl)
  have HI := Hid.mk' (InM.start w m)
  have C := containsL_any m.p m.cap m.recs (w.alloc (.cells #[.int .i64 m.kind, .int .i64 m.frm, .int .i64 m.inc, .int .i64 m.lo, .int .i64 m.hi, .int .i64 m.seq, .int .i64 m.tgt, .int .i64 m.life, .int .i64 m.epoch, .int .i64 m.base, .slice m.p m.recs.length m.cap] 26)) (hm.rin.below HI.out.below) hm.lenM
  have Z := Hid.mk' (fun X (h : InM w m X) => gsize_any m X (hm.below h.below) hmay hz (hK.below h.below))
  have q0 : (m.kind != 9) = !decide (m.kind = 9) := rfl
  have q1 : (m.life == 0) = decide (m.life = 0) := rfl
  have q2 : (m.epoch == 0) = decide (m.epoch = 0) := rfl
  have q3 : (m.base == 0) = decide (m.base = 0) := rfl
  generalize roomM2 m = q at HM ⊢
  generalize decide (m.kind = 9) = b1 at HM q0
  generalize decide (m.life = 0) = b2 at HM q1
  generalize decide (m.epoch = 0) = b3 at HM q2
  generalize decide (m.base = 0) = b4 at HM q3
  generalize anyL m.recs = b5 at HM C
  generalize (body2 (mv m)).length = L at HM Z
  clear hm hmay hz hK
  cases b1
  case true =>
    go_enter Tryd.func19, Tryd.ntmps19
    go_wp2_with fail
    go_ret
    exact ⟨by rw [HM.out]; simp, HI.out.below⟩
  cases b2
  · go_enter Tryd.func19, Tryd.ntmps19
    go_wp2_with fail
    go_ret
    exact ⟨by rw [HM.out]; simp, HI.out.below⟩
  cases b3
  · go_enter Tryd.func19, Tryd.ntmps19
    go_wp2_with fail
    go_ret
    exact ⟨by rw [HM.out]; simp, HI.out.below⟩
  cases b4
  · go_enter Tryd.func19, Tryd.ntmps19
    go_wp2_with fail
    go_ret
    exact ⟨by rw [HM.out]; simp, HI.out.below⟩
  obtain ⟨dd, hdd⟩ : ∃ dd, decide ((L : Int) ≤ 65499) = dd := ⟨_, rfl⟩
  have HD := Hid.mk' (show decide (L ≤ 65499) = dd by rw [← hdd]; exact decide_eq_decide.2 (by omega))
  go_enter Tryd.func19, Tryd.ntmps19
  go_wp2_with fail
  refine C.mono ?_
  rintro e w1 ⟨rfl, hb1⟩
  have HI1 := Hid.mk' (HI.out.on hb1)
  clear hb1 HI C
  cases b5
  case true =>
    go_wp2_with fail
    go_ret
    exact ⟨by rw [HM.out]; simp, HI1.out.below⟩
  obtain ⟨c0, c1, c2, c3, c4, c5, c6, c7, c8, c9, c10⟩ := mbox_cells HI1.out.box
  go_wp2_with fail
  refine (Z.out _ HI1.out).mono ?_
  clear c0 c1 c2 c3 c4 c5 c6 c7 c8 c9 c10 Z
  rintro e w2 ⟨rfl, hb2⟩
  have HI2 := Hid.mk' (HI1.out.on hb2)
  clear hb2 HI1
  go_wp2_with fail
  go_ret
  exact ⟨by rw [HM.out, HD.out]; simp, HI2.out.below⟩

set_option maxHeartbeats 4000000 in
theorem gfits2_any (m : Mg) (w : World) (hm : MOk w m) (hz : ∀ x ∈ m.recs, szK (kys x.bag) ≤ 4611686018427387904) (hK : Kd w) :
    Calls Tryd.prog 10 #[.agg #[.int .i64 m.kind, .int .i64 m.frm, .int .i64 m.inc, .int .i64 m.lo, .int .i64 m.hi, .int .i64 m.seq, .int .i64 m.tgt, .int .i64 m.life, .int .i64 m.epoch, .int .i64 m.base, .slice m.p m.recs.length m.cap]] w fun e w' => e = .returned (.bool (fit2 m)) ∧ Below w.heap.size w w' := by
  have HI := Hid.mk' (InM.start w m)
  have V := fun X (h : InM w m X) => mvalid_any m X (hm.below h.below) hz (hK.below h.below)
  have R := Hid.mk' (fun (hy : mayM m = true) X (h : InM w m X) => groom_any m X (hm.below h.below) hy hz (hK.below h.below))
  have HF := Hid.mk' (fit2_room m)
  generalize fit2 m = f at HF ⊢
  generalize mayM m = v at V HF R
  generalize roomM2 m = q at R HF
  clear hK hz hm
  go_enter Tryd.func10, Tryd.ntmps10
  go_wp2_with fail
  refine (V _ HI.out).mono ?_
  rintro e w1 ⟨rfl, hb1⟩
  have HI1 := Hid.mk' (HI.out.on hb1)
  clear hb1 HI V
  cases v
  · go_wp2_with fail
    go_ret
    exact ⟨by rw [HF.out]; rfl, HI1.out.below⟩
  obtain ⟨c0, c1, c2, c3, c4, c5, c6, c7, c8, c9, c10⟩ := mbox_cells HI1.out.box
  go_wp2_with fail
  refine (R.out trivial _ HI1.out).mono ?_
  clear c0 c1 c2 c3 c4 c5 c6 c7 c8 c9 c10
  rintro e w2 ⟨rfl, hb2⟩
  have HI2 := Hid.mk' (HI1.out.on hb2)
  clear hb2 HI1 R
  go_wp2_with fail
  go_ret
  exact ⟨by rw [HF.out]; rfl, HI2.out.below⟩

set_option maxHeartbeats 4000000 in
theorem gSize_any (m : Mg) (w : World) (hm : MOk w m) (hz : ∀ x ∈ m.recs, szK (kys x.bag) ≤ 4611686018427387904) (hK : Kd w) :
    Calls Tryd.prog 13 #[.agg #[.int .i64 m.kind, .int .i64 m.frm, .int .i64 m.inc, .int .i64 m.lo, .int .i64 m.hi, .int .i64 m.seq, .int .i64 m.tgt, .int .i64 m.life, .int .i64 m.epoch, .int .i64 m.base, .slice m.p m.recs.length m.cap]] w fun e w' => e = .returned (.int .i64 (size2 m)) ∧ Below w.heap.size w w' := by
  have HI := Hid.mk' (InM.start w m)
  have V := fun X (h : InM w m X) => mvalid_any m X (hm.below h.below) hz (hK.below h.below)
  have R := Hid.mk' (fun (hy : mayM m = true) X (h : InM w m X) => gsize_any m X (hm.below h.below) hy hz (hK.below h.below))
  have HF := Hid.mk' (show size2 m = if mayM m = true then ((body2 (mv m)).length : Int) else 0 from rfl)
  generalize size2 m = f at HF ⊢
  generalize mayM m = v at V HF R
  generalize (body2 (mv m)).length = q at R HF
  clear hK hz hm
  go_enter Tryd.func13, Tryd.ntmps13
  go_wp2_with fail
  refine (V _ HI.out).mono ?_
  rintro e w1 ⟨rfl, hb1⟩
  have HI1 := Hid.mk' (HI.out.on hb1)
  clear hb1 HI V
  cases v
  · go_wp2_with fail
    go_ret
    exact ⟨by rw [HF.out]; rfl, HI1.out.below⟩
  obtain ⟨c0, c1, c2, c3, c4, c5, c6, c7, c8, c9, c10⟩ := mbox_cells HI1.out.box
  go_wp2_with fail
  refine (R.out trivial _ HI1.out).mono ?_
  clear c0 c1 c2 c3 c4 c5 c6 c7 c8 c9 c10
  rintro e w2 ⟨rfl, hb2⟩
  have HI2 := Hid.mk' (HI1.out.on hb2)
  clear hb2 HI1 R
  go_wp2_with fail
  go_ret
  exact ⟨by rw [HF.out]; rfl, HI2.out.below⟩
end Go.Proofs.YtmejfkhikgcgmaaDoor
namespace Go.Proofs.YtmejfkhikgcgmaaDoor
open Go.RowKit
set_option linter.unusedSimpArgs false
set_option linter.unusedVariables false
set_option maxRecDepth 10000

/-- What Join comes to. -/
def JoinP (B : Nat) (L : List Key) (e : Ending) (w' : World) : Prop :=
  (fltL L = 0 ∧ ∃ g, e = .returned (.tuple #[.slice (some ⟨g, 0, none⟩) (joinK L).length (joinK L).length, .int .i64 0]) ∧ BIn w' (some ⟨g, 0, none⟩) (joinK L) ∧ B ≤ g) ∨
  (fltL L ≠ 0 ∧ e = .returned (.tuple #[.slice none 0 0, .int .i64 (fltL L)]))

theorem joinK_next (l : List Fd) (k : Nat) (h : k < l.length) : joinK (kys (l.take (k + 1))) = joinK (kys (l.take k)) ++ encK (ky (l.getD k zf)) := by
  rw [take_next l k h, kys_append, joinK_append]; simp [kys, joinK]
theorem joinK_take_le (l : List Fd) (k : Nat) : (joinK (kys (l.take k))).length ≤ (joinK (kys l)).length := by
  have h : joinK (kys l) = joinK (kys (l.take k)) ++ joinK (kys (l.drop k)) := by rw [← joinK_append, ← kys_append, List.take_append_drop]
  rw [h, List.length_append]; omega
theorem flt_take (l : List Fd) (k : Nat) (h : k < l.length) (hp : ∀ x ∈ kys (l.take k), fltK x = 0) (hn : fltK (ky (l.getD k zf)) ≠ 0) : fltL (kys l) = fltK (ky (l.getD k zf)) := by
  have e : kys l = kys (l.take k) ++ ky (l.getD k zf) :: kys (l.drop (k + 1)) := by
    conv => lhs; rw [← List.take_append_drop k l, kys_append, drop_next l k h]
    rfl
  rw [e]; exact fltL_at hp hn

set_option maxHeartbeats 4000000 in
theorem tjoin_any (p : Option Addr) (c : Nat) (l : List Fd) (w : World) (hp : FIn w p l) (hn : l.length ≤ maxLen) (hz : (joinK (kys l)).length + 200000 ≤ 140737488355328) :
    Calls Tryd.prog 38 #[.slice p l.length c] w fun e w' => JoinP w.heap.size (kys l) e w' ∧ Below w.heap.size w w' := by
  simp only [maxLen] at hn
  have HY := Hid.mk' (show fltL (kys l) = 0 → ∀ g w', BIn w' (some ⟨g, 0, none⟩) (joinK (kys l)) → w.heap.size ≤ g → Below w.heap.size w w' → JoinP w.heap.size (kys l) (.returned (.tuple #[.slice (some ⟨g, 0, none⟩) (joinK (kys l)).length (joinK (kys l)).length, .int .i64 0])) w' ∧ Below w.heap.size w w' from fun h g w' h1 h2 h3 => ⟨.inl ⟨h, g, rfl, h1, h2⟩, h3⟩)
  have HN := Hid.mk' (show ∀ v, fltL (kys l) = v → v ≠ 0 → ∀ w', Below w.heap.size w w' → JoinP w.heap.size (kys l) (.returned (.tuple #[.slice none 0 0, .int .i64 v])) w' ∧ Below w.heap.size w w' from fun v h h0 w' h3 => ⟨.inr ⟨by rw [h]; exact h0, by rw [h]⟩, h3⟩)
  generalize hPost : (fun e w' => JoinP w.heap.size (kys l) e w' ∧ Below w.heap.size w w') = Post
  have HY' : Hid (fltL (kys l) = 0 → ∀ g w', BIn w' (some ⟨g, 0, none⟩) (joinK (kys l)) → w.heap.size ≤ g → Below w.heap.size w w' → Post (.returned (.tuple #[.slice (some ⟨g, 0, none⟩) (joinK (kys l)).length (joinK (kys l)).length, .int .i64 0])) w') := by rw [← hPost]; exact HY
  have HN' : Hid (∀ v, fltL (kys l) = v → v ≠ 0 → ∀ w', Below w.heap.size w w' → Post (.returned (.tuple #[.slice none 0 0, .int .i64 v])) w') := by rw [← hPost]; exact HN
  clear hPost HY HN
  go_enter Tryd.func38, Tryd.ntmps38
  go_wp2_with fail
  refine (writeX _ w.heap.size rfl).mono ?_
  rintro e w1 ⟨b, rfl, HW1, hb1⟩
  have HB1 := Hid.mk' hb1
  clear hb1
  go_wp2_with fail
  go_loopw [13] (fun i W => ∃ k : Nat, k ≤ l.length ∧ i = .int .i64 k ∧ Hid (WrB W w.heap.size b (joinK (kys (l.take k))) false) ∧ Hid (∀ x ∈ kys (l.take k), fltK x = 0) ∧ Hid (Below w.heap.size w W)) (fun i _ => l.length - (intOf i).toNat)
  case atStart => exact ⟨0, by omega, rfl, HW1, fun x hx => (by simp [kys] at hx), HB1⟩
  case round =>
    obtain ⟨k, hk, rfl, HW, HO, HB⟩ := hrel
    clear HW1 HB1
    by_cases t : k < l.length
    · obtain ⟨b2, o2, rfl, hc⟩ := (hp.below HB.out).at (by omega)
      obtain ⟨e0, e1, hx⟩ := hc k t
      obtain ⟨b3, o3, e3, hc3⟩ := hp.at (by omega)
      obtain ⟨_, _, hx0⟩ := hc3 k t
      have HJ := Hid.mk' (joinK_next l k t)
      have HLE := Hid.mk' (joinK_take_le l (k + 1))
      have HFT := Hid.mk' (fun h => flt_take l k t HO.out h)
      have HFN := Hid.mk' (show fltK (ky (l.getD k zf)) = 0 → ∀ x ∈ kys (l.take (k + 1)), fltK x = 0 from fun h x hx => by
        rw [take_next l k t, kys_append] at hx
        rcases List.mem_append.1 hx with q | q
        · exact HO.out x q
        · simp [kys] at q; subst q; exact h)
      generalize l.getD k zf = y at e0 e1 hx hx0 HJ HFT HFN
      have HX := Hid.mk' hx
      have HX0 := Hid.mk' hx0
      clear hc hc3 e3 hx hx0 HO
      have hba := HB.out.alloc HB.out.size (.cells #[.int .i64 y.tag, .slice y.p y.d.length y.cap] 55)
      have hbx := heap_alloc_new wr (.cells #[.int .i64 y.tag, .slice y.p y.d.length y.cap] 55)
      have HBX := Hid.mk' (show InBF wr y (wr.alloc (.cells #[.int .i64 y.tag, .slice y.p y.d.length y.cap] 55)) from InBF.start wr y)
      have HBA := Hid.mk' hba
      have HWA := Hid.mk' (HW.out.below (InBF.start wr y).below)
      have FT := tfault_any y (wr.alloc (.cells #[.int .i64 y.tag, .slice y.p y.d.length y.cap] 55)) (HX.out.below (InBF.start wr y).below)
      clear hba hbx HB HW HX
      obtain ⟨v, hv⟩ : ∃ v, fltK (ky y) = v := ⟨_, rfl⟩
      rw [hv] at FT
      have HV := Hid.mk' hv
      clear hv
      go_wp2_with fail
      refine FT.mono ?_
      clear FT e0 e1
      rintro e w2 ⟨rfl, hb2⟩
      have HB2 := Hid.mk' (HBA.out.trans (hb2.mono HBA.out.size))
      have HW2 := Hid.mk' (HWA.out.below hb2)
      have hbox := box_bel HBX.out.box hb2
      obtain ⟨c0, c1, _⟩ := two_cells hbox
      clear hb2 HBA HWA HBX hbox
      by_cases tv : v = 0
      · subst tv
        go_wp2_with fail
        refine (tput_any w b (joinK (kys (l.take k))) y w2 HW2.out HX0.out HB2.out HV.out (by have h := HLE.out; rw [HJ.out, List.length_append, encK_len] at h; simp only [ky] at h; omega)).mono ?_
        rintro e w3 ⟨rfl, hW3, hB3⟩
        rw [← HJ.out] at hW3
        have HW3 := Hid.mk' hW3
        have HB3 := Hid.mk' hB3
        have HO3 := Hid.mk' (HFN.out HV.out)
        clear hW3 hB3 HB2 HW2 c0 c1
        go_wp2_with fail
        go_roundw
        case rel => exact ⟨k + 1, by omega, by go_num, HW3, HO3, HB3⟩
        case measure => simp [intOf]; omega
      · have d : (v != 0) = true := by simp [tv]
        have HQ := Hid.mk' (HN'.out v (by rw [HFT.out (by rw [HV.out]; exact tv)]; exact HV.out) tv w2 HB2.out)
        clear tv
        go_wp2_with fail
        first | exact HQ.out | (rw [Exit.noGoto_ret]; exact HQ.out)
    · obtain rfl : k = l.length := by omega
      rw [List.take_of_length_le (Nat.le_refl _)] at HW HO
      have YB := bytesB w.heap.size b (joinK (kys l)) wr HW.out (by omega)
      have HQ := Hid.mk' (fun g w' => HY'.out (fltL_of HO.out) g w')
      generalize joinK (kys l) = J at HW YB HQ
      go_wp2_with fail
      refine YB.mono ?_
      rintro e w2 ⟨rfl, hbi, hb2⟩
      have HQ2 := Hid.mk' (HQ.out _ _ hbi HB.out.size (HB.out.trans (hb2.mono HB.out.size)))
      clear hbi hb2 YB
      go_wp2_with fail
      exact HQ2.out
end Go.Proofs.YtmejfkhikgcgmaaDoor
namespace Go.Proofs.YtmejfkhikgcgmaaDoor
open Go.RowKit
set_option linter.unusedSimpArgs false
set_option linter.unusedVariables false
set_option maxRecDepth 10000
set_option synthInstance.maxSize 2000

/-- A number that has room, as a field. -/
theorem tnum_ok (t : Int) (n : Nat) (v : Int) (w : World) (ht : (Lit.int .i64 t).wf = true) (h1 : 1 ≤ n) (h7 : n ≤ 7) (hv : 0 ≤ v) (hv2 : v < 256 ^ n) (hv3 : v ≤ 281474976710655) (k : Int) (hk : k = n) :
    Calls Tryd.prog 53 #[.int .i64 t, .int .i64 k, .int .i64 v] w fun e w' => ∃ p c, e = .returned (.agg #[.int .i64 t, .slice p n c]) ∧ FOk w' ⟨t, p, c, digB n v⟩ ∧ (∀ a, p = some a → w.heap.size ≤ a.block) ∧ Below w.heap.size w w' := by
  subst hk
  refine (tnum_any t n v w ht (small_wf (z := (n : Int)) (by omega) (by omega)) (small_wf (z := v) (by omega) (by omega))).mono ?_
  rintro e w' ⟨p, c, rfl, h3, h4, h5⟩
  rw [numD_yes h1 h7 hv hv2] at h3 h4 ⊢
  rw [digB_len] at h4 ⊢
  exact ⟨p, c, rfl, h3, h4 (by omega), h5⟩

/-- Fields that were laid at once. -/
theorem OwnF.laid (W : World) (L : List Fd) (g : Nat) (hg : W.heap.size = g) (cs : Array Value) (hcs : cs = cellsF L) (hL : L.length ≤ 1000) (h : ∀ f ∈ L, FOk W f) (n : Nat) (hn : n = L.length) : OwnF g (W.alloc (.cells cs 55)) (.slice (some ⟨g, 0, none⟩) n n) L := by
  subst hg hcs hn
  have hb : Below W.heap.size W (W.alloc (.cells (cellsF L) 55)) := (Below.refl _ _).alloc (Nat.le_refl _) _
  refine ⟨⟨⟨by rw [flat_len], .inr ⟨W.heap.size, L.length, cellsF L, rfl, Nat.zero_le _, heap_alloc_new _ _, Nat.le_refl _, by simp only [maxLen]; omega, cellsF_size L, ?_⟩⟩, fun k hk => by cases hk; exact Nat.le_refl _⟩, fun f hf => (h f hf).below hb, fun f hf hl a ha q => ?_⟩
  · show (L.flatMap Fd.cells).toArray.toList.take (L.length * 2) = _
    rw [List.toList_toArray]
    exact List.take_of_length_le (by rw [flat_len]; exact Nat.le_refl _)
  · have := (h f hf).lt hl a ha
    have q' : W.heap.size = a.block := by simpa [Value.ownBlock] using q
    omega

theorem OwnF.addMany {B : Nat} {W W' : World} {v v' : Value} {L M : List Fd} (h : OwnF B W v L) (hB : B ≤ W.heap.size) (hf : ∀ f ∈ M, FOk W f) (ho : ∀ f ∈ M, 0 < f.d.length → ∀ a, f.p = some a → v.ownBlock ≠ some a.block)
    (hA : Appended W 55 2 v L.length (L.flatMap Fd.cells) M.length (M.flatMap Fd.cells) v' W') : OwnF B W' v' (L ++ M) ∧ Below B W W' := by
  obtain ⟨h1, h2⟩ := h.own.next hB hA
  have hall : ∀ g ∈ L ++ M, FOk W g ∧ (0 < g.d.length → ∀ a, g.p = some a → v.ownBlock ≠ some a.block) := fun g hg => by
    rcases List.mem_append.1 hg with q | q
    · exact ⟨h.oks g q, h.off g q⟩
    · exact ⟨hf g q, ho g q⟩
  refine ⟨⟨by rw [List.length_append, flatF_append]; exact h1, fun g hg => (hall g hg).1.fr hA.fr fun hl a ha => (hall g hg).2 hl a ha, fun g hg hl a ha => ?_⟩, h2⟩
  rcases hA.moved with q | ⟨k, hk, hk2⟩
  · rw [q]; exact (hall g hg).2 hl a ha
  · rw [hk]
    have := (hall g hg).1.lt hl a ha
    simp
    omega
/-- 'append(v, l...)' of fields that lie wherever. -/
theorem wpList_addT {W : World} {ops : Array Oper} {rest : List Oper} {o : Oper} {ac : Act} {Q : Exit → Act → World → Prop} (hgd : o.guard = none) (s x : Operand)
    (ho : o.op = .call { callee := .builtin .append, args := #[s, x], argTypes := #[42, 42] })
    {B : Nat} {v : Value} {L : List Fd} (hs : ac.eval s = v) (h3 : OwnF B W v L) (hB : B ≤ W.heap.size) (M : List Fd) (p : Option Addr) (cp : Nat) (hx : ac.eval x = .slice p M.length cp) (hp : p = none → cp = 0) (hin : FIn W p M) (hok : ∀ f ∈ M, FOk W f)
    (hoff : ∀ f ∈ M, 0 < f.d.length → ∀ a, f.p = some a → v.ownBlock ≠ some a.block) (hl : L.length ≤ 1000) (hl2 : M.length ≤ 1000)
    (h : ∀ v' w', OwnF B w' v' (L ++ M) → Below B W w' → wpList Tryd.prog ops Q rest (ac.put o.dst v') w') : wpList Tryd.prog ops Q (o :: rest) ac W := by
  obtain ⟨i0, hi, hz0, hz1, hz2⟩ := info_parts infoF
  refine wpList_append_fr hgd s x 42 ho 55 i0 _ 2 32 Tryd.underlying42 hi hz0 hz1 hz2 rfl (by decide) v L.length _ hs h3.own.owns p M.length cp (M.flatMap Fd.cells) hx hp (flat_len _) hin.news (flat_one _) (by unfold maxLen; omega) (by omega) fun v' w' hA => ?_
  obtain ⟨k1, k2⟩ := h3.addMany hB hok hoff hA
  exact h v' w' k1 k2
theorem OwnF.fin2 {B : Nat} {W : World} {v : Value} {L : List Fd} (h : OwnF B W v L) : ∃ p c, v = .slice p L.length c ∧ FIn W p L ∧ (p = none → c = 0) ∧ L.length ≤ c ∧ c ≤ maxLen := own_fin h.own h.oks
theorem FIn.every {w : World} {p : Option Addr} {l : List Fd} (h : FIn w p l) : ∀ f ∈ l, FOk w f := fun f hf => by
  obtain ⟨i, hi, rfl⟩ := List.getElem_of_mem hf
  obtain ⟨b, o, rfl, hc⟩ := h.at (by omega)
  have := (hc i hi).2.2
  simpa [List.getD, hi] using this

set_option maxHeartbeats 1600000 in
theorem mark2_any (r : Rc) (w : World) (h1 : 0 ≤ r.st ∧ r.st ≤ 3) :
    Calls Tryd.prog 55 #[.agg #[.int .i64 r.id, .int .i64 r.inc, .int .i64 r.st, .int .i64 r.lo, .int .i64 r.hi, .bool r.cut, .slice r.p r.bag.length r.cap]] w fun e w' => e = .returned (.int .i64 (stB2 (rk r))) ∧ Below w.heap.size w w' := by
  have HV := Hid.mk' (show stB2 (rk r) = r.st + (if r.cut = true then 128 else 0) from rfl)
  have HB := Hid.mk' (InB.start w r).below
  generalize stB2 (rk r) = z at HV ⊢
  obtain ⟨id, inc, st, lo, hi, cut, p, cap, bag⟩ := r
  dsimp only at HV HB h1 ⊢
  obtain ⟨a1, a2⟩ := h1
  cases cut
  · obtain rfl : z = st := by rw [HV.out]; simp
    clear HV
    go_enter Tryd.func55, Tryd.ntmps55
    go_wp2_with fail
    go_ret
    exact ⟨rfl, HB.out⟩
  · obtain rfl : z = st + 128 := by rw [HV.out]; simp
    clear HV
    go_enter Tryd.func55, Tryd.ntmps55
    go_wp2_with fail
    go_ret
    exact ⟨rfl, HB.out⟩

theorem in_kys (p1 p2 p3 p4 : Option Addr) (c1 c2 c3 c4 : Nat) (r : Rc) : kys ([⟨1, p1, c1, digB 2 r.id⟩, ⟨2, p2, c2, digB 4 r.inc⟩, ⟨3, p3, c3, digB 1 (stB2 (rk r))⟩, ⟨4, p4, c4, digB 1 (16 * r.lo + r.hi)⟩] ++ r.bag) = inK (rk r) := by
  rw [kys_append, show 16 * r.lo + r.hi = r.lo * 16 + r.hi by omega]
  rfl

set_option maxHeartbeats 8000000 in
theorem grecord2_any (r : Rc) (w : World) (hr : ROk w r) (hmay : mayR (rk r) = true) (hi : r.inc ≤ 4294967295) :
    Calls Tryd.prog 37 #[.agg #[.int .i64 r.id, .int .i64 r.inc, .int .i64 r.st, .int .i64 r.lo, .int .i64 r.hi, .bool r.cut, .slice r.p r.bag.length r.cap]] w fun e w' => ∃ g, e = .returned (.slice (some ⟨g, 0, none⟩) (innerB (rk r)).length (innerB (rk r)).length) ∧ BIn w' (some ⟨g, 0, none⟩) (innerB (rk r)) ∧ w.heap.size ≤ g ∧ Below w.heap.size w w' := by
  obtain ⟨a1, b1, c1, d1⟩ := rec_nums hmay
  have a1 : 0 ≤ r.id ∧ r.id ≤ 4095 := a1
  have b1 : 0 ≤ r.inc ∧ r.inc ≤ 281474976710655 := b1
  have c1 : 0 ≤ r.st ∧ r.st ≤ 3 := c1
  have d1 : 1 ≤ r.lo ∧ r.lo ≤ r.hi ∧ r.hi ≤ 3 := d1
  obtain ⟨s1, s2, _, _⟩ := stB2_back hmay
  obtain ⟨z1, z2⟩ := bag_small2 hmay
  have HIL := Hid.mk' (inner_len hmay)
  have HFL := Hid.mk' (inK_flt hmay)
  have HCO := Hid.mk' (fun X => code_yes r.lo r.hi X (okS_mk d1))
  have HMK := Hid.mk' (fun X => mark2_any r X c1)
  have HKY := Hid.mk' (fun p1 p2 p3 p4 c1 c2 c3 c4 => in_kys p1 p2 p3 p4 c1 c2 c3 c4 r)
  have HIB := Hid.mk' (show joinK (inK (rk r)) = innerB (rk r) from rfl)
  have HB := Hid.mk' (InB.start w r)
  have HFI := Hid.mk' hr.fin
  have HNIL := Hid.mk' hr.nil
  have HNUM := Hid.mk' (And.intro a1 (And.intro b1 (And.intro c1 (And.intro d1 (And.intro s1 s2)))))
  obtain ⟨sb, hsb⟩ : ∃ sb, stB2 (rk r) = sb := ⟨_, rfl⟩
  rw [hsb] at HMK HKY HNUM
  generalize innerB (rk r) = IB at HIB HIL ⊢
  clear hr hmay s1 s2 a1 b1 c1 d1 hsb
  go_enter Tryd.func37, Tryd.ntmps37
  go_wp2_with fail
  have hS0 : _ ∧ Hid (InB w r ((w.alloc (.cells #[.int .i64 r.id, .int .i64 r.inc, .int .i64 r.st, .int .i64 r.lo, .int .i64 r.hi, .bool r.cut, .slice r.p r.bag.length r.cap] 44)).drew)) := ⟨box_cells (InB.on HB.out (Below.refl _ _).drew).box, HB.out.on (Below.refl _ _).drew⟩
  refine wp_region_held_drew (S := fun X => (X.cell? ⟨w.heap.size, 0, none⟩ = some (.int .i64 r.id) ∧ X.cell? ⟨w.heap.size, 1, none⟩ = some (.int .i64 r.inc) ∧ X.cell? ⟨w.heap.size, 2, none⟩ = some (.int .i64 r.st) ∧ X.cell? ⟨w.heap.size, 3, none⟩ = some (.int .i64 r.lo) ∧ X.cell? ⟨w.heap.size, 4, none⟩ = some (.int .i64 r.hi) ∧ X.cell? ⟨w.heap.size, 5, none⟩ = some (.bool r.cut) ∧ X.cell? ⟨w.heap.size, 6, none⟩ = some (.slice r.p r.bag.length r.cap)) ∧ Hid (InB w r X)) (by kernel_rfl) hS0 (fun hS => ?_)
  clear hS0 HB
  generalize (w.alloc (.cells #[.int .i64 r.id, .int .i64 r.inc, .int .i64 r.st, .int .i64 r.lo, .int .i64 r.hi, .bool r.cut, .slice r.p r.bag.length r.cap] 44)).drew = wd at hS ⊢
  refine wpAnyH_take (i := 0) (v := ?v0_68) rfl (by kernel_rfl) (by kernel_rfl) (by kernel_rfl) (fun _ _ _ h => h) (Or.inl ⟨by rfl, ?hy0_68⟩) (by assumption) ?rest0_68
  case hy0_68 => (intro w hSw; (try dsimp only at hSw); go_simp; try (with_reducible rfl))
  simp only [Act.put, List.getElem_toArray, List.getElem_cons_zero, List.getElem_cons_succ, List.setIfInBounds_toArray, List.set_cons_zero, List.set_cons_succ]
  refine wpAnyH_take (i := 1) (v := ?v1_69) rfl (by kernel_rfl) (by kernel_rfl) (by kernel_rfl) (fun _ _ _ h => h) (Or.inl ⟨by rfl, ?hy1_69⟩) (by assumption) ?rest1_69
  case hy1_69 => (intro w hSw; (try dsimp only at hSw); go_simp; try (with_reducible rfl))
  simp only [Act.put, List.getElem_toArray, List.getElem_cons_zero, List.getElem_cons_succ, List.setIfInBounds_toArray, List.set_cons_zero, List.set_cons_succ]
  refine wpAnyH_take (i := 3) (v := ?v3_70) rfl (by kernel_rfl) (by kernel_rfl) (by kernel_rfl) (fun _ _ _ h => h) (Or.inl ⟨by rfl, ?hy3_70⟩) (by assumption) ?rest3_70
  case hy3_70 => (intro w hSw; (try dsimp only at hSw); go_simp; try (with_reducible rfl))
  simp only [Act.put, List.getElem_toArray, List.getElem_cons_zero, List.getElem_cons_succ, List.setIfInBounds_toArray, List.set_cons_zero, List.set_cons_succ]
  refine wpAnyH_take (i := 4) (v := ?v4_71) rfl (by kernel_rfl) (by kernel_rfl) (by kernel_rfl) (fun _ _ _ h => h) (Or.inl ⟨by rfl, ?hy4_71⟩) (by assumption) ?rest4_71
  case hy4_71 => (intro w hSw; (try dsimp only at hSw); go_simp; try (with_reducible rfl))
  simp only [Act.put, List.getElem_toArray, List.getElem_cons_zero, List.getElem_cons_succ, List.setIfInBounds_toArray, List.set_cons_zero, List.set_cons_succ]
  refine wpAnyH_take (i := 6) (v := ?v6_72) rfl (by kernel_rfl) (by kernel_rfl) (by kernel_rfl) (fun _ _ _ h => h) (Or.inl ⟨by rfl, ?hy6_72⟩) (by assumption) ?rest6_72
  case hy6_72 => (intro w hSw; (try dsimp only at hSw); go_simp; try (with_reducible rfl))
  simp only [Act.put, List.getElem_toArray, List.getElem_cons_zero, List.getElem_cons_succ, List.setIfInBounds_toArray, List.set_cons_zero, List.set_cons_succ]
  refine wpAnyH_take (i := 9) (v := ?v9_73) rfl (by kernel_rfl) (by kernel_rfl) (by kernel_rfl) (fun _ _ _ h => h) (Or.inl ⟨by rfl, ?hy9_73⟩) (by assumption) ?rest9_73
  case hy9_73 => (intro w hSw; (try dsimp only at hSw); go_simp; try (with_reducible rfl))
  simp only [Act.put, List.getElem_toArray, List.getElem_cons_zero, List.getElem_cons_succ, List.setIfInBounds_toArray, List.set_cons_zero, List.set_cons_succ]
  refine wpAnyH_take (i := 10) (v := ?v10_74) rfl (by kernel_rfl) (by kernel_rfl) (by kernel_rfl) (fun _ _ _ h => h) (Or.inl ⟨by rfl, ?hy10_74⟩) (by assumption) ?rest10_74
  case hy10_74 => (intro w hSw; (try dsimp only at hSw); go_simp; try (with_reducible rfl))
  simp only [Act.put, List.getElem_toArray, List.getElem_cons_zero, List.getElem_cons_succ, List.setIfInBounds_toArray, List.set_cons_zero, List.set_cons_succ]
  refine wpAnyH_ready (rs := [2]) (by kernel_rfl) (by simp) ?_
  refine (AllReadyH.cons rfl (fun K hK => ?_) AllReadyH.nil)
  go_simp
  refine (tnum_ok 1 2 r.id wd (by decide) (by omega) (by omega) HNUM.out.1.1 (lt2 (by have := HNUM.out.1.2; omega)) (by have := HNUM.out.1.2; omega) 2 rfl).mono ?_
  rintro e x2 ⟨p1, c1, rfl, hf1, ho1, hb2⟩
  have HI2 := Hid.mk' (hS.2.out.on hb2)
  have HF2 := Hid.mk' hf1
  clear hf1 ho1 hb2
  go_wp2_with fail
  refine hK.out _ _ ?_ (fun hS' => ?_)
  · exact ⟨box_cells HI2.out.box, HI2⟩
  clear hK K
  try simp only [Act.put, List.getElem_toArray, List.getElem_cons_zero, List.getElem_cons_succ, List.setIfInBounds_toArray, List.set_cons_zero, List.set_cons_succ]
  replace hS := hS'
  clear hS'
  refine wpAnyH_ready (rs := [5]) (by kernel_rfl) (by simp) ?_
  refine (AllReadyH.cons rfl (fun K hK => ?_) AllReadyH.nil)
  go_simp
  refine (tnum_ok 2 4 r.inc x2 (by decide) (by omega) (by omega) HNUM.out.2.1.1 (by have := hi; omega) (by have := HNUM.out.2.1.2; omega) 4 rfl).mono ?_
  rintro e x5 ⟨p2, c2, rfl, hf5, ho5, hb5⟩
  have HI5 := Hid.mk' (HI2.out.on hb5)
  have HF5 := Hid.mk' (And.intro (HF2.out.below hb5) hf5)
  clear hf5 ho5 hb5 HI2 HF2
  go_wp2_with fail
  refine hK.out _ _ ?_ (fun hS' => ?_)
  · exact ⟨box_cells HI5.out.box, HI5⟩
  clear hK K
  try simp only [Act.put, List.getElem_toArray, List.getElem_cons_zero, List.getElem_cons_succ, List.setIfInBounds_toArray, List.set_cons_zero, List.set_cons_succ]
  replace hS := hS'
  clear hS'
  refine wpAnyH_ready (rs := [7]) (by kernel_rfl) (by simp) ?_
  refine (AllReadyH.cons rfl (fun K hK => ?_) AllReadyH.nil)
  go_simp
  refine (HMK.out x5).mono ?_
  rintro e x7 ⟨rfl, hb7⟩
  have HI7 := Hid.mk' (HI5.out.on hb7)
  have HF7 := Hid.mk' (And.intro (HF5.out.1.below hb7) (HF5.out.2.below hb7))
  clear hb7 HI5 HF5
  go_wp2_with fail
  refine hK.out _ _ ?_ (fun hS' => ?_)
  · exact ⟨box_cells HI7.out.box, HI7⟩
  clear hK K
  try simp only [Act.put, List.getElem_toArray, List.getElem_cons_zero, List.getElem_cons_succ, List.setIfInBounds_toArray, List.set_cons_zero, List.set_cons_succ]
  replace hS := hS'
  clear hS'
  refine wpAnyH_ready (rs := [8]) (by kernel_rfl) (by simp) ?_
  refine (AllReadyH.cons rfl (fun K hK => ?_) AllReadyH.nil)
  go_simp
  refine (tnum_ok 3 1 sb x7 (by decide) (by omega) (by omega) HNUM.out.2.2.2.2.1 (lt1 HNUM.out.2.2.2.2.2) (by have := HNUM.out.2.2.2.2.2; omega) 1 rfl).mono ?_
  rintro e x8 ⟨p3, c3, rfl, hf8, ho8, hb8⟩
  have HI8 := Hid.mk' (HI7.out.on hb8)
  have HF8 := Hid.mk' (And.intro (HF7.out.1.below hb8) (And.intro (HF7.out.2.below hb8) hf8))
  clear hf8 ho8 hb8 HI7 HF7
  go_wp2_with fail
  refine hK.out _ _ ?_ (fun hS' => ?_)
  · exact ⟨box_cells HI8.out.box, HI8⟩
  clear hK K
  try simp only [Act.put, List.getElem_toArray, List.getElem_cons_zero, List.getElem_cons_succ, List.setIfInBounds_toArray, List.set_cons_zero, List.set_cons_succ]
  replace hS := hS'
  clear hS'
  refine wpAnyH_ready (rs := [11]) (by kernel_rfl) (by simp) ?_
  refine (AllReadyH.cons rfl (fun K hK => ?_) AllReadyH.nil)
  go_simp
  refine (HCO.out x8).mono ?_
  rintro e x11 ⟨rfl, hb11⟩
  have HI11 := Hid.mk' (HI8.out.on hb11)
  have HF11 := Hid.mk' (And.intro (HF8.out.1.below hb11) (And.intro (HF8.out.2.1.below hb11) (HF8.out.2.2.below hb11)))
  clear hb11 HI8 HF8
  go_wp2_with fail
  refine hK.out _ _ ?_ (fun hS' => ?_)
  · exact ⟨box_cells HI11.out.box, HI11⟩
  clear hK K
  try simp only [Act.put, List.getElem_toArray, List.getElem_cons_zero, List.getElem_cons_succ, List.setIfInBounds_toArray, List.set_cons_zero, List.set_cons_succ]
  replace hS := hS'
  clear hS'
  refine wpAnyH_ready (rs := [12]) (by kernel_rfl) (by simp) ?_
  refine (AllReadyH.cons rfl (fun K hK => ?_) AllReadyH.nil)
  go_simp
  refine (tnum_ok 4 1 (16 * r.lo + r.hi) x11 (by decide) (by omega) (by omega) (by have := HNUM.out.2.2.2.1; omega) (lt1 (by have := HNUM.out.2.2.2.1; omega)) (by have := HNUM.out.2.2.2.1; omega) 1 rfl).mono ?_
  rintro e x12 ⟨p4, c4, rfl, hf12, ho12, hb12⟩
  have HI12 := Hid.mk' (HI11.out.on hb12)
  have HO12 := Hid.mk' (OwnF.laid x12 [⟨1, p1, c1, digB 2 r.id⟩, ⟨2, p2, c2, digB 4 r.inc⟩, ⟨3, p3, c3, digB 1 sb⟩, ⟨4, p4, c4, digB 1 (16 * r.lo + r.hi)⟩] x12.heap.size rfl #[.int .i64 1, .slice p1 2 c1, .int .i64 2, .slice p2 4 c2, .int .i64 3, .slice p3 1 c3, .int .i64 4, .slice p4 1 c4] (by simp [cellsF, Fd.cells, digB_len]) (by simp) (by
    intro f hf
    simp only [List.mem_cons, List.not_mem_nil, or_false] at hf
    rcases hf with rfl | rfl | rfl | rfl
    · exact HF11.out.1.below hb12
    · exact HF11.out.2.1.below hb12
    · exact HF11.out.2.2.below hb12
    · exact hf12) 4 rfl)
  clear hf12 ho12 hb12 HI11 HF11
  go_wp2_with fail
  refine hK.out _ _ ?_ (fun hS' => ?_)
  · exact ⟨box_cells HI12.out.box, HI12⟩
  clear hK K
  try simp only [Act.put, List.getElem_toArray, List.getElem_cons_zero, List.getElem_cons_succ, List.setIfInBounds_toArray, List.set_cons_zero, List.set_cons_succ]
  replace hS := hS'
  clear hS'
  refine wpAnyH_ready (rs := [13]) (by kernel_rfl) (by simp) ?_
  refine (AllReadyH.cons rfl (fun K hK => ?_) AllReadyH.nil)
  go_simp
  have HI13 := Hid.mk' (HI12.out.on ((Below.refl _ _).alloc (Nat.le_refl _) (.cells #[.int .i64 1, .slice p1 2 c1, .int .i64 2, .slice p2 4 c2, .int .i64 3, .slice p3 1 c3, .int .i64 4, .slice p4 1 c4] 55)))
  have HLT13 := Hid.mk' (show w.heap.size < x12.heap.size from (Array.getElem?_eq_some_iff.1 HI12.out.box).1)
  clear HI12
  refine hK.out _ _ ?_ (fun hS' => ?_)
  · exact ⟨box_cells HI13.out.box, HI13⟩
  clear hK K
  try simp only [Act.put, List.getElem_toArray, List.getElem_cons_zero, List.getElem_cons_succ, List.setIfInBounds_toArray, List.set_cons_zero, List.set_cons_succ]
  replace hS := hS'
  clear hS'
  refine wpAnyH_take (i := 14) (v := ?v14_75) rfl (by kernel_rfl) (by kernel_rfl) (by kernel_rfl) (fun _ _ _ h => h) (Or.inl ⟨by rfl, ?hy14_75⟩) (by assumption) ?rest14_75
  case hy14_75 => (intro w hSw; (try dsimp only at hSw); go_simp; try (with_reducible rfl))
  simp only [Act.put, List.getElem_toArray, List.getElem_cons_zero, List.getElem_cons_succ, List.setIfInBounds_toArray, List.set_cons_zero, List.set_cons_succ]
  refine wpAnyH_done (by kernel_rfl) ?_ _
  have hsz : x12.heap.size ≤ (x12.alloc (.cells #[.int .i64 1, .slice p1 2 c1, .int .i64 2, .slice p2 4 c2, .int .i64 3, .slice p3 1 c3, .int .i64 4, .slice p4 1 c4] 55)).heap.size := by simp
  clear hS
  have HFW := Hid.mk' (HFI.out.every)
  obtain ⟨g, hg⟩ : ∃ g, x12.heap.size = g := ⟨_, rfl⟩
  obtain ⟨x13, hx13⟩ : ∃ x, x12.alloc (.cells #[.int .i64 1, .slice p1 2 c1, .int .i64 2, .slice p2 4 c2, .int .i64 3, .slice p3 1 c3, .int .i64 4, .slice p4 1 c4] 55) = x := ⟨_, rfl⟩
  rw [hx13] at hsz HI13 HO12 ⊢
  rw [hg] at hsz HO12 HLT13 ⊢
  clear hx13 hg
  have HSZ := Hid.mk' hsz
  clear hsz
  have HKL := Hid.mk' (HKY.out p1 p2 p3 p4 c1 c2 c3 c4)
  obtain ⟨L4, hL4⟩ : ∃ L4 : List Fd, [⟨1, p1, c1, digB 2 r.id⟩, ⟨2, p2, c2, digB 4 r.inc⟩, ⟨3, p3, c3, digB 1 sb⟩, ⟨4, p4, c4, digB 1 (16 * r.lo + r.hi)⟩] = L4 := ⟨_, rfl⟩
  have hn4 : L4.length ≤ 4 := by rw [← hL4]; simp
  rw [hL4] at HKL HO12
  have HN4 := Hid.mk' hn4
  have HZ1 := Hid.mk' z1
  clear hL4 hn4 z1
  have HOFF := Hid.mk' (show ∀ f ∈ r.bag, 0 < f.d.length → ∀ a, f.p = some a → (Value.slice (some ⟨g, 0, none⟩) 4 4).ownBlock ≠ some a.block from fun f hf hl a ha q => by
    have h1 := (HFW.out f hf).lt hl a ha
    have h2 := HLT13.out
    have q' : g = a.block := by simpa [Value.ownBlock] using q
    omega)
  obtain ⟨e0, e1, e2, e3, e4, e5, e6⟩ := box_cells HI13.out.box
  go_wp2_with (at_builtin; refine wpList_addT (by rfl) (.tmp 21) (.tmp 23) (by rfl) (by rfl) HO12.out HSZ.out r.bag r.p r.cap (by rfl) HNIL.out (HFI.out.below HI13.out.below) (fun f hf => (HFW.out f hf).below HI13.out.below) HOFF.out (by have := HN4.out; omega) (by have := HZ1.out; omega) ?_)
  intro v14 x14 hO14 hb14
  have HB14 := Hid.mk' (HI13.out.below.trans (hb14.mono (Nat.le_of_lt HLT13.out)))
  have hlen : (L4 ++ r.bag).length ≤ 100 := by have := HN4.out; have := HZ1.out; rw [List.length_append]; omega
  obtain ⟨LL, hLL⟩ : ∃ LL, L4 ++ r.bag = LL := ⟨_, rfl⟩
  rw [hLL] at HKL hlen hO14
  obtain ⟨p14, c14, rfl, hfin, _, hlc, hmc⟩ := hO14.fin2
  have TJ := tjoin_any p14 c14 LL x14 hfin (by simp only [maxLen]; omega) (by rw [HKL.out, HIB.out]; have := HIL.out; omega)
  rw [HKL.out] at TJ
  clear hLL hO14 hfin hlc hmc hlen HKL hb14 e0 e1 e2 e3 e4 e5 e6 HO12 HI13 HFW HSZ HKY HIL
  go_wp2_with fail
  refine TJ.mono ?_
  clear TJ
  rintro e x15 ⟨hj, hb15⟩
  have HB15 := Hid.mk' (HB14.out.trans (hb15.mono HB14.out.size))
  have HG15 := Hid.mk' HB14.out.size
  clear hb15 HB14
  rcases hj with ⟨_, gj, rfl, hbi, hgj⟩ | ⟨hno, _⟩
  · rw [HIB.out] at hbi ⊢
    have HBI := Hid.mk' hbi
    have HGJ := Hid.mk' hgj
    clear hbi hgj
    go_wp2_with fail
    go_ret
    exact ⟨gj, rfl, HBI.out, Nat.le_trans HG15.out HGJ.out, HB15.out⟩
  · exact absurd HFL.out hno
end Go.Proofs.YtmejfkhikgcgmaaDoor
namespace Go.Proofs.YtmejfkhikgcgmaaDoor
open Go.RowKit
set_option linter.unusedSimpArgs false
set_option linter.unusedVariables false
set_option maxRecDepth 10000
set_option synthInstance.maxSize 2000

theorem hd_kys (p1 p2 p3 p4 : Option Addr) (c1 c2 c3 c4 : Nat) (m : Mg) : kys [⟨1, p1, c1, digB 1 m.kind⟩, ⟨2, p2, c2, digB 2 m.frm⟩, ⟨3, p3, c3, digB 6 m.inc⟩, ⟨4, p4, c4, digB 1 (16 * m.lo + m.hi)⟩] = [itm 1 1 m.kind, itm 2 2 m.frm, itm 3 6 m.inc, itm 4 1 (m.lo * 16 + m.hi)] := by
  rw [show 16 * m.lo + m.hi = m.lo * 16 + m.hi by omega]
  rfl
theorem hdK_mv (m : Mg) : hdK (mv m) = [itm 1 1 m.kind, itm 2 2 m.frm, itm 3 6 m.inc, itm 4 1 (m.lo * 16 + m.hi)] ++ (if hasB m.kind 0 = true then [itm 5 2 m.seq] else []) ++ (if hasB m.kind 1 = true then [itm 6 2 m.tgt] else []) := rfl

theorem InM.five2 {w X : World} {m : Mg} (h : InM w m X) : X.cell? ⟨w.heap.size, 0, none⟩ = some (.int .i64 m.kind) ∧ X.cell? ⟨w.heap.size, 1, none⟩ = some (.int .i64 m.frm) ∧ X.cell? ⟨w.heap.size, 2, none⟩ = some (.int .i64 m.inc) ∧ X.cell? ⟨w.heap.size, 3, none⟩ = some (.int .i64 m.lo) ∧ X.cell? ⟨w.heap.size, 4, none⟩ = some (.int .i64 m.hi) ∧ Hid (InM w m X) := by
  obtain ⟨c0, c1, c2, c3, c4, _⟩ := mbox_cells h.box
  exact ⟨c0, c1, c2, c3, c4, h⟩

/-- What head comes to. -/
def HeadP (w : World) (m : Mg) (e : Ending) (w' : World) : Prop :=
  ∃ p c L, e = .returned (.slice p (List.length L) c) ∧ OwnF w.heap.size w' (.slice p L.length c) L ∧ kys L = hdK (mv m) ∧ Below w.heap.size w w'

set_option maxHeartbeats 8000000 in
theorem ghead2_any (m : Mg) (w : World) (hm : MOk w m) (hmay : mayM m = true) (hK : Kd w) :
    Calls Tryd.prog 36 #[.agg #[.int .i64 m.kind, .int .i64 m.frm, .int .i64 m.inc, .int .i64 m.lo, .int .i64 m.hi, .int .i64 m.seq, .int .i64 m.tgt, .int .i64 m.life, .int .i64 m.epoch, .int .i64 m.base, .slice m.p m.recs.length m.cap]] w fun e w' => HeadP w m e w' := by
  have hv := (may_mv m).1 hmay
  have hs := okS_yes hv.2.1
  have hn := hv.1
  unfold MV.nums at hn
  simp only [mv] at hn hs
  obtain ⟨⟨n1, n2⟩, ⟨n3, n4⟩, ⟨n5, n6⟩, ⟨n7, n8, _⟩, ⟨n9, n10, _⟩, _⟩ := hn
  obtain ⟨s1, s2, s3⟩ := hs
  have HNUM := Hid.mk' (And.intro (And.intro n1 n2) (And.intro (And.intro n3 n4) (And.intro (And.intro n5 n6) (And.intro (And.intro n7 n8) (And.intro n9 n10)))))
  have HSP := Hid.mk' (And.intro s1 (And.intro s2 s3))
  have HCO := Hid.mk' (fun X => code_yes m.lo m.hi X (okS_mk ⟨s1, s2, s3⟩))
  have HKY := Hid.mk' (fun p1 p2 p3 p4 c1 c2 c3 c4 => hd_kys p1 p2 p3 p4 c1 c2 c3 c4 m)
  have HHD := Hid.mk' (hdK_mv m)
  have HI := Hid.mk' (InM.start w m)
  obtain ⟨h0, hh0⟩ : ∃ h, hasB m.kind 0 = h := ⟨_, rfl⟩
  obtain ⟨h1, hh1⟩ : ∃ h, hasB m.kind 1 = h := ⟨_, rfl⟩
  have M0 := Hid.mk' (show ∀ X, InM w m X → Calls Tryd.prog 26 #[.int .i64 m.kind, .int .i64 0] X fun e w' => e = .returned (.bool h0) ∧ X = w' from fun X h => by
    have := mhas_any m.kind 0 X (hK.below h.below); rw [hasM_01 _ _ (.inl rfl), hh0] at this; exact this)
  have M1 := Hid.mk' (show ∀ X, InM w m X → Calls Tryd.prog 26 #[.int .i64 m.kind, .int .i64 1] X fun e w' => e = .returned (.bool h1) ∧ X = w' from fun X h => by
    have := mhas_any m.kind 1 X (hK.below h.below); rw [hasM_01 _ _ (.inr rfl), hh1] at this; exact this)
  rw [hh0, hh1] at HHD
  have HP := Hid.mk' (show ∀ p c (L : List Fd) w', OwnF w.heap.size w' (.slice p L.length c) L → kys L = hdK (mv m) → Below w.heap.size w w' → HeadP w m (.returned (.slice p L.length c)) w' from fun p c L w' q1 q2 q3 => ⟨p, c, L, rfl, q1, q2, q3⟩)
  generalize HeadP w m = Post at HP ⊢
  generalize hdK (mv m) = HK at HHD HP
  clear hv hmay hm hh0 hh1 hK n1 n2 n3 n4 n5 n6 n7 n8 n9 n10 s1 s2 s3
  go_enter Tryd.func36, Tryd.ntmps36
  go_wp2_with fail
  have hS0 := (HI.out.on (Below.refl _ _).drew).five2
  refine wp_region_held_drew (S := fun X => X.cell? ⟨w.heap.size, 0, none⟩ = some (.int .i64 m.kind) ∧ X.cell? ⟨w.heap.size, 1, none⟩ = some (.int .i64 m.frm) ∧ X.cell? ⟨w.heap.size, 2, none⟩ = some (.int .i64 m.inc) ∧ X.cell? ⟨w.heap.size, 3, none⟩ = some (.int .i64 m.lo) ∧ X.cell? ⟨w.heap.size, 4, none⟩ = some (.int .i64 m.hi) ∧ Hid (InM w m X)) (by kernel_rfl) hS0 (fun hS => ?_)
  clear hS0 HI
  generalize (w.alloc (.cells #[.int .i64 m.kind, .int .i64 m.frm, .int .i64 m.inc, .int .i64 m.lo, .int .i64 m.hi, .int .i64 m.seq, .int .i64 m.tgt, .int .i64 m.life, .int .i64 m.epoch, .int .i64 m.base, .slice m.p m.recs.length m.cap] 26)).drew = wd at hS ⊢
  refine wpAnyH_take (i := 0) (v := ?v0_76) rfl (by kernel_rfl) (by kernel_rfl) (by kernel_rfl) (fun _ _ _ h => h) (Or.inl ⟨by rfl, ?hy0_76⟩) (by assumption) ?rest0_76
  case hy0_76 => (intro w hSw; (try dsimp only at hSw); go_simp; try (with_reducible rfl))
  simp only [Act.put, List.getElem_toArray, List.getElem_cons_zero, List.getElem_cons_succ, List.setIfInBounds_toArray, List.set_cons_zero, List.set_cons_succ]
  refine wpAnyH_take (i := 1) (v := ?v1_77) rfl (by kernel_rfl) (by kernel_rfl) (by kernel_rfl) (fun _ _ _ h => h) (Or.inl ⟨by rfl, ?hy1_77⟩) (by assumption) ?rest1_77
  case hy1_77 => (intro w hSw; (try dsimp only at hSw); go_simp; try (with_reducible rfl))
  simp only [Act.put, List.getElem_toArray, List.getElem_cons_zero, List.getElem_cons_succ, List.setIfInBounds_toArray, List.set_cons_zero, List.set_cons_succ]
  refine wpAnyH_take (i := 3) (v := ?v3_78) rfl (by kernel_rfl) (by kernel_rfl) (by kernel_rfl) (fun _ _ _ h => h) (Or.inl ⟨by rfl, ?hy3_78⟩) (by assumption) ?rest3_78
  case hy3_78 => (intro w hSw; (try dsimp only at hSw); go_simp; try (with_reducible rfl))
  simp only [Act.put, List.getElem_toArray, List.getElem_cons_zero, List.getElem_cons_succ, List.setIfInBounds_toArray, List.set_cons_zero, List.set_cons_succ]
  refine wpAnyH_take (i := 4) (v := ?v4_79) rfl (by kernel_rfl) (by kernel_rfl) (by kernel_rfl) (fun _ _ _ h => h) (Or.inl ⟨by rfl, ?hy4_79⟩) (by assumption) ?rest4_79
  case hy4_79 => (intro w hSw; (try dsimp only at hSw); go_simp; try (with_reducible rfl))
  simp only [Act.put, List.getElem_toArray, List.getElem_cons_zero, List.getElem_cons_succ, List.setIfInBounds_toArray, List.set_cons_zero, List.set_cons_succ]
  refine wpAnyH_take (i := 6) (v := ?v6_80) rfl (by kernel_rfl) (by kernel_rfl) (by kernel_rfl) (fun _ _ _ h => h) (Or.inl ⟨by rfl, ?hy6_80⟩) (by assumption) ?rest6_80
  case hy6_80 => (intro w hSw; (try dsimp only at hSw); go_simp; try (with_reducible rfl))
  simp only [Act.put, List.getElem_toArray, List.getElem_cons_zero, List.getElem_cons_succ, List.setIfInBounds_toArray, List.set_cons_zero, List.set_cons_succ]
  refine wpAnyH_take (i := 7) (v := ?v7_81) rfl (by kernel_rfl) (by kernel_rfl) (by kernel_rfl) (fun _ _ _ h => h) (Or.inl ⟨by rfl, ?hy7_81⟩) (by assumption) ?rest7_81
  case hy7_81 => (intro w hSw; (try dsimp only at hSw); go_simp; try (with_reducible rfl))
  simp only [Act.put, List.getElem_toArray, List.getElem_cons_zero, List.getElem_cons_succ, List.setIfInBounds_toArray, List.set_cons_zero, List.set_cons_succ]
  refine wpAnyH_take (i := 9) (v := ?v9_82) rfl (by kernel_rfl) (by kernel_rfl) (by kernel_rfl) (fun _ _ _ h => h) (Or.inl ⟨by rfl, ?hy9_82⟩) (by assumption) ?rest9_82
  case hy9_82 => (intro w hSw; (try dsimp only at hSw); go_simp; try (with_reducible rfl))
  simp only [Act.put, List.getElem_toArray, List.getElem_cons_zero, List.getElem_cons_succ, List.setIfInBounds_toArray, List.set_cons_zero, List.set_cons_succ]
  refine wpAnyH_take (i := 10) (v := ?v10_83) rfl (by kernel_rfl) (by kernel_rfl) (by kernel_rfl) (fun _ _ _ h => h) (Or.inl ⟨by rfl, ?hy10_83⟩) (by assumption) ?rest10_83
  case hy10_83 => (intro w hSw; (try dsimp only at hSw); go_simp; try (with_reducible rfl))
  simp only [Act.put, List.getElem_toArray, List.getElem_cons_zero, List.getElem_cons_succ, List.setIfInBounds_toArray, List.set_cons_zero, List.set_cons_succ]
  refine wpAnyH_ready (rs := [2]) (by kernel_rfl) (by simp) ?_
  refine (AllReadyH.cons rfl (fun K hK => ?_) AllReadyH.nil)
  go_simp
  refine (tnum_ok 1 1 m.kind wd (by decide) (by omega) (by omega) (by have := HNUM.out.1; omega) (lt1 (by have := HNUM.out.1; omega)) (by have := HNUM.out.1; omega) 1 rfl).mono ?_
  rintro e x2 ⟨p1, c1, rfl, hf1, ho1, hb2⟩
  have HI2 := (hS.2.2.2.2.2.out.on hb2).five2
  have HF2 := Hid.mk' hf1
  clear hf1 ho1 hb2
  go_wp2_with fail
  refine hK.out _ _ ?_ (fun hS' => ?_)
  · exact HI2
  clear hK K
  try simp only [Act.put, List.getElem_toArray, List.getElem_cons_zero, List.getElem_cons_succ, List.setIfInBounds_toArray, List.set_cons_zero, List.set_cons_succ]
  replace hS := hS'
  clear hS'
  refine wpAnyH_ready (rs := [5]) (by kernel_rfl) (by simp) ?_
  refine (AllReadyH.cons rfl (fun K hK => ?_) AllReadyH.nil)
  go_simp
  refine (tnum_ok 2 2 m.frm x2 (by decide) (by omega) (by omega) HNUM.out.2.1.1 (lt2 (by have := HNUM.out.2.1.2; omega)) (by have := HNUM.out.2.1.2; omega) 2 rfl).mono ?_
  rintro e x5 ⟨p2, c2, rfl, hf5, ho5, hb5⟩
  have HI5 := (hS.2.2.2.2.2.out.on hb5).five2
  have HF5 := Hid.mk' (And.intro (HF2.out.below hb5) hf5)
  clear hf5 ho5 hb5 HI2 HF2
  go_wp2_with fail
  refine hK.out _ _ ?_ (fun hS' => ?_)
  · exact HI5
  clear hK K
  try simp only [Act.put, List.getElem_toArray, List.getElem_cons_zero, List.getElem_cons_succ, List.setIfInBounds_toArray, List.set_cons_zero, List.set_cons_succ]
  replace hS := hS'
  clear hS'
  refine wpAnyH_ready (rs := [8]) (by kernel_rfl) (by simp) ?_
  refine (AllReadyH.cons rfl (fun K hK => ?_) AllReadyH.nil)
  go_simp
  refine (tnum_ok 3 6 m.inc x5 (by decide) (by omega) (by omega) HNUM.out.2.2.1.1 (lt6 HNUM.out.2.2.1.2) HNUM.out.2.2.1.2 6 rfl).mono ?_
  rintro e x8 ⟨p3, c3, rfl, hf8, ho8, hb8⟩
  have HI8 := (hS.2.2.2.2.2.out.on hb8).five2
  have HF8 := Hid.mk' (And.intro (HF5.out.1.below hb8) (And.intro (HF5.out.2.below hb8) hf8))
  clear hf8 ho8 hb8 HI5 HF5
  go_wp2_with fail
  refine hK.out _ _ ?_ (fun hS' => ?_)
  · exact HI8
  clear hK K
  try simp only [Act.put, List.getElem_toArray, List.getElem_cons_zero, List.getElem_cons_succ, List.setIfInBounds_toArray, List.set_cons_zero, List.set_cons_succ]
  replace hS := hS'
  clear hS'
  refine wpAnyH_ready (rs := [11]) (by kernel_rfl) (by simp) ?_
  refine (AllReadyH.cons rfl (fun K hK => ?_) AllReadyH.nil)
  go_simp
  refine (HCO.out x8).mono ?_
  rintro e x11 ⟨rfl, hb11⟩
  have HI11 := (hS.2.2.2.2.2.out.on hb11).five2
  have HF11 := Hid.mk' (And.intro (HF8.out.1.below hb11) (And.intro (HF8.out.2.1.below hb11) (HF8.out.2.2.below hb11)))
  clear hb11 HI8 HF8
  go_wp2_with fail
  refine hK.out _ _ ?_ (fun hS' => ?_)
  · exact HI11
  clear hK K
  try simp only [Act.put, List.getElem_toArray, List.getElem_cons_zero, List.getElem_cons_succ, List.setIfInBounds_toArray, List.set_cons_zero, List.set_cons_succ]
  replace hS := hS'
  clear hS'
  refine wpAnyH_ready (rs := [12]) (by kernel_rfl) (by simp) ?_
  refine (AllReadyH.cons rfl (fun K hK => ?_) AllReadyH.nil)
  go_simp
  refine (tnum_ok 4 1 (16 * m.lo + m.hi) x11 (by decide) (by omega) (by omega) (by have := HSP.out; omega) (lt1 (by have := HSP.out; omega)) (by have := HSP.out; omega) 1 rfl).mono ?_
  rintro e x12 ⟨p4, c4, rfl, hf12, ho12, hb12⟩
  have HI12 := (hS.2.2.2.2.2.out.on hb12).five2
  have HO12 := Hid.mk' (OwnF.laid x12 [⟨1, p1, c1, digB 1 m.kind⟩, ⟨2, p2, c2, digB 2 m.frm⟩, ⟨3, p3, c3, digB 6 m.inc⟩, ⟨4, p4, c4, digB 1 (16 * m.lo + m.hi)⟩] x12.heap.size rfl #[.int .i64 1, .slice p1 1 c1, .int .i64 2, .slice p2 2 c2, .int .i64 3, .slice p3 6 c3, .int .i64 4, .slice p4 1 c4] (by simp [cellsF, Fd.cells, digB_len]) (by simp) (by
    intro f hf
    simp only [List.mem_cons, List.not_mem_nil, or_false] at hf
    rcases hf with rfl | rfl | rfl | rfl
    · exact HF11.out.1.below hb12
    · exact HF11.out.2.1.below hb12
    · exact HF11.out.2.2.below hb12
    · exact hf12) 4 rfl)
  clear hf12 ho12 hb12 HI11 HF11
  go_wp2_with fail
  refine hK.out _ _ ?_ (fun hS' => ?_)
  · exact HI12
  clear hK K
  try simp only [Act.put, List.getElem_toArray, List.getElem_cons_zero, List.getElem_cons_succ, List.setIfInBounds_toArray, List.set_cons_zero, List.set_cons_succ]
  replace hS := hS'
  clear hS'
  refine wpAnyH_ready (rs := [13]) (by kernel_rfl) (by simp) ?_
  refine (AllReadyH.cons rfl (fun K hK => ?_) AllReadyH.nil)
  go_simp
  have HI13 := (hS.2.2.2.2.2.out.on ((Below.refl _ _).alloc (Nat.le_refl _) (.cells #[.int .i64 1, .slice p1 1 c1, .int .i64 2, .slice p2 2 c2, .int .i64 3, .slice p3 6 c3, .int .i64 4, .slice p4 1 c4] 55))).five2
  have HLT13 := Hid.mk' (show w.heap.size < x12.heap.size from (Array.getElem?_eq_some_iff.1 hS.2.2.2.2.2.out.box).1)
  clear HI12
  refine hK.out _ _ ?_ (fun hS' => ?_)
  · exact HI13
  clear hK K
  try simp only [Act.put, List.getElem_toArray, List.getElem_cons_zero, List.getElem_cons_succ, List.setIfInBounds_toArray, List.set_cons_zero, List.set_cons_succ]
  replace hS := hS'
  clear hS'
  refine wpAnyH_take (i := 14) (v := ?v14_84) rfl (by kernel_rfl) (by kernel_rfl) (by kernel_rfl) (fun _ _ _ h => h) (Or.inl ⟨by rfl, ?hy14_84⟩) (by assumption) ?rest14_84
  case hy14_84 => (intro w hSw; (try dsimp only at hSw); go_simp; try (with_reducible rfl))
  simp only [Act.put, List.getElem_toArray, List.getElem_cons_zero, List.getElem_cons_succ, List.setIfInBounds_toArray, List.set_cons_zero, List.set_cons_succ]
  refine wpAnyH_done (by kernel_rfl) ?_ _
  have HX := hS.2.2.2.2.2
  have HKL := Hid.mk' (HKY.out p1 p2 p3 p4 c1 c2 c3 c4)
  clear hS HI13 HKY
  obtain ⟨x13, hx13⟩ : ∃ x, x12.alloc (.cells #[.int .i64 1, .slice p1 1 c1, .int .i64 2, .slice p2 2 c2, .int .i64 3, .slice p3 6 c3, .int .i64 4, .slice p4 1 c4] 55) = x := ⟨_, rfl⟩
  obtain ⟨g, hg⟩ : ∃ g, x12.heap.size = g := ⟨_, rfl⟩
  rw [hx13] at HX HO12 ⊢
  rw [hg] at HO12 HLT13 ⊢
  clear hx13 hg
  obtain ⟨L4, hL4⟩ : ∃ L4 : List Fd, [⟨1, p1, c1, digB 1 m.kind⟩, ⟨2, p2, c2, digB 2 m.frm⟩, ⟨3, p3, c3, digB 6 m.inc⟩, ⟨4, p4, c4, digB 1 (16 * m.lo + m.hi)⟩] = L4 := ⟨_, rfl⟩
  have hn4 : L4.length = 4 := by rw [← hL4]; rfl
  rw [hL4] at HKL HO12
  have HN4 := Hid.mk' hn4
  have HOW := Hid.mk' (show OwnF (w.heap.size + 1) x13 (.slice (some ⟨g, 0, none⟩) 4 4) L4 from ⟨⟨HO12.out.own.owns, fun k hk => by have := HO12.out.own.above k hk; have := HLT13.out; omega⟩, HO12.out.oks, HO12.out.off⟩)
  clear hL4 hn4 HO12
  obtain ⟨K4, hK4⟩ : ∃ K4, [itm 1 1 m.kind, itm 2 2 m.frm, itm 3 6 m.inc, itm 4 1 (m.lo * 16 + m.hi)] = K4 := ⟨_, rfl⟩
  rw [hK4] at HKL HHD
  clear hK4
  obtain ⟨e0, e1, e2, e3, e4, e5, e6, e7, e8, e9, e10⟩ := mbox_cells HX.out.box
  go_wp2_with fail
  refine (M0.out x13 HX.out).mono ?_
  rintro e x14 ⟨rfl, rfl⟩
  go_upto_if 20 with fail
  go_cut [3] (fun v wx => ∃ p c L, v = .slice p (List.length L) c ∧ Hid (OwnF (w.heap.size + 1) wx (.slice p L.length c) L) ∧ Hid (kys L = K4 ++ (if h0 = true then [itm 5 2 m.seq] else [])) ∧ Hid (L.length ≤ 5) ∧ Hid (InM w m wx))
  case first =>
    cases h0
    · clear e0 e1 e2 e3 e4 e5 e6 e7 e8 e9 e10
      go_wp2_with fail
      go_meet
      exact ⟨some ⟨g, 0, none⟩, 4, L4, by rw [HN4.out], by rw [HN4.out]; exact HOW, by rw [if_neg (by simp), List.append_nil]; exact HKL, by rw [HN4.out]; exact Hid.mk' (by omega), HX⟩
    · have TN := tnum_ok 5 2 m.seq x13 (by decide) (by omega) (by omega) HNUM.out.2.2.2.1.1 (lt2 HNUM.out.2.2.2.1.2) (by have := HNUM.out.2.2.2.1.2; omega) 2 rfl
      go_wp2_with fail
      refine TN.mono ?_
      clear TN e0 e1 e2 e3 e4 e5 e6 e7 e8 e9 e10
      rintro e x15 ⟨p5, c5, rfl, hf5, ho5, hb5⟩
      have HOFF := Hid.mk' (show ∀ a, p5 = some a → (Value.slice (some ⟨g, 0, none⟩) 4 4).ownBlock ≠ some a.block from fun a ha => own_ne HOW.out.own a.block (ho5 a ha))
      have HO5 := Hid.mk' (HOW.out.on hb5)
      have HX5 := Hid.mk' (HX.out.on hb5)
      have HF5 := Hid.mk' hf5
      clear hb5 hf5 ho5 HOW HX
      go_wp2_with (at_builtin; refine wpList_addN (by rfl) (.tmp 21) (.tmp 25) (by rfl) (by rfl) HO5.out HX5.out.lt 5 p5 2 c5 (digB 2 m.seq) (digB_len _ _) HF5.out (fun _ => HOFF.out) (by rfl) (by have := HN4.out; omega) ?_)
      intro v16 x16 hO16 hb16
      obtain ⟨p16, c16, rfl, _⟩ := hO16.fin2
      have HX16 := Hid.mk' (HX5.out.onB hb16)
      have hl16 : (L4 ++ [(⟨5, p5, c5, digB 2 m.seq⟩ : Fd)]).length = 5 := by rw [List.length_append, HN4.out]; rfl
      have HK16 := Hid.mk' (show kys (L4 ++ [(⟨5, p5, c5, digB 2 m.seq⟩ : Fd)]) = K4 ++ [itm 5 2 m.seq] by rw [kys_append, HKL.out]; rfl)
      generalize L4 ++ [(⟨5, p5, c5, digB 2 m.seq⟩ : Fd)] = L5 at hO16 hl16 HK16
      have HO16 := Hid.mk' hO16
      have HN16 := Hid.mk' hl16
      clear hO16 hb16 hl16 HO5 HX5 HF5 HOFF
      go_wp2_with fail
      go_meet
      exact ⟨p16, c16, L5, rfl, HO16, by rw [if_pos trivial]; exact HK16, Hid.mk' (by have := HN16.out; omega), HX16⟩
  case rest =>
  obtain ⟨p5, c5, L5, rfl, HO5, HK5, HN5, HX5⟩ := hcut
  clear e0 e1 e2 e3 e4 e5 e6 e7 e8 e9 e10 HX HOW M0 HKL HN4
  obtain ⟨K5, hK5⟩ : ∃ K5, K4 ++ (if h0 = true then [itm 5 2 m.seq] else []) = K5 := ⟨_, rfl⟩
  rw [hK5] at HK5 HHD
  clear hK5
  obtain ⟨e0, e1, e2, e3, e4, e5, e6, e7, e8, e9, e10⟩ := mbox_cells HX5.out.box
  go_wp2_with fail
  refine (M1.out wc HX5.out).mono ?_
  rintro e x14 ⟨rfl, rfl⟩
  go_upto_if 29 with fail
  go_cut [3] (fun v wx => ∃ p c L, v = .slice p (List.length L) c ∧ Hid (OwnF (w.heap.size + 1) wx (.slice p L.length c) L) ∧ Hid (kys L = K5 ++ (if h1 = true then [itm 6 2 m.tgt] else [])) ∧ Hid (InM w m wx))
  case first =>
    cases h1
    · clear e0 e1 e2 e3 e4 e5 e6 e7 e8 e9 e10
      go_wp2_with fail
      go_meet
      exact ⟨p5, c5, L5, rfl, HO5, by rw [if_neg (by simp), List.append_nil]; exact HK5, HX5⟩
    · have TN := tnum_ok 6 2 m.tgt wc (by decide) (by omega) (by omega) HNUM.out.2.2.2.2.1 (lt2 (by have := HNUM.out.2.2.2.2.2; omega)) (by have := HNUM.out.2.2.2.2.2; omega) 2 rfl
      go_wp2_with fail
      refine TN.mono ?_
      clear TN e0 e1 e2 e3 e4 e5 e6 e7 e8 e9 e10
      rintro e x15 ⟨p6, c6, rfl, hf6, ho6, hb6⟩
      have HOFF := Hid.mk' (show ∀ a, p6 = some a → (Value.slice p5 L5.length c5).ownBlock ≠ some a.block from fun a ha => own_ne HO5.out.own a.block (ho6 a ha))
      have HO6 := Hid.mk' (HO5.out.on hb6)
      have HX6 := Hid.mk' (HX5.out.on hb6)
      have HF6 := Hid.mk' hf6
      clear hb6 hf6 ho6 HO5 HX5
      go_wp2_with (at_builtin; refine wpList_addN (by rfl) (.tmp 30) (.tmp 34) (by rfl) (by rfl) HO6.out HX6.out.lt 6 p6 2 c6 (digB 2 m.tgt) (digB_len _ _) HF6.out (fun _ => HOFF.out) (by rfl) (by have := HN5.out; omega) ?_)
      intro v16 x16 hO16 hb16
      obtain ⟨p16, c16, rfl, _⟩ := hO16.fin2
      have HX16 := Hid.mk' (HX6.out.onB hb16)
      have HK16 := Hid.mk' (show kys (L5 ++ [(⟨6, p6, c6, digB 2 m.tgt⟩ : Fd)]) = K5 ++ [itm 6 2 m.tgt] by rw [kys_append, HK5.out]; rfl)
      generalize L5 ++ [(⟨6, p6, c6, digB 2 m.tgt⟩ : Fd)] = L6 at hO16 HK16
      have HO16 := Hid.mk' hO16
      clear hO16 hb16 HO6 HX6 HF6 HOFF
      go_wp2_with fail
      go_meet
      exact ⟨p16, c16, L6, rfl, HO16, by rw [if_pos trivial]; exact HK16, HX16⟩
  case rest =>
  obtain ⟨p6, c6, L6, rfl, HO6, HK6, HX6⟩ := hcut
  clear e0 e1 e2 e3 e4 e5 e6 e7 e8 e9 e10 HX5 HO5 M1
  have HQ := Hid.mk' (HP.out p6 c6 L6 wc ⟨⟨HO6.out.own.owns, fun k hk => by have := HO6.out.own.above k hk; omega⟩, HO6.out.oks, HO6.out.off⟩ (by rw [HK6.out, HHD.out]) HX6.out.below)
  clear HO6 HK6 HX6
  go_wp2_with fail
  first | exact HQ.out | (go_ret; exact HQ.out)
end Go.Proofs.YtmejfkhikgcgmaaDoor
namespace Go.Proofs.YtmejfkhikgcgmaaDoor
open Go.RowKit
set_option linter.unusedSimpArgs false
set_option linter.unusedVariables false
set_option maxRecDepth 10000
set_option synthInstance.maxSize 2000

theorem hdK_len (x : MV) : (hdK x).length ≤ 6 := by
  unfold hdK
  simp only [List.length_append, List.length_cons, List.length_nil]
  split <;> split <;> simp
theorem recK_next (l : List Rc) (k : Nat) (h : k < l.length) : (rks (l.take (k + 1))).map recK2 = (rks (l.take k)).map recK2 ++ [recK2 (rk (l.getD k zr))] := by
  rw [rtake_next l k h, rks_append, List.map_append]
  rfl
theorem items_flt {x : MV} (h : x.may) : fltL (itemsK x) = 0 := fltL_of fun y hy => by
  have hlist := list_may h.2.2
  rcases List.mem_append.1 hy with q | q
  · simp only [hdK, List.mem_append, List.mem_cons] at q
    rcases q with (q | q) | q
    · rcases q with rfl | rfl | rfl | rfl | q
      · exact itm_flt _ _ _ (by omega) (by omega) (by omega)
      · exact itm_flt _ _ _ (by omega) (by omega) (by omega)
      · exact itm_flt _ _ _ (by omega) (by omega) (by omega)
      · exact itm_flt _ _ _ (by omega) (by omega) (by omega)
      · cases q
    · split at q
      · simp at q; subst q; exact itm_flt _ _ _ (by omega) (by omega) (by omega)
      · cases q
    · split at q
      · simp at q; subst q; exact itm_flt _ _ _ (by omega) (by omega) (by omega)
      · cases q
  · obtain ⟨r, hr, rfl⟩ := List.mem_map.1 q
    refine fltK_of (by simp [recK2]) (by simp [recK2]) ?_
    have hm := hlist.2 r hr
    have hb : mayK r.bag = true := by simp only [mayR, Bool.and_eq_true] at hm; exact hm.1.2
    simp only [mayK, Bool.and_eq_true, decide_eq_true_eq] at hb
    have e : (innerB r).length = 3 * (r.bag.length + 4) + (8 + szK r.bag) := by
      rw [innerB, joinK_len]
      have e1 : (inK r).length = r.bag.length + 4 := rfl
      have e2 : szK (inK r) = (itm 1 2 r.id).2.length + ((itm 2 4 r.inc).2.length + ((itm 3 1 (stB2 r)).2.length + ((itm 4 1 (r.lo * 16 + r.hi)).2.length + szK r.bag))) := rfl
      rw [e1, e2]; simp only [itm_len]; omega
    show (innerB r).length ≤ 65535
    omega

set_option maxHeartbeats 8000000 in
theorem gbody2_any (m : Mg) (w : World) (hm : MOk w m) (hf : (mv m).fit2) (hK : Kd w) :
    Calls Tryd.prog 20 #[.agg #[.int .i64 m.kind, .int .i64 m.frm, .int .i64 m.inc, .int .i64 m.lo, .int .i64 m.hi, .int .i64 m.seq, .int .i64 m.tgt, .int .i64 m.life, .int .i64 m.epoch, .int .i64 m.base, .slice m.p m.recs.length m.cap]] w fun e w' => ∃ g, e = .returned (.slice (some ⟨g, 0, none⟩) (body2 (mv m)).length (body2 (mv m)).length) ∧ BIn w' (some ⟨g, 0, none⟩) (body2 (mv m)) ∧ Below w.heap.size w w' := by
  have hmay := (may_mv m).2 hf.1
  have hlist := list_may hf.1.2.2
  have hR : ∀ k, k < m.recs.length → mayR (rk (m.recs.getD k zr)) = true ∧ (m.recs.getD k zr).inc ≤ 4294967295 := fun k hk => by
    have hmem : rk (m.recs.getD k zr) ∈ (mv m).recs := by simp only [mv, rks, List.mem_map]; exact ⟨m.recs.getD k zr, by simp [List.getD, hk], rfl⟩
    exact ⟨hlist.2 _ hmem, hf.2.2.2.2.2.1 _ hmem⟩
  have HR := Hid.mk' hR
  have hl255 : m.recs.length ≤ 255 := by have := hlist.1; simpa [mv, rks_len] using this
  have HFL := Hid.mk' (items_flt hf.1)
  have HIT := Hid.mk' (show itemsK (mv m) = hdK (mv m) ++ (rks m.recs).map recK2 from rfl)
  have HLB := Hid.mk' hf.2.2.2.2.2.2
  have HBD := Hid.mk' (show joinK (itemsK (mv m)) = body2 (mv m) from rfl)
  have HHL := Hid.mk' (hdK_len (mv m))
  have HI := Hid.mk' (InM.start w m)
  have HRN := Hid.mk' hm.rin
  have GH := ghead2_any m (w.alloc (.cells #[.int .i64 m.kind, .int .i64 m.frm, .int .i64 m.inc, .int .i64 m.lo, .int .i64 m.hi, .int .i64 m.seq, .int .i64 m.tgt, .int .i64 m.life, .int .i64 m.epoch, .int .i64 m.base, .slice m.p m.recs.length m.cap] 26)) (hm.below HI.out.below) hmay (hK.below HI.out.below)
  obtain ⟨np, hnp⟩ : ∃ np, HeadP (w.alloc (.cells #[.int .i64 m.kind, .int .i64 m.frm, .int .i64 m.inc, .int .i64 m.lo, .int .i64 m.hi, .int .i64 m.seq, .int .i64 m.tgt, .int .i64 m.life, .int .i64 m.epoch, .int .i64 m.base, .slice m.p m.recs.length m.cap] 26)) m = np := ⟨_, rfl⟩
  have HNP := Hid.mk' hnp
  rw [hnp] at GH
  generalize body2 (mv m) = R at HLB HBD ⊢
  generalize itemsK (mv m) = IK at HFL HIT HBD
  have hs1 : (w.alloc (.cells #[.int .i64 m.kind, .int .i64 m.frm, .int .i64 m.inc, .int .i64 m.lo, .int .i64 m.hi, .int .i64 m.seq, .int .i64 m.tgt, .int .i64 m.life, .int .i64 m.epoch, .int .i64 m.base, .slice m.p m.recs.length m.cap] 26)).heap.size = w.heap.size + 1 := by simp
  have HS1 := Hid.mk' hs1
  clear hlist hmay hm hR hK hf hnp hs1
  go_enter Tryd.func20, Tryd.ntmps20
  go_wp2_with fail
  refine GH.mono ?_
  clear GH
  intro e w1 hh
  rw [← HNP.out] at hh
  obtain ⟨p1, c1, L1, rfl, hO, hk1, hb1⟩ := hh
  rw [HS1.out] at hO
  have HO1 := Hid.mk' hO
  have HK1 := Hid.mk' hk1
  have HI1 := Hid.mk' (HI.out.on hb1)
  clear hO hk1 hb1 HI HNP HS1
  generalize hdK (mv m) = HD at HIT HHL HK1
  obtain ⟨e0, e1, e2, e3, e4, e5, e6, e7, e8, e9, e10⟩ := mbox_cells HI1.out.box
  go_wp2_with fail
  clear e0 e1 e2 e3 e4 e5 e6 e7 e8 e9 e10
  go_loopw [3, 13] (fun v i W => ∃ (k : Nat) (p : Option Addr) (c : Nat) (L : List Fd), k ≤ m.recs.length ∧ i = .int .i64 k ∧ v = .slice p L.length c ∧ Hid (OwnF (w.heap.size + 1) W (.slice p L.length c) L) ∧ Hid (kys L = HD ++ (rks (m.recs.take k)).map recK2) ∧ Hid (InM w m W)) (fun _ i _ => m.recs.length - (intOf i).toNat)
  case atStart => exact ⟨0, p1, c1, L1, by omega, rfl, rfl, HO1, by simpa [rks] using HK1, HI1⟩
  case round =>
    obtain ⟨k, p, c, L, hk, rfl, rfl, HO, HK, HX⟩ := hrel
    clear HO1 HI1 HK1
    have hLl : L.length ≤ 300 := by
      have h1 := congrArg List.length HK.out
      rw [kys_len, List.length_append, List.length_map, rks_len, List.length_take] at h1
      have := HHL.out
      omega
    by_cases t : k < m.recs.length
    · obtain ⟨b, o, hbo, hc⟩ := (HRN.out.below HX.out.below).at (by omega)
      obtain ⟨hx, hok⟩ := hc k t
      obtain ⟨hy, hyi⟩ := HR.out k t
      have HN := Hid.mk' (recK_next m.recs k t)
      rw [hbo]
      generalize m.recs.getD k zr = y at hx hok hy hyi HN
      obtain ⟨f0, f1, f2, f3, f4, f5, f6⟩ := hx
      have hba := (Below.refl wr.heap.size wr).alloc (Nat.le_refl _) (.cells #[.int .i64 y.id, .int .i64 y.inc, .int .i64 y.st, .int .i64 y.lo, .int .i64 y.hi, .bool y.cut, .slice y.p y.bag.length y.cap] 44)
      have HGB := Hid.mk' (heap_alloc_new wr (.cells #[.int .i64 y.id, .int .i64 y.inc, .int .i64 y.st, .int .i64 y.lo, .int .i64 y.hi, .bool y.cut, .slice y.p y.bag.length y.cap] 44))
      have RC := grecord2_any y (wr.alloc (.cells #[.int .i64 y.id, .int .i64 y.inc, .int .i64 y.st, .int .i64 y.lo, .int .i64 y.hi, .bool y.cut, .slice y.p y.bag.length y.cap] 44)) (hok.below hba) hy hyi
      have HIL := Hid.mk' (inner_len hy)
      have HIB := Hid.mk' (show isB (innerB (rk y)) from joinK_isB fun x hx => by
        have hfn := hok.fin
        simp only [inK, List.mem_cons] at hx
        rcases hx with rfl | rfl | rfl | rfl | hx
        · exact digB_isB _ _
        · exact digB_isB _ _
        · exact digB_isB _ _
        · exact digB_isB _ _
        · obtain ⟨f, hf, rfl⟩ := List.mem_map.1 (show x ∈ y.bag.map ky from hx)
          exact (hfn.every f hf).isb)
      have HO2 := Hid.mk' (HO.out.on hba)
      have HX2 := Hid.mk' (HX.out.on hba)
      have HKS := Hid.mk' (show kys L ++ [recK2 (rk y)] = HD ++ (rks (m.recs.take (k + 1))).map recK2 by rw [HN.out, HK.out, List.append_assoc])
      have HRK := Hid.mk' (show recK2 (rk y) = (7, innerB (rk y)) from rfl)
      generalize recK2 (rk y) = RK2 at HKS HRK
      generalize innerB (rk y) = I at RC HIL HIB HRK
      obtain ⟨d0, d1, d2, d3, d4, d5, d6⟩ := box_cells HGB.out
      clear hc hok hbo hy hyi HN hba HO HX HGB HK
      go_wp2_with fail
      refine RC.mono ?_
      clear RC f0 f1 f2 f3 f4 f5 f6 d0 d1 d2 d3 d4 d5 d6
      rintro e w4 ⟨g, rfl, hbi, hg, hb4⟩
      have HOFF := Hid.mk' (show ∀ a, (some ⟨g, 0, none⟩ : Option Addr) = some a → (Value.slice p L.length c).ownBlock ≠ some a.block from fun a ha => by cases ha; exact own_ne HO2.out.own g hg)
      have HF4 := Hid.mk' (show FOk w4 ⟨7, some ⟨g, 0, none⟩, I.length, I⟩ from ⟨(show (Lit.int .i64 7).wf = true by decide), Nat.le_refl _, by have := HIL.out; simp only [maxLen]; omega, by simp, hbi, HIB.out, by have := HIL.out; simp only; omega⟩)
      have HO4 := Hid.mk' (HO2.out.on hb4)
      have HX4 := Hid.mk' (HX2.out.on hb4)
      clear hbi hg hb4 HO2 HX2
      go_wp2_with (at_builtin; refine wpList_addN (by rfl) (.tmp 17) (.tmp 21) (by rfl) (by rfl) HO4.out HX4.out.lt 7 (some ⟨g, 0, none⟩) I.length I.length I rfl HF4.out (fun _ => HOFF.out) (by rfl) (by omega) ?_)
      intro v5 w5 hO5 hb5
      obtain ⟨p5, c5, rfl, _⟩ := hO5.fin2
      have HX5 := Hid.mk' (HX4.out.onB hb5)
      have HK5 := Hid.mk' (show kys (L ++ [(⟨7, some ⟨g, 0, none⟩, I.length, I⟩ : Fd)]) = HD ++ (rks (m.recs.take (k + 1))).map recK2 by rw [kys_append, ← HKS.out, HRK.out]; rfl)
      generalize L ++ [(⟨7, some ⟨g, 0, none⟩, I.length, I⟩ : Fd)] = L5 at hO5 HK5
      have HO5 := Hid.mk' hO5
      clear hO5 hb5 HO4 HX4 HF4 HOFF
      go_wp2_with fail
      go_roundw
      case rel => exact ⟨k + 1, p5, c5, L5, by omega, by go_num, rfl, HO5, HK5, HX5⟩
      case measure => simp [intOf]; omega
    · obtain rfl : k = m.recs.length := by omega
      rw [List.take_of_length_le (Nat.le_refl _), ← HIT.out] at HK
      obtain ⟨p9, c9, e9, hfin, _, _, _⟩ := HO.out.fin2
      simp only [Value.slice.injEq, true_and] at e9
      obtain ⟨rfl, rfl⟩ := e9
      have TJ := tjoin_any p c L wr hfin (by simp only [maxLen]; omega) (by rw [HK.out, HBD.out]; have := HLB.out; omega)
      rw [HK.out] at TJ
      have HJP := Hid.mk' (show ∀ e X, JoinP wr.heap.size IK e X → ∃ g, e = .returned (.tuple #[.slice (some ⟨g, 0, none⟩) R.length R.length, .int .i64 0]) ∧ BIn X (some ⟨g, 0, none⟩) R from fun e X h => by
        rcases h with ⟨_, g, h1, h2, _⟩ | ⟨h1, _⟩
        · rw [HBD.out] at h1 h2; exact ⟨g, h1, h2⟩
        · exact absurd HFL.out h1)
      have HXB := Hid.mk' HX.out.below
      clear hfin HO HK HX hLl
      go_wp2_with fail
      refine TJ.mono ?_
      clear TJ
      rintro e w9 ⟨hj, hb9⟩
      obtain ⟨g, rfl, hbi⟩ := HJP.out _ _ hj
      have HB9 := Hid.mk' (HXB.out.trans (hb9.mono HXB.out.size))
      have HBI := Hid.mk' hbi
      clear hbi hb9 hj HJP HXB
      go_wp2_with fail
      go_ret
      exact ⟨g, rfl, HBI.out, HB9.out⟩
set_option maxHeartbeats 4000000 in
theorem gencode2_any (m : Mg) (w : World) (hm : MOk w m) (hz : ∀ x ∈ m.recs, szK (kys x.bag) ≤ 4611686018427387904) (hK : Kd w) :
    Calls Tryd.prog 9 #[.agg #[.int .i64 m.kind, .int .i64 m.frm, .int .i64 m.inc, .int .i64 m.lo, .int .i64 m.hi, .int .i64 m.seq, .int .i64 m.tgt, .int .i64 m.life, .int .i64 m.epoch, .int .i64 m.base, .slice m.p m.recs.length m.cap]] w fun e w' => EncPost2 m w e w' := by
  have HI := Hid.mk' (InM.start w m)
  have V := fun X (h : InM w m X) => mvalid_any m X (hm.below h.below) hz (hK.below h.below)
  have R := Hid.mk' (fun (hy : mayM m = true) X (h : InM w m X) => groom_any m X (hm.below h.below) hy hz (hK.below h.below))
  have B := Hid.mk' (fun X (h : InM w m X) (hf : fit2 m = true) => gbody2_any m X (hm.below h.below) ((fit2_iff m).1 hf) (hK.below h.below))
  have HF := Hid.mk' (fit2_room m)
  have HBB := Hid.mk' (show fit2 m = true → isB (body2 (mv m)) ∧ (body2 (mv m)).length ≤ 65499 from fun hf => by
    have h := (fit2_iff m).1 hf
    refine ⟨joinK_isB fun x hx => ?_, h.2.2.2.2.2.2⟩
    rcases List.mem_append.1 hx with q | q
    · simp only [hdK, List.mem_append, List.mem_cons] at q
      rcases q with (q | q) | q
      · rcases q with rfl | rfl | rfl | rfl | q
        · exact digB_isB _ _
        · exact digB_isB _ _
        · exact digB_isB _ _
        · exact digB_isB _ _
        · cases q
      · split at q
        · simp at q; subst q; exact digB_isB _ _
        · cases q
      · split at q
        · simp at q; subst q; exact digB_isB _ _
        · cases q
    · obtain ⟨r, hr, rfl⟩ := List.mem_map.1 q
      obtain ⟨y, hy, rfl⟩ := List.mem_map.1 (show r ∈ m.recs.map rk from hr)
      have hfn := (hm.rin.oks y hy).fin
      refine joinK_isB fun z hz => ?_
      simp only [inK, List.mem_cons] at hz
      rcases hz with rfl | rfl | rfl | rfl | hz
      · exact digB_isB _ _
      · exact digB_isB _ _
      · exact digB_isB _ _
      · exact digB_isB _ _
      · obtain ⟨f, hf, rfl⟩ := List.mem_map.1 (show z ∈ y.bag.map ky from hz)
        exact (hfn.every f hf).isb)
  have HP := Hid.mk' (show ∀ p c (b : List Int) err w', BIn w' p b → isB b → (p = none → c = 0) → b.length ≤ c → c ≤ maxLen → b.length ≤ 100000 → Below w.heap.size w w' → EncOk2 m b err → EncPost2 m w (.returned (.tuple #[.slice p b.length c, .int .i64 err])) w' from fun p c b err w' h1 h2 h3 h4 h5 h6 h7 h8 => ⟨p, c, b, err, rfl, h1, h2, h3, h4, h5, h6, h7, h8⟩)
  have HE1 := Hid.mk' (show mayM m = false → EncOk2 m [] 1 from fun h => .inr (.inl ⟨h, rfl, rfl⟩))
  have HE2 := Hid.mk' (show mayM m = true → fit2 m = false → EncOk2 m [] 14 from fun h h2 => .inr (.inr ⟨h, h2, rfl, rfl⟩))
  have HE3 := Hid.mk' (show fit2 m = true → EncOk2 m (body2 (mv m)) 0 from fun h => .inl ⟨h, rfl, rfl⟩)
  generalize EncPost2 m w = Post at HP ⊢
  generalize EncOk2 m = EO at HP HE1 HE2 HE3
  obtain ⟨bd, hbd⟩ : ∃ bd, body2 (mv m) = bd := ⟨_, rfl⟩
  rw [hbd] at B HBB HE3
  generalize mayM m = v at V HF R HE1 HE2
  generalize roomM2 m = q at R HF
  generalize fit2 m = f at B HF HBB HE2 HE3
  clear hK hz hm hbd
  go_enter Tryd.func9, Tryd.ntmps9
  go_wp2_with fail
  refine (V _ HI.out).mono ?_
  rintro e w1 ⟨rfl, hb1⟩
  have HI1 := Hid.mk' (HI.out.on hb1)
  clear hb1 HI V
  cases v
  · have HQ := Hid.mk' (HP.out none 0 [] 1 w1 (BIn.empty _ _) isB.nil (fun _ => rfl) (Nat.le_refl _) (by simp [maxLen]) (by simp) HI1.out.below (HE1.out (by first | rfl | trivial)))
    clear R B HP HE1 HE2 HE3
    go_wp2_with fail
    exact HQ.out
  obtain ⟨c0, c1, c2, c3, c4, c5, c6, c7, c8, c9, c10⟩ := mbox_cells HI1.out.box
  go_wp2_with fail
  refine (R.out (by first | rfl | trivial) _ HI1.out).mono ?_
  clear c0 c1 c2 c3 c4 c5 c6 c7 c8 c9 c10
  rintro e w2 ⟨rfl, hb2⟩
  have HI2 := Hid.mk' (HI1.out.on hb2)
  clear hb2 HI1 R
  obtain rfl : f = q := by rw [HF.out]; simp
  cases f
  · have HQ := Hid.mk' (HP.out none 0 [] 14 w2 (BIn.empty _ _) isB.nil (fun _ => rfl) (Nat.le_refl _) (by simp [maxLen]) (by simp) HI2.out.below (HE2.out (by first | rfl | trivial) (by first | rfl | trivial)))
    clear B HP HE1 HE2 HE3
    go_wp2_with fail
    exact HQ.out
  have BX := B.out _ HI2.out (by first | rfl | trivial)
  clear B
  obtain ⟨c0, c1, c2, c3, c4, c5, c6, c7, c8, c9, c10⟩ := mbox_cells HI2.out.box
  go_wp2_with fail
  refine BX.mono ?_
  clear BX c0 c1 c2 c3 c4 c5 c6 c7 c8 c9 c10
  rintro e w3 ⟨g, rfl, hb3, hw3⟩
  have hbb := HBB.out (by first | rfl | trivial)
  have HQ := Hid.mk' (HP.out (some ⟨g, 0, none⟩) bd.length bd 0 w3 hb3 hbb.1 (by simp) (Nat.le_refl _) (by simp only [maxLen]; omega) (by omega) (HI2.out.below.trans (hw3.mono HI2.out.below.size)) (HE3.out (by first | rfl | trivial)))
  clear hb3 hw3 hbb HP HE1 HE2 HE3
  go_wp2_with fail
  exact HQ.out
end Go.Proofs.YtmejfkhikgcgmaaDoor
namespace Go.Proofs.YtmejfkhikgcgmaaDoor
open Go.RowKit
set_option linter.unusedSimpArgs false
set_option linter.unusedVariables false
set_option maxRecDepth 10000
set_option synthInstance.maxSize 2000

/-- All memory of a message lies from block B on. -/
def MMem (B : Nat) (m : Mg) : Prop := (0 < m.recs.length → ∀ a, m.p = some a → B ≤ a.block) ∧ ∀ r ∈ m.recs, ∀ i, RMem r i → B ≤ i
theorem RIn.frM {S : Nat → Prop} {W W' : World} {p : Option Addr} {l : List Rc} (h : RIn W p l) (k : Fr S W W') (h1 : 0 < l.length → ∀ a, p = some a → ¬ S a.block) (h2 : ∀ r ∈ l, ∀ i, RMem r i → ¬ S i) : RIn W' p l := by
  intro hl
  obtain ⟨b, o, hb, hc⟩ := h.at hl
  have hN := h1 hl ⟨b, o, none⟩ hb
  rw [hb]
  exact RIn.of (fun i hi => ⟨(hc i hi).1.fr k hN, (hc i hi).2.frM k (h2 _ (by simp [List.getD, hi]))⟩) hl
theorem MOk.frM {S : Nat → Prop} {W W' : World} {m : Mg} (h : MOk W m) (k : Fr S W W') (h1 : 0 < m.recs.length → ∀ a, m.p = some a → ¬ S a.block) (h2 : ∀ r ∈ m.recs, ∀ i, RMem r i → ¬ S i) : MOk W' m := by
  obtain ⟨a0, a1, a2, a3, a4, a5, a6, a7, a8, a9, b1, b2, b3, b4⟩ := h
  exact ⟨a0, a1, a2, a3, a4, a5, a6, a7, a8, a9, b1, b2, b3, b4.frM k h1 h2⟩

/-- What read answers. -/
def ReadP (w : World) (l : List Int) (e : Ending) (w' : World) : Prop :=
  ∃ m : Mg, ∃ ok : Bool, e = .returned (.tuple #[.agg #[.int .i64 m.kind, .int .i64 m.frm, .int .i64 m.inc, .int .i64 m.lo, .int .i64 m.hi, .int .i64 m.seq, .int .i64 m.tgt, .int .i64 m.life, .int .i64 m.epoch, .int .i64 m.base, .slice m.p m.recs.length m.cap], .bool ok]) ∧ MOk w' m ∧ (∀ x ∈ m.recs, szK (kys x.bag) ≤ 4611686018427387904) ∧ MMem w.heap.size m ∧ Below w.heap.size w w' ∧
    ((ok = true ∧ (fit2 m = true → Read2 l (mv m)) ∧ ∀ x, Read2 l x → x = mv m) ∨ (ok = false ∧ ∀ x, ¬ Read2 l x))

theorem hd2_wf {K : List Key} (hb : ∀ x ∈ K, isB x.2) : (Lit.int .i64 (h2k K)).wf = true ∧ (Lit.int .i64 (h2f K)).wf = true ∧ (Lit.int .i64 (h2n K)).wf = true ∧ (Lit.int .i64 (spO (h2c K)).1).wf = true ∧ (Lit.int .i64 (spO (h2c K)).2).wf = true ∧ (Lit.int .i64 (h2q K)).wf = true ∧ (Lit.int .i64 (h2t K)).wf = true := by
  have g0 := nv_range hb 1 1 0
  have g1 := nv_range hb 2 2 (h2i1 K)
  have g2 := nv_range hb 3 6 (h2i2 K)
  have g5 := nv_range hb 5 2 (h2i4 K)
  have g6 := nv_range hb 6 2 (h2i5 K)
  obtain ⟨⟨s1, s2⟩, s3, s4⟩ := spO_range (h2c K)
  refine ⟨wf_m1 (z := h2k K) g0.1 (by have : h2k K < 256 ^ 1 := g0.2; omega), wf_m1 (z := h2f K) g1.1 (by have : h2f K < 256 ^ 2 := g1.2; omega), wf_m1 (z := h2n K) g2.1 (by have : h2n K < 256 ^ 6 := g2.2; omega), wf_m1 (z := (spO (h2c K)).1) (by omega) (by omega), wf_m1 (z := (spO (h2c K)).2) (by omega) (by omega), ?_, ?_⟩
  · unfold h2q
    split
    · exact wf_m1 g5.1 (by omega)
    · decide
  · unfold h2t
    split
    · exact wf_m1 g6.1 (by omega)
    · decide
theorem own_row {B : Nat} {W : World} {v : Value} {L : List Rc} (h : OwnB B W v L) : ∀ p c, v = .slice p L.length c → 0 < L.length → ∀ a, p = some a → B ≤ a.block := fun p c e hl a ha => by
  subst e
  obtain ⟨_, _, e9, _, _, _, hpg⟩ := h.own.slice
  simp only [Value.slice.injEq, true_and] at e9
  obtain ⟨rfl, rfl⟩ := e9
  obtain ⟨g, hg, hgB, _⟩ := hpg hl
  rw [ha] at hg
  cases hg
  exact hgB

set_option maxHeartbeats 8000000 in
theorem gread2_any (p : Option Addr) (c : Nat) (l : List Int) (w : World) (hB : BIn w p l) (hb : isB l) (hl : l.length ≤ 100000) (hK : Kd w) :
    Calls Tryd.prog 28 #[.slice p l.length c] w fun e w' => ReadP w l e w' := by
  have HNO := Hid.mk' (show ∀ w', Below w.heap.size w w' → (∀ x, ¬ Read2 l x) → ReadP w l (.returned (.tuple #[.agg #[.int .i64 0, .int .i64 0, .int .i64 0, .int .i64 0, .int .i64 0, .int .i64 0, .int .i64 0, .int .i64 0, .int .i64 0, .int .i64 0, .slice none 0 0], .bool false])) w' from fun w' h1 h2 => ⟨zm, false, rfl, zm_ok _, by simp [zm], ⟨by simp [zm], by simp [zm]⟩, h1, .inr ⟨rfl, h2⟩⟩)
  have HY := Hid.mk' (show ∀ (m : Mg) ok w', MOk w' m → (∀ x ∈ m.recs, szK (kys x.bag) ≤ 4611686018427387904) → MMem w.heap.size m → Below w.heap.size w w' → ((ok = true ∧ (fit2 m = true → Read2 l (mv m)) ∧ ∀ x, Read2 l x → x = mv m) ∨ (ok = false ∧ ∀ x, ¬ Read2 l x)) → ReadP w l (.returned (.tuple #[.agg #[.int .i64 m.kind, .int .i64 m.frm, .int .i64 m.inc, .int .i64 m.lo, .int .i64 m.hi, .int .i64 m.seq, .int .i64 m.tgt, .int .i64 m.life, .int .i64 m.epoch, .int .i64 m.base, .slice m.p m.recs.length m.cap], .bool ok])) w' from fun m ok w' h1 h2 h3 h4 h5 => ⟨m, ok, rfl, h1, h2, h3, h4, h5⟩)
  generalize ReadP w l = Post at HNO HY ⊢
  have b0 := (Below.refl w.heap.size w).alloc (Nat.le_refl _) (.cells #[.int .i64 0, .int .i64 0, .int .i64 0, .int .i64 0, .int .i64 0, .int .i64 0, .int .i64 0, .int .i64 0, .int .i64 0, .int .i64 0, .slice none 0 0] 26)
  have HG1 := Hid.mk' (heap_alloc_new w (.cells #[.int .i64 0, .int .i64 0, .int .i64 0, .int .i64 0, .int .i64 0, .int .i64 0, .int .i64 0, .int .i64 0, .int .i64 0, .int .i64 0, .slice none 0 0] 26))
  have HB1 := Hid.mk' b0
  have SP := Hid.mk' (tsplit_any p c l _ (hB.below b0) hb (by omega))
  have HK := Hid.mk' hK
  have HIB := Hid.mk' hb
  clear hB hb hK b0
  generalize hw1 : w.alloc (.cells #[.int .i64 0, .int .i64 0, .int .i64 0, .int .i64 0, .int .i64 0, .int .i64 0, .int .i64 0, .int .i64 0, .int .i64 0, .int .i64 0, .slice none 0 0] 26) = w1 at HG1 HB1 SP
  by_cases u : l.length ≤ 65499
  case neg =>
    have u1 : (65499 : Int) < (l.length : Int) := by omega
    have HQ := Hid.mk' (HNO.out w1 HB1.out (fun x h => u (dec2_of h).1))
    have hr := HG1.out
    subst hw1
    clear HNO HY SP HK HIB u
    go_enter Tryd.func28, Tryd.ntmps28
    go_wp2_with (refine wpList_store_row rfl 26 (.tmp 2) (.tmp 14) rfl w.heap.size #[.int .i64 0, .int .i64 0, .int .i64 0, .int .i64 0, .int .i64 0, .int .i64 0, .int .i64 0, .int .i64 0, .int .i64 0, .int .i64 0, .slice none 0 0] rfl rfl 26 #[.int .i64 0, .int .i64 0, .int .i64 0, .int .i64 0, .int .i64 0, .int .i64 0, .int .i64 0, .int .i64 0, .int .i64 0, .int .i64 0, .slice none 0 0] hr (by kernel_rfl) rfl (by simp [Value.oneCell']) ?_; rw [setRow_self _ _ _ _ _ hr])
    obtain ⟨r0, r1, r2, r3, r4, r5, r6, r7, r8, r9, r10⟩ := mbox_cells (m := zm) hr
    simp only [zm, List.length_nil] at r0 r1 r2 r3 r4 r5 r6 r7 r8 r9 r10
    exact bodyPost_ret (v := .tuple #[.agg #[.int .i64 0, .int .i64 0, .int .i64 0, .int .i64 0, .int .i64 0, .int .i64 0, .int .i64 0, .int .i64 0, .int .i64 0, .int .i64 0, .slice none 0 0], .bool false]) (by simp [results, Tryd.results28, go_sem, r0, r1, r2, r3, r4, r5, r6, r7, r8, r9, r10]) rfl HQ.out
  case pos =>
    have u1 : ¬ (65499 : Int) < (l.length : Int) := by omega
    go_enter Tryd.func28, Tryd.ntmps28
    subst hw1
    go_wp2_with fail
    refine SP.out.mono ?_
    clear SP u1
    intro e w2 hsp
    obtain ⟨ps, cs, L, er, rfl, hown, hb2, hres⟩ := split_one hsp
    have HB2 := Hid.mk' (HB1.out.trans (hb2.mono HB1.out.size))
    have HG2 := Hid.mk' (box_bel HG1.out hb2)
    have HO := Hid.mk' hown
    have HW1 := Hid.mk' (show (w.alloc (.cells #[.int .i64 0, .int .i64 0, .int .i64 0, .int .i64 0, .int .i64 0, .int .i64 0, .int .i64 0, .int .i64 0, .int .i64 0, .int .i64 0, .slice none 0 0] 26)).heap.size = w.heap.size + 1 by simp)
    clear hsp hown hb2 HB1 HG1
    rcases hres with ⟨hsn, rfl, rfl⟩ | ⟨hsy, rfl⟩
    · have HQ := Hid.mk' (HNO.out w2 HB2.out (fun x h => by obtain ⟨_, K, hk, _⟩ := dec2_of h; rw [hsn] at hk; cases hk))
      have hr := HG2.out
      clear HNO HY HK HIB hsn
      go_wp2_with (refine wpList_store_row rfl 26 (.tmp 2) (.tmp 22) rfl w.heap.size #[.int .i64 0, .int .i64 0, .int .i64 0, .int .i64 0, .int .i64 0, .int .i64 0, .int .i64 0, .int .i64 0, .int .i64 0, .int .i64 0, .slice none 0 0] rfl rfl 26 #[.int .i64 0, .int .i64 0, .int .i64 0, .int .i64 0, .int .i64 0, .int .i64 0, .int .i64 0, .int .i64 0, .int .i64 0, .int .i64 0, .slice none 0 0] hr (by kernel_rfl) rfl (by simp [Value.oneCell']) ?_; rw [setRow_self _ _ _ _ _ hr])
      obtain ⟨r0, r1, r2, r3, r4, r5, r6, r7, r8, r9, r10⟩ := mbox_cells (m := zm) hr
      simp only [zm, List.length_nil] at r0 r1 r2 r3 r4 r5 r6 r7 r8 r9 r10
      exact bodyPost_ret (v := .tuple #[.agg #[.int .i64 0, .int .i64 0, .int .i64 0, .int .i64 0, .int .i64 0, .int .i64 0, .int .i64 0, .int .i64 0, .int .i64 0, .int .i64 0, .slice none 0 0], .bool false]) (by simp [results, Tryd.results28, go_sem, r0, r1, r2, r3, r4, r5, r6, r7, r8, r9, r10]) rfl HQ.out
    · obtain ⟨_, jb, jsb⟩ := join_split l.length l (kys L) (Nat.le_refl _) HIB.out hsy
      have jbl := joinK_len (kys L)
      rw [jb, kys_len] at jbl
      have HLN := Hid.mk' (show L.length ≤ 100000 ∧ ∀ f ∈ L, f.d.length ≤ 100000 from ⟨by omega, fun f hf => by
        have h1 := szK_mem (x := ky f) (List.mem_map_of_mem (f := ky) hf)
        have h2 : (ky f).2.length = f.d.length := rfl
        have h3 : szK (kys L) ≤ 100000 := by omega
        have h4 : (ky f).2.length ≤ szK (kys L) := h1
        omega⟩)
      have HJS := Hid.mk' jsb
      have HSY := Hid.mk' hsy
      obtain ⟨B, hBB⟩ : ∃ B, (w.alloc (.cells #[.int .i64 0, .int .i64 0, .int .i64 0, .int .i64 0, .int .i64 0, .int .i64 0, .int .i64 0, .int .i64 0, .int .i64 0, .int .i64 0, .slice none 0 0] 26)).heap.size = B := ⟨_, rfl⟩
      rw [hBB] at HO HW1
      have HBW := Hid.mk' (show B ≤ w2.heap.size by have h1 := HW1.out; have h2 := box_lt HG2.out; omega)
      have NB := gnumbers2_any ps cs L B w2 HO.out HBW.out
      have HFO := Hid.mk' (show ∀ f ∈ L, FOk w2 f from HO.out.own.oks)
      clear jb jbl jsb hsy HO HNO hBB
      obtain ⟨g, hg⟩ : ∃ g, w2.heap.size = g := ⟨_, rfl⟩
      have HGE := Hid.mk' hg
      have HGL := Hid.mk' (show w.heap.size < g by rw [← hg]; exact box_lt HG2.out)
      rw [hg] at NB
      clear hg
      go_wp2_with fail
      refine NB.mono ?_
      clear NB
      rintro e w3 ⟨rfl, hn3, hb3⟩
      rw [← HGE.out] at hb3
      have HN3 := Hid.mk' hn3
      have HG3 := Hid.mk' (box_bel HG2.out hb3)
      have HB3 := Hid.mk' (HB2.out.trans (hb3.mono HB2.out.size))
      clear hn3 hb3 HG2 HB2
      have RH := greadHead_any B g L w3 HN3.out (fun x hx => HJS.out x hx) (fun X hX => HK.out.below (HB3.out.trans (hX.below (fun i q => by have := HGL.out; omega) HB3.out.size)))
      obtain ⟨np, hnp⟩ : ∃ np, Head2P B g L w3 = np := ⟨_, rfl⟩
      have HNP := Hid.mk' hnp
      rw [hnp] at RH
      clear hnp
      go_wp2_with fail
      refine RH.mono ?_
      clear RH
      intro e w4 hh
      rw [← HNP.out] at hh
      obtain ⟨rfl, hn4, hf4⟩ := hh
      have HN4 := Hid.mk' hn4
      have HG4 := Hid.mk' (box_on HG3.out hf4 (by have := HGL.out; omega))
      have HB4 := Hid.mk' (HB3.out.trans (hf4.below (fun i q => by have := HGL.out; omega) HB3.out.size))
      clear hn4 hf4 HN3 HG3 HB3 HNP
      have HHV := Hid.mk' (show ∀ rs, hdV (kys L) rs = ⟨h2k (kys L), h2f (kys L), h2n (kys L), (spO (h2c (kys L))).1, (spO (h2c (kys L))).2, h2q (kys L), h2t (kys L), 0, 0, 0, rs⟩ from fun rs => rfl)
      have HYES := Hid.mk' (fun (rs : List RK) (h1 : recsP ((kys L).drop (h2i6 (kys L))) = some rs) (h2 : (hdV (kys L) rs).fit2) => dec2_yes HIB.out HSY.out h1 h2)
      have HOF := Hid.mk' (show ∀ x, Read2 l x → recsP ((kys L).drop (h2i6 (kys L))) = some x.recs ∧ hdV (kys L) x.recs = x from fun x h => by
        obtain ⟨_, K, hk, h1, h2⟩ := dec2_of h
        rw [HSY.out] at hk
        cases hk
        exact ⟨h1, h2⟩)
      have HWF := Hid.mk' (hd2_wf HJS.out)
      generalize h2k (kys L) = z0 at HHV HWF ⊢
      generalize h2f (kys L) = z1 at HHV HWF ⊢
      generalize h2n (kys L) = z2 at HHV HWF ⊢
      obtain ⟨y1, hy1⟩ : ∃ y, (spO (h2c (kys L))).1 = y := ⟨_, rfl⟩
      obtain ⟨y2, hy2⟩ : ∃ y, (spO (h2c (kys L))).2 = y := ⟨_, rfl⟩
      rw [hy1, hy2] at HHV HWF ⊢
      clear hy1 hy2
      generalize h2q (kys L) = z5 at HHV HWF ⊢
      generalize h2t (kys L) = z6 at HHV HWF ⊢
      generalize h2i6 (kys L) = i6 at HN4 HYES HOF
      have hba := (Below.refl w4.heap.size w4).alloc (Nat.le_refl _) (.cells #[.int .i64 z0, .int .i64 z1, .int .i64 z2, .int .i64 y1, .int .i64 y2, .int .i64 z5, .int .i64 z6, .int .i64 0, .int .i64 0, .int .i64 0, .slice none 0 0] 26)
      have HN5 := Hid.mk' (HN4.out.on hba)
      have HG5 := Hid.mk' (box_bel HG4.out hba)
      have HB5 := Hid.mk' (HB4.out.trans (hba.mono HB4.out.size))
      have HX5 := Hid.mk' (heap_alloc_new w4 (.cells #[.int .i64 z0, .int .i64 z1, .int .i64 z2, .int .i64 y1, .int .i64 y2, .int .i64 z5, .int .i64 z6, .int .i64 0, .int .i64 0, .int .i64 0, .slice none 0 0] 26))
      have HG8 := Hid.mk' (show w.heap.size < w4.heap.size from box_lt HG4.out)
      obtain ⟨g8, hg8⟩ : ∃ g8, w4.heap.size = g8 := ⟨_, rfl⟩
      rw [hg8] at HX5 HG8
      have HG8E := Hid.mk' hg8
      clear hba HN4 HG4 HB4 hg8
      obtain ⟨w5, hw5⟩ : ∃ x, w4.alloc (.cells #[.int .i64 z0, .int .i64 z1, .int .i64 z2, .int .i64 y1, .int .i64 y2, .int .i64 z5, .int .i64 z6, .int .i64 0, .int .i64 0, .int .i64 0, .slice none 0 0] 26) = x := ⟨_, rfl⟩
      rw [hw5] at HN5 HG5 HB5 HX5
      have HW5E := Hid.mk' hw5
      clear hw5
      obtain ⟨p9, c9, hcg, hfin9, hlc9, hcm9, hp9, hbk9⟩ := HN5.out.cell
      have RT := grest2_any g p9 (L.length - i6) c9 w5 (cellS1 hcg).1
      have hln : (L.drop i6).length = L.length - i6 := List.length_drop
      have RR := greadRecs_any p9 c9 (L.drop i6) w5 hfin9 (by rw [hln]; have := HLN.out.1; omega) (fun f hf => HLN.out.2 f (List.mem_of_mem_drop hf))
      rw [hln] at RR
      have hkd : kys (L.drop i6) = (kys L).drop i6 := by simp [kys]
      rw [hkd] at RR
      generalize (kys L).drop i6 = KR at RR HYES HOF
      obtain ⟨np2, hnp2⟩ : ∃ np, RecsQP w5 KR = np := ⟨_, rfl⟩
      have HNP2 := Hid.mk' hnp2
      rw [hnp2] at RR
      clear hcg hfin9 hlc9 hcm9 hp9 hbk9 hln hkd hnp2
      go_wp2_with fail
      rw [HW5E.out, HG8E.out]
      clear HW5E HG8E
      refine RT.mono ?_
      clear RT
      rintro e w6 ⟨rfl, rfl⟩
      go_wp2_with fail
      refine RR.mono ?_
      clear RR
      intro e w6 hh
      rw [← HNP2.out] at hh
      obtain ⟨pr, cr, R, ok, rfl, hown, hmm, hb6, hres⟩ := hh
      have HG6 := Hid.mk' (box_bel HG5.out hb6)
      have HX6 := Hid.mk' (box_bel HX5.out hb6)
      have HB6 := Hid.mk' (HB5.out.trans (hb6.mono HB5.out.size))
      have HO6 := Hid.mk' hown
      have HM6 := Hid.mk' hmm
      have HRS := Hid.mk' hres
      have HS5 := Hid.mk' (show g8 < w5.heap.size from box_lt HX5.out)
      clear hown hmm hb6 hres HG5 HX5 HB5 HN5 HNP2
      obtain ⟨c0, c1, c2, c3, c4, c5, c6, c7, c8, c9', c10⟩ := mbox_cells (m := ⟨z0, z1, z2, y1, y2, z5, z6, 0, 0, 0, none, 0, []⟩) HX6.out
      simp only [List.length_nil] at c10
      have f10 : w6.frozen? ⟨g8, 10, none⟩ = false := by simp [World.frozen?, HX6.out]
      have hb7 : (w6.setCell ⟨g8, 10, none⟩ (.slice pr R.length cr)).heap[g8]? = some (.cells #[.int .i64 z0, .int .i64 z1, .int .i64 z2, .int .i64 y1, .int .i64 y2, .int .i64 z5, .int .i64 z6, .int .i64 0, .int .i64 0, .int .i64 0, .slice pr R.length cr] 26 (0, 0)) := by simp [World.setCell, Array.getElem?_modify, HX6.out]
      have hl7 : Below g8 w6 (w6.setCell ⟨g8, 10, none⟩ (.slice pr R.length cr)) := (Below.refl g8 w6).setCell (p := ⟨g8, 10, none⟩) (Nat.le_refl _) _
      have hfs := (Fr.refl (fun i => i = g8) w6).setCell (p := ⟨g8, 10, none⟩) (.inl rfl) (.slice pr R.length cr)
      have HO7 := Hid.mk' (HO6.out.fr hfs (fun g' hg' q => by have h1 := HO6.out.own.above g' hg'; have h2 := HS5.out; omega) (fun r hr i hi q => by have h1 := (HM6.out r hr).1 i hi; have h2 := HS5.out; omega))
      have HG7 := Hid.mk' ((hl7.block w.heap.size HG8.out).trans HG6.out)
      have HB7 := Hid.mk' (HB6.out.trans (hl7.mono (Nat.le_of_lt HG8.out)))
      clear hb7 hl7 hfs HO6 HG6 HB6
      go_wp2_with (refine wpList_store_row rfl 26 (.tmp 2) (.tmp 38) rfl w.heap.size #[.int .i64 z0, .int .i64 z1, .int .i64 z2, .int .i64 y1, .int .i64 y2, .int .i64 z5, .int .i64 z6, .int .i64 0, .int .i64 0, .int .i64 0, .slice pr R.length cr] rfl rfl 26 #[.int .i64 0, .int .i64 0, .int .i64 0, .int .i64 0, .int .i64 0, .int .i64 0, .int .i64 0, .int .i64 0, .int .i64 0, .int .i64 0, .slice none 0 0] HG7.out (by kernel_rfl) rfl (by simp [Value.oneCell']) ?_)
      generalize w6.setCell ⟨g8, 10, none⟩ (.slice pr R.length cr) = w7 at HO7 HG7 HB7 ⊢
      clear c0 c1 c2 c3 c4 c5 c6 c7 c8 c9' c10 f10 HX6
      have hfs := fr_setRow w7 w.heap.size #[.int .i64 z0, .int .i64 z1, .int .i64 z2, .int .i64 y1, .int .i64 y2, .int .i64 z5, .int .i64 z6, .int .i64 0, .int .i64 0, .int .i64 0, .slice pr R.length cr]
      have hO8 := HO7.out.fr hfs (fun g' hg' q => by have h1 := HO7.out.own.above g' hg'; have h2 := HS5.out; have h3 := HG8.out; omega) (fun r hr i hi q => by have h1 := (HM6.out r hr).1 i hi; have h2 := HS5.out; have h3 := HG8.out; omega)
      obtain ⟨p5, c5, e5, hrin, hp0, hlc, hcm⟩ := hO8.rin
      simp only [Value.slice.injEq, true_and] at e5
      obtain ⟨rfl, rfl⟩ := e5
      obtain ⟨a0, a1, a2, a3, a4, a5, a6⟩ := HWF.out
      have z : (Lit.int .i64 0).wf = true := by decide
      have HQ := HY.out ⟨z0, z1, z2, y1, y2, z5, z6, 0, 0, 0, pr, cr, R⟩ ok _ ⟨a0, a1, a2, a3, a4, a5, a6, z, z, z, hlc, hcm, hp0, hrin⟩ (fun x hx => (HM6.out x hx).2) ⟨fun hl a ha => by have h1 := own_row HO7.out pr cr rfl hl a ha; have h2 := HS5.out; have h3 := HG8.out; omega, fun r hr i hi => by have h1 := (HM6.out r hr).1 i hi; have h2 := HS5.out; have h3 := HG8.out; omega⟩ (HB7.out.trans (below_setRow (Below.refl _ _) (Nat.le_refl _) _)) (by
        rcases HRS.out with ⟨rfl, h⟩ | ⟨rfl, h⟩
        · refine .inl ⟨rfl, fun hf => ?_, fun x hx => ?_⟩
          · have h2 := HYES.out _ h
            rw [HHV.out] at h2
            exact h2 ((fit2_iff _).1 hf)
          · obtain ⟨h1, h2⟩ := HOF.out x hx
            rw [h] at h1
            have h3 := Option.some.inj h1
            rw [← h2, ← h3, HHV.out]
            rfl
        · refine .inr ⟨rfl, fun x hx => ?_⟩
          obtain ⟨h1, _⟩ := HOF.out x hx
          rw [h] at h1
          cases h1)
      obtain ⟨r0, r1, r2, r3, r4, r5, r6, r7, r8, r9, r10⟩ := mbox_cells (m := ⟨z0, z1, z2, y1, y2, z5, z6, 0, 0, 0, pr, cr, R⟩) (setRow_heap _ _ _ #[.int .i64 z0, .int .i64 z1, .int .i64 z2, .int .i64 y1, .int .i64 y2, .int .i64 z5, .int .i64 z6, .int .i64 0, .int .i64 0, .int .i64 0, .slice pr R.length cr] _ _ HG7.out)
      exact bodyPost_ret (v := .tuple #[.agg #[.int .i64 z0, .int .i64 z1, .int .i64 z2, .int .i64 y1, .int .i64 y2, .int .i64 z5, .int .i64 z6, .int .i64 0, .int .i64 0, .int .i64 0, .slice pr R.length cr], .bool ok]) (by simp [results, Tryd.results28, go_sem, r0, r1, r2, r3, r4, r5, r6, r7, r8, r9, r10]) rfl HQ
end Go.Proofs.YtmejfkhikgcgmaaDoor
namespace Go.Proofs.YtmejfkhikgcgmaaDoor
open Go.RowKit
set_option linter.unusedSimpArgs false
set_option linter.unusedVariables false
set_option maxRecDepth 10000
set_option synthInstance.maxSize 2000

set_option maxHeartbeats 8000000 in
theorem gdecode2_any (p : Option Addr) (c : Nat) (l : List Int) (w : World) (hB : BIn w p l) (hb : isB l) (hl : l.length ≤ 100000) (hK : Kd w) :
    Calls Tryd.prog 15 #[.slice p l.length c] w fun e w' => DecPost2 l w e w' := by
  have HNO := Hid.mk' (show ∀ w', Below w.heap.size w w' → (∀ x, ¬ Read2 l x) → DecPost2 l w (.returned (.tuple #[.agg #[.int .i64 0, .int .i64 0, .int .i64 0, .int .i64 0, .int .i64 0, .int .i64 0, .int .i64 0, .int .i64 0, .int .i64 0, .int .i64 0, .slice none 0 0], .int .i64 4])) w' from fun w' h1 h2 => ⟨zm, 4, rfl, zm_ok _, by simp [zm], h1, .inr ⟨rfl, rfl, h2⟩⟩)
  have HY := Hid.mk' (show ∀ (m : Mg) w', MOk w' m → (∀ x ∈ m.recs, szK (kys x.bag) ≤ 4611686018427387904) → Below w.heap.size w w' → Read2 l (mv m) → DecPost2 l w (.returned (.tuple #[.agg #[.int .i64 m.kind, .int .i64 m.frm, .int .i64 m.inc, .int .i64 m.lo, .int .i64 m.hi, .int .i64 m.seq, .int .i64 m.tgt, .int .i64 m.life, .int .i64 m.epoch, .int .i64 m.base, .slice m.p m.recs.length m.cap], .int .i64 0])) w' from fun m w' h1 h2 h3 h4 => ⟨m, 0, rfl, h1, h2, h3, .inl ⟨rfl, h4⟩⟩)
  generalize DecPost2 l w = Post at HNO HY ⊢
  have b0 := (Below.refl w.heap.size w).alloc (Nat.le_refl _) (.cells #[.int .i64 0, .int .i64 0, .int .i64 0, .int .i64 0, .int .i64 0, .int .i64 0, .int .i64 0, .int .i64 0, .int .i64 0, .int .i64 0, .slice none 0 0] 26)
  have HG1 := Hid.mk' (heap_alloc_new w (.cells #[.int .i64 0, .int .i64 0, .int .i64 0, .int .i64 0, .int .i64 0, .int .i64 0, .int .i64 0, .int .i64 0, .int .i64 0, .int .i64 0, .slice none 0 0] 26))
  have RD := gread2_any p c l _ (hB.below b0) hb hl (hK.below b0)
  have HB1 := Hid.mk' b0
  have HS1 := Hid.mk' (show (w.alloc (.cells #[.int .i64 0, .int .i64 0, .int .i64 0, .int .i64 0, .int .i64 0, .int .i64 0, .int .i64 0, .int .i64 0, .int .i64 0, .int .i64 0, .slice none 0 0] 26)).heap.size = w.heap.size + 1 by simp)
  have HK := Hid.mk' hK
  obtain ⟨np, hnp⟩ : ∃ np, ReadP (w.alloc (.cells #[.int .i64 0, .int .i64 0, .int .i64 0, .int .i64 0, .int .i64 0, .int .i64 0, .int .i64 0, .int .i64 0, .int .i64 0, .int .i64 0, .slice none 0 0] 26)) l = np := ⟨_, rfl⟩
  have HNP := Hid.mk' hnp
  rw [hnp] at RD
  clear hB hb hK b0 hnp
  go_enter Tryd.func15, Tryd.ntmps15
  go_wp2_with fail
  refine RD.mono ?_
  clear RD
  intro e w2 hrd
  rw [← HNP.out] at hrd
  obtain ⟨m, ok, rfl, hmok, hsz, hmem, hb2, hres⟩ := hrd
  rw [HS1.out] at hmem
  have HB2 := Hid.mk' (HB1.out.trans (hb2.mono HB1.out.size))
  have HG2 := Hid.mk' (box_bel HG1.out hb2)
  have hba := (Below.refl w2.heap.size w2).alloc (Nat.le_refl _) (.cells #[.int .i64 m.kind, .int .i64 m.frm, .int .i64 m.inc, .int .i64 m.lo, .int .i64 m.hi, .int .i64 m.seq, .int .i64 m.tgt, .int .i64 m.life, .int .i64 m.epoch, .int .i64 m.base, .slice m.p m.recs.length m.cap] 26)
  have HX3 := Hid.mk' (heap_alloc_new w2 (.cells #[.int .i64 m.kind, .int .i64 m.frm, .int .i64 m.inc, .int .i64 m.lo, .int .i64 m.hi, .int .i64 m.seq, .int .i64 m.tgt, .int .i64 m.life, .int .i64 m.epoch, .int .i64 m.base, .slice m.p m.recs.length m.cap] 26))
  have HG3 := Hid.mk' (box_bel HG2.out hba)
  have HB3 := Hid.mk' (HB2.out.trans (hba.mono HB2.out.size))
  have HM3 := Hid.mk' (hmok.below hba)
  have HMM := Hid.mk' hmem
  have HSZ := Hid.mk' hsz
  clear hmok hsz hmem hb2 hba HB1 HG1 HB2 HG2 HNP HS1
  rcases hres with ⟨rfl, hyes, huniq⟩ | ⟨rfl, hno⟩
  case inr =>
    have HQ := Hid.mk' (HNO.out _ HB3.out hno)
    have hr := HG3.out
    clear hno HNO HY
    go_wp2_with (refine wpList_store_row rfl 26 (.tmp 2) (.tmp 18) rfl w.heap.size #[.int .i64 0, .int .i64 0, .int .i64 0, .int .i64 0, .int .i64 0, .int .i64 0, .int .i64 0, .int .i64 0, .int .i64 0, .int .i64 0, .slice none 0 0] rfl rfl 26 #[.int .i64 0, .int .i64 0, .int .i64 0, .int .i64 0, .int .i64 0, .int .i64 0, .int .i64 0, .int .i64 0, .int .i64 0, .int .i64 0, .slice none 0 0] hr (by kernel_rfl) rfl (by simp [Value.oneCell']) ?_; rw [setRow_self _ _ _ _ _ hr])
    obtain ⟨r0, r1, r2, r3, r4, r5, r6, r7, r8, r9, r10⟩ := mbox_cells (m := zm) hr
    simp only [zm, List.length_nil] at r0 r1 r2 r3 r4 r5 r6 r7 r8 r9 r10
    exact bodyPost_ret (v := .tuple #[.agg #[.int .i64 0, .int .i64 0, .int .i64 0, .int .i64 0, .int .i64 0, .int .i64 0, .int .i64 0, .int .i64 0, .int .i64 0, .int .i64 0, .slice none 0 0], .int .i64 4]) (by simp [results, Tryd.results15, go_sem, r0, r1, r2, r3, r4, r5, r6, r7, r8, r9, r10]) rfl HQ.out
  case inl =>
    have FT := gfits2_any m _ HM3.out HSZ.out (HK.out.below HB3.out)
    have HYE := Hid.mk' hyes
    have HUN := Hid.mk' (show fit2 m = false → ∀ x, ¬ Read2 l x from fun h x hx => by
      have e := huniq x hx
      have h2 := hx.1
      rw [e] at h2
      rw [(fit2_iff m).2 h2] at h
      cases h)
    obtain ⟨f, hf⟩ : ∃ f, fit2 m = f := ⟨_, rfl⟩
    rw [hf] at FT HYE HUN
    obtain ⟨c0, c1, c2, c3, c4, c5, c6, c7, c8, c9, c10⟩ := mbox_cells HX3.out
    clear hyes huniq hf
    go_wp2_with fail
    refine FT.mono ?_
    clear FT c0 c1 c2 c3 c4 c5 c6 c7 c8 c9 c10
    rintro e w4 ⟨rfl, hb4⟩
    have HG4 := Hid.mk' (box_bel HG3.out hb4)
    have HX4 := Hid.mk' (box_bel HX3.out hb4)
    have HB4 := Hid.mk' (HB3.out.trans (hb4.mono HB3.out.size))
    have HM4 := Hid.mk' (HM3.out.below hb4)
    clear hb4 HG3 HX3 HB3 HM3
    cases f
    · have HQ := Hid.mk' (HNO.out _ HB4.out (HUN.out (by first | rfl | trivial)))
      have hr := HG4.out
      clear HNO HY HYE HUN
      go_wp2_with (refine wpList_store_row rfl 26 (.tmp 2) (.tmp 18) rfl w.heap.size #[.int .i64 0, .int .i64 0, .int .i64 0, .int .i64 0, .int .i64 0, .int .i64 0, .int .i64 0, .int .i64 0, .int .i64 0, .int .i64 0, .slice none 0 0] rfl rfl 26 #[.int .i64 0, .int .i64 0, .int .i64 0, .int .i64 0, .int .i64 0, .int .i64 0, .int .i64 0, .int .i64 0, .int .i64 0, .int .i64 0, .slice none 0 0] hr (by kernel_rfl) rfl (by simp [Value.oneCell']) ?_; rw [setRow_self _ _ _ _ _ hr])
      obtain ⟨r0, r1, r2, r3, r4, r5, r6, r7, r8, r9, r10⟩ := mbox_cells (m := zm) hr
      simp only [zm, List.length_nil] at r0 r1 r2 r3 r4 r5 r6 r7 r8 r9 r10
      exact bodyPost_ret (v := .tuple #[.agg #[.int .i64 0, .int .i64 0, .int .i64 0, .int .i64 0, .int .i64 0, .int .i64 0, .int .i64 0, .int .i64 0, .int .i64 0, .int .i64 0, .slice none 0 0], .int .i64 4]) (by simp [results, Tryd.results15, go_sem, r0, r1, r2, r3, r4, r5, r6, r7, r8, r9, r10]) rfl HQ.out
    · have hfs := fr_setRow w4 w.heap.size #[.int .i64 m.kind, .int .i64 m.frm, .int .i64 m.inc, .int .i64 m.lo, .int .i64 m.hi, .int .i64 m.seq, .int .i64 m.tgt, .int .i64 m.life, .int .i64 m.epoch, .int .i64 m.base, .slice m.p m.recs.length m.cap]
      have HQ := Hid.mk' (HY.out m _ (HM4.out.frM hfs (fun hl a ha q => by have := HMM.out.1 hl a ha; omega) (fun r hr i hi q => by have := HMM.out.2 r hr i hi; omega)) HSZ.out (HB4.out.trans (below_setRow (Below.refl _ _) (Nat.le_refl _) _)) (HYE.out (by first | rfl | trivial)))
      obtain ⟨c0, c1, c2, c3, c4, c5, c6, c7, c8, c9, c10⟩ := mbox_cells HX4.out
      have hr := HG4.out
      clear HNO HY HYE HUN hfs
      go_wp2_with (refine wpList_store_row rfl 26 (.tmp 2) (.tmp 19) rfl w.heap.size #[.int .i64 m.kind, .int .i64 m.frm, .int .i64 m.inc, .int .i64 m.lo, .int .i64 m.hi, .int .i64 m.seq, .int .i64 m.tgt, .int .i64 m.life, .int .i64 m.epoch, .int .i64 m.base, .slice m.p m.recs.length m.cap] rfl rfl 26 #[.int .i64 0, .int .i64 0, .int .i64 0, .int .i64 0, .int .i64 0, .int .i64 0, .int .i64 0, .int .i64 0, .int .i64 0, .int .i64 0, .slice none 0 0] hr (by kernel_rfl) rfl (by simp [Value.oneCell']) ?_)
      clear c0 c1 c2 c3 c4 c5 c6 c7 c8 c9 c10
      obtain ⟨r0, r1, r2, r3, r4, r5, r6, r7, r8, r9, r10⟩ := mbox_cells (m := m) (setRow_heap _ _ _ #[.int .i64 m.kind, .int .i64 m.frm, .int .i64 m.inc, .int .i64 m.lo, .int .i64 m.hi, .int .i64 m.seq, .int .i64 m.tgt, .int .i64 m.life, .int .i64 m.epoch, .int .i64 m.base, .slice m.p m.recs.length m.cap] _ _ hr)
      exact bodyPost_ret (v := .tuple #[.agg #[.int .i64 m.kind, .int .i64 m.frm, .int .i64 m.inc, .int .i64 m.lo, .int .i64 m.hi, .int .i64 m.seq, .int .i64 m.tgt, .int .i64 m.life, .int .i64 m.epoch, .int .i64 m.base, .slice m.p m.recs.length m.cap], .int .i64 0]) (by simp [results, Tryd.results15, go_sem, r0, r1, r2, r3, r4, r5, r6, r7, r8, r9, r10]) rfl HQ.out

theorem gen2_ok : Gen2Ok where
  enc := gencode2_any
  dec := fun p c l w h1 h2 h3 h4 h5 h6 => gdecode2_any p c l w h1 h2 h5 h6
  fits := gfits2_any
  size := gSize_any
end Go.Proofs.YtmejfkhikgcgmaaDoor
