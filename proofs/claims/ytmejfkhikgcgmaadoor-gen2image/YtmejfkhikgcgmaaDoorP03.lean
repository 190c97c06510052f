/-
  Generation 2: a message's body as items; what a body is read as; that these are each other's. No function of the program is named here.
  'append(b, x, y, z)' of bytes that were laid for it; whole numbers in a slice.
  Package msg: the table of kinds, as the program's text lays it; within, isKind, isPart, Has, Greets, Name, Kind.
  Package rec, record by record: within, hasBag, coreMayBe, Valid, Akin, Same, Core, Bare.
  Package rec: Bare, own.
  Package rec, lists: place, placeOf, Sorted, slices.EqualFunc, Equal.
  Package msg: which messages may be; whether two are the same; Head.
  Stage 13: the statements' own functions: item, num.
  Stage 13: the statements' own functions: inner.
  Rows of records in memory of their own; package rec: Copy, Find; slices.Grow and slices.Concat of records.
-/
import Derived.Test.YtmejfkhikgcgmaaDoorP02
import Derived.LaidMore
import Derived.MakeChecks
import Derived.Lib.LaidTab
namespace Go.Proofs.YtmejfkhikgcgmaaDoor
open Go.RowKit
set_option linter.unusedSimpArgs false
set_option linter.unusedVariables false
set_option maxRecDepth 10000
set_option synthInstance.maxSize 2000

/-- An item with a number. -/
def itm (t : Int) (n : Nat) (v : Int) : Key := (t, digB n v)
def stB2 (r : RK) : Int := r.st + (if r.cut = true then 128 else 0)
/-- A record's items. -/
def inK (r : RK) : List Key := itm 1 2 r.id :: itm 2 4 r.inc :: itm 3 1 (stB2 r) :: itm 4 1 (r.lo * 16 + r.hi) :: r.bag
def innerB (r : RK) : List Int := joinK (inK r)
def recK2 (r : RK) : Key := (7, innerB r)
/-- The items ahead of the records. -/
def hdK (x : MV) : List Key := [itm 1 1 x.kind, itm 2 2 x.frm, itm 3 6 x.inc, itm 4 1 (x.lo * 16 + x.hi)] ++ (if hasB x.kind 0 = true then [itm 5 2 x.seq] else []) ++ (if hasB x.kind 1 = true then [itm 6 2 x.tgt] else [])
def itemsK (x : MV) : List Key := hdK x ++ x.recs.map recK2
def body2 (x : MV) : List Int := joinK (itemsK x)

/-- Does it fit generation 2? -/
def MV.fit2 (x : MV) : Prop := x.may ∧ x.kind ≠ 9 ∧ x.life = 0 ∧ x.epoch = 0 ∧ x.base = 0 ∧ (∀ r ∈ x.recs, r.inc ≤ 4294967295) ∧ (body2 x).length ≤ 65499
/-- The message of a body. -/
def Read2 (b : List Int) (x : MV) : Prop := x.fit2 ∧ body2 x = b

/-- Have the first items these tags, and each so many bytes? -/
def rowsOk : List (Int × Nat) → List Key → Bool
  | [], _ => true
  | _ :: _, [] => false
  | t :: ts, k :: ks => (decide (k.1 = t.1) && decide (k.2.length = t.2)) && rowsOk ts ks
def hdT (kind : Int) : List (Int × Nat) := [(1, 1), (2, 2), (3, 6), (4, 1)] ++ (if hasB kind 0 = true then [(5, 2)] else []) ++ (if hasB kind 1 = true then [(6, 2)] else [])
def inT : List (Int × Nat) := [(1, 2), (2, 4), (3, 1), (4, 1)]
/-- What stands at a place. -/
def atK (l : List Key) (i : Nat) : List Int := (l.getD i (0, [])).2
/-- The record of a record's items. -/
def unR (l : List Key) : RK := (numB (atK l 0), numB (atK l 1), numB (atK l 2) % 128, numB (atK l 3) / 16, numB (atK l 3) % 16, decide (128 ≤ numB (atK l 2)), l.drop 4)
/-- The record of an item's bytes. -/
def unrec (d : List Int) : Option RK :=
  match splitB d with
  | none => none
  | some l => if rowsOk inT l = true ∧ mayR (unR l) = true then some (unR l) else none
def recsF2 : List Key → Option (List RK)
  | [] => some []
  | k :: ks => if k.1 = 7 then (match unrec k.2 with | none => none | some r => (recsF2 ks).map (r :: ·)) else none
/-- The message of a body's items. -/
def mkV (kind : Int) (l : List Key) (rs : List RK) : MV :=
  ⟨kind, numB (atK l 1), numB (atK l 2), numB (atK l 3) / 16, numB (atK l 3) % 16, (if hasB kind 0 = true then numB (atK l 4) else 0), (if hasB kind 1 = true then numB (atK l (if hasB kind 0 = true then 5 else 4)) else 0), 0, 0, 0, rs⟩

/-! Lengths and tags. -/
theorem joinK_mem {l : List Key} {x : Key} (h : x ∈ l) : x.2.length + 3 ≤ (joinK l).length := by
  induction l with
  | nil => cases h
  | cons y l ih =>
    rw [joinK_cons, List.length_append, encK_len]
    rcases List.mem_cons.1 h with rfl | h
    · omega
    · have := ih h; omega
theorem itm_len (t : Int) (n : Nat) (v : Int) : (itm t n v).2.length = n := digB_len n v
theorem tagsK_mem : ∀ {l : List Key} {a : Int}, tagsK a l = true → ∀ x ∈ l, a ≤ x.1 ∧ x.1 ≤ 255
  | [], _, _, x, hx => by cases hx
  | y :: l, a, h, x, hx => by
    simp only [tagsK, Bool.and_eq_true, decide_eq_true_eq] at h
    rcases List.mem_cons.1 hx with rfl | hx
    · exact h.1
    · have := tagsK_mem h.2 x hx; omega
theorem szK_mem {l : List Key} {x : Key} (h : x ∈ l) : x.2.length ≤ szK l := by
  induction l with
  | nil => cases h
  | cons y l ih =>
    have e : szK (y :: l) = y.2.length + szK l := by simp [szK]
    rw [e]
    rcases List.mem_cons.1 h with rfl | h
    · omega
    · have := ih h; omega
theorem bag_flt {l : List Key} (h : mayK l = true) : fltL l = 0 := fltL_of fun x hx => by
  simp only [mayK, Bool.and_eq_true, decide_eq_true_eq] at h
  have h1 := tagsK_mem h.1.2 x hx
  have h2 := szK_mem hx
  exact fltK_of (by omega) h1.2 (by omega)
theorem itm_flt (t : Int) (n : Nat) (v : Int) (h0 : 0 ≤ t) (h1 : t ≤ 255) (h2 : n ≤ 65535) : fltK (itm t n v) = 0 := fltK_of h0 h1 (by rw [itm_len]; exact h2)
theorem inK_flt {r : RK} (h : mayR r = true) : fltL (inK r) = 0 := by
  have hb : mayK r.bag = true := by simp only [mayR, Bool.and_eq_true] at h; exact h.1.2
  have := bag_flt hb
  simp only [inK, fltL, itm_flt 1 2 r.id (by omega) (by omega) (by omega), itm_flt 2 4 r.inc (by omega) (by omega) (by omega), itm_flt 3 1 (stB2 r) (by omega) (by omega) (by omega), itm_flt 4 1 (r.lo * 16 + r.hi) (by omega) (by omega) (by omega), if_true]
  exact this

/-! Numbers. -/
theorem rec_nums {r : RK} (h : mayR r = true) : (0 ≤ r.id ∧ r.id ≤ 4095) ∧ (0 ≤ r.inc ∧ r.inc ≤ 281474976710655) ∧ (0 ≤ r.st ∧ r.st ≤ 3) ∧ (1 ≤ r.lo ∧ r.lo ≤ r.hi ∧ r.hi ≤ 3) := by
  have hc : coreOk r = true := by simp only [mayR, Bool.and_eq_true] at h; exact h.1.1
  simp only [coreOk, Bool.and_eq_true, decide_eq_true_eq] at hc
  exact ⟨hc.1.1.1, hc.1.1.2, hc.1.2, okS_yes hc.2⟩
theorem stB2_back {r : RK} (h : mayR r = true) : 0 ≤ stB2 r ∧ stB2 r ≤ 255 ∧ stB2 r % 128 = r.st ∧ decide (128 ≤ stB2 r) = r.cut := by
  obtain ⟨_, _, h3, _⟩ := rec_nums h
  obtain ⟨id, inc, st, lo, hi, cut, bag⟩ := r
  simp only [RK.st] at h3
  cases cut <;> simp only [stB2, RK.st, RK.cut] <;> simp <;> omega
theorem at_cons0 (a : Key) (l : List Key) : atK (a :: l) 0 = a.2 := rfl
theorem num1_of {d : List Int} (h : d.length = 1) (hb : isB d) : 0 ≤ numB d ∧ numB d ≤ 255 := by
  have := numB_bound d hb
  rw [h] at this
  omega
theorem num_itm (t : Int) (n : Nat) (v : Int) (h0 : 0 ≤ v) (h1 : v < 256 ^ n) : numB (itm t n v).2 = v := num_digs n v h0 h1
/-- What is written of a record is read back. -/
theorem unrec_inner {r : RK} (h : mayR r = true) (hi : r.inc ≤ 4294967295) : unrec (innerB r) = some r := by
  obtain ⟨⟨a1, a2⟩, ⟨b1, b2⟩, ⟨c1, c2⟩, d1, d2, d3⟩ := rec_nums h
  obtain ⟨s1, s2, s3, s4⟩ := stB2_back h
  have e0 : numB (atK (inK r) 0) = r.id := num_itm 1 2 r.id a1 (by omega)
  have e1 : numB (atK (inK r) 1) = r.inc := num_itm 2 4 r.inc b1 (by omega)
  have e2 : numB (atK (inK r) 2) = stB2 r := num_itm 3 1 (stB2 r) s1 (by omega)
  have e3 : numB (atK (inK r) 3) = r.lo * 16 + r.hi := num_itm 4 1 (r.lo * 16 + r.hi) (by omega) (by omega)
  have e4 : (inK r).drop 4 = r.bag := rfl
  have eu : unR (inK r) = r := by
    rw [unR, e0, e1, e2, e3, e4, s3, s4, show (r.lo * 16 + r.hi) / 16 = r.lo by omega, show (r.lo * 16 + r.hi) % 16 = r.hi by omega]
  have er : rowsOk inT (inK r) = true := by
    simp only [inT, inK, rowsOk, itm_len]
    simp [itm]
  unfold unrec
  rw [innerB, split_join _ (inK_flt h)]
  simp only [eu, er, h, and_self, if_true]
/-- What is read as a record was written of it. -/
theorem inner_unrec {d : List Int} {r : RK} (hd : isB d) (h : unrec d = some r) : innerB r = d ∧ mayR r = true ∧ r.inc ≤ 4294967295 := by
  unfold unrec at h
  split at h
  · cases h
  · rename_i l hs
    split at h
    · rename_i hc
      obtain ⟨hr, hm⟩ := hc
      obtain rfl : unR l = r := by simpa using h
      obtain ⟨j1, j2, j3⟩ := join_split d.length d l (Nat.le_refl _) hd hs
      match l, hr with
      | k0 :: k1 :: k2 :: k3 :: bag, hr =>
        simp only [inT, rowsOk, Bool.and_eq_true, decide_eq_true_eq] at hr
        obtain ⟨⟨t0, n0⟩, ⟨t1, n1⟩, ⟨t2, n2⟩, ⟨t3, n3⟩, _⟩ := hr
        have i0 := j3 k0 (by simp)
        have i1 := j3 k1 (by simp)
        have i2 := j3 k2 (by simp)
        have i3 := j3 k3 (by simp)
        obtain ⟨z0, d0⟩ := k0
        obtain ⟨z1, d1⟩ := k1
        obtain ⟨z2, d2⟩ := k2
        obtain ⟨z3, d3⟩ := k3
        simp only at t0 t1 t2 t3 n0 n1 n2 n3 i0 i1 i2 i3
        subst t0 t1 t2 t3
        have g0 := digs_num d0 i0
        have g1 := digs_num d1 i1
        have g2 := digs_num d2 i2
        have g3 := digs_num d3 i3
        rw [n0] at g0
        rw [n1] at g1
        rw [n2] at g2
        rw [n3] at g3
        have q1 := numB_bound d1 i1
        rw [n1] at q1
        have q2 := num1_of n2 i2
        have q3 := num1_of n3 i3
        have eu : unR ((1, d0) :: (2, d1) :: (3, d2) :: (4, d3) :: bag) = (numB d0, numB d1, numB d2 % 128, numB d3 / 16, numB d3 % 16, decide (128 ≤ numB d2), bag) := rfl
        rw [eu] at hm ⊢
        refine ⟨?_, hm, by show numB d1 ≤ _; omega⟩
        have es : stB2 (numB d0, numB d1, numB d2 % 128, numB d3 / 16, numB d3 % 16, decide (128 ≤ numB d2), bag) = numB d2 := by
          show numB d2 % 128 + (if decide (128 ≤ numB d2) = true then 128 else 0) = numB d2
          by_cases q : 128 ≤ numB d2
          · simp [q]; omega
          · simp [q]; omega
        have ek : inK (numB d0, numB d1, numB d2 % 128, numB d3 / 16, numB d3 % 16, decide (128 ≤ numB d2), bag) = (1, d0) :: (2, d1) :: (3, d2) :: (4, d3) :: bag := by
          simp only [inK, es]
          show itm 1 2 (numB d0) :: itm 2 4 (numB d1) :: itm 3 1 (numB d2) :: itm 4 1 (numB d3 / 16 * 16 + numB d3 % 16) :: bag = _
          rw [show numB d3 / 16 * 16 + numB d3 % 16 = numB d3 by omega]
          simp only [itm, g0, g1, g2, g3]
        rw [innerB, ek, j2]
      | [], hr => simp [inT, rowsOk] at hr
      | [_], hr => simp [inT, rowsOk] at hr
      | [_, _], hr => simp [inT, rowsOk] at hr
      | [_, _, _], hr => simp [inT, rowsOk] at hr
    · cases h

theorem recs_recs : ∀ {l : List RK}, (∀ r ∈ l, mayR r = true ∧ r.inc ≤ 4294967295) → recsF2 (l.map recK2) = some l
  | [], _ => rfl
  | r :: l, h => by
    obtain ⟨h1, h2⟩ := h r (by simp)
    rw [List.map_cons, recsF2, show (recK2 r).1 = 7 from rfl, if_pos rfl, show (recK2 r).2 = innerB r from rfl, unrec_inner h1 h2, recs_recs (fun x hx => h x (by simp [hx]))]
    rfl
theorem recs_back : ∀ {l : List Key} {rs : List RK}, (∀ x ∈ l, isB x.2) → recsF2 l = some rs → rs.map recK2 = l ∧ ∀ r ∈ rs, mayR r = true ∧ r.inc ≤ 4294967295
  | [], rs, _, h => by
    obtain rfl : [] = rs := by simpa [recsF2] using h
    simp
  | k :: l, rs, hb, h => by
    rw [recsF2] at h
    split at h
    · rename_i ht
      split at h
      · cases h
      · rename_i r hr
        obtain ⟨rt, hrt, rfl⟩ := Option.map_eq_some_iff.1 h
        obtain ⟨i1, i2⟩ := recs_back (fun x hx => hb x (by simp [hx])) hrt
        obtain ⟨g1, g2, g3⟩ := inner_unrec (hb k (by simp)) hr
        refine ⟨?_, fun x hx => ?_⟩
        · rw [List.map_cons, i1, recK2, g1]
          obtain ⟨a, b⟩ := k
          simp only at ht
          rw [ht]
        · rcases List.mem_cons.1 hx with rfl | hx
          · exact ⟨g2, g3⟩
          · exact i2 x hx
    · cases h

theorem has_cases (k : Int) : (hasB k 0 = true ∨ hasB k 0 = false) ∧ (hasB k 1 = true ∨ hasB k 1 = false) := by
  constructor
  · cases hasB k 0 <;> simp
  · cases hasB k 1 <;> simp

/-- What follows of a message's being read. -/
theorem read2_inv {b : List Int} {x : MV} (h : Read2 b x) : 4 ≤ b.length ∧ b.length ≤ 65499 ∧ b.getD 3 0 = x.kind ∧ splitB b = some (itemsK x) ∧ rowsOk (hdT x.kind) (itemsK x) = true ∧
    recsF2 ((itemsK x).drop (hdT x.kind).length) = some x.recs ∧ mkV x.kind (itemsK x) x.recs = x := by
  obtain ⟨⟨hm, h9, hl, he, hbs, hr, hlen⟩, rfl⟩ := h
  have hlist := list_may hm.2.2
  have hs := okS_yes hm.2.1
  have hn := hm.1
  unfold MV.nums at hn
  obtain ⟨n1, n2, n3, n4, n5, _⟩ := hn
  have hflt : fltL (itemsK x) = 0 := fltL_of fun y hy => by
    have hy2 := joinK_mem hy
    have hb2 : (joinK (itemsK x)).length ≤ 65499 := hlen
    rcases List.mem_append.1 hy with q | q
    · simp only [hdK, List.mem_append, List.mem_cons] at q
      have hx : (0 ≤ y.1 ∧ y.1 ≤ 255) := by
        rcases q with (q | q) | q
        · rcases q with rfl | rfl | rfl | rfl | q
          · simp [itm]
          · simp [itm]
          · simp [itm]
          · simp [itm]
          · cases q
        · split at q
          · simp at q; subst q; simp [itm]
          · cases q
        · split at q
          · simp at q; subst q; simp [itm]
          · cases q
      exact fltK_of hx.1 hx.2 (by omega)
    · obtain ⟨r, _, rfl⟩ := List.mem_map.1 q
      exact fltK_of (by simp [recK2]) (by simp [recK2]) (by omega)
  have hk3 : (body2 x).getD 3 0 = x.kind := by
    have e : itemsK x = itm 1 1 x.kind :: (itemsK x).drop 1 := by simp [itemsK, hdK]
    rw [body2, e, joinK_cons]
    have e2 : encK (itm 1 1 x.kind) = [1, 0, 1, x.kind % 256] := by
      have e3 : digB 1 x.kind = [x.kind % 256] := by rw [digB_succ]; simp [digB]
      simp [encK, itm, e3]
    rw [e2]
    show x.kind % 256 = x.kind
    omega
  have hl4 : 4 ≤ (body2 x).length := by
    have e : itemsK x = itm 1 1 x.kind :: (itemsK x).drop 1 := by simp [itemsK, hdK]
    rw [body2, e, joinK_cons, List.length_append, encK_len, itm_len]
    omega
  have hrr := recs_recs (l := x.recs) (fun r hrm => ⟨hlist.2 r hrm, hr r hrm⟩)
  have k1 : numB (itm 2 2 x.frm).2 = x.frm := num_itm 2 2 x.frm n2.1 (by omega)
  have k2 : numB (itm 3 6 x.inc).2 = x.inc := num_itm 3 6 x.inc n3.1 (by omega)
  have k3 : numB (itm 4 1 (x.lo * 16 + x.hi)).2 = x.lo * 16 + x.hi := num_itm 4 1 _ (by omega) (by omega)
  have k4 : numB (itm 5 2 x.seq).2 = x.seq := num_itm 5 2 x.seq n4.1 (by omega)
  have k5 : numB (itm 6 2 x.tgt).2 = x.tgt := num_itm 6 2 x.tgt n5.1 (by omega)
  refine ⟨hl4, hlen, hk3, split_join _ hflt, ?_, ?_, ?_⟩
  · rcases has_cases x.kind with ⟨p | p, q | q⟩ <;> simp only [hdT, itemsK, hdK, p, q, if_true, if_false, Bool.false_eq_true, List.append_nil, List.cons_append, List.nil_append, rowsOk, itm_len] <;> simp [itm]
  · rcases has_cases x.kind with ⟨p | p, q | q⟩ <;> simp only [hdT, itemsK, hdK, p, q, if_true, if_false, Bool.false_eq_true, List.append_nil, List.cons_append, List.nil_append, List.length_cons, List.length_nil, List.drop_succ_cons, List.drop_zero] <;> exact hrr
  · have z4 : hasB x.kind 0 = false → x.seq = 0 := fun q => by
      by_cases q2 : 0 < x.seq
      · have := n4.2.2 q2; rw [q] at this; cases this
      · omega
    have z5 : hasB x.kind 1 = false → x.tgt = 0 := fun q => by
      by_cases q2 : 0 < x.tgt
      · have := n5.2.2.1 q2; rw [q] at this; cases this
      · omega
    obtain ⟨kind, frm, inc, lo, hi, seq, tgt, life, epoch, base, recs⟩ := x
    simp only at hl he hbs k1 k2 k3 k4 k5 hs z4 z5
    subst hl he hbs
    rcases has_cases kind with ⟨p | p, q | q⟩ <;> simp only [mkV, itemsK, hdK, p, q, if_true, if_false, Bool.false_eq_true, List.append_nil, List.cons_append, List.nil_append, atK, List.getD_cons_zero, List.getD_cons_succ, k1, k2, k3, k4, k5, MV.mk.injEq, true_and, and_true]
    · omega
    · have := z5 q; omega
    · have := z4 p; omega
    · have := z4 p; have := z5 q; omega

theorem rows_len : ∀ {ts : List (Int × Nat)} {l : List Key}, rowsOk ts l = true → ts.length ≤ l.length
  | [], _, _ => by simp
  | _ :: _, [], h => by simp [rowsOk] at h
  | t :: ts, k :: ks, h => by
    simp only [rowsOk, Bool.and_eq_true] at h
    have := rows_len h.2
    simp; omega
theorem key_of {k : Key} {t : Int} {n : Nat} (h1 : k.1 = t) (h2 : k.2.length = n) (hb : isB k.2) : k = itm t n (numB k.2) := by
  obtain ⟨a, d⟩ := k
  simp only at h1 h2 hb
  subst h1 h2
  rw [itm, digs_num d hb]

/-- What is read was written. -/
theorem read2_of {b : List Int} {l : List Key} {rs : List RK} (hb : isB b) (hlen : b.length ≤ 65499) (hs : splitB b = some l) (hr : rowsOk (hdT (b.getD 3 0)) l = true) (hrs : recsF2 (l.drop (hdT (b.getD 3 0)).length) = some rs)
    (hm : (mkV (b.getD 3 0) l rs).may) (h9 : b.getD 3 0 ≠ 9) : Read2 b (mkV (b.getD 3 0) l rs) := by
  obtain ⟨j1, j2, j3⟩ := join_split b.length b l (Nat.le_refl _) hb hs
  obtain ⟨i1, i2⟩ := recs_back (fun x hx => j3 x (List.mem_of_mem_drop hx)) hrs
  have ek : itemsK (mkV (b.getD 3 0) l rs) = l := by
    have hk : ∀ d0 t, l = ((1 : Int), d0) :: t → d0.length = 1 → d0 = digB 1 (b.getD 3 0) := fun d0 t e hd => by
      have hi : isB d0 := j3 (1, d0) (by rw [e]; simp)
      match d0, hd with
      | [v], _ =>
        have e2 : b = encK (1, [v]) ++ joinK t := by rw [← j2, e, joinK_cons]
        have e3 : b.getD 3 0 = v := by rw [e2]; simp [encK]
        have hv := hi v (by simp)
        rw [e3, digB_succ]
        simp [digB]
        omega
    generalize b.getD 3 0 = kind at hr hrs hk hm i1
    rcases has_cases kind with ⟨p | p, q | q⟩
    all_goals
      simp only [hdT, p, q, if_true, if_false, Bool.false_eq_true, List.append_nil, List.cons_append, List.nil_append, List.length_cons, List.length_nil] at hr i1
    · match l, hr with
      | k0 :: k1 :: k2 :: k3 :: k4 :: k5 :: t, hr =>
        simp only [rowsOk, Bool.and_eq_true, decide_eq_true_eq] at hr
        obtain ⟨⟨t0, n0⟩, ⟨t1, n1⟩, ⟨t2, n2⟩, ⟨t3, n3⟩, ⟨t4, n4⟩, ⟨t5, n5⟩, _⟩ := hr
        have e0 : k0 = itm 1 1 kind := by
          obtain ⟨a, d⟩ := k0
          simp only at t0 n0
          subst t0
          rw [hk d _ rfl n0]; rfl
        have e1 := key_of t1 n1 (j3 k1 (by simp))
        have e2 := key_of t2 n2 (j3 k2 (by simp))
        have e3 := key_of t3 n3 (j3 k3 (by simp))
        have e4 := key_of t4 n4 (j3 k4 (by simp))
        have e5 := key_of t5 n5 (j3 k5 (by simp))
        have q3 := num1_of n3 (j3 k3 (by simp))
        have i1' : rs.map recK2 = t := i1
        simp only [itemsK, hdK, mkV, p, q, if_true, atK, List.getD_cons_zero, List.getD_cons_succ, List.cons_append, List.nil_append, i1']
        rw [show numB k3.2 / 16 * 16 + numB k3.2 % 16 = numB k3.2 by omega, ← e0, ← e1, ← e2, ← e3, ← e4, ← e5]
      | [], hr => simp [rowsOk] at hr
      | [_], hr => simp [rowsOk] at hr
      | [_, _], hr => simp [rowsOk] at hr
      | [_, _, _], hr => simp [rowsOk] at hr
      | [_, _, _, _], hr => simp [rowsOk] at hr
      | [_, _, _, _, _], hr => simp [rowsOk] at hr
    · match l, hr with
      | k0 :: k1 :: k2 :: k3 :: k4 :: t, hr =>
        simp only [rowsOk, Bool.and_eq_true, decide_eq_true_eq] at hr
        obtain ⟨⟨t0, n0⟩, ⟨t1, n1⟩, ⟨t2, n2⟩, ⟨t3, n3⟩, ⟨t4, n4⟩, _⟩ := hr
        have e0 : k0 = itm 1 1 kind := by
          obtain ⟨a, d⟩ := k0
          simp only at t0 n0
          subst t0
          rw [hk d _ rfl n0]; rfl
        have e1 := key_of t1 n1 (j3 k1 (by simp))
        have e2 := key_of t2 n2 (j3 k2 (by simp))
        have e3 := key_of t3 n3 (j3 k3 (by simp))
        have e4 := key_of t4 n4 (j3 k4 (by simp))
        have q3 := num1_of n3 (j3 k3 (by simp))
        have i1' : rs.map recK2 = t := i1
        simp only [itemsK, hdK, mkV, p, q, if_true, if_false, Bool.false_eq_true, atK, List.getD_cons_zero, List.getD_cons_succ, List.cons_append, List.nil_append, List.append_nil, i1']
        rw [show numB k3.2 / 16 * 16 + numB k3.2 % 16 = numB k3.2 by omega, ← e0, ← e1, ← e2, ← e3, ← e4]
      | [], hr => simp [rowsOk] at hr
      | [_], hr => simp [rowsOk] at hr
      | [_, _], hr => simp [rowsOk] at hr
      | [_, _, _], hr => simp [rowsOk] at hr
      | [_, _, _, _], hr => simp [rowsOk] at hr
    · match l, hr with
      | k0 :: k1 :: k2 :: k3 :: k4 :: t, hr =>
        simp only [rowsOk, Bool.and_eq_true, decide_eq_true_eq] at hr
        obtain ⟨⟨t0, n0⟩, ⟨t1, n1⟩, ⟨t2, n2⟩, ⟨t3, n3⟩, ⟨t4, n4⟩, _⟩ := hr
        have e0 : k0 = itm 1 1 kind := by
          obtain ⟨a, d⟩ := k0
          simp only at t0 n0
          subst t0
          rw [hk d _ rfl n0]; rfl
        have e1 := key_of t1 n1 (j3 k1 (by simp))
        have e2 := key_of t2 n2 (j3 k2 (by simp))
        have e3 := key_of t3 n3 (j3 k3 (by simp))
        have e4 := key_of t4 n4 (j3 k4 (by simp))
        have q3 := num1_of n3 (j3 k3 (by simp))
        have i1' : rs.map recK2 = t := i1
        simp only [itemsK, hdK, mkV, p, q, if_true, if_false, Bool.false_eq_true, atK, List.getD_cons_zero, List.getD_cons_succ, List.cons_append, List.nil_append, List.append_nil, i1']
        rw [show numB k3.2 / 16 * 16 + numB k3.2 % 16 = numB k3.2 by omega, ← e0, ← e1, ← e2, ← e3, ← e4]
      | [], hr => simp [rowsOk] at hr
      | [_], hr => simp [rowsOk] at hr
      | [_, _], hr => simp [rowsOk] at hr
      | [_, _, _], hr => simp [rowsOk] at hr
      | [_, _, _, _], hr => simp [rowsOk] at hr
    · match l, hr with
      | k0 :: k1 :: k2 :: k3 :: t, hr =>
        simp only [rowsOk, Bool.and_eq_true, decide_eq_true_eq] at hr
        obtain ⟨⟨t0, n0⟩, ⟨t1, n1⟩, ⟨t2, n2⟩, ⟨t3, n3⟩, _⟩ := hr
        have e0 : k0 = itm 1 1 kind := by
          obtain ⟨a, d⟩ := k0
          simp only at t0 n0
          subst t0
          rw [hk d _ rfl n0]; rfl
        have e1 := key_of t1 n1 (j3 k1 (by simp))
        have e2 := key_of t2 n2 (j3 k2 (by simp))
        have e3 := key_of t3 n3 (j3 k3 (by simp))
        have q3 := num1_of n3 (j3 k3 (by simp))
        have i1' : rs.map recK2 = t := i1
        simp only [itemsK, hdK, mkV, p, q, if_false, Bool.false_eq_true, atK, List.getD_cons_zero, List.getD_cons_succ, List.cons_append, List.nil_append, List.append_nil, i1']
        rw [show numB k3.2 / 16 * 16 + numB k3.2 % 16 = numB k3.2 by omega, ← e0, ← e1, ← e2, ← e3]
      | [], hr => simp [rowsOk] at hr
      | [_], hr => simp [rowsOk] at hr
      | [_, _], hr => simp [rowsOk] at hr
      | [_, _, _], hr => simp [rowsOk] at hr
  have eb : body2 (mkV (b.getD 3 0) l rs) = b := by rw [body2, ek, j2]
  exact ⟨⟨hm, h9, rfl, rfl, rfl, fun r hr => (i2 r hr).2, by rw [eb]; exact hlen⟩, eb⟩

/-- Two readings of the same bytes. -/
theorem read2_uniq {b : List Int} {x y : MV} (h : Read2 b x) (k : Read2 b y) : x = y := by
  obtain ⟨_, _, h3, h4, _, h6, h7⟩ := read2_inv h
  obtain ⟨_, _, k3, k4, _, k6, k7⟩ := read2_inv k
  rw [h3] at k3
  rw [h4] at k4
  have e := Option.some.inj k4
  rw [← k3, ← e, h6] at k6
  rw [← h7, ← k7, ← k3, ← e, Option.some.inj k6]
end Go.Proofs.YtmejfkhikgcgmaaDoor
namespace Go.Proofs.YtmejfkhikgcgmaaDoor
open Go.RowKit
set_option linter.unusedSimpArgs false
set_option linter.unusedVariables false
set_option maxRecDepth 10000

theorem brow_cell {w : World} {g : Nat} {l : List Int} {e : TypeId} (h : w.heap[g]? = some (.cells (cellsB l) e (0, 0))) (i : Nat) (hi : i < l.length) : w.cell? ⟨g, i, none⟩ = some (.int .u8 l[i]) ∧ w.frozen? ⟨g, i, none⟩ = false := by
  simp [World.cell?, World.frozen?, h, cellsB, hi]
theorem brow_set {w : World} {g : Nat} {l : List Int} {e : TypeId} (h : w.heap[g]? = some (.cells (cellsB l) e (0, 0))) (i : Nat) (x : Int) : (w.setCell ⟨g, i, none⟩ (.int .u8 x)).heap[g]? = some (.cells (cellsB (l.set i x)) e (0, 0)) := by
  simp [World.setCell, Array.getElem?_modify, h, cellsB, List.map_set]

/-- The row of digits behind j rounds. -/
def dRow (n : Nat) (v : Int) (j : Nat) : List Int := List.replicate (n - j) 0 ++ (digB n v).drop (n - j)
theorem dRow_len (n : Nat) (v : Int) (j : Nat) (hj : j ≤ n) : (dRow n v j).length = n := by simp [dRow, digB_len, hj]
theorem dRow_zero (n : Nat) (v : Int) : dRow n v 0 = List.replicate n 0 := by
  simp [dRow, List.drop_eq_nil_of_le, digB_len]
theorem dRow_all (n : Nat) (v : Int) : dRow n v n = digB n v := by simp [dRow]
theorem dRow_step (n : Nat) (v : Int) (j : Nat) (hj : j < n) : (dRow n v j).set (n - 1 - j) (v / 256 ^ j % 256) = dRow n v (j + 1) := by
  have e1 : n - j = (n - 1 - j) + 1 := by omega
  have e2 : n - (j + 1) = n - 1 - j := by omega
  have hl : n - 1 - j < (digB n v).length := by rw [digB_len]; omega
  unfold dRow
  rw [e1, e2, List.drop_eq_getElem_cons hl, List.replicate_succ', List.append_assoc]
  rw [List.set_append_right _ _ (by simp)]
  have e3 : n - 1 - (n - 1 - j) = j := by omega
  simp [digB, e3]

/-- 'append(v, x...)' of bytes in a walk: what has turned, and where it lies then. -/
theorem wpList_accF {w : World} {ops : Array Oper} {rest : List Oper} {o : Oper} {a : Act} {Q : Exit → Act → World → Prop} (hgd : o.guard = none) (s x : Operand)
    (ho : o.op = .call { callee := .builtin .append, args := #[s, x], argTypes := #[29, 29] })
    (B : Nat) (v : Value) (l : List Int) (hs : a.eval s = v) (hown : Acc w B v l) (hB : B ≤ w.heap.size)
    (p : Option Addr) (c : Nat) (m : List Int) (hx : a.eval x = .slice p m.length c) (hp0 : p = none → c = 0) (hm : BIn w p m)
    (hlen : l.length + m.length ≤ 140737488355328)
    (h : ∀ v' w', Acc w' B v' (l ++ m) → Below B w w' → Fr (fun k => v.ownBlock = some k) w w' → Moved w v v' → wpList Tryd.prog ops Q rest (a.put o.dst v') w') : wpList Tryd.prog ops Q (o :: rest) a w := by
  obtain ⟨i0, hi, hz0, hz1, hz2⟩ := info_parts infoA
  exact wpList_append_fr hgd s x 29 ho 5 i0 (.int .u8 0) 1 1 Tryd.underlying29 hi hz0 hz1 hz2 rfl (by decide) v l.length (l.map (Value.int .u8)) hs hown.owns p m.length c (m.map (Value.int .u8)) hx hp0 (by simp) hm.news (oneCells m) (by simp only [maxLen]; omega) (by omega)
    fun v' w' hA => h v' w' (hown.next hB hA).1 (hown.next hB hA).2 hA.fr hA.moved

theorem acc_ne {w : World} {B : Nat} {v : Value} {l : List Int} (h : Acc w B v l) (g : Nat) (hg : w.heap.size ≤ g) : v.ownBlock ≠ some g := fun q => by
  have := (h.owns.lt g q).2
  omega

/-- 'append(v, x, y, ..)' of bytes that were laid for it. -/
theorem wpList_accM {w : World} {ops : Array Oper} {rest : List Oper} {o : Oper} {a : Act} {Q : Exit → Act → World → Prop} {cs : Array Value} (hgd : o.guard = none) (s x : Operand)
    (ho : o.op = .call { callee := .builtin .append, args := #[s, x], argTypes := #[29, 29] })
    (B : Nat) (v : Value) (l : List Int) (hs : a.eval s = v) (hown : Acc w B v l) (hB : B ≤ w.heap.size) (m : List Int) (hcs : cs = cellsB m)
    (hx : a.eval x = .slice (some ⟨w.heap.size, 0, none⟩) m.length m.length)
    (hlen : l.length + m.length ≤ 140737488355328)
    (h : ∀ v' w', Acc w' B v' (l ++ m) → Below B w w' → Fr (fun k => v.ownBlock = some k) w w' → Moved w v v' → wpList Tryd.prog ops Q rest (a.put o.dst v') w') : wpList Tryd.prog ops Q (o :: rest) a (w.alloc (.cells cs 5)) := by
  subst hcs
  have b : Below w.heap.size w (w.alloc (.cells (cellsB m) 5)) := (Below.refl _ _).alloc (Nat.le_refl _) _
  refine wpList_accF hgd s x ho B v l hs (hown.below b) (Nat.le_trans hB b.size) (some ⟨w.heap.size, 0, none⟩) m.length m hx (by simp) (BIn.of_block (rest := []) (e := 5) (f := (0, 0)) (by rw [heap_alloc_new]; simp [cellsB])) hlen fun v' w' h1 h2 h3 h4 => h v' w' h1 ((b.mono hB).trans h2) ((Fr.of_below b _).trans h3 fun _ q => .inl q) ?_
  rcases h4 with q | ⟨k, hk, hk2⟩
  · exact .inl q
  · exact .inr ⟨k, hk, Nat.le_trans b.size hk2⟩

/-- The slice at p has the whole numbers l. -/
def NIn (w : World) (p : Option Addr) (l : List Int) : Prop :=
  0 < l.length → ∃ b o, p = some ⟨b, o, none⟩ ∧ ∀ i, i < l.length → w.cell? ⟨b, o + i, none⟩ = some (.int .i64 (l.getD i 0))
theorem NIn.fr {S : Nat → Prop} {w w' : World} {p : Option Addr} {l : List Int} (h : NIn w p l) (k : Fr S w w') (hn : ∀ a, p = some a → a.block < w.heap.size → ¬ S a.block) : NIn w' p l := fun hl => by
  obtain ⟨b, o, rfl, hc⟩ := h hl
  refine ⟨b, o, rfl, fun i hi => ?_⟩
  have hb : b < w.heap.size := lt_of_cell (hc 0 hl)
  rw [k.cell (p := ⟨b, o + i, none⟩) hb (hn ⟨b, o, none⟩ rfl hb)]
  exact hc i hi
theorem NIn.below {w w' : World} {p : Option Addr} {l : List Int} (h : NIn w p l) (k : Below w.heap.size w w') : NIn w' p l :=
  h.fr (Fr.of_below k fun _ => False) fun _ _ _ q => q
theorem NIn.of_block {w : World} {g : Nat} {e : TypeId} {f : Nat × Nat} {l : List Int} {rest : List Value} (h : w.heap[g]? = some (.cells ((l.map (Value.int .i64) ++ rest).toArray) e f)) : NIn w (some ⟨g, 0, none⟩) l := fun _ => by
  refine ⟨g, 0, rfl, fun i hi => ?_⟩
  simp [World.cell?, h, List.getElem?_append, hi, List.getD]
end Go.Proofs.YtmejfkhikgcgmaaDoor
namespace Go.Proofs.YtmejfkhikgcgmaaDoor
open Go.RowKit
set_option linter.unusedSimpArgs false
set_option linter.unusedVariables false
set_option maxRecDepth 10000
set_option synthInstance.maxSize 2000

theorem laidVars_in {P : Program} {w : World} {n : String} {d : DataW Unit} : ∀ {L : List (String × DataW Unit)} {ps : List MemPlace}, DataW.LaidVars P w L ps → (n, d) ∈ L →
    ∃ g t cs fuel p, P.globalNamed n = some g ∧ (P.globals[g]?).map (·.type) = some t ∧ w.var? P n = some cs ∧ DataW.trod (fun _ => ()) P w 0 (fun _ => true) false fuel t cs.toList = some (d, p)
  | [], _, _, hm => by cases hm
  | (m, e) :: r, ps, h, hm => by
    obtain ⟨g, t, cs, fuel, p, q, h1, h2, h3, h4, h5, _⟩ := h
    rcases List.mem_cons.1 hm with hm | hm
    · cases hm; exact ⟨g, t, cs, fuel, p, h1, h2, h3, h4⟩
    · exact laidVars_in h5 hm

/-- What a row of the table holds. -/
structure KRow where
  name : ByteArray
  h0 : Bool
  h1 : Bool
  h2 : Bool
  h3 : Bool
  h4 : Bool
def KRow.cells (r : KRow) : List Value := [.string r.name, .bool r.h0, .bool r.h1, .bool r.h2, .bool r.h3, .bool r.h4]
def KRow.data {H : Type} (r : KRow) : DataW H := .agg [.lit (.string r.name.data.toList), .agg [.lit (.bool r.h0), .lit (.bool r.h1), .lit (.bool r.h2), .lit (.bool r.h3), .lit (.bool r.h4)]]

theorem bytes_eq {a b : ByteArray} (h : a.data.toList = b.data.toList) : a = b := by
  cases a; cases b; simp at h; rw [h]

theorem row_cells {H : Type} {enc : TypeId × Value → H} {w : World} {base : Nat} {sp : Nat → Bool} {held : Bool} {fuel : Nat} {cs : List Value} {p : List MemPlace} (r : KRow)
    (h : DataW.trod enc Tryd.prog w base sp held fuel 73 cs = some (r.data, p)) : cs = r.cells := by
  obtain ⟨y0, y1, n, hx, hl, h0, h1⟩ := Go.ChangeShapes.trod_struct2 Tryd.underlying73 h
  have kr : Tryd.prog.cellsOf 73 = 6 := by kernel_rfl
  have ks : Tryd.prog.cellsOf 9 = 1 := by kernel_rfl
  have kp : Tryd.prog.cellsOf 71 = 5 := by kernel_rfl
  have kb : Tryd.prog.cellsOf 4 = 1 := by kernel_rfl
  rw [kr] at hl
  match cs, hl with
  | [v0, v1, v2, v3, v4, v5], _ =>
    replace h0 : DataW.trod enc Tryd.prog w base sp held n 9 ((List.drop 0 [v0, v1, v2, v3, v4, v5]).take (Tryd.prog.cellsOf 9)) = some y0 := h0
    replace h1 : DataW.trod enc Tryd.prog w base sp held n 71 ((List.drop 1 [v0, v1, v2, v3, v4, v5]).take (Tryd.prog.cellsOf 71)) = some y1 := h1
    rw [ks] at h0
    rw [kp] at h1
    simp only [List.drop_zero, List.drop_succ_cons, List.take_succ_cons, List.take_zero] at h0 h1
    obtain ⟨s, e0, rfl, _⟩ := DataW.trod_string Tryd.underlying9 h0
    obtain ⟨xs, m, _, rfl, _, hxl, hxs⟩ := DataW.trod_array Tryd.underlying71 h1
    match xs, hxl with
    | [z0, z1, z2, z3, z4], _ =>
      have b0 : DataW.trod enc Tryd.prog w base sp held m 4 ((List.drop (0 * Tryd.prog.cellsOf 4) [v1, v2, v3, v4, v5]).take (Tryd.prog.cellsOf 4)) = some z0 := hxs 0 (by decide)
      have b1 : DataW.trod enc Tryd.prog w base sp held m 4 ((List.drop (1 * Tryd.prog.cellsOf 4) [v1, v2, v3, v4, v5]).take (Tryd.prog.cellsOf 4)) = some z1 := hxs 1 (by decide)
      have b2 : DataW.trod enc Tryd.prog w base sp held m 4 ((List.drop (2 * Tryd.prog.cellsOf 4) [v1, v2, v3, v4, v5]).take (Tryd.prog.cellsOf 4)) = some z2 := hxs 2 (by decide)
      have b3 : DataW.trod enc Tryd.prog w base sp held m 4 ((List.drop (3 * Tryd.prog.cellsOf 4) [v1, v2, v3, v4, v5]).take (Tryd.prog.cellsOf 4)) = some z3 := hxs 3 (by decide)
      have b4 : DataW.trod enc Tryd.prog w base sp held m 4 ((List.drop (4 * Tryd.prog.cellsOf 4) [v1, v2, v3, v4, v5]).take (Tryd.prog.cellsOf 4)) = some z4 := hxs 4 (by decide)
      rw [kb] at b0 b1 b2 b3 b4
      simp only [List.drop_zero, List.drop_succ_cons, List.take_succ_cons, List.take_zero, Nat.zero_mul, Nat.one_mul, Nat.mul_one] at b0 b1 b2 b3 b4
      obtain ⟨c0, f0, rfl⟩ := DataW.trod_bool Tryd.underlying4 b0
      obtain ⟨c1, f1, rfl⟩ := DataW.trod_bool Tryd.underlying4 b1
      obtain ⟨c2, f2, rfl⟩ := DataW.trod_bool Tryd.underlying4 b2
      obtain ⟨c3, f3, rfl⟩ := DataW.trod_bool Tryd.underlying4 b3
      obtain ⟨c4, f4, rfl⟩ := DataW.trod_bool Tryd.underlying4 b4
      simp [KRow.data] at hx
      simp at e0 f0 f1 f2 f3 f4
      obtain ⟨⟨g0, g1, g2, g3, g4, g5⟩, _⟩ := hx
      subst e0 f0 f1 f2 f3 f4
      obtain rfl : r.name = s := bytes_eq (by rw [g0])
      simp [KRow.cells, g1, g2, g3, g4, g5]

abbrev helloS : ByteArray := ⟨#[104, 101, 108, 108, 111]⟩
abbrev welcomeS : ByteArray := ⟨#[119, 101, 108, 99, 111, 109, 101]⟩
abbrev rejectS : ByteArray := ⟨#[114, 101, 106, 101, 99, 116]⟩
abbrev pingS : ByteArray := ⟨#[112, 105, 110, 103]⟩
abbrev ackS : ByteArray := ⟨#[97, 99, 107]⟩
abbrev askS : ByteArray := ⟨#[97, 115, 107]⟩
abbrev pushS : ByteArray := ⟨#[112, 117, 115, 104]⟩
abbrev pullS : ByteArray := ⟨#[112, 117, 108, 108]⟩
abbrev resetS : ByteArray := ⟨#[114, 101, 115, 101, 116]⟩

/-- The table's rows. -/
def kRows : List KRow := [⟨⟨#[]⟩, false, false, false, false, false⟩, ⟨helloS, true, false, false, false, false⟩, ⟨welcomeS, true, false, false, false, false⟩, ⟨rejectS, false, true, false, false, false⟩,
  ⟨pingS, true, false, false, false, true⟩, ⟨ackS, true, false, false, false, true⟩, ⟨askS, true, true, false, false, true⟩, ⟨pushS, false, false, true, true, true⟩, ⟨pullS, false, false, true, false, true⟩, ⟨resetS, false, false, true, false, false⟩]
def rowK (k : Nat) : KRow := kRows.getD k ⟨⟨#[]⟩, false, false, false, false, false⟩
def nameK (k : Nat) : ByteArray := (rowK k).name

/-- The table of kinds. -/
def Kd (w : World) : Prop := ∀ k, k < 10 → ∀ j, j < 6 → w.cell? ⟨0, k * 6 + j, none⟩ = (rowK k).cells[j]?

theorem Kd.lt {w : World} (h : Kd w) : 0 < w.heap.size := by
  have := h 0 (by decide) 0 (by decide)
  exact lt_of_cell (p := ⟨0, 0, none⟩) (v := .string (rowK 0).name) (by simpa [KRow.cells] using this)
theorem Kd.below {w w' : World} (h : Kd w) (k : Below w.heap.size w w') : Kd w' := fun i hi j hj => by
  rw [k.cell (p := ⟨0, i * 6 + j, none⟩) h.lt]; exact h i hi j hj

theorem laid_is {H : Type} : (Rows.laid_polyglot_msg_kinds : DataW H) = .agg (kRows.map KRow.data) := rfl

/-- What the listed variable reads as is the table of kinds. -/
theorem kd_of_laid {L : List (String × DataW Unit)} (hp : (L.all fun x => x.2.handleName?.isNone) = true) (hm : ("polyglot/msg.kinds", Rows.laid_polyglot_msg_kinds) ∈ L) {W : World} (h : laidMetH Tryd.prog L W) : Kd W := by
  rw [MakeChecks.laidMetH_plain _ _ _ hp] at h
  obtain ⟨ps, hL, _, _⟩ := h
  obtain ⟨g, t, cs, fuel, p, hg, ht, hv, hd⟩ := laidVars_in hL hm
  obtain rfl := Option.some.inj ((show Tryd.prog.globalNamed "polyglot/msg.kinds" = some 0 by kernel_rfl).symm.trans hg)
  obtain rfl := Option.some.inj ((show (Tryd.prog.globals[0]?).map (·.type) = some 74 by kernel_rfl).symm.trans ht)
  have hat : ∀ i, W.cell? ⟨0, i, none⟩ = cs.toList[i]? := fun i => by
    rw [World.var?_cell hg hv i, Array.getElem?_toList]
  obtain ⟨xs, m, _, hx, hl, hxl, hxs⟩ := DataW.trod_array Tryd.underlying74 hd
  have kr : Tryd.prog.cellsOf 73 = 6 := by kernel_rfl
  rw [laid_is] at hx
  have hx1 : xs.map (·.1) = kRows.map KRow.data := by
    have := congrArg Prod.fst hx
    simpa using this.symm
  intro k hk j hj
  rw [hat]
  have h1 := hxs k hk
  rw [kr] at h1
  have hk' : k < xs.length := by omega
  rw [List.getElem?_eq_getElem hk'] at h1
  have hkr : k < kRows.length := hk
  have e1 : (xs[k]).1 = (rowK k).data := by
    have := congrArg (·[k]?) hx1
    simp only [List.getElem?_map, List.getElem?_eq_getElem hk', List.getElem?_eq_getElem hkr, Option.map_some, Option.some.injEq] at this
    rw [this, rowK, List.getD, List.getElem?_eq_getElem hkr]; rfl
  have h2 := row_cells (rowK k) (cs := (cs.toList.drop (k * 6)).take 6) (p := (xs[k]).2) (by rw [h1]; exact congrArg some (Prod.ext e1 rfl))
  rw [← h2, List.getElem?_take, if_pos hj, List.getElem?_drop]

theorem Kd.name {w : World} (h : Kd w) (k : Nat) (hk : k < 10) : w.cell? ⟨0, k * 6, none⟩ = some (.string (nameK k)) := by
  simpa [KRow.cells, nameK] using h k hk 0 (by decide)
theorem Kd.has {w : World} (h : Kd w) (k j : Nat) (hk : k < 10) (h1 : 1 ≤ k) (hj : j < 5) : w.cell? ⟨0, k * 6 + 1 + j, none⟩ = some (.bool (hasB k j)) := by
  have := h k hk (1 + j) (by omega)
  rw [show k * 6 + 1 + j = k * 6 + (1 + j) by omega, this]
  have hk9 : k = 1 ∨ k = 2 ∨ k = 3 ∨ k = 4 ∨ k = 5 ∨ k = 6 ∨ k = 7 ∨ k = 8 ∨ k = 9 := by omega
  have hj5 : j = 0 ∨ j = 1 ∨ j = 2 ∨ j = 3 ∨ j = 4 := by omega
  rcases hk9 with rfl | rfl | rfl | rfl | rfl | rfl | rfl | rfl | rfl <;> rcases hj5 with rfl | rfl | rfl | rfl | rfl <;> rfl

set_option maxHeartbeats 800000 in
theorem mwithin_any (n a b : Int) (w : World) : Calls Tryd.prog 39 #[.int .i64 n, .int .i64 a, .int .i64 b] w fun e w' => e = .returned (.bool (decide (a ≤ n ∧ n ≤ b))) ∧ w = w' := by
  by_cases t1 : a ≤ n
  · by_cases t2 : n ≤ b
    · go_enter Tryd.func39, Tryd.ntmps39
      go_wp2
      go_ret
      exact ⟨by simp [t1, t2], rfl⟩
    · go_enter Tryd.func39, Tryd.ntmps39
      go_wp2
      go_ret
      exact ⟨by simp [t1, t2] <;> omega, rfl⟩
  · go_enter Tryd.func39, Tryd.ntmps39
    go_wp2
    go_ret
    exact ⟨by simp; intro; omega, rfl⟩

theorem isKind_any (k : Int) (w : World) : Calls Tryd.prog 21 #[.int .i64 k] w fun e w' => e = .returned (.bool (decide (1 ≤ k ∧ k ≤ 9))) ∧ w = w' := by
  have C := fun X => mwithin_any k 1 9 X
  generalize decide (1 ≤ k ∧ k ≤ 9) = b at C ⊢
  go_enter Tryd.func21, Tryd.ntmps21
  go_wp2_with fail
  refine (C _).mono ?_
  rintro e w1 ⟨rfl, rfl⟩
  go_wp2_with fail
  go_ret
  exact ⟨rfl, rfl⟩


theorem isPart_any (p : Int) (w : World) : Calls Tryd.prog 41 #[.int .i64 p] w fun e w' => e = .returned (.bool (decide (0 ≤ p ∧ p ≤ 4))) ∧ w = w' := by
  by_cases t1 : 0 ≤ p
  · by_cases t2 : p ≤ 4
    · go_enter Tryd.func41, Tryd.ntmps41
      go_wp2
      go_ret
      exact ⟨by simp [t1, t2], rfl⟩
    · go_enter Tryd.func41, Tryd.ntmps41
      go_wp2
      go_ret
      exact ⟨by simp [t1, t2] <;> omega, rfl⟩
  · go_enter Tryd.func41, Tryd.ntmps41
    go_wp2
    go_ret
    exact ⟨by simp; intro; omega, rfl⟩

def hasM (k p : Int) : Bool := decide (1 ≤ k ∧ k ≤ 9) && decide (0 ≤ p ∧ p ≤ 4) && hasB k p
theorem hasM_kind {k p : Int} (h : 1 ≤ k ∧ k ≤ 9) (hp : 0 ≤ p ∧ p ≤ 4) : hasM k p = hasB k p := by simp [hasM, h, hp]

set_option maxHeartbeats 1600000 in
theorem mhas_any (k p : Int) (w : World) (hK : Kd w) : Calls Tryd.prog 26 #[.int .i64 k, .int .i64 p] w fun e w' => e = .returned (.bool (hasM k p)) ∧ w = w' := by
  have C := fun X => isKind_any k X
  have D := fun X => isPart_any p X
  by_cases t1 : 1 ≤ k ∧ k ≤ 9
  · by_cases t2 : 0 ≤ p ∧ p ≤ 4
    · rw [hasM_kind t1 t2]
      rw [decide_eq_true t1] at C
      rw [decide_eq_true t2] at D
      obtain ⟨k, rfl⟩ : ∃ n : Nat, k = n := ⟨k.toNat, by omega⟩
      obtain ⟨p, rfl⟩ : ∃ n : Nat, p = n := ⟨p.toNat, by omega⟩
      have c := hK.has k p (by omega) (by omega) (by omega)
      have q1 : k < 10 := by omega
      have q2 : p < 5 := by omega
      generalize hasB (k : Int) (p : Int) = b at c ⊢
      clear hK
      go_enter Tryd.func26, Tryd.ntmps26
      go_wp2_with fail
      refine (C _).mono ?_
      rintro e w1 ⟨rfl, rfl⟩
      go_wp2_with fail
      refine (D _).mono ?_
      rintro e w1 ⟨rfl, rfl⟩
      go_wp2_with fail
      go_ret
      exact ⟨rfl, rfl⟩
    · rw [show hasM k p = false by simp [hasM, t2]]
      rw [decide_eq_true t1] at C
      rw [decide_eq_false t2] at D
      go_enter Tryd.func26, Tryd.ntmps26
      go_wp2_with fail
      refine (C _).mono ?_
      rintro e w1 ⟨rfl, rfl⟩
      go_wp2_with fail
      refine (D _).mono ?_
      rintro e w1 ⟨rfl, rfl⟩
      go_wp2_with fail
      go_ret
      exact ⟨rfl, rfl⟩
  · rw [show hasM k p = false by simp [hasM]; intros; omega]
    rw [decide_eq_false t1] at C
    go_enter Tryd.func26, Tryd.ntmps26
    go_wp2_with fail
    refine (C _).mono ?_
    rintro e w1 ⟨rfl, rfl⟩
    go_wp2_with fail
    go_ret
    exact ⟨rfl, rfl⟩

/-- The name of a number. -/
def nameM (k : Int) : ByteArray := if 1 ≤ k ∧ k ≤ 9 then nameK k.toNat else ⟨#[]⟩


theorem mtext_eq (a b : ByteArray) : (a.toList == b.toList) = decide (a = b) := by
  rw [ByteArray.toList_eq, ByteArray.toList_eq, Bool.eq_iff_iff]
  simp
  constructor
  · intro h
    cases a; cases b
    simp at h
    rw [h]
  · rintro rfl; rfl

/-- The kind of a name, n rows ahead of the table's end. -/
def kindR (s : ByteArray) : Nat → Int × Bool
  | 0 => (0, false)
  | n + 1 => if 1 ≤ 9 - n ∧ nameK (9 - n) = s then (((9 - n : Nat) : Int), true) else kindR s n
def kindM (s : ByteArray) : Int × Bool := kindR s 10

/-- The row as a value. -/
def rowV (k : Nat) : Value := .agg #[.string (rowK k).name, .bool (rowK k).h0, .bool (rowK k).h1, .bool (rowK k).h2, .bool (rowK k).h3, .bool (rowK k).h4]
/-- The table as a value. -/
def tabV : Value := .agg ((kRows.flatMap KRow.cells).toArray)
theorem tab_row (k : Nat) (hk : k < 10) (w : World) : (Instr.index 74 tabV (.int .i64 k)).run Tryd.prog w = .ok (rowV k) w := by
  have h : k = 0 ∨ k = 1 ∨ k = 2 ∨ k = 3 ∨ k = 4 ∨ k = 5 ∨ k = 6 ∨ k = 7 ∨ k = 8 ∨ k = 9 := by omega
  rcases h with rfl | rfl | rfl | rfl | rfl | rfl | rfl | rfl | rfl | rfl <;> rfl
end Go.Proofs.YtmejfkhikgcgmaaDoor
namespace Go.Proofs.YtmejfkhikgcgmaaDoor
open Go.RowKit
set_option linter.unusedSimpArgs false
set_option linter.unusedVariables false
set_option maxRecDepth 10000
set_option synthInstance.maxSize 2000

set_option maxHeartbeats 800000 in
theorem within_any (n m : Int) (w : World) : Calls Tryd.prog 84 #[.int .i64 n, .int .i64 m] w fun e w' => e = .returned (.bool (decide (0 ≤ n ∧ n ≤ m))) ∧ w = w' := by
  by_cases t1 : 0 ≤ n
  · by_cases t2 : n ≤ m
    · go_enter Tryd.func84, Tryd.ntmps84
      go_wp2
      go_ret
      exact ⟨by simp [t1, t2], rfl⟩
    · go_enter Tryd.func84, Tryd.ntmps84
      go_wp2
      go_ret
      exact ⟨by simp [t1, t2] <;> omega, rfl⟩
  · go_enter Tryd.func84, Tryd.ntmps84
    go_wp2
    go_ret
    exact ⟨by simp; intro; omega, rfl⟩

/-- A record that was laid for a call. -/
structure InB (w : World) (r : Rc) (X : World) : Prop where
  below : Below w.heap.size w X
  box : X.heap[w.heap.size]? = some (.cells #[.int .i64 r.id, .int .i64 r.inc, .int .i64 r.st, .int .i64 r.lo, .int .i64 r.hi, .bool r.cut, .slice r.p r.bag.length r.cap] 44 (0, 0))

theorem InB.start (w : World) (r : Rc) : InB w r (w.alloc (.cells #[.int .i64 r.id, .int .i64 r.inc, .int .i64 r.st, .int .i64 r.lo, .int .i64 r.hi, .bool r.cut, .slice r.p r.bag.length r.cap] 44)) := ⟨(Below.refl _ _).alloc (Nat.le_refl _) _, heap_alloc_new _ _⟩
theorem InB.on {w X X' : World} {r : Rc} (h : InB w r X) (k : Below X.heap.size X X') : InB w r X' :=
  ⟨h.below.trans (k.mono h.below.size), by rw [k.block _ (Array.getElem?_eq_some_iff.1 h.box).1]; exact h.box⟩

/-- The cells of a block that is a record. -/
theorem box_cells {X : World} {b : Nat} {r : Rc} {t : TypeId} (h : X.heap[b]? = some (.cells #[.int .i64 r.id, .int .i64 r.inc, .int .i64 r.st, .int .i64 r.lo, .int .i64 r.hi, .bool r.cut, .slice r.p r.bag.length r.cap] t (0, 0))) :
    X.cell? ⟨b, 0, none⟩ = some (.int .i64 r.id) ∧ X.cell? ⟨b, 1, none⟩ = some (.int .i64 r.inc) ∧ X.cell? ⟨b, 2, none⟩ = some (.int .i64 r.st) ∧ X.cell? ⟨b, 3, none⟩ = some (.int .i64 r.lo) ∧
    X.cell? ⟨b, 4, none⟩ = some (.int .i64 r.hi) ∧ X.cell? ⟨b, 5, none⟩ = some (.bool r.cut) ∧ X.cell? ⟨b, 6, none⟩ = some (.slice r.p r.bag.length r.cap) := by
  simp [World.cell?, h]
theorem box_frozen {X : World} {b : Nat} {cs : Array Value} {t : TypeId} (h : X.heap[b]? = some (.cells cs t (0, 0))) :
    X.frozen? ⟨b, 0, none⟩ = false ∧ X.frozen? ⟨b, 1, none⟩ = false ∧ X.frozen? ⟨b, 2, none⟩ = false ∧ X.frozen? ⟨b, 3, none⟩ = false ∧ X.frozen? ⟨b, 4, none⟩ = false ∧ X.frozen? ⟨b, 5, none⟩ = false ∧ X.frozen? ⟨b, 6, none⟩ = false := by
  simp [World.frozen?, h]

set_option maxHeartbeats 800000 in
theorem hasBag_any (r : Rc) (w : World) : Calls Tryd.prog 74 #[.agg #[.int .i64 r.id, .int .i64 r.inc, .int .i64 r.st, .int .i64 r.lo, .int .i64 r.hi, .bool r.cut, .slice r.p r.bag.length r.cap]] w fun e w' => e = .returned (.bool (decide (0 < r.bag.length))) ∧ Below w.heap.size w w' := by
  have HB := Hid.mk' (InB.start w r).below
  by_cases t : 0 < r.bag.length
  · go_enter Tryd.func74, Tryd.ntmps74
    go_wp2
    go_ret
    exact ⟨by simp [t], HB.out⟩
  · go_enter Tryd.func74, Tryd.ntmps74
    go_wp2
    go_ret
    exact ⟨by simp [t], HB.out⟩

set_option maxHeartbeats 1600000 in
theorem coreMay_any (r : Rc) (w : World) : Calls Tryd.prog 72 #[.agg #[.int .i64 r.id, .int .i64 r.inc, .int .i64 r.st, .int .i64 r.lo, .int .i64 r.hi, .bool r.cut, .slice r.p r.bag.length r.cap]] w fun e w' => e = .returned (.bool (coreOk (rk r))) ∧ Below w.heap.size w w' := by
  have HM := Hid.mk' (show coreOk (rk r) = (decide (0 ≤ r.id ∧ r.id ≤ 4095) && decide (0 ≤ r.inc ∧ r.inc ≤ 281474976710655) && decide (0 ≤ r.st ∧ r.st ≤ 3) && okS r.lo r.hi) from rfl)
  have HB := Hid.mk' (InB.start w r).below
  have W1 := fun X => within_any r.id 4095 X
  have W2 := fun X => within_any r.inc 281474976710655 X
  have W3 := fun X => within_any r.st 3 X
  have W4 := fun X => okS_any r.lo r.hi X
  generalize coreOk (rk r) = q at HM ⊢
  generalize decide (0 ≤ r.id ∧ r.id ≤ 4095) = b1 at HM W1
  generalize decide (0 ≤ r.inc ∧ r.inc ≤ 281474976710655) = b2 at HM W2
  generalize decide (0 ≤ r.st ∧ r.st ≤ 3) = b3 at HM W3
  generalize okS r.lo r.hi = b4 at HM W4
  go_enter Tryd.func72, Tryd.ntmps72
  go_wp2_with fail
  refine (W1 _).mono ?_
  rintro e w1 ⟨rfl, rfl⟩
  cases b1
  · go_wp2_with fail
    go_ret
    exact ⟨by rw [HM.out]; simp, HB.out⟩
  go_wp2_with fail
  refine (W2 _).mono ?_
  rintro e w1 ⟨rfl, rfl⟩
  cases b2
  · go_wp2_with fail
    go_ret
    exact ⟨by rw [HM.out]; simp, HB.out⟩
  go_wp2_with fail
  refine (W3 _).mono ?_
  rintro e w1 ⟨rfl, rfl⟩
  cases b3
  · go_wp2_with fail
    go_ret
    exact ⟨by rw [HM.out]; simp, HB.out⟩
  go_wp2_with fail
  refine (W4 _).mono ?_
  rintro e w1 ⟨rfl, rfl⟩
  go_wp2_with fail
  go_ret
  exact ⟨by rw [HM.out]; simp, HB.out.alloc HB.out.size _⟩

set_option maxHeartbeats 1600000 in
theorem rvalid_any (r : Rc) (w : World) (hr : ROk w r) (hz : szK (kys r.bag) ≤ 4611686018427387904) : Calls Tryd.prog 50 #[.agg #[.int .i64 r.id, .int .i64 r.inc, .int .i64 r.st, .int .i64 r.lo, .int .i64 r.hi, .bool r.cut, .slice r.p r.bag.length r.cap]] w fun e w' => e = .returned (.bool (mayR (rk r))) ∧ Below w.heap.size w w' := by
  have HM := Hid.mk' (show mayR (rk r) = (coreOk (rk r) && mayK (kys r.bag) && !(r.cut && decide (0 < r.bag.length))) by rw [mayR, show (rk r).bag = kys r.bag from rfl, kys_len]; rfl)
  have HI := Hid.mk' (InB.start w r)
  have C := fun X => coreMay_any r X
  have V := fun X (h : InB w r X) => valid_any r.p r.cap r.bag X (hr.fin.below h.below) (Nat.le_trans hr.len hr.cap) hz
  have B := fun X => hasBag_any r X
  generalize mayR (rk r) = q at HM ⊢
  generalize coreOk (rk r) = b1 at HM C
  generalize mayK (kys r.bag) = b2 at HM V
  generalize decide (0 < r.bag.length) = b3 at HM B
  obtain ⟨cu, hcu⟩ : ∃ cu, r.cut = cu := ⟨_, rfl⟩
  rw [hcu] at HM
  have HC := Hid.mk' hcu
  clear hcu
  go_enter Tryd.func50, Tryd.ntmps50
  go_wp2_with fail
  refine (C _).mono ?_
  rintro e w1 ⟨rfl, hb1⟩
  have HI1 := Hid.mk' (HI.out.on hb1)
  clear HI hb1 C
  cases b1
  · go_wp2_with fail
    go_ret
    exact ⟨by rw [HM.out]; simp, HI1.out.below⟩
  obtain ⟨_, _, _, _, _, _, c6⟩ := box_cells HI1.out.box
  go_wp2_with fail
  refine (V _ HI1.out).mono ?_
  rintro e w2 ⟨rfl, hb2⟩
  have HI2 := Hid.mk' (HI1.out.on hb2)
  clear HI1 hb2 V c6
  cases b2
  · go_wp2_with fail
    go_ret
    exact ⟨by rw [HM.out]; simp, HI2.out.below⟩
  obtain ⟨c0, c1, c2, c3, c4, c5, c6⟩ := box_cells HI2.out.box
  rw [HC.out] at c5 B
  cases cu
  · go_wp2_with fail
    go_ret
    exact ⟨by rw [HM.out]; simp, HI2.out.below⟩
  go_wp2_with fail
  refine (B _).mono ?_
  rintro e w3 ⟨rfl, hb3⟩
  have HI3 := Hid.mk' (HI2.out.on hb3)
  clear HI2 hb3 B c0 c1 c2 c3 c4 c5 c6
  go_wp2_with fail
  go_ret
  exact ⟨by rw [HM.out]; simp, HI3.out.below⟩

/-- Two records that were laid for a call. -/
structure InB2 (w : World) (a b : Rc) (X : World) : Prop where
  below : Below w.heap.size w X
  ba : X.heap[w.heap.size]? = some (.cells #[.int .i64 a.id, .int .i64 a.inc, .int .i64 a.st, .int .i64 a.lo, .int .i64 a.hi, .bool a.cut, .slice a.p a.bag.length a.cap] 44 (0, 0))
  bb : X.heap[w.heap.size + 1]? = some (.cells #[.int .i64 b.id, .int .i64 b.inc, .int .i64 b.st, .int .i64 b.lo, .int .i64 b.hi, .bool b.cut, .slice b.p b.bag.length b.cap] 44 (0, 0))

theorem InB2.start (w : World) (a b : Rc) : InB2 w a b ((w.alloc (.cells #[.int .i64 a.id, .int .i64 a.inc, .int .i64 a.st, .int .i64 a.lo, .int .i64 a.hi, .bool a.cut, .slice a.p a.bag.length a.cap] 44)).alloc (.cells #[.int .i64 b.id, .int .i64 b.inc, .int .i64 b.st, .int .i64 b.lo, .int .i64 b.hi, .bool b.cut, .slice b.p b.bag.length b.cap] 44)) := by
  refine ⟨((Below.refl _ _).alloc (Nat.le_refl _) _).alloc (by simp) _, (heap_alloc_old _ _ (by simp)).trans (heap_alloc_new _ _), ?_⟩
  have := heap_alloc_new (w.alloc (.cells #[.int .i64 a.id, .int .i64 a.inc, .int .i64 a.st, .int .i64 a.lo, .int .i64 a.hi, .bool a.cut, .slice a.p a.bag.length a.cap] 44)) (.cells #[.int .i64 b.id, .int .i64 b.inc, .int .i64 b.st, .int .i64 b.lo, .int .i64 b.hi, .bool b.cut, .slice b.p b.bag.length b.cap] 44)
  rw [show (w.alloc (.cells #[.int .i64 a.id, .int .i64 a.inc, .int .i64 a.st, .int .i64 a.lo, .int .i64 a.hi, .bool a.cut, .slice a.p a.bag.length a.cap] 44)).heap.size = w.heap.size + 1 by simp] at this
  exact this
theorem InB2.on {w X X' : World} {a b : Rc} (h : InB2 w a b X) (k : Below X.heap.size X X') : InB2 w a b X' :=
  ⟨h.below.trans (k.mono h.below.size), by rw [k.block _ (Array.getElem?_eq_some_iff.1 h.ba).1]; exact h.ba, by rw [k.block _ (Array.getElem?_eq_some_iff.1 h.bb).1]; exact h.bb⟩

def akinK (a b : Rc) : Bool := decide (a.id = b.id) && decide (a.inc = b.inc) && decide (a.st = b.st) && decide (a.lo = b.lo) && decide (a.hi = b.hi)


theorem same_iff (a b : Rc) : decide (rk a = rk b) = (akinK a b && decide (a.cut = b.cut) && decide (kys a.bag = kys b.bag)) := by
  rw [Bool.eq_iff_iff]
  simp only [decide_eq_true_eq, rk_eq, akinK, Bool.and_eq_true]
  constructor <;> intro h <;> simp_all



/-- A record whose bag is lost. -/
def bareR (r : Rc) : Rc := ⟨r.id, r.inc, r.st, r.lo, r.hi, r.cut || decide (0 < r.bag.length), none, 0, []⟩
def coreR (r : Rc) : Rc := ⟨r.id, r.inc, r.st, r.lo, r.hi, false, none, 0, []⟩
theorem bareR_ok {w w' : World} {r : Rc} (h : ROk w r) : ROk w' (bareR r) := ⟨h.id, h.inc, h.st, h.lo, h.hi, Nat.le_refl _, by simp [bareR, maxLen], fun _ => rfl, FIn.empty _ _, by simp [bareR]⟩
theorem coreR_ok {w w' : World} {r : Rc} (h : ROk w r) : ROk w' (coreR r) := ⟨h.id, h.inc, h.st, h.lo, h.hi, Nat.le_refl _, by simp [coreR, maxLen], fun _ => rfl, FIn.empty _ _, by simp [coreR]⟩

end Go.Proofs.YtmejfkhikgcgmaaDoor
namespace Go.Proofs.YtmejfkhikgcgmaaDoor
open Go.RowKit
set_option linter.unusedSimpArgs false
set_option linter.unusedVariables false
set_option maxRecDepth 10000
set_option synthInstance.maxSize 2000


theorem FIn.fr {S : Nat → Prop} {w w' : World} {p : Option Addr} {l : List Fd} (h : FIn w p l) (k : Fr S w w') (h1 : 0 < l.length → ∀ a, p = some a → ¬ S a.block) (h2 : ∀ f ∈ l, 0 < f.d.length → ∀ a, f.p = some a → ¬ S a.block) : FIn w' p l := fun hl => by
  obtain ⟨b, o, rfl, hc⟩ := h.at hl
  have hn := h1 hl _ rfl
  refine FIn.of (fun i hi => ?_) hl
  obtain ⟨e1, e2, e3⟩ := hc i hi
  exact ⟨by rw [k.cell (p := ⟨b, o + i * 2, none⟩) (lt_of_cell e1) hn]; exact e1, by rw [k.cell (p := ⟨b, o + i * 2 + 1, none⟩) (lt_of_cell e2) hn]; exact e2, e3.fr k (h2 _ (by simp [List.getD, hi]))⟩

/-- All of its bag lies behind block B. -/
structure ROkA (B : Nat) (w : World) (r : Rc) : Prop where
  ok : ROk w r
  off : ∀ a, r.p = some a → B < a.block
  offs : ∀ f ∈ r.bag, 0 < f.d.length → ∀ a, f.p = some a → B < a.block

theorem ROkA.below {B : Nat} {w w' : World} {r : Rc} (h : ROkA B w r) (k : Below w.heap.size w w') : ROkA B w' r := ⟨h.ok.below k, h.off, h.offs⟩
theorem ROkA.mono {B B' : Nat} {w : World} {r : Rc} (h : ROkA B w r) (hb : B' ≤ B) : ROkA B' w r := ⟨h.ok, fun a ha => by have := h.off a ha; omega, fun f hf hl a ha => by have := h.offs f hf hl a ha; omega⟩
theorem ROkA.fr {B : Nat} {S : Nat → Prop} {w w' : World} {r : Rc} (h : ROkA B w r) (k : Fr S w w') (hs : ∀ i, S i → i ≤ B) : ROkA B w' r :=
  ⟨⟨h.ok.id, h.ok.inc, h.ok.st, h.ok.lo, h.ok.hi, h.ok.len, h.ok.cap, h.ok.nil, h.ok.fin.fr k (fun _ a ha q => by have := h.off a ha; have := hs _ q; omega) (fun f hf hl a ha q => by have := h.offs f hf hl a ha; have := hs _ q; omega), h.ok.few⟩, h.off, h.offs⟩

/-- Seven stores into one block. -/
theorem Fr.seven {S : Nat → Prop} {w X : World} (h : Fr S w X) {b o : Nat} (hb : S b) (r : Rc) :
    Fr S w (((((((X.setCell ⟨b, o, none⟩ (.int .i64 r.id)).setCell ⟨b, o + 1, none⟩ (.int .i64 r.inc)).setCell ⟨b, o + 2, none⟩ (.int .i64 r.st)).setCell ⟨b, o + 3, none⟩ (.int .i64 r.lo)).setCell ⟨b, o + 4, none⟩ (.int .i64 r.hi)).setCell ⟨b, o + 5, none⟩ (.bool r.cut)).setCell ⟨b, o + 6, none⟩ (.slice r.p r.bag.length r.cap)) :=
  ((((((h.setCell (p := ⟨b, o, none⟩) (.inl hb) _).setCell (p := ⟨b, o + 1, none⟩) (.inl hb) _).setCell (p := ⟨b, o + 2, none⟩) (.inl hb) _).setCell (p := ⟨b, o + 3, none⟩) (.inl hb) _).setCell (p := ⟨b, o + 4, none⟩) (.inl hb) _).setCell (p := ⟨b, o + 5, none⟩) (.inl hb) _).setCell (p := ⟨b, o + 6, none⟩) (.inl hb) _

def OwnPost (w : World) (r : Rc) (e : Ending) (w' : World) : Prop := ∃ r', e = .returned (.agg #[.int .i64 r'.id, .int .i64 r'.inc, .int .i64 r'.st, .int .i64 r'.lo, .int .i64 r'.hi, .bool r'.cut, .slice r'.p r'.bag.length r'.cap]) ∧ rk r' = rk r ∧ ROkA w.heap.size w' r' ∧ Below w.heap.size w w'


end Go.Proofs.YtmejfkhikgcgmaaDoor
namespace Go.Proofs.YtmejfkhikgcgmaaDoor
open Go.RowKit
set_option linter.unusedSimpArgs false
set_option linter.unusedVariables false
set_option maxRecDepth 10000
set_option synthInstance.maxSize 2000

/-- The first place that is wanted, or the end. -/
def firstP (f : Int → Bool) : List Rc → Nat
  | [] => 0
  | x :: t => if f x.id then 0 else firstP f t + 1
theorem firstP_le (f : Int → Bool) : ∀ l : List Rc, firstP f l ≤ l.length
  | [] => Nat.le_refl _
  | x :: t => by
    have := firstP_le f t
    unfold firstP
    split
    · exact Nat.zero_le _
    · simp only [List.length_cons]; omega
theorem firstP_hit (f : Int → Bool) : ∀ (l : List Rc) (k : Nat), k < l.length → (∀ x ∈ l.take k, f x.id = false) → f (l.getD k zr).id = true → firstP f l = k
  | [], k, hk, _, _ => by simp at hk
  | x :: t, 0, hk, _, h => by simp [List.getD] at h; simp [firstP, h]
  | x :: t, k + 1, hk, h1, h => by
    have h0 : f x.id = false := h1 x (by simp)
    have := firstP_hit f t k (by simpa using hk) (fun y hy => h1 y (by simp [hy])) (by simpa [List.getD] using h)
    simp [firstP, h0, this]
theorem firstP_miss (f : Int → Bool) : ∀ (l : List Rc), (∀ x ∈ l, f x.id = false) → firstP f l = l.length
  | [], _ => rfl
  | x :: t, h => by
    have := firstP_miss f t (fun y hy => h y (by simp [hy]))
    simp [firstP, h x (by simp), this]
theorem firstP_at (f : Int → Bool) : ∀ (l : List Rc), firstP f l < l.length → f (l.getD (firstP f l) zr).id = true
  | [], h => by simp [firstP] at h
  | x :: t, h => by
    by_cases q : f x.id = true
    · simp [firstP, q, List.getD]
    · have q' : f x.id = false := by simpa using q
      simp only [firstP, q', Bool.false_eq_true, if_false, List.length_cons] at h ⊢
      have := firstP_at f t (by omega)
      simpa [List.getD] using this
theorem firstP_no (f : Int → Bool) : ∀ (l : List Rc), ∀ x ∈ l.take (firstP f l), f x.id = false
  | [], x, hx => by simp at hx
  | y :: t, x, hx => by
    by_cases q : f y.id = true
    · simp [firstP, q] at hx
    · have q' : f y.id = false := by simpa using q
      simp only [firstP, q', Bool.false_eq_true, if_false, List.take_succ_cons, List.mem_cons] at hx
      rcases hx with rfl | hx
      · exact q'
      · exact firstP_no f t x hx

theorem one_cell {w : World} {b : Nat} {x : Value} {t : TypeId} (h : w.heap[b]? = some (.cells #[x] t (0, 0))) : w.cell? ⟨b, 0, none⟩ = some x := by simp [World.cell?, h]






set_option maxHeartbeats 4000000 in
theorem sorted_any (p : Option Addr) (c : Nat) (l : List Rc) (w : World) (hp : RIn w p l) (hn : l.length ≤ maxLen) (hz : ∀ x ∈ l, szK (kys x.bag) ≤ 4611686018427387904) :
    Calls Tryd.prog 62 #[.slice p l.length c] w fun e w' => e = .returned (.bool (sortR (-1) (rks l))) ∧ Below w.heap.size w w' := by
  simp only [maxLen] at hn
  obtain ⟨r, hr⟩ : ∃ r, sortR (-1) (rks l) = r := ⟨_, rfl⟩
  rw [hr]
  have HR := Hid.mk' hr.symm
  clear hr
  go_enter Tryd.func62, Tryd.ntmps62
  go_wp2
  go_loopw [3, 8] (fun n i W => ∃ k : Nat, ∃ a : Int, k ≤ l.length ∧ i = .int .i64 k ∧ n = .int .i64 a ∧ Hid (r = sortR a (rks (l.drop k))) ∧ Below w.heap.size w W) (fun n i _ => l.length - (intOf i).toNat)
  case atStart => exact ⟨0, -1, by omega, rfl, rfl, HR.out, Below.refl _ _⟩
  case round =>
    obtain ⟨k, a, hk, rfl, rfl, HT, hb⟩ := hrel
    by_cases t : k < l.length
    · obtain ⟨b, o, rfl, hcs⟩ := (hp.below hb).at (by omega)
      obtain ⟨hx, hok⟩ := hcs k t
      have HT' := Hid.mk' (show r = (mayR (rk (l.getD k zr)) && decide (a < (l.getD k zr).id) && sortR (l.getD k zr).id (rks (l.drop (k + 1)))) by rw [HT.out, rdrop_next l k t]; rfl)
      have hzk := hz (l.getD k zr) (by simp [List.getD, t])
      generalize l.getD k zr = y at HT' hx hok hzk
      obtain ⟨e0, e1, e2, e3, e4, e5, e6⟩ := hx
      have hB := (Below.refl wr.heap.size wr).alloc (Nat.le_refl _) (.cells #[.int .i64 y.id, .int .i64 y.inc, .int .i64 y.st, .int .i64 y.lo, .int .i64 y.hi, .bool y.cut, .slice y.p y.bag.length y.cap] 44)
      have N := rvalid_any y _ (hok.below hB) hzk
      have HI := Hid.mk' (InB.start wr y)
      have HB := Hid.mk' hb
      generalize mayR (rk y) = m at HT' N
      clear hcs hb hB hok hzk
      go_wp2_with fail
      refine N.mono ?_
      rintro e w3 ⟨rfl, hb3⟩
      have HI3 := Hid.mk' (HI.out.on hb3)
      have HB3 := Hid.mk' (HB.out.trans (HI3.out.below.mono HB.out.size))
      obtain ⟨c0, _, _, _, _, _, _⟩ := box_cells HI3.out.box
      clear HI HB hb3 N HI3
      cases m
      · obtain rfl : r = false := by rw [HT'.out]; simp
        go_wp2_with fail
        try rw [Exit.noGoto_ret]
        go_ret
        exact ⟨rfl, HB3.out⟩
      · by_cases t1 : y.id ≤ a
        · obtain rfl : r = false := by rw [HT'.out]; simp; intro h; omega
          go_wp2_with fail
          try rw [Exit.noGoto_ret]
          go_ret
          exact ⟨rfl, HB3.out⟩
        · have t1' : a < y.id := by omega
          have HV := Hid.mk' (show r = sortR y.id (rks (l.drop (k + 1))) by rw [HT'.out]; simp [t1'])
          go_wp2_with fail
          go_roundw
          case rel => exact ⟨k + 1, y.id, by omega, by go_num, rfl, HV, HB3.out⟩
          case measure => simp [intOf]; omega
    · have HV := Hid.mk' (show r = true by rw [HT.out, List.drop_of_length_le (by omega)]; rfl)
      go_wp2
      go_ret
      exact ⟨by rw [HV.out]; rfl, hb⟩



end Go.Proofs.YtmejfkhikgcgmaaDoor
namespace Go.Proofs.YtmejfkhikgcgmaaDoor
open Go.RowKit
set_option linter.unusedSimpArgs false
set_option linter.unusedVariables false
set_option maxRecDepth 10000
set_option synthInstance.maxSize 2000

set_option maxHeartbeats 1600000 in
theorem target_any (m : Mg) (w : World) : Calls Tryd.prog 60 #[.agg #[.int .i64 m.kind, .int .i64 m.frm, .int .i64 m.inc, .int .i64 m.lo, .int .i64 m.hi, .int .i64 m.seq, .int .i64 m.tgt, .int .i64 m.life, .int .i64 m.epoch, .int .i64 m.base, .slice m.p m.recs.length m.cap]] w fun e w' => e = .returned (.bool (mayP m 1)) ∧ Below w.heap.size w w' := by
  have HB := Hid.mk' (InM.start w m).below
  by_cases t : m.kind = 3
  · have C := fun X => mwithin_any m.tgt 1 3 X
    rw [show mayP m 1 = decide (1 ≤ m.tgt ∧ m.tgt ≤ 3) by simp [mayP, t]]
    generalize decide (1 ≤ m.tgt ∧ m.tgt ≤ 3) = b at C ⊢
    have t' : (m.kind == 3) = true := by simp [t]
    clear t
    go_enter Tryd.func60, Tryd.ntmps60
    go_wp2_with fail
    refine (C _).mono ?_
    rintro e w1 ⟨rfl, rfl⟩
    go_wp2_with fail
    go_ret
    exact ⟨rfl, HB.out⟩
  · have C := fun X => mwithin_any m.tgt 0 4095 X
    rw [show mayP m 1 = decide (0 ≤ m.tgt ∧ m.tgt ≤ 4095) by simp [mayP, t]]
    generalize decide (0 ≤ m.tgt ∧ m.tgt ≤ 4095) = b at C ⊢
    have t' : (m.kind == 3) = false := by simp [t]
    go_enter Tryd.func60, Tryd.ntmps60
    go_wp2_with fail
    refine (C _).mono ?_
    rintro e w1 ⟨rfl, rfl⟩
    go_wp2_with fail
    go_ret
    exact ⟨rfl, HB.out⟩

set_option maxHeartbeats 1600000 in
theorem life_any (m : Mg) (w : World) : Calls Tryd.prog 61 #[.agg #[.int .i64 m.kind, .int .i64 m.frm, .int .i64 m.inc, .int .i64 m.lo, .int .i64 m.hi, .int .i64 m.seq, .int .i64 m.tgt, .int .i64 m.life, .int .i64 m.epoch, .int .i64 m.base, .slice m.p m.recs.length m.cap]] w fun e w' => e = .returned (.bool (mayP m 2)) ∧ Below w.heap.size w w' := by
  have HB := Hid.mk' (InM.start w m).below
  by_cases t : m.epoch = 0
  · have HM := Hid.mk' (show mayP m 2 = (decide (m.life = 0) && decide (m.kind ≠ 9)) by simp [mayP, t])
    generalize mayP m 2 = q at HM ⊢
    have t' : (m.epoch == 0) = true := by simp [t]
    clear t
    have q0 : (m.life == 0) = decide (m.life = 0) := rfl
    have q1 : (m.kind != 9) = decide (m.kind ≠ 9) := by by_cases h : m.kind = 9 <;> simp [h]
    generalize decide (m.life = 0) = b0 at HM q0
    generalize decide (m.kind ≠ 9) = b1 at HM q1
    go_enter Tryd.func61, Tryd.ntmps61
    cases b0
    · go_wp2_with fail
      go_ret
      exact ⟨by rw [HM.out]; simp, HB.out⟩
    go_wp2_with fail
    go_ret
    exact ⟨by rw [HM.out]; simp, HB.out⟩
  · have HM := Hid.mk' (show mayP m 2 = (decide (0 ≤ m.life ∧ m.life ≤ 281474976710655) && decide (0 ≤ m.epoch ∧ m.epoch ≤ 65535)) by simp [mayP, t])
    generalize mayP m 2 = q at HM ⊢
    have C := fun X => mwithin_any m.life 0 281474976710655 X
    have D := fun X => mwithin_any m.epoch 0 65535 X
    have t' : (m.epoch == 0) = false := by simp [t]
    generalize decide (0 ≤ m.life ∧ m.life ≤ 281474976710655) = b0 at HM C
    generalize decide (0 ≤ m.epoch ∧ m.epoch ≤ 65535) = b1 at HM D
    go_enter Tryd.func61, Tryd.ntmps61
    go_wp2_with fail
    refine (C _).mono ?_
    rintro e w1 ⟨rfl, rfl⟩
    cases b0
    · go_wp2_with fail
      go_ret
      exact ⟨by rw [HM.out]; simp, HB.out⟩
    go_wp2_with fail
    refine (D _).mono ?_
    rintro e w1 ⟨rfl, rfl⟩
    go_wp2_with fail
    go_ret
    exact ⟨by rw [HM.out]; simp, HB.out⟩

set_option maxHeartbeats 4000000 in
theorem mayBe_any (m : Mg) (p : Int) (w : World) (hm : MOk w m) (hz : ∀ x ∈ m.recs, szK (kys x.bag) ≤ 4611686018427387904) (hp : 0 ≤ p ∧ p ≤ 4) :
    Calls Tryd.prog 42 #[.agg #[.int .i64 m.kind, .int .i64 m.frm, .int .i64 m.inc, .int .i64 m.lo, .int .i64 m.hi, .int .i64 m.seq, .int .i64 m.tgt, .int .i64 m.life, .int .i64 m.epoch, .int .i64 m.base, .slice m.p m.recs.length m.cap], .int .i64 p] w fun e w' => e = .returned (.bool (mayP m p)) ∧ Below w.heap.size w w' := by
  have HI := Hid.mk' (InM.start w m)
  have hp5 : p = 0 ∨ p = 1 ∨ p = 2 ∨ p = 3 ∨ p = 4 := by omega
  clear hp
  rcases hp5 with rfl | rfl | rfl | rfl | rfl
  · have C := fun X => mwithin_any m.seq 0 65535 X
    rw [show mayP m 0 = decide (0 ≤ m.seq ∧ m.seq ≤ 65535) by simp [mayP]]
    generalize decide (0 ≤ m.seq ∧ m.seq ≤ 65535) = b at C ⊢
    go_enter Tryd.func42, Tryd.ntmps42
    go_wp2_with fail
    refine (C _).mono ?_
    rintro e w1 ⟨rfl, rfl⟩
    go_wp2_with fail
    go_ret
    exact ⟨rfl, HI.out.below⟩
  · have C := fun X => target_any m X
    generalize mayP m 1 = b at C ⊢
    go_enter Tryd.func42, Tryd.ntmps42
    go_wp2_with fail
    refine (C _).mono ?_
    rintro e w1 ⟨rfl, hb⟩
    have HB := Hid.mk' (HI.out.on hb).below
    clear hb
    go_wp2_with fail
    go_ret
    exact ⟨rfl, HB.out⟩
  · have C := fun X => life_any m X
    generalize mayP m 2 = b at C ⊢
    go_enter Tryd.func42, Tryd.ntmps42
    go_wp2_with fail
    refine (C _).mono ?_
    rintro e w1 ⟨rfl, hb⟩
    have HB := Hid.mk' (HI.out.on hb).below
    clear hb
    go_wp2_with fail
    go_ret
    exact ⟨rfl, HB.out⟩
  · have HM := Hid.mk' (show mayP m 3 = decide (m.base = 0 ∨ 1 ≤ m.base ∧ m.base < m.epoch) by simp [mayP])
    generalize mayP m 3 = q at HM ⊢
    by_cases t0 : m.base = 0
    · have t0' : (m.base == 0) = true := by simp [t0]
      obtain rfl : q = true := by rw [HM.out]; simp [t0]
      clear HM t0
      go_enter Tryd.func42, Tryd.ntmps42
      go_wp2_with fail
      go_ret
      exact ⟨rfl, HI.out.below⟩
    have t0' : (m.base == 0) = false := by simp [t0]
    by_cases t1 : 1 ≤ m.base
    · by_cases t2 : m.base < m.epoch
      · obtain rfl : q = true := by rw [HM.out]; simp [t1, t2]
        clear HM
        go_enter Tryd.func42, Tryd.ntmps42
        go_wp2_with fail
        go_ret
        exact ⟨rfl, HI.out.below⟩
      · obtain rfl : q = false := by rw [HM.out]; simp; omega
        clear HM
        go_enter Tryd.func42, Tryd.ntmps42
        go_wp2_with fail
        go_ret
        exact ⟨rfl, HI.out.below⟩
    · obtain rfl : q = false := by rw [HM.out]; simp; omega
      clear HM
      go_enter Tryd.func42, Tryd.ntmps42
      go_wp2_with fail
      go_ret
      exact ⟨rfl, HI.out.below⟩
  · have HM := Hid.mk' (show mayP m 4 = (decide (m.recs.length ≤ 255) && sortR (-1) (rks m.recs)) by simp [mayP])
    generalize mayP m 4 = q at HM ⊢
    have C := fun X (h : InM w m X) => sorted_any m.p m.cap m.recs X (hm.rin.below h.below) hm.lenM hz
    generalize sortR (-1) (rks m.recs) = b at C HM
    clear hz hm
    by_cases t0 : m.recs.length ≤ 255
    · have HV := Hid.mk' (show q = b by rw [HM.out, decide_eq_true t0]; simp)
      clear HM
      go_enter Tryd.func42, Tryd.ntmps42
      go_wp2_with fail
      refine (C _ HI.out).mono ?_
      rintro e w1 ⟨rfl, hb⟩
      have HB := Hid.mk' (HI.out.on hb).below
      clear hb
      go_wp2_with fail
      go_ret
      exact ⟨by rw [HV.out]; rfl, HB.out⟩
    · obtain rfl : q = false := by rw [HM.out, decide_eq_false t0]; simp
      clear HM
      have t0' : ¬ (m.recs.length : Int) ≤ 255 := by omega
      go_enter Tryd.func42, Tryd.ntmps42
      go_wp2_with fail
      go_ret
      exact ⟨rfl, HI.out.below⟩

set_option maxHeartbeats 4000000 in
theorem isNone_any (m : Mg) (p : Int) (w : World) (hp : 0 ≤ p ∧ p ≤ 4) :
    Calls Tryd.prog 43 #[.agg #[.int .i64 m.kind, .int .i64 m.frm, .int .i64 m.inc, .int .i64 m.lo, .int .i64 m.hi, .int .i64 m.seq, .int .i64 m.tgt, .int .i64 m.life, .int .i64 m.epoch, .int .i64 m.base, .slice m.p m.recs.length m.cap], .int .i64 p] w fun e w' => e = .returned (.bool (noneP m p)) ∧ Below w.heap.size w w' := by
  have HB := Hid.mk' (InM.start w m).below
  have hp5 : p = 0 ∨ p = 1 ∨ p = 2 ∨ p = 3 ∨ p = 4 := by omega
  clear hp
  rcases hp5 with rfl | rfl | rfl | rfl | rfl
  · have HM := Hid.mk' (show noneP m 0 = (m.seq == 0) by simp only [noneP]; rfl)
    generalize noneP m 0 = q at HM ⊢
    go_enter Tryd.func43, Tryd.ntmps43
    go_wp2_with fail
    go_ret
    exact ⟨by rw [HM.out]; rfl, HB.out⟩
  · have HM := Hid.mk' (show noneP m 1 = (m.tgt == 0) by simp only [noneP]; rfl)
    generalize noneP m 1 = q at HM ⊢
    go_enter Tryd.func43, Tryd.ntmps43
    go_wp2_with fail
    go_ret
    exact ⟨by rw [HM.out]; rfl, HB.out⟩
  · have HM := Hid.mk' (show noneP m 2 = (decide (m.life = 0) && decide (m.epoch = 0)) by simp [noneP])
    generalize noneP m 2 = q at HM ⊢
    have q0 : (m.life == 0) = decide (m.life = 0) := rfl
    have q1 : (m.epoch == 0) = decide (m.epoch = 0) := rfl
    generalize decide (m.life = 0) = b0 at HM q0
    generalize decide (m.epoch = 0) = b1 at HM q1
    go_enter Tryd.func43, Tryd.ntmps43
    cases b0
    · go_wp2_with fail
      go_ret
      exact ⟨by rw [HM.out]; simp, HB.out⟩
    go_wp2_with fail
    go_ret
    exact ⟨by rw [HM.out]; simp, HB.out⟩
  · have HM := Hid.mk' (show noneP m 3 = (m.base == 0) by simp only [noneP]; rfl)
    generalize noneP m 3 = q at HM ⊢
    go_enter Tryd.func43, Tryd.ntmps43
    go_wp2_with fail
    go_ret
    exact ⟨by rw [HM.out]; rfl, HB.out⟩
  · have HM := Hid.mk' (show noneP m 4 = ((m.recs.length : Int) == 0) by
      simp only [noneP]; rw [Bool.eq_iff_iff]; simp)
    generalize noneP m 4 = q at HM ⊢
    go_enter Tryd.func43, Tryd.ntmps43
    go_wp2_with fail
    go_ret
    exact ⟨by rw [HM.out]; rfl, HB.out⟩

set_option maxHeartbeats 1600000 in
theorem sender_any (m : Mg) (w : World) : Calls Tryd.prog 22 #[.agg #[.int .i64 m.kind, .int .i64 m.frm, .int .i64 m.inc, .int .i64 m.lo, .int .i64 m.hi, .int .i64 m.seq, .int .i64 m.tgt, .int .i64 m.life, .int .i64 m.epoch, .int .i64 m.base, .slice m.p m.recs.length m.cap]] w
    fun e w' => e = .returned (.bool (decide (0 ≤ m.frm ∧ m.frm ≤ 4095) && decide (0 ≤ m.inc ∧ m.inc ≤ 281474976710655) && okS m.lo m.hi)) ∧ Below w.heap.size w w' := by
  have HI := Hid.mk' (InM.start w m).below
  have C := fun X => mwithin_any m.frm 0 4095 X
  have D := fun X => mwithin_any m.inc 0 281474976710655 X
  have E := fun X => okS_any m.lo m.hi X
  generalize decide (0 ≤ m.frm ∧ m.frm ≤ 4095) = b0 at C ⊢
  generalize decide (0 ≤ m.inc ∧ m.inc ≤ 281474976710655) = b1 at D ⊢
  generalize okS m.lo m.hi = b2 at E ⊢
  go_enter Tryd.func22, Tryd.ntmps22
  go_wp2_with fail
  refine (C _).mono ?_
  rintro e w1 ⟨rfl, rfl⟩
  cases b0
  · go_wp2_with fail
    go_ret
    exact ⟨by simp, HI.out⟩
  go_wp2_with fail
  refine (D _).mono ?_
  rintro e w1 ⟨rfl, rfl⟩
  cases b1
  · go_wp2_with fail
    go_ret
    exact ⟨by simp, HI.out⟩
  go_wp2_with fail
  refine (E _).mono ?_
  rintro e w1 ⟨rfl, rfl⟩
  go_wp2_with fail
  go_ret
  exact ⟨by simp, HI.out.alloc HI.out.size _⟩

theorem partsP_next (m : Mg) (k : Nat) (h : k < 5) : partsP m (5 - k) = (partP m k && partsP m (5 - (k + 1))) := by
  rw [show 5 - k = (5 - (k + 1)) + 1 by omega, partsP, show (4 : Int) - ((5 - (k + 1) : Nat) : Int) = (k : Int) by omega]

set_option maxHeartbeats 4000000 in
theorem parts_any (m : Mg) (w : World) (hm : MOk w m) (hz : ∀ x ∈ m.recs, szK (kys x.bag) ≤ 4611686018427387904) (hK : Kd w) (hk : 1 ≤ m.kind ∧ m.kind ≤ 9) :
    Calls Tryd.prog 23 #[.agg #[.int .i64 m.kind, .int .i64 m.frm, .int .i64 m.inc, .int .i64 m.lo, .int .i64 m.hi, .int .i64 m.seq, .int .i64 m.tgt, .int .i64 m.life, .int .i64 m.epoch, .int .i64 m.base, .slice m.p m.recs.length m.cap]] w fun e w' => e = .returned (.bool (partsP m 5)) ∧ Below w.heap.size w w' := by
  obtain ⟨r, hr⟩ : ∃ r, partsP m 5 = r := ⟨_, rfl⟩
  rw [hr]
  have HT := Hid.mk' hr.symm
  clear hr
  have HI := Hid.mk' (InM.start w m)
  have Q := fun (k : Nat) (h : k < 5) (X : World) (hb : Below w.heap.size w X) => hasM_kind (p := (k : Int)) hk (show 0 ≤ (k : Int) ∧ (k : Int) ≤ 4 by omega) ▸ mhas_any m.kind k X (hK.below hb)
  have V := fun (k : Nat) (h : k < 5) (X : World) (hb : Below w.heap.size w X) => mayBe_any m k X (hm.below hb) hz (show 0 ≤ (k : Int) ∧ (k : Int) ≤ 4 by omega)
  have Z := fun (k : Nat) (h : k < 5) (X : World) => isNone_any m k X (show 0 ≤ (k : Int) ∧ (k : Int) ≤ 4 by omega)
  clear hm hz hK hk
  go_enter Tryd.func23, Tryd.ntmps23
  go_wp2_with fail
  go_loopw [3] (fun i W => ∃ k : Nat, k ≤ 5 ∧ i = .int .i64 k ∧ Hid (r = partsP m (5 - k)) ∧ Hid (InM w m W)) (fun i _ => 5 - (intOf i).toNat)
  case atStart => exact ⟨0, by omega, rfl, HT, HI⟩
  case round =>
    obtain ⟨k, hk, rfl, HR, HI0⟩ := hrel
    clear HI HT
    have S := fun X => isPart_any (k : Int) X
    by_cases t : k < 5
    · rw [decide_eq_true (show 0 ≤ (k : Int) ∧ (k : Int) ≤ 4 by omega)] at S
      have H1 := Q k t
      have V1 := V k t
      have Z1 := Z k t
      have HR' := Hid.mk' (show r = ((if hasB m.kind k = true then mayP m k else noneP m k) && partsP m (5 - (k + 1))) by rw [HR.out, partsP_next m k t]; rfl)
      generalize hasB m.kind k = hb at H1 HR'
      generalize mayP m k = mb at V1 HR'
      generalize noneP m k = nb at Z1 HR'
      clear HR Q V Z
      obtain ⟨c0, c1, c2, c3, c4, c5, c6, c7, c8, c9, c10⟩ := mbox_cells HI0.out.box
      go_wp2_with fail
      refine (S _).mono ?_
      rintro e w1 ⟨rfl, rfl⟩
      go_wp2_with fail
      refine (H1 _ HI0.out.below).mono ?_
      rintro e w1 ⟨rfl, rfl⟩
      cases hb
      · go_wp2_with fail
        refine (H1 _ HI0.out.below).mono ?_
        rintro e w1 ⟨rfl, rfl⟩
        go_wp2_with fail
        refine (Z1 _).mono ?_
        rintro e w2 ⟨rfl, hb2⟩
        have HI2 := Hid.mk' (HI0.out.on hb2)
        clear hb2 HI0 c0 c1 c2 c3 c4 c5 c6 c7 c8 c9 c10
        cases nb
        · obtain rfl : r = false := by rw [HR'.out]; simp
          go_wp2_with fail
          try rw [Exit.noGoto_ret]
          go_ret
          exact ⟨rfl, HI2.out.below⟩
        · have HV := Hid.mk' (show r = partsP m (5 - (k + 1)) by rw [HR'.out]; simp)
          go_wp2_with fail
          go_roundw
          case rel => exact ⟨k + 1, by omega, by go_num, HV, HI2⟩
          case measure => simp [intOf]; omega
      · go_wp2_with fail
        refine (V1 _ HI0.out.below).mono ?_
        rintro e w2 ⟨rfl, hb2⟩
        have HI2 := Hid.mk' (HI0.out.on hb2)
        clear hb2 HI0 c0 c1 c2 c3 c4 c5 c6 c7 c8 c9 c10
        cases mb
        · obtain rfl : r = false := by rw [HR'.out]; simp
          go_wp2_with fail
          try rw [Exit.noGoto_ret]
          go_ret
          exact ⟨rfl, HI2.out.below⟩
        · have HV := Hid.mk' (show r = partsP m (5 - (k + 1)) by rw [HR'.out]; simp)
          obtain ⟨c0, _, _, _, _, _, _, _, _, _, _⟩ := mbox_cells HI2.out.box
          go_wp2_with fail
          refine (H1 _ HI2.out.below).mono ?_
          rintro e w3 ⟨rfl, rfl⟩
          go_wp2_with fail
          go_roundw
          case rel => exact ⟨k + 1, by omega, by go_num, HV, HI2⟩
          case measure => simp [intOf]; omega
    · obtain rfl : k = 5 := by omega
      obtain rfl : r = true := by rw [HR.out]; rfl
      rw [decide_eq_false (show ¬ (0 ≤ ((5 : Nat) : Int) ∧ ((5 : Nat) : Int) ≤ 4) by omega)] at S
      go_wp2_with fail
      refine (S _).mono ?_
      rintro e w1 ⟨rfl, rfl⟩
      go_wp2_with fail
      go_ret
      exact ⟨rfl, HI0.out.below⟩

set_option maxHeartbeats 1600000 in
theorem mvalid_any (m : Mg) (w : World) (hm : MOk w m) (hz : ∀ x ∈ m.recs, szK (kys x.bag) ≤ 4611686018427387904) (hK : Kd w) :
    Calls Tryd.prog 12 #[.agg #[.int .i64 m.kind, .int .i64 m.frm, .int .i64 m.inc, .int .i64 m.lo, .int .i64 m.hi, .int .i64 m.seq, .int .i64 m.tgt, .int .i64 m.life, .int .i64 m.epoch, .int .i64 m.base, .slice m.p m.recs.length m.cap]] w fun e w' => e = .returned (.bool (mayM m)) ∧ Below w.heap.size w w' := by
  have HM := Hid.mk' (show mayM m = (decide (1 ≤ m.kind ∧ m.kind ≤ 9) && (decide (0 ≤ m.frm ∧ m.frm ≤ 4095) && decide (0 ≤ m.inc ∧ m.inc ≤ 281474976710655) && okS m.lo m.hi) && partsP m 5) from rfl)
  generalize mayM m = q at HM ⊢
  have HI := Hid.mk' (InM.start w m)
  have C := fun X => isKind_any m.kind X
  have D := fun X => sender_any m X
  generalize (decide (0 ≤ m.frm ∧ m.frm ≤ 4095) && decide (0 ≤ m.inc ∧ m.inc ≤ 281474976710655) && okS m.lo m.hi) = b1 at D HM
  have E := fun (hk : 1 ≤ m.kind ∧ m.kind ≤ 9) X (h : InM w m X) => parts_any m X (hm.below h.below) hz (hK.below h.below) hk
  generalize partsP m 5 = b2 at E HM
  clear hm hz hK
  by_cases t : 1 ≤ m.kind ∧ m.kind ≤ 9
  · rw [decide_eq_true t] at C HM
    have E1 := E t
    clear E t
    go_enter Tryd.func12, Tryd.ntmps12
    go_wp2_with fail
    refine (C _).mono ?_
    rintro e w1 ⟨rfl, rfl⟩
    go_wp2_with fail
    refine (D _).mono ?_
    rintro e w2 ⟨rfl, hb2⟩
    have HI2 := Hid.mk' (HI.out.on hb2)
    clear hb2 HI
    cases b1
    · go_wp2_with fail
      go_ret
      exact ⟨by rw [HM.out]; simp, HI2.out.below⟩
    obtain ⟨c0, c1, c2, c3, c4, c5, c6, c7, c8, c9, c10⟩ := mbox_cells HI2.out.box
    go_wp2_with fail
    refine (E1 _ HI2.out).mono ?_
    rintro e w3 ⟨rfl, hb3⟩
    have HI3 := Hid.mk' (HI2.out.on hb3)
    clear hb3 HI2 c0 c1 c2 c3 c4 c5 c6 c7 c8 c9 c10
    go_wp2_with fail
    go_ret
    exact ⟨by rw [HM.out]; simp, HI3.out.below⟩
  · rw [decide_eq_false t] at C HM
    go_enter Tryd.func12, Tryd.ntmps12
    go_wp2_with fail
    refine (C _).mono ?_
    rintro e w1 ⟨rfl, rfl⟩
    go_wp2_with fail
    go_ret
    exact ⟨by rw [HM.out]; simp, HI.out.below⟩




/-- A message without its records. -/
def headM (m : Mg) : Mg := ⟨m.kind, m.frm, m.inc, m.lo, m.hi, m.seq, m.tgt, m.life, m.epoch, m.base, none, 0, []⟩
theorem headM_ok {w w' : World} {m : Mg} (h : MOk w m) : MOk w' (headM m) := ⟨h.kind, h.frm, h.inc, h.lo, h.hi, h.seq, h.tgt, h.life, h.epoch, h.base, Nat.le_refl _, by simp [headM, maxLen], fun _ => rfl, RIn.empty _ _⟩


end Go.Proofs.YtmejfkhikgcgmaaDoor
namespace Go.Proofs.YtmejfkhikgcgmaaDoor
open Go.RowKit
set_option linter.unusedSimpArgs false
set_option linter.unusedVariables false
set_option maxRecDepth 10000
set_option synthInstance.maxSize 2000

theorem enc_itm (t : Int) (n : Nat) (z : Int) (h0 : 0 ≤ t) (h1 : t ≤ 255) (h7 : n ≤ 7) : encK (itm t n z) = [t, 0, (n : Int)] ++ digB n z := by
  unfold encK
  rw [itm_len]
  simp only [itm, show t % 256 = t by omega, show (n : Int) / 256 % 256 = 0 by omega, show (n : Int) % 256 = n by omega]
  rfl

set_option maxHeartbeats 1600000 in
theorem litem_any (B : Nat) (v : Value) (l : List Int) (t : Int) (n : Nat) (z : Int) (w : World) (hv : Acc w B v l) (hB : B ≤ w.heap.size) (ht0 : 0 ≤ t) (ht1 : t ≤ 255) (h7 : n ≤ 7) (hz : 0 ≤ z) (hz3 : z ≤ 9223372036854775807) (hl : l.length ≤ 1000000000) :
    Calls Tryd.prog 25 #[v, .int .i64 t, .int .i64 n, .int .i64 z] w fun e w' => ∃ v', e = .returned v' ∧ Acc w' B v' (l ++ encK (itm t n z)) ∧ Below B w w' := by
  rw [enc_itm t n z ht0 ht1 h7]
  have hmk := fun w => run_make_row' (P := Tryd.prog) 29 5 (.int .u8 0) 1 Tryd.underlying29 infoB rfl .i64 .i64 n (by omega) (by omega) w
  have HV := Hid.mk' hv
  have HSZ := Hid.mk' hB
  clear hv hB
  go_enter Tryd.func25, Tryd.ntmps25
  go_wp2
  go_loopw [3, 10] (fun x i wr => ∃ j : Nat, j ≤ n ∧ i = .int .i64 ((n : Int) - 1 - j) ∧ x = .int .i64 (z / 256 ^ j) ∧ wr.heap[w.heap.size]? = some (.cells (cellsB (dRow n z j)) 5 (0, 0)) ∧ Below w.heap.size w wr) (fun _ i _ => (intOf i + 1).toNat)
  case atStart =>
    refine ⟨0, Nat.zero_le _, by simp, by simp, ?_, (Below.refl _ _).alloc (Nat.le_refl _) _⟩
    rw [heap_alloc_new, dRow_zero]
    have e : madeCells #[Value.int .u8 0] n = cellsB (List.replicate n 0) := by
      apply Array.ext
      · simp [madeCells, cellsB]
      · intro i h1 h2
        simp [madeCells, cellsB, Nat.mod_one]
    rw [e]
  case round =>
    obtain ⟨j, hj, rfl, rfl, hrow, hBl⟩ := hrel
    by_cases hlt : j < n
    · have hi : n - 1 - j < (dRow n z j).length := by rw [dRow_len n z j hj]; omega
      obtain ⟨hc, hf⟩ := brow_cell hrow (n - 1 - j) hi
      have HR := Hid.mk' (brow_set hrow (n - 1 - j) (z / 256 ^ j % 256))
      rw [dRow_step n z j hlt] at HR
      have hx : 0 ≤ z / 256 ^ j := Int.ediv_nonneg hz (Int.le_of_lt (pow_pos j))
      have hx2 : z / 256 ^ j ≤ 9223372036854775807 := Int.le_trans (Int.ediv_le_self _ hz) hz3
      have e1 : z / 256 ^ (j + 1) = z / 256 ^ j / 256 := by rw [Int.pow_succ, Int.ediv_ediv_of_nonneg (Int.le_of_lt (pow_pos j))]
      have HE := Hid.mk' e1
      have HB := Hid.mk' hBl
      generalize (dRow n z j)[n - 1 - j] = old at hc
      clear hrow e1 hBl hi
      generalize z / 256 ^ j = x at hx hx2 HR HE ⊢
      go_wp2
      go_roundw
      case rel => exact ⟨j + 1, by omega, by go_num, by rw [HE.out], HR.out, HB.out.setCell (Nat.le_refl _) _⟩
      case measure => simp [intOf]; omega
    · obtain rfl : j = n := by omega
      rw [dRow_all] at hrow
      have HR := Hid.mk' (show BIn wr (some ⟨w.heap.size, 0, none⟩) (digB j z) from BIn.of_block (rest := []) (by simpa [cellsB] using hrow))
      have HV2 := Hid.mk' (HV.out.below hBl)
      have HS2 := Hid.mk' (Nat.le_trans HSZ.out hBl.size)
      have HB2 := Hid.mk' (hBl.mono HSZ.out)
      have HLT := Hid.mk' (show w.heap.size < wr.heap.size from (Array.getElem?_eq_some_iff.1 hrow).1)
      have hdl : (digB j z).length = j := digB_len j z
      clear hrow hBl
      go_wp2_with (at_builtin; refine wpList_accM (by rfl) (.tmp 27) (.tmp 32) (by rfl) B v l (by rfl) HV2.out HS2.out [t, 0, (j : Int)] (by rfl) (by rfl) (by simp only [List.length_cons, List.length_nil]; omega) ?_)
      intro v1 w1 hA1 hB1 hF1 hM1
      have HNE := Hid.mk' (show v.ownBlock ≠ some w.heap.size from acc_ne HV.out _ (Nat.le_refl _))
      have HR1 := Hid.mk' (HR.out.fr hF1 (fun a ha _ q => by cases ha; exact HNE.out q))
      have HA1 := Hid.mk' hA1
      have HB3 := Hid.mk' (HB2.out.trans hB1)
      clear hA1 hB1 hF1 hM1 HR HV2 HS2 HB2
      go_wp2_with (at_builtin; refine wpList_acc (by rfl) (.tmp 33) (.tmp 34) (by rfl) B v1 (l ++ [t, 0, (j : Int)]) (by rfl) HA1.out (Nat.le_trans HSZ.out HB3.out.size) (some ⟨w.heap.size, 0, none⟩) j (digB j z) (by rw [hdl]; rfl) (by simp) HR1.out (by rw [hdl]; simp only [List.length_append, List.length_cons, List.length_nil]; omega) ?_)
      intro v2 w2 hA2 hB4
      replace hA2 : Acc w2 B v2 (l ++ ([t, 0, (j : Int)] ++ digB j z)) := hA2
      have HA2 := Hid.mk' hA2
      have HB4 := Hid.mk' (HB3.out.trans hB4)
      clear hA2 hB4 HA1 HB3 HR1
      go_wp2_with fail
      go_ret
      exact ⟨v2, rfl, HA2.out, HB4.out⟩

set_option maxHeartbeats 800000 in
theorem lnum2_any (p : Option Addr) (c : Nat) (l : List Int) (w : World) (hp : BIn w p l) (hl : isB l) (h7 : l.length ≤ 7) :
    Calls Tryd.prog 30 #[.slice p l.length c] w fun e w' => e = .returned (.int .i64 (numB l)) ∧ w = w' := by
  go_enter Tryd.func30, Tryd.ntmps30
  go_wp2
  go_loop [3, 4] (fun v i => ∃ j : Nat, j ≤ l.length ∧ i = .int .i64 j ∧ v = .int .i64 (numB (l.take j))) (fun _ i => l.length - (intOf i).toNat)
  case atStart => exact ⟨0, Nat.zero_le _, rfl, rfl⟩
  case round =>
    obtain ⟨j, hj, rfl, rfl⟩ := hrel
    by_cases hlt : j < l.length
    · obtain ⟨g, o, rfl, hc⟩ := hp (by omega)
      have hcj := hc j hlt
      rw [show l.getD j 0 = l[j] by simp [List.getD, hlt]] at hcj
      have hn := numB_small l hl j (by omega)
      have hx := hl l[j] (List.getElem_mem hlt)
      have HN : Hid (numB (l.take (j + 1)) = numB (l.take j) * 256 + l[j]) := by
        have h := numB_take l j hlt
        rw [show l.getD j 0 = l[j] by simp [List.getD, hlt]] at h
        exact h
      clear hp hc
      go_wp2
      go_round
      case rel => exact ⟨j + 1, by omega, by go_num, by rw [HN.out]⟩
      case measure => simp [intOf]; omega
    · obtain rfl : j = l.length := by omega
      rw [List.take_length]
      go_wp2
      go_ret
      exact ⟨rfl, rfl⟩
end Go.Proofs.YtmejfkhikgcgmaaDoor
namespace Go.Proofs.YtmejfkhikgcgmaaDoor
open Go.RowKit
set_option linter.unusedSimpArgs false
set_option linter.unusedVariables false
set_option maxRecDepth 10000
set_option synthInstance.maxSize 2000

theorem joinK_len (l : List Key) : (joinK l).length = szK l + 3 * l.length := by
  induction l with
  | nil => rfl
  | cons x l ih =>
    rw [joinK_cons, List.length_append, encK_len, ih, show szK (x :: l) = x.2.length + szK l by simp [szK]]
    simp; omega
theorem bag_small2 {r : Rc} (h : mayR (rk r) = true) : r.bag.length ≤ 32 ∧ szK (kys r.bag) ≤ 4096 := by
  have hb : mayK (kys r.bag) = true := by simp only [mayR, Bool.and_eq_true] at h; exact h.1.2
  simp only [mayK, Bool.and_eq_true, decide_eq_true_eq, kys_len] at hb
  exact ⟨hb.1.1, hb.2⟩
theorem InB.onB2 {w X X' : World} {r : Rc} (h : InB w r X) (k : Below (w.heap.size + 1) X X') : InB w r X' :=
  ⟨h.below.trans (k.mono (by omega)), by rw [k.block _ (by omega)]; exact h.box⟩
theorem InB.lt2 {w X : World} {r : Rc} (h : InB w r X) : w.heap.size + 1 ≤ X.heap.size := (Array.getElem?_eq_some_iff.1 h.box).1
theorem bag_tag {r : Rc} (h : mayR (rk r) = true) (k : Nat) (hk : k < r.bag.length) : 0 ≤ (r.bag.getD k zf).tag ∧ (r.bag.getD k zf).tag ≤ 255 ∧ (r.bag.getD k zf).d.length ≤ 4096 := by
  have hb : mayK (kys r.bag) = true := by simp only [mayR, Bool.and_eq_true] at h; exact h.1.2
  simp only [mayK, Bool.and_eq_true, decide_eq_true_eq, kys_len] at hb
  have hm : ky (r.bag.getD k zf) ∈ kys r.bag := List.mem_map.2 ⟨r.bag.getD k zf, by simp [List.getD, hk], rfl⟩
  have h1 := tagsK_mem hb.1.2 _ hm
  have h2 := szK_mem hm
  simp only [ky] at h1 h2
  omega
theorem jk_next (l : List Fd) (k : Nat) (h : k < l.length) : joinK (kys (l.take (k + 1))) = joinK (kys (l.take k)) ++ encK (ky (l.getD k zf)) := by
  rw [take_next l k h, kys_append, joinK_append]; simp [kys, joinK]
theorem jk_le (l : List Fd) (k : Nat) : (joinK (kys (l.take k))).length ≤ (joinK (kys l)).length := by
  have h : joinK (kys l) = joinK (kys (l.take k)) ++ joinK (kys (l.drop k)) := by rw [← joinK_append, ← kys_append, List.take_append_drop]
  rw [h, List.length_append]; omega
theorem inner_parts (r : Rc) : innerB (rk r) = encK (itm 1 2 r.id) ++ encK (itm 2 4 r.inc) ++ encK (itm 3 1 (r.st + (if r.cut = true then 128 else 0))) ++ encK (itm 4 1 (r.lo * 16 + r.hi)) ++ joinK (kys r.bag) := by
  simp only [innerB, inK, joinK_cons, List.append_assoc]
  rfl
theorem enc_itm_len (t : Int) (n : Nat) (v : Int) : (encK (itm t n v)).length = 3 + n := by rw [encK_len, itm_len]

set_option maxHeartbeats 8000000 in
theorem linner_any (r : Rc) (w : World) (hr : ROk w r) (hm : mayR (rk r) = true) :
    Calls Tryd.prog 27 #[.agg #[.int .i64 r.id, .int .i64 r.inc, .int .i64 r.st, .int .i64 r.lo, .int .i64 r.hi, .bool r.cut, .slice r.p r.bag.length r.cap]] w fun e w' => ∃ p c, e = .returned (.slice p (innerB (rk r)).length c) ∧ BIn w' p (innerB (rk r)) ∧ (p = none → c = 0) ∧ (∀ a, p = some a → w.heap.size ≤ a.block) ∧ Below w.heap.size w w' := by
  obtain ⟨⟨a1, a2⟩, ⟨b1, b2⟩, ⟨c1, c2⟩, d1, d2, d3⟩ := rec_nums hm
  simp only [RK.id, RK.inc, RK.st, RK.lo, RK.hi, rk] at a1 a2 b1 b2 c1 c2 d1 d2 d3
  obtain ⟨z1, z2⟩ := bag_small2 hm
  have HBT := Hid.mk' (bag_tag hm)
  have HJL := Hid.mk' (show (joinK (kys r.bag)).length ≤ 4192 by rw [joinK_len, kys_len]; omega)
  have HIP := Hid.mk' (inner_parts r)
  have HI := Hid.mk' (InB.start w r)
  have HFN := Hid.mk' hr.fin
  generalize innerB (rk r) = R at HIP ⊢
  clear hm hr z2
  go_enter Tryd.func27, Tryd.ntmps27
  obtain ⟨e0, e1, e2, e3, e4, e5, e6⟩ := box_cells HI.out.box
  go_wp2_with fail
  generalize w.alloc (.cells #[.int .i64 r.id, .int .i64 r.inc, .int .i64 r.st, .int .i64 r.lo, .int .i64 r.hi, .bool r.cut, .slice r.p r.bag.length r.cap] 44) = x0 at HI e0 e1 e2 e3 e4 e5 e6 ⊢
  refine (litem_any (w.heap.size + 1) _ [] 1 2 r.id x0 (Acc.nil _ _) HI.out.lt2 (by omega) (by omega) (by omega) a1 (by omega) (by simp)).mono ?_
  clear e0 e1 e2 e3 e4 e5 e6
  rintro e x1 ⟨v1, rfl, hA, hB⟩
  rw [List.nil_append] at hA
  have HI1 := Hid.mk' (HI.out.onB2 hB)
  have HA1 := Hid.mk' hA
  obtain ⟨e0, e1, e2, e3, e4, e5, e6⟩ := box_cells HI1.out.box
  clear hA hB HI
  go_wp2_with fail
  refine (litem_any (w.heap.size + 1) v1 _ 2 4 r.inc x1 HA1.out HI1.out.lt2 (by omega) (by omega) (by omega) b1 (by omega) (by simp only [enc_itm_len]; omega)).mono ?_
  clear e0 e1 e2 e3 e4 e5 e6
  rintro e x2 ⟨v2, rfl, hA, hB⟩
  have HI2 := Hid.mk' (HI1.out.onB2 hB)
  have HA2 := Hid.mk' hA
  clear hA hB HI1 HA1
  obtain ⟨e0, e1, e2, e3, e4, e5, e6⟩ := box_cells HI2.out.box
  go_upto_if 14 with fail
  go_cut [3] (fun v wx => Hid (Acc wx (w.heap.size + 1) v (encK (itm 1 2 r.id) ++ encK (itm 2 4 r.inc) ++ encK (itm 3 1 (r.st + (if r.cut = true then 128 else 0))))) ∧ Hid (InB w r wx))
  case first =>
    go_wp2_with fail
    · rename r.cut = true => hc
      have HCT := Hid.mk' hc
      clear hc
      refine (litem_any (w.heap.size + 1) v2 _ 3 1 (r.st + 128) x2 HA2.out HI2.out.lt2 (by omega) (by omega) (by omega) (by omega) (by omega) (by simp only [List.length_append, enc_itm_len]; omega)).mono ?_
      clear e0 e1 e2 e3 e4 e5 e6
      rintro e x3 ⟨v3, rfl, hA, hB⟩
      have HI3 := Hid.mk' (HI2.out.onB2 hB)
      have HA3 := Hid.mk' hA
      clear hA hB HI2 HA2
      go_wp2_with fail
      go_meet
      exact ⟨by rw [HCT.out, show r.st + (if true = true then 128 else 0) = r.st + 128 by simp]; exact HA3, HI3⟩
    · rename r.cut = false => hc
      have HCT := Hid.mk' hc
      clear hc
      refine (litem_any (w.heap.size + 1) v2 _ 3 1 r.st x2 HA2.out HI2.out.lt2 (by omega) (by omega) (by omega) c1 (by omega) (by simp only [List.length_append, enc_itm_len]; omega)).mono ?_
      clear e0 e1 e2 e3 e4 e5 e6
      rintro e x3 ⟨v3, rfl, hA, hB⟩
      have HI3 := Hid.mk' (HI2.out.onB2 hB)
      have HA3 := Hid.mk' hA
      clear hA hB HI2 HA2
      go_wp2_with fail
      go_meet
      exact ⟨by rw [HCT.out, show r.st + (if false = true then 128 else 0) = r.st by simp]; exact HA3, HI3⟩
  case rest =>
  obtain ⟨HA3, HI3⟩ := hcut
  clear e0 e1 e2 e3 e4 e5 e6 HI2 HA2
  obtain ⟨e0, e1, e2, e3, e4, e5, e6⟩ := box_cells HI3.out.box
  obtain ⟨P3, hP3⟩ : ∃ P, encK (itm 1 2 r.id) ++ encK (itm 2 4 r.inc) ++ encK (itm 3 1 (r.st + (if r.cut = true then 128 else 0))) = P := ⟨_, rfl⟩
  rw [hP3] at HA3 HIP
  have hl3 : P3.length = 16 := by rw [← hP3]; simp only [List.length_append, enc_itm_len]
  clear hP3
  go_wp2_with fail
  refine (litem_any (w.heap.size + 1) u3 P3 4 1 (r.lo * 16 + r.hi) wc HA3.out HI3.out.lt2 (by omega) (by omega) (by omega) (by omega) (by omega) (by omega)).mono ?_
  clear e0 e1 e2 e3 e4 e5 e6
  rintro e x4 ⟨v4, rfl, hA, hB⟩
  have HI4 := Hid.mk' (HI3.out.onB2 hB)
  have HA4 := Hid.mk' hA
  clear hA hB HI3 HA3
  obtain ⟨P4, hP4⟩ : ∃ P, P3 ++ encK (itm 4 1 (r.lo * 16 + r.hi)) = P := ⟨_, rfl⟩
  rw [hP4] at HA4 HIP
  have hl4 : P4.length = 20 := by rw [← hP4]; simp only [List.length_append, enc_itm_len]; omega
  have HL4 := Hid.mk' hl4
  clear hP4 hl3 hl4
  go_wp2_with fail
  go_loopw [3, 4] (fun v i W => ∃ k : Nat, k ≤ r.bag.length ∧ i = .int .i64 k ∧ Hid (Acc W (w.heap.size + 1) v (P4 ++ joinK (kys (r.bag.take k)))) ∧ Hid (InB w r W)) (fun _ i _ => r.bag.length - (intOf i).toNat)
  case atStart => exact ⟨0, by omega, rfl, by simpa [kys, joinK] using HA4, HI4⟩
  case round =>
    obtain ⟨k, hk, rfl, HA, HX⟩ := hrel
    clear HA4 HI4
    obtain ⟨e0, e1, e2, e3, e4, e5, e6⟩ := box_cells HX.out.box
    by_cases t : k < r.bag.length
    · obtain ⟨b, o, hbo, hc⟩ := HFN.out.at (by omega)
      obtain ⟨f0', f1', hok'⟩ := hc k t
      have HFX := Hid.mk' (show ∀ X, Below w.heap.size w X → X.cell? ⟨b, o + k * 2, none⟩ = some (.int .i64 (r.bag.getD k zf).tag) ∧ X.cell? ⟨b, o + k * 2 + 1, none⟩ = some (.slice (r.bag.getD k zf).p (r.bag.getD k zf).d.length (r.bag.getD k zf).cap) ∧ FOk X (r.bag.getD k zf) from
        fun X h => ⟨by rw [h.cell (p := ⟨b, o + k * 2, none⟩) (lt_of_cell f0')]; exact f0', by rw [h.cell (p := ⟨b, o + k * 2 + 1, none⟩) (lt_of_cell f1')]; exact f1', hok'.below h⟩)
      clear f0' f1' hok' hc
      obtain ⟨f0, f1, hok⟩ := HFX.out wr HX.out.below
      have ht := HBT.out k t
      have HJ := Hid.mk' (jk_next r.bag k t)
      have HLE := Hid.mk' (jk_le r.bag k)
      rw [hbo] at e6
      generalize r.bag.getD k zf = y at f0 f1 hok ht HJ HFX
      obtain ⟨t0, t1, t2⟩ := ht
      have HBO := Hid.mk' hbo
      have HYN := Hid.mk' hok.nil
      have HLL := Hid.mk' (show (P4 ++ joinK (kys (r.bag.take k))).length ≤ 5000 by have := HLE.out; have := HJL.out; have := HL4.out; rw [List.length_append]; omega)
      have HKS := Hid.mk' (show P4 ++ joinK (kys (r.bag.take (k + 1))) = (P4 ++ joinK (kys (r.bag.take k))) ++ ([y.tag % 256, (y.d.length : Int) / 256 % 256, (y.d.length : Int) % 256] ++ y.d) by
        rw [HJ.out, List.append_assoc]; rfl)
      generalize P4 ++ joinK (kys (r.bag.take k)) = Q at HA HLL HKS
      have q1 : (y.d.length : Int).tdiv 256 = (y.d.length : Int) / 256 := Int.tdiv_eq_ediv_of_nonneg (by omega)
      have q2 : (y.d.length : Int).tmod 256 = (y.d.length : Int) % 256 := Int.tmod_eq_emod_of_nonneg (by omega)
      have q3 : IntKind.i64.wrap ((y.d.length : Int) / 256) = (y.d.length : Int) / 256 := by rw [IntKind.wrap_i64]; omega
      have q4 : IntKind.u8.wrap ((y.d.length : Int) / 256) = (y.d.length : Int) / 256 % 256 := by rw [IntKind.wrap_u8]
      have q5 : IntKind.u8.wrap ((y.d.length : Int) % 256) = (y.d.length : Int) % 256 := by rw [IntKind.wrap_u8]; omega
      have q6 : IntKind.u8.wrap y.tag = y.tag % 256 := by rw [IntKind.wrap_u8]
      clear hok hbo HJ HLE
      go_wp2_with (at_builtin; refine wpList_accM (by rfl) (.tmp 48) (.tmp 62) (by rfl) (w.heap.size + 1) u3 Q (by rfl) HA.out HX.out.lt2 [y.tag % 256, (y.d.length : Int) / 256 % 256, (y.d.length : Int) % 256] (by rfl) (by rfl) (by have := HLL.out; simp only [List.length_cons, List.length_nil]; omega) ?_)
      intro v5 w5 hA5 hB5 _ _
      have HX5 := Hid.mk' (HX.out.onB2 hB5)
      have HA5 := Hid.mk' hA5
      have HO5 := HFX.out w5 HX5.out.below
      obtain ⟨g0, g1, hok5⟩ := HO5
      have HO6 := Hid.mk' hok5
      obtain ⟨_, _, _, _, _, _, e6'⟩ := box_cells HX5.out.box
      rw [HBO.out] at e6'
      clear hA5 hB5 HA HX e0 e1 e2 e3 e4 e5 e6 f0 f1 hok5
      go_wp2_with (at_builtin; refine wpList_acc (by rfl) (.tmp 64) (.tmp 70) (by rfl) (w.heap.size + 1) v5 (Q ++ [y.tag % 256, (y.d.length : Int) / 256 % 256, (y.d.length : Int) % 256]) (by rfl) HA5.out HX5.out.lt2 y.p y.cap y.d (by rfl) HYN.out HO6.out.bin (by have := HLL.out; simp only [List.length_append, List.length_cons, List.length_nil]; omega) ?_)
      intro v6 w6 hA6 hB6
      have HX6 := Hid.mk' (HX5.out.onB2 hB6)
      have HA6 := Hid.mk' (show Acc w6 (w.heap.size + 1) v6 (Q ++ ([y.tag % 256, (y.d.length : Int) / 256 % 256, (y.d.length : Int) % 256] ++ y.d)) by simpa using hA6)
      clear hA6 hB6 HA5 HX5 g0 g1 e6'
      go_wp2_with fail
      go_roundw
      case rel => exact ⟨k + 1, by omega, by go_num, by rw [HKS.out]; exact HA6, HX6⟩
      case measure => simp [intOf]; omega
    · obtain rfl : k = r.bag.length := by omega
      rw [List.take_of_length_le (Nat.le_refl _), ← HIP.out] at HA
      obtain ⟨p', c', rfl, hbi, hp0, _⟩ := HA.out.slice
      have HBI := Hid.mk' hbi
      have HAB := Hid.mk' (show ∀ a, p' = some a → w.heap.size ≤ a.block from fun a ha => Nat.le_of_succ_le (HA.out.above a.block (by rw [ha]; rfl)))
      clear hbi HA
      go_wp2_with fail
      go_ret
      exact ⟨p', c', rfl, HBI.out, hp0, HAB.out, HX.out.below⟩
end Go.Proofs.YtmejfkhikgcgmaaDoor
namespace Go.Proofs.YtmejfkhikgcgmaaDoor
open Go.RowKit
set_option linter.unusedSimpArgs false
set_option linter.unusedVariables false
set_option maxRecDepth 10000
set_option synthInstance.maxSize 2000

theorem infoR : (Tryd.prog.info? 44).map (fun i => (i.zero, i.size, i.bytes)) = some (some (.agg #[.int .i64 0, .int .i64 0, .int .i64 0, .int .i64 0, .int .i64 0, .bool false, .slice none 0 0]), 7, 72) := by kernel_rfl

/-- The cells of records. -/
def cellsR (l : List Rc) : Array Value := (l.flatMap Rc.cells).toArray

theorem flatR_get : ∀ (l : List Rc) (i j : Nat), j < 7 → (l.flatMap Rc.cells)[i * 7 + j]? = (l[i]?).bind (fun r => r.cells[j]?)
  | [], i, j, _ => by simp
  | x :: l, 0, j, hj => by
    simp only [List.flatMap_cons, Nat.zero_mul, Nat.zero_add]
    rw [List.getElem?_append_left (by simpa [Rc.cells] using hj)]
    simp
  | x :: l, i + 1, j, hj => by
    have := flatR_get l i j hj
    simp only [List.flatMap_cons]
    rw [List.getElem?_append_right (by simp [Rc.cells]; omega), show (i + 1) * 7 + j - x.cells.length = i * 7 + j by simp [Rc.cells]; omega, this]
    rfl

theorem flatR_len (l : List Rc) : (l.flatMap Rc.cells).length = l.length * 7 := by
  induction l with
  | nil => rfl
  | cons x l ih => simp [Rc.cells, ih]; omega

theorem flatR_set : ∀ (l : List Rc) (i : Nat) (f : Rc), (((((((l.flatMap Rc.cells).set (i * 7) (.int .i64 f.id)).set (i * 7 + 1) (.int .i64 f.inc)).set (i * 7 + 2) (.int .i64 f.st)).set (i * 7 + 3) (.int .i64 f.lo)).set (i * 7 + 4) (.int .i64 f.hi)).set (i * 7 + 5) (.bool f.cut)).set (i * 7 + 6) (.slice f.p f.bag.length f.cap) = (l.set i f).flatMap Rc.cells
  | [], i, f => by simp
  | x :: l, 0, f => by simp [Rc.cells]
  | x :: l, i + 1, f => by
    have := flatR_set l i f
    simp only [List.flatMap_cons, Rc.cells, List.cons_append, List.nil_append, show (i + 1) * 7 = i * 7 + 7 by omega, List.set_cons_succ, Nat.add_right_comm _ 7]
    rw [← this]

theorem cellsR_size (l : List Rc) : (cellsR l).size = l.length * 7 := by rw [cellsR, List.size_toArray, flatR_len]

theorem cellsR_set (l : List Rc) (i : Nat) (f : Rc) : (((((((cellsR l).setIfInBounds (i * 7) (.int .i64 f.id)).setIfInBounds (i * 7 + 1) (.int .i64 f.inc)).setIfInBounds (i * 7 + 2) (.int .i64 f.st)).setIfInBounds (i * 7 + 3) (.int .i64 f.lo)).setIfInBounds (i * 7 + 4) (.int .i64 f.hi)).setIfInBounds (i * 7 + 5) (.bool f.cut)).setIfInBounds (i * 7 + 6) (.slice f.p f.bag.length f.cap) = cellsR (l.set i f) := by
  unfold cellsR
  simp only [List.setIfInBounds_toArray]
  rw [flatR_set]

theorem cellsR_made (n : Nat) : madeCells #[Value.int .i64 0, .int .i64 0, .int .i64 0, .int .i64 0, .int .i64 0, .bool false, .slice none 0 0] (n * 7) = cellsR (List.replicate n zr) := by
  apply Array.ext
  · rw [cellsR_size, size_madeCells, List.length_replicate]
  · intro i h1 h2
    have hi : i < n * 7 := by simpa [madeCells] using h1
    have h3 := flatR_get (List.replicate n zr) (i / 7) (i % 7) (Nat.mod_lt _ (by omega))
    rw [show i / 7 * 7 + i % 7 = i by omega, List.getElem?_replicate_of_lt (by omega)] at h3
    have h4 : (cellsR (List.replicate n zr))[i]? = zr.cells[i % 7]? := by
      simp only [cellsR, List.getElem?_toArray, h3]
      rfl
    rw [Array.getElem?_eq_getElem h2] at h4
    have h5 : some (madeCells #[Value.int .i64 0, .int .i64 0, .int .i64 0, .int .i64 0, .int .i64 0, .bool false, .slice none 0 0] (n * 7))[i] = zr.cells[i % 7]? := by
      have hm : i % 7 < 7 := Nat.mod_lt _ (by omega)
      simp only [madeCells, Array.getElem_map, Array.getElem_range]
      change some (#[Value.int .i64 0, .int .i64 0, .int .i64 0, .int .i64 0, .int .i64 0, .bool false, .slice none 0 0][i % 7]!) = _
      generalize i % 7 = j at hm ⊢
      match j, hm with
      | 0, _ => rfl
      | 1, _ => rfl
      | 2, _ => rfl
      | 3, _ => rfl
      | 4, _ => rfl
      | 5, _ => rfl
      | 6, _ => rfl
    exact Option.some.inj (h5.trans h4.symm)

/-- The row at block g. -/
theorem cellsR_at {w : World} {g : Nat} {l : List Rc} {t : TypeId} (h : w.heap[g]? = some (.cells (cellsR l) t (0, 0))) (i : Nat) (hi : i < l.length) : RAt w g (i * 7) (l.getD i zr) ∧ ∀ j, w.frozen? ⟨g, j, none⟩ = false := by
  refine ⟨RAt.of fun j hj => ?_, fun j => by simp [World.frozen?, h]⟩
  have := flatR_get l i j hj
  simp [World.cell?, h, cellsR, this, hi, List.getD]

theorem RIn.of_row {w : World} {g : Nat} {t : TypeId} {l : List Rc} (h : w.heap[g]? = some (.cells (cellsR l) t (0, 0))) (hok : ∀ f ∈ l, ROk w f) : RIn w (some ⟨g, 0, none⟩) l := by
  refine RIn.of fun i hi => ?_
  rw [Nat.zero_add]
  exact ⟨(cellsR_at h i hi).1, hok _ (by simp [List.getD, hi])⟩

/-- While a list is copied: what is done, and all that is old. -/
structure InCr (w : World) (l : List Rc) (k : Nat) (done : List Rc) (W : World) : Prop where
  row : W.heap[w.heap.size]? = some (.cells (cellsR (done ++ List.replicate (l.length - k) zr)) 44 (0, 0))
  len : done.length = k
  keys : rks done = rks (l.take k)
  oks : ∀ f ∈ done, ROkA w.heap.size W f
  below : Below w.heap.size w W

theorem InCr.lt {w W : World} {l done : List Rc} {k : Nat} (h : InCr w l k done W) : w.heap.size < W.heap.size := (Array.getElem?_eq_some_iff.1 h.row).1

theorem InCr.on {w W W' : World} {l done : List Rc} {k : Nat} (h : InCr w l k done W) (b : Below W.heap.size W W') : InCr w l k done W' :=
  ⟨by rw [b.block _ h.lt]; exact h.row, h.len, h.keys, fun f hf => (h.oks f hf).below b, h.below.trans (b.mono h.below.size)⟩

theorem InCr.next {w W : World} {l done : List Rc} {k : Nat} (h : InCr w l k done W) (hk : k < l.length) (f : Rc) (hf : ROkA w.heap.size W f) (hky : rk f = rk (l.getD k zr)) :
    InCr w l (k + 1) (done ++ [f]) (((((((W.setCell ⟨w.heap.size, k * 7, none⟩ (.int .i64 f.id)).setCell ⟨w.heap.size, k * 7 + 1, none⟩ (.int .i64 f.inc)).setCell ⟨w.heap.size, k * 7 + 2, none⟩ (.int .i64 f.st)).setCell ⟨w.heap.size, k * 7 + 3, none⟩ (.int .i64 f.lo)).setCell ⟨w.heap.size, k * 7 + 4, none⟩ (.int .i64 f.hi)).setCell ⟨w.heap.size, k * 7 + 5, none⟩ (.bool f.cut)).setCell ⟨w.heap.size, k * 7 + 6, none⟩ (.slice f.p f.bag.length f.cap)) := by
  have hfr := (Fr.refl (fun i => i = w.heap.size) W).seven (b := w.heap.size) (o := k * 7) rfl f
  refine ⟨?_, by simp [h.len], ?_, ?_, ((((((h.below.setCell (by simp) _).setCell (by simp) _).setCell (by simp) _).setCell (by simp) _).setCell (by simp) _).setCell (by simp) _).setCell (by simp) _⟩
  · have h1 := fset_at (fset_at (fset_at (fset_at (fset_at (fset_at (fset_at h.row (i := k * 7) (.int .i64 f.id)) (i := k * 7 + 1) (.int .i64 f.inc)) (i := k * 7 + 2) (.int .i64 f.st)) (i := k * 7 + 3) (.int .i64 f.lo)) (i := k * 7 + 4) (.int .i64 f.hi)) (i := k * 7 + 5) (.bool f.cut)) (i := k * 7 + 6) (.slice f.p f.bag.length f.cap)
    have e : (done ++ List.replicate (l.length - k) zr).set k f = done ++ [f] ++ List.replicate (l.length - (k + 1)) zr := by
      rw [← h.len, show l.length - done.length = (l.length - (done.length + 1)) + 1 by have := h.len; omega, List.replicate_succ]
      simp
    rw [cellsR_set, e] at h1
    exact h1
  · rw [rtake_next l k hk, rks_append, rks_append, h.keys]
    simp [rks, hky]
  · intro x hx
    rcases List.mem_append.1 hx with q | q
    · exact (h.oks x q).fr hfr fun i q => Nat.le_of_eq q
    · simp at q; subst q; exact hf.fr hfr fun i q => Nat.le_of_eq q

def CopyPost (w : World) (l : List Rc) (e : Ending) (w' : World) : Prop :=
  ∃ g l', e = .returned (.slice (some ⟨g, 0, none⟩) l'.length l'.length) ∧ rks l' = rks l ∧ RIn w' (some ⟨g, 0, none⟩) l' ∧ Below w.heap.size w w'



theorem flatR_one (l : List Rc) : ∀ u ∈ l.flatMap Rc.cells, u.oneCell' = true := by
  intro u hu
  simp only [List.mem_flatMap, Rc.cells, List.mem_cons, List.not_mem_nil, or_false] at hu
  obtain ⟨f, _, rfl | rfl | rfl | rfl | rfl | rfl | rfl⟩ := hu <;> rfl

theorem RIn.news {w : World} {p : Option Addr} {l : List Rc} (h : RIn w p l) : 0 < l.length → ∃ a, p = some a ∧ ∀ j u, (l.flatMap Rc.cells)[j]? = some u → w.cell? (a.add j) = some u := fun hl => by
  obtain ⟨b, o, rfl, hc⟩ := h.at hl
  refine ⟨_, rfl, fun j u hj => ?_⟩
  have hlt : j < l.length * 7 := by rw [← flatR_len]; exact (List.getElem?_eq_some_iff.1 hj).1
  have hl2 : j / 7 < l.length := by omega
  have h1 := (hc (j / 7) hl2).1.cell (j % 7) (Nat.mod_lt _ (by omega))
  have g1 := flatR_get l (j / 7) (j % 7) (Nat.mod_lt _ (by omega))
  rw [show j / 7 * 7 + j % 7 = j by omega, hj] at g1
  rw [Go.WideShapes.add_plain]
  rw [show o + j / 7 * 7 + j % 7 = o + j by omega] at h1
  rw [h1, g1]
  simp [List.getD, hl2]

/-- A row that is owned, as records. -/
theorem own_rin {w : World} {B : Nat} {v : Value} {n : Nat} {l : List Rc} (h : OwnR 44 7 w B v n (l.flatMap Rc.cells)) (hok : ∀ f ∈ l, ROk w f) : ∃ p c, v = .slice p l.length c ∧ RIn w p l ∧ (p = none → c = 0) ∧ l.length ≤ c ∧ c ≤ maxLen := by
  have hn : n = l.length := by have := h.owns.1; rw [flatR_len] at this; omega
  subst hn
  obtain ⟨p, c, rfl, h1, h2, h3, h4⟩ := h.slice
  refine ⟨p, c, rfl, fun hl => ?_, h1, h2, h3⟩
  obtain ⟨g, rfl, _, hc⟩ := h4 hl
  refine RIn.of (fun i hi => ⟨RAt.of fun j hj => ?_, hok _ (by simp [List.getD, hi])⟩) hl
  have g1 := flatR_get l i j hj
  rw [Nat.zero_add]
  have hx : (l[i]?).bind (fun r => r.cells[j]?) = (l.getD i zr).cells[j]? := by simp [List.getD, hi]
  rw [hx] at g1
  obtain ⟨u, hu⟩ : ∃ u, (l.getD i zr).cells[j]? = some u := ⟨_, List.getElem?_eq_getElem (by simpa [Rc.cells] using hj)⟩
  rw [hu] at g1 ⊢
  exact hc _ _ g1

/-- Lists in a slice: where each lies. -/
structure PtR where
  p : Option Addr
  c : Nat
  l : List Rc
def zpR : PtR := ⟨none, 0, []⟩
structure PInR (w : World) (b : Nat) (ps : List PtR) : Prop where
  cell : ∀ i, i < ps.length → w.cell? ⟨b, i, none⟩ = some (.slice (ps.getD i zpR).p (ps.getD i zpR).l.length (ps.getD i zpR).c)
  fin : ∀ x ∈ ps, RIn w x.p x.l
  nil : ∀ x ∈ ps, x.p = none → x.c = 0

theorem PInR.below {w w' : World} {b : Nat} {ps : List PtR} (h : PInR w b ps) (k : Below w.heap.size w w') : PInR w' b ps :=
  ⟨fun i hi => by rw [k.cell (p := ⟨b, i, none⟩) (lt_of_cell (h.cell i hi))]; exact h.cell i hi, fun x hx => (h.fin x hx).below k, h.nil⟩

def allR (ps : List PtR) : List Rc := ps.flatMap PtR.l
theorem allR_next (ps : List PtR) (k : Nat) (h : k < ps.length) : allR (ps.take (k + 1)) = allR (ps.take k) ++ (ps.getD k zpR).l := by
  unfold allR
  rw [List.take_succ_eq_append_getElem h, List.flatMap_append]; simp [List.getD, h]
theorem allR_le (ps : List PtR) (k : Nat) : (allR (ps.take k)).length ≤ (allR ps).length := by
  have : allR ps = allR (ps.take k) ++ allR (ps.drop k) := by simp only [allR]; rw [← List.flatMap_append, List.take_append_drop]
  rw [this, List.length_append]; omega

theorem flatR_append (a b : List Rc) : (a ++ b).flatMap Rc.cells = a.flatMap Rc.cells ++ b.flatMap Rc.cells := List.flatMap_append


end Go.Proofs.YtmejfkhikgcgmaaDoor
