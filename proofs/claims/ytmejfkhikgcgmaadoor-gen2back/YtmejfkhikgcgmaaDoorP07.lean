/-
  Generation 2: what the program's Decode comes to, as plain Lean; that it is what a body is read as.
  Package tlv: Num, Value.
  Package gen2: numbers, by their closures.
  Package gen2: the record of an item.
  Package gen2: what stands ahead of the records.
  Package gen2: the records of items.
  Package gen2: how many bytes a body has; what fits.
  Package gen2: how many bytes a body has.
-/
import Derived.Test.YtmejfkhikgcgmaaDoorP06
namespace Go.Proofs.YtmejfkhikgcgmaaDoor
open Go.RowKit
set_option linter.unusedSimpArgs false
set_option linter.unusedVariables false
set_option maxRecDepth 10000
set_option synthInstance.maxSize 2000

/-- The number that must come next (-1: it does not), and how many items it takes. -/
def nmV (t : Int) (n : Nat) : List Key → Int
  | [] => -1
  | k :: _ => if k.1 = t ∧ k.2.length = n then numB k.2 else -1
def nmJ (t : Int) (n : Nat) : List Key → Nat
  | [] => 0
  | k :: _ => if k.1 = t ∧ k.2.length = n then 1 else 0
def nv (t : Int) (n : Nat) (l : List Key) (i : Nat) : Int := nmV t n (l.drop i)
def nj (t : Int) (n : Nat) (l : List Key) (i : Nat) : Nat := i + nmJ t n (l.drop i)

theorem nv_cases (t : Int) (n : Nat) (l : List Key) (i : Nat) : (nv t n l i = -1 ∧ nj t n l i = i) ∨ ∃ k, l.drop i = k :: l.drop (i + 1) ∧ k.1 = t ∧ k.2.length = n ∧ nv t n l i = numB k.2 ∧ nj t n l i = i + 1 := by
  unfold nv nj
  by_cases h : i < l.length
  · rw [List.drop_eq_getElem_cons h]
    by_cases q : l[i].1 = t ∧ l[i].2.length = n
    · right
      exact ⟨l[i], rfl, q.1, q.2, by rw [nmV, if_pos q], by rw [nmJ, if_pos q]⟩
    · left
      exact ⟨by rw [nmV, if_neg q], by rw [nmJ, if_neg q]; rfl⟩
  · left
    rw [List.drop_of_length_le (by omega)]
    exact ⟨rfl, rfl⟩
theorem nj_le (t : Int) (n : Nat) (l : List Key) (i : Nat) (h : i ≤ l.length) : nj t n l i ≤ l.length := by
  rcases nv_cases t n l i with ⟨_, e⟩ | ⟨k, e, _, _, _, e2⟩
  · omega
  · have := congrArg List.length e
    simp at this
    omega
theorem mem_drop1 {l : List Key} {i : Nat} {k : Key} {t : List Key} (h : l.drop i = k :: t) : k ∈ l := List.mem_of_mem_drop (i := i) (by rw [h]; simp)
theorem nv_range {l : List Key} (hb : ∀ x ∈ l, isB x.2) (t : Int) (n : Nat) (i : Nat) : -1 ≤ nv t n l i ∧ nv t n l i < 256 ^ n := by
  have hp := pow_pos n
  rcases nv_cases t n l i with ⟨e, _⟩ | ⟨k, e, _, e2, e3, _⟩
  · rw [e]; omega
  · have := numB_bound k.2 (hb k (mem_drop1 e))
    rw [e2, ← e3] at this
    omega
theorem nv_ok {l : List Key} (hb : ∀ x ∈ l, isB x.2) {t : Int} {n : Nat} {i : Nat} (h : 0 ≤ nv t n l i) : l.drop i = itm t n (nv t n l i) :: l.drop (i + 1) ∧ nj t n l i = i + 1 := by
  rcases nv_cases t n l i with ⟨e, _⟩ | ⟨k, e, e1, e2, e3, e4⟩
  · omega
  · exact ⟨by rw [e3, ← key_of e1 e2 (hb k (mem_drop1 e))]; exact e, e4⟩
theorem nv_itm {l : List Key} {t : Int} {n : Nat} {i : Nat} {v : Int} {r : List Key} (h : l.drop i = itm t n v :: r) (h0 : 0 ≤ v) (h1 : v < 256 ^ n) : nv t n l i = v ∧ nj t n l i = i + 1 ∧ l.drop (i + 1) = r := by
  have q : (itm t n v).1 = t ∧ (itm t n v).2.length = n := ⟨rfl, itm_len t n v⟩
  refine ⟨?_, ?_, ?_⟩
  · rw [nv, h, nmV, if_pos q]; exact num_itm t n v h0 h1
  · rw [nj, h, nmJ, if_pos q]
  · rw [← List.tail_drop, h]; rfl

/-- The record that items are, whatever they are. -/
def rj1 (l : List Key) : Nat := nj 1 2 l 0
def rj2 (l : List Key) : Nat := nj 2 4 l (rj1 l)
def rj3 (l : List Key) : Nat := nj 3 1 l (rj2 l)
def rj4 (l : List Key) : Nat := nj 4 1 l (rj3 l)
def rv1 (l : List Key) : Int := nv 1 2 l 0
def rv2 (l : List Key) : Int := nv 2 4 l (rj1 l)
def rv3 (l : List Key) : Int := nv 3 1 l (rj2 l)
def rv4 (l : List Key) : Int := nv 4 1 l (rj3 l)
def rcV (l : List Key) : RK := (rv1 l, rv2 l, (rv3 l).tmod 128, (spO (rv4 l)).1, (spO (rv4 l)).2, decide (128 ≤ rv3 l), l.drop (rj4 l))
def recP (k : Key) : Option RK := if k.1 = 7 then (splitB k.2).map rcV else none
def recsP : List Key → Option (List RK)
  | [] => some []
  | k :: ks => match recP k with
    | none => none
    | some r => (recsP ks).map (r :: ·)

theorem spO_no : spO (-1) = (0, 0) := by decide
theorem okS_zero : okS 0 0 = false := by decide
theorem spO_at {v : Int} (h : okS (spO v).1 (spO v).2 = true) (hv : -1 ≤ v) (hv2 : v < 256) : 0 ≤ v ∧ (spO v).1 = v / 16 ∧ (spO v).2 = v % 16 := by
  by_cases q : v = -1
  · subst q
    rw [spO_no] at h
    exact absurd h (by decide)
  · exact ⟨by omega, spO_ok ⟨by omega, hv2⟩ h⟩

theorem rec_in {l : List Key} (hb : ∀ x ∈ l, isB x.2) (h : mayR (rcV l) = true) : inK (rcV l) = l ∧ (rcV l).inc ≤ 4294967295 := by
  obtain ⟨⟨a1, _⟩, ⟨b1, b2⟩, ⟨c1, _⟩, d1, d2, d3⟩ := rec_nums h
  have hs : okS (spO (rv4 l)).1 (spO (rv4 l)).2 = true := okS_mk ⟨d1, d2, d3⟩
  have k1 : 0 ≤ rv1 l := a1
  have k2 : 0 ≤ rv2 l := b1
  have g3 := nv_range hb 3 1 (rj2 l)
  have g4 := nv_range hb 4 1 (rj3 l)
  have g2 := nv_range hb 2 4 (rj1 l)
  have c1' : 0 ≤ (rv3 l).tmod 128 := c1
  have k3 : 0 ≤ rv3 l := by
    by_cases q : rv3 l = -1
    · rw [q] at c1'; exact absurd c1' (by decide)
    · have : -1 ≤ rv3 l := g3.1
      omega
  have g3' : rv3 l < 256 ^ 1 := g3.2
  obtain ⟨k4, s1, s2⟩ := spO_at hs g4.1 (by have := g4.2; simp at this; exact this)
  obtain ⟨e1, j1⟩ := nv_ok hb k1
  obtain ⟨e2, j2⟩ := nv_ok hb k2
  obtain ⟨e3, j3⟩ := nv_ok hb k3
  obtain ⟨e4, j4⟩ := nv_ok hb k4
  have j1' : rj1 l = 0 + 1 := j1
  have j2' : rj2 l = rj1 l + 1 := j2
  have j3' : rj3 l = rj2 l + 1 := j3
  have j4' : rj4 l = rj3 l + 1 := j4
  rw [← j1'] at e1
  rw [← j2'] at e2
  rw [← j3'] at e3
  rw [← j4'] at e4
  refine ⟨?_, by show rv2 l ≤ _; have : rv2 l < 256 ^ 4 := g2.2; omega⟩
  have est : stB2 (rcV l) = rv3 l := by
    show (rv3 l).tmod 128 + (if decide (128 ≤ rv3 l) = true then 128 else 0) = rv3 l
    rw [Int.tmod_eq_emod_of_nonneg k3]
    by_cases q : 128 ≤ rv3 l
    · simp [q]; omega
    · simp [q]; omega
  rw [inK, est]
  show itm 1 2 (rv1 l) :: itm 2 4 (rv2 l) :: itm 3 1 (rv3 l) :: itm 4 1 ((spO (rv4 l)).1 * 16 + (spO (rv4 l)).2) :: l.drop (rj4 l) = l
  rw [s1, s2, show rv4 l / 16 * 16 + rv4 l % 16 = rv4 l by omega]
  have f4 : itm 4 1 (rv4 l) :: l.drop (rj4 l) = l.drop (rj3 l) := e4.symm
  have f3 : itm 3 1 (rv3 l) :: l.drop (rj3 l) = l.drop (rj2 l) := e3.symm
  have f2 : itm 2 4 (rv2 l) :: l.drop (rj2 l) = l.drop (rj1 l) := e2.symm
  have f1 : itm 1 2 (rv1 l) :: l.drop (rj1 l) = l.drop 0 := e1.symm
  rw [f4, f3, f2, f1]
  rfl
theorem rec_of {r : RK} (h : mayR r = true) (hi : r.inc ≤ 4294967295) : rcV (inK r) = r := by
  obtain ⟨⟨a1, a2⟩, ⟨b1, b2⟩, ⟨c1, c2⟩, d1, d2, d3⟩ := rec_nums h
  obtain ⟨s1, s2, s3, s4⟩ := stB2_back h
  obtain ⟨e1, j1, t1⟩ := nv_itm (l := inK r) (t := 1) (n := 2) (i := 0) (v := r.id) rfl a1 (by omega)
  obtain ⟨e2, j2, t2⟩ := nv_itm (l := inK r) (t := 2) (n := 4) (i := 0 + 1) (v := r.inc) rfl b1 (by omega)
  obtain ⟨e3, j3, t3⟩ := nv_itm (l := inK r) (t := 3) (n := 1) (i := 0 + 1 + 1) (v := stB2 r) rfl s1 (by omega)
  obtain ⟨e4, j4, t4⟩ := nv_itm (l := inK r) (t := 4) (n := 1) (i := 0 + 1 + 1 + 1) (v := r.lo * 16 + r.hi) rfl (by omega) (by omega)
  have q1 : rj1 (inK r) = 0 + 1 := j1
  have q2 : rj2 (inK r) = 0 + 1 + 1 := by rw [rj2, q1]; exact j2
  have q3 : rj3 (inK r) = 0 + 1 + 1 + 1 := by rw [rj3, q2]; exact j3
  have q4 : rj4 (inK r) = 0 + 1 + 1 + 1 + 1 := by rw [rj4, q3]; exact j4
  have v1 : rv1 (inK r) = r.id := e1
  have v2 : rv2 (inK r) = r.inc := by rw [rv2, q1]; exact e2
  have v3 : rv3 (inK r) = stB2 r := by rw [rv3, q2]; exact e3
  have v4 : rv4 (inK r) = r.lo * 16 + r.hi := by rw [rv4, q3]; exact e4
  have hsp : spO (r.lo * 16 + r.hi) = (r.lo, r.hi) := by
    have e5 : (r.lo * 16 + r.hi) / 16 = r.lo := by omega
    have e6 : (r.lo * 16 + r.hi) % 16 = r.hi := by omega
    rw [spO_of ⟨by omega, by omega⟩ (by rw [e5, e6]; exact okS_mk ⟨d1, d2, d3⟩), e5, e6]
  rw [rcV, v1, v2, v3, v4, q4, hsp, Int.tmod_eq_emod_of_nonneg s1, s3, s4]
  rfl
theorem recP_of {r : RK} (h : mayR r = true) (hi : r.inc ≤ 4294967295) : recP (recK2 r) = some r := by
  have e : splitB (innerB r) = some (inK r) := split_join _ (inK_flt h)
  rw [recP, if_pos (show (recK2 r).1 = 7 from rfl)]
  show (splitB (innerB r)).map rcV = some r
  rw [e, Option.map_some, rec_of h hi]
theorem recP_back {k : Key} {r : RK} (hk : isB k.2) (h : recP k = some r) (hm : mayR r = true) : recK2 r = k ∧ r.inc ≤ 4294967295 := by
  unfold recP at h
  split at h
  · rename_i h7
    obtain ⟨l, hs, rfl⟩ := Option.map_eq_some_iff.1 h
    obtain ⟨j1, j2, j3⟩ := join_split k.2.length k.2 l (Nat.le_refl _) hk hs
    obtain ⟨i1, i2⟩ := rec_in j3 hm
    refine ⟨?_, i2⟩
    rw [recK2, innerB, i1, j2, ← h7]
  · cases h
theorem recsP_of : ∀ {rs : List RK}, (∀ r ∈ rs, mayR r = true ∧ r.inc ≤ 4294967295) → recsP (rs.map recK2) = some rs
  | [], _ => rfl
  | r :: rs, h => by
    obtain ⟨h1, h2⟩ := h r (by simp)
    rw [List.map_cons, recsP, recP_of h1 h2]
    show (recsP (rs.map recK2)).map (r :: ·) = _
    rw [recsP_of fun x hx => h x (by simp [hx])]
    rfl
theorem recsP_back : ∀ {l : List Key} {rs : List RK}, (∀ x ∈ l, isB x.2) → recsP l = some rs → (∀ r ∈ rs, mayR r = true) → rs.map recK2 = l ∧ ∀ r ∈ rs, r.inc ≤ 4294967295
  | [], rs, _, h, _ => by
    obtain rfl : [] = rs := by simpa [recsP] using h
    simp
  | k :: l, rs, hb, h, hm => by
    rw [recsP] at h
    split at h
    · cases h
    · rename_i r hr
      obtain ⟨rt, hrt, rfl⟩ := Option.map_eq_some_iff.1 h
      obtain ⟨i1, i2⟩ := recsP_back (fun x hx => hb x (by simp [hx])) hrt (fun x hx => hm x (by simp [hx]))
      obtain ⟨g1, g2⟩ := recP_back (hb k (by simp)) hr (hm r (by simp))
      exact ⟨by rw [List.map_cons, i1, g1], fun x hx => by
        rcases List.mem_cons.1 hx with rfl | hx
        · exact g2
        · exact i2 x hx⟩

/-- What stands ahead of the records. -/
def h2k (l : List Key) : Int := nv 1 1 l 0
def h2i1 (l : List Key) : Nat := nj 1 1 l 0
def h2i2 (l : List Key) : Nat := nj 2 2 l (h2i1 l)
def h2i3 (l : List Key) : Nat := nj 3 6 l (h2i2 l)
def h2i4 (l : List Key) : Nat := nj 4 1 l (h2i3 l)
def h2i5 (l : List Key) : Nat := if hasB (h2k l) 0 = true then nj 5 2 l (h2i4 l) else h2i4 l
def h2i6 (l : List Key) : Nat := if hasB (h2k l) 1 = true then nj 6 2 l (h2i5 l) else h2i5 l
def h2f (l : List Key) : Int := nv 2 2 l (h2i1 l)
def h2n (l : List Key) : Int := nv 3 6 l (h2i2 l)
def h2c (l : List Key) : Int := nv 4 1 l (h2i3 l)
def h2q (l : List Key) : Int := if hasB (h2k l) 0 = true then nv 5 2 l (h2i4 l) else 0
def h2t (l : List Key) : Int := if hasB (h2k l) 1 = true then nv 6 2 l (h2i5 l) else 0
def hdV (l : List Key) (rs : List RK) : MV := ⟨h2k l, h2f l, h2n l, (spO (h2c l)).1, (spO (h2c l)).2, h2q l, h2t l, 0, 0, 0, rs⟩

theorem dec2_yes {b : List Int} (hb : isB b) {l : List Key} (hs : splitB b = some l) {rs : List RK} (hr : recsP (l.drop (h2i6 l)) = some rs) (hf2 : (hdV l rs).fit2) : Read2 b (hdV l rs) := by
  obtain ⟨j1, j2, j3⟩ := join_split b.length b l (Nat.le_refl _) hb hs
  have hm := hf2.1
  have hlist := list_may hm.2.2
  have hn := hm.1
  unfold MV.nums at hn
  obtain ⟨⟨n1, _⟩, ⟨n2, _⟩, ⟨n3, _⟩, ⟨n4, _⟩, ⟨n5, _⟩, _⟩ := hn
  have g4 := nv_range j3 4 1 (h2i3 l)
  obtain ⟨k4, s1, s2⟩ := spO_at (v := h2c l) hm.2.1 g4.1 (by have := g4.2; simp at this; exact this)
  have k1 : 0 ≤ h2k l := by have : 1 ≤ h2k l := n1; omega
  have k2 : 0 ≤ h2f l := n2
  have k3 : 0 ≤ h2n l := n3
  obtain ⟨e1, i1⟩ := nv_ok j3 k1
  obtain ⟨e2, i2⟩ := nv_ok j3 k2
  obtain ⟨e3, i3⟩ := nv_ok j3 k3
  obtain ⟨e4, i4⟩ := nv_ok j3 k4
  have i1' : h2i1 l = 0 + 1 := i1
  have i2' : h2i2 l = h2i1 l + 1 := i2
  have i3' : h2i3 l = h2i2 l + 1 := i3
  have i4' : h2i4 l = h2i3 l + 1 := i4
  rw [← i1'] at e1
  rw [← i2'] at e2
  rw [← i3'] at e3
  rw [← i4'] at e4
  have e5 : l.drop (h2i4 l) = (if hasB (h2k l) 0 = true then [itm 5 2 (h2q l)] else []) ++ l.drop (h2i5 l) := by
    by_cases q : hasB (h2k l) 0 = true
    · have k5 : 0 ≤ nv 5 2 l (h2i4 l) := by have : 0 ≤ h2q l := n4; rw [h2q, if_pos q] at this; exact this
      obtain ⟨f, g⟩ := nv_ok j3 k5
      rw [h2i5, h2q, if_pos q, if_pos q, if_pos q, g]
      exact f
    · rw [h2i5, if_neg q, if_neg q]; rfl
  have e6 : l.drop (h2i5 l) = (if hasB (h2k l) 1 = true then [itm 6 2 (h2t l)] else []) ++ l.drop (h2i6 l) := by
    by_cases q : hasB (h2k l) 1 = true
    · have k5 : 0 ≤ nv 6 2 l (h2i5 l) := by have : 0 ≤ h2t l := n5; rw [h2t, if_pos q] at this; exact this
      obtain ⟨f, g⟩ := nv_ok j3 k5
      rw [h2i6, h2t, if_pos q, if_pos q, if_pos q, g]
      exact f
    · rw [h2i6, if_neg q, if_neg q]; rfl
  obtain ⟨er, _⟩ := recsP_back (fun x hx => j3 x (List.mem_of_mem_drop hx)) hr hlist.2
  have ek : itemsK (hdV l rs) = l := by
    rw [itemsK, hdK]
    show ([itm 1 1 (h2k l), itm 2 2 (h2f l), itm 3 6 (h2n l), itm 4 1 ((spO (h2c l)).1 * 16 + (spO (h2c l)).2)] ++ (if hasB (h2k l) 0 = true then [itm 5 2 (h2q l)] else []) ++ (if hasB (h2k l) 1 = true then [itm 6 2 (h2t l)] else [])) ++ rs.map recK2 = l
    rw [er, s1, s2, show h2c l / 16 * 16 + h2c l % 16 = h2c l by omega, List.append_assoc, List.append_assoc, ← e6, ← e5]
    have f4 : itm 4 1 (h2c l) :: l.drop (h2i4 l) = l.drop (h2i3 l) := e4.symm
    have f3 : itm 3 6 (h2n l) :: l.drop (h2i3 l) = l.drop (h2i2 l) := e3.symm
    have f2 : itm 2 2 (h2f l) :: l.drop (h2i2 l) = l.drop (h2i1 l) := e2.symm
    have f1 : itm 1 1 (h2k l) :: l.drop (h2i1 l) = l.drop 0 := e1.symm
    show itm 1 1 (h2k l) :: itm 2 2 (h2f l) :: itm 3 6 (h2n l) :: itm 4 1 (h2c l) :: l.drop (h2i4 l) = l
    rw [f4, f3, f2, f1]
    rfl
  exact ⟨hf2, by rw [body2, ek, j2]⟩

theorem dec2_of {b : List Int} {x : MV} (h : Read2 b x) : b.length ≤ 65499 ∧ ∃ l, splitB b = some l ∧ recsP (l.drop (h2i6 l)) = some x.recs ∧ hdV l x.recs = x := by
  obtain ⟨_, hlen, _, hs, _, _, _⟩ := read2_inv h
  obtain ⟨⟨hm, h9, hl, he, hbs, hr, _⟩, _⟩ := h
  refine ⟨hlen, itemsK x, hs, ?_⟩
  have hlist := list_may hm.2.2
  have hsp := okS_yes hm.2.1
  have hn := hm.1
  unfold MV.nums at hn
  obtain ⟨⟨n1, n1'⟩, ⟨n2, n2'⟩, ⟨n3, n3'⟩, ⟨n4, n4', n4''⟩, ⟨n5, n5', n5'', _⟩, _⟩ := hn
  obtain ⟨e1, i1, t1⟩ := nv_itm (l := itemsK x) (t := 1) (n := 1) (i := 0) (v := x.kind) rfl (by omega) (by omega)
  obtain ⟨e2, i2, t2⟩ := nv_itm (l := itemsK x) (t := 2) (n := 2) (i := 0 + 1) (v := x.frm) rfl n2 (by omega)
  obtain ⟨e3, i3, t3⟩ := nv_itm (l := itemsK x) (t := 3) (n := 6) (i := 0 + 1 + 1) (v := x.inc) rfl n3 (by omega)
  obtain ⟨e4, i4, t4⟩ := nv_itm (l := itemsK x) (t := 4) (n := 1) (i := 0 + 1 + 1 + 1) (v := x.lo * 16 + x.hi) rfl (by omega) (by omega)
  have q1 : h2i1 (itemsK x) = 0 + 1 := i1
  have q2 : h2i2 (itemsK x) = 0 + 1 + 1 := by rw [h2i2, q1]; exact i2
  have q3 : h2i3 (itemsK x) = 0 + 1 + 1 + 1 := by rw [h2i3, q2]; exact i3
  have q4 : h2i4 (itemsK x) = 0 + 1 + 1 + 1 + 1 := by rw [h2i4, q3]; exact i4
  have v1 : h2k (itemsK x) = x.kind := e1
  have v2 : h2f (itemsK x) = x.frm := by rw [h2f, q1]; exact e2
  have v3 : h2n (itemsK x) = x.inc := by rw [h2n, q2]; exact e3
  have v4 : h2c (itemsK x) = x.lo * 16 + x.hi := by rw [h2c, q3]; exact e4
  have hso : spO (x.lo * 16 + x.hi) = (x.lo, x.hi) := by
    have e5 : (x.lo * 16 + x.hi) / 16 = x.lo := by omega
    have e6 : (x.lo * 16 + x.hi) % 16 = x.hi := by omega
    rw [spO_of ⟨by omega, by omega⟩ (by rw [e5, e6]; exact okS_mk hsp), e5, e6]
  have d4 : (itemsK x).drop (h2i4 (itemsK x)) = (if hasB x.kind 0 = true then [itm 5 2 x.seq] else []) ++ ((if hasB x.kind 1 = true then [itm 6 2 x.tgt] else []) ++ x.recs.map recK2) := by
    rw [q4, t4]; exact List.append_assoc _ _ _
  have z4 : hasB x.kind 0 = false → x.seq = 0 := fun q => by
    by_cases q2 : 0 < x.seq
    · have := n4'' q2; rw [q] at this; cases this
    · omega
  have z5 : hasB x.kind 1 = false → x.tgt = 0 := fun q => by
    by_cases q2 : 0 < x.tgt
    · have := n5'' q2; rw [q] at this; cases this
    · omega
  have A5 : h2q (itemsK x) = x.seq ∧ (itemsK x).drop (h2i5 (itemsK x)) = (if hasB x.kind 1 = true then [itm 6 2 x.tgt] else []) ++ x.recs.map recK2 := by
    rw [h2q, h2i5, v1]
    by_cases q : hasB x.kind 0 = true
    · rw [if_pos q] at d4
      rw [if_pos q, if_pos q]
      obtain ⟨e5, i5, t5⟩ := nv_itm (t := 5) (n := 2) (v := x.seq) d4 n4 (by omega)
      exact ⟨e5, by rw [i5, t5]; rfl⟩
    · rw [if_neg q] at d4
      rw [if_neg q, if_neg q]
      exact ⟨(z4 (by simpa using q)).symm, d4⟩
  obtain ⟨v5, d5⟩ := A5
  have A6 : h2t (itemsK x) = x.tgt ∧ (itemsK x).drop (h2i6 (itemsK x)) = x.recs.map recK2 := by
    rw [h2t, h2i6, v1]
    by_cases q : hasB x.kind 1 = true
    · rw [if_pos q] at d5
      rw [if_pos q, if_pos q]
      obtain ⟨e5, i5, t5⟩ := nv_itm (t := 6) (n := 2) (v := x.tgt) d5 n5 (by omega)
      exact ⟨e5, by rw [i5, t5]; rfl⟩
    · rw [if_neg q] at d5
      rw [if_neg q, if_neg q]
      exact ⟨(z5 (by simpa using q)).symm, d5⟩
  obtain ⟨v6, d6⟩ := A6
  refine ⟨by rw [d6]; exact recsP_of fun r hrm => ⟨hlist.2 r hrm, hr r hrm⟩, ?_⟩
  rw [hdV, v1, v2, v3, v4, v5, v6, hso]
  obtain ⟨kind, frm, inc, lo, hi, seq, tgt, life, epoch, base, recs⟩ := x
  simp only at hl he hbs
  subst hl he hbs
  rfl
end Go.Proofs.YtmejfkhikgcgmaaDoor
namespace Go.Proofs.YtmejfkhikgcgmaaDoor
open Go.RowKit
set_option linter.unusedSimpArgs false
set_option linter.unusedVariables false
set_option maxRecDepth 10000

theorem numD_yes {n : Nat} {v : Int} (h1 : 1 ≤ n) (h7 : n ≤ 7) (hv : 0 ≤ v) (hv2 : v < 256 ^ n) : numD n v = digB n v := by
  unfold numD
  rw [if_pos ⟨⟨by omega, by omega⟩, hv, by simpa using hv2⟩]
  simp
theorem numD_no {n v : Int} (h : n < 1 ∨ 7 < n ∨ v < 0 ∨ 256 ^ n.toNat ≤ v) : numD n v = [] := by
  unfold numD
  rw [if_neg]
  rintro ⟨⟨h1, h2⟩, h3, h4⟩
  rcases h with h | h | h | h
  · omega
  · omega
  · omega
  · omega
theorem numD_isB (n v : Int) : isB (numD n v) := by
  unfold numD
  split
  · exact digB_isB _ _
  · exact isB.nil
theorem numD_len (n v : Int) : (numD n v).length ≤ 7 := by
  unfold numD
  split
  · rename_i h; rw [digB_len]; omega
  · simp

/-- What Num comes to. -/
def NumP (w : World) (t n v : Int) (e : Ending) (w' : World) : Prop :=
  ∃ p c, e = .returned (.agg #[.int .i64 t, .slice p (numD n v).length c]) ∧ FOk w' ⟨t, p, c, numD n v⟩ ∧ (0 < (numD n v).length → ∀ a, p = some a → w.heap.size ≤ a.block) ∧ Below w.heap.size w w'

set_option maxHeartbeats 4000000 in
theorem tnum_any (t n v : Int) (w : World) (ht : (Lit.int .i64 t).wf = true) (hn : (Lit.int .i64 n).wf = true) (hv : (Lit.int .i64 v).wf = true) :
    Calls Tryd.prog 53 #[.int .i64 t, .int .i64 n, .int .i64 v] w fun e w' => NumP w t n v e w' := by
  have bv := bounds_i64 hv
  have hb0 : Below w.heap.size w (w.alloc (.cells #[.int .i64 0, .slice none 0 0] 55)) := (Below.refl _ _).alloc (Nat.le_refl _) _
  have hn0 := heap_alloc_new w (.cells #[.int .i64 0, .slice none 0 0] 55)
  by_cases hg : n < 1 ∨ 7 < n ∨ v < 0 ∨ 256 ^ n.toNat ≤ v
  · have hd := numD_no hg
    have HP := Hid.mk' (show ∀ w', Below w.heap.size w w' → NumP w t n v (.returned (.agg #[.int .i64 t, .slice none 0 0])) w' from fun w' hb => ⟨none, 0, by rw [hd]; rfl, by rw [hd]; exact ⟨ht, Nat.le_refl _, by simp [maxLen], fun _ => rfl, BIn.empty _ _, isB.nil, by simp⟩, fun h => by rw [hd] at h; simp at h, hb⟩)
    have HG := Hid.mk' hg
    clear hg hd
    have W0 := writeB (w.alloc (.cells #[.int .i64 0, .slice none 0 0] 55))
    go_enter Tryd.func53, Tryd.ntmps53
    go_wp2_with fail
    generalize hw0 : w.alloc (.cells #[.int .i64 0, .slice none 0 0] 55) = w0 at hb0 hn0 W0 ⊢
    have hlt : w.heap.size < w0.heap.size := (Array.getElem?_eq_some_iff.1 hn0).1
    have HLT := Hid.mk' hlt
    have HB0 := Hid.mk' hb0
    have HN0 := Hid.mk' hn0
    clear hw0 hlt hb0 hn0
    refine W0.mono ?_
    rintro e w1 ⟨rfl, hW1, hb1⟩
    obtain ⟨g1, hW1, hB1, hg1⟩ := hW1
    have N1 := numW_no _ _ _ _ n v w1 hW1 (by omega) (by omega) HG.out
    have HB1 := Hid.mk' hb1
    have HLB := Hid.mk' hW1.lt
    have HG1 := Hid.mk' hg1
    clear hW1 hb1 W0 hB1 hg1
    go_wp2_with fail
    refine N1.mono ?_
    rintro e w2 ⟨rfl, hW2, hf2⟩
    have hb2 : Below w0.heap.size w1 w2 := hf2.below (fun i q => by rcases q with rfl | q; exact Nat.le_refl _; exact HG1.out i q) HB1.out.size
    have Y := bytes_bad _ _ _ w2 hW2
    have HB2 := Hid.mk' (HB1.out.trans hb2)
    clear hW2 hb2 hf2 N1 HB1 HLB HG1
    go_wp2_with fail
    refine Y.mono ?_
    rintro e w3 ⟨rfl, rfl⟩
    have hbox : w2.heap[w.heap.size]? = some (.cells #[.int .i64 0, .slice none 0 0] 55 (0, 0)) := by rw [HB2.out.block _ HLT.out]; exact HN0.out
    obtain ⟨c0, c1, f0, f1⟩ := two_cells hbox
    have HBX := Hid.mk' hbox
    have HB03 := Hid.mk' (HB0.out.trans (HB2.out.mono HB0.out.size))
    clear hbox Y HB2
    obtain ⟨Q0, Q1⟩ := two_set HBX.out (.int .i64 t) (.slice none 0 0)
    have HQ0 := Hid.mk' Q0
    have HQ1 := Hid.mk' Q1
    clear Q0 Q1
    go_wp2
    have f : Fr (fun k => k = w.heap.size) w2 ((w2.setCell ⟨w.heap.size, 0, none⟩ (.int .i64 t)).setCell ⟨w.heap.size, 1, none⟩ (.slice none 0 0)) :=
      Fr.setCell (S := fun k => k = w.heap.size) (p := ⟨w.heap.size, 1, none⟩) (Fr.setCell (S := fun k => k = w.heap.size) (p := ⟨w.heap.size, 0, none⟩) (Fr.refl _ _) (.inl rfl) _) (.inl rfl) _
    exact bodyPost_ret (v := .agg #[.int .i64 t, .slice none 0 0]) (by have q0 := HQ0.out; have q1 := HQ1.out; simp [results, Tryd.results53, go_sem, q0, q1]) rfl
      (HP.out _ (HB03.out.trans (f.below (fun i q => by omega) HB03.out.size)))
  · obtain ⟨m, rfl⟩ := Int.eq_ofNat_of_zero_le (show 0 ≤ n by omega)
    have h1 : 1 ≤ m := by omega
    have h7 : m ≤ 7 := by omega
    have hv0 : 0 ≤ v := by omega
    have hv2 : v < 256 ^ m := by
      have : ¬ (256 ^ (m : Int).toNat ≤ v) := fun q => hg (.inr (.inr (.inr q)))
      rw [Int.toNat_natCast] at this
      omega
    have hv3 : v ≤ 9223372036854775807 := by omega
    have hd := numD_yes h1 h7 hv0 hv2
    have HP := Hid.mk' (show ∀ g w', w.heap.size ≤ g → BIn w' (some ⟨g, 0, none⟩) (digB m v) → Below w.heap.size w w' → NumP w t m v (.returned (.agg #[.int .i64 t, .slice (some ⟨g, 0, none⟩) m m])) w' from fun g w' hgg hbi hb => ⟨some ⟨g, 0, none⟩, m, by rw [hd, digB_len], by rw [hd]; exact FOk.new ht hbi (digB_len _ _) (by omega) (digB_isB _ _), fun _ a ha => by cases ha; exact hgg, hb⟩)
    have W0 := writeB (w.alloc (.cells #[.int .i64 0, .slice none 0 0] 55))
    have HV := Hid.mk' hv2
    clear hv2 hg hd
    go_enter Tryd.func53, Tryd.ntmps53
    go_wp2_with fail
    generalize hw0 : w.alloc (.cells #[.int .i64 0, .slice none 0 0] 55) = w0 at hb0 hn0 W0 ⊢
    have hlt : w.heap.size < w0.heap.size := (Array.getElem?_eq_some_iff.1 hn0).1
    have HLT := Hid.mk' hlt
    have HB0 := Hid.mk' hb0
    have HN0 := Hid.mk' hn0
    clear hw0 hlt hb0 hn0
    refine W0.mono ?_
    rintro e w1 ⟨rfl, hW1, hb1⟩
    have N1 := numB_ok _ _ [] m v w1 hW1 h1 h7 hv0 HV.out hv3 (by simp)
    have HB1 := Hid.mk' hb1
    clear hW1 hb1 W0
    go_wp2_with fail
    refine N1.mono ?_
    rintro e w2 ⟨rfl, hW2, hb2⟩
    rw [List.nil_append] at hW2
    have Y := bytesB _ _ _ w2 hW2 (by rw [digB_len]; omega)
    rw [digB_len] at Y
    have HB2 := Hid.mk' (HB1.out.trans hb2)
    clear hW2 hb2 N1 HB1
    go_wp2_with fail
    refine Y.mono ?_
    rintro e w3 ⟨rfl, hB3, hb3⟩
    have hb03 : Below w0.heap.size w0 w3 := HB2.out.trans (hb3.mono HB2.out.size)
    have hbox : w3.heap[w.heap.size]? = some (.cells #[.int .i64 0, .slice none 0 0] 55 (0, 0)) := by rw [hb03.block _ HLT.out]; exact HN0.out
    obtain ⟨c0, c1, f0, f1⟩ := two_cells hbox
    have HBX := Hid.mk' hbox
    have HB3 := Hid.mk' hB3
    have HB03 := Hid.mk' (HB0.out.trans (hb03.mono HB0.out.size))
    have HG := Hid.mk' (Nat.le_trans (Nat.le_of_lt HLT.out) HB2.out.size)
    have HGG := Hid.mk' (Nat.lt_of_lt_of_le HLT.out HB2.out.size)
    clear hB3 hb3 hb03 hbox Y HB2
    obtain ⟨Q0, Q1⟩ := two_set HBX.out (.int .i64 t) (.slice (some ⟨w2.heap.size, 0, none⟩) m m)
    have HQ0 := Hid.mk' Q0
    have HQ1 := Hid.mk' Q1
    clear Q0 Q1
    go_wp2
    have f : Fr (fun k => k = w.heap.size) w3 ((w3.setCell ⟨w.heap.size, 0, none⟩ (.int .i64 t)).setCell ⟨w.heap.size, 1, none⟩ (.slice (some ⟨w2.heap.size, 0, none⟩) m m)) :=
      Fr.setCell (S := fun k => k = w.heap.size) (p := ⟨w.heap.size, 1, none⟩) (Fr.setCell (S := fun k => k = w.heap.size) (p := ⟨w.heap.size, 0, none⟩) (Fr.refl _ _) (.inl rfl) _) (.inl rfl) _
    exact bodyPost_ret (v := .agg #[.int .i64 t, .slice (some ⟨w2.heap.size, 0, none⟩) m m]) (by have q0 := HQ0.out; have q1 := HQ1.out; simp [results, Tryd.results53, go_sem, q0, q1]) rfl
      (HP.out _ _ HG.out (HB3.out.fr f (fun a ha _ q => by cases ha; have := HGG.out; simp at q; omega)) (HB03.out.trans (f.below (fun i q => by omega) HB03.out.size)))

/-- The number of n bytes that an item is. -/
def valK (d : List Int) (n : Int) : Int × Bool := if (1 ≤ n ∧ n ≤ 7) ∧ (d.length : Int) = n then (numB d, true) else (0, false)

set_option maxHeartbeats 4000000 in
theorem tvalue_any (f : Fd) (n : Int) (w : World) (hf : FOk w f) (hn : (Lit.int .i64 n).wf = true) :
    Calls Tryd.prog 68 #[.agg #[.int .i64 f.tag, .slice f.p f.d.length f.cap], .int .i64 n] w fun e w' => e = .returned (.tuple #[.int .i64 (valK f.d n).1, .bool (valK f.d n).2]) ∧ Below w.heap.size w w' := by
  have HI := Hid.mk' (InBF.start w f)
  have R := gread_any f.p f.cap f.d _ (hf.bin.below HI.out.below) hf.isb hf.few
  have HV := Hid.mk' (show valK f.d n = if (1 ≤ n ∧ n ≤ 7) ∧ (f.d.length : Int) = n then (numB f.d, true) else (0, false) from rfl)
  have bn := bounds_i64 hn
  generalize valK f.d n = r at HV ⊢
  clear hf hn
  go_enter Tryd.func68, Tryd.ntmps68
  obtain ⟨c0, c1⟩ := HI.out.two
  go_wp2_with fail
  clear c0 c1
  generalize w.alloc (.cells #[.int .i64 f.tag, .slice f.p f.d.length f.cap] 55) = w0 at HI R ⊢
  refine R.mono ?_
  clear R
  rintro e w1 ⟨b, rfl, hb, hR, hb1⟩
  have HB1 := Hid.mk' (HI.out.below.trans (hb1.mono HI.out.below.size))
  have HR := Hid.mk' hR
  have HBB := Hid.mk' (show w.heap.size ≤ b from Nat.le_trans HI.out.below.size hb)
  clear hb hR hb1 HI
  by_cases hg : 1 ≤ n ∧ n ≤ 7
  · obtain ⟨k, rfl⟩ := Int.eq_ofNat_of_zero_le (show 0 ≤ n by omega)
    have N := gnum_any _ b k (some f.d) w1 HR.out (by omega) (by omega)
    have HG := Hid.mk' hg
    clear hg
    obtain ⟨x, hx⟩ : ∃ x, nV k (some f.d) = x := ⟨_, rfl⟩
    rw [hx] at N
    have HX := Hid.mk' hx
    clear hx
    go_wp2_with fail
    refine N.mono ?_
    clear N
    rintro e w2 ⟨rfl, hR2, hf2⟩
    have HB2 := Hid.mk' (HB1.out.trans (hf2.below (fun i q => by have := HBB.out; omega) HB1.out.size))
    have D := gdone_any _ b _ w2 hR2
    clear hR2 hf2 HB1 HR
    obtain ⟨d, hd⟩ : ∃ d, decide (nS k (some f.d) = some []) = d := ⟨_, rfl⟩
    rw [hd] at D
    have HD := Hid.mk' hd
    clear hd
    go_wp2_with fail
    refine D.mono ?_
    clear D
    rintro e w3 ⟨rfl, rfl⟩
    cases d
    · have hq : ¬ f.d.length = k := fun q => by
        have h := HD.out
        rw [decide_eq_false_iff_not] at h
        exact h (by rw [nS_some (by omega), List.drop_of_length_le (by omega)])
      obtain rfl : r = (0, false) := by rw [HV.out, if_neg]; omega
      clear hq
      go_wp2_with fail
      go_ret2
      exact ⟨rfl, HB2.out⟩
    · have hq : f.d.length = k := by
        have h := HD.out
        rw [decide_eq_true_eq] at h
        by_cases q : k ≤ f.d.length
        · rw [nS_some q] at h
          have h2 := congrArg List.length (Option.some.inj h)
          simp at h2
          omega
        · rw [nS_short (by omega)] at h; cases h
      have hx : x = numB f.d := by rw [← HX.out, nV_some (by omega), List.take_of_length_le (by omega)]
      have HRV := Hid.mk' (show r = (x, true) by rw [HV.out, if_pos ⟨HG.out, by omega⟩, hx])
      clear hq hx
      go_wp2_with fail
      go_ret2
      exact ⟨by rw [HRV.out]; rfl, HB2.out⟩
  · have N := num_no b f.d false n w1 (HR.out.good f.d rfl) (by omega)
    obtain rfl : r = (0, false) := by rw [HV.out, if_neg]; omega
    clear HV hg
    go_wp2_with fail
    refine N.mono ?_
    clear N
    rintro e w2 ⟨rfl, hR2, hf2⟩
    have HB2 := Hid.mk' (HB1.out.trans (hf2.below (fun i q => by have := HBB.out; omega) HB1.out.size))
    have D := done_any b [] true w2 hR2
    clear hR2 hf2 HB1 HR
    go_wp2_with fail
    refine D.mono ?_
    clear D
    rintro e w3 ⟨rfl, rfl⟩
    go_wp2_with fail
    go_ret2
    exact ⟨rfl, HB2.out⟩
end Go.Proofs.YtmejfkhikgcgmaaDoor
namespace Go.Proofs.YtmejfkhikgcgmaaDoor
open Go.RowKit
set_option linter.unusedSimpArgs false
set_option linter.unusedVariables false
set_option maxRecDepth 10000
set_option synthInstance.maxSize 2000

theorem FIn.frS {S : Nat → Prop} {W W' : World} {p : Option Addr} {l : List Fd} (h : FIn W p l) (k : Fr S W W') (h1 : 0 < l.length → ∀ a, p = some a → ¬ S a.block) (h2 : ∀ f ∈ l, 0 < f.d.length → ∀ a, f.p = some a → ¬ S a.block) : FIn W' p l := by
  intro hl
  obtain ⟨b, o, hb, hc⟩ := h.at hl
  have hN := h1 hl ⟨b, o, none⟩ hb
  rw [hb]
  refine FIn.of (fun i hi => ?_) hl
  obtain ⟨q1, q2, q3⟩ := hc i hi
  refine ⟨by rw [k.cell (p := ⟨b, o + i * 2, none⟩) (lt_of_cell q1) hN]; exact q1, by rw [k.cell (p := ⟨b, o + i * 2 + 1, none⟩) (lt_of_cell q2) hN]; exact q2, q3.fr k (h2 _ (by simp [List.getD, hi]))⟩
/-- Fields that lie below block N are not touched from there on. -/
theorem FIn.lowN {N : Nat} {W W' : World} {p : Option Addr} {l : List Fd} (h : FIn W p l) (k : Below N W W') (h1 : 0 < l.length → ∀ a, p = some a → a.block < N) (h2 : ∀ f ∈ l, 0 < f.d.length → ∀ a, f.p = some a → a.block < N) : FIn W' p l :=
  h.frS (S := fun i => N ≤ i) ⟨k.os, k.tape, k.output, k.size, fun i _ hn => k.block i (by omega)⟩ (fun hl a ha q => by have := h1 hl a ha; omega) (fun f hf hl a ha q => by have := h2 f hf hl a ha; omega)
theorem FIn.next {W : World} {b o c : Nat} {pk : Option Addr} {l : List Fd} (h : FIn W (some ⟨b, o, none⟩) l) (hc : l.length ≤ c) (hif : (if c = 1 then some (⟨b, o, none⟩ : Addr) else some ⟨b, o + 2, none⟩) = pk) : FIn W pk (l.drop 1) := by
  intro hl
  have hl2 : 1 < l.length := by simp at hl; omega
  rw [if_neg (by omega)] at hif
  subst hif
  obtain ⟨b', o', e, hcc⟩ := h.at (by omega)
  cases e
  refine FIn.of (fun i hi => ?_) hl
  have := hcc (i + 1) (by simp at hi; omega)
  rw [show (l.drop 1).getD i zf = l.getD (i + 1) zf by simp [List.getD, Nat.add_comm]]
  rw [show o + (i + 1) * 2 = o + 2 + i * 2 by omega] at this
  exact this

/-- The cell at g holds what is left of the items L behind the first i; all their memory lies from block B on, below g. -/
structure NSt (B : Nat) (W : World) (g : Nat) (L : List Fd) (i : Nat) : Prop where
  cell : ∃ p c, W.heap[g]? = some (.cells #[.slice p (L.length - i) c] 42 (0, 0)) ∧ FIn W p (L.drop i) ∧ L.length - i ≤ c ∧ c ≤ maxLen ∧ (p = none → c = 0) ∧ (0 < L.length - i → ∀ a, p = some a → B ≤ a.block ∧ a.block < g)
  le : B ≤ g
  mem : ∀ f ∈ L, 0 < f.d.length → ∀ a, f.p = some a → B ≤ a.block ∧ a.block < g
theorem NSt.lt {B : Nat} {W : World} {g : Nat} {L : List Fd} {i : Nat} (h : NSt B W g L i) : g < W.heap.size := by
  obtain ⟨p, c, h1, _⟩ := h.cell
  exact (Array.getElem?_eq_some_iff.1 h1).1
theorem NSt.low {B : Nat} {W W' : World} {g : Nat} {L : List Fd} {i : Nat} (h : NSt B W g L i) (k : Below (g + 1) W W') : NSt B W' g L i := by
  obtain ⟨p, c, h1, h2, h3, h4, h5, h6⟩ := h.cell
  refine ⟨⟨p, c, by rw [k.block g (Nat.lt_succ_self g)]; exact h1, h2.lowN k (fun hl a ha => ?_) (fun f hf hl a ha => ?_), h3, h4, h5, h6⟩, h.le, h.mem⟩
  · have := (h6 (by simpa using hl) a ha).2; omega
  · have := (h.mem f (List.mem_of_mem_drop hf) hl a ha).2; omega
theorem NSt.on {B : Nat} {W W' : World} {g : Nat} {L : List Fd} {i : Nat} (h : NSt B W g L i) (k : Below W.heap.size W W') : NSt B W' g L i := h.low (k.mono h.lt)
theorem cellS1 {w : World} {b : Nat} {x : Value} {t : TypeId} (h : w.heap[b]? = some (.cells #[x] t (0, 0))) : w.cell? ⟨b, 0, none⟩ = some x ∧ w.frozen? ⟨b, 0, none⟩ = false := by
  simp [World.cell?, World.frozen?, h]
theorem setS1 {w : World} {b : Nat} {x : Value} {t : TypeId} (h : w.heap[b]? = some (.cells #[x] t (0, 0))) (u : Value) : (w.setCell ⟨b, 0, none⟩ u).heap[b]? = some (.cells #[u] t (0, 0)) := by
  simp [World.setCell, Array.getElem?_modify, h]

theorem nv_short {L : List Fd} {i : Nat} (h : L.length ≤ i) (t : Int) (n : Nat) : nv t n (kys L) i = -1 ∧ nj t n (kys L) i = i := by
  unfold nv nj
  rw [List.drop_of_length_le (by rw [kys_len]; exact h)]
  exact ⟨rfl, rfl⟩
theorem nv_step {L : List Fd} {i : Nat} (h : i < L.length) (t : Int) (n : Nat) : (((L.getD i zf).tag = t ∧ (L.getD i zf).d.length = n) → nv t n (kys L) i = numB (L.getD i zf).d ∧ nj t n (kys L) i = i + 1) ∧ (¬ ((L.getD i zf).tag = t ∧ (L.getD i zf).d.length = n) → nv t n (kys L) i = -1 ∧ nj t n (kys L) i = i) := by
  have e : (kys L).drop i = ky (L.getD i zf) :: kys (L.drop (i + 1)) := by
    rw [kys, ← List.map_drop, drop_next L i h]; rfl
  unfold nv nj
  rw [e]
  refine ⟨fun q => ?_, fun q => ?_⟩
  · have q' : (ky (L.getD i zf)).1 = t ∧ (ky (L.getD i zf)).2.length = n := q
    rw [nmV, nmJ, if_pos q', if_pos q']; exact ⟨rfl, rfl⟩
  · have q' : ¬ ((ky (L.getD i zf)).1 = t ∧ (ky (L.getD i zf)).2.length = n) := q
    rw [nmV, nmJ, if_neg q', if_neg q']; exact ⟨rfl, rfl⟩

set_option maxHeartbeats 4000000 in
theorem gnext2_any (B g : Nat) (L : List Fd) (i : Nat) (t : Int) (n : Nat) (k : Int) (hk : k = n) (w : World) (h : NSt B w g L i) (h1 : 1 ≤ n) (h7 : n ≤ 7) :
    Calls Tryd.prog 67 #[.int .i64 t, .int .i64 k, .pointer (some ⟨g, 0, none⟩)] w fun e w' => e = .returned (.int .i64 (nv t n (kys L) i)) ∧ NSt B w' g L (nj t n (kys L) i) ∧ Fr (fun j => j = g) w w' := by
  subst hk
  obtain ⟨p, c, hg, hfin, hlc, hcm, hp0, hblk⟩ := h.cell
  obtain ⟨cg, fg⟩ := cellS1 hg
  simp only [maxLen] at hcm
  by_cases q : i < L.length
  · obtain ⟨b, o, rfl, hc⟩ := hfin.at (by simp; omega)
    obtain ⟨e0, e1, hok⟩ := hc 0 (by simp; omega)
    have ey : (L.drop i).getD 0 zf = L.getD i zf := by simp [List.getD]
    rw [ey] at e0 e1 hok
    rw [Nat.zero_mul, Nat.add_zero] at e0 e1
    have hst := nv_step q t n
    have hm : L.getD i zf ∈ L := by simp [List.getD, q]
    have HMEM := Hid.mk' (h.mem _ hm)
    have HB := Hid.mk' (hblk (by omega) ⟨b, o, none⟩ rfl)
    have HD := Hid.mk' (show (L.drop i).drop 1 = L.drop (i + 1) by rw [List.drop_drop])
    generalize L.getD i zf = y at e0 e1 hok hst hm HMEM
    have VAL := Hid.mk' (fun X (k : Below w.heap.size w X) => tvalue_any y (n : Int) X (hok.below k) (small_wf (z := (n : Int)) (by omega) (by omega)))
    have HST := Hid.mk' hst
    have HH := Hid.mk' h
    have HF := Hid.mk' hfin
    have HG := Hid.mk' hg
    have d0 : ((L.length - i : Nat) : Int) ≠ 0 := by omega
    have d1 : (((L.length - i : Nat) : Int) == 0) = false := by simpa using d0
    have hpos : 0 < L.length - i := by omega
    generalize hN : L.length - i = N at *
    clear hst hc hblk hm ey hfin h hok hg d0
    by_cases u1 : y.tag = t
    · have v1 : (y.tag != t) = false := by simpa using u1
      have HU := Hid.mk' u1
      clear u1
      go_enter Tryd.func67, Tryd.ntmps67
      go_wp2_with fail
      refine (VAL.out w (Below.refl _ _)).mono ?_
      clear VAL
      rintro e w2 ⟨rfl, hb2⟩
      have HG2 := Hid.mk' (box_bel HG.out hb2)
      obtain ⟨cg2, fg2⟩ := cellS1 HG2.out
      have HF2 := Hid.mk' (HF.out.below hb2)
      have HR2 := Hid.mk' (Fr.of_below hb2 fun j => j = g)
      have HH2 := Hid.mk' (HH.out.on hb2)
      clear hb2 HG HF HH cg fg
      by_cases u2 : y.d.length = n
      · have hv : valK y.d (n : Int) = (numB y.d, true) := by unfold valK; rw [if_pos ⟨⟨by omega, by omega⟩, by omega⟩]
        obtain ⟨n1, n2⟩ := HST.out.1 ⟨HU.out, u2⟩
        have HQ := Hid.mk' (And.intro n1 n2)
        rw [hv]
        obtain ⟨pk, hif⟩ : ∃ pk, (if c = 1 then some (⟨b, o, none⟩ : Addr) else some ⟨b, o + 2, none⟩) = pk := ⟨_, rfl⟩
        have HIF := Hid.mk' hif
        clear hv n1 n2 HST u2
        go_wp2_with fail
        have hset := (Fr.refl (fun j => j = g) w2).setCell (p := ⟨g, 0, none⟩) (.inl rfl) (.slice pk (N - 1) (c - 1))
        have hN1 : L.length - (i + 1) = N - 1 := by omega
        go_ret
        refine ⟨by rw [HQ.out.1]; rfl, ?_, HR2.out.trans hset fun _ z => .inl z⟩
        rw [HQ.out.2]
        have hfn := HF2.out.next (c := c) (by rw [List.length_drop]; omega) HIF.out
        rw [HD.out] at hfn
        refine ⟨⟨pk, c - 1, by rw [hN1]; exact setS1 HG2.out _, hfn.frS hset (fun hl a ha z => ?_) (fun f hf hl a ha z => ?_), by omega, by simp only [maxLen]; omega, fun hp => ?_, fun hl a ha => ?_⟩, HH2.out.le, HH2.out.mem⟩
        · have hb := HB.out
          have e := HIF.out
          rw [ha] at e
          split at e <;> cases e <;> simp only at z <;> omega
        · have := (HH2.out.mem f (List.mem_of_mem_drop hf) hl a ha).2
          omega
        · have e := HIF.out
          rw [hp] at e
          split at e <;> cases e
        · have hb := HB.out
          have e := HIF.out
          rw [ha] at e
          split at e <;> cases e <;> exact hb
      · have hv : valK y.d (n : Int) = (0, false) := by unfold valK; rw [if_neg]; rintro ⟨_, z⟩; omega
        have hno := HST.out.2 (fun z => u2 z.2)
        have HQ := Hid.mk' hno
        rw [hv]
        clear hno HST hv u2
        go_wp2_with fail
        go_ret
        exact ⟨by rw [HQ.out.1]; rfl, by rw [HQ.out.2]; exact HH2.out, HR2.out⟩
    · have v1 : (y.tag != t) = true := by simpa using u1
      have hno := HST.out.2 (fun z => u1 z.1)
      have HQ := Hid.mk' hno
      clear u1 hno VAL HST
      go_enter Tryd.func67, Tryd.ntmps67
      go_wp2_with fail
      go_ret
      exact ⟨by rw [HQ.out.1]; rfl, by rw [HQ.out.2]; exact HH.out, Fr.refl _ _⟩
  · have hz : L.length - i = 0 := by omega
    obtain ⟨n1, n2⟩ := nv_short (L := L) (i := i) (by omega) t n
    have HQ := Hid.mk' (And.intro n1 n2)
    have HH := Hid.mk' h
    rw [hz] at cg
    clear n1 n2 hz hfin hlc hcm hp0 hblk hg h
    go_enter Tryd.func67, Tryd.ntmps67
    go_wp2_with fail
    go_ret
    exact ⟨by rw [HQ.out.1]; rfl, by rw [HQ.out.2]; exact HH.out, Fr.refl _ _⟩

set_option maxHeartbeats 1600000 in
theorem grest2_any (g : Nat) (p : Option Addr) (n c : Nat) (w : World) (hc : w.cell? ⟨g, 0, none⟩ = some (.slice p n c)) :
    Calls Tryd.prog 69 #[.pointer (some ⟨g, 0, none⟩)] w fun e w' => e = .returned (.slice p n c) ∧ w = w' := by
  go_enter Tryd.func69, Tryd.ntmps69
  go_wp2_with fail
  go_ret
  exact ⟨rfl, rfl⟩

/-- The two closures over the cell at g. -/
abbrev numF (g : Nat) : Value := .func (.func 67) #[] #[.pointer (some ⟨g, 0, none⟩)]
abbrev restF (g : Nat) : Value := .func (.func 69) #[] #[.pointer (some ⟨g, 0, none⟩)]
set_option maxHeartbeats 1600000 in
theorem gnumbers2_any (p : Option Addr) (c : Nat) (L : List Fd) (B : Nat) (w : World) (h : OwnT B w (.slice p L.length c) L) (hB : B ≤ w.heap.size) :
    Calls Tryd.prog 47 #[.slice p L.length c] w fun e w' => e = .returned (.tuple #[numF w.heap.size, restF w.heap.size]) ∧ NSt B w' w.heap.size L 0 ∧ Below w.heap.size w w' := by
  have hb : Below w.heap.size w (w.alloc (.cells #[.slice p L.length c] 42)) := (Below.refl _ _).alloc (Nat.le_refl _) _
  have HB := Hid.mk' hb
  have HN := Hid.mk' (show NSt B (w.alloc (.cells #[.slice p L.length c] 42)) w.heap.size L 0 from by
    obtain ⟨p9, c9, e9, hfin, hp0, hlc, hmc⟩ := own_fin h.own.own h.own.oks
    simp only [Value.slice.injEq, true_and] at e9
    obtain ⟨rfl, rfl⟩ := e9
    refine ⟨⟨p, c, heap_alloc_new _ _, hfin.below hb, hlc, hmc, hp0, fun hl a ha => ?_⟩, hB, fun f hf hl a ha => ⟨h.hi f hf hl a ha, (h.own.oks f hf).lt hl a ha⟩⟩
    obtain ⟨_, _, e9, _, _, _, hpg⟩ := h.own.own.slice
    simp only [Value.slice.injEq, true_and] at e9
    obtain ⟨rfl, rfl⟩ := e9
    obtain ⟨g, hg, hgB, hcell⟩ := hpg (by simpa using hl)
    subst ha
    cases hg
    have hq := h.own.own.owns.lt g rfl
    exact ⟨hgB, hq.2⟩)
  clear h hB hb
  go_enter Tryd.func47, Tryd.ntmps47
  go_wp2_with fail
  go_ret2
  exact ⟨rfl, HN.out, HB.out⟩
end Go.Proofs.YtmejfkhikgcgmaaDoor
namespace Go.Proofs.YtmejfkhikgcgmaaDoor
open Go.RowKit
set_option linter.unusedSimpArgs false
set_option linter.unusedVariables false
set_option maxRecDepth 10000
set_option synthInstance.maxSize 2000

theorem wf_m1 {z : Int} (h : -1 ≤ z) (h2 : z ≤ 281474976710655) : (Lit.int .i64 z).wf = true := by
  by_cases q : z = -1
  · subst q; decide
  · exact small_wf (z := z) (by omega) (by omega)
theorem spO_range (c : Int) : (0 ≤ (spO c).1 ∧ (spO c).1 ≤ 3) ∧ (0 ≤ (spO c).2 ∧ (spO c).2 ≤ 3) := by
  unfold spO
  split
  · rename_i h
    have := okS_yes h
    simp only
    omega
  · simp
theorem sz_drop_le (l : List Fd) (k : Nat) : szK (kys (l.drop k)) ≤ szK (kys l) := by
  have h : szK (kys l) = szK (kys (l.take k)) + szK (kys (l.drop k)) := by rw [← szK_append, ← kys_append, List.take_append_drop]
  omega

/-- What readRecord answers. -/
def RecQP (w : World) (k : Key) (e : Ending) (w' : World) : Prop :=
  ∃ r : Rc, ∃ ok : Bool, e = .returned (.tuple #[.agg #[.int .i64 r.id, .int .i64 r.inc, .int .i64 r.st, .int .i64 r.lo, .int .i64 r.hi, .bool r.cut, .slice r.p r.bag.length r.cap], .bool ok]) ∧ ROk w' r ∧ (∀ i, RMem r i → w.heap.size ≤ i) ∧ szK (kys r.bag) ≤ 4611686018427387904 ∧ Below w.heap.size w w' ∧ ((ok = true ∧ recP k = some (rk r)) ∨ (ok = false ∧ recP k = none))

set_option maxHeartbeats 8000000 in
theorem greadRec_any (f : Fd) (w : World) (hf : FOk w f) (hl : f.d.length ≤ 100000) :
    Calls Tryd.prog 71 #[.agg #[.int .i64 f.tag, .slice f.p f.d.length f.cap]] w fun e w' => RecQP w (ky f) e w' := by
  have HNO := Hid.mk' (show ∀ w', Below w.heap.size w w' → recP (ky f) = none → RecQP w (ky f) (.returned (.tuple #[.agg #[.int .i64 0, .int .i64 0, .int .i64 0, .int .i64 0, .int .i64 0, .bool false, .slice none 0 0], .bool false])) w' from fun w' h1 h2 => ⟨zr, false, rfl, zr_ok w', fun i hi => absurd hi (RMem.of_nil rfl i), by simp [zr, kys, szK], h1, .inr ⟨rfl, h2⟩⟩)
  have HY := Hid.mk' (show ∀ r w', ROk w' r → (∀ i, RMem r i → w.heap.size ≤ i) → szK (kys r.bag) ≤ 4611686018427387904 → Below w.heap.size w w' → recP (ky f) = some (rk r) → RecQP w (ky f) (.returned (.tuple #[.agg #[.int .i64 r.id, .int .i64 r.inc, .int .i64 r.st, .int .i64 r.lo, .int .i64 r.hi, .bool r.cut, .slice r.p r.bag.length r.cap], .bool true])) w' from fun r w' h1 h2 h3 h4 h5 => ⟨r, true, rfl, h1, h2, h3, h4, .inl ⟨rfl, h5⟩⟩)
  generalize RecQP w (ky f) = Post at HNO HY ⊢
  have hrp : recP (ky f) = if f.tag = 7 then (splitB f.d).map rcV else none := rfl
  have b0 := (Below.refl w.heap.size w).alloc (Nat.le_refl _) (.cells #[.int .i64 f.tag, .slice f.p f.d.length f.cap] 55)
  have g0 := heap_alloc_new w (.cells #[.int .i64 f.tag, .slice f.p f.d.length f.cap] 55)
  have s0 : (w.alloc (.cells #[.int .i64 f.tag, .slice f.p f.d.length f.cap] 55)).heap.size = w.heap.size + 1 := by simp
  obtain ⟨x1, hx1⟩ : ∃ x, w.alloc (.cells #[.int .i64 f.tag, .slice f.p f.d.length f.cap] 55) = x := ⟨_, rfl⟩
  rw [hx1] at b0 g0 s0
  have b1 := (Below.refl x1.heap.size x1).alloc (Nat.le_refl _) (.cells #[.int .i64 0, .int .i64 0, .int .i64 0, .int .i64 0, .int .i64 0, .bool false, .slice none 0 0] 44)
  have g1 := heap_alloc_new x1 (.cells #[.int .i64 0, .int .i64 0, .int .i64 0, .int .i64 0, .int .i64 0, .bool false, .slice none 0 0] 44)
  have s1 : (x1.alloc (.cells #[.int .i64 0, .int .i64 0, .int .i64 0, .int .i64 0, .int .i64 0, .bool false, .slice none 0 0] 44)).heap.size = w.heap.size + 2 := by simp [s0]
  rw [s0] at g1
  obtain ⟨x2, hx2⟩ : ∃ x, x1.alloc (.cells #[.int .i64 0, .int .i64 0, .int .i64 0, .int .i64 0, .int .i64 0, .bool false, .slice none 0 0] 44) = x := ⟨_, rfl⟩
  rw [hx2] at b1 g1 s1
  have HB2 := Hid.mk' (b0.trans (b1.mono b0.size))
  have HGF := Hid.mk' (box_bel g0 b1)
  have HG2 := Hid.mk' g1
  have HS2 := Hid.mk' s1
  have SP := tsplit_any f.p f.cap f.d x2 (hf.bin.below HB2.out) hf.isb (by omega)
  have HRP := Hid.mk' hrp
  have HISB := Hid.mk' hf.isb
  obtain ⟨e0, e1, _⟩ := two_cells HGF.out
  clear hf b0 g0 s0 b1 g1 s1 hrp
  go_enter Tryd.func71, Tryd.ntmps71
  subst hx1
  go_wp2_with fail
  try rw [hx2]
  clear hx2
  refine SP.mono ?_
  clear SP e0 e1
  intro e w3 hsp
  obtain ⟨p, c, L, er, rfl, hown, hb3, hres⟩ := split_one hsp
  have HB3 := Hid.mk' (HB2.out.trans (hb3.mono HB2.out.size))
  have HG3 := Hid.mk' (box_bel HG2.out hb3)
  have HGF3 := Hid.mk' (box_bel HGF.out hb3)
  have HO := Hid.mk' hown
  clear hsp hown hb3 HB2 HG2 HGF
  obtain ⟨e0, e1, _⟩ := two_cells HGF3.out
  by_cases u : f.tag = 7
  case neg =>
    have v1 : (f.tag != 7) = true := by simpa using u
    have HQ := Hid.mk' (HNO.out w3 HB3.out (by rw [HRP.out, if_neg u]))
    have hr := HG3.out
    clear u hres HO HY HNO
    go_wp2_with (refine wpList_store_row rfl 44 (.tmp 2) (.tmp 23) rfl (w.heap.size + 1) #[.int .i64 0, .int .i64 0, .int .i64 0, .int .i64 0, .int .i64 0, .bool false, .slice none 0 0] rfl rfl 44 #[.int .i64 0, .int .i64 0, .int .i64 0, .int .i64 0, .int .i64 0, .bool false, .slice none 0 0] hr (by kernel_rfl) rfl (by simp [Value.oneCell']) ?_; rw [setRow_self _ _ _ _ _ hr])
    obtain ⟨r0, r1, r2, r3, r4, r5, r6⟩ := box_cells (r := zr) hr
    simp only [zr, List.length_nil] at r0 r1 r2 r3 r4 r5 r6
    exact bodyPost_ret (v := .tuple #[.agg #[.int .i64 0, .int .i64 0, .int .i64 0, .int .i64 0, .int .i64 0, .bool false, .slice none 0 0], .bool false]) (by simp [results, Tryd.results71, go_sem, r0, r1, r2, r3, r4, r5, r6]) rfl HQ.out
  case pos =>
    have v1 : (f.tag != 7) = false := by simpa using u
    rw [if_pos u] at HRP
    clear u
    rcases hres with ⟨hsn, rfl, rfl⟩ | ⟨hsy, rfl⟩
    · have HQ := Hid.mk' (HNO.out w3 HB3.out (by rw [HRP.out, hsn]; rfl))
      have hr := HG3.out
      clear hsn HO HY HNO
      go_wp2_with (refine wpList_store_row rfl 44 (.tmp 2) (.tmp 23) rfl (w.heap.size + 1) #[.int .i64 0, .int .i64 0, .int .i64 0, .int .i64 0, .int .i64 0, .bool false, .slice none 0 0] rfl rfl 44 #[.int .i64 0, .int .i64 0, .int .i64 0, .int .i64 0, .int .i64 0, .bool false, .slice none 0 0] hr (by kernel_rfl) rfl (by simp [Value.oneCell']) ?_; rw [setRow_self _ _ _ _ _ hr])
      obtain ⟨r0, r1, r2, r3, r4, r5, r6⟩ := box_cells (r := zr) hr
      simp only [zr, List.length_nil] at r0 r1 r2 r3 r4 r5 r6
      exact bodyPost_ret (v := .tuple #[.agg #[.int .i64 0, .int .i64 0, .int .i64 0, .int .i64 0, .int .i64 0, .bool false, .slice none 0 0], .bool false]) (by simp [results, Tryd.results71, go_sem, r0, r1, r2, r3, r4, r5, r6]) rfl HQ.out
    · obtain ⟨_, jb, jsb⟩ := join_split f.d.length f.d (kys L) (Nat.le_refl _) HISB.out hsy
      have jbl := joinK_len (kys L)
      rw [jb, kys_len] at jbl
      have HKL := Hid.mk' (show L.length ≤ 100000 ∧ szK (kys L) ≤ 100000 by omega)
      have HJS := Hid.mk' jsb
      have HV := Hid.mk' (show recP (ky f) = some (rcV (kys L)) by rw [HRP.out, hsy]; rfl)
      have NB := gnumbers2_any p c L x2.heap.size w3 HO.out (by have h := HB3.out.size; have h3 := HG3.out; have h2 := HS2.out; have h4 := (Array.getElem?_eq_some_iff.1 h3).1; omega)
      have HLE := Hid.mk' HO.out
      clear jb jbl jsb hsy HRP HO HNO e0 e1 hl
      obtain ⟨g, hg⟩ : ∃ g, w3.heap.size = g := ⟨_, rfl⟩
      have HGLT := Hid.mk' (show w.heap.size + 1 < g from by rw [← hg]; exact (Array.getElem?_eq_some_iff.1 HG3.out).1)
      rw [hg] at NB
      have HGE := Hid.mk' hg
      clear hg HLE
      obtain ⟨e0, e1, _⟩ := two_cells HGF3.out
      go_wp2_with fail
      refine NB.mono ?_
      clear NB e0 e1
      rintro e w4 ⟨rfl, hn4, hb4⟩
      rw [← HGE.out] at hb4
      have HN4 := Hid.mk' hn4
      have HG4 := Hid.mk' (box_bel HG3.out hb4)
      have HB4 := Hid.mk' (HB3.out.trans (hb4.mono HB3.out.size))
      have HNE := Hid.mk' (show w.heap.size + 1 ≠ g by have := HGLT.out; omega)
      clear hn4 hb4 HG3 HB3 HGF3
      obtain ⟨K, hK⟩ : ∃ K, kys L = K := ⟨_, rfl⟩
      have HRV := Hid.mk' (show rcV K = (nv 1 2 K 0, nv 2 4 K (nj 1 2 K 0), (nv 3 1 K (nj 2 4 K (nj 1 2 K 0))).tmod 128, (spO (nv 4 1 K (nj 3 1 K (nj 2 4 K (nj 1 2 K 0))))).1, (spO (nv 4 1 K (nj 3 1 K (nj 2 4 K (nj 1 2 K 0))))).2, decide (128 ≤ nv 3 1 K (nj 2 4 K (nj 1 2 K 0))), K.drop (nj 4 1 K (nj 3 1 K (nj 2 4 K (nj 1 2 K 0))))) from rfl)
      have N1 := gnext2_any x2.heap.size g L 0 1 2 2 rfl w4 HN4.out (by omega) (by omega)
      rw [hK] at N1 HV HJS
      have hx0 := nv_range HJS.out 1 2 0
      obtain ⟨z0, hz0⟩ : ∃ z, nv 1 2 K 0 = z := ⟨_, rfl⟩
      obtain ⟨i1, hi1⟩ : ∃ i, nj 1 2 K 0 = i := ⟨_, rfl⟩
      rw [hz0, hi1] at N1 HRV
      rw [hz0] at hx0
      have HKK := Hid.mk' hK
      clear hz0 hi1 hK
      go_wp2_with fail
      refine N1.mono ?_
      clear N1
      rintro e w5 ⟨rfl, hn5, hf5⟩
      have HN5 := Hid.mk' hn5
      have HG5 := Hid.mk' (box_on HG4.out hf5 HNE.out)
      have HB5 := Hid.mk' (HB4.out.trans (hf5.below (fun i q => by have := HGLT.out; omega) HB4.out.size))
      clear hn5 hf5 HN4 HG4 HB4
      have N2 := gnext2_any x2.heap.size g L i1 2 4 4 rfl w5 HN5.out (by omega) (by omega)
      rw [HKK.out] at N2
      have hx1 := nv_range HJS.out 2 4 i1
      obtain ⟨z1, hz1⟩ : ∃ z, nv 2 4 K i1 = z := ⟨_, rfl⟩
      obtain ⟨i2, hi2⟩ : ∃ i, nj 2 4 K i1 = i := ⟨_, rfl⟩
      rw [hz1, hi2] at N2 HRV
      rw [hz1] at hx1
      clear hz1 hi2
      go_wp2_with fail
      refine N2.mono ?_
      clear N2
      rintro e w6 ⟨rfl, hn6, hf6⟩
      have HN6 := Hid.mk' hn6
      have HG6 := Hid.mk' (box_on HG5.out hf6 HNE.out)
      have HB6 := Hid.mk' (HB5.out.trans (hf6.below (fun i q => by have := HGLT.out; omega) HB5.out.size))
      clear hn6 hf6 HN5 HG5 HB5
      have hba := (Below.refl w6.heap.size w6).alloc (Nat.le_refl _) (.cells #[.int .i64 z0, .int .i64 z1, .int .i64 0, .int .i64 0, .int .i64 0, .bool false, .slice none 0 0] 44)
      have HN7 := Hid.mk' (HN6.out.on hba)
      have HG7 := Hid.mk' (box_bel HG6.out hba)
      have HB7 := Hid.mk' (HB6.out.trans (hba.mono HB6.out.size))
      have HX7 := Hid.mk' (heap_alloc_new w6 (.cells #[.int .i64 z0, .int .i64 z1, .int .i64 0, .int .i64 0, .int .i64 0, .bool false, .slice none 0 0] 44))
      have HGB := Hid.mk' (show g < w6.heap.size from HN6.out.lt)
      clear hba HN6 HG6 HB6
      have N3 := Hid.mk' (fun X (h : NSt x2.heap.size X g L i2) => gnext2_any x2.heap.size g L i2 3 1 1 rfl X h (by omega) (by omega))
      rw [HKK.out] at N3
      have hx2 := nv_range HJS.out 3 1 i2
      obtain ⟨z2, hz2⟩ : ∃ z, nv 3 1 K i2 = z := ⟨_, rfl⟩
      obtain ⟨i3, hi3⟩ : ∃ i, nj 3 1 K i2 = i := ⟨_, rfl⟩
      rw [hz2, hi3] at N3 HRV
      rw [hz2] at hx2
      clear hz2 hi3
      go_wp2_with fail
      refine (N3.out _ HN7.out).mono ?_
      rintro e w8 ⟨rfl, hn8, hf8⟩
      obtain ⟨g8, hg8⟩ : ∃ g8, w6.heap.size = g8 := ⟨_, rfl⟩
      rw [hg8] at HX7 HGB ⊢
      have HN8 := Hid.mk' hn8
      have HG8 := Hid.mk' (box_on HG7.out hf8 HNE.out)
      have HX8 := Hid.mk' (box_on HX7.out hf8 (by have := HGB.out; omega))
      have HB8 := Hid.mk' (HB7.out.trans (hf8.below (fun i q => by have := HGLT.out; omega) HB7.out.size))
      clear hn8 hf8 HN7 HG7 HB7 HX7 N3 hg8
      have hx2b : -1 ≤ z2 ∧ z2 ≤ 255 := by have := hx2.2; simp at this; omega
      clear hx2
      obtain ⟨c0, c1, c2, c3, c4, c5, c6⟩ := box_cells (r := ⟨z0, z1, 0, 0, 0, false, none, 0, []⟩) HX8.out
      have fz := fun j => (show w8.frozen? ⟨g8, j, none⟩ = false by simp [World.frozen?, HX8.out])
      have fz2 := fz 2
      have fz5 := fz 5
      clear fz
      go_wp2_with fail
      have hb9 : ((w8.setCell ⟨g8, 2, none⟩ (.int .i64 (z2.tmod 128))).setCell ⟨g8, 5, none⟩ (.bool (decide (128 ≤ z2)))).heap[g8]? = some (.cells #[.int .i64 z0, .int .i64 z1, .int .i64 (z2.tmod 128), .int .i64 0, .int .i64 0, .bool (decide (128 ≤ z2)), .slice none 0 0] 44 (0, 0)) := by simp [World.setCell, Array.getElem?_modify, HX8.out]
      have hl9 : Below g8 w8 ((w8.setCell ⟨g8, 2, none⟩ (.int .i64 (z2.tmod 128))).setCell ⟨g8, 5, none⟩ (.bool (decide (128 ≤ z2)))) := ((Below.refl g8 w8).setCell (p := ⟨g8, 2, none⟩) (Nat.le_refl _) _).setCell (p := ⟨g8, 5, none⟩) (Nat.le_refl _) _
      have HX9 := Hid.mk' hb9
      have HG9 := Hid.mk' ((hl9.block (w.heap.size + 1) (by have := HGLT.out; have := HGB.out; omega)).trans HG8.out)
      have HN9 := Hid.mk' (HN8.out.low (hl9.mono (by have := HGB.out; omega)))
      have HB9 := Hid.mk' (HB8.out.trans (hl9.mono (by have := HGLT.out; have := HGB.out; omega)))
      clear hb9 hl9 HX8 HG8 HN8 HB8 c0 c1 c2 c3 c4 c5 c6 fz2 fz5
      generalize (w8.setCell ⟨g8, 2, none⟩ (.int .i64 (z2.tmod 128))).setCell ⟨g8, 5, none⟩ (.bool (decide (128 ≤ z2))) = w9 at HX9 HG9 HN9 HB9 ⊢
      have N4 := gnext2_any x2.heap.size g L i3 4 1 1 rfl w9 HN9.out (by omega) (by omega)
      rw [HKK.out] at N4
      have hx3 := nv_range HJS.out 4 1 i3
      obtain ⟨z3, hz3⟩ : ∃ z, nv 4 1 K i3 = z := ⟨_, rfl⟩
      obtain ⟨i4, hi4⟩ : ∃ i, nj 4 1 K i3 = i := ⟨_, rfl⟩
      rw [hz3, hi4] at N4 HRV
      rw [hz3] at hx3
      have HX3 := Hid.mk' (show -1 ≤ z3 ∧ z3 ≤ 255 by have := hx3.2; simp at this; omega)
      clear hz3 hi4 hx3
      refine N4.mono ?_
      clear N4
      rintro e w10 ⟨rfl, hn10, hf10⟩
      have HN10 := Hid.mk' hn10
      have HG10 := Hid.mk' (box_on HG9.out hf10 HNE.out)
      have HX10 := Hid.mk' (box_on HX9.out hf10 (by have := HGB.out; omega))
      have HB10 := Hid.mk' (HB9.out.trans (hf10.below (fun i q => by have := HGLT.out; omega) HB9.out.size))
      clear hn10 hf10 HN9 HG9 HB9 HX9
      go_wp2_with fail
      refine (gof_any z3 w10 (wf_m1 HX3.out.1 (by have := HX3.out.2; omega))).mono ?_
      rintro e w11 ⟨tb, rfl, hb11⟩
      have HN11 := Hid.mk' (HN10.out.on hb11)
      have HG11 := Hid.mk' (box_bel HG10.out hb11)
      have HX11 := Hid.mk' (box_bel HX10.out hb11)
      have HB11 := Hid.mk' (HB10.out.trans (hb11.mono HB10.out.size))
      clear hb11 HN10 HG10 HX10 HB10
      have HSR := Hid.mk' (spO_range z3)
      obtain ⟨y1, hy1⟩ : ∃ y, (spO z3).1 = y := ⟨_, rfl⟩
      obtain ⟨y2, hy2⟩ : ∃ y, (spO z3).2 = y := ⟨_, rfl⟩
      rw [hy1, hy2] at HRV HSR ⊢
      clear hy1 hy2
      obtain ⟨c0, c1, c2, c3, c4, c5, c6⟩ := box_cells (r := ⟨z0, z1, z2.tmod 128, 0, 0, decide (128 ≤ z2), none, 0, []⟩) HX11.out
      have fz := fun j => (show w11.frozen? ⟨g8, j, none⟩ = false by simp [World.frozen?, HX11.out])
      have fz3 := fz 3
      have fz4 := fz 4
      clear fz
      go_wp2_with fail
      have hb12 : ((w11.setCell ⟨g8, 3, none⟩ (.int .i64 y1)).setCell ⟨g8, 4, none⟩ (.int .i64 y2)).heap[g8]? = some (.cells #[.int .i64 z0, .int .i64 z1, .int .i64 (z2.tmod 128), .int .i64 y1, .int .i64 y2, .bool (decide (128 ≤ z2)), .slice none 0 0] 44 (0, 0)) := by simp [World.setCell, Array.getElem?_modify, HX11.out]
      have hl12 : Below g8 w11 ((w11.setCell ⟨g8, 3, none⟩ (.int .i64 y1)).setCell ⟨g8, 4, none⟩ (.int .i64 y2)) := ((Below.refl g8 w11).setCell (p := ⟨g8, 3, none⟩) (Nat.le_refl _) _).setCell (p := ⟨g8, 4, none⟩) (Nat.le_refl _) _
      have HX12 := Hid.mk' hb12
      have HG12 := Hid.mk' ((hl12.block (w.heap.size + 1) (by have := HGLT.out; have := HGB.out; omega)).trans HG11.out)
      have HN12 := Hid.mk' (HN11.out.low (hl12.mono (by have := HGB.out; omega)))
      have HB12 := Hid.mk' (HB11.out.trans (hl12.mono (by have := HGLT.out; have := HGB.out; omega)))
      clear hb12 hl12 HX11 HG11 HN11 HB11 c0 c1 c2 c3 c4 c5 c6 fz3 fz4
      generalize (w11.setCell ⟨g8, 3, none⟩ (.int .i64 y1)).setCell ⟨g8, 4, none⟩ (.int .i64 y2) = w12 at HX12 HG12 HN12 HB12 ⊢
      obtain ⟨p9, c9, hcg, hfin9, hlc9, hcm9, hp9, hbk9⟩ := HN12.out.cell
      have RT := grest2_any g p9 (L.length - i4) c9 w12 (cellS1 hcg).1
      have HFIN := Hid.mk' hfin9
      have HLC := Hid.mk' (And.intro hlc9 (And.intro hcm9 (And.intro hp9 hbk9)))
      clear hcg hfin9 hlc9 hcm9 hp9 hbk9
      refine RT.mono ?_
      clear RT
      rintro e w13 ⟨rfl, rfl⟩
      obtain ⟨c0, c1, c2, c3, c4, c5, c6⟩ := box_cells (r := ⟨z0, z1, z2.tmod 128, y1, y2, decide (128 ≤ z2), none, 0, []⟩) HX12.out
      have fz6 : w12.frozen? ⟨g8, 6, none⟩ = false := by simp [World.frozen?, HX12.out]
      have hl13 : Below g8 w12 (w12.setCell ⟨g8, 6, none⟩ (.slice p9 (L.length - i4) c9)) := (Below.refl g8 w12).setCell (p := ⟨g8, 6, none⟩) (Nat.le_refl _) _
      have HRES := Hid.mk' ((hl13.block (w.heap.size + 1) (by have := HGLT.out; have := HGB.out; omega)).trans HG12.out)
      have HN13 := Hid.mk' (HN12.out.low (hl13.mono (by have := HGB.out; omega)))
      have HB13 := Hid.mk' (HB12.out.trans (hl13.mono (by have := HGLT.out; have := HGB.out; omega)))
      have HFIN13 := Hid.mk' (HFIN.out.lowN (N := g8) hl13 (fun hl a ha => by have h1 := (HLC.out.2.2.2 (by simpa using hl) a ha).2; have h2 := HGB.out; omega) (fun f2 hf hl a ha => by have h1 := (HN12.out.mem f2 (List.mem_of_mem_drop hf) hl a ha).2; have h2 := HGB.out; omega))
      clear hl13 HN12 HB12 HFIN HG12
      go_wp2_with (refine wpList_store_row rfl 44 (.tmp 2) (.tmp 52) rfl (w.heap.size + 1) #[.int .i64 z0, .int .i64 z1, .int .i64 (z2.tmod 128), .int .i64 y1, .int .i64 y2, .bool (decide (128 ≤ z2)), .slice p9 (L.length - i4) c9] rfl rfl 44 #[.int .i64 0, .int .i64 0, .int .i64 0, .int .i64 0, .int .i64 0, .bool false, .slice none 0 0] HRES.out (by kernel_rfl) rfl (by simp [Value.oneCell']) ?_)
      generalize w12.setCell ⟨g8, 6, none⟩ (.slice p9 (L.length - i4) c9) = w13 at HRES HN13 HB13 HFIN13 ⊢
      clear c0 c1 c2 c3 c4 c5 c6 fz6 HX12
      have HS3 := Hid.mk' (setRow_heap _ _ _ #[.int .i64 z0, .int .i64 z1, .int .i64 (z2.tmod 128), .int .i64 y1, .int .i64 y2, .bool (decide (128 ≤ z2)), .slice p9 (L.length - i4) c9] _ _ HRES.out)
      have hfs := fr_setRow w13 (w.heap.size + 1) #[.int .i64 z0, .int .i64 z1, .int .i64 (z2.tmod 128), .int .i64 y1, .int .i64 y2, .bool (decide (128 ≤ z2)), .slice p9 (L.length - i4) c9]
      have hle := HN13.out.le
      have hs2 := HS2.out
      have hln : (L.drop i4).length = L.length - i4 := List.length_drop
      obtain ⟨q1, q2, q3, q4⟩ := HLC.out
      have hkd : kys (L.drop i4) = K.drop i4 := by rw [← HKK.out]; simp [kys]
      obtain ⟨k1, k2⟩ := HKL.out
      have hszd := sz_drop_le L i4
      obtain ⟨⟨y1a, y1b⟩, y2a, y2b⟩ := HSR.out
      have hz2m : -1 ≤ z2.tmod 128 ∧ z2.tmod 128 ≤ 127 := by
        by_cases q : z2 = -1
        · subst q; decide
        · rw [Int.tmod_eq_emod_of_nonneg (by omega)]; omega
      have hx0' := hx0.2
      have hx1' := hx1.2
      have hrok : ROk (w13.setRow (w.heap.size + 1) #[.int .i64 z0, .int .i64 z1, .int .i64 (z2.tmod 128), .int .i64 y1, .int .i64 y2, .bool (decide (128 ≤ z2)), .slice p9 (L.length - i4) c9]) ⟨z0, z1, z2.tmod 128, y1, y2, decide (128 ≤ z2), p9, c9, L.drop i4⟩ :=
        ⟨wf_m1 (z := z0) hx0.1 (by omega), wf_m1 (z := z1) hx1.1 (by omega), wf_m1 (z := z2.tmod 128) hz2m.1 (by omega), wf_m1 (z := y1) (by omega) (by omega), wf_m1 (z := y2) (by omega) (by omega), by rw [hln]; exact q1, q2, q3, HFIN13.out.frS hfs (fun hl a ha z => by have h1 := (q4 (by rw [← hln]; exact hl) a ha).1; omega) (fun f2 hf hl a ha z => by have h1 := (HN13.out.mem f2 (List.mem_of_mem_drop hf) hl a ha).1; omega), by simp only [hln]; omega⟩
      have HQ := HY.out _ _ hrok (fun i hi => by
        rcases hi with ⟨h0, a, ha, rfl⟩ | ⟨f2, hf, hl, a, ha, rfl⟩
        · have h1 := (q4 (by rw [← hln]; exact h0) a ha).1; omega
        · have h1 := (HN13.out.mem f2 (List.mem_of_mem_drop hf) hl a ha).1; omega) (by show szK (kys (L.drop i4)) ≤ _; omega) (HB13.out.trans (below_setRow (Below.refl _ _) (by omega) _)) (by rw [HV.out, HRV.out, ← hkd]; rfl)
      simp only [hln] at HQ
      obtain ⟨r0, r1, r2, r3, r4, r5, r6⟩ := box_cells (r := ⟨z0, z1, z2.tmod 128, y1, y2, decide (128 ≤ z2), p9, c9, L.drop i4⟩) (by simp only [hln]; exact HS3.out)
      simp only [hln] at r6
      exact bodyPost_ret (v := .tuple #[.agg #[.int .i64 z0, .int .i64 z1, .int .i64 (z2.tmod 128), .int .i64 y1, .int .i64 y2, .bool (decide (128 ≤ z2)), .slice p9 (L.length - i4) c9], .bool true]) (by simp [results, Tryd.results71, go_sem, r0, r1, r2, r3, r4, r5, r6]) rfl HQ
end Go.Proofs.YtmejfkhikgcgmaaDoor
namespace Go.Proofs.YtmejfkhikgcgmaaDoor
open Go.RowKit
set_option linter.unusedSimpArgs false
set_option linter.unusedVariables false
set_option maxRecDepth 10000
set_option synthInstance.maxSize 2000

/-- What readHead answers. -/
def Head2P (B g : Nat) (L : List Fd) (w : World) (e : Ending) (w' : World) : Prop :=
  e = .returned (.agg #[.int .i64 (h2k (kys L)), .int .i64 (h2f (kys L)), .int .i64 (h2n (kys L)), .int .i64 (spO (h2c (kys L))).1, .int .i64 (spO (h2c (kys L))).2, .int .i64 (h2q (kys L)), .int .i64 (h2t (kys L)), .int .i64 0, .int .i64 0, .int .i64 0, .slice none 0 0]) ∧ NSt B w' g L (h2i6 (kys L)) ∧ Fr (fun j => j = g) w w'

set_option maxHeartbeats 8000000 in
theorem greadHead_any (B g : Nat) (L : List Fd) (w : World) (h : NSt B w g L 0) (hb : ∀ x ∈ kys L, isB x.2) (hK : ∀ X, Fr (fun j => j = g) w X → Kd X) :
    Calls Tryd.prog 48 #[numF g] w fun e w' => Head2P B g L w e w' := by
  obtain ⟨K, hKK⟩ : ∃ K, kys L = K := ⟨_, rfl⟩
  have HKK := Hid.mk' hKK
  rw [hKK] at hb
  have HP := Hid.mk' (show ∀ v0 v1 v2 v3 v4 v5 v6 w', v0 = h2k K → v1 = h2f K → v2 = h2n K → v3 = (spO (h2c K)).1 → v4 = (spO (h2c K)).2 → v5 = h2q K → v6 = h2t K → NSt B w' g L (h2i6 K) → Fr (fun j => j = g) w w' → Head2P B g L w (.returned (.agg #[.int .i64 v0, .int .i64 v1, .int .i64 v2, .int .i64 v3, .int .i64 v4, .int .i64 v5, .int .i64 v6, .int .i64 0, .int .i64 0, .int .i64 0, .slice none 0 0])) w' from
    fun v0 v1 v2 v3 v4 v5 v6 w' q0 q1 q2 q3 q4 q5 q6 q7 q8 => by subst hKK q0 q1 q2 q3 q4 q5 q6; exact ⟨rfl, q7, q8⟩)
  generalize Head2P B g L w = Post at HP ⊢
  have HKD := Hid.mk' hK
  have HI1 := Hid.mk' (show h2i1 K = nj 1 1 K 0 from rfl)
  have HI2 := Hid.mk' (show h2i2 K = nj 2 2 K (h2i1 K) from rfl)
  have HI3 := Hid.mk' (show h2i3 K = nj 3 6 K (h2i2 K) from rfl)
  have HI4 := Hid.mk' (show h2i4 K = nj 4 1 K (h2i3 K) from rfl)
  have HI5 := Hid.mk' (show h2i5 K = if hasB (h2k K) 0 = true then nj 5 2 K (h2i4 K) else h2i4 K from rfl)
  have HI6 := Hid.mk' (show h2i6 K = if hasB (h2k K) 1 = true then nj 6 2 K (h2i5 K) else h2i5 K from rfl)
  have HV5 := Hid.mk' (show h2q K = if hasB (h2k K) 0 = true then nv 5 2 K (h2i4 K) else 0 from rfl)
  have HV6 := Hid.mk' (show h2t K = if hasB (h2k K) 1 = true then nv 6 2 K (h2i5 K) else 0 from rfl)
  have hx3 := nv_range hb 4 1 (h2i3 K)
  have HX3 := Hid.mk' (show -1 ≤ h2c K ∧ h2c K ≤ 255 by have h1 : -1 ≤ h2c K := hx3.1; have h2 : h2c K < 256 ^ 1 := hx3.2; simp at h2; omega)
  have HNUM := Hid.mk' (fun X i (q : NSt B X g L i) (t : Int) (n : Nat) (k : Int) (hk : k = n) (h1 : 1 ≤ n) (h7 : n ≤ 7) => gnext2_any B g L i t n k hk X q h1 h7)
  simp only [hKK] at HNUM
  have B1 := (Below.refl w.heap.size w).alloc (Nat.le_refl _) (.cells #[.int .i64 0, .int .i64 0, .int .i64 0, .int .i64 0, .int .i64 0, .int .i64 0, .int .i64 0, .int .i64 0, .int .i64 0, .int .i64 0, .slice none 0 0] 26)
  have HG0 := Hid.mk' (heap_alloc_new w (.cells #[.int .i64 0, .int .i64 0, .int .i64 0, .int .i64 0, .int .i64 0, .int .i64 0, .int .i64 0, .int .i64 0, .int .i64 0, .int .i64 0, .slice none 0 0] 26))
  have HN0 := Hid.mk' (h.on B1)
  have HF0 := Hid.mk' (Fr.of_below B1 fun i => i = g)
  have HGL := Hid.mk' (show g < w.heap.size from h.lt)
  have HNE := Hid.mk' (show w.heap.size ≠ g by have := h.lt; omega)
  obtain ⟨z0, hz0⟩ : ∃ z, h2k K = z := ⟨_, rfl⟩
  obtain ⟨z1, hz1⟩ : ∃ z, h2f K = z := ⟨_, rfl⟩
  obtain ⟨z2, hz2⟩ : ∃ z, h2n K = z := ⟨_, rfl⟩
  obtain ⟨z3, hz3⟩ : ∃ z, h2c K = z := ⟨_, rfl⟩
  have N1 := HNUM.out _ _ HN0.out 1 1 1 rfl (by omega) (by omega)
  rw [show nv 1 1 K 0 = h2k K from rfl, show nj 1 1 K 0 = h2i1 K from rfl, hz0] at N1
  have N2 := Hid.mk' (fun X (q : NSt B X g L (h2i1 K)) => HNUM.out X _ q 2 2 2 rfl (by omega) (by omega))
  rw [show nv 2 2 K (h2i1 K) = h2f K from rfl, show nj 2 2 K (h2i1 K) = h2i2 K from rfl, hz1] at N2
  have N3 := Hid.mk' (fun X (q : NSt B X g L (h2i2 K)) => HNUM.out X _ q 3 6 6 rfl (by omega) (by omega))
  rw [show nv 3 6 K (h2i2 K) = h2n K from rfl, show nj 3 6 K (h2i2 K) = h2i3 K from rfl, hz2] at N3
  have N4 := Hid.mk' (fun X (q : NSt B X g L (h2i3 K)) => HNUM.out X _ q 4 1 1 rfl (by omega) (by omega))
  rw [show nv 4 1 K (h2i3 K) = h2c K from rfl, show nj 4 1 K (h2i3 K) = h2i4 K from rfl, hz3] at N4
  have N5 := Hid.mk' (fun X (q : NSt B X g L (h2i4 K)) => HNUM.out X _ q 5 2 2 rfl (by omega) (by omega))
  have N6 := Hid.mk' (fun X (q : NSt B X g L (h2i5 K)) => HNUM.out X _ q 6 2 2 rfl (by omega) (by omega))
  rw [hz0] at HI5 HI6 HV5 HV6
  rw [hz0, hz1, hz2, hz3] at HP
  rw [hz3] at HX3
  obtain ⟨h0, hh0⟩ : ∃ h, hasB z0 0 = h := ⟨_, rfl⟩
  obtain ⟨h1, hh1⟩ : ∃ h, hasB z0 1 = h := ⟨_, rfl⟩
  have M0 := Hid.mk' (show ∀ X, Kd X → Calls Tryd.prog 26 #[.int .i64 z0, .int .i64 0] X fun e w' => e = .returned (.bool h0) ∧ X = w' from fun X h => by
    have := mhas_any z0 0 X h; rw [hasM_01 _ _ (.inl rfl), hh0] at this; exact this)
  have M1 := Hid.mk' (show ∀ X, Kd X → Calls Tryd.prog 26 #[.int .i64 z0, .int .i64 1] X fun e w' => e = .returned (.bool h1) ∧ X = w' from fun X h => by
    have := mhas_any z0 1 X h; rw [hasM_01 _ _ (.inr rfl), hh1] at this; exact this)
  rw [hh0] at HI5 HV5
  rw [hh1] at HI6 HV6
  generalize h2i1 K = i1 at N1 N2 HI1 HI2
  generalize h2i2 K = i2 at N2 N3 HI2 HI3
  generalize h2i3 K = i3 at N3 N4 HI3 HI4 hx3
  generalize h2i4 K = i4 at N4 N5 HI4 HI5 HV5
  generalize h2i5 K = i5 at N6 HI5 HI6 HV6
  generalize h2i6 K = i6 at HI6 HP
  generalize h2q K = vq at HV5 HP
  generalize h2t K = vt at HV6 HP
  clear h hb hK hKK hz0 hz1 hz2 hz3 hh0 hh1 HNUM HI1 HI2 HI3 HI4 hx3 B1 HKK
  go_enter Tryd.func48, Tryd.ntmps48
  go_wp2_with fail
  refine N1.mono ?_
  clear N1
  rintro e w1 ⟨rfl, hn1, hf1⟩
  have HN1 := Hid.mk' hn1
  have HG1 := Hid.mk' (box_on HG0.out hf1 HNE.out)
  have HF1 := Hid.mk' (fr_on HF0.out hf1)
  clear hn1 hf1 HN0 HG0 HF0
  go_wp2_with fail
  refine (N2.out _ HN1.out).mono ?_
  rintro e w2 ⟨rfl, hn2, hf2⟩
  have HN2 := Hid.mk' hn2
  have HG2 := Hid.mk' (box_on HG1.out hf2 HNE.out)
  have HF2 := Hid.mk' (fr_on HF1.out hf2)
  clear hn2 hf2 HN1 HG1 HF1 N2
  go_wp2_with fail
  refine (N3.out _ HN2.out).mono ?_
  rintro e w3 ⟨rfl, hn3, hf3⟩
  have HN3 := Hid.mk' hn3
  have HG3 := Hid.mk' (box_on HG2.out hf3 HNE.out)
  have HF3 := Hid.mk' (fr_on HF2.out hf3)
  clear hn3 hf3 HN2 HG2 HF2 N3
  have hba := (Below.refl w3.heap.size w3).alloc (Nat.le_refl _) (.cells #[.int .i64 z0, .int .i64 z1, .int .i64 z2, .int .i64 0, .int .i64 0, .int .i64 0, .int .i64 0, .int .i64 0, .int .i64 0, .int .i64 0, .slice none 0 0] 26)
  have HN4 := Hid.mk' (HN3.out.on hba)
  have HG4 := Hid.mk' (box_bel HG3.out hba)
  have HF4 := Hid.mk' (fr_bel HF3.out hba)
  have HX4 := Hid.mk' (heap_alloc_new w3 (.cells #[.int .i64 z0, .int .i64 z1, .int .i64 z2, .int .i64 0, .int .i64 0, .int .i64 0, .int .i64 0, .int .i64 0, .int .i64 0, .int .i64 0, .slice none 0 0] 26))
  have HG8 := Hid.mk' (show g < w3.heap.size ∧ w.heap.size < w3.heap.size from ⟨HN3.out.lt, box_lt HG3.out⟩)
  clear hba HN3 HG3 HF3
  go_wp2_with fail
  refine (N4.out _ HN4.out).mono ?_
  rintro e w5 ⟨rfl, hn5, hf5⟩
  obtain ⟨g8, hg8⟩ : ∃ g8, w3.heap.size = g8 := ⟨_, rfl⟩
  rw [hg8] at HX4 HG8 ⊢
  have HN5 := Hid.mk' hn5
  have HG5 := Hid.mk' (box_on HG4.out hf5 HNE.out)
  have HX5 := Hid.mk' (box_on HX4.out hf5 (by have := HG8.out; omega))
  have HF5 := Hid.mk' (fr_on HF4.out hf5)
  clear hn5 hf5 HN4 HG4 HX4 HF4 N4 hg8
  go_wp2_with fail
  refine (gof_any z3 w5 (wf_m1 HX3.out.1 (by have := HX3.out.2; omega))).mono ?_
  rintro e w6 ⟨tb, rfl, hb6⟩
  have HN6 := Hid.mk' (HN5.out.on hb6)
  have HG6 := Hid.mk' (box_bel HG5.out hb6)
  have HX6 := Hid.mk' (box_bel HX5.out hb6)
  have HF6 := Hid.mk' (fr_bel HF5.out hb6)
  clear hb6 HN5 HG5 HX5 HF5
  obtain ⟨y1, hy1⟩ : ∃ y, (spO z3).1 = y := ⟨_, rfl⟩
  obtain ⟨y2, hy2⟩ : ∃ y, (spO z3).2 = y := ⟨_, rfl⟩
  rw [hy1, hy2] at HP ⊢
  clear hy1 hy2
  obtain ⟨c0, c1, c2, c3, c4, c5, c6, c7, c8, c9, c10⟩ := mbox_cells (m := ⟨z0, z1, z2, 0, 0, 0, 0, 0, 0, 0, none, 0, []⟩) HX6.out
  have fz := fun j => (show w6.frozen? ⟨g8, j, none⟩ = false by simp [World.frozen?, HX6.out])
  have fz3 := fz 3
  have fz4 := fz 4
  clear fz
  go_wp2_with fail
  have hb7 : ((w6.setCell ⟨g8, 3, none⟩ (.int .i64 y1)).setCell ⟨g8, 4, none⟩ (.int .i64 y2)).heap[g8]? = some (.cells #[.int .i64 z0, .int .i64 z1, .int .i64 z2, .int .i64 y1, .int .i64 y2, .int .i64 0, .int .i64 0, .int .i64 0, .int .i64 0, .int .i64 0, .slice none 0 0] 26 (0, 0)) := by simp [World.setCell, Array.getElem?_modify, HX6.out]
  have hl7 : Below g8 w6 ((w6.setCell ⟨g8, 3, none⟩ (.int .i64 y1)).setCell ⟨g8, 4, none⟩ (.int .i64 y2)) := ((Below.refl g8 w6).setCell (p := ⟨g8, 3, none⟩) (Nat.le_refl _) _).setCell (p := ⟨g8, 4, none⟩) (Nat.le_refl _) _
  have HX7 := Hid.mk' hb7
  have HG7 := Hid.mk' ((hl7.block w.heap.size HG8.out.2).trans HG6.out)
  have HN7 := Hid.mk' (HN6.out.low (hl7.mono (by have := HG8.out.1; omega)))
  have HF7 := Hid.mk' (fr_bel0 HF6.out (hl7.mono (Nat.le_of_lt HG8.out.2)))
  clear hb7 hl7 HX6 HG6 HN6 HF6 c0 c1 c2 c3 c4 c5 c6 c7 c8 c9 c10 fz3 fz4
  generalize (w6.setCell ⟨g8, 3, none⟩ (.int .i64 y1)).setCell ⟨g8, 4, none⟩ (.int .i64 y2) = w7 at HX7 HG7 HN7 HF7 ⊢
  refine (M0.out w7 (HKD.out w7 HF7.out)).mono ?_
  rintro e wq1 ⟨rfl, rfl⟩
  go_upto_if 20 with fail
  go_cut [3] (fun t wx => t = .pointer (some ⟨g8, 0, none⟩) ∧ Hid (NSt B wx g L i5) ∧ Hid (wx.heap[g8]? = some (.cells #[.int .i64 z0, .int .i64 z1, .int .i64 z2, .int .i64 y1, .int .i64 y2, .int .i64 vq, .int .i64 0, .int .i64 0, .int .i64 0, .int .i64 0, .slice none 0 0] 26 (0, 0))) ∧ Hid (wx.heap[w.heap.size]? = some (.cells #[.int .i64 0, .int .i64 0, .int .i64 0, .int .i64 0, .int .i64 0, .int .i64 0, .int .i64 0, .int .i64 0, .int .i64 0, .int .i64 0, .slice none 0 0] 26 (0, 0))) ∧ Hid (Fr (fun j => j = g) w wx))
  case first =>
    cases h0
    · rw [if_neg (by simp)] at HI5 HV5
      go_wp2_with fail
      go_meet
      exact ⟨rfl, by rw [HI5.out]; exact HN7, by rw [HV5.out]; exact HX7, HG7, HF7⟩
    · rw [if_pos rfl] at HI5 HV5
      have NX := N5.out w7 HN7.out
      rw [← HI5.out, ← HV5.out] at NX
      go_wp2_with fail
      refine NX.mono ?_
      clear NX
      rintro e wr1 ⟨rfl, hn, hf⟩
      have HNa := Hid.mk' hn
      have HGa := Hid.mk' (box_on HG7.out hf HNE.out)
      have HXa := Hid.mk' (box_on HX7.out hf (by have := HG8.out; omega))
      have HFa := Hid.mk' (fr_on HF7.out hf)
      clear hn hf HN7 HG7 HX7 HF7
      have fza : wr1.frozen? ⟨g8, 5, none⟩ = false := by simp [World.frozen?, HXa.out]
      have cza : wr1.cell? ⟨g8, 5, none⟩ = some (.int .i64 0) := by simp [World.cell?, HXa.out]
      have hbs : (wr1.setCell ⟨g8, 5, none⟩ (.int .i64 vq)).heap[g8]? = some (.cells #[.int .i64 z0, .int .i64 z1, .int .i64 z2, .int .i64 y1, .int .i64 y2, .int .i64 vq, .int .i64 0, .int .i64 0, .int .i64 0, .int .i64 0, .slice none 0 0] 26 (0, 0)) := by simp [World.setCell, Array.getElem?_modify, HXa.out]
      have hls : Below g8 wr1 (wr1.setCell ⟨g8, 5, none⟩ (.int .i64 vq)) := (Below.refl g8 wr1).setCell (p := ⟨g8, 5, none⟩) (Nat.le_refl _) _
      have HXb := Hid.mk' hbs
      have HGb := Hid.mk' ((hls.block w.heap.size HG8.out.2).trans HGa.out)
      have HNb := Hid.mk' (HNa.out.low (hls.mono (by have := HG8.out.1; omega)))
      have HFb := Hid.mk' (fr_bel0 HFa.out (hls.mono (Nat.le_of_lt HG8.out.2)))
      clear hbs hls HXa HGa HNa HFa
      go_wp2_with fail
      go_meet
      exact ⟨rfl, HNb, HXb, HGb, HFb⟩
  case rest =>
  obtain ⟨rfl, HN9, HX9, HG9, HF9⟩ := hcut
  clear HX7 HG7 HN7 HF7 M0 N5 HI5 HV5
  obtain ⟨c0, c1, c2, c3, c4, c5, c6, c7, c8, c9, c10⟩ := mbox_cells (m := ⟨z0, z1, z2, y1, y2, vq, 0, 0, 0, 0, none, 0, []⟩) HX9.out
  go_wp2_with fail
  clear c0 c1 c2 c3 c4 c5 c6 c7 c8 c9 c10
  refine (M1.out wc (HKD.out wc HF9.out)).mono ?_
  rintro e wq2 ⟨rfl, rfl⟩
  go_upto_if 26 with fail
  go_cut [3] (fun t wx => t = .pointer (some ⟨g8, 0, none⟩) ∧ Hid (NSt B wx g L i6) ∧ Hid (wx.heap[g8]? = some (.cells #[.int .i64 z0, .int .i64 z1, .int .i64 z2, .int .i64 y1, .int .i64 y2, .int .i64 vq, .int .i64 vt, .int .i64 0, .int .i64 0, .int .i64 0, .slice none 0 0] 26 (0, 0))) ∧ Hid (wx.heap[w.heap.size]? = some (.cells #[.int .i64 0, .int .i64 0, .int .i64 0, .int .i64 0, .int .i64 0, .int .i64 0, .int .i64 0, .int .i64 0, .int .i64 0, .int .i64 0, .slice none 0 0] 26 (0, 0))) ∧ Hid (Fr (fun j => j = g) w wx))
  case first =>
    cases h1
    · rw [if_neg (by simp)] at HI6 HV6
      go_wp2_with fail
      go_meet
      exact ⟨rfl, by rw [HI6.out]; exact HN9, by rw [HV6.out]; exact HX9, HG9, HF9⟩
    · rw [if_pos rfl] at HI6 HV6
      have NX := N6.out wc HN9.out
      rw [← HI6.out, ← HV6.out] at NX
      go_wp2_with fail
      refine NX.mono ?_
      clear NX
      rintro e wr2 ⟨rfl, hn, hf⟩
      have HNa := Hid.mk' hn
      have HGa := Hid.mk' (box_on HG9.out hf HNE.out)
      have HXa := Hid.mk' (box_on HX9.out hf (by have := HG8.out; omega))
      have HFa := Hid.mk' (fr_on HF9.out hf)
      clear hn hf HN9 HG9 HX9 HF9
      have fza : wr2.frozen? ⟨g8, 6, none⟩ = false := by simp [World.frozen?, HXa.out]
      have cza : wr2.cell? ⟨g8, 6, none⟩ = some (.int .i64 0) := by simp [World.cell?, HXa.out]
      have hbs : (wr2.setCell ⟨g8, 6, none⟩ (.int .i64 vt)).heap[g8]? = some (.cells #[.int .i64 z0, .int .i64 z1, .int .i64 z2, .int .i64 y1, .int .i64 y2, .int .i64 vq, .int .i64 vt, .int .i64 0, .int .i64 0, .int .i64 0, .slice none 0 0] 26 (0, 0)) := by simp [World.setCell, Array.getElem?_modify, HXa.out]
      have hls : Below g8 wr2 (wr2.setCell ⟨g8, 6, none⟩ (.int .i64 vt)) := (Below.refl g8 wr2).setCell (p := ⟨g8, 6, none⟩) (Nat.le_refl _) _
      have HXb := Hid.mk' hbs
      have HGb := Hid.mk' ((hls.block w.heap.size HG8.out.2).trans HGa.out)
      have HNb := Hid.mk' (HNa.out.low (hls.mono (by have := HG8.out.1; omega)))
      have HFb := Hid.mk' (fr_bel0 HFa.out (hls.mono (Nat.le_of_lt HG8.out.2)))
      clear hbs hls HXa HGa HNa HFa
      go_wp2_with fail
      go_meet
      exact ⟨rfl, HNb, HXb, HGb, HFb⟩
  case rest =>
  obtain ⟨rfl, HN10, HX10, HG10, HF10⟩ := hcut
  clear HX9 HG9 HN9 HF9 M1 N6 HI6 HV6
  obtain ⟨c0, c1, c2, c3, c4, c5, c6, c7, c8, c9, c10⟩ := mbox_cells (m := ⟨z0, z1, z2, y1, y2, vq, vt, 0, 0, 0, none, 0, []⟩) HX10.out
  simp only [List.length_nil] at c10
  go_wp2_with (refine wpList_store_row rfl 26 (.tmp 2) (.tmp 30) rfl w.heap.size #[.int .i64 z0, .int .i64 z1, .int .i64 z2, .int .i64 y1, .int .i64 y2, .int .i64 vq, .int .i64 vt, .int .i64 0, .int .i64 0, .int .i64 0, .slice none 0 0] rfl rfl 26 #[.int .i64 0, .int .i64 0, .int .i64 0, .int .i64 0, .int .i64 0, .int .i64 0, .int .i64 0, .int .i64 0, .int .i64 0, .int .i64 0, .slice none 0 0] HG10.out (by kernel_rfl) rfl (by simp [Value.oneCell']) ?_)
  obtain ⟨r0, r1, r2, r3, r4, r5, r6, r7, r8, r9, r10⟩ := mbox_cells (m := ⟨z0, z1, z2, y1, y2, vq, vt, 0, 0, 0, none, 0, []⟩) (setRow_heap _ _ _ #[.int .i64 z0, .int .i64 z1, .int .i64 z2, .int .i64 y1, .int .i64 y2, .int .i64 vq, .int .i64 vt, .int .i64 0, .int .i64 0, .int .i64 0, .slice none 0 0] _ _ HG10.out)
  simp only [List.length_nil] at r10
  exact bodyPost_ret (v := .agg #[.int .i64 z0, .int .i64 z1, .int .i64 z2, .int .i64 y1, .int .i64 y2, .int .i64 vq, .int .i64 vt, .int .i64 0, .int .i64 0, .int .i64 0, .slice none 0 0]) (by simp [results, Tryd.results48, go_sem, r0, r1, r2, r3, r4, r5, r6, r7, r8, r9, r10]) rfl (HP.out _ _ _ _ _ _ _ _ rfl rfl rfl rfl rfl rfl rfl (HN10.out.low (below_setRow (Below.refl _ _) (by have := HGL.out; omega) _)) (fr_bel0 HF10.out (below_setRow (Below.refl _ _) (Nat.le_refl _) _)))
end Go.Proofs.YtmejfkhikgcgmaaDoor
namespace Go.Proofs.YtmejfkhikgcgmaaDoor
open Go.RowKit
set_option linter.unusedSimpArgs false
set_option linter.unusedVariables false
set_option maxRecDepth 10000
set_option synthInstance.maxSize 2000

/-- What readRecords answers. -/
def RecsQP (w : World) (l : List Key) (e : Ending) (w' : World) : Prop :=
  ∃ p c, ∃ R : List Rc, ∃ ok : Bool, e = .returned (.tuple #[.slice p R.length c, .bool ok]) ∧ OwnB w.heap.size w' (.slice p R.length c) R ∧ (∀ r ∈ R, (∀ i, RMem r i → w.heap.size ≤ i) ∧ szK (kys r.bag) ≤ 4611686018427387904) ∧ Below w.heap.size w w' ∧ ((ok = true ∧ recsP l = some (rks R)) ∨ (ok = false ∧ recsP l = none))

theorem recsP_step {L : List Fd} {k : Nat} (h : k < L.length) : kys (L.drop k) = ky (L.getD k zf) :: kys (L.drop (k + 1)) := by
  rw [drop_next L k h]; rfl

set_option maxHeartbeats 8000000 in
theorem greadRecs_any (p : Option Addr) (c : Nat) (L : List Fd) (w : World) (hp : FIn w p L) (hn : L.length ≤ 100000) (hd : ∀ f ∈ L, f.d.length ≤ 100000) :
    Calls Tryd.prog 49 #[.slice p L.length c] w fun e w' => RecsQP w (kys L) e w' := by
  have HNO := Hid.mk' (show ∀ w', Below w.heap.size w w' → recsP (kys L) = none → RecsQP w (kys L) (.returned (.tuple #[.slice none 0 0, .bool false])) w' from fun w' h1 h2 => ⟨none, 0, [], false, rfl, OwnB.nil _ _, by simp, h1, .inr ⟨rfl, h2⟩⟩)
  have HY := Hid.mk' (show ∀ p c (R : List Rc) w', OwnB w.heap.size w' (.slice p R.length c) R → (∀ r ∈ R, (∀ i, RMem r i → w.heap.size ≤ i) ∧ szK (kys r.bag) ≤ 4611686018427387904) → Below w.heap.size w w' → recsP (kys L) = some (rks R) → RecsQP w (kys L) (.returned (.tuple #[.slice p R.length c, .bool true])) w' from fun p c R w' h1 h2 h3 h4 => ⟨p, c, R, true, rfl, h1, h2, h3, .inl ⟨rfl, h4⟩⟩)
  generalize RecsQP w (kys L) = Post at HNO HY ⊢
  have HP := Hid.mk' hp
  have HD := Hid.mk' hd
  clear hp hd
  go_enter Tryd.func49, Tryd.ntmps49
  go_wp2_with fail
  go_loopw [4, 11] (fun v i W => ∃ (k : Nat) (p : Option Addr) (c : Nat) (R : List Rc), k ≤ L.length ∧ i = .int .i64 k ∧ v = .slice p R.length c ∧ R.length ≤ k ∧ Hid (OwnB w.heap.size W (.slice p R.length c) R) ∧ Hid (∀ r ∈ R, (∀ i, RMem r i → w.heap.size ≤ i) ∧ szK (kys r.bag) ≤ 4611686018427387904) ∧ Hid (recsP (kys L) = (recsP (kys (L.drop k))).map (rks R ++ ·)) ∧ Hid (Below w.heap.size w W)) (fun _ i _ => L.length - (intOf i).toNat)
  case atStart => exact ⟨0, none, 0, [], by omega, rfl, rfl, by simp, OwnB.nil _ _, Hid.mk' (by simp), Hid.mk' (by simp [rks]), Below.refl _ _⟩
  case round =>
    obtain ⟨k, pr, cr, R, hk, rfl, rfl, hRk, HO, HM, HE, HB⟩ := hrel
    by_cases t : k < L.length
    · obtain ⟨b, o, hbo, hc⟩ := (HP.out.below HB.out).at (by omega)
      obtain ⟨e0, e1, hok⟩ := hc k t
      rw [hbo]
      have hyd := HD.out (L.getD k zf) (by simp [List.getD, t])
      have HST := Hid.mk' (recsP_step t)
      generalize L.getD k zf = y at e0 e1 hok hyd HST
      have hba := (Below.refl wr.heap.size wr).alloc (Nat.le_refl _) (.cells #[.int .i64 y.tag, .slice y.p y.d.length y.cap] 55)
      have RR := greadRec_any y (wr.alloc (.cells #[.int .i64 y.tag, .slice y.p y.d.length y.cap] 55)) (hok.below hba) hyd
      obtain ⟨np, hnp⟩ : ∃ np, RecQP (wr.alloc (.cells #[.int .i64 y.tag, .slice y.p y.d.length y.cap] 55)) (ky y) = np := ⟨_, rfl⟩
      have HNP := Hid.mk' hnp
      rw [hnp] at RR
      have HGA := Hid.mk' (heap_alloc_new wr (.cells #[.int .i64 y.tag, .slice y.p y.d.length y.cap] 55))
      have HSZ := Hid.mk' hba.size
      have HOa := Hid.mk' (HO.out.on hba)
      have HBa := Hid.mk' (HB.out.trans (hba.mono HB.out.size))
      obtain ⟨f0, f1, _⟩ := two_cells HGA.out
      clear hc hok hbo hyd hnp hba HO HB HGA
      go_wp2_with fail
      refine RR.mono ?_
      clear RR e0 e1 f0 f1
      intro e w2 hrr
      rw [← HNP.out] at hrr
      obtain ⟨r, okr, rfl, hrok, hrm, hrs, hb2, hres⟩ := hrr
      have HRM := Hid.mk' (show ∀ i, RMem r i → w.heap.size ≤ i from fun i hi => Nat.le_trans HBa.out.size (hrm i hi))
      have HOF := Hid.mk' (show ∀ i, RMem r i → (Value.slice pr R.length cr).ownBlock ≠ some i from fun i hi => own_ne HOa.out.own i (hrm i hi))
      have HO2 := Hid.mk' (HOa.out.on hb2)
      have HB2 := Hid.mk' (HBa.out.trans (hb2.mono HBa.out.size))
      have HRO := Hid.mk' hrok
      have HRS := Hid.mk' hrs
      have HRES := Hid.mk' hres
      clear hrm hb2 hrok hrs hres HOa HBa HNP HSZ
      have hba := (Below.refl w2.heap.size w2).alloc (Nat.le_refl _) (.cells #[.int .i64 r.id, .int .i64 r.inc, .int .i64 r.st, .int .i64 r.lo, .int .i64 r.hi, .bool r.cut, .slice r.p r.bag.length r.cap] 44)
      have HO3 := Hid.mk' (HO2.out.on hba)
      have HB3 := Hid.mk' (HB2.out.trans (hba.mono HB2.out.size))
      have HRO3 := Hid.mk' (HRO.out.below hba)
      have HX3 := Hid.mk' (heap_alloc_new w2 (.cells #[.int .i64 r.id, .int .i64 r.inc, .int .i64 r.st, .int .i64 r.lo, .int .i64 r.hi, .bool r.cut, .slice r.p r.bag.length r.cap] 44))
      clear hba HO2 HB2 HRO
      cases okr
      · have hbad : recsP (kys L) = none := by
          rw [HE.out, HST.out, recsP]
          rcases HRES.out with ⟨h, _⟩ | ⟨_, h⟩
          · cases h
          · rw [h]; rfl
        have HQ := Hid.mk' (HNO.out _ HB3.out hbad)
        clear hbad HRES HE HST
        go_wp2_with fail
        first | exact HQ.out | (rw [Exit.noGoto_ret]; exact HQ.out)
      · have hgood : recsP (kys L) = (recsP (kys (L.drop (k + 1)))).map (rks (R ++ [r]) ++ ·) := by
          rw [HE.out, HST.out, recsP]
          rcases HRES.out with ⟨_, h⟩ | ⟨h, _⟩
          · rw [h]
            show ((recsP (kys (L.drop (k + 1)))).map (rk r :: ·)).map (rks R ++ ·) = _
            rw [Option.map_map, rks_append]
            congr 1
            funext z
            simp [rks]
          · cases h
        have HE4 := Hid.mk' hgood
        clear hgood HRES HE HST
        obtain ⟨q0, q1, q2, q3, q4, q5, q6⟩ := box_cells HX3.out
        go_wp2_with (at_builtin; refine wpList_addB (g := w2.heap.size + 1) (by rfl) (.tmp 22) (.tmp 24) (by rfl) (by rfl) HO3.out HB3.out.size r HRO3.out HOF.out (by simp) (by rfl) (by omega) ?_)
        intro v8 w8 hO8 hB8
        obtain ⟨p8, c8, rfl, _⟩ := hO8.own.slice
        have e1 : (R ++ [r]).length = R.length + 1 := by simp
        have HB8 := Hid.mk' (HB3.out.trans hB8)
        have HO8 := Hid.mk' hO8
        have HM8 := Hid.mk' (show ∀ r' ∈ R ++ [r], (∀ i, RMem r' i → w.heap.size ≤ i) ∧ szK (kys r'.bag) ≤ 4611686018427387904 from fun r' hr' => by
          rcases List.mem_append.1 hr' with q | q
          · exact HM.out r' q
          · simp at q; subst q; exact ⟨HRM.out, HRS.out⟩)
        have HE1 := Hid.mk' e1
        clear hO8 hB8 e1 HX3 HO3 HB3 HRO3 HRM HRS HOF HM q0 q1 q2 q3 q4 q5 q6
        generalize R ++ [r] = R2 at HE4 HM8 HO8 HE1 ⊢
        go_wp2_with fail
        go_roundw
        case rel => exact ⟨k + 1, p8, c8, R2, by omega, by go_num, rfl, by rw [HE1.out]; omega, HO8, HM8, HE4, HB8⟩
        case measure => simp [intOf]; omega
    · obtain rfl : k = L.length := by omega
      have HQ := Hid.mk' (HY.out pr cr R wr HO.out HM.out HB.out (by rw [HE.out, List.drop_of_length_le (Nat.le_refl _)]; simp [kys, recsP]))
      clear HO HM HE HB
      go_wp2_with fail
      exact HQ.out
end Go.Proofs.YtmejfkhikgcgmaaDoor
namespace Go.Proofs.YtmejfkhikgcgmaaDoor
open Go.RowKit
set_option linter.unusedSimpArgs false
set_option linter.unusedVariables false
set_option maxRecDepth 10000
set_option synthInstance.maxSize 2000

theorem sum_next (l : List Int) (k : Nat) (h : k < l.length) : (l.take (k + 1)).sum = (l.take k).sum + l.getD k 0 := by
  rw [List.take_succ_eq_append_getElem h, List.sum_append]; simp [List.getD, h]
theorem sum_bound {l : List Int} {M : Int} (hM : 0 ≤ M) (hr : ∀ x ∈ l, 0 ≤ x ∧ x ≤ M) : 0 ≤ l.sum ∧ l.sum ≤ (l.length : Int) * M := by
  induction l with
  | nil => simp
  | cons x l ih =>
    have h1 := hr x (by simp)
    have h2 := ih fun y hy => hr y (by simp [hy])
    simp only [List.sum_cons, List.length_cons]
    have e : ((l.length + 1 : Nat) : Int) * M = (l.length : Int) * M + M := by
      rw [Int.natCast_add, Int.add_mul]; simp
    rw [e]
    omega

set_option maxHeartbeats 1600000 in
theorem gitems_any (p : Option Addr) (c : Nat) (l : List Int) (w : World) (hp : NIn w p l) (hn : l.length ≤ 1000) (hr : ∀ x ∈ l, 0 ≤ x ∧ x ≤ 1000000000000000) :
    Calls Tryd.prog 44 #[.slice p l.length c] w fun e w' => e = .returned (.int .i64 (3 * (l.length : Int) + l.sum)) ∧ w = w' := by
  have HR := Hid.mk' hr
  clear hr
  go_enter Tryd.func44, Tryd.ntmps44
  go_wp2
  go_loop [3, 8] (fun n i => ∃ (k : Nat) (z : Int), k ≤ l.length ∧ i = .int .i64 k ∧ n = .int .i64 z ∧ Hid (z = 3 * (k : Int) + (l.take k).sum)) (fun n i => l.length - (intOf i).toNat)
  case atStart => exact ⟨0, 0, by omega, rfl, rfl, Hid.mk' (by simp)⟩
  case round =>
    obtain ⟨k, z, hk, rfl, rfl, HZ⟩ := hrel
    have hb := sum_bound (M := 1000000000000000) (by omega) (fun x hx => HR.out x (List.mem_of_mem_take (i := k) hx))
    rw [List.length_take, Nat.min_eq_left hk] at hb
    have hz : 0 ≤ z ∧ z ≤ 2000000000000000000 := by
      have := HZ.out
      omega
    clear hb
    by_cases t : k < l.length
    · obtain ⟨b, o, rfl, hc⟩ := hp (by omega)
      have e0 := hc k t
      have HN := Hid.mk' (show 3 * ((k + 1 : Nat) : Int) + (l.take (k + 1)).sum = z + (3 + l.getD k 0) by rw [sum_next l k t, HZ.out]; omega)
      have hx : 0 ≤ l.getD k 0 ∧ l.getD k 0 ≤ 1000000000000000 := by
        have := HR.out l[k] (List.getElem_mem t)
        simpa [List.getD, t] using this
      generalize l.getD k 0 = x at e0 HN hx
      clear hc HZ
      go_wp2
      go_round
      case rel => exact ⟨k + 1, z + (3 + x), by omega, by go_num, by first | rfl | go_num, Hid.mk' HN.out.symm⟩
      case measure => simp [intOf]; omega
    · obtain rfl : k = l.length := by omega
      rw [List.take_of_length_le (Nat.le_refl _)] at HZ
      go_wp2
      go_ret
      exact ⟨by rw [HZ.out]; rfl, rfl⟩

theorem ints_at (W : World) (l : List Int) : NIn (W.alloc (.cells (l.map (Value.int .i64)).toArray 3)) (some ⟨W.heap.size, 0, none⟩) l :=
  NIn.of_block (rest := []) (e := 3) (f := (0, 0)) (by rw [heap_alloc_new]; simp)
theorem gitems4 (a b c d : Int) (w : World) (g : Nat) (hg : w.heap.size = g) (ha : 0 ≤ a ∧ a ≤ 100) (hb : 0 ≤ b ∧ b ≤ 100) (hc : 0 ≤ c ∧ c ≤ 100) (hd : 0 ≤ d ∧ d ≤ 100) (z : Int) (hz : 12 + (a + b + c + d) = z) :
    Calls Tryd.prog 44 #[.slice (some ⟨g, 0, none⟩) 4 4] (w.alloc (.cells #[.int .i64 a, .int .i64 b, .int .i64 c, .int .i64 d] 3)) fun e w' => e = .returned (.int .i64 z) ∧ w.alloc (.cells #[.int .i64 a, .int .i64 b, .int .i64 c, .int .i64 d] 3) = w' := by
  subst hg
  have h := gitems_any (some ⟨w.heap.size, 0, none⟩) 4 [a, b, c, d] _ (ints_at w [a, b, c, d]) (by simp) (by intro x hx; simp at hx; omega)
  have e : 3 * ((([a, b, c, d] : List Int).length : Nat) : Int) + [a, b, c, d].sum = z := by simp; omega
  rw [e] at h
  simpa using h
theorem gitems1 (a : Int) (w : World) (g : Nat) (hg : w.heap.size = g) (ha : 0 ≤ a ∧ a ≤ 1000000000000000) :
    Calls Tryd.prog 44 #[.slice (some ⟨g, 0, none⟩) 1 1] (w.alloc (.cells #[.int .i64 a] 3)) fun e w' => e = .returned (.int .i64 (3 + a)) ∧ w.alloc (.cells #[.int .i64 a] 3) = w' := by
  subst hg
  have h := gitems_any (some ⟨w.heap.size, 0, none⟩) 1 [a] _ (ints_at w [a]) (by simp) (by intro x hx; simp at hx; omega)
  have e : 3 * ((([a] : List Int).length : Nat) : Int) + [a].sum = 3 + a := by simp
  rw [e] at h
  simpa using h

/-- How many bytes a record's items have. -/
theorem inner_sz (r : Rc) : ((innerB (rk r)).length : Int) = 20 + (3 * (r.bag.length : Int) + szK (kys r.bag)) := by
  rw [innerB, joinK_len]
  have e : (inK (rk r)).length = 4 + r.bag.length := by
    have : (inK (rk r)).length = (kys r.bag).length + 1 + 1 + 1 + 1 := rfl
    rw [this, kys_len]; omega
  have e2 : szK (inK (rk r)) = 8 + szK (kys r.bag) := by
    have : szK (inK (rk r)) = (itm 1 2 (rk r).id).2.length + ((itm 2 4 (rk r).inc).2.length + ((itm 3 1 (stB2 (rk r))).2.length + ((itm 4 1 ((rk r).lo * 16 + (rk r).hi)).2.length + szK (kys r.bag)))) := rfl
    rw [this]; simp only [itm_len]; omega
  rw [e, e2]
  omega

set_option maxHeartbeats 4000000 in
theorem grecsz_any (r : Rc) (w : World) (hr : ROk w r) (hz : szK (kys r.bag) ≤ 4611686018427387904) :
    Calls Tryd.prog 45 #[.agg #[.int .i64 r.id, .int .i64 r.inc, .int .i64 r.st, .int .i64 r.lo, .int .i64 r.hi, .bool r.cut, .slice r.p r.bag.length r.cap]] w fun e w' => e = .returned (.int .i64 ((innerB (rk r)).length : Nat)) ∧ Below w.heap.size w w' := by
  have hfew := hr.few
  have HV := Hid.mk' (inner_sz r)
  have HF := Hid.mk' hr.fin
  generalize ((innerB (rk r)).length : Int) = q at HV ⊢
  have HB := Hid.mk' (InB.start w r)
  have I4 := gitems4 2 4 1 1 (w.alloc (.cells #[.int .i64 r.id, .int .i64 r.inc, .int .i64 r.st, .int .i64 r.lo, .int .i64 r.hi, .bool r.cut, .slice r.p r.bag.length r.cap] 44)) (w.heap.size + 1) (by simp) (by omega) (by omega) (by omega) (by omega) 20 rfl
  clear hr
  go_enter Tryd.func45, Tryd.ntmps45
  go_wp2_with fail
  refine I4.mono ?_
  clear I4
  rintro e w1 ⟨rfl, rfl⟩
  have HB1 := Hid.mk' (HB.out.on ((Below.refl _ _).alloc (Nat.le_refl _) (.cells #[.int .i64 2, .int .i64 4, .int .i64 1, .int .i64 1] 3)))
  clear HB
  generalize (w.alloc (.cells #[.int .i64 r.id, .int .i64 r.inc, .int .i64 r.st, .int .i64 r.lo, .int .i64 r.hi, .bool r.cut, .slice r.p r.bag.length r.cap] 44)).alloc (.cells #[.int .i64 2, .int .i64 4, .int .i64 1, .int .i64 1] 3) = w1 at HB1 ⊢
  obtain ⟨c0, c1, c2, c3, c4, c5, c6⟩ := box_cells HB1.out.box
  go_wp2_with fail
  clear c0 c1 c2 c3 c4 c5 c6
  go_loopw [3, 11] (fun n i W => ∃ k : Nat, k ≤ r.bag.length ∧ i = .int .i64 k ∧ n = .int .i64 (20 + (3 * (k : Int) + (szK (kys (r.bag.take k)) : Nat))) ∧ Hid (Below w.heap.size w W)) (fun n i _ => r.bag.length - (intOf i).toNat)
  case atStart => exact ⟨0, by omega, rfl, rfl, HB1.out.below⟩
  case round =>
    obtain ⟨k, hk, rfl, rfl, HB⟩ := hrel
    by_cases t : k < r.bag.length
    · obtain ⟨b, o, hbo, hc⟩ := (HF.out.below HB.out).at (by omega)
      obtain ⟨e0, e1, hx⟩ := hc k t
      rw [hbo]
      have HN := Hid.mk' (sz_next r.bag k t)
      have hle := sz_take_le r.bag (k + 1)
      rw [HN.out] at hle
      have hxf := hx.few
      generalize r.bag.getD k zf = y at HN e0 e1 hle hxf
      have HBa := Hid.mk' (HB.out.alloc HB.out.size (.cells #[.int .i64 y.tag, .slice y.p y.d.length y.cap] 55))
      have I1 := gitems1 (y.d.length : Int) (wr.alloc (.cells #[.int .i64 y.tag, .slice y.p y.d.length y.cap] 55)) (wr.heap.size + 1) (by simp) (by omega)
      have HBb := Hid.mk' (HBa.out.alloc HBa.out.size (.cells #[.int .i64 (y.d.length : Int)] 3))
      have HS := Hid.mk' (show (20 + (3 * ((k + 1 : Nat) : Int) + (szK (kys (r.bag.take (k + 1))) : Nat)) : Int) = 20 + (3 * (k : Int) + (szK (kys (r.bag.take k)) : Nat)) + (3 + (y.d.length : Int)) by rw [HN.out]; omega)
      clear hc HB HBa hx hbo HN
      generalize szK (kys (r.bag.take k)) = s at hle HS ⊢
      go_wp2_with fail
      refine I1.mono ?_
      clear I1
      rintro e w2 ⟨rfl, rfl⟩
      go_wp2_with fail
      go_roundw
      case rel => exact ⟨k + 1, by omega, by go_num, by rw [HS.out], HBb⟩
      case measure => simp [intOf]; omega
    · obtain rfl : k = r.bag.length := by omega
      rw [List.take_of_length_le (Nat.le_refl _)]
      go_wp2_with fail
      go_ret
      exact ⟨by rw [HV.out]; rfl, HB.out⟩

end Go.Proofs.YtmejfkhikgcgmaaDoor
namespace Go.Proofs.YtmejfkhikgcgmaaDoor
open Go.RowKit
set_option linter.unusedSimpArgs false
set_option linter.unusedVariables false
set_option maxRecDepth 10000
set_option synthInstance.maxSize 2000

/-- How many bytes the parts of a body have. -/
theorem body2_sz (m : Mg) : ((body2 (mv m)).length : Int) = 22 + (if hasB m.kind 0 = true then 5 else 0) + (if hasB m.kind 1 = true then 5 else 0) + (recsJ m.recs).length := by
  rw [body2_parts]
  simp only [List.length_append, enc_itm_len]
  have e1 : (if hasB m.kind 0 = true then encK (itm 5 2 m.seq) else []).length = if hasB m.kind 0 = true then 5 else 0 := by split <;> simp [enc_itm_len]
  have e2 : (if hasB m.kind 1 = true then encK (itm 6 2 m.tgt) else []).length = if hasB m.kind 1 = true then 5 else 0 := by split <;> simp [enc_itm_len]
  rw [e1, e2]
  cases hasB m.kind 0 <;> cases hasB m.kind 1 <;> simp <;> omega
theorem recsJ_sz (l : List Rc) (k : Nat) (h : k < l.length) : ((recsJ (l.take (k + 1))).length : Int) = (recsJ (l.take k)).length + (3 + ((innerB (rk (l.getD k zr))).length : Int)) := by
  rw [recsJ_next l k h, List.length_append, encK_len]; simp only [recK2]; omega

set_option maxHeartbeats 8000000 in
theorem gsize_any (m : Mg) (w : World) (hm : MOk w m) (hmay : mayM m = true) (hz : ∀ x ∈ m.recs, szK (kys x.bag) ≤ 4611686018427387904) (hK : Kd w) :
    Calls Tryd.prog 24 #[.agg #[.int .i64 m.kind, .int .i64 m.frm, .int .i64 m.inc, .int .i64 m.lo, .int .i64 m.hi, .int .i64 m.seq, .int .i64 m.tgt, .int .i64 m.life, .int .i64 m.epoch, .int .i64 m.base, .slice m.p m.recs.length m.cap]] w fun e w' => e = .returned (.int .i64 ((body2 (mv m)).length : Nat)) ∧ Below w.heap.size w w' := by
  have hlist := list_may ((may_mv m).1 hmay).2.2
  have hR : ∀ k, k < m.recs.length → mayR (rk (m.recs.getD k zr)) = true := fun k hk => hlist.2 _ (by simp only [mv, rks, List.mem_map]; exact ⟨m.recs.getD k zr, by simp [List.getD, hk], rfl⟩)
  have HR := Hid.mk' hR
  have hl255 : m.recs.length ≤ 255 := by have := hlist.1; simpa [mv, rks_len] using this
  have HRL := Hid.mk' (recsJ_len hR)
  have HV := Hid.mk' (body2_sz m)
  have HP := Hid.mk' hm.rin
  have HZ := Hid.mk' (show ∀ k, k < m.recs.length → szK (kys (m.recs.getD k zr).bag) ≤ 4611686018427387904 from fun k hk => hz _ (by simp [List.getD, hk]))
  obtain ⟨h0, hh0⟩ : ∃ h, hasB m.kind 0 = h := ⟨_, rfl⟩
  obtain ⟨h1, hh1⟩ : ∃ h, hasB m.kind 1 = h := ⟨_, rfl⟩
  have M0 := Hid.mk' (show ∀ X, InM w m X → Calls Tryd.prog 26 #[.int .i64 m.kind, .int .i64 0] X fun e w' => e = .returned (.bool h0) ∧ X = w' from fun X h => by
    have := mhas_any m.kind 0 X (hK.below h.below); rw [hasM_01 _ _ (.inl rfl), hh0] at this; exact this)
  have M1 := Hid.mk' (show ∀ X, InM w m X → Calls Tryd.prog 26 #[.int .i64 m.kind, .int .i64 1] X fun e w' => e = .returned (.bool h1) ∧ X = w' from fun X h => by
    have := mhas_any m.kind 1 X (hK.below h.below); rw [hasM_01 _ _ (.inr rfl), hh1] at this; exact this)
  rw [hh0, hh1] at HV
  have HI := Hid.mk' (InM.start w m)
  generalize ((body2 (mv m)).length : Int) = q at HV ⊢
  have I4 := gitems4 1 2 6 1 (w.alloc (.cells #[.int .i64 m.kind, .int .i64 m.frm, .int .i64 m.inc, .int .i64 m.lo, .int .i64 m.hi, .int .i64 m.seq, .int .i64 m.tgt, .int .i64 m.life, .int .i64 m.epoch, .int .i64 m.base, .slice m.p m.recs.length m.cap] 26)) (w.heap.size + 1) (by simp) (by omega) (by omega) (by omega) (by omega) 22 rfl
  clear hlist hmay hm hR hh0 hh1 hK hz
  go_enter Tryd.func24, Tryd.ntmps24
  go_wp2_with fail
  refine I4.mono ?_
  clear I4
  rintro e w1 ⟨rfl, rfl⟩
  have HI1 := Hid.mk' (HI.out.on ((Below.refl _ _).alloc (Nat.le_refl _) (.cells #[.int .i64 1, .int .i64 2, .int .i64 6, .int .i64 1] 3)))
  clear HI
  generalize (w.alloc (.cells #[.int .i64 m.kind, .int .i64 m.frm, .int .i64 m.inc, .int .i64 m.lo, .int .i64 m.hi, .int .i64 m.seq, .int .i64 m.tgt, .int .i64 m.life, .int .i64 m.epoch, .int .i64 m.base, .slice m.p m.recs.length m.cap] 26)).alloc (.cells #[.int .i64 1, .int .i64 2, .int .i64 6, .int .i64 1] 3) = w1 at HI1 ⊢
  obtain ⟨c0, c1, c2, c3, c4, c5, c6, c7, c8, c9, c10⟩ := mbox_cells HI1.out.box
  go_wp2_with fail
  refine (M0.out w1 HI1.out).mono ?_
  rintro e w2 ⟨rfl, rfl⟩
  go_upto_if 10 with fail
  go_cut [3] (fun n wx => n = .int .i64 (22 + (if h0 = true then 5 else 0)) ∧ Hid (InM w m wx))
  case first =>
    cases h0
    · go_wp2_with fail
      go_meet
      exact ⟨rfl, HI1⟩
    · have I1 := gitems1 2 w1 w1.heap.size rfl (by omega)
      have HI2 := Hid.mk' (HI1.out.on ((Below.refl _ _).alloc (Nat.le_refl _) (.cells #[.int .i64 2] 3)))
      clear HI1 M0
      go_wp2_with fail
      refine I1.mono ?_
      rintro e w2 ⟨rfl, rfl⟩
      go_wp2_with fail
      go_meet
      exact ⟨rfl, HI2⟩
  case rest =>
  obtain ⟨rfl, HI2⟩ := hcut
  clear c0 c1 c2 c3 c4 c5 c6 c7 c8 c9 c10 HI1 M0
  obtain ⟨s0, hs0⟩ : ∃ s : Int, (22 + (if h0 = true then 5 else 0) : Int) = s := ⟨_, rfl⟩
  have hs0b : 0 ≤ s0 ∧ s0 ≤ 100 := by rw [← hs0]; split <;> omega
  rw [hs0] at HV ⊢
  clear hs0
  obtain ⟨c0, c1, c2, c3, c4, c5, c6, c7, c8, c9, c10⟩ := mbox_cells HI2.out.box
  go_wp2_with fail
  refine (M1.out wc HI2.out).mono ?_
  rintro e w2 ⟨rfl, rfl⟩
  go_upto_if 17 with fail
  go_cut [3] (fun n wx => n = .int .i64 (s0 + (if h1 = true then 5 else 0)) ∧ Hid (InM w m wx))
  case first =>
    cases h1
    · go_wp2_with fail
      go_meet
      exact ⟨by simp, HI2⟩
    · have I1 := gitems1 2 wc wc.heap.size rfl (by omega)
      have HI3 := Hid.mk' (HI2.out.on ((Below.refl _ _).alloc (Nat.le_refl _) (.cells #[.int .i64 2] 3)))
      clear HI2 M1
      go_wp2_with fail
      refine I1.mono ?_
      rintro e w2 ⟨rfl, rfl⟩
      go_wp2_with fail
      go_meet
      exact ⟨rfl, HI3⟩
  case rest =>
  obtain ⟨rfl, HI3⟩ := hcut
  clear c0 c1 c2 c3 c4 c5 c6 c7 c8 c9 c10 HI2 M1
  obtain ⟨s1, hs1⟩ : ∃ s : Int, (s0 + (if h1 = true then 5 else 0) : Int) = s := ⟨_, rfl⟩
  have hs1b : 0 ≤ s1 ∧ s1 ≤ 200 := by rw [← hs1]; split <;> omega
  rw [hs1] at HV ⊢
  clear hs1 hs0b
  obtain ⟨c0, c1, c2, c3, c4, c5, c6, c7, c8, c9, c10⟩ := mbox_cells HI3.out.box
  go_wp2_with fail
  clear c0 c1 c2 c3 c4 c5 c6 c7 c8 c9 c10
  go_loopw [3, 25] (fun n i W => ∃ (k : Nat) (z : Nat), k ≤ m.recs.length ∧ i = .int .i64 k ∧ n = .int .i64 (s1 + (z : Int)) ∧ Hid (z = (recsJ (m.recs.take k)).length) ∧ Hid (Below w.heap.size w W)) (fun n i _ => m.recs.length - (intOf i).toNat)
  case atStart => exact ⟨0, 0, by omega, rfl, by simp, Hid.mk' (by simp [recsJ, rks, joinK]), HI3.out.below⟩
  case round =>
    obtain ⟨k, z, hk, rfl, rfl, HZ2, HB⟩ := hrel
    have hzb : z ≤ 2000000 := by have h1 := HRL.out k hk; have h2 := HZ2.out; omega
    by_cases t : k < m.recs.length
    · obtain ⟨b, o, hbo, hc⟩ := (HP.out.below HB.out).at (by omega)
      obtain ⟨hx, hok⟩ := hc k t
      rw [hbo]
      have HS := Hid.mk' (recsJ_sz m.recs k t)
      have hil := inner_len (HR.out k t)
      have hzk := HZ.out k t
      generalize m.recs.getD k zr = y at hx hok HS hil hzk
      obtain ⟨e0, e1, e2, e3, e4, e5, e6⟩ := hx
      have HBa := Hid.mk' (HB.out.alloc HB.out.size (.cells #[.int .i64 y.id, .int .i64 y.inc, .int .i64 y.st, .int .i64 y.lo, .int .i64 y.hi, .bool y.cut, .slice y.p y.bag.length y.cap] 44))
      have RS := grecsz_any y (wr.alloc (.cells #[.int .i64 y.id, .int .i64 y.inc, .int .i64 y.st, .int .i64 y.lo, .int .i64 y.hi, .bool y.cut, .slice y.p y.bag.length y.cap] 44)) (hok.below ((Below.refl _ _).alloc (Nat.le_refl _) _)) hzk
      have HG := Hid.mk' (heap_alloc_new wr (.cells #[.int .i64 y.id, .int .i64 y.inc, .int .i64 y.st, .int .i64 y.lo, .int .i64 y.hi, .bool y.cut, .slice y.p y.bag.length y.cap] 44))
      obtain ⟨c0, c1, c2, c3, c4, c5, c6⟩ := box_cells HG.out
      generalize (innerB (rk y)).length = il at RS HS hil
      rw [← HZ2.out] at HS
      clear hc HB hok hbo hzk HZ2 HG
      go_wp2_with fail
      refine RS.mono ?_
      clear RS e0 e1 e2 e3 e4 e5 e6 c0 c1 c2 c3 c4 c5 c6
      rintro e w2 ⟨rfl, hb2⟩
      have HB2 := Hid.mk' (HBa.out.trans (hb2.mono HBa.out.size))
      have I1 := gitems1 (il : Int) w2 w2.heap.size rfl (by omega)
      have HB3 := Hid.mk' (HB2.out.alloc HB2.out.size (.cells #[.int .i64 (il : Int)] 3))
      clear hb2 HBa HB2
      go_wp2_with fail
      refine I1.mono ?_
      clear I1
      rintro e w3 ⟨rfl, rfl⟩
      go_wp2_with fail
      go_roundw
      case rel => exact ⟨k + 1, z + (3 + il), by omega, by go_num, by first | (congr 1; omega) | go_num, Hid.mk' (by have := HS.out; omega), HB3⟩
      case measure => simp [intOf]; omega
    · obtain rfl : k = m.recs.length := by omega
      rw [List.take_of_length_le (Nat.le_refl _)] at HZ2
      go_wp2_with fail
      go_ret
      exact ⟨by rw [HV.out, HZ2.out]; rfl, HB.out⟩

end Go.Proofs.YtmejfkhikgcgmaaDoor
