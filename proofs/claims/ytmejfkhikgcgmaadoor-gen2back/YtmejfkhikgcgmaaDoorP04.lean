/-
  A message that is put together beside the block of a result.
  Stage 13: the statements' own functions: Body.
  Stage 13: the statements' own functions: fits; what Encode and Decode answer.
  Stage 6: the statements' own functions: Few, size, may, alike, order.
  Texts as lists of bytes; package known: mayStand, isBuild, Knows.
  Package known: numbered, made, Make; the statements' own example.
  Package tlv: fault, length, put, Join; Num.
  Stage 7: the chapter's examples (the statements' own 'awake'); where the first field of a tag stands.
  Package tlv: next, Split.
  Stage 13: the statements' own functions: rows.
  Rows of records in memory of their own, whose bags lie in new memory too.
-/
import Derived.Test.YtmejfkhikgcgmaaDoorP03
import Derived.Deep.QuietTactic
import Derived.BigQuiet
import Derived.PlainAid
import Derived.Deep.DeepCutAuto
import Derived.Laws.IdiomStrings
import Derived.Deep.RegionHeld3
import Derived.RegionCalls
namespace Go.Proofs.YtmejfkhikgcgmaaDoor
open Go.RowKit
set_option linter.unusedSimpArgs false
set_option linter.unusedVariables false
set_option maxRecDepth 10000
set_option synthInstance.maxSize 2000

def zm : Mg := ⟨0, 0, 0, 0, 0, 0, 0, 0, 0, 0, none, 0, []⟩
theorem zm_ok (w : World) : MOk w zm := ⟨by decide, by decide, by decide, by decide, by decide, by decide, by decide, by decide, by decide, by decide, Nat.le_refl _, by simp [zm, maxLen], fun _ => rfl, RIn.empty _ _⟩

theorem BIn.at0 {w : World} {b o : Nat} {l : List Int} (h : BIn w (some ⟨b, o, none⟩) l) (j : Nat) (hj : j < l.length) : w.cell? ⟨b, o + j, none⟩ = some (.int .u8 (l.getD j 0)) := by
  obtain ⟨b', o', e, hc⟩ := h (by omega)
  cases e
  exact hc j hj

/-- The block of the result, as it was laid; and the message that is put together behind it. -/
structure InQ0 (w X : World) : Prop where
  below : Below w.heap.size w X
  res : X.heap[w.heap.size]? = some (.cells #[.int .i64 0, .int .i64 0, .int .i64 0, .int .i64 0, .int .i64 0, .int .i64 0, .int .i64 0, .int .i64 0, .int .i64 0, .int .i64 0, .slice none 0 0] 26 (0, 0))
theorem InQ0.on {w X X' : World} (h : InQ0 w X) (k : Below X.heap.size X X') : InQ0 w X' :=
  ⟨h.below.trans (k.mono h.below.size), by rw [k.block _ (Array.getElem?_eq_some_iff.1 h.res).1]; exact h.res⟩
structure InQ (w : World) (m : Mg) (X : World) : Prop where
  q : InQ0 w X
  box : X.heap[w.heap.size + 1]? = some (.cells #[.int .i64 m.kind, .int .i64 m.frm, .int .i64 m.inc, .int .i64 m.lo, .int .i64 m.hi, .int .i64 m.seq, .int .i64 m.tgt, .int .i64 m.life, .int .i64 m.epoch, .int .i64 m.base, .slice m.p m.recs.length m.cap] 26 (0, 0))
theorem cell_alloc_lt {X : World} {ob : Obj} {b o : Nat} (h : b < X.heap.size) : (X.alloc ob).cell? ⟨b, o, none⟩ = X.cell? ⟨b, o, none⟩ :=
  ((Below.refl X.heap.size X).alloc (Nat.le_refl _) ob).cell (p := ⟨b, o, none⟩) h

theorem InQ.on {w X X' : World} {m : Mg} (h : InQ w m X) (k : Below X.heap.size X X') : InQ w m X' :=
  ⟨h.q.on k, by rw [k.block _ (Array.getElem?_eq_some_iff.1 h.box).1]; exact h.box⟩
theorem InQ.onB {w X X' : World} {m : Mg} (h : InQ w m X) (k : Below (w.heap.size + 2) X X') : InQ w m X' :=
  ⟨⟨h.q.below.trans (k.mono (by omega)), by rw [k.block _ (by omega)]; exact h.q.res⟩, by rw [k.block _ (by omega)]; exact h.box⟩
theorem InQ.lt {w X : World} {m : Mg} (h : InQ w m X) : w.heap.size + 2 ≤ X.heap.size := (Array.getElem?_eq_some_iff.1 h.box).1
theorem InQ.froz {w X : World} {m : Mg} (h : InQ w m X) (j : Nat) : X.frozen? ⟨w.heap.size + 1, j, none⟩ = false := by simp [World.frozen?, h.box]

/-- 'append(v, y)' of a record that was laid for it, as a step of a region that draws its order. -/
theorem step_addR {W : World} {ops : Array Oper} {o : Oper} {a : Act} {K : Act → World → Prop} {Q : Exit → Act → World → Prop} {E : Prop} (hgd : o.guard = none) (s x : Operand)
    (ho : o.op = .call { callee := .builtin .append, args := #[s, x], argTypes := #[24, 24] })
    {B : Nat} {v : Value} {A : List Rc} (hs : a.eval s = v) (h3 : OwnR 44 7 W B v A.length (A.flatMap Rc.cells)) (hB : B ≤ W.heap.size) (y : Rc) (hx : a.eval x = .slice (some ⟨W.heap.size, 0, none⟩) 1 1) (hl : A.length ≤ 1000000)
    (h : ∀ p' c' w', OwnR 44 7 w' B (.slice p' (A ++ [y]).length c') (A ++ [y]).length ((A ++ [y]).flatMap Rc.cells) → Below B (W.alloc (.cells #[.int .i64 y.id, .int .i64 y.inc, .int .i64 y.st, .int .i64 y.lo, .int .i64 y.hi, .bool y.cut, .slice y.p y.bag.length y.cap] 44)) w' → K (a.put o.dst (.slice p' (A.length + 1) c')) w') :
    if Region.wanted o (yielded ops a.tmps) = true then Oper.wp Tryd.prog o a (W.alloc (.cells #[.int .i64 y.id, .int .i64 y.inc, .int .i64 y.st, .int .i64 y.lo, .int .i64 y.hi, .bool y.cut, .slice y.p y.bag.length y.cap] 44)) K Q else E := by
  obtain ⟨i0, hi, hz0, hz1, hz2⟩ := info_parts infoR
  have b : Below W.heap.size W (W.alloc (.cells #[.int .i64 y.id, .int .i64 y.inc, .int .i64 y.st, .int .i64 y.lo, .int .i64 y.hi, .bool y.cut, .slice y.p y.bag.length y.cap] 44)) := (Below.refl _ _).alloc (Nat.le_refl _) _
  have h3' := h3.below b
  have hg := heap_alloc_new W (.cells #[.int .i64 y.id, .int .i64 y.inc, .int .i64 y.st, .int .i64 y.lo, .int .i64 y.hi, .bool y.cut, .slice y.p y.bag.length y.cap] 44)
  refine step_append_fr hgd s x 24 ho 44 i0 _ 7 72 Tryd.underlying24 hi hz0 hz1 hz2 rfl (by decide) v A.length _ hs h3'.owns (some ⟨W.heap.size, 0, none⟩) 1 1 y.cells hx (by simp) (by simp [Rc.cells]) (fun _ => ⟨_, rfl, fun j u hu => ?_⟩) (fun u hu => flatR_one [y] u (by simpa using hu)) (by unfold maxLen; omega) (by omega) (fun v' w' HA => ?_)
  · rw [Go.WideShapes.add_plain, Nat.zero_add]
    simp only [World.cell?, hg]
    simpa [Rc.cells] using hu
  · obtain ⟨k1, k2⟩ := h3'.next (Nat.le_trans hB b.size) HA
    have e1 : (A ++ [y]).length = A.length + 1 := by simp
    have e2 : (A ++ [y]).flatMap Rc.cells = A.flatMap Rc.cells ++ y.cells := by rw [flatR_append]; simp
    rw [← e2, ← e1] at k1
    obtain ⟨p', c', rfl, _⟩ := k1.slice
    have := h p' c' w' k1 k2
    rw [← e1] at this
    exact this

theorem fr_setRow (W : World) (g : Nat) (cs : Array Value) : Fr (fun i => i = g) W (W.setRow g cs) :=
  ⟨rfl, rfl, rfl, by simp, fun k _ hn => setRow_other W g k cs hn⟩
theorem InM.onB {w X X' : World} {m : Mg} (h : InM w m X) (k : Below (w.heap.size + 1) X X') : InM w m X' := by
  have hlt : w.heap.size < X.heap.size := (Array.getElem?_eq_some_iff.1 h.box).1
  exact ⟨h.below.trans (k.mono (Nat.le_succ _)), by rw [k.block _ (Nat.lt_succ_self _)]; exact h.box⟩
theorem InM.lt {w X : World} {m : Mg} (h : InM w m X) : w.heap.size + 1 ≤ X.heap.size := (Array.getElem?_eq_some_iff.1 h.box).1
/-- A whole store, as one step of a region that draws its order. -/
theorem step_store_row {P : Program} {ops : Array Oper} {o : Oper} {a : Act} {w : World} {K : Act → World → Prop} {Q : Exit → Act → World → Prop} {E : Prop} (hgd : o.guard = none) (ty : TypeId) (x y : Operand) (ho : o.op = .store ty x y)
    (g : Nat) (cells : Array Value) (hx : a.eval x = .pointer (some ⟨g, 0, none⟩)) (hy : a.eval y = .agg cells)
    (t : TypeId) (old : Array Value) (hg : w.heap[g]? = some (.cells old t (0, 0))) (hi : (P.info? ty).map (·.size) = some cells.size)
    (hold : old.size = cells.size) (h1 : cells.all (·.oneCell') = true)
    (h : K (a.put o.dst undef) (w.setRow g cells)) : if Region.wanted o (yielded ops a.tmps) = true then Oper.wp P o a w K Q else E := by
  have hw : Region.wanted o (yielded ops a.tmps) = true := by simp [Region.wanted, hgd]
  rw [if_pos hw]
  exact wp_store_row ty x y ho g cells hx hy t old hg hi hold h1 h
end Go.Proofs.YtmejfkhikgcgmaaDoor
namespace Go.Proofs.YtmejfkhikgcgmaaDoor
open Go.RowKit
set_option linter.unusedSimpArgs false
set_option linter.unusedVariables false
set_option maxRecDepth 10000
set_option synthInstance.maxSize 2000

theorem hasM_01 (k p : Int) (hp : p = 0 ∨ p = 1) : hasM k p = hasB k p := by
  by_cases h : 1 ≤ k ∧ k ≤ 9
  · exact hasM_kind h (by omega)
  · have e : hasM k p = false := by simp [hasM]; intros; omega
    rw [e]
    rcases hp with rfl | rfl <;> (simp [hasB]; omega)
theorem inner_len {r : Rc} (h : mayR (rk r) = true) : (innerB (rk r)).length ≤ 4300 := by
  obtain ⟨z1, z2⟩ := bag_small2 h
  rw [inner_parts]
  simp only [List.length_append, enc_itm_len, joinK_len, kys_len]
  omega
/-- The bytes of the first records. -/
def recsJ (l : List Rc) : List Int := joinK ((rks l).map recK2)
theorem recsJ_next (l : List Rc) (k : Nat) (h : k < l.length) : recsJ (l.take (k + 1)) = recsJ (l.take k) ++ encK (recK2 (rk (l.getD k zr))) := by
  rw [recsJ, rtake_next l k h, rks_append, List.map_append, joinK_append]
  rw [show (rks [l.getD k zr]).map recK2 = [recK2 (rk (l.getD k zr))] from rfl, joinK_one]
  rfl
theorem recsJ_len {l : List Rc} (h : ∀ k, k < l.length → mayR (rk (l.getD k zr)) = true) : ∀ k, k ≤ l.length → (recsJ (l.take k)).length ≤ k * 4303
  | 0, _ => by simp [recsJ, rks, joinK]
  | k + 1, hk => by
    have i := recsJ_len h k (by omega)
    have := inner_len (h k (by omega))
    rw [recsJ_next l k (by omega), List.length_append, encK_len]
    simp only [recK2]
    omega
theorem body2_parts (m : Mg) : body2 (mv m) = encK (itm 1 1 m.kind) ++ encK (itm 2 2 m.frm) ++ encK (itm 3 6 m.inc) ++ encK (itm 4 1 (m.lo * 16 + m.hi)) ++ (if hasB m.kind 0 = true then encK (itm 5 2 m.seq) else []) ++ (if hasB m.kind 1 = true then encK (itm 6 2 m.tgt) else []) ++ recsJ m.recs := by
  rw [body2, itemsK, hdK, joinK_append, joinK_append, joinK_append]
  have e1 : (if hasB (mv m).kind 0 = true then [itm 5 2 (mv m).seq] else []) = (if hasB m.kind 0 = true then [itm 5 2 m.seq] else []) := rfl
  have e2 : (if hasB (mv m).kind 1 = true then [itm 6 2 (mv m).tgt] else []) = (if hasB m.kind 1 = true then [itm 6 2 m.tgt] else []) := rfl
  rw [e1, e2]
  have e3 : joinK [itm 1 1 (mv m).kind, itm 2 2 (mv m).frm, itm 3 6 (mv m).inc, itm 4 1 ((mv m).lo * 16 + (mv m).hi)] = encK (itm 1 1 m.kind) ++ encK (itm 2 2 m.frm) ++ encK (itm 3 6 m.inc) ++ encK (itm 4 1 (m.lo * 16 + m.hi)) := by
    simp only [joinK_cons, joinK_nil, List.append_nil, List.append_assoc]
    rfl
  rw [e3]
  have e4 : joinK ((mv m).recs.map recK2) = recsJ m.recs := rfl
  rw [e4]
  congr 2
  · congr 1
    split
    · rw [joinK_one]
    · rfl
  · split
    · rw [joinK_one]
    · rfl

set_option maxHeartbeats 8000000 in
theorem lbody2_any (m : Mg) (w : World) (hm : MOk w m) (hmay : mayM m = true) (hK : Kd w) :
    Calls Tryd.prog 14 #[.agg #[.int .i64 m.kind, .int .i64 m.frm, .int .i64 m.inc, .int .i64 m.lo, .int .i64 m.hi, .int .i64 m.seq, .int .i64 m.tgt, .int .i64 m.life, .int .i64 m.epoch, .int .i64 m.base, .slice m.p m.recs.length m.cap]] w fun e w' => ∃ p c, e = .returned (.slice p (body2 (mv m)).length c) ∧ BIn w' p (body2 (mv m)) ∧ (p = none → c = 0) ∧ Below w.heap.size w w' := by
  have hv := (may_mv m).1 hmay
  have hlist := list_may hv.2.2
  have hs := okS_yes hv.2.1
  have hn := hv.1
  unfold MV.nums at hn
  simp only [mv] at hn hs
  obtain ⟨⟨n1, n2⟩, ⟨n3, n4⟩, ⟨n5, n6⟩, ⟨n7, n8, _⟩, ⟨n9, n10, _⟩, _⟩ := hn
  obtain ⟨s1, s2, s3⟩ := hs
  have hR : ∀ k, k < m.recs.length → mayR (rk (m.recs.getD k zr)) = true := fun k hk => hlist.2 _ (by simp only [mv, rks, List.mem_map]; exact ⟨m.recs.getD k zr, by simp [List.getD, hk], rfl⟩)
  have HR := Hid.mk' hR
  have hl255 : m.recs.length ≤ 255 := by have := hlist.1; simpa [mv, rks_len] using this
  have HRL := Hid.mk' (recsJ_len hR)
  have HIP := Hid.mk' (body2_parts m)
  have HI := Hid.mk' (InM.start w m)
  have HRN := Hid.mk' hm.rin
  obtain ⟨h0, hh0⟩ : ∃ h, hasB m.kind 0 = h := ⟨_, rfl⟩
  obtain ⟨h1, hh1⟩ : ∃ h, hasB m.kind 1 = h := ⟨_, rfl⟩
  have M0 := Hid.mk' (show ∀ X, InM w m X → Calls Tryd.prog 26 #[.int .i64 m.kind, .int .i64 0] X fun e w' => e = .returned (.bool h0) ∧ X = w' from fun X h => by
    have := mhas_any m.kind 0 X (hK.below h.below); rw [hasM_01 _ _ (.inl rfl), hh0] at this; exact this)
  have M1 := Hid.mk' (show ∀ X, InM w m X → Calls Tryd.prog 26 #[.int .i64 m.kind, .int .i64 1] X fun e w' => e = .returned (.bool h1) ∧ X = w' from fun X h => by
    have := mhas_any m.kind 1 X (hK.below h.below); rw [hasM_01 _ _ (.inr rfl), hh1] at this; exact this)
  rw [hh0, hh1] at HIP
  generalize body2 (mv m) = R at HIP ⊢
  clear hv hlist hmay hm hR hh0 hh1 hK
  go_enter Tryd.func14, Tryd.ntmps14
  obtain ⟨e0, e1, e2, e3, e4, e5, e6, e7, e8, e9, e10⟩ := mbox_cells HI.out.box
  go_wp2_with fail
  generalize w.alloc (.cells #[.int .i64 m.kind, .int .i64 m.frm, .int .i64 m.inc, .int .i64 m.lo, .int .i64 m.hi, .int .i64 m.seq, .int .i64 m.tgt, .int .i64 m.life, .int .i64 m.epoch, .int .i64 m.base, .slice m.p m.recs.length m.cap] 26) = x0 at HI e0 e1 e2 e3 e4 e5 e6 e7 e8 e9 e10 ⊢
  refine (litem_any (w.heap.size + 1) _ [] 1 1 m.kind x0 (Acc.nil _ _) HI.out.lt (by omega) (by omega) (by omega) (by omega) (by omega) (by simp)).mono ?_
  clear e0 e1 e2 e3 e4 e5 e6 e7 e8 e9 e10
  rintro e x1 ⟨v1, rfl, hA, hB⟩
  rw [List.nil_append] at hA
  have HI1 := Hid.mk' (HI.out.onB hB)
  have HA1 := Hid.mk' hA
  obtain ⟨e0, e1, e2, e3, e4, e5, e6, e7, e8, e9, e10⟩ := mbox_cells HI1.out.box
  clear hA hB HI
  go_wp2_with fail
  refine (litem_any (w.heap.size + 1) v1 _ 2 2 m.frm x1 HA1.out HI1.out.lt (by omega) (by omega) (by omega) n3 (by omega) (by simp only [enc_itm_len]; omega)).mono ?_
  clear e0 e1 e2 e3 e4 e5 e6 e7 e8 e9 e10
  rintro e x2 ⟨v2, rfl, hA, hB⟩
  have HI2 := Hid.mk' (HI1.out.onB hB)
  have HA2 := Hid.mk' hA
  obtain ⟨e0, e1, e2, e3, e4, e5, e6, e7, e8, e9, e10⟩ := mbox_cells HI2.out.box
  clear hA hB HI1 HA1
  go_wp2_with fail
  refine (litem_any (w.heap.size + 1) v2 _ 3 6 m.inc x2 HA2.out HI2.out.lt (by omega) (by omega) (by omega) n5 (by omega) (by simp only [List.length_append, enc_itm_len]; omega)).mono ?_
  clear e0 e1 e2 e3 e4 e5 e6 e7 e8 e9 e10
  rintro e x3 ⟨v3, rfl, hA, hB⟩
  have HI3 := Hid.mk' (HI2.out.onB hB)
  have HA3 := Hid.mk' hA
  obtain ⟨e0, e1, e2, e3, e4, e5, e6, e7, e8, e9, e10⟩ := mbox_cells HI3.out.box
  clear hA hB HI2 HA2
  go_wp2_with fail
  refine (litem_any (w.heap.size + 1) v3 _ 4 1 (m.lo * 16 + m.hi) x3 HA3.out HI3.out.lt (by omega) (by omega) (by omega) (by omega) (by omega) (by simp only [List.length_append, enc_itm_len]; omega)).mono ?_
  clear e0 e1 e2 e3 e4 e5 e6 e7 e8 e9 e10
  rintro e x4 ⟨v4, rfl, hA, hB⟩
  have HI4 := Hid.mk' (HI3.out.onB hB)
  have HA4 := Hid.mk' hA
  obtain ⟨e0, e1, e2, e3, e4, e5, e6, e7, e8, e9, e10⟩ := mbox_cells HI4.out.box
  clear hA hB HI3 HA3
  obtain ⟨P4, hP4⟩ : ∃ P, encK (itm 1 1 m.kind) ++ encK (itm 2 2 m.frm) ++ encK (itm 3 6 m.inc) ++ encK (itm 4 1 (m.lo * 16 + m.hi)) = P := ⟨_, rfl⟩
  rw [hP4] at HA4 HIP
  have HL4 := Hid.mk' (show P4.length = 22 by rw [← hP4]; simp only [List.length_append, enc_itm_len])
  clear hP4
  go_wp2_with fail
  refine (M0.out x4 HI4.out).mono ?_
  rintro e x5 ⟨rfl, rfl⟩
  go_upto_if 29 with fail
  go_cut [3] (fun v wx => Hid (Acc wx (w.heap.size + 1) v (P4 ++ (if h0 = true then encK (itm 5 2 m.seq) else []))) ∧ Hid (InM w m wx))
  case first =>
    cases h0
    · go_wp2_with fail
      go_meet
      exact ⟨by rw [if_neg (by simp), List.append_nil]; exact HA4, HI4⟩
    · go_wp2_with fail
      refine (litem_any (w.heap.size + 1) v4 P4 5 2 m.seq x4 HA4.out HI4.out.lt (by omega) (by omega) (by omega) n7 (by omega) (by have := HL4.out; omega)).mono ?_
      clear e0 e1 e2 e3 e4 e5 e6 e7 e8 e9 e10
      rintro e x5 ⟨v5, rfl, hA, hB⟩
      have HI5 := Hid.mk' (HI4.out.onB hB)
      have HA5 := Hid.mk' hA
      clear hA hB HI4 HA4
      go_wp2_with fail
      go_meet
      exact ⟨by rw [if_pos trivial]; exact HA5, HI5⟩
  case rest =>
  obtain ⟨HA5, HI5⟩ := hcut
  clear e0 e1 e2 e3 e4 e5 e6 e7 e8 e9 e10 HI4 HA4 M0
  obtain ⟨P5, hP5⟩ : ∃ P, P4 ++ (if h0 = true then encK (itm 5 2 m.seq) else []) = P := ⟨_, rfl⟩
  rw [hP5] at HA5 HIP
  have HL5 := Hid.mk' (show P5.length ≤ 27 by rw [← hP5, List.length_append, HL4.out]; split <;> simp [enc_itm_len])
  clear hP5 HL4
  obtain ⟨e0, e1, e2, e3, e4, e5, e6, e7, e8, e9, e10⟩ := mbox_cells HI5.out.box
  go_wp2_with fail
  refine (M1.out wc HI5.out).mono ?_
  rintro e x6 ⟨rfl, rfl⟩
  go_upto_if 36 with fail
  go_cut [3] (fun v wx => Hid (Acc wx (w.heap.size + 1) v (P5 ++ (if h1 = true then encK (itm 6 2 m.tgt) else []))) ∧ Hid (InM w m wx))
  case first =>
    cases h1
    · go_wp2_with fail
      go_meet
      exact ⟨by rw [if_neg (by simp), List.append_nil]; exact HA5, HI5⟩
    · go_wp2_with fail
      refine (litem_any (w.heap.size + 1) u3 P5 6 2 m.tgt wc HA5.out HI5.out.lt (by omega) (by omega) (by omega) n9 (by omega) (by have := HL5.out; omega)).mono ?_
      clear e0 e1 e2 e3 e4 e5 e6 e7 e8 e9 e10
      rintro e x7 ⟨v7, rfl, hA, hB⟩
      have HI7 := Hid.mk' (HI5.out.onB hB)
      have HA7 := Hid.mk' hA
      clear hA hB HI5 HA5
      go_wp2_with fail
      go_meet
      exact ⟨by rw [if_pos trivial]; exact HA7, HI7⟩
  case rest =>
  obtain ⟨HA6, HI6⟩ := hcut
  clear e0 e1 e2 e3 e4 e5 e6 e7 e8 e9 e10 HI5 HA5 M1
  obtain ⟨P6, hP6⟩ : ∃ P, P5 ++ (if h1 = true then encK (itm 6 2 m.tgt) else []) = P := ⟨_, rfl⟩
  rw [hP6] at HA6 HIP
  have HL6 := Hid.mk' (show P6.length ≤ 32 by rw [← hP6, List.length_append]; have := HL5.out; split <;> simp [enc_itm_len] <;> omega)
  clear hP6 HL5
  go_wp2_with fail
  go_loopw [3, 4] (fun v i W => ∃ k : Nat, k ≤ m.recs.length ∧ i = .int .i64 k ∧ Hid (Acc W (w.heap.size + 1) v (P6 ++ recsJ (m.recs.take k))) ∧ Hid (InM w m W)) (fun _ i _ => m.recs.length - (intOf i).toNat)
  case atStart => exact ⟨0, by omega, rfl, by simpa [recsJ, rks, joinK] using HA6, HI6⟩
  case round =>
    obtain ⟨k, hk, rfl, HA, HX⟩ := hrel
    clear HA6 HI6
    obtain ⟨e0, e1, e2, e3, e4, e5, e6, e7, e8, e9, e10⟩ := mbox_cells HX.out.box
    by_cases t : k < m.recs.length
    · obtain ⟨b, o, hbo, hc⟩ := (HRN.out.below HX.out.below).at (by omega)
      obtain ⟨hx, hok⟩ := hc k t
      have hy := HR.out k t
      have HJ := Hid.mk' (recsJ_next m.recs k t)
      have HLE := Hid.mk' (HRL.out k (by omega))
      rw [hbo] at e10
      generalize m.recs.getD k zr = y at hx hok hy HJ
      obtain ⟨f0, f1, f2, f3, f4, f5, f6⟩ := hx
      have IN := Hid.mk' (fun X (h : Below wr.heap.size wr X) => linner_any y X (hok.below h) hy)
      have HIL := Hid.mk' (inner_len hy)
      have HLL := Hid.mk' (show (P6 ++ recsJ (m.recs.take k)).length ≤ 2000000 by have := HLE.out; have := HL6.out; rw [List.length_append]; omega)
      have HKS := Hid.mk' (show P6 ++ recsJ (m.recs.take (k + 1)) = (P6 ++ recsJ (m.recs.take k)) ++ ([7, ((innerB (rk y)).length : Int) / 256 % 256, ((innerB (rk y)).length : Int) % 256] ++ innerB (rk y)) by
        rw [HJ.out, List.append_assoc]; rfl)
      generalize P6 ++ recsJ (m.recs.take k) = Q at HA HLL HKS
      generalize innerB (rk y) = I at IN HIL HKS
      clear hc hok hbo hy HJ HLE
      go_wp2_with fail
      refine (IN.out _ (Below.refl _ _)).mono ?_
      clear IN e0 e1 e2 e3 e4 e5 e6 e7 e8 e9 e10 f0 f1 f2 f3 f4 f5 f6
      rintro e x7 ⟨p7, c7, rfl, hbi, hp7, ha7, hb7⟩
      have HNE := Hid.mk' (show ∀ a, p7 = some a → u3.ownBlock ≠ some a.block from fun a ha => acc_ne HA.out a.block (ha7 a ha))
      have HA7 := Hid.mk' (HA.out.below hb7)
      have HX7 := Hid.mk' (HX.out.on hb7)
      have HBI := Hid.mk' hbi
      have HP7 := Hid.mk' hp7
      have hil := HIL.out
      clear hb7 hbi hp7 ha7 HA HX HIL
      have q1 : (I.length : Int).tdiv 256 = (I.length : Int) / 256 := Int.tdiv_eq_ediv_of_nonneg (by omega)
      have q2 : (I.length : Int).tmod 256 = (I.length : Int) % 256 := Int.tmod_eq_emod_of_nonneg (by omega)
      have q3 : IntKind.i64.wrap ((I.length : Int) / 256) = (I.length : Int) / 256 := by rw [IntKind.wrap_i64]; omega
      have q4 : IntKind.u8.wrap ((I.length : Int) / 256) = (I.length : Int) / 256 % 256 := by rw [IntKind.wrap_u8]
      have q5 : IntKind.u8.wrap ((I.length : Int) % 256) = (I.length : Int) % 256 := by rw [IntKind.wrap_u8]; omega
      go_wp2_with (at_builtin; refine wpList_accM (by rfl) (.tmp 54) (.tmp 63) (by rfl) (w.heap.size + 1) u3 Q (by rfl) HA7.out HX7.out.lt [7, (I.length : Int) / 256 % 256, (I.length : Int) % 256] (by rfl) (by rfl) (by have := HLL.out; simp only [List.length_cons, List.length_nil]; omega) ?_)
      intro v8 w8 hA8 hB8 hF8 _
      have HBI8 := Hid.mk' (HBI.out.fr hF8 (fun a ha _ q => HNE.out a ha q))
      have HX8 := Hid.mk' (HX7.out.onB hB8)
      have HA8 := Hid.mk' hA8
      clear hA8 hB8 hF8 HA7 HX7 HBI HNE
      go_wp2_with (at_builtin; refine wpList_acc (by rfl) (.tmp 65) (.tmp 66) (by rfl) (w.heap.size + 1) v8 (Q ++ [7, (I.length : Int) / 256 % 256, (I.length : Int) % 256]) (by rfl) HA8.out HX8.out.lt p7 c7 I (by rfl) HP7.out HBI8.out (by have := HLL.out; simp only [List.length_append, List.length_cons, List.length_nil]; omega) ?_)
      intro v9 w9 hA9 hB9
      have HX9 := Hid.mk' (HX8.out.onB hB9)
      have HA9 := Hid.mk' (show Acc w9 (w.heap.size + 1) v9 (Q ++ ([7, (I.length : Int) / 256 % 256, (I.length : Int) % 256] ++ I)) by simpa using hA9)
      clear hA9 hB9 HA8 HX8 HBI8 HP7
      go_wp2_with fail
      go_roundw
      case rel => exact ⟨k + 1, by omega, by go_num, by rw [HKS.out]; exact HA9, HX9⟩
      case measure => simp [intOf]; omega
    · obtain rfl : k = m.recs.length := by omega
      rw [List.take_of_length_le (Nat.le_refl _), ← HIP.out] at HA
      obtain ⟨p', c', rfl, hbi, hp0, _⟩ := HA.out.slice
      have HBI := Hid.mk' hbi
      clear hbi HA
      go_wp2_with fail
      go_ret
      exact ⟨p', c', rfl, HBI.out, hp0, HX.out.below⟩
end Go.Proofs.YtmejfkhikgcgmaaDoor
namespace Go.Proofs.YtmejfkhikgcgmaaDoor
open Go.RowKit
set_option linter.unusedSimpArgs false
set_option linter.unusedVariables false
set_option maxRecDepth 10000
set_option synthInstance.maxSize 2000

/-- Does a message fit generation 2? -/
def incOk (l : List RK) : Bool := l.all fun r => decide (r.inc ≤ 4294967295)
def fit2 (m : Mg) : Bool := mayM m && !(decide (m.kind = 9)) && decide (m.life = 0) && decide (m.epoch = 0) && decide (m.base = 0) && incOk (rks m.recs) && decide ((body2 (mv m)).length ≤ 65499)
theorem fit2_iff (m : Mg) : fit2 m = true ↔ (mv m).fit2 := by
  have h1 : incOk (rks m.recs) = true ↔ ∀ r ∈ rks m.recs, r.inc ≤ 4294967295 := by
    simp only [incOk, List.all_eq_true, decide_eq_true_eq]
  unfold fit2 MV.fit2
  rw [← may_mv m]
  simp only [Bool.and_eq_true, h1, decide_eq_true_eq, Bool.not_eq_true', decide_eq_false_iff_not]
  constructor
  · rintro ⟨⟨⟨⟨⟨⟨a, b⟩, c⟩, d⟩, e⟩, f⟩, g⟩; exact ⟨a, b, c, d, e, f, g⟩
  · rintro ⟨a, b, c, d, e, f, g⟩; exact ⟨⟨⟨⟨⟨⟨a, b⟩, c⟩, d⟩, e⟩, f⟩, g⟩

set_option maxHeartbeats 4000000 in
theorem lfits2_any (m : Mg) (w : World) (hm : MOk w m) (hz : ∀ x ∈ m.recs, szK (kys x.bag) ≤ 4611686018427387904) (hK : Kd w) :
    Calls Tryd.prog 11 #[.agg #[.int .i64 m.kind, .int .i64 m.frm, .int .i64 m.inc, .int .i64 m.lo, .int .i64 m.hi, .int .i64 m.seq, .int .i64 m.tgt, .int .i64 m.life, .int .i64 m.epoch, .int .i64 m.base, .slice m.p m.recs.length m.cap]] w fun e w' => e = .returned (.bool (fit2 m)) ∧ Below w.heap.size w w' := by
  have HM := Hid.mk' (show fit2 m = (mayM m && !(decide (m.kind = 9)) && decide (m.life = 0) && decide (m.epoch = 0) && decide (m.base = 0) && incOk (rks m.recs) && decide ((body2 (mv m)).length ≤ 65499)) from rfl)
  have HI := Hid.mk' (InM.start w m)
  have V := fun X (h : InM w m X) => mvalid_any m X (hm.below h.below) hz (hK.below h.below)
  have BD := Hid.mk' (fun (hy : mayM m = true) X (h : InM w m X) => lbody2_any m X (hm.below h.below) hy (hK.below h.below))
  have q0 : (m.kind == 9) = decide (m.kind = 9) := rfl
  have q1 : (m.life != 0) = !decide (m.life = 0) := rfl
  have q2 : (m.epoch != 0) = !decide (m.epoch = 0) := rfl
  have q3 : (m.base != 0) = !decide (m.base = 0) := rfl
  have HR := Hid.mk' (show incOk (rks m.recs) = (rks (m.recs.drop 0)).all fun r => decide (r.inc ≤ 4294967295) from rfl)
  generalize fit2 m = q at HM ⊢
  generalize mayM m = b0 at HM V BD
  generalize decide (m.kind = 9) = b1 at HM q0
  generalize decide (m.life = 0) = b2 at HM q1
  generalize decide (m.epoch = 0) = b3 at HM q2
  generalize decide (m.base = 0) = b4 at HM q3
  generalize incOk (rks m.recs) = b5 at HM HR
  generalize body2 (mv m) = R at HM BD
  have HN := Hid.mk' hm.lenM
  have HP := Hid.mk' hm.rin
  clear hK hz hm
  go_enter Tryd.func11, Tryd.ntmps11
  go_wp2_with fail
  refine (V _ HI.out).mono ?_
  rintro e w1 ⟨rfl, hb1⟩
  have HI1 := Hid.mk' (HI.out.on hb1)
  clear hb1 HI V
  obtain ⟨c0, c1, c2, c3, c4, c5, c6, c7, c8, c9, c10⟩ := mbox_cells HI1.out.box
  cases b0
  · go_wp2_with fail
    go_ret
    exact ⟨by rw [HM.out]; simp, HI1.out.below⟩
  cases b1
  case true =>
    go_wp2_with fail
    go_ret
    exact ⟨by rw [HM.out]; simp, HI1.out.below⟩
  cases b2
  · go_wp2_with fail
    go_ret
    exact ⟨by rw [HM.out]; simp, HI1.out.below⟩
  cases b3
  · go_wp2_with fail
    go_ret
    exact ⟨by rw [HM.out]; simp, HI1.out.below⟩
  cases b4
  · go_wp2_with fail
    go_ret
    exact ⟨by rw [HM.out]; simp, HI1.out.below⟩
  have HQ := Hid.mk' (show q = (((rks (m.recs.drop 0)).all fun r => decide (r.inc ≤ 4294967295)) && decide (R.length ≤ 65499)) by rw [HM.out, ← HR.out]; simp)
  have hn := HN.out
  have BDx := BD.out rfl
  have BDx := Hid.mk' BDx
  simp only [maxLen] at hn
  clear HM HR HN BD
  go_wp2_with fail
  go_loop [3] (fun i => ∃ k : Nat, k ≤ m.recs.length ∧ i = .int .i64 k ∧ Hid (q = (((rks (m.recs.drop k)).all fun r => decide (r.inc ≤ 4294967295)) && decide (R.length ≤ 65499)))) (fun i => m.recs.length - (intOf i).toNat)
  case atStart => exact ⟨0, by omega, rfl, HQ⟩
  case round =>
    obtain ⟨k, hk, rfl, HK⟩ := hrel
    by_cases t : k < m.recs.length
    · obtain ⟨b, o, hbo, hc⟩ := (HP.out.below HI1.out.below).at (by omega)
      obtain ⟨hx, hok⟩ := hc k t
      rw [hbo] at c10
      obtain ⟨e0, e1, e2, e3, e4, e5, e6⟩ := hx
      have HK' := Hid.mk' (show q = ((decide ((m.recs.getD k zr).inc ≤ 4294967295) && (rks (m.recs.drop (k + 1))).all fun r => decide (r.inc ≤ 4294967295)) && decide (R.length ≤ 65499)) by
        rw [HK.out, rdrop_next m.recs k t]; simp only [rks, List.map_cons, List.all_cons]; rw [show (rk (m.recs.getD k zr)).inc = (m.recs.getD k zr).inc from rfl])
      generalize m.recs.getD k zr = y at HK' e0 e1 e2 e3 e4 e5 e6 hok
      clear hc hok HK e0 e2 e3 e4 e5 hbo
      by_cases t1 : 4294967295 < y.inc
      · obtain rfl : q = false := by rw [HK'.out, decide_eq_false (show ¬ y.inc ≤ 4294967295 by omega)]; simp
        go_wp2_with fail
        try rw [Exit.noGoto_ret]
        go_ret
        exact ⟨rfl, HI1.out.below⟩
      · have HV := Hid.mk' (show q = (((rks (m.recs.drop (k + 1))).all fun r => decide (r.inc ≤ 4294967295)) && decide (R.length ≤ 65499)) by rw [HK'.out, decide_eq_true (show y.inc ≤ 4294967295 by omega)]; simp)
        go_wp2_with fail
        go_round
        case rel => exact ⟨k + 1, by omega, by go_num, HV⟩
        case measure => simp [intOf]; omega
    · obtain rfl : k = m.recs.length := by omega
      have HV := Hid.mk' (show q = decide ((R.length : Int) ≤ 65499) by rw [HK.out, List.drop_of_length_le (Nat.le_refl _)]; show (true && decide (R.length ≤ 65499)) = _; rw [Bool.true_and]; exact decide_eq_decide.2 (by omega))
      have BDy := BDx.out w1 HI1.out
      clear HK BDx HQ
      go_wp2_with fail
      refine BDy.mono ?_
      clear BDy
      rintro e w2 ⟨p2, c2', rfl, _, _, hb2⟩
      have HB2 := Hid.mk' (HI1.out.below.trans (hb2.mono HI1.out.below.size))
      clear hb2
      obtain ⟨dd, hdd⟩ : ∃ dd, decide ((R.length : Int) ≤ 65499) = dd := ⟨_, rfl⟩
      rw [hdd] at HV
      go_wp2_with fail
      go_ret
      exact ⟨by rw [HV.out]; rfl, HB2.out⟩

/-- What Encode answers for a message. -/
def EncOk2 (m : Mg) (b : List Int) (err : Int) : Prop :=
  (fit2 m = true ∧ err = 0 ∧ b = body2 (mv m)) ∨ (mayM m = false ∧ err = 1 ∧ b = []) ∨ (mayM m = true ∧ fit2 m = false ∧ err = 14 ∧ b = [])
def EncPost2 (m : Mg) (w : World) (e : Ending) (w' : World) : Prop :=
  ∃ p c b err, e = .returned (.tuple #[.slice p b.length c, .int .i64 err]) ∧ BIn w' p b ∧ isB b ∧ (p = none → c = 0) ∧ b.length ≤ c ∧ c ≤ maxLen ∧ b.length ≤ 100000 ∧ Below w.heap.size w w' ∧ EncOk2 m b err
/-- What Decode answers for bytes. -/
def DecOk2 (l : List Int) (m : Mg) (err : Int) : Prop := (err = 0 ∧ Read2 l (mv m)) ∨ (err = 4 ∧ mv m = mv zm ∧ ∀ x, ¬ Read2 l x)
def DecPost2 (l : List Int) (w : World) (e : Ending) (w' : World) : Prop :=
  ∃ m : Mg, ∃ err : Int, e = .returned (.tuple #[.agg #[.int .i64 m.kind, .int .i64 m.frm, .int .i64 m.inc, .int .i64 m.lo, .int .i64 m.hi, .int .i64 m.seq, .int .i64 m.tgt, .int .i64 m.life, .int .i64 m.epoch, .int .i64 m.base, .slice m.p m.recs.length m.cap], .int .i64 err]) ∧ MOk w' m ∧ (∀ x ∈ m.recs, szK (kys x.bag) ≤ 4611686018427387904) ∧ Below w.heap.size w w' ∧ DecOk2 l m err
/-- How many bytes the body would have. -/
def size2 (m : Mg) : Int := if mayM m = true then ((body2 (mv m)).length : Int) else 0

/-- What is wanted of the program's functions. -/
structure Gen2Ok : Prop where
  enc : ∀ (m : Mg) (w : World), MOk w m → (∀ x ∈ m.recs, szK (kys x.bag) ≤ 4611686018427387904) → Kd w → Calls Tryd.prog 9 #[.agg #[.int .i64 m.kind, .int .i64 m.frm, .int .i64 m.inc, .int .i64 m.lo, .int .i64 m.hi, .int .i64 m.seq, .int .i64 m.tgt, .int .i64 m.life, .int .i64 m.epoch, .int .i64 m.base, .slice m.p m.recs.length m.cap]] w fun e w' => EncPost2 m w e w'
  dec : ∀ (p : Option Addr) (c : Nat) (l : List Int) (w : World), BIn w p l → isB l → l.length ≤ c → c ≤ maxLen → l.length ≤ 100000 → Kd w → Calls Tryd.prog 15 #[.slice p l.length c] w fun e w' => DecPost2 l w e w'
  fits : ∀ (m : Mg) (w : World), MOk w m → (∀ x ∈ m.recs, szK (kys x.bag) ≤ 4611686018427387904) → Kd w → Calls Tryd.prog 10 #[.agg #[.int .i64 m.kind, .int .i64 m.frm, .int .i64 m.inc, .int .i64 m.lo, .int .i64 m.hi, .int .i64 m.seq, .int .i64 m.tgt, .int .i64 m.life, .int .i64 m.epoch, .int .i64 m.base, .slice m.p m.recs.length m.cap]] w fun e w' => e = .returned (.bool (fit2 m)) ∧ Below w.heap.size w w'
  size : ∀ (m : Mg) (w : World), MOk w m → (∀ x ∈ m.recs, szK (kys x.bag) ≤ 4611686018427387904) → Kd w → Calls Tryd.prog 13 #[.agg #[.int .i64 m.kind, .int .i64 m.frm, .int .i64 m.inc, .int .i64 m.lo, .int .i64 m.hi, .int .i64 m.seq, .int .i64 m.tgt, .int .i64 m.life, .int .i64 m.epoch, .int .i64 m.base, .slice m.p m.recs.length m.cap]] w fun e w' => e = .returned (.int .i64 (size2 m)) ∧ Below w.heap.size w w'
end Go.Proofs.YtmejfkhikgcgmaaDoor
namespace Go.Proofs.YtmejfkhikgcgmaaDoor
open Go.RowKit
set_option linter.unusedSimpArgs false
set_option linter.unusedVariables false
set_option maxRecDepth 10000

def fewK (l : List Key) : Bool := decide (l.length ≤ 40) && decide (szK l ≤ 5000)
theorem few_yes {l : List Fd} (h : fewK (kys l) = true) : l.length ≤ 40 ∧ szK (kys l) ≤ 5000 := by simpa [fewK, kys_len] using h

set_option maxHeartbeats 1600000 in
theorem few_any (p : Option Addr) (c : Nat) (l : List Fd) (w : World) (hp : FIn w p l) (hn : l.length ≤ maxLen) :
    Calls Tryd.prog 33 #[.slice p l.length c] w fun e w' => e = .returned (.bool (fewK (kys l))) ∧ w = w' := by
  have HF := Hid.mk' (show fewK (kys l) = (decide (l.length ≤ 40) && decide (szK (kys l) ≤ 5000)) by rw [fewK, kys_len])
  simp only [maxLen] at hn
  generalize fewK (kys l) = r at HF ⊢
  go_enter Tryd.func33, Tryd.ntmps33
  by_cases t0 : l.length ≤ 40
  · go_wp2
    go_loop [3, 4] (fun n i => ∃ k : Nat, k ≤ l.length ∧ i = .int .i64 k ∧ n = .int .i64 (szK (kys (l.take k)) : Nat) ∧ szK (kys (l.take k)) ≤ 5000) (fun n i => l.length - (intOf i).toNat)
    case atStart => exact ⟨0, by omega, rfl, rfl, by simp [szK, kys]⟩
    case round =>
      obtain ⟨k, hk, rfl, rfl, hz⟩ := hrel
      by_cases t : k < l.length
      · obtain ⟨b, o, rfl, hc⟩ := hp.at (by omega)
        obtain ⟨e0, e1, hx⟩ := hc k t
        have HN := Hid.mk' (sz_next l k t)
        have HL := Hid.mk' (sz_take_le l (k + 1))
        have h1 := hx.few
        generalize l.getD k zf = y at HN e0 e1 h1
        clear hc hx
        by_cases t2 : szK (kys (l.take k)) + y.d.length ≤ 5000
        · have t2' : ¬ 5000 < (szK (kys (l.take k)) : Int) + (y.d.length : Int) := by omega
          go_wp2
          go_round
          case rel => exact ⟨k + 1, by omega, by go_num, by rw [HN.out]; go_num, by rw [HN.out]; exact t2⟩
          case measure => simp [intOf]; omega
        · have t2' : 5000 < (szK (kys (l.take k)) : Int) + (y.d.length : Int) := by omega
          have hle := HL.out
          rw [HN.out] at hle
          obtain rfl : r = false := by rw [HF.out]; simp [t0]; omega
          clear hle
          go_wp2
          try rw [Exit.noGoto_ret]
          go_ret
          exact ⟨rfl, rfl⟩
      · obtain rfl : k = l.length := by omega
        rw [List.take_of_length_le (Nat.le_refl _)] at hz
        obtain rfl : r = true := by rw [HF.out]; simp [t0, hz]
        go_wp2
        go_ret
        exact ⟨rfl, rfl⟩
  · obtain rfl : r = false := by rw [HF.out]; simp [t0]
    go_wp2
    go_ret
    exact ⟨rfl, rfl⟩


theorem conv_any {w : World} {x : Fd} (h : FOk w x) (n : Nat) : (convert 29 9 (.slice x.p x.d.length x.cap)).run Tryd.prog (w.drewN n) = .ok (.string (strOfNums x.d)) (w.drewN n) :=
  BIn.convert (P := Tryd.prog) (w := w.drewN n) (show BIn (w.drewN n) x.p x.d from h.bin) x.cap 29 5 9 Tryd.underlying29 Tryd.underlying5 Tryd.underlying9



def prevT (l : List Fd) (k : Nat) : Int := if k = 0 then 32 else (l.getD (k - 1) zf).tag


end Go.Proofs.YtmejfkhikgcgmaaDoor
namespace Go.Proofs.YtmejfkhikgcgmaaDoor
open Go.RowKit
set_option linter.unusedSimpArgs false
set_option linter.unusedVariables false
set_option maxRecDepth 10000

/-- The text s has the bytes l. -/
structure Str (s : ByteArray) (l : List Int) : Prop where
  len : s.size = l.length
  get : ∀ (n : Nat) (h : n < s.size), ((s[n]'h).toNat : Int) = l.getD n 0
  isb : isB l
  str : s = strOfNums l

def numsOf (s : ByteArray) : List Int := s.data.toList.map fun b => (b.toNat : Int)

theorem str_nums (s : ByteArray) : strOfNums (numsOf s) = s := by
  cases s with
  | mk d =>
    simp only [strOfNums, numsOf, List.map_map]
    congr 1
    apply Array.ext'
    simp [Function.comp_def]

theorem Str.of (l : List Int) (h : isB l) : Str (strOfNums l) l := by
  refine ⟨strOfNums_size l, fun n hn => ?_, h, rfl⟩
  have hl : n < l.length := by rw [← strOfNums_size l]; exact hn
  have hx := h l[n] (List.getElem_mem hl)
  have e : (strOfNums l)[n]'hn = UInt8.ofNat l[n].toNat := by
    show (strOfNums l).data[n]'hn = _
    simp [strOfNums]
  rw [e]
  simp [List.getD, hl, UInt8.toNat_ofNat']
  omega

theorem nums_isB (s : ByteArray) : isB (numsOf s) := fun x hx => by
  simp [numsOf] at hx
  obtain ⟨b, _, rfl⟩ := hx
  have := b.toNat_lt
  omega

theorem Str.all (s : ByteArray) : Str s (numsOf s) := by
  have := Str.of (numsOf s) (nums_isB s)
  rwa [str_nums] at this

theorem Str.uniq {s t : ByteArray} {l m : List Int} (h : Str s l) (k : Str t m) : (s.toList == t.toList) = decide (l = m) := by
  rw [h.str, k.str]; exact str_inj l m h.isb k.isb

/-- A byte that may stand in a build. -/
def mayC (c : Int) : Bool := decide (97 ≤ c ∧ c ≤ 122) || decide (48 ≤ c ∧ c ≤ 57) || decide (c = 46) || decide (c = 45)
def isBd (l : List Int) : Bool := decide (1 ≤ l.length) && decide (l.length ≤ 16) && l.all mayC
def plainL (l : List Int) : Bool := decide (l.length ≤ 16) && l.all mayC

theorem plain_bd (l : List Int) : isBd l = (decide (l ≠ []) && plainL l) := by
  cases l <;> simp [isBd, plainL]


theorem all_drop {p : Int → Bool} (l : List Int) (k : Nat) (h : k < l.length) : (l.drop k).all p = (p (l.getD k 0) && (l.drop (k + 1)).all p) := by
  rw [List.drop_eq_getElem_cons h, List.all_cons]; simp [List.getD, h]



/-- Is a tag in the level's table? -/
def knowsK (level tag : Int) : Bool := (decide (level = 2) || decide (level = 3)) && (decide (tag = 32) || decide (tag = 33)) || decide (level = 3) && decide (tag = 34)


end Go.Proofs.YtmejfkhikgcgmaaDoor
namespace Go.Proofs.YtmejfkhikgcgmaaDoor
open Go.RowKit
set_option linter.unusedSimpArgs false
set_option linter.unusedVariables false
set_option maxRecDepth 10000

/-- v owns a row of the fields L, whose bytes lie elsewhere. -/
structure OwnF (B : Nat) (W : World) (v : Value) (L : List Fd) : Prop where
  own : OwnR 55 2 W B v L.length (L.flatMap Fd.cells)
  oks : ∀ f ∈ L, FOk W f
  off : ∀ f ∈ L, 0 < f.d.length → ∀ a, f.p = some a → v.ownBlock ≠ some a.block

theorem OwnF.nil (B : Nat) (W : World) : OwnF B W (.slice none 0 0) [] := ⟨OwnR.nil _ _ _ _, fun f hf => (by simp at hf), fun f hf => (by simp at hf)⟩

theorem OwnF.on {B : Nat} {W W' : World} {v : Value} {L : List Fd} (h : OwnF B W v L) (k : Below W.heap.size W W') : OwnF B W' v L :=
  ⟨h.own.below k, fun f hf => (h.oks f hf).below k, h.off⟩

theorem FOk.lt {W : World} {f : Fd} (h : FOk W f) (hl : 0 < f.d.length) (a : Addr) (ha : f.p = some a) : a.block < W.heap.size := by
  obtain ⟨b, o, e, hc⟩ := h.bin hl
  rw [ha] at e
  cases e
  exact lt_of_cell (hc 0 hl)

theorem OwnF.add {B : Nat} {W W' : World} {v v' : Value} {L : List Fd} {f : Fd} (h : OwnF B W v L) (hB : B ≤ W.heap.size) (hf : FOk W f) (ho : 0 < f.d.length → ∀ a, f.p = some a → v.ownBlock ≠ some a.block)
    (hA : Appended W 55 2 v L.length (L.flatMap Fd.cells) 1 ([f].flatMap Fd.cells) v' W') : OwnF B W' v' (L ++ [f]) ∧ Below B W W' := by
  obtain ⟨h1, h2⟩ := h.own.next hB hA
  have hall : ∀ g ∈ L ++ [f], FOk W g ∧ (0 < g.d.length → ∀ a, g.p = some a → v.ownBlock ≠ some a.block) := fun g hg => by
    rcases List.mem_append.1 hg with q | q
    · exact ⟨h.oks g q, h.off g q⟩
    · simp at q; subst q; exact ⟨hf, ho⟩
  refine ⟨⟨by rw [List.length_append, flatF_append]; exact h1, fun g hg => (hall g hg).1.fr hA.fr fun hl a ha => (hall g hg).2 hl a ha, fun g hg hl a ha => ?_⟩, h2⟩
  rcases hA.moved with q | ⟨k, hk, hk2⟩
  · rw [q]; exact (hall g hg).2 hl a ha
  · rw [hk]
    have := (hall g hg).1.lt hl a ha
    simp
    omega

/-- 'append(v, y)' of one field that was laid for it. -/
theorem wpList_addN {W : World} {ops : Array Oper} {rest : List Oper} {o : Oper} {ac : Act} {Q : Exit → Act → World → Prop} (hgd : o.guard = none) (s x : Operand)
    (ho : o.op = .call { callee := .builtin .append, args := #[s, x], argTypes := #[42, 42] })
    {B : Nat} {v : Value} {L : List Fd} (hs : ac.eval s = v) (h3 : OwnF B W v L) (hB : B ≤ W.heap.size) (tg : Int) (p : Option Addr) (n cp : Nat) (d : List Int) (hn : d.length = n) (hy : FOk W ⟨tg, p, cp, d⟩) (hoff : 0 < d.length → ∀ a, p = some a → v.ownBlock ≠ some a.block) (hx : ac.eval x = .slice (some ⟨W.heap.size, 0, none⟩) 1 1) (hl : L.length ≤ 1000000)
    (h : ∀ v' w', OwnF B w' v' (L ++ [⟨tg, p, cp, d⟩]) → Below B W w' → wpList Tryd.prog ops Q rest (ac.put o.dst v') w') : wpList Tryd.prog ops Q (o :: rest) ac (W.alloc (.cells #[.int .i64 tg, .slice p n cp] 55)) := by
  subst hn
  obtain ⟨y, hyy⟩ : ∃ y : Fd, y = ⟨tg, p, cp, d⟩ := ⟨_, rfl⟩
  rw [← hyy] at hy h
  rw [show W.alloc (.cells #[.int .i64 tg, .slice p d.length cp] 55) = W.alloc (.cells #[.int .i64 y.tag, .slice y.p y.d.length y.cap] 55) by rw [hyy]]
  obtain ⟨i0, hi, hz0, hz1, hz2⟩ := info_parts infoF
  have hb : Below W.heap.size W (W.alloc (.cells #[.int .i64 y.tag, .slice y.p y.d.length y.cap] 55)) := (Below.refl _ _).alloc (Nat.le_refl _) _
  refine wpList_append_fr hgd s x 42 ho 55 i0 _ 2 32 Tryd.underlying42 hi hz0 hz1 hz2 rfl (by decide) v L.length _ hs (h3.on hb).own.owns (some ⟨W.heap.size, 0, none⟩) 1 1 ([y].flatMap Fd.cells) hx (by simp) (by simp [Fd.cells]) (fun _ => ?_) (flat_one _) (by unfold maxLen; omega) (by omega) fun v' w' hA => ?_
  · refine ⟨_, rfl, fun j u hj => ?_⟩
    have hg := heap_alloc_new W (.cells #[.int .i64 y.tag, .slice y.p y.d.length y.cap] 55)
    rw [Go.WideShapes.add_plain]
    generalize W.alloc (.cells #[.int .i64 y.tag, .slice y.p y.d.length y.cap] 55) = X at hg ⊢
    simp [World.cell?, hg]
    simpa [Fd.cells] using hj
  · obtain ⟨k1, k2⟩ := (h3.on hb).add (f := y) (Nat.le_trans hB hb.size) (hy.below hb) (by rw [hyy]; exact hoff) hA
    exact h v' w' k1 ((hb.mono hB).trans k2)

theorem two_set {w : World} {b : Nat} {x y : Value} {t : TypeId} (h : w.heap[b]? = some (.cells #[x, y] t (0, 0))) (u v : Value) :
    ((w.setCell ⟨b, 0, none⟩ u).setCell ⟨b, 1, none⟩ v).cell? ⟨b, 0, none⟩ = some u ∧ ((w.setCell ⟨b, 0, none⟩ u).setCell ⟨b, 1, none⟩ v).cell? ⟨b, 1, none⟩ = some v := by
  obtain ⟨h0, h1, _, _⟩ := two_cells (set_second (set_first h u) v)
  exact ⟨h0, h1⟩

theorem own_ne {e : TypeId} {size : Nat} {W : World} {B : Nat} {v : Value} {n : Nat} {xs : List Value} (h : OwnR e size W B v n xs) (g : Nat) (hg : W.heap.size ≤ g) : v.ownBlock ≠ some g := fun q => by
  have := (h.owns.lt g q).2
  omega


/-- The fields of a zone, a load and a build. -/
def madeK (z l : Int) (b : List Int) : List Key :=
  (if z = -1 then [] else [(32, digB 1 z)]) ++ (if l = -1 then [] else [(33, digB 2 l)]) ++ (if b = [] then [] else [(34, b)])

theorem Str.empty {s : ByteArray} {l : List Int} (h : Str s l) : s.toList.isEmpty = decide (l = []) := by
  rw [h.str, ByteArray.toList_eq, strOfNums_data]
  cases l <;> simp

/-- A field whose bytes were laid in a new block. -/
theorem FOk.new {W : World} {tg : Int} {g n : Nat} {d : List Int} (ht : (Lit.int .i64 tg).wf = true) (hB : BIn W (some ⟨g, 0, none⟩) d) (hn : d.length = n) (hs : n ≤ 1000) (hb : isB d) : FOk W ⟨tg, some ⟨g, 0, none⟩, n, d⟩ :=
  ⟨ht, by simp [hn], by simp only [maxLen]; omega, by simp, hB, hb, by simp only [hn]; omega⟩

theorem bytesRow_cells (s : ByteArray) (b : List Int) (hs : Str s b) (cap : Nat) : ∃ rest : List Value, bytesRow s cap = (b.map (Value.int .u8) ++ rest).toArray := by
  refine ⟨(Array.replicate (cap - s.size) (Value.int .u8 0)).toList, ?_⟩
  have e : b = numsOf s := by
    have h := hs.uniq (Str.all s)
    simpa using h
  rw [e]
  apply Array.ext'
  simp [bytesRow, numsOf]


/-- What 'Make' answers: why not, or the fields. -/
def makeK (z l : Int) (b : List Int) : Int × List Key :=
  if z < -1 ∨ 255 < z ∨ l < -1 ∨ 65535 < l then (5, []) else if plainL b then (0, madeK z l b) else (4, [])

def MakeP (w : World) (r : Int × List Key) (e : Ending) (w' : World) : Prop := ∃ v L, e = .returned (.tuple #[v, .int .i64 r.1]) ∧ kys L = r.2 ∧ OwnF w.heap.size w' v L ∧ Below w.heap.size w w'

theorem make_no {z l : Int} {b : List Int} (h : z < -1 ∨ 255 < z ∨ l < -1 ∨ 65535 < l) : makeK z l b = (5, []) := if_pos h


end Go.Proofs.YtmejfkhikgcgmaaDoor
namespace Go.Proofs.YtmejfkhikgcgmaaDoor
open Go.RowKit
set_option linter.unusedSimpArgs false
set_option linter.unusedVariables false
set_option maxRecDepth 10000

/-- A field's box. -/
structure InBF (w : World) (f : Fd) (X : World) : Prop where
  below : Below w.heap.size w X
  box : X.heap[w.heap.size]? = some (.cells #[.int .i64 f.tag, .slice f.p f.d.length f.cap] 55 (0, 0))
theorem InBF.start (w : World) (f : Fd) : InBF w f (w.alloc (.cells #[.int .i64 f.tag, .slice f.p f.d.length f.cap] 55)) := ⟨(Below.refl _ _).alloc (Nat.le_refl _) _, heap_alloc_new _ _⟩

set_option maxHeartbeats 1600000 in
theorem tfault_any (f : Fd) (w : World) (hf : FOk w f) :
    Calls Tryd.prog 57 #[.agg #[.int .i64 f.tag, .slice f.p f.d.length f.cap]] w fun e w' => e = .returned (.int .i64 (fltK (ky f))) ∧ Below w.heap.size w w' := by
  have HB := Hid.mk' (InBF.start w f)
  have HV := Hid.mk' (show fltK (ky f) = if f.tag < 0 ∨ 255 < f.tag then 5 else if 65535 < f.d.length then 3 else 0 from rfl)
  have hcap := hf.few
  generalize fltK (ky f) = r at HV ⊢
  by_cases t1 : f.tag < 0
  · obtain rfl : r = 5 := by rw [HV.out, if_pos (.inl t1)]
    go_enter Tryd.func57, Tryd.ntmps57
    go_wp2_with fail
    go_ret
    exact ⟨rfl, HB.out.below⟩
  by_cases t2 : 255 < f.tag
  · obtain rfl : r = 5 := by rw [HV.out, if_pos (.inr t2)]
    go_enter Tryd.func57, Tryd.ntmps57
    go_wp2_with fail
    go_ret
    exact ⟨rfl, HB.out.below⟩
  by_cases t3 : 65535 < f.d.length
  · obtain rfl : r = 3 := by rw [HV.out, if_neg (by omega), if_pos t3]
    have t3' : (65535 : Int) < f.d.length := by omega
    go_enter Tryd.func57, Tryd.ntmps57
    go_wp2_with fail
    go_ret
    exact ⟨rfl, HB.out.below⟩
  · obtain rfl : r = 0 := by rw [HV.out, if_neg (by omega), if_neg t3]
    have t3' : ¬ (65535 : Int) < f.d.length := by omega
    go_enter Tryd.func57, Tryd.ntmps57
    go_wp2_with fail
    go_ret
    exact ⟨rfl, HB.out.below⟩

theorem made_two : madeCells #[Value.int .u8 0] 2 = #[.int .u8 0, .int .u8 0] := by simp [madeCells, Array.range, Array.ofFn_succ]
theorem two_BIn {w : World} {g : Nat} {x y : Int} {e : TypeId} (h : w.heap[g]? = some (.cells #[.int .u8 x, .int .u8 y] e (0, 0))) : BIn w (some ⟨g, 0, none⟩) [x, y] :=
  BIn.of_block (rest := []) (e := e) (f := (0, 0)) (by simpa using h)

set_option maxHeartbeats 1600000 in
theorem tlength_any (n : Int) (w : World) (h0 : 0 ≤ n) (h1 : n ≤ 65535) :
    Calls Tryd.prog 78 #[.int .i64 n] w fun e w' => ∃ g, e = .returned (.slice (some ⟨g, 0, none⟩) 2 2) ∧ BIn w' (some ⟨g, 0, none⟩) [n / 256 % 256, n % 256] ∧ Below w.heap.size w w' := by
  have hmk := fun w => run_make_row' (P := Tryd.prog) 29 5 (.int .u8 0) 1 Tryd.underlying29 infoA rfl .i64 .i64 2 (by omega) (by omega) w
  rw [made_two] at hmk
  simp only [Int.cast_ofNat_Int] at hmk
  go_enter Tryd.func78, Tryd.ntmps78
  go_wp2_with fail
  go_loopw [6] (fun i wr => ∃ j : Nat, j ≤ 2 ∧ i = .int .i64 j ∧ wr.heap[w.heap.size]? = some (.cells #[.int .u8 (if j = 2 then n / 256 % 256 else 0), .int .u8 (if j = 0 then 0 else n % 256)] 5 (0, 0)) ∧ Below w.heap.size w wr) (fun i _ => 2 - (intOf i).toNat)
  case atStart => exact ⟨0, by omega, rfl, by rw [heap_alloc_new]; rfl, (Below.refl _ _).alloc (Nat.le_refl _) _⟩
  case round =>
    obtain ⟨j, hj, rfl, hblk, hB⟩ := hrel
    obtain ⟨c0, c1, f0, f1⟩ := two_cells hblk
    by_cases e0 : j = 0
    · subst e0
      have HN := Hid.mk' (set_second hblk (.int .u8 (n % 256)))
      clear hblk
      simp only [if_true, Nat.reduceEqDiff, if_false, show ¬ (0 = 2) by decide] at c0 c1 HN
      go_wp2
      go_roundw
      case rel => exact ⟨1, by omega, by go_num, by simpa using HN.out, hB.setCell (Nat.le_refl _) _⟩
      case measure => simp [intOf]
    by_cases e1 : j = 1
    · subst e1
      have HN := Hid.mk' (set_first hblk (.int .u8 (n / 256 % 256)))
      clear hblk
      simp only [Nat.reduceEqDiff, if_false, show ¬ (1 = 2) by decide, show ¬ (1 = 0) by decide] at c0 c1 HN
      go_wp2
      go_roundw
      case rel => exact ⟨2, by omega, by go_num, by have h := HN.out; rw [show n / 256 % 256 = n / 256 by omega] at h ⊢; simpa using h, hB.setCell (Nat.le_refl _) _⟩
      case measure => simp [intOf]
    · obtain rfl : j = 2 := by omega
      simp only [if_true, Nat.reduceEqDiff, if_false, show ¬ (2 = 0) by decide] at hblk
      have HK := Hid.mk' hblk
      clear hblk c0 c1 f0 f1
      go_wp2
      go_ret
      exact ⟨_, rfl, two_BIn HK.out, hB⟩

theorem digB1 (z : Int) : digB 1 z = [z % 256] := by
  have e : z / 256 ^ (1 - 1 - 0) % 256 = z % 256 := by simp
  show [z / 256 ^ (1 - 1 - 0) % 256] = [z % 256]
  rw [e]

/-- What a box's cells say. -/
theorem InBF.two {w X : World} {f : Fd} (h : InBF w f X) : X.cell? ⟨w.heap.size, 0, none⟩ = some (.int .i64 f.tag) ∧ X.cell? ⟨w.heap.size, 1, none⟩ = some (.slice f.p f.d.length f.cap) := by
  obtain ⟨c0, c1, _⟩ := two_cells h.box
  exact ⟨c0, c1⟩

set_option maxHeartbeats 4000000 in
theorem tput_any (W0 : World) (b : Nat) (l : List Int) (f : Fd) (w : World) (h : WrB w W0.heap.size b l false) (hf : FOk W0 f) (hb : Below W0.heap.size W0 w) (hk : fltK (ky f) = 0) (hlen : l.length + f.d.length + 100 ≤ 140737488355328) :
    Calls Tryd.prog 58 #[.pointer (some ⟨b, 0, none⟩), .agg #[.int .i64 f.tag, .slice f.p f.d.length f.cap]] w fun e w' => e = .returned (.tuple #[]) ∧ WrB w' W0.heap.size b (l ++ encK (ky f)) false ∧ Below W0.heap.size W0 w' := by
  obtain ⟨⟨ht0, ht1⟩, hd⟩ := fltK_ok hk
  simp only [ky] at ht0 ht1 hd
  have HI := Hid.mk' (InBF.start w f)
  have HW := Hid.mk' (WrN.of h (.cells #[.int .i64 f.tag, .slice f.p f.d.length f.cap] 55))
  have HB := Hid.mk' (hb.alloc hb.size (.cells #[.int .i64 f.tag, .slice f.p f.d.length f.cap] 55))
  have HF := Hid.mk' hf
  have HNIL := Hid.mk' hf.nil
  have HE := Hid.mk' (show l ++ encK (ky f) = ((l ++ digB 1 f.tag) ++ [(f.d.length : Int) / 256 % 256, (f.d.length : Int) % 256]) ++ f.d by rw [digB1]; simp [encK, ky])
  have hcap := hf.few
  generalize l ++ encK (ky f) = L2 at HE ⊢
  clear h hf hb hk
  go_enter Tryd.func58, Tryd.ntmps58
  go_wp2_with fail
  generalize w.alloc (.cells #[.int .i64 f.tag, .slice f.p f.d.length f.cap] 55) = w1 at HI HW HB ⊢
  have hS0 : (w1.drew.cell? ⟨w.heap.size, 0, none⟩ = some (.int .i64 f.tag) ∧ w1.drew.cell? ⟨w.heap.size, 1, none⟩ = some (.slice f.p f.d.length f.cap)) ∧ Hid (w1.drew.heap[w.heap.size]? = some (.cells #[.int .i64 f.tag, .slice f.p f.d.length f.cap] 55 (0, 0))) := ⟨HI.out.two, HI.out.box⟩
  have HWd := Hid.mk' (HW.out.below (Below.refl _ _).drew)
  have HBd := Hid.mk' (show Below W0.heap.size W0 w1.drew from HB.out.drew)
  clear HI HW HB
  refine wp_region_held_drew (S := fun X => (X.cell? ⟨w.heap.size, 0, none⟩ = some (.int .i64 f.tag) ∧ X.cell? ⟨w.heap.size, 1, none⟩ = some (.slice f.p f.d.length f.cap)) ∧ Hid (X.heap[w.heap.size]? = some (.cells #[.int .i64 f.tag, .slice f.p f.d.length f.cap] 55 (0, 0)))) (by kernel_rfl) hS0 (fun hS => ?_)
  clear hS0
  generalize w1.drew = wd at hS HWd HBd ⊢
  have hl2 : ∀ k : Nat, k = (l ++ digB 1 f.tag).length → k = l.length + 1 := fun k hk => by rw [hk, List.length_append, digB_len]
  refine wpAnyH_take (i := 0) (v := ?v0_10) rfl (by kernel_rfl) (by kernel_rfl) (by kernel_rfl) (fun _ _ _ h => h) (Or.inl ⟨by rfl, ?hy0_10⟩) (by assumption) ?rest0_10
  case hy0_10 => (intro w hSw; (try dsimp only at hSw); go_simp; try (with_reducible rfl))
  simp only [Act.put, List.getElem_toArray, List.getElem_cons_zero, List.getElem_cons_succ, List.setIfInBounds_toArray, List.set_cons_zero, List.set_cons_succ]
  refine wpAnyH_take (i := 1) (v := ?v1_11) rfl (by kernel_rfl) (by kernel_rfl) (by kernel_rfl) (fun _ _ _ h => h) (Or.inl ⟨by rfl, ?hy1_11⟩) (by assumption) ?rest1_11
  case hy1_11 => (intro w hSw; (try dsimp only at hSw); go_simp; try (with_reducible rfl))
  simp only [Act.put, List.getElem_toArray, List.getElem_cons_zero, List.getElem_cons_succ, List.setIfInBounds_toArray, List.set_cons_zero, List.set_cons_succ]
  refine wpAnyH_take (i := 2) (v := ?v2_12) rfl (by kernel_rfl) (by kernel_rfl) (by kernel_rfl) (fun _ _ _ h => h) (Or.inl ⟨by rfl, ?hy2_12⟩) (by assumption) ?rest2_12
  case hy2_12 => (intro w hSw; (try dsimp only at hSw); go_simp; try (with_reducible rfl))
  simp only [Act.put, List.getElem_toArray, List.getElem_cons_zero, List.getElem_cons_succ, List.setIfInBounds_toArray, List.set_cons_zero, List.set_cons_succ]
  refine wpAnyH_take (i := 4) (v := ?v4_13) rfl (by kernel_rfl) (by kernel_rfl) (by kernel_rfl) (fun _ _ _ h => h) (Or.inl ⟨by rfl, ?hy4_13⟩) (by assumption) ?rest4_13
  case hy4_13 => (intro w hSw; (try dsimp only at hSw); go_simp; try (with_reducible rfl))
  simp only [Act.put, List.getElem_toArray, List.getElem_cons_zero, List.getElem_cons_succ, List.setIfInBounds_toArray, List.set_cons_zero, List.set_cons_succ]
  refine wpAnyH_take (i := 5) (v := ?v5_14) rfl (by kernel_rfl) (by kernel_rfl) (by kernel_rfl) (fun _ _ _ h => h) (Or.inl ⟨by rfl, ?hy5_14⟩) (by assumption) ?rest5_14
  case hy5_14 => (intro w hSw; (try dsimp only at hSw); go_simp; try (with_reducible rfl))
  simp only [Act.put, List.getElem_toArray, List.getElem_cons_zero, List.getElem_cons_succ, List.setIfInBounds_toArray, List.set_cons_zero, List.set_cons_succ]
  refine wpAnyH_take (i := 6) (v := ?v6_15) rfl (by kernel_rfl) (by kernel_rfl) (by kernel_rfl) (fun _ _ _ h => h) (Or.inl ⟨by rfl, ?hy6_15⟩) (by assumption) ?rest6_15
  case hy6_15 => (intro w hSw; (try dsimp only at hSw); go_simp; try (with_reducible rfl))
  simp only [Act.put, List.getElem_toArray, List.getElem_cons_zero, List.getElem_cons_succ, List.setIfInBounds_toArray, List.set_cons_zero, List.set_cons_succ]
  refine wpAnyH_take (i := 9) (v := ?v9_16) rfl (by kernel_rfl) (by kernel_rfl) (by kernel_rfl) (fun _ _ _ h => h) (Or.inl ⟨by rfl, ?hy9_16⟩) (by assumption) ?rest9_16
  case hy9_16 => (intro w hSw; (try dsimp only at hSw); go_simp; try (with_reducible rfl))
  simp only [Act.put, List.getElem_toArray, List.getElem_cons_zero, List.getElem_cons_succ, List.setIfInBounds_toArray, List.set_cons_zero, List.set_cons_succ]
  refine wpAnyH_take (i := 10) (v := ?v10_17) rfl (by kernel_rfl) (by kernel_rfl) (by kernel_rfl) (fun _ _ _ h => h) (Or.inl ⟨by rfl, ?hy10_17⟩) (by assumption) ?rest10_17
  case hy10_17 => (intro w hSw; (try dsimp only at hSw); go_simp; try (with_reducible rfl))
  simp only [Act.put, List.getElem_toArray, List.getElem_cons_zero, List.getElem_cons_succ, List.setIfInBounds_toArray, List.set_cons_zero, List.set_cons_succ]
  refine wpAnyH_ready (rs := [3]) (by kernel_rfl) (by simp) ?_
  refine (AllReadyH.cons rfl (fun K hK => ?_) AllReadyH.nil)
  go_simp
  refine (numN W0.heap.size b w.heap.size l 1 f.tag wd HWd.out (by omega) (by omega) ht0 (lt1 ht1) (by omega) (by omega)).mono ?_
  rintro e x3 ⟨rfl, hW3, hB3, hx3⟩
  have hbx3 := hx3.trans hS.2.out
  have HW3 := Hid.mk' hW3
  have HB3 := Hid.mk' (HBd.out.trans hB3)
  have hc3 := two_cells hbx3
  clear hW3 hB3 hx3 HWd HBd
  go_wp2_with fail
  refine hK.out _ _ ?_ (fun hS' => ?_)
  · exact ⟨⟨hc3.1, hc3.2.1⟩, Hid.mk' hbx3⟩
  clear hK K
  try simp only [Act.put, List.getElem_toArray, List.getElem_cons_zero, List.getElem_cons_succ, List.setIfInBounds_toArray, List.set_cons_zero, List.set_cons_succ]
  replace hS := hS'
  clear hS'
  refine wpAnyH_ready (rs := [7]) (by kernel_rfl) (by simp) ?_
  refine (AllReadyH.cons rfl (fun K hK => ?_) AllReadyH.nil)
  go_simp
  refine (tlength_any (f.d.length : Int) x3 (by omega) (by omega)).mono ?_
  rintro e x7 ⟨g7, rfl, hb7, hB7⟩
  have hbx7 := box_bel hbx3 hB7
  have HW7 := Hid.mk' (HW3.out.below hB7)
  have HB7 := Hid.mk' (HB3.out.trans (hB7.mono HB3.out.size))
  have HL7 := Hid.mk' hb7
  have hc7 := two_cells hbx7
  clear hb7 hB7 HW3 HB3 hc3
  go_wp2_with fail
  refine hK.out _ _ ?_ (fun hS' => ?_)
  · exact ⟨⟨hc7.1, hc7.2.1⟩, Hid.mk' hbx7⟩
  clear hK K
  try simp only [Act.put, List.getElem_toArray, List.getElem_cons_zero, List.getElem_cons_succ, List.setIfInBounds_toArray, List.set_cons_zero, List.set_cons_succ]
  replace hS := hS'
  clear hS'
  refine wpAnyH_ready (rs := [8]) (by kernel_rfl) (by simp) ?_
  refine (AllReadyH.cons rfl (fun K hK => ?_) AllReadyH.nil)
  go_simp
  refine (rawN W0.heap.size b w.heap.size (l ++ digB 1 f.tag) [(f.d.length : Int) / 256 % 256, (f.d.length : Int) % 256] (some ⟨g7, 0, none⟩) 2 x7 HW7.out HL7.out (by intro y hy; simp at hy; omega) (by simp) (by rw [List.length_append, digB_len]; simp; omega)).mono ?_
  rintro e x8 ⟨rfl, hW8, hB8, hx8⟩
  have hbx8 := hx8.trans hbx7
  have HW8 := Hid.mk' hW8
  have HB8 := Hid.mk' (HB7.out.trans hB8)
  have hc8 := two_cells hbx8
  clear hW8 hB8 hx8 HW7 HB7 HL7 hc7
  go_wp2_with fail
  refine hK.out _ _ ?_ (fun hS' => ?_)
  · exact ⟨⟨hc8.1, hc8.2.1⟩, Hid.mk' hbx8⟩
  clear hK K
  try simp only [Act.put, List.getElem_toArray, List.getElem_cons_zero, List.getElem_cons_succ, List.setIfInBounds_toArray, List.set_cons_zero, List.set_cons_succ]
  replace hS := hS'
  clear hS'
  refine wpAnyH_ready (rs := [11]) (by kernel_rfl) (by simp) ?_
  refine (AllReadyH.cons rfl (fun K hK => ?_) AllReadyH.nil)
  go_simp
  refine (rawN W0.heap.size b w.heap.size ((l ++ digB 1 f.tag) ++ [(f.d.length : Int) / 256 % 256, (f.d.length : Int) % 256]) f.d f.p f.cap x8 HW8.out (HF.out.below HB8.out).bin HF.out.isb HNIL.out (by simp only [List.length_append, digB_len, List.length_cons, List.length_nil]; omega)).mono ?_
  rintro e x11 ⟨rfl, hW11, hB11, hx11⟩
  have hbx11 := hx11.trans hbx8
  have HW11 := Hid.mk' hW11
  have HB11 := Hid.mk' (HB8.out.trans hB11)
  have hc11 := two_cells hbx11
  clear hW11 hB11 hx11 HW8 HB8 hc8
  go_wp2_with fail
  refine hK.out _ _ ?_ (fun hS' => ?_)
  · exact ⟨⟨hc11.1, hc11.2.1⟩, Hid.mk' hbx11⟩
  clear hK K
  try simp only [Act.put, List.getElem_toArray, List.getElem_cons_zero, List.getElem_cons_succ, List.setIfInBounds_toArray, List.set_cons_zero, List.set_cons_succ]
  replace hS := hS'
  clear hS'
  refine wpAnyH_done (by kernel_rfl) ?_ _
  go_wp2_with fail
  go_end0
  exact ⟨rfl, by rw [HE.out]; exact HW11.out.b, HB11.out⟩
end Go.Proofs.YtmejfkhikgcgmaaDoor
namespace Go.Proofs.YtmejfkhikgcgmaaDoor
open Go.RowKit
set_option linter.unusedSimpArgs false
set_option linter.unusedVariables false
set_option maxRecDepth 10000

theorem kat {l : List Fd} {L : List Key} (h : kys l = L) (i : Nat) (hi : i < L.length) : (l.getD i zf).tag = (L[i]).1 ∧ (l.getD i zf).d = (L[i]).2 := by
  subst h
  have hl : i < l.length := by rw [kys_len] at hi; exact hi
  simp [kys, ky, List.getD, hl]

theorem OwnF.fin {B : Nat} {W : World} {v : Value} {L : List Fd} (h : OwnF B W v L) : ∃ p c, v = .slice p L.length c ∧ FIn W p L ∧ (p = none → c = 0) ∧ L.length ≤ c ∧ c ≤ maxLen := own_fin h.own h.oks


/-- The place of the first field with a tag, from place k on. -/
def firstK (v : Int) : Nat → List Key → Int
  | _, [] => -1
  | k, x :: t => if x.1 = v then (k : Int) else firstK v (k + 1) t


/-- Where the first one stands, and what it says. -/
theorem firstK_get (v : Int) : ∀ (l : List Fd) (k : Nat), (firstK v k (kys l) = -1 ∧ getK v (kys l) = none) ∨ ∃ q : Nat, q < l.length ∧ firstK v k (kys l) = ((k + q : Nat) : Int) ∧ getK v (kys l) = some (l.getD q zf).d
  | [], k => .inl ⟨rfl, rfl⟩
  | x :: l, k => by
    simp only [kys, List.map_cons, firstK, getK, ky]
    by_cases t : x.tag = v
    · rw [if_pos t, if_pos t]
      exact .inr ⟨0, by simp, by simp, by simp⟩
    · rw [if_neg t, if_neg t]
      rcases firstK_get v l (k + 1) with h | ⟨q, h1, h2, h3⟩
      · exact .inl h
      · refine .inr ⟨q + 1, by simpa using h1, ?_, ?_⟩
        · simp only [kys] at h2; rw [h2]; congr 1; omega
        · simp only [kys] at h3; rw [h3]; simp
end Go.Proofs.YtmejfkhikgcgmaaDoor
namespace Go.Proofs.YtmejfkhikgcgmaaDoor
open Go.RowKit
set_option linter.unusedSimpArgs false
set_option linter.unusedVariables false
set_option maxRecDepth 10000

/-- A row of fields of its own; all their bytes lie from block B on too. -/
structure OwnT (B : Nat) (W : World) (v : Value) (L : List Fd) : Prop where
  own : OwnF B W v L
  hi : ∀ f ∈ L, 0 < f.d.length → ∀ a, f.p = some a → B ≤ a.block
theorem OwnT.on {B : Nat} {W W' : World} {v : Value} {L : List Fd} (h : OwnT B W v L) (k : Below W.heap.size W W') : OwnT B W' v L := ⟨h.own.on k, h.hi⟩
theorem OwnT.fr {B b : Nat} {W W' : World} {v : Value} {L : List Fd} (h : OwnT B W v L) (k : Fr (fun i => i = b) W W') (hb : b < B) : OwnT B W' v L :=
  ⟨⟨h.own.own.fr k fun g hg q => by have := h.own.own.above g hg; omega, fun f hf => (h.own.oks f hf).fr k fun hl a ha q => by have := h.hi f hf hl a ha; omega, h.own.off⟩, h.hi⟩

/-- What next comes to. -/
def NextP (w : World) (B b : Nat) (s : St) (e : Ending) (w' : World) : Prop :=
  ∃ p, e = .returned (.agg #[.int .i64 (nxK s).1, .slice p (nxK s).2.length (nxK s).2.length]) ∧ FOk w' ⟨(nxK s).1, p, (nxK s).2.length, (nxK s).2⟩ ∧ (0 < (nxK s).2.length → ∀ a, p = some a → w.heap.size ≤ a.block) ∧ RS B w' b (nxS s) ∧ Fr (fun i => i = b) w w'

set_option maxHeartbeats 4000000 in
theorem tnext_any (B b : Nat) (s : St) (w : World) (h : RS B w b s) (hl : ∀ l, s = some l → l.length ≤ 140737488355328) :
    Calls Tryd.prog 65 #[.pointer (some ⟨b, 0, none⟩)] w fun e w' => NextP w B b s e w' := by
  have hs := h.stB
  have h1 := nV1 hs
  have hk := nV2 (hs.nS 1)
  have hti := tV_isB ((hs.nS 1).nS 2) (nV 2 (nS 1 s)).toNat
  have htl := tV_len (nS 2 (nS 1 s)) (nV 2 (nS 1 s)).toNat
  have htag : (Lit.int .i64 (nV 1 s)).wf = true := small_wf h1.1 (by omega)
  have HP := Hid.mk' (show ∀ g w', BIn w' (some ⟨g, 0, none⟩) (tV (nV 2 (nS 1 s)).toNat (nS 2 (nS 1 s))) → (0 < (tV (nV 2 (nS 1 s)).toNat (nS 2 (nS 1 s))).length → w.heap.size ≤ g) → RS B w' b (nS (nV 2 (nS 1 s)).toNat (nS 2 (nS 1 s))) → Fr (fun i => i = b) w w' → NextP w B b s (.returned (.agg #[.int .i64 (nV 1 s), .slice (some ⟨g, 0, none⟩) (tV (nV 2 (nS 1 s)).toNat (nS 2 (nS 1 s))).length (tV (nV 2 (nS 1 s)).toNat (nS 2 (nS 1 s))).length])) w' from
    fun g w' q1 q2 q3 q4 => ⟨some ⟨g, 0, none⟩, rfl, ⟨htag, Nat.le_refl _, by simp only [nxK, maxLen]; omega, by simp, q1, hti, by simp only [nxK]; omega⟩, fun hl a ha => by cases ha; exact q2 hl, q3, q4⟩)
  have HLL := Hid.mk' (show ∀ l, nS 2 (nS 1 s) = some l → l.length ≤ 140737488355328 from fun l e => by
    cases s with
    | none => cases e
    | some b0 =>
      have hb0 := hl b0 rfl
      by_cases q1 : 1 ≤ b0.length
      · rw [nS_some q1] at e
        by_cases q2 : 2 ≤ (b0.drop 1).length
        · rw [nS_some q2] at e; cases e; simp; omega
        · rw [nS_short (by omega)] at e; cases e
      · rw [nS_short (by omega)] at e; cases e)
  generalize NextP w B b s = Post at HP ⊢
  have B1 := (Below.refl w.heap.size w).alloc (Nat.le_refl _) (.cells #[.int .i64 0, .slice none 0 0] 55)
  have HG0 := Hid.mk' (heap_alloc_new w (.cells #[.int .i64 0, .slice none 0 0] 55))
  have HR0 := Hid.mk' (h.on B1)
  have HF0 := Hid.mk' (Fr.of_below B1 fun i => i = b)
  have HN := Hid.mk' (show w.heap.size ≠ b by have := h.lt; have := h.le; omega)
  have HLT := Hid.mk' h.lt
  have HLE := Hid.mk' h.le
  have N1 := gnum_any B b 1 s _ HR0.out (by omega) (by omega)
  have N2 := Hid.mk' (fun X (q : RS B X b (nS 1 s)) => gnum_any B b 2 (nS 1 s) X q (by omega) (by omega))
  obtain ⟨k, hkk⟩ : ∃ k : Nat, nV 2 (nS 1 s) = k := ⟨(nV 2 (nS 1 s)).toNat, by omega⟩
  rw [hkk] at N2 HP hk
  rw [Int.toNat_natCast] at HP
  have N3 := Hid.mk' (fun X (q : RS B X b (nS 2 (nS 1 s))) => gtake_any B b k (nS 2 (nS 1 s)) X q HLL.out)
  obtain ⟨x0, hx0⟩ : ∃ x, nV 1 s = x := ⟨_, rfl⟩
  rw [hx0] at N1 HP
  clear h hs hti htl htag hkk hx0 B1 h1
  generalize tV k (nS 2 (nS 1 s)) = d at HP N3
  go_enter Tryd.func65, Tryd.ntmps65
  go_wp2_with fail
  refine N1.mono ?_
  rintro e w1 ⟨rfl, hr1, hf1⟩
  have HG1 := Hid.mk' (box_on HG0.out hf1 HN.out)
  have HF1 := Hid.mk' (fr_on HF0.out hf1)
  have HR1 := Hid.mk' hr1
  clear hr1 hf1 HG0 HF0 HR0 N1
  go_wp2_with fail
  refine (N2.out w1 HR1.out).mono ?_
  rintro e w2 ⟨rfl, hr2, hf2⟩
  have HG2 := Hid.mk' (box_on HG1.out hf2 HN.out)
  have HF2 := Hid.mk' (fr_on HF1.out hf2)
  have HR2 := Hid.mk' hr2
  clear hr2 hf2 HG1 HF1 HR1 N2
  go_wp2_with fail
  refine (N3.out w2 HR2.out).mono ?_
  rintro e w3 ⟨g, rfl, hbi, hgg, hr3, hf3⟩
  have hbox := box_on HG2.out hf3 HN.out
  obtain ⟨c0, c1, f0, f1⟩ := two_cells hbox
  have HBX := Hid.mk' hbox
  have HF3 := Hid.mk' (fr_on HF2.out hf3)
  have HR3 := Hid.mk' hr3
  have HBI := Hid.mk' hbi
  have HGG := Hid.mk' (show 0 < d.length → w.heap.size < g from fun q => by have := hgg q; have := box_lt HG2.out; omega)
  clear hr3 hf3 hbi hgg HG2 HF2 HR2 N3 hbox
  obtain ⟨Q0, Q1⟩ := two_set HBX.out (.int .i64 x0) (.slice (some ⟨g, 0, none⟩) d.length d.length)
  have HQ0 := Hid.mk' Q0
  have HQ1 := Hid.mk' Q1
  clear Q0 Q1
  go_wp2_with fail
  have f : Below w.heap.size w3 ((w3.setCell ⟨w.heap.size, 0, none⟩ (.int .i64 x0)).setCell ⟨w.heap.size, 1, none⟩ (.slice (some ⟨g, 0, none⟩) d.length d.length)) :=
    ((Below.refl w.heap.size w3).setCell (p := ⟨w.heap.size, 0, none⟩) (Nat.le_refl _) _).setCell (p := ⟨w.heap.size, 1, none⟩) (Nat.le_refl _) _
  have f2 : Fr (fun k => k = w.heap.size) w3 ((w3.setCell ⟨w.heap.size, 0, none⟩ (.int .i64 x0)).setCell ⟨w.heap.size, 1, none⟩ (.slice (some ⟨g, 0, none⟩) d.length d.length)) :=
    Fr.setCell (S := fun k => k = w.heap.size) (p := ⟨w.heap.size, 1, none⟩) (Fr.setCell (S := fun k => k = w.heap.size) (p := ⟨w.heap.size, 0, none⟩) (Fr.refl _ _) (.inl rfl) _) (.inl rfl) _
  have hbi : BIn ((w3.setCell ⟨w.heap.size, 0, none⟩ (.int .i64 x0)).setCell ⟨w.heap.size, 1, none⟩ (.slice (some ⟨g, 0, none⟩) d.length d.length)) (some ⟨g, 0, none⟩) d := fun hl => (HBI.out.fr f2 (fun a ha _ q => by cases ha; have := HGG.out hl; simp only at q; omega)) hl
  exact bodyPost_ret (v := .agg #[.int .i64 x0, .slice (some ⟨g, 0, none⟩) d.length d.length]) (by have q0 := HQ0.out; have q1 := HQ1.out; simp [results, Tryd.results65, go_sem, q0, q1]) rfl
    (HP.out g _ hbi (fun hl => Nat.le_of_lt (HGG.out hl)) (HR3.out.low (f.mono HLE.out)) (fr_bel0 HF3.out f))

def sliceLen : Value → Nat
  | .slice _ n _ => n
  | _ => 0

/-- What is left comes behind what is split already. -/
def RestT (l : List Int) (L : List Fd) : St → Prop
  | some r => splitB l = (splitB r).map (kys L ++ ·) ∧ 3 * L.length + r.length ≤ l.length
  | none => splitB l = none
theorem RestT.start (l : List Int) : RestT l [] (some l) := ⟨by simp [kys], by simp⟩
theorem RestT.next {l r : List Int} {L : List Fd} (hb : isB r) (h0 : 0 < r.length) (h : RestT l L (some r)) (p : Option Addr) (c : Nat) : RestT l (L ++ [⟨(nxK (some r)).1, p, c, (nxK (some r)).2⟩]) (nxS (some r)) := by
  obtain ⟨h1, h2⟩ := h
  by_cases q : r.length < 3 + itLen r ∨ r.length < 3
  · rw [nx_no q]
    show splitB l = none
    rw [h1, splitB_short h0 q]
    rfl
  · obtain ⟨e1, e2⟩ := nx_ok hb (by omega) (by omega)
    rw [e1, e2]
    refine ⟨?_, ?_⟩
    · rw [h1, splitB_step (by omega) (by omega), Option.map_map]
      congr 1
      funext x
      simp [kys, ky]
    · simp only [List.length_append, List.length_cons, List.length_nil, List.length_drop]
      omega
theorem RestT.few {l r : List Int} {L : List Fd} (h0 : 0 < r.length) (h : RestT l L (some r)) : L.length + 1 ≤ l.length := by
  obtain ⟨_, h2⟩ := h
  omega
theorem RestT.done {l : List Int} {L : List Fd} {s : St} (h : RestT l L s) (h0 : lV s = 0) : splitB l = if s.isNone = true then none else some (kys L) := by
  cases s with
  | none => exact h
  | some r =>
    have hr : r = [] := List.eq_nil_of_length_eq_zero h0
    subst hr
    rw [h.1, splitB_nil]
    simp

/-- What Split comes to. -/
def SplitP (w : World) (l : List Int) (e : Ending) (w' : World) : Prop :=
  ((splitB l = none ∧ e = .returned (.tuple #[.slice none 0 0, .int .i64 2])) ∨
   ∃ p c L, splitB l = some (kys L) ∧ e = .returned (.tuple #[.slice p L.length c, .int .i64 0]) ∧ OwnT w.heap.size w' (.slice p L.length c) L) ∧ Below w.heap.size w w'

theorem OwnT.low {B B' : Nat} {W : World} {v : Value} {L : List Fd} (h : OwnT B W v L) (k : B' ≤ B) : OwnT B' W v L :=
  ⟨⟨⟨h.own.own.owns, fun g hg => Nat.le_trans k (h.own.own.above g hg)⟩, h.own.oks, h.own.off⟩, fun f hf hl a ha => Nat.le_trans k (h.hi f hf hl a ha)⟩

set_option maxHeartbeats 4000000 in
theorem tsplit_any (p : Option Addr) (c : Nat) (l : List Int) (w : World) (hp : BIn w p l) (hb : isB l) (hl : l.length ≤ 1000000) :
    Calls Tryd.prog 46 #[.slice p l.length c] w fun e w' => SplitP w l e w' := by
  have HY := Hid.mk' (show ∀ p c L w', splitB l = some (kys L) → OwnT w.heap.size w' (.slice p L.length c) L → Below w.heap.size w w' → SplitP w l (.returned (.tuple #[.slice p L.length c, .int .i64 0])) w' from fun p c L w' h1 h2 h3 => ⟨.inr ⟨p, c, L, h1, rfl, h2⟩, h3⟩)
  have HN := Hid.mk' (show ∀ w', splitB l = none → Below w.heap.size w w' → SplitP w l (.returned (.tuple #[.slice none 0 0, .int .i64 2])) w' from fun w' h1 h3 => ⟨.inl ⟨h1, rfl⟩, h3⟩)
  generalize SplitP w l = Post at HY HN ⊢
  have R := gread_any p c l w hp hb (by omega)
  have HSB := Hid.mk' hb
  clear hp hb
  go_enter Tryd.func46, Tryd.ntmps46
  go_wp2_with fail
  refine R.mono ?_
  clear R
  rintro e w1 ⟨b, rfl, hb1, hR1, hbel⟩
  have HB1 := Hid.mk' hbel
  have HR1 := Hid.mk' hR1
  have HBB := Hid.mk' hb1
  clear hbel hR1 hb1
  go_wp2_with fail
  go_loopw [5] (fun v W => ∃ p c L s, v = .slice p L.length c ∧ L.length ≤ l.length ∧ Hid (OwnT w1.heap.size W (.slice p L.length c) L) ∧ Hid (RS w1.heap.size W b s) ∧ Hid (RestT l L s) ∧ Hid (Below w.heap.size w W)) (fun v _ => l.length - sliceLen v)
  case atStart => exact ⟨none, 0, [], some l, rfl, by simp, ⟨OwnF.nil _ _, by simp⟩, HR1, RestT.start l, HB1⟩
  case round =>
    obtain ⟨p2, c2, L, s, rfl, hLl, HO, HR, HT, HB⟩ := hrel
    have LF := gleft_any _ b s wr HR.out
    obtain ⟨n, hn⟩ : ∃ n, lV s = n := ⟨_, rfl⟩
    rw [hn] at LF
    by_cases t : 0 < n
    · obtain ⟨r, rfl⟩ : ∃ r, s = some r := by
        cases s with
        | none => simp [lV] at hn; omega
        | some r => exact ⟨r, rfl⟩
      have hr0 : 0 < r.length := by simp only [lV] at hn; omega
      have hrl : L.length + 1 ≤ l.length := RestT.few hr0 HT.out
      have hrb : isB r := HR.out.stB r rfl
      have NX := tnext_any _ b (some r) wr HR.out (fun l' e => by cases e; have := HT.out.2; omega)
      have HNT := Hid.mk' (RestT.next hrb hr0 HT.out)
      obtain ⟨np, hnp⟩ : ∃ np, NextP wr w1.heap.size b (some r) = np := ⟨_, rfl⟩
      have HNP := Hid.mk' hnp
      rw [hnp] at NX
      have t' : (0 : Int) < (n : Int) := by omega
      clear hn hrb hr0 hnp HT
      go_wp2_with fail
      refine LF.mono ?_
      clear LF
      rintro e w2 ⟨rfl, rfl⟩
      go_wp2_with fail
      refine NX.mono ?_
      clear NX
      intro e w2 hN
      rw [← HNP.out] at hN
      obtain ⟨pn, rfl, hok, hoff, hR2, hF2⟩ := hN
      have HNT2 := Hid.mk' (HNT.out pn (nxK (some r)).2.length)
      generalize nxK (some r) = x at hok hoff HNT2 ⊢
      generalize nxS (some r) = s2 at hR2 HNT2
      obtain ⟨tg, d⟩ := x
      dsimp only at hok hoff HNT2 ⊢
      have HO2 := Hid.mk' (HO.out.fr hF2 HR.out.lt)
      have HR2 := Hid.mk' hR2
      have HOK := Hid.mk' hok
      have HB2 := Hid.mk' (HB.out.trans (hF2.below (fun i q => by have := HBB.out; omega) HB.out.size))
      have HOF := Hid.mk' hoff
      have HOV := Hid.mk' (show 0 < d.length → ∀ a, pn = some a → (Value.slice p2 L.length c2).ownBlock ≠ some a.block from fun hl a ha => own_ne HO.out.own.own a.block (hoff hl a ha))
      have HWS := Hid.mk' (show w1.heap.size ≤ wr.heap.size from HR.out.le)
      clear hok hoff hR2 hF2 HO HR HB HNT HNP
      go_wp2_with (at_builtin; refine wpList_addN (by rfl) (.tmp 11) (.tmp 14) (by rfl) (by rfl) (by exact HO2.out.own) (by exact HR2.out.le) tg pn d.length d.length d rfl (by exact HOK.out) (by exact HOV.out) (by rfl) (by omega) ?_)
      intro v' w' ho hbw
      have hlen : (L ++ [(⟨tg, pn, d.length, d⟩ : Fd)]).length = L.length + 1 := by simp
      obtain ⟨p3, c3, rfl, _⟩ := ho.own.slice
      have HO3 := Hid.mk' (show OwnT w1.heap.size w' (.slice p3 (L ++ [(⟨tg, pn, d.length, d⟩ : Fd)]).length c3) (L ++ [(⟨tg, pn, d.length, d⟩ : Fd)]) from ⟨ho, fun f hf hl a ha => by
        rcases List.mem_append.1 hf with q | q
        · exact HO2.out.hi f q hl a ha
        · simp at q; subst q; exact Nat.le_trans HWS.out (HOF.out hl a ha)⟩)
      have HR3 := Hid.mk' (HR2.out.low hbw)
      have HB3 := Hid.mk' (HB2.out.trans (hbw.mono HB1.out.size))
      clear ho hbw HO2 HR2 HB2 HOK HOF HOV
      generalize L ++ [(⟨tg, pn, d.length, d⟩ : Fd)] = L2 at hlen HO3 HNT2
      rw [hlen] at HO3
      rw [hlen]
      have HL2 := Hid.mk' hlen
      clear hlen
      go_wp2_with fail
      go_roundw
      case rel => exact ⟨p3, c3, L2, s2, by rw [HL2.out], by rw [HL2.out]; omega, by rw [HL2.out]; exact HO3, HR3, HNT2, HB3⟩
      case measure => simp [sliceLen]; omega
    · obtain rfl : n = 0 := by omega
      have BD := gbad_any _ b s wr HR.out
      have HD := Hid.mk' (HT.out.done hn)
      obtain ⟨d, hd⟩ : ∃ d, s.isNone = d := ⟨_, rfl⟩
      rw [hd] at BD HD
      clear hn hd HT
      go_wp2_with fail
      refine LF.mono ?_
      clear LF
      rintro e w2 ⟨rfl, rfl⟩
      go_wp2_with fail
      refine BD.mono ?_
      clear BD
      rintro e w2 ⟨rfl, rfl⟩
      cases d
      · have HQ := Hid.mk' (HY.out p2 c2 L wr (by rw [HD.out]; rfl) (HO.out.low HB1.out.size) HB.out)
        clear HO HR HB HD
        go_wp2_with fail
        exact HQ.out
      · have HQ := Hid.mk' (HN.out wr (by rw [HD.out]; rfl) HB.out)
        clear HO HR HB HD
        go_wp2_with fail
        exact HQ.out

/-- What Split comes to, in one form. -/
theorem split_one {w : World} {l : List Int} {e : Ending} {w' : World} (h : SplitP w l e w') : ∃ p c L er, e = .returned (.tuple #[.slice p L.length c, .int .i64 er]) ∧ OwnT w.heap.size w' (.slice p L.length c) L ∧ Below w.heap.size w w' ∧ ((splitB l = none ∧ er = 2 ∧ L = []) ∨ (splitB l = some (kys L) ∧ er = 0)) := by
  obtain ⟨h1, h2⟩ := h
  rcases h1 with ⟨h3, rfl⟩ | ⟨p, c, L, h3, rfl, h4⟩
  · exact ⟨none, 0, [], 2, rfl, ⟨OwnF.nil _ _, by simp⟩, h2, .inl ⟨h3, rfl, rfl⟩⟩
  · exact ⟨p, c, L, 0, rfl, h4, h2, .inr ⟨h3, rfl⟩⟩

/-- 'append(v, y)' of one field that was laid for it, as one step of a region that draws its order. -/
theorem step_addN {W : World} {ops : Array Oper} {o : Oper} {ac : Act} {K : Act → World → Prop} {Q : Exit → Act → World → Prop} {E : Prop} (hgd : o.guard = none) (s x : Operand)
    (ho : o.op = .call { callee := .builtin .append, args := #[s, x], argTypes := #[42, 42] })
    {B : Nat} {v : Value} {L : List Fd} (hs : ac.eval s = v) (h3 : OwnF B W v L) (hB : B ≤ W.heap.size) (tg : Int) (p : Option Addr) (n cp : Nat) (d : List Int) (hn : d.length = n) (hy : FOk W ⟨tg, p, cp, d⟩) (hoff : 0 < d.length → ∀ a, p = some a → v.ownBlock ≠ some a.block) (hx : ac.eval x = .slice (some ⟨W.heap.size, 0, none⟩) 1 1) (hl : L.length ≤ 1000000)
    (h : ∀ v' w', OwnF B w' v' (L ++ [⟨tg, p, cp, d⟩]) → Below B W w' → K (ac.put o.dst v') w') : if Region.wanted o (yielded ops ac.tmps) = true then Oper.wp Tryd.prog o ac (W.alloc (.cells #[.int .i64 tg, .slice p n cp] 55)) K Q else E := by
  subst hn
  obtain ⟨y, hyy⟩ : ∃ y : Fd, y = ⟨tg, p, cp, d⟩ := ⟨_, rfl⟩
  rw [← hyy] at hy h
  rw [show W.alloc (.cells #[.int .i64 tg, .slice p d.length cp] 55) = W.alloc (.cells #[.int .i64 y.tag, .slice y.p y.d.length y.cap] 55) by rw [hyy]]
  obtain ⟨i0, hi, hz0, hz1, hz2⟩ := info_parts infoF
  have hb : Below W.heap.size W (W.alloc (.cells #[.int .i64 y.tag, .slice y.p y.d.length y.cap] 55)) := (Below.refl _ _).alloc (Nat.le_refl _) _
  refine step_append_fr hgd s x 42 ho 55 i0 _ 2 32 Tryd.underlying42 hi hz0 hz1 hz2 rfl (by decide) v L.length _ hs (h3.on hb).own.owns (some ⟨W.heap.size, 0, none⟩) 1 1 ([y].flatMap Fd.cells) hx (by simp) (by simp [Fd.cells]) (fun _ => ?_) (flat_one _) (by unfold maxLen; omega) (by omega) fun v' w' hA => ?_
  · refine ⟨_, rfl, fun j u hj => ?_⟩
    have hg := heap_alloc_new W (.cells #[.int .i64 y.tag, .slice y.p y.d.length y.cap] 55)
    rw [Go.WideShapes.add_plain]
    generalize W.alloc (.cells #[.int .i64 y.tag, .slice y.p y.d.length y.cap] 55) = X at hg ⊢
    simp [World.cell?, hg]
    simpa [Fd.cells] using hj
  · obtain ⟨k1, k2⟩ := (h3.on hb).add (f := y) (Nat.le_trans hB hb.size) (hy.below hb) (by rw [hyy]; exact hoff) hA
    exact h v' w' k1 ((hb.mono hB).trans k2)
end Go.Proofs.YtmejfkhikgcgmaaDoor
namespace Go.Proofs.YtmejfkhikgcgmaaDoor
open Go.RowKit
set_option linter.unusedSimpArgs false
set_option linter.unusedVariables false
set_option maxRecDepth 10000
set_option synthInstance.maxSize 2000

/-- What rows answers. -/
def RowsP (w : World) (b : List Int) (ts : List (Int × Nat)) (e : Ending) (w' : World) : Prop :=
  ((∃ p c L, splitB b = some (kys L) ∧ rowsOk ts (kys L) = true ∧ e = .returned (.tuple #[.slice p L.length c, .bool true]) ∧ OwnT w.heap.size w' (.slice p L.length c) L) ∨
   ((∀ l, splitB b = some l → rowsOk ts l = false) ∧ e = .returned (.tuple #[.slice none 0 0, .bool false]))) ∧ Below w.heap.size w w'

theorem rowsOk_step (ts : List (Int × Nat)) (L : List Fd) (k : Nat) (h : k < ts.length) (h2 : k < L.length) :
    rowsOk (ts.drop k) (kys (L.drop k)) = ((decide ((L.getD k zf).tag = (ts.getD k (0, 0)).1) && decide ((L.getD k zf).d.length = (ts.getD k (0, 0)).2)) && rowsOk (ts.drop (k + 1)) (kys (L.drop (k + 1)))) := by
  rw [drop_next L k h2, List.drop_eq_getElem_cons h]
  have e : ts[k] = ts.getD k (0, 0) := by simp [List.getD, h]
  rw [e]
  rfl

set_option maxHeartbeats 4000000 in
theorem lrows_any (p : Option Addr) (c : Nat) (b : List Int) (tp : Option Addr) (tc : Nat) (wp : Option Addr) (wc : Nat) (ts : List (Int × Nat)) (w : World) (hp : BIn w p b) (hb : isB b) (hl : b.length ≤ 1000000) (ht : NIn w tp (ts.map (·.1))) (hw : NIn w wp (ts.map fun t => (t.2 : Int))) (hn : ts.length ≤ 1000) :
    Calls Tryd.prog 29 #[.slice p b.length c, .slice tp ts.length tc, .slice wp ts.length wc] w fun e w' => RowsP w b ts e w' := by
  have HY := Hid.mk' (show ∀ p c L w', splitB b = some (kys L) → rowsOk ts (kys L) = true → OwnT w.heap.size w' (.slice p L.length c) L → Below w.heap.size w w' → RowsP w b ts (.returned (.tuple #[.slice p L.length c, .bool true])) w' from fun p c L w' h1 h2 h3 h4 => ⟨.inl ⟨p, c, L, h1, h2, rfl, h3⟩, h4⟩)
  have HN := Hid.mk' (show ∀ w', (∀ l, splitB b = some l → rowsOk ts l = false) → Below w.heap.size w w' → RowsP w b ts (.returned (.tuple #[.slice none 0 0, .bool false])) w' from fun w' h1 h3 => ⟨.inr ⟨h1, rfl⟩, h3⟩)
  generalize RowsP w b ts = Post at HY HN ⊢
  have SP := tsplit_any p c b w hp hb hl
  have HT := Hid.mk' ht
  have HW := Hid.mk' hw
  clear hp hb hl ht hw
  go_enter Tryd.func29, Tryd.ntmps29
  go_wp2_with fail
  refine SP.mono ?_
  clear SP
  intro e w1 hsp
  obtain ⟨pg, cg, L, er, rfl, hown, hb1, hres⟩ := split_one hsp
  have HB1 := Hid.mk' hb1
  have HO := Hid.mk' hown
  clear hsp hown hb1
  rcases hres with ⟨h1, rfl, rfl⟩ | ⟨h1, rfl⟩
  · have HQ := Hid.mk' (HN.out w1 (fun l h => by rw [h1] at h; cases h) HB1.out)
    clear h1
    go_wp2_with fail
    exact HQ.out
  have HS := Hid.mk' h1
  clear h1
  obtain ⟨p9, c9, e9, hfin, _, hl9, hm9⟩ := HO.out.own.fin
  simp only [Value.slice.injEq, true_and] at e9
  obtain ⟨rfl, rfl⟩ := e9
  simp only [maxLen] at hm9
  by_cases t0 : L.length < ts.length
  · have HQ := Hid.mk' (HN.out w1 (fun l h => by
      rw [HS.out] at h
      cases h
      cases hh : rowsOk ts (kys L) with
      | false => rfl
      | true =>
        have := rows_len hh
        rw [kys_len] at this
        omega) HB1.out)
    have t0' : (L.length : Int) < (ts.length : Int) := by omega
    clear hfin
    go_wp2_with fail
    exact HQ.out
  have t0' : ¬ (L.length : Int) < (ts.length : Int) := by omega
  obtain ⟨rr, hrr⟩ : ∃ rr, rowsOk ts (kys L) = rr := ⟨_, rfl⟩
  have HRR := Hid.mk' hrr
  have HF := Hid.mk' hfin
  clear hrr hfin
  go_wp2_with fail
  go_loopw [10] (fun i W => ∃ k : Nat, k ≤ ts.length ∧ i = .int .i64 k ∧ Hid (rr = rowsOk (ts.drop k) (kys (L.drop k))) ∧ Hid (Below w1.heap.size w1 W)) (fun i _ => ts.length - (intOf i).toNat)
  case atStart => exact ⟨0, by omega, rfl, HRR.out.symm, Below.refl _ _⟩
  case round =>
    obtain ⟨k, hk, rfl, HK, HB⟩ := hrel
    by_cases t : k < ts.length
    · have t2 : k < L.length := by omega
      have HBW := Hid.mk' (HB1.out.trans (HB.out.mono HB1.out.size))
      obtain ⟨b1, o1, hbo1, hc1⟩ := (HF.out.below HB.out).at (by omega)
      obtain ⟨e0, e1, hx⟩ := hc1 k t2
      obtain ⟨b2, o2, hbo2, hc2⟩ := (HT.out.below HBW.out) (by rw [List.length_map]; omega)
      obtain ⟨b3, o3, hbo3, hc3⟩ := (HW.out.below HBW.out) (by rw [List.length_map]; omega)
      have f2 := hc2 k (by rw [List.length_map]; omega)
      have f3 := hc3 k (by rw [List.length_map]; omega)
      have hst := rowsOk_step ts L k t t2
      rw [show (ts.map (·.1)).getD k 0 = (ts.getD k (0, 0)).1 by simp [List.getD, t]] at f2
      rw [show (ts.map fun t => (t.2 : Int)).getD k 0 = ((ts.getD k (0, 0)).2 : Int) by simp [List.getD, t]] at f3
      have hfew := hx.few
      generalize L.getD k zf = y at e0 e1 hst hfew
      generalize ts.getD k (0, 0) = z at f2 f3 hst
      obtain ⟨z1, z2⟩ := z
      dsimp only at f2 f3 hst
      subst hbo1 hbo2 hbo3
      have HST := Hid.mk' hst
      clear hx hc1 hc2 hc3 hst
      by_cases u1 : y.tag = z1
      · have d1 : (y.tag != z1) = false := by simpa using u1
        by_cases u2 : y.d.length = z2
        · have d2 : ((y.d.length : Int) != (z2 : Int)) = false := by simp; omega
          have HV := Hid.mk' (show rr = rowsOk (ts.drop (k + 1)) (kys (L.drop (k + 1))) by rw [HK.out, HST.out, decide_eq_true u1, decide_eq_true u2]; rfl)
          clear u1 u2 HK HST
          go_wp2_with fail
          go_quiet (fail)
          go_wp2
          go_roundw
          case rel => exact ⟨k + 1, by omega, by go_num, HV, bel_drewN HB.out _⟩
          case measure => simp [intOf]; omega
        · have d2 : ((y.d.length : Int) != (z2 : Int)) = true := by simp; omega
          have HQ := Hid.mk' (fun n => HN.out (wr.drewN n) (fun l h => by
            rw [HS.out] at h
            cases h
            rw [HRR.out, HK.out, HST.out, decide_eq_false u2]
            simp) (bel_drewN HBW.out n))
          clear u1 u2 HK HST
          go_wp2_with fail
          go_quiet (fail)
          go_wp2_with fail
          first | exact HQ.out _ | (rw [Exit.noGoto_ret]; exact HQ.out _)
      · have d1 : (y.tag != z1) = true := by simpa using u1
        have HQ := Hid.mk' (fun n => HN.out (wr.drewN n) (fun l h => by
          rw [HS.out] at h
          cases h
          rw [HRR.out, HK.out, HST.out, decide_eq_false u1]
          simp) (bel_drewN HBW.out n))
        clear u1 HK HST
        go_wp2_with fail
        go_quiet (fail)
        go_wp2_with fail
        first | exact HQ.out _ | (rw [Exit.noGoto_ret]; exact HQ.out _)
    · obtain rfl : k = ts.length := by omega
      have hrr : rr = true := by rw [HK.out, List.drop_of_length_le (Nat.le_refl _)]; rfl
      have HQ := Hid.mk' (HY.out pg cg L wr HS.out (by rw [HRR.out]; exact hrr) (HO.out.on HB.out) (HB1.out.trans (HB.out.mono HB1.out.size)))
      clear hrr
      go_wp2_with fail
      exact HQ.out
end Go.Proofs.YtmejfkhikgcgmaaDoor
namespace Go.Proofs.YtmejfkhikgcgmaaDoor
open Go.RowKit
set_option linter.unusedSimpArgs false
set_option linter.unusedVariables false
set_option maxRecDepth 10000
set_option synthInstance.maxSize 2000

/-- Block i holds the record's bag, or bytes of it. -/
def RMem (r : Rc) (i : Nat) : Prop := (0 < r.bag.length ∧ ∃ a, r.p = some a ∧ a.block = i) ∨ ∃ f ∈ r.bag, 0 < f.d.length ∧ ∃ a, f.p = some a ∧ a.block = i
theorem RMem.of_nil {r : Rc} (h : r.bag = []) (i : Nat) : ¬ RMem r i := by
  rintro (⟨h1, _⟩ | ⟨f, hf, _⟩)
  · rw [h] at h1; simp at h1
  · rw [h] at hf; cases hf

theorem ROk.frM {S : Nat → Prop} {W W' : World} {r : Rc} (h : ROk W r) (k : Fr S W W') (hn : ∀ i, RMem r i → ¬ S i) : ROk W' r := by
  refine ⟨h.id, h.inc, h.st, h.lo, h.hi, h.len, h.cap, h.nil, ?_, h.few⟩
  intro hl
  obtain ⟨b, o, hb, hc⟩ := h.fin.at hl
  have hnb : ¬ S b := hn b (.inl ⟨hl, ⟨b, o, none⟩, hb, rfl⟩)
  rw [hb]
  refine FIn.of (fun i hi => ?_) hl
  obtain ⟨h1, h2, h3⟩ := hc i hi
  refine ⟨by rw [k.cell (p := ⟨b, o + i * 2, none⟩) (lt_of_cell h1) hnb]; exact h1, by rw [k.cell (p := ⟨b, o + i * 2 + 1, none⟩) (lt_of_cell h2) hnb]; exact h2, h3.fr k fun hl2 a ha => hn _ (.inr ⟨r.bag.getD i zf, by simp [List.getD, hi], hl2, a, ha, rfl⟩)⟩
theorem ROk.memlt {W : World} {r : Rc} (h : ROk W r) (i : Nat) (hm : RMem r i) : i < W.heap.size := by
  rcases hm with ⟨hl, a, ha, rfl⟩ | ⟨f, hf, hl, a, ha, rfl⟩
  · obtain ⟨b, o, hb, hc⟩ := h.fin.at hl
    rw [ha] at hb
    cases hb
    exact lt_of_cell (hc 0 hl).1
  · obtain ⟨j, hj, rfl⟩ := List.getElem_of_mem hf
    obtain ⟨b, o, hb, hc⟩ := h.fin.at (by omega)
    have h3 := (hc j hj).2.2
    have e : r.bag.getD j zf = r.bag[j] := by simp [List.getD, hj]
    rw [e] at h3
    obtain ⟨b2, o2, hb2, hc2⟩ := h3.bin hl
    rw [ha] at hb2
    cases hb2
    exact lt_of_cell (hc2 0 hl)

/-- v owns a row of the records L, whose bags lie elsewhere. -/
structure OwnB (B : Nat) (W : World) (v : Value) (L : List Rc) : Prop where
  own : OwnR 44 7 W B v L.length (L.flatMap Rc.cells)
  oks : ∀ r ∈ L, ROk W r
  off : ∀ r ∈ L, ∀ i, RMem r i → v.ownBlock ≠ some i
theorem OwnB.nil (B : Nat) (W : World) : OwnB B W (.slice none 0 0) [] := ⟨OwnR.nil _ _ _ _, fun f hf => (by simp at hf), fun f hf => (by simp at hf)⟩
theorem OwnB.on {B : Nat} {W W' : World} {v : Value} {L : List Rc} (h : OwnB B W v L) (k : Below W.heap.size W W') : OwnB B W' v L :=
  ⟨h.own.below k, fun f hf => (h.oks f hf).below k, h.off⟩
/-- What is written elsewhere does not touch it. -/
theorem OwnB.fr {B : Nat} {S : Nat → Prop} {W W' : World} {v : Value} {L : List Rc} (h : OwnB B W v L) (k : Fr S W W') (h1 : ∀ g, v.ownBlock = some g → ¬ S g) (h2 : ∀ r ∈ L, ∀ i, RMem r i → ¬ S i) : OwnB B W' v L :=
  ⟨h.own.fr k h1, fun f hf => (h.oks f hf).frM k (h2 f hf), h.off⟩
theorem OwnB.rin {B : Nat} {W : World} {v : Value} {L : List Rc} (h : OwnB B W v L) : ∃ p c, v = .slice p L.length c ∧ RIn W p L ∧ (p = none → c = 0) ∧ L.length ≤ c ∧ c ≤ maxLen := own_rin h.own h.oks
theorem OwnB.add {B : Nat} {W W' : World} {v v' : Value} {L : List Rc} {f : Rc} (h : OwnB B W v L) (hB : B ≤ W.heap.size) (hf : ROk W f) (ho : ∀ i, RMem f i → v.ownBlock ≠ some i)
    (hA : Appended W 44 7 v L.length (L.flatMap Rc.cells) 1 f.cells v' W') : OwnB B W' v' (L ++ [f]) ∧ Below B W W' := by
  obtain ⟨h1, h2⟩ := h.own.next hB hA
  have hall : ∀ g ∈ L ++ [f], ROk W g ∧ ∀ i, RMem g i → v.ownBlock ≠ some i := fun g hg => by
    rcases List.mem_append.1 hg with q | q
    · exact ⟨h.oks g q, h.off g q⟩
    · simp at q; subst q; exact ⟨hf, ho⟩
  have e2 : (L ++ [f]).flatMap Rc.cells = L.flatMap Rc.cells ++ f.cells := by rw [flatR_append]; simp
  refine ⟨⟨by rw [List.length_append, e2]; exact h1, fun g hg => (hall g hg).1.frM hA.fr fun i hi => (hall g hg).2 i hi, fun g hg i hi => ?_⟩, h2⟩
  rcases hA.moved with q | ⟨k, hk, hk2⟩
  · rw [q]; exact (hall g hg).2 i hi
  · rw [hk]
    have := (hall g hg).1.memlt i hi
    simp
    omega

/-- 'append(v, y)' of one record that was laid for it. -/
theorem wpList_addB {W : World} {ops : Array Oper} {rest : List Oper} {o : Oper} {ac : Act} {Q : Exit → Act → World → Prop} (hgd : o.guard = none) (s x : Operand)
    (ho : o.op = .call { callee := .builtin .append, args := #[s, x], argTypes := #[24, 24] })
    {B : Nat} {v : Value} {L : List Rc} (hs : ac.eval s = v) (h3 : OwnB B W v L) (hB : B ≤ W.heap.size) (y : Rc) (hy : ROk W y) (hoff : ∀ i, RMem y i → v.ownBlock ≠ some i) {g : Nat} (hg : W.heap.size = g) (hx : ac.eval x = .slice (some ⟨g, 0, none⟩) 1 1) (hl : L.length ≤ 1000000)
    (h : ∀ v' w', OwnB B w' v' (L ++ [y]) → Below B W w' → wpList Tryd.prog ops Q rest (ac.put o.dst v') w') : wpList Tryd.prog ops Q (o :: rest) ac (W.alloc (.cells #[.int .i64 y.id, .int .i64 y.inc, .int .i64 y.st, .int .i64 y.lo, .int .i64 y.hi, .bool y.cut, .slice y.p y.bag.length y.cap] 44)) := by
  subst hg
  obtain ⟨i0, hi, hz0, hz1, hz2⟩ := info_parts infoR
  have b : Below W.heap.size W (W.alloc (.cells #[.int .i64 y.id, .int .i64 y.inc, .int .i64 y.st, .int .i64 y.lo, .int .i64 y.hi, .bool y.cut, .slice y.p y.bag.length y.cap] 44)) := (Below.refl _ _).alloc (Nat.le_refl _) _
  refine wpList_append_fr hgd s x 24 ho 44 i0 _ 7 72 Tryd.underlying24 hi hz0 hz1 hz2 rfl (by decide) v L.length _ hs (h3.on b).own.owns (some ⟨W.heap.size, 0, none⟩) 1 1 y.cells hx (by simp) (by simp [Rc.cells]) (fun _ => ⟨_, rfl, fun j u hj => ?_⟩) (fun u hu => ?_) (by unfold maxLen; omega) (by omega) fun v' w' hA => ?_
  · have hg := heap_alloc_new W (.cells #[.int .i64 y.id, .int .i64 y.inc, .int .i64 y.st, .int .i64 y.lo, .int .i64 y.hi, .bool y.cut, .slice y.p y.bag.length y.cap] 44)
    rw [Go.WideShapes.add_plain]
    generalize W.alloc (.cells #[.int .i64 y.id, .int .i64 y.inc, .int .i64 y.st, .int .i64 y.lo, .int .i64 y.hi, .bool y.cut, .slice y.p y.bag.length y.cap] 44) = X at hg ⊢
    simp [World.cell?, hg]
    simpa [Rc.cells] using hj
  · refine flatR_one [y] u ?_
    simpa using hu
  · obtain ⟨k1, k2⟩ := (h3.on b).add (f := y) (Nat.le_trans hB b.size) (hy.below b) hoff hA
    exact h v' w' k1 ((b.mono hB).trans k2)
end Go.Proofs.YtmejfkhikgcgmaaDoor
