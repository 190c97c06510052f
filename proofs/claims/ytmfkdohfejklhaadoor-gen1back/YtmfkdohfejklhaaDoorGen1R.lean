/-
  Stage 11: the statements' own Message.
-/
import Derived.Test.YtmfkdohfejklhaaDoorGen1B
import Derived.Test.YtmfkdohfejklhaaDoorRecP
namespace Go.Proofs.YtmfkdohfejklhaaDoor
open Go.RowKit
set_option linter.unusedSimpArgs false
set_option linter.unusedVariables false
set_option maxRecDepth 10000
set_option synthInstance.maxSize 2000

def zm : Mg := ⟨0, 0, 0, 0, 0, 0, 0, 0, 0, 0, none, 0, []⟩
theorem zm_ok (w : World) : MOk w zm := ⟨by decide, by decide, by decide, by decide, by decide, by decide, by decide, by decide, by decide, by decide, Nat.le_refl _, by simp [zm, maxLen], fun _ => rfl, RIn.empty _ _⟩

/-- What Message answers. -/
def MsgPost (l : List Int) (w : World) (e : Ending) (w' : World) : Prop :=
  ∃ m : Mg, ∃ ok : Bool, e = .returned (.tuple #[.agg #[.int .i64 m.kind, .int .i64 m.frm, .int .i64 m.inc, .int .i64 m.lo, .int .i64 m.hi, .int .i64 m.seq, .int .i64 m.tgt, .int .i64 m.life, .int .i64 m.epoch, .int .i64 m.base, .slice m.p m.recs.length m.cap], .bool ok]) ∧ MOk w' m ∧ Below w.heap.size w w' ∧ (ok = true → Read1 l (mv m) ∧ m.recs.length ≤ 255 ∧ ∀ x ∈ m.recs, x.bag = []) ∧ (ok = false → m = zm ∧ ∀ x, ¬ Read1 l x)

theorem BIn.at0 {w : World} {b o : Nat} {l : List Int} (h : BIn w (some ⟨b, o, none⟩) l) (j : Nat) (hj : j < l.length) : w.cell? ⟨b, o + j, none⟩ = some (.int .u8 (l.getD j 0)) := by
  obtain ⟨b', o', e, hc⟩ := h (by omega)
  cases e
  exact hc j hj

/-- The block of the result, as it was laid; and the message that is put together behind it. -/
structure InQ0 (w X : World) : Prop where
  below : Below w.heap.size w X
  res : X.heap[w.heap.size]? = some (.cells #[.int .i64 0, .int .i64 0, .int .i64 0, .int .i64 0, .int .i64 0, .int .i64 0, .int .i64 0, .int .i64 0, .int .i64 0, .int .i64 0, .slice none 0 0] 26 (0, 0))
theorem InQ0.on {w X X' : World} (h : InQ0 w X) (k : Below X.heap.size X X') : InQ0 w X' :=
  ⟨h.below.trans (k.mono h.below.size), by rw [k.block _ (Array.getElem?_eq_some_iff.1 h.res).1]; exact h.res⟩
structure InQ (w : World) (m : Mg) (X : World) : Prop where
  q : InQ0 w X
  box : X.heap[w.heap.size + 1]? = some (.cells #[.int .i64 m.kind, .int .i64 m.frm, .int .i64 m.inc, .int .i64 m.lo, .int .i64 m.hi, .int .i64 m.seq, .int .i64 m.tgt, .int .i64 m.life, .int .i64 m.epoch, .int .i64 m.base, .slice m.p m.recs.length m.cap] 26 (0, 0))
theorem cell_alloc_lt {X : World} {ob : Obj} {b o : Nat} (h : b < X.heap.size) : (X.alloc ob).cell? ⟨b, o, none⟩ = X.cell? ⟨b, o, none⟩ :=
  ((Below.refl X.heap.size X).alloc (Nat.le_refl _) ob).cell (p := ⟨b, o, none⟩) h

/-- A record without a bag, its numbers whole numbers of the machine. -/
structure RNb (x : Rc) : Prop where
  id : (Lit.int .i64 x.id).wf = true
  inc : (Lit.int .i64 x.inc).wf = true
  st : (Lit.int .i64 x.st).wf = true
  lo : (Lit.int .i64 x.lo).wf = true
  hi : (Lit.int .i64 x.hi).wf = true
  p : x.p = none
  cap : x.cap = 0
  bag : x.bag = []
theorem RNb.ok {x : Rc} (h : RNb x) (w : World) : ROk w x :=
  ⟨h.id, h.inc, h.st, h.lo, h.hi, by rw [h.bag]; simp, by rw [h.cap]; simp [maxLen], fun _ => h.cap, by rw [h.bag]; exact FIn.empty _ _, by rw [h.bag]; simp⟩

theorem recsOf_step (l : List Int) (n k : Nat) (h : k < n) : recsOf (n - k) (l.drop (15 + 5 * k)) = if 127 < l.getD (15 + 5 * k + 4) 0 then none else (recsOf (n - (k + 1)) (l.drop (15 + 5 * (k + 1)))).map (recOf (l.drop (15 + 5 * k)) :: ·) := by
  rw [show n - k = (n - (k + 1)) + 1 by omega, recsOf, List.drop_drop, show 15 + 5 * k + 5 = 15 + 5 * (k + 1) by omega]
  have e : (l.drop (15 + 5 * k)).getD 4 0 = l.getD (15 + 5 * k + 4) 0 := by simp [List.getD]
  rw [e]

theorem small_wf {z : Int} (h : 0 ≤ z) (h2 : z ≤ 281474976710655) : (Lit.int .i64 z).wf = true := by
  simp [Lit.wf, IntKind.min, IntKind.max, IntKind.signed, IntKind.bits]; omega

theorem InQ.on {w X X' : World} {m : Mg} (h : InQ w m X) (k : Below X.heap.size X X') : InQ w m X' :=
  ⟨h.q.on k, by rw [k.block _ (Array.getElem?_eq_some_iff.1 h.box).1]; exact h.box⟩
theorem InQ.onB {w X X' : World} {m : Mg} (h : InQ w m X) (k : Below (w.heap.size + 2) X X') : InQ w m X' :=
  ⟨⟨h.q.below.trans (k.mono (by omega)), by rw [k.block _ (by omega)]; exact h.q.res⟩, by rw [k.block _ (by omega)]; exact h.box⟩
theorem InQ.lt {w X : World} {m : Mg} (h : InQ w m X) : w.heap.size + 2 ≤ X.heap.size := (Array.getElem?_eq_some_iff.1 h.box).1
theorem InQ.froz {w X : World} {m : Mg} (h : InQ w m X) (j : Nat) : X.frozen? ⟨w.heap.size + 1, j, none⟩ = false := by simp [World.frozen?, h.box]

/-- 'append(v, y)' of a record that was laid for it, as a step of a region that draws its order. -/
theorem step_addR {W : World} {ops : Array Oper} {o : Oper} {a : Act} {K : Act → World → Prop} {Q : Exit → Act → World → Prop} {E : Prop} (hgd : o.guard = none) (s x : Operand)
    (ho : o.op = .call { callee := .builtin .append, args := #[s, x], argTypes := #[24, 24] })
    {B : Nat} {v : Value} {A : List Rc} (hs : a.eval s = v) (h3 : OwnR 43 7 W B v A.length (A.flatMap Rc.cells)) (hB : B ≤ W.heap.size) (y : Rc) (hx : a.eval x = .slice (some ⟨W.heap.size, 0, none⟩) 1 1) (hl : A.length ≤ 1000000)
    (h : ∀ p' c' w', OwnR 43 7 w' B (.slice p' (A ++ [y]).length c') (A ++ [y]).length ((A ++ [y]).flatMap Rc.cells) → Below B (W.alloc (.cells #[.int .i64 y.id, .int .i64 y.inc, .int .i64 y.st, .int .i64 y.lo, .int .i64 y.hi, .bool y.cut, .slice y.p y.bag.length y.cap] 43)) w' → K (a.put o.dst (.slice p' (A.length + 1) c')) w') :
    if Region.wanted o (yielded ops a.tmps) = true then Oper.wp Tryd.prog o a (W.alloc (.cells #[.int .i64 y.id, .int .i64 y.inc, .int .i64 y.st, .int .i64 y.lo, .int .i64 y.hi, .bool y.cut, .slice y.p y.bag.length y.cap] 43)) K Q else E := by
  obtain ⟨i0, hi, hz0, hz1, hz2⟩ := info_parts infoR
  have b : Below W.heap.size W (W.alloc (.cells #[.int .i64 y.id, .int .i64 y.inc, .int .i64 y.st, .int .i64 y.lo, .int .i64 y.hi, .bool y.cut, .slice y.p y.bag.length y.cap] 43)) := (Below.refl _ _).alloc (Nat.le_refl _) _
  have h3' := h3.below b
  have hg := heap_alloc_new W (.cells #[.int .i64 y.id, .int .i64 y.inc, .int .i64 y.st, .int .i64 y.lo, .int .i64 y.hi, .bool y.cut, .slice y.p y.bag.length y.cap] 43)
  refine step_append_fr hgd s x 24 ho 43 i0 _ 7 72 Tryd.underlying24 hi hz0 hz1 hz2 rfl (by decide) v A.length _ hs h3'.owns (some ⟨W.heap.size, 0, none⟩) 1 1 y.cells hx (by simp) (by simp [Rc.cells]) (fun _ => ⟨_, rfl, fun j u hu => ?_⟩) (fun u hu => flatR_one [y] u (by simpa using hu)) (by unfold maxLen; omega) (by omega) (fun v' w' HA => ?_)
  · rw [Go.WideShapes.add_plain, Nat.zero_add]
    simp only [World.cell?, hg]
    simpa [Rc.cells] using hu
  · obtain ⟨k1, k2⟩ := h3'.next (Nat.le_trans hB b.size) HA
    have e1 : (A ++ [y]).length = A.length + 1 := by simp
    have e2 : (A ++ [y]).flatMap Rc.cells = A.flatMap Rc.cells ++ y.cells := by rw [flatR_append]; simp
    rw [← e2, ← e1] at k1
    obtain ⟨p', c', rfl, _⟩ := k1.slice
    have := h p' c' w' k1 k2
    rw [← e1] at this
    exact this

theorem mok_of {X : World} {m : Mg} {B : Nat} {W : World} (h : MOk W m) (own : OwnR 43 7 X B (.slice m.p m.recs.length m.cap) m.recs.length (m.recs.flatMap Rc.cells)) (nb : ∀ x ∈ m.recs, RNb x) : MOk X m := by
  obtain ⟨p2, c2, e2, hrin, hp0, hlc2, hcm2⟩ := own_rin own (fun f hf => (nb f hf).ok _)
  simp only [Value.slice.injEq, true_and] at e2
  obtain ⟨e3, e4⟩ := e2
  rw [← e3] at hrin
  exact ⟨h.kind, h.frm, h.inc, h.lo, h.hi, h.seq, h.tgt, h.life, h.epoch, h.base, h.len, h.cap, h.nil, hrin⟩
theorem fr_setRow (W : World) (g : Nat) (cs : Array Value) : Fr (fun i => i = g) W (W.setRow g cs) :=
  ⟨rfl, rfl, rfl, by simp, fun k _ hn => setRow_other W g k cs hn⟩

/-- The message that is put together, and its records. -/
structure InL (w : World) (m : Mg) (W : World) : Prop where
  q : InQ w m W
  own : OwnR 43 7 W (w.heap.size + 2) (.slice m.p m.recs.length m.cap) m.recs.length (m.recs.flatMap Rc.cells)
  nb : ∀ x ∈ m.recs, RNb x

set_option maxHeartbeats 8000000 in
theorem lmessage_any (p : Option Addr) (c : Nat) (l : List Int) (w : World) (hp : BIn w p l) (hb : isB l) (hlc : l.length ≤ c) (hcm : c ≤ maxLen) (hl : l.length ≤ 100000) (hK : Kd w) :
    Calls Tryd.prog 15 #[.slice p l.length c] w fun e w' => MsgPost l w e w' := by
  have HPost := Hid.mk' (show ∀ m ok w', MOk w' m → Below w.heap.size w w' → (ok = true → Read1 l (mv m) ∧ m.recs.length ≤ 255 ∧ ∀ x ∈ m.recs, x.bag = []) → (ok = false → m = zm ∧ ∀ x, ¬ Read1 l x) → MsgPost l w (.returned (.tuple #[.agg #[.int .i64 m.kind, .int .i64 m.frm, .int .i64 m.inc, .int .i64 m.lo, .int .i64 m.hi, .int .i64 m.seq, .int .i64 m.tgt, .int .i64 m.life, .int .i64 m.epoch, .int .i64 m.base, .slice m.p m.recs.length m.cap], .bool ok])) w' from fun m ok w' h1 h2 h3 h4 => ⟨m, ok, rfl, h1, h2, h3, h4⟩)
  have HNO := Hid.mk' (show ∀ w', Below w.heap.size w w' → (∀ x, ¬ Read1 l x) → MsgPost l w (.returned (.tuple #[.agg #[.int .i64 zm.kind, .int .i64 zm.frm, .int .i64 zm.inc, .int .i64 zm.lo, .int .i64 zm.hi, .int .i64 zm.seq, .int .i64 zm.tgt, .int .i64 zm.life, .int .i64 zm.epoch, .int .i64 zm.base, .slice zm.p zm.recs.length zm.cap], .bool false])) w' from fun w' h1 h2 => ⟨zm, false, rfl, zm_ok _, h1, fun h => (by cases h), fun _ => ⟨rfl, h2⟩⟩)
  simp only [zm, List.length_nil] at HNO
  generalize MsgPost l w = Post at HPost HNO ⊢
  have B1 := Hid.mk' ((Below.refl w.heap.size w).alloc (Nat.le_refl _) (.cells #[.int .i64 0, .int .i64 0, .int .i64 0, .int .i64 0, .int .i64 0, .int .i64 0, .int .i64 0, .int .i64 0, .int .i64 0, .int .i64 0, .slice none 0 0] 26))
  by_cases t0 : l.length < 15
  · have hno : ∀ x, ¬ Read1 l x := fun x h => absurd h.1 (by omega)
    have t0' : (l.length : Int) < 15 := by omega
    go_enter Tryd.func15, Tryd.ntmps15
    go_wp2_with fail
    exact bodyPost_ret (v := .tuple #[.agg #[.int .i64 0, .int .i64 0, .int .i64 0, .int .i64 0, .int .i64 0, .int .i64 0, .int .i64 0, .int .i64 0, .int .i64 0, .int .i64 0, .slice none 0 0], .bool false]) (by simp [results, Tryd.results15, go_sem]) rfl (HNO.out _ B1.out hno)
  obtain ⟨b, o, rfl, hcs⟩ := hp (by omega)
  have hx14 := hcs 14 (by omega)
  have hbl : b < w.heap.size := lt_of_cell hx14
  have hr14 := hb.getD 14
  generalize hx : l.getD 14 0 = x14 at hx14 hr14
  have HX14 := Hid.mk' hx
  clear hx
  by_cases t1 : (l.length : Int) = 15 + 5 * x14
  · have d1 : ((l.length : Int) != 15 + 5 * x14) = false := by simpa using t1
    have hx0 := hcs 0 (by omega)
    rw [Nat.add_zero] at hx0
    have hx9 := hcs 9 (by omega)
    have hr0 := hb.getD 0
    have hr9 := hb.getD 9
    have HL := Hid.mk' t1
    have P1 := (hp.drop 1).take 2
    have P3 := (hp.drop 3).take 6
    have P10 := (hp.drop 10).take 2
    have P12 := (hp.drop 12).take 2
    have N1 := fun X (h : Below w.heap.size w X) => lnum_any (some ⟨b, o + 1, none⟩) (c - 1) ((l.drop 1).take 2) X (P1.below h) ((hb.drop 1).take 2) (by simp; omega)
    have N3 := fun X (h : Below w.heap.size w X) => lnum_any (some ⟨b, o + 3, none⟩) (c - 3) ((l.drop 3).take 6) X (P3.below h) ((hb.drop 3).take 6) (by simp; omega)
    have N10 := fun X (h : Below w.heap.size w X) => lnum_any (some ⟨b, o + 10, none⟩) (c - 10) ((l.drop 10).take 2) X (P10.below h) ((hb.drop 10).take 2) (by simp; omega)
    have N12 := fun X (h : Below w.heap.size w X) => lnum_any (some ⟨b, o + 12, none⟩) (c - 12) ((l.drop 12).take 2) X (P12.below h) ((hb.drop 12).take 2) (by simp; omega)
    rw [show ((l.drop 1).take 2).length = 2 by simp; omega] at N1
    rw [show ((l.drop 3).take 6).length = 6 by simp; omega] at N3
    rw [show ((l.drop 10).take 2).length = 2 by simp; omega] at N10
    rw [show ((l.drop 12).take 2).length = 2 by simp; omega] at N12
    have w1 := numB_bound _ ((hb.drop 1).take 2)
    have w3 := numB_bound _ ((hb.drop 3).take 6)
    have w10 := numB_bound _ ((hb.drop 10).take 2)
    have w12 := numB_bound _ ((hb.drop 12).take 2)
    rw [show ((l.drop 1).take 2).length = 2 by simp; omega] at w1
    rw [show ((l.drop 3).take 6).length = 6 by simp; omega] at w3
    rw [show ((l.drop 10).take 2).length = 2 by simp; omega] at w10
    rw [show ((l.drop 12).take 2).length = 2 by simp; omega] at w12
    have HV := Hid.mk' (show ∀ rs, readV l rs = ⟨l.getD 0 0, numB ((l.drop 1).take 2), numB ((l.drop 3).take 6), l.getD 9 0 / 16, l.getD 9 0 % 16, numB ((l.drop 10).take 2), numB ((l.drop 12).take 2), 0, 0, 0, rs⟩ from fun rs => rfl)
    generalize numB ((l.drop 1).take 2) = z1 at HV N1 w1
    generalize numB ((l.drop 3).take 6) = z3 at HV N3 w3
    generalize numB ((l.drop 10).take 2) = z10 at HV N10 w10
    generalize numB ((l.drop 12).take 2) = z12 at HV N12 w12
    generalize l.getD 0 0 = x0 at HV hx0 hr0
    generalize l.getD 9 0 = x9 at HV hx9 hr9
    have HP := Hid.mk' hp
    have HBB := Hid.mk' hb
    clear t1 hcs P1 P3 P10 P12 hb hp
    go_enter Tryd.func15, Tryd.ntmps15
    go_upto_region 3 with fail
    have hI : InQ0 w (w.alloc (.cells #[.int .i64 0, .int .i64 0, .int .i64 0, .int .i64 0, .int .i64 0, .int .i64 0, .int .i64 0, .int .i64 0, .int .i64 0, .int .i64 0, .slice none 0 0] 26)) := ⟨B1.out, heap_alloc_new _ _⟩
    have hT0 : (w.alloc (.cells #[.int .i64 0, .int .i64 0, .int .i64 0, .int .i64 0, .int .i64 0, .int .i64 0, .int .i64 0, .int .i64 0, .int .i64 0, .int .i64 0, .slice none 0 0] 26)).cell? ⟨b, o, none⟩ = some (.int .u8 x0) := by rw [B1.out.cell (p := ⟨b, o, none⟩) hbl]; exact hx0
    have hT9 : (w.alloc (.cells #[.int .i64 0, .int .i64 0, .int .i64 0, .int .i64 0, .int .i64 0, .int .i64 0, .int .i64 0, .int .i64 0, .int .i64 0, .int .i64 0, .slice none 0 0] 26)).cell? ⟨b, o + 9, none⟩ = some (.int .u8 x9) := by rw [B1.out.cell (p := ⟨b, o + 9, none⟩) hbl]; exact hx9
    have HI := Hid.mk' hI
    have hsz : (w.alloc (.cells #[.int .i64 0, .int .i64 0, .int .i64 0, .int .i64 0, .int .i64 0, .int .i64 0, .int .i64 0, .int .i64 0, .int .i64 0, .int .i64 0, .slice none 0 0] 26)).heap.size = w.heap.size + 1 := by simp
    clear hI hx0 hx9 hx14
    generalize w.alloc (.cells #[.int .i64 0, .int .i64 0, .int .i64 0, .int .i64 0, .int .i64 0, .int .i64 0, .int .i64 0, .int .i64 0, .int .i64 0, .int .i64 0, .slice none 0 0] 26) = w2 at HI hT0 hT9 hsz ⊢
    go_cut [4] (fun t wx => t = .pointer (some ⟨w.heap.size + 1, 0, none⟩) ∧ Hid (InQ w ⟨x0, z1, z3, x9 / 16, x9 % 16, z10, z12, 0, 0, 0, none, 0, []⟩ wx))
    case first =>
      have hS0 : w2.drew.cell? ⟨b, o, none⟩ = some (.int .u8 x0) ∧ w2.drew.cell? ⟨b, o + 9, none⟩ = some (.int .u8 x9) ∧ Hid (InQ0 w w2.drew) := ⟨hT0, hT9, HI.out.on (Below.refl _ _).drew⟩
      have hsz2 : w2.drew.heap.size = w.heap.size + 1 := hsz
      go_wp2_with fail
      refine wp_region_held_drew (S := fun X => X.cell? ⟨b, o, none⟩ = some (.int .u8 x0) ∧ X.cell? ⟨b, o + 9, none⟩ = some (.int .u8 x9) ∧ Hid (InQ0 w X)) (by kernel_rfl) hS0 (fun hS => ?_)
      clear hS0 HI hT0 hT9 hsz
      generalize w2.drew = wd at hS hsz2 ⊢
      have l15 : (15 : Int) ≤ l.length := by omega
      have ln0 : (0 : Int) < l.length := by omega
      have ln9 : (9 : Int) < l.length := by omega
      have ln0n : 0 < l.length := by omega
      have ln9n : 9 < l.length := by omega
      have lc3 : (3 : Int) ≤ c := by omega
      have hw0 : IntKind.i64.wrap x0 = x0 := by rw [IntKind.wrap_i64]; omega
      have hw9 : IntKind.i64.wrap x9 = x9 := by rw [IntKind.wrap_i64]; omega
      have hq9 : x9.tdiv 16 = x9 / 16 := Int.tdiv_eq_ediv_of_nonneg (by omega)
      have hq9w : IntKind.i64.wrap (x9 / 16) = x9 / 16 := by rw [IntKind.wrap_i64]; omega
      have hm9 : x9.tmod 16 = x9 % 16 := Int.tmod_eq_emod_of_nonneg (by omega)
      have nc1 : ¬ c = 1 := by omega
      have nc3 : ¬ c = 3 := by omega
      have nc10 : ¬ c = 10 := by omega
      have nc12 : ¬ c = 12 := by omega
      have lc9 : (9 : Int) ≤ c := by omega
      have lc12 : (12 : Int) ≤ c := by omega
      have lc14 : (14 : Int) ≤ c := by omega
      refine wpAnyH_take (i := 0) (v := ?v0_24) rfl (by kernel_rfl) (by kernel_rfl) (by kernel_rfl) (fun _ _ _ h => h) (Or.inl ⟨by rfl, ?hy0_24⟩) (by assumption) ?rest0_24
      case hy0_24 => (intro w hSw; (try dsimp only at hSw); go_simp; try (with_reducible rfl))
      simp only [Act.put, List.getElem_toArray, List.getElem_cons_zero, List.getElem_cons_succ, List.setIfInBounds_toArray, List.set_cons_zero, List.set_cons_succ]
      refine wpAnyH_take (i := 1) (v := ?v1_25) rfl (by kernel_rfl) (by kernel_rfl) (by kernel_rfl) (fun _ _ _ h => h) (Or.inl ⟨by rfl, ?hy1_25⟩) (by assumption) ?rest1_25
      case hy1_25 => (intro w hSw; (try dsimp only at hSw); go_simp; try (with_reducible rfl))
      simp only [Act.put, List.getElem_toArray, List.getElem_cons_zero, List.getElem_cons_succ, List.setIfInBounds_toArray, List.set_cons_zero, List.set_cons_succ]
      refine wpAnyH_take (i := 2) (v := ?v2_26) rfl (by kernel_rfl) (by kernel_rfl) (by kernel_rfl) (fun _ _ _ h => h) (Or.inl ⟨by rfl, ?hy2_26⟩) (by assumption) ?rest2_26
      case hy2_26 => (intro w hSw; (try dsimp only at hSw); go_simp; try (with_reducible rfl))
      simp only [Act.put, List.getElem_toArray, List.getElem_cons_zero, List.getElem_cons_succ, List.setIfInBounds_toArray, List.set_cons_zero, List.set_cons_succ]
      refine wpAnyH_take (i := 3) (v := ?v3_27) rfl (by kernel_rfl) (by kernel_rfl) (by kernel_rfl) (fun _ _ _ h => h) (Or.inl ⟨by rfl, ?hy3_27⟩) (by assumption) ?rest3_27
      case hy3_27 => (intro w hSw; (try dsimp only at hSw); go_simp; try (with_reducible rfl))
      simp only [Act.put, List.getElem_toArray, List.getElem_cons_zero, List.getElem_cons_succ, List.setIfInBounds_toArray, List.set_cons_zero, List.set_cons_succ]
      refine wpAnyH_take (i := 4) (v := ?v4_28) rfl (by kernel_rfl) (by kernel_rfl) (by kernel_rfl) (fun _ _ _ h => h) (Or.inl ⟨by rfl, ?hy4_28⟩) (by assumption) ?rest4_28
      case hy4_28 => (intro w hSw; (try dsimp only at hSw); go_simp; try (with_reducible rfl))
      simp only [Act.put, List.getElem_toArray, List.getElem_cons_zero, List.getElem_cons_succ, List.setIfInBounds_toArray, List.set_cons_zero, List.set_cons_succ]
      refine wpAnyH_take (i := 5) (v := ?v5_29) rfl (by kernel_rfl) (by kernel_rfl) (by kernel_rfl) (fun _ _ _ h => h) (Or.inl ⟨by rfl, ?hy5_29⟩) (by assumption) ?rest5_29
      case hy5_29 => (intro w hSw; (try dsimp only at hSw); go_simp; try (with_reducible rfl))
      simp only [Act.put, List.getElem_toArray, List.getElem_cons_zero, List.getElem_cons_succ, List.setIfInBounds_toArray, List.set_cons_zero, List.set_cons_succ]
      refine wpAnyH_take (i := 7) (v := ?v7_30) rfl (by kernel_rfl) (by kernel_rfl) (by kernel_rfl) (fun _ _ _ h => h) (Or.inl ⟨by rfl, ?hy7_30⟩) (by assumption) ?rest7_30
      case hy7_30 => (intro w hSw; (try dsimp only at hSw); go_simp; try (with_reducible rfl))
      simp only [Act.put, List.getElem_toArray, List.getElem_cons_zero, List.getElem_cons_succ, List.setIfInBounds_toArray, List.set_cons_zero, List.set_cons_succ]
      refine wpAnyH_take (i := 8) (v := ?v8_31) rfl (by kernel_rfl) (by kernel_rfl) (by kernel_rfl) (fun _ _ _ h => h) (Or.inl ⟨by rfl, ?hy8_31⟩) (by assumption) ?rest8_31
      case hy8_31 => (intro w hSw; (try dsimp only at hSw); go_simp; try (with_reducible rfl))
      simp only [Act.put, List.getElem_toArray, List.getElem_cons_zero, List.getElem_cons_succ, List.setIfInBounds_toArray, List.set_cons_zero, List.set_cons_succ]
      refine wpAnyH_take (i := 10) (v := ?v10_32) rfl (by kernel_rfl) (by kernel_rfl) (by kernel_rfl) (fun _ _ _ h => h) (Or.inl ⟨by rfl, ?hy10_32⟩) (by assumption) ?rest10_32
      case hy10_32 => (intro w hSw; (try dsimp only at hSw); go_simp; try (with_reducible rfl))
      simp only [Act.put, List.getElem_toArray, List.getElem_cons_zero, List.getElem_cons_succ, List.setIfInBounds_toArray, List.set_cons_zero, List.set_cons_succ]
      refine wpAnyH_take (i := 11) (v := ?v11_33) rfl (by kernel_rfl) (by kernel_rfl) (by kernel_rfl) (fun _ _ _ h => h) (Or.inl ⟨by rfl, ?hy11_33⟩) (by assumption) ?rest11_33
      case hy11_33 => (intro w hSw; (try dsimp only at hSw); go_simp; try (with_reducible rfl))
      simp only [Act.put, List.getElem_toArray, List.getElem_cons_zero, List.getElem_cons_succ, List.setIfInBounds_toArray, List.set_cons_zero, List.set_cons_succ]
      refine wpAnyH_take (i := 12) (v := ?v12_34) rfl (by kernel_rfl) (by kernel_rfl) (by kernel_rfl) (fun _ _ _ h => h) (Or.inl ⟨by rfl, ?hy12_34⟩) (by assumption) ?rest12_34
      case hy12_34 => (intro w hSw; (try dsimp only at hSw); go_simp; try (with_reducible rfl))
      simp only [Act.put, List.getElem_toArray, List.getElem_cons_zero, List.getElem_cons_succ, List.setIfInBounds_toArray, List.set_cons_zero, List.set_cons_succ]
      refine wpAnyH_take (i := 13) (v := ?v13_35) rfl (by kernel_rfl) (by kernel_rfl) (by kernel_rfl) (fun _ _ _ h => h) (Or.inl ⟨by rfl, ?hy13_35⟩) (by assumption) ?rest13_35
      case hy13_35 => (intro w hSw; (try dsimp only at hSw); go_simp; try (with_reducible rfl))
      simp only [Act.put, List.getElem_toArray, List.getElem_cons_zero, List.getElem_cons_succ, List.setIfInBounds_toArray, List.set_cons_zero, List.set_cons_succ]
      refine wpAnyH_take (i := 14) (v := ?v14_36) rfl (by kernel_rfl) (by kernel_rfl) (by kernel_rfl) (fun _ _ _ h => h) (Or.inl ⟨by rfl, ?hy14_36⟩) (by assumption) ?rest14_36
      case hy14_36 => (intro w hSw; (try dsimp only at hSw); go_simp; try (with_reducible rfl))
      simp only [Act.put, List.getElem_toArray, List.getElem_cons_zero, List.getElem_cons_succ, List.setIfInBounds_toArray, List.set_cons_zero, List.set_cons_succ]
      refine wpAnyH_take (i := 15) (v := ?v15_37) rfl (by kernel_rfl) (by kernel_rfl) (by kernel_rfl) (fun _ _ _ h => h) (Or.inl ⟨by rfl, ?hy15_37⟩) (by assumption) ?rest15_37
      case hy15_37 => (intro w hSw; (try dsimp only at hSw); go_simp; try (with_reducible rfl))
      simp only [Act.put, List.getElem_toArray, List.getElem_cons_zero, List.getElem_cons_succ, List.setIfInBounds_toArray, List.set_cons_zero, List.set_cons_succ]
      refine wpAnyH_take (i := 16) (v := ?v16_38) rfl (by kernel_rfl) (by kernel_rfl) (by kernel_rfl) (fun _ _ _ h => h) (Or.inl ⟨by rfl, ?hy16_38⟩) (by assumption) ?rest16_38
      case hy16_38 => (intro w hSw; (try dsimp only at hSw); go_simp; try (with_reducible rfl))
      simp only [Act.put, List.getElem_toArray, List.getElem_cons_zero, List.getElem_cons_succ, List.setIfInBounds_toArray, List.set_cons_zero, List.set_cons_succ]
      refine wpAnyH_take (i := 17) (v := ?v17_39) rfl (by kernel_rfl) (by kernel_rfl) (by kernel_rfl) (fun _ _ _ h => h) (Or.inl ⟨by rfl, ?hy17_39⟩) (by assumption) ?rest17_39
      case hy17_39 => (intro w hSw; (try dsimp only at hSw); go_simp; try (with_reducible rfl))
      simp only [Act.put, List.getElem_toArray, List.getElem_cons_zero, List.getElem_cons_succ, List.setIfInBounds_toArray, List.set_cons_zero, List.set_cons_succ]
      refine wpAnyH_take (i := 18) (v := ?v18_40) rfl (by kernel_rfl) (by kernel_rfl) (by kernel_rfl) (fun _ _ _ h => h) (Or.inl ⟨by rfl, ?hy18_40⟩) (by assumption) ?rest18_40
      case hy18_40 => (intro w hSw; (try dsimp only at hSw); go_simp; try (with_reducible rfl))
      simp only [Act.put, List.getElem_toArray, List.getElem_cons_zero, List.getElem_cons_succ, List.setIfInBounds_toArray, List.set_cons_zero, List.set_cons_succ]
      refine wpAnyH_take (i := 19) (v := ?v19_41) rfl (by kernel_rfl) (by kernel_rfl) (by kernel_rfl) (fun _ _ _ h => h) (Or.inl ⟨by rfl, ?hy19_41⟩) (by assumption) ?rest19_41
      case hy19_41 => (intro w hSw; (try dsimp only at hSw); go_simp; try (with_reducible rfl))
      simp only [Act.put, List.getElem_toArray, List.getElem_cons_zero, List.getElem_cons_succ, List.setIfInBounds_toArray, List.set_cons_zero, List.set_cons_succ]
      refine wpAnyH_take (i := 20) (v := ?v20_42) rfl (by kernel_rfl) (by kernel_rfl) (by kernel_rfl) (fun _ _ _ h => h) (Or.inl ⟨by rfl, ?hy20_42⟩) (by assumption) ?rest20_42
      case hy20_42 => (intro w hSw; (try dsimp only at hSw); go_simp; try (with_reducible rfl))
      simp only [Act.put, List.getElem_toArray, List.getElem_cons_zero, List.getElem_cons_succ, List.setIfInBounds_toArray, List.set_cons_zero, List.set_cons_succ]
      refine wpAnyH_take (i := 21) (v := ?v21_43) rfl (by kernel_rfl) (by kernel_rfl) (by kernel_rfl) (fun _ _ _ h => h) (Or.inl ⟨by rfl, ?hy21_43⟩) (by assumption) ?rest21_43
      case hy21_43 => (intro w hSw; (try dsimp only at hSw); go_simp; try (with_reducible rfl))
      simp only [Act.put, List.getElem_toArray, List.getElem_cons_zero, List.getElem_cons_succ, List.setIfInBounds_toArray, List.set_cons_zero, List.set_cons_succ]
      refine wpAnyH_take (i := 22) (v := ?v22_44) rfl (by kernel_rfl) (by kernel_rfl) (by kernel_rfl) (fun _ _ _ h => h) (Or.inl ⟨by rfl, ?hy22_44⟩) (by assumption) ?rest22_44
      case hy22_44 => (intro w hSw; (try dsimp only at hSw); go_simp; try (with_reducible rfl))
      simp only [Act.put, List.getElem_toArray, List.getElem_cons_zero, List.getElem_cons_succ, List.setIfInBounds_toArray, List.set_cons_zero, List.set_cons_succ]
      refine wpAnyH_take (i := 24) (v := ?v24_45) rfl (by kernel_rfl) (by kernel_rfl) (by kernel_rfl) (fun _ _ _ h => h) (Or.inl ⟨by rfl, ?hy24_45⟩) (by assumption) ?rest24_45
      case hy24_45 => (intro w hSw; (try dsimp only at hSw); go_simp; try (with_reducible rfl))
      simp only [Act.put, List.getElem_toArray, List.getElem_cons_zero, List.getElem_cons_succ, List.setIfInBounds_toArray, List.set_cons_zero, List.set_cons_succ]
      refine wpAnyH_take (i := 25) (v := ?v25_46) rfl (by kernel_rfl) (by kernel_rfl) (by kernel_rfl) (fun _ _ _ h => h) (Or.inl ⟨by rfl, ?hy25_46⟩) (by assumption) ?rest25_46
      case hy25_46 => (intro w hSw; (try dsimp only at hSw); go_simp; try (with_reducible rfl))
      simp only [Act.put, List.getElem_toArray, List.getElem_cons_zero, List.getElem_cons_succ, List.setIfInBounds_toArray, List.set_cons_zero, List.set_cons_succ]
      refine wpAnyH_ready (rs := [6, 28]) (by kernel_rfl) (by simp) ?_
      refine (AllReadyH.cons rfl (fun K hK => ?_) (AllReadyH.cons rfl (fun K hK => ?_) AllReadyH.nil))
      · skip
        go_simp
        refine (N1 _ hS.2.2.out.below).mono ?_
        rintro e x1 ⟨rfl, rfl⟩
        go_wp2_with fail
        refine hK.out _ _ ?_ (fun hS' => ?_)
        · exact hS
        clear hK K
        try simp only [Act.put, List.getElem_toArray, List.getElem_cons_zero, List.getElem_cons_succ, List.setIfInBounds_toArray, List.set_cons_zero, List.set_cons_succ]
        replace hS := hS'
        clear hS'
        refine wpAnyH_ready (rs := [9, 28]) (by kernel_rfl) (by simp) ?_
        refine (AllReadyH.cons rfl (fun K hK => ?_) (AllReadyH.cons rfl (fun K hK => ?_) AllReadyH.nil))
        · skip
          go_simp
          refine (N3 _ hS.2.2.out.below).mono ?_
          rintro e x1 ⟨rfl, rfl⟩
          go_wp2_with fail
          refine hK.out _ _ ?_ (fun hS' => ?_)
          · exact hS
          clear hK K
          try simp only [Act.put, List.getElem_toArray, List.getElem_cons_zero, List.getElem_cons_succ, List.setIfInBounds_toArray, List.set_cons_zero, List.set_cons_succ]
          replace hS := hS'
          clear hS'
          refine wpAnyH_ready (rs := [23, 28]) (by kernel_rfl) (by simp) ?_
          refine (AllReadyH.cons rfl (fun K hK => ?_) (AllReadyH.cons rfl (fun K hK => ?_) AllReadyH.nil))
          · skip
            go_simp
            refine (N10 _ hS.2.2.out.below).mono ?_
            rintro e x1 ⟨rfl, rfl⟩
            go_wp2_with fail
            refine hK.out _ _ ?_ (fun hS' => ?_)
            · exact hS
            clear hK K
            try simp only [Act.put, List.getElem_toArray, List.getElem_cons_zero, List.getElem_cons_succ, List.setIfInBounds_toArray, List.set_cons_zero, List.set_cons_succ]
            replace hS := hS'
            clear hS'
            refine wpAnyH_ready (rs := [26, 28]) (by kernel_rfl) (by simp) ?_
            refine (AllReadyH.cons rfl (fun K hK => ?_) (AllReadyH.cons rfl (fun K hK => ?_) AllReadyH.nil))
            · skip
              go_simp
              refine (N12 _ hS.2.2.out.below).mono ?_
              rintro e x1 ⟨rfl, rfl⟩
              go_wp2_with fail
              refine hK.out _ _ ?_ (fun hS' => ?_)
              · exact hS
              clear hK K
              try simp only [Act.put, List.getElem_toArray, List.getElem_cons_zero, List.getElem_cons_succ, List.setIfInBounds_toArray, List.set_cons_zero, List.set_cons_succ]
              replace hS := hS'
              clear hS'
              refine wpAnyH_ready (rs := [27, 28]) (by kernel_rfl) (by simp) ?_
              refine (AllReadyH.cons rfl (fun K hK => ?_) (AllReadyH.cons rfl (fun K hK => ?_) AllReadyH.nil))
              · skip
                go_simp
                refine hK.out _ _ ?_ (fun hS' => ?_)
                · exact hS
                clear hK K
                try simp only [Act.put, List.getElem_toArray, List.getElem_cons_zero, List.getElem_cons_succ, List.setIfInBounds_toArray, List.set_cons_zero, List.set_cons_succ]
                replace hS := hS'
                clear hS'
                refine wpAnyH_ready (rs := [28]) (by kernel_rfl) (by simp) ?_
                refine (AllReadyH.cons rfl (fun K hK => ?_) AllReadyH.nil)
                go_simp
                have hSold := hS
                have hal := hS.2.2.out.on ((Below.refl _ _).alloc (Nat.le_refl _) (.cells #[.int .i64 0, .int .i64 0, .int .i64 0, .int .i64 0, .int .i64 0, .int .i64 0, .int .i64 0, .int .i64 0, .int .i64 0, .int .i64 0, .slice none 0 0] 26))
                have ha0 := hS.1
                have ha9 := hS.2.1
                refine hK.out _ _ ?_ (fun hS' => ?_)
                · exact ⟨by rw [cell_alloc_lt (by rw [hsz2]; omega)]; exact ha0, by rw [cell_alloc_lt (by rw [hsz2]; omega)]; exact ha9, hal⟩
                clear hK K
                try simp only [Act.put, List.getElem_toArray, List.getElem_cons_zero, List.getElem_cons_succ, List.setIfInBounds_toArray, List.set_cons_zero, List.set_cons_succ]
                replace hS := hS'
                clear hS'
                refine wpAnyH_ready (rs := [29]) (by kernel_rfl) (by simp) ?_
                refine (AllReadyH.cons rfl (fun K hK => ?_) AllReadyH.nil)
                go_simp
                have hal2 := hSold.2.2.out.on ((Below.refl _ _).alloc (Nat.le_refl _) (.cells #[.int .i64 x0, .int .i64 z1, .int .i64 z3, .int .i64 (x9 / 16), .int .i64 (x9 % 16), .int .i64 z10, .int .i64 z12, .int .i64 0, .int .i64 0, .int .i64 0, .slice none 0 0] 26))
                have hbx := heap_alloc_new wd (.cells #[.int .i64 x0, .int .i64 z1, .int .i64 z3, .int .i64 (x9 / 16), .int .i64 (x9 % 16), .int .i64 z10, .int .i64 z12, .int .i64 0, .int .i64 0, .int .i64 0, .slice none 0 0] 26)
                rw [hsz2] at hbx
                refine hK.out _ _ ?_ (fun hS' => ?_)
                · exact ⟨by rw [cell_alloc_lt (by rw [hsz2]; omega)]; exact hSold.1, by rw [cell_alloc_lt (by rw [hsz2]; omega)]; exact hSold.2.1, hal2⟩
                clear hK K
                try simp only [Act.put, List.getElem_toArray, List.getElem_cons_zero, List.getElem_cons_succ, List.setIfInBounds_toArray, List.set_cons_zero, List.set_cons_succ]
                replace hS := hS'
                clear hS'
                refine wpAnyH_done (by kernel_rfl) ?_ _
                go_wp2_with fail
                go_meet
                exact ⟨rfl, ⟨hal2, hbx⟩⟩
              · skip
                go_simp
                have hSold := hS
                have hal := hS.2.2.out.on ((Below.refl _ _).alloc (Nat.le_refl _) (.cells #[.int .i64 0, .int .i64 0, .int .i64 0, .int .i64 0, .int .i64 0, .int .i64 0, .int .i64 0, .int .i64 0, .int .i64 0, .int .i64 0, .slice none 0 0] 26))
                have ha0 := hS.1
                have ha9 := hS.2.1
                refine hK.out _ _ ?_ (fun hS' => ?_)
                · exact ⟨by rw [cell_alloc_lt (by rw [hsz2]; omega)]; exact ha0, by rw [cell_alloc_lt (by rw [hsz2]; omega)]; exact ha9, hal⟩
                clear hK K
                try simp only [Act.put, List.getElem_toArray, List.getElem_cons_zero, List.getElem_cons_succ, List.setIfInBounds_toArray, List.set_cons_zero, List.set_cons_succ]
                replace hS := hS'
                clear hS'
                refine wpAnyH_ready (rs := [27]) (by kernel_rfl) (by simp) ?_
                refine (AllReadyH.cons rfl (fun K hK => ?_) AllReadyH.nil)
                go_simp
                refine hK.out _ _ ?_ (fun hS' => ?_)
                · exact hS
                clear hK K
                try simp only [Act.put, List.getElem_toArray, List.getElem_cons_zero, List.getElem_cons_succ, List.setIfInBounds_toArray, List.set_cons_zero, List.set_cons_succ]
                replace hS := hS'
                clear hS'
                refine wpAnyH_ready (rs := [29]) (by kernel_rfl) (by simp) ?_
                refine (AllReadyH.cons rfl (fun K hK => ?_) AllReadyH.nil)
                go_simp
                have hal2 := hSold.2.2.out.on ((Below.refl _ _).alloc (Nat.le_refl _) (.cells #[.int .i64 x0, .int .i64 z1, .int .i64 z3, .int .i64 (x9 / 16), .int .i64 (x9 % 16), .int .i64 z10, .int .i64 z12, .int .i64 0, .int .i64 0, .int .i64 0, .slice none 0 0] 26))
                have hbx := heap_alloc_new wd (.cells #[.int .i64 x0, .int .i64 z1, .int .i64 z3, .int .i64 (x9 / 16), .int .i64 (x9 % 16), .int .i64 z10, .int .i64 z12, .int .i64 0, .int .i64 0, .int .i64 0, .slice none 0 0] 26)
                rw [hsz2] at hbx
                refine hK.out _ _ ?_ (fun hS' => ?_)
                · exact ⟨by rw [cell_alloc_lt (by rw [hsz2]; omega)]; exact hSold.1, by rw [cell_alloc_lt (by rw [hsz2]; omega)]; exact hSold.2.1, hal2⟩
                clear hK K
                try simp only [Act.put, List.getElem_toArray, List.getElem_cons_zero, List.getElem_cons_succ, List.setIfInBounds_toArray, List.set_cons_zero, List.set_cons_succ]
                replace hS := hS'
                clear hS'
                refine wpAnyH_done (by kernel_rfl) ?_ _
                go_wp2_with fail
                go_meet
                exact ⟨rfl, ⟨hal2, hbx⟩⟩
            · skip
              go_simp
              have hSold := hS
              have hal := hS.2.2.out.on ((Below.refl _ _).alloc (Nat.le_refl _) (.cells #[.int .i64 0, .int .i64 0, .int .i64 0, .int .i64 0, .int .i64 0, .int .i64 0, .int .i64 0, .int .i64 0, .int .i64 0, .int .i64 0, .slice none 0 0] 26))
              have ha0 := hS.1
              have ha9 := hS.2.1
              refine hK.out _ _ ?_ (fun hS' => ?_)
              · exact ⟨by rw [cell_alloc_lt (by rw [hsz2]; omega)]; exact ha0, by rw [cell_alloc_lt (by rw [hsz2]; omega)]; exact ha9, hal⟩
              clear hK K
              try simp only [Act.put, List.getElem_toArray, List.getElem_cons_zero, List.getElem_cons_succ, List.setIfInBounds_toArray, List.set_cons_zero, List.set_cons_succ]
              replace hS := hS'
              clear hS'
              refine wpAnyH_ready (rs := [26]) (by kernel_rfl) (by simp) ?_
              refine (AllReadyH.cons rfl (fun K hK => ?_) AllReadyH.nil)
              go_simp
              refine (N12 _ hS.2.2.out.below).mono ?_
              rintro e x1 ⟨rfl, rfl⟩
              go_wp2_with fail
              refine hK.out _ _ ?_ (fun hS' => ?_)
              · exact hS
              clear hK K
              try simp only [Act.put, List.getElem_toArray, List.getElem_cons_zero, List.getElem_cons_succ, List.setIfInBounds_toArray, List.set_cons_zero, List.set_cons_succ]
              replace hS := hS'
              clear hS'
              refine wpAnyH_ready (rs := [27]) (by kernel_rfl) (by simp) ?_
              refine (AllReadyH.cons rfl (fun K hK => ?_) AllReadyH.nil)
              go_simp
              refine hK.out _ _ ?_ (fun hS' => ?_)
              · exact hS
              clear hK K
              try simp only [Act.put, List.getElem_toArray, List.getElem_cons_zero, List.getElem_cons_succ, List.setIfInBounds_toArray, List.set_cons_zero, List.set_cons_succ]
              replace hS := hS'
              clear hS'
              refine wpAnyH_ready (rs := [29]) (by kernel_rfl) (by simp) ?_
              refine (AllReadyH.cons rfl (fun K hK => ?_) AllReadyH.nil)
              go_simp
              have hal2 := hSold.2.2.out.on ((Below.refl _ _).alloc (Nat.le_refl _) (.cells #[.int .i64 x0, .int .i64 z1, .int .i64 z3, .int .i64 (x9 / 16), .int .i64 (x9 % 16), .int .i64 z10, .int .i64 z12, .int .i64 0, .int .i64 0, .int .i64 0, .slice none 0 0] 26))
              have hbx := heap_alloc_new wd (.cells #[.int .i64 x0, .int .i64 z1, .int .i64 z3, .int .i64 (x9 / 16), .int .i64 (x9 % 16), .int .i64 z10, .int .i64 z12, .int .i64 0, .int .i64 0, .int .i64 0, .slice none 0 0] 26)
              rw [hsz2] at hbx
              refine hK.out _ _ ?_ (fun hS' => ?_)
              · exact ⟨by rw [cell_alloc_lt (by rw [hsz2]; omega)]; exact hSold.1, by rw [cell_alloc_lt (by rw [hsz2]; omega)]; exact hSold.2.1, hal2⟩
              clear hK K
              try simp only [Act.put, List.getElem_toArray, List.getElem_cons_zero, List.getElem_cons_succ, List.setIfInBounds_toArray, List.set_cons_zero, List.set_cons_succ]
              replace hS := hS'
              clear hS'
              refine wpAnyH_done (by kernel_rfl) ?_ _
              go_wp2_with fail
              go_meet
              exact ⟨rfl, ⟨hal2, hbx⟩⟩
          · skip
            go_simp
            have hSold := hS
            have hal := hS.2.2.out.on ((Below.refl _ _).alloc (Nat.le_refl _) (.cells #[.int .i64 0, .int .i64 0, .int .i64 0, .int .i64 0, .int .i64 0, .int .i64 0, .int .i64 0, .int .i64 0, .int .i64 0, .int .i64 0, .slice none 0 0] 26))
            have ha0 := hS.1
            have ha9 := hS.2.1
            refine hK.out _ _ ?_ (fun hS' => ?_)
            · exact ⟨by rw [cell_alloc_lt (by rw [hsz2]; omega)]; exact ha0, by rw [cell_alloc_lt (by rw [hsz2]; omega)]; exact ha9, hal⟩
            clear hK K
            try simp only [Act.put, List.getElem_toArray, List.getElem_cons_zero, List.getElem_cons_succ, List.setIfInBounds_toArray, List.set_cons_zero, List.set_cons_succ]
            replace hS := hS'
            clear hS'
            refine wpAnyH_ready (rs := [23]) (by kernel_rfl) (by simp) ?_
            refine (AllReadyH.cons rfl (fun K hK => ?_) AllReadyH.nil)
            go_simp
            refine (N10 _ hS.2.2.out.below).mono ?_
            rintro e x1 ⟨rfl, rfl⟩
            go_wp2_with fail
            refine hK.out _ _ ?_ (fun hS' => ?_)
            · exact hS
            clear hK K
            try simp only [Act.put, List.getElem_toArray, List.getElem_cons_zero, List.getElem_cons_succ, List.setIfInBounds_toArray, List.set_cons_zero, List.set_cons_succ]
            replace hS := hS'
            clear hS'
            refine wpAnyH_ready (rs := [26]) (by kernel_rfl) (by simp) ?_
            refine (AllReadyH.cons rfl (fun K hK => ?_) AllReadyH.nil)
            go_simp
            refine (N12 _ hS.2.2.out.below).mono ?_
            rintro e x1 ⟨rfl, rfl⟩
            go_wp2_with fail
            refine hK.out _ _ ?_ (fun hS' => ?_)
            · exact hS
            clear hK K
            try simp only [Act.put, List.getElem_toArray, List.getElem_cons_zero, List.getElem_cons_succ, List.setIfInBounds_toArray, List.set_cons_zero, List.set_cons_succ]
            replace hS := hS'
            clear hS'
            refine wpAnyH_ready (rs := [27]) (by kernel_rfl) (by simp) ?_
            refine (AllReadyH.cons rfl (fun K hK => ?_) AllReadyH.nil)
            go_simp
            refine hK.out _ _ ?_ (fun hS' => ?_)
            · exact hS
            clear hK K
            try simp only [Act.put, List.getElem_toArray, List.getElem_cons_zero, List.getElem_cons_succ, List.setIfInBounds_toArray, List.set_cons_zero, List.set_cons_succ]
            replace hS := hS'
            clear hS'
            refine wpAnyH_ready (rs := [29]) (by kernel_rfl) (by simp) ?_
            refine (AllReadyH.cons rfl (fun K hK => ?_) AllReadyH.nil)
            go_simp
            have hal2 := hSold.2.2.out.on ((Below.refl _ _).alloc (Nat.le_refl _) (.cells #[.int .i64 x0, .int .i64 z1, .int .i64 z3, .int .i64 (x9 / 16), .int .i64 (x9 % 16), .int .i64 z10, .int .i64 z12, .int .i64 0, .int .i64 0, .int .i64 0, .slice none 0 0] 26))
            have hbx := heap_alloc_new wd (.cells #[.int .i64 x0, .int .i64 z1, .int .i64 z3, .int .i64 (x9 / 16), .int .i64 (x9 % 16), .int .i64 z10, .int .i64 z12, .int .i64 0, .int .i64 0, .int .i64 0, .slice none 0 0] 26)
            rw [hsz2] at hbx
            refine hK.out _ _ ?_ (fun hS' => ?_)
            · exact ⟨by rw [cell_alloc_lt (by rw [hsz2]; omega)]; exact hSold.1, by rw [cell_alloc_lt (by rw [hsz2]; omega)]; exact hSold.2.1, hal2⟩
            clear hK K
            try simp only [Act.put, List.getElem_toArray, List.getElem_cons_zero, List.getElem_cons_succ, List.setIfInBounds_toArray, List.set_cons_zero, List.set_cons_succ]
            replace hS := hS'
            clear hS'
            refine wpAnyH_done (by kernel_rfl) ?_ _
            go_wp2_with fail
            go_meet
            exact ⟨rfl, ⟨hal2, hbx⟩⟩
        · skip
          go_simp
          have hSold := hS
          have hal := hS.2.2.out.on ((Below.refl _ _).alloc (Nat.le_refl _) (.cells #[.int .i64 0, .int .i64 0, .int .i64 0, .int .i64 0, .int .i64 0, .int .i64 0, .int .i64 0, .int .i64 0, .int .i64 0, .int .i64 0, .slice none 0 0] 26))
          have ha0 := hS.1
          have ha9 := hS.2.1
          refine hK.out _ _ ?_ (fun hS' => ?_)
          · exact ⟨by rw [cell_alloc_lt (by rw [hsz2]; omega)]; exact ha0, by rw [cell_alloc_lt (by rw [hsz2]; omega)]; exact ha9, hal⟩
          clear hK K
          try simp only [Act.put, List.getElem_toArray, List.getElem_cons_zero, List.getElem_cons_succ, List.setIfInBounds_toArray, List.set_cons_zero, List.set_cons_succ]
          replace hS := hS'
          clear hS'
          refine wpAnyH_ready (rs := [9]) (by kernel_rfl) (by simp) ?_
          refine (AllReadyH.cons rfl (fun K hK => ?_) AllReadyH.nil)
          go_simp
          refine (N3 _ hS.2.2.out.below).mono ?_
          rintro e x1 ⟨rfl, rfl⟩
          go_wp2_with fail
          refine hK.out _ _ ?_ (fun hS' => ?_)
          · exact hS
          clear hK K
          try simp only [Act.put, List.getElem_toArray, List.getElem_cons_zero, List.getElem_cons_succ, List.setIfInBounds_toArray, List.set_cons_zero, List.set_cons_succ]
          replace hS := hS'
          clear hS'
          refine wpAnyH_ready (rs := [23]) (by kernel_rfl) (by simp) ?_
          refine (AllReadyH.cons rfl (fun K hK => ?_) AllReadyH.nil)
          go_simp
          refine (N10 _ hS.2.2.out.below).mono ?_
          rintro e x1 ⟨rfl, rfl⟩
          go_wp2_with fail
          refine hK.out _ _ ?_ (fun hS' => ?_)
          · exact hS
          clear hK K
          try simp only [Act.put, List.getElem_toArray, List.getElem_cons_zero, List.getElem_cons_succ, List.setIfInBounds_toArray, List.set_cons_zero, List.set_cons_succ]
          replace hS := hS'
          clear hS'
          refine wpAnyH_ready (rs := [26]) (by kernel_rfl) (by simp) ?_
          refine (AllReadyH.cons rfl (fun K hK => ?_) AllReadyH.nil)
          go_simp
          refine (N12 _ hS.2.2.out.below).mono ?_
          rintro e x1 ⟨rfl, rfl⟩
          go_wp2_with fail
          refine hK.out _ _ ?_ (fun hS' => ?_)
          · exact hS
          clear hK K
          try simp only [Act.put, List.getElem_toArray, List.getElem_cons_zero, List.getElem_cons_succ, List.setIfInBounds_toArray, List.set_cons_zero, List.set_cons_succ]
          replace hS := hS'
          clear hS'
          refine wpAnyH_ready (rs := [27]) (by kernel_rfl) (by simp) ?_
          refine (AllReadyH.cons rfl (fun K hK => ?_) AllReadyH.nil)
          go_simp
          refine hK.out _ _ ?_ (fun hS' => ?_)
          · exact hS
          clear hK K
          try simp only [Act.put, List.getElem_toArray, List.getElem_cons_zero, List.getElem_cons_succ, List.setIfInBounds_toArray, List.set_cons_zero, List.set_cons_succ]
          replace hS := hS'
          clear hS'
          refine wpAnyH_ready (rs := [29]) (by kernel_rfl) (by simp) ?_
          refine (AllReadyH.cons rfl (fun K hK => ?_) AllReadyH.nil)
          go_simp
          have hal2 := hSold.2.2.out.on ((Below.refl _ _).alloc (Nat.le_refl _) (.cells #[.int .i64 x0, .int .i64 z1, .int .i64 z3, .int .i64 (x9 / 16), .int .i64 (x9 % 16), .int .i64 z10, .int .i64 z12, .int .i64 0, .int .i64 0, .int .i64 0, .slice none 0 0] 26))
          have hbx := heap_alloc_new wd (.cells #[.int .i64 x0, .int .i64 z1, .int .i64 z3, .int .i64 (x9 / 16), .int .i64 (x9 % 16), .int .i64 z10, .int .i64 z12, .int .i64 0, .int .i64 0, .int .i64 0, .slice none 0 0] 26)
          rw [hsz2] at hbx
          refine hK.out _ _ ?_ (fun hS' => ?_)
          · exact ⟨by rw [cell_alloc_lt (by rw [hsz2]; omega)]; exact hSold.1, by rw [cell_alloc_lt (by rw [hsz2]; omega)]; exact hSold.2.1, hal2⟩
          clear hK K
          try simp only [Act.put, List.getElem_toArray, List.getElem_cons_zero, List.getElem_cons_succ, List.setIfInBounds_toArray, List.set_cons_zero, List.set_cons_succ]
          replace hS := hS'
          clear hS'
          refine wpAnyH_done (by kernel_rfl) ?_ _
          go_wp2_with fail
          go_meet
          exact ⟨rfl, ⟨hal2, hbx⟩⟩
      · skip
        go_simp
        have hSold := hS
        have hal := hS.2.2.out.on ((Below.refl _ _).alloc (Nat.le_refl _) (.cells #[.int .i64 0, .int .i64 0, .int .i64 0, .int .i64 0, .int .i64 0, .int .i64 0, .int .i64 0, .int .i64 0, .int .i64 0, .int .i64 0, .slice none 0 0] 26))
        have ha0 := hS.1
        have ha9 := hS.2.1
        refine hK.out _ _ ?_ (fun hS' => ?_)
        · exact ⟨by rw [cell_alloc_lt (by rw [hsz2]; omega)]; exact ha0, by rw [cell_alloc_lt (by rw [hsz2]; omega)]; exact ha9, hal⟩
        clear hK K
        try simp only [Act.put, List.getElem_toArray, List.getElem_cons_zero, List.getElem_cons_succ, List.setIfInBounds_toArray, List.set_cons_zero, List.set_cons_succ]
        replace hS := hS'
        clear hS'
        refine wpAnyH_ready (rs := [6]) (by kernel_rfl) (by simp) ?_
        refine (AllReadyH.cons rfl (fun K hK => ?_) AllReadyH.nil)
        go_simp
        refine (N1 _ hS.2.2.out.below).mono ?_
        rintro e x1 ⟨rfl, rfl⟩
        go_wp2_with fail
        refine hK.out _ _ ?_ (fun hS' => ?_)
        · exact hS
        clear hK K
        try simp only [Act.put, List.getElem_toArray, List.getElem_cons_zero, List.getElem_cons_succ, List.setIfInBounds_toArray, List.set_cons_zero, List.set_cons_succ]
        replace hS := hS'
        clear hS'
        refine wpAnyH_ready (rs := [9]) (by kernel_rfl) (by simp) ?_
        refine (AllReadyH.cons rfl (fun K hK => ?_) AllReadyH.nil)
        go_simp
        refine (N3 _ hS.2.2.out.below).mono ?_
        rintro e x1 ⟨rfl, rfl⟩
        go_wp2_with fail
        refine hK.out _ _ ?_ (fun hS' => ?_)
        · exact hS
        clear hK K
        try simp only [Act.put, List.getElem_toArray, List.getElem_cons_zero, List.getElem_cons_succ, List.setIfInBounds_toArray, List.set_cons_zero, List.set_cons_succ]
        replace hS := hS'
        clear hS'
        refine wpAnyH_ready (rs := [23]) (by kernel_rfl) (by simp) ?_
        refine (AllReadyH.cons rfl (fun K hK => ?_) AllReadyH.nil)
        go_simp
        refine (N10 _ hS.2.2.out.below).mono ?_
        rintro e x1 ⟨rfl, rfl⟩
        go_wp2_with fail
        refine hK.out _ _ ?_ (fun hS' => ?_)
        · exact hS
        clear hK K
        try simp only [Act.put, List.getElem_toArray, List.getElem_cons_zero, List.getElem_cons_succ, List.setIfInBounds_toArray, List.set_cons_zero, List.set_cons_succ]
        replace hS := hS'
        clear hS'
        refine wpAnyH_ready (rs := [26]) (by kernel_rfl) (by simp) ?_
        refine (AllReadyH.cons rfl (fun K hK => ?_) AllReadyH.nil)
        go_simp
        refine (N12 _ hS.2.2.out.below).mono ?_
        rintro e x1 ⟨rfl, rfl⟩
        go_wp2_with fail
        refine hK.out _ _ ?_ (fun hS' => ?_)
        · exact hS
        clear hK K
        try simp only [Act.put, List.getElem_toArray, List.getElem_cons_zero, List.getElem_cons_succ, List.setIfInBounds_toArray, List.set_cons_zero, List.set_cons_succ]
        replace hS := hS'
        clear hS'
        refine wpAnyH_ready (rs := [27]) (by kernel_rfl) (by simp) ?_
        refine (AllReadyH.cons rfl (fun K hK => ?_) AllReadyH.nil)
        go_simp
        refine hK.out _ _ ?_ (fun hS' => ?_)
        · exact hS
        clear hK K
        try simp only [Act.put, List.getElem_toArray, List.getElem_cons_zero, List.getElem_cons_succ, List.setIfInBounds_toArray, List.set_cons_zero, List.set_cons_succ]
        replace hS := hS'
        clear hS'
        refine wpAnyH_ready (rs := [29]) (by kernel_rfl) (by simp) ?_
        refine (AllReadyH.cons rfl (fun K hK => ?_) AllReadyH.nil)
        go_simp
        have hal2 := hSold.2.2.out.on ((Below.refl _ _).alloc (Nat.le_refl _) (.cells #[.int .i64 x0, .int .i64 z1, .int .i64 z3, .int .i64 (x9 / 16), .int .i64 (x9 % 16), .int .i64 z10, .int .i64 z12, .int .i64 0, .int .i64 0, .int .i64 0, .slice none 0 0] 26))
        have hbx := heap_alloc_new wd (.cells #[.int .i64 x0, .int .i64 z1, .int .i64 z3, .int .i64 (x9 / 16), .int .i64 (x9 % 16), .int .i64 z10, .int .i64 z12, .int .i64 0, .int .i64 0, .int .i64 0, .slice none 0 0] 26)
        rw [hsz2] at hbx
        refine hK.out _ _ ?_ (fun hS' => ?_)
        · exact ⟨by rw [cell_alloc_lt (by rw [hsz2]; omega)]; exact hSold.1, by rw [cell_alloc_lt (by rw [hsz2]; omega)]; exact hSold.2.1, hal2⟩
        clear hK K
        try simp only [Act.put, List.getElem_toArray, List.getElem_cons_zero, List.getElem_cons_succ, List.setIfInBounds_toArray, List.set_cons_zero, List.set_cons_succ]
        replace hS := hS'
        clear hS'
        refine wpAnyH_done (by kernel_rfl) ?_ _
        go_wp2_with fail
        go_meet
        exact ⟨rfl, ⟨hal2, hbx⟩⟩
    case rest =>
    obtain ⟨rfl, HQ⟩ := hcut
    obtain ⟨n, rfl⟩ : ∃ n : Nat, x14 = n := ⟨x14.toNat, by omega⟩
    have hln := Hid.mk' (show l.length = 15 + 5 * n by have := HL.out; omega)
    have HL0 : Hid (InL w ⟨x0, z1, z3, x9 / 16, x9 % 16, z10, z12, 0, 0, 0, none, 0, []⟩ wc) := ⟨HQ.out, OwnR.nil _ _ _ _, fun x hx => (by simp at hx)⟩
    have HR0 : Hid (recsOf n (l.drop 15) = (recsOf (n - 0) (l.drop (15 + 5 * 0))).map (rks [] ++ ·)) := by
      show recsOf n (l.drop 15) = (recsOf n (l.drop 15)).map (rks [] ++ ·)
      simp [rks]
    clear HQ N1 N3 N10 N12 HL HI hT0 hT9 hsz d1 B1
    go_wp2_with fail
    go_loopw [5] (fun i W => ∃ (j k : Nat) (p' : Option Addr) (c' : Nat) (rs : List Rc), j = 15 + 5 * k ∧ k ≤ n ∧ i = .int .i64 j ∧ rs.length = k ∧ Hid (InL w ⟨x0, z1, z3, x9 / 16, x9 % 16, z10, z12, 0, 0, 0, p', c', rs⟩ W) ∧ Hid (recsOf n (l.drop 15) = (recsOf (n - k) (l.drop j)).map (rks rs ++ ·))) (fun i _ => l.length - (intOf i).toNat)
    case atStart => exact ⟨15, 0, none, 0, [], rfl, by omega, rfl, rfl, HL0, HR0⟩
    case round =>
      obtain ⟨j, k, p', c', rs, hj, hk, rfl, hrl, HLL, HRR⟩ := hrel
      clear HL0 HR0
      have hJ := Hid.mk' hj
      have hRL := Hid.mk' hrl
      have hres := HLL.out.q.q.res
      by_cases t : k < n
      · have hjl : j + 5 ≤ l.length := by have := hln.out; omega
        obtain ⟨b', o', e', hcs⟩ := (HP.out.below HLL.out.q.q.below) (by omega)
        cases e'
        have hv := hcs (j + 4) (by omega)
        have hrv := HBB.out.getD (j + 4)
        have HST := Hid.mk' (recsOf_step l n k t)
        rw [← hj] at HST
        generalize hve : l.getD (j + 4) 0 = v at hv hrv HST
        have HVE := Hid.mk' hve
        have hbw : b < wr.heap.size := lt_of_cell hv
        clear hcs hve hj hrl
        have hj1 : ((j : Int) + 4) < l.length := by omega
        have hj1n : j + 4 < l.length := by omega
        by_cases t2 : 127 < v
        · have hno : Hid (∀ x, ¬ Read1 l x) := fun x h => by
            obtain ⟨_, _, rs', h3, _⟩ := h
            rw [HX14.out, Int.toNat_natCast, HRR.out, HST.out, if_pos t2] at h3
            simp at h3
          go_wp2_with (refine wpList_store_row rfl 26 (.tmp 2) (.tmp 64) rfl w.heap.size #[.int .i64 0, .int .i64 0, .int .i64 0, .int .i64 0, .int .i64 0, .int .i64 0, .int .i64 0, .int .i64 0, .int .i64 0, .int .i64 0, .slice none 0 0] rfl rfl 26 #[.int .i64 0, .int .i64 0, .int .i64 0, .int .i64 0, .int .i64 0, .int .i64 0, .int .i64 0, .int .i64 0, .int .i64 0, .int .i64 0, .slice none 0 0] hres (by kernel_rfl) rfl (by simp [Value.oneCell']) ?_; rw [setRow_self _ _ _ _ _ hres])
          try rw [Exit.noGoto_ret]
          obtain ⟨r0, r1, r2, r3, r4, r5, r6, r7, r8, r9, r10⟩ := mbox_cells (m := zm) hres
          simp only [zm, List.length_nil] at r0 r1 r2 r3 r4 r5 r6 r7 r8 r9 r10
          exact bodyPost_ret (v := .tuple #[.agg #[.int .i64 0, .int .i64 0, .int .i64 0, .int .i64 0, .int .i64 0, .int .i64 0, .int .i64 0, .int .i64 0, .int .i64 0, .int .i64 0, .slice none 0 0], .bool false]) (by simp [results, Tryd.results15, go_sem, r0, r1, r2, r3, r4, r5, r6, r7, r8, r9, r10]) rfl (HNO.out _ HLL.out.q.q.below hno.out)
        · have HS2 := Hid.mk' (show recsOf n (l.drop 15) = ((recsOf (n - (k + 1)) (l.drop (15 + 5 * (k + 1)))).map (recOf (l.drop j) :: ·)).map (rks rs ++ ·) by rw [HRR.out, HST.out, if_neg t2])
          have PA := ((HP.out.drop j).take 2)
          have PB := ((HP.out.drop (j + 2)).take 2)
          have NA := fun X (h : Below w.heap.size w X) => lnum_any (some ⟨b, o + j, none⟩) (c - j) ((l.drop j).take 2) X (PA.below h) ((HBB.out.drop j).take 2) (by simp; omega)
          have NB := fun X (h : Below w.heap.size w X) => lnum_any (some ⟨b, o + (j + 2), none⟩) (c - (j + 2)) ((l.drop (j + 2)).take 2) X (PB.below h) ((HBB.out.drop (j + 2)).take 2) (by simp; omega)
          rw [show ((l.drop j).take 2).length = 2 by simp; omega] at NA
          rw [show ((l.drop (j + 2)).take 2).length = 2 by simp; omega] at NB
          have wa := numB_bound _ ((HBB.out.drop j).take 2)
          have wb := numB_bound _ ((HBB.out.drop (j + 2)).take 2)
          rw [show ((l.drop j).take 2).length = 2 by simp; omega] at wa
          rw [show ((l.drop (j + 2)).take 2).length = 2 by simp; omega] at wb
          have HRO := Hid.mk' (show recOf (l.drop j) = (numB ((l.drop j).take 2), numB ((l.drop (j + 2)).take 2), l.getD (j + 4) 0 % 4, l.getD (j + 4) 0 / 4 % 4, l.getD (j + 4) 0 / 16 % 4, decide (64 ≤ l.getD (j + 4) 0), []) by
            have e : (l.drop j).getD 4 0 = l.getD (j + 4) 0 := by simp [List.getD]
            rw [recOf, List.drop_drop, e])
          rw [HVE.out] at HRO
          generalize numB ((l.drop j).take 2) = za at NA wa HRO
          generalize numB ((l.drop (j + 2)).take 2) = zb at NB wb HRO
          clear PA PB
          have HS3 := Hid.mk' (show recsOf n (l.drop 15) = (recsOf (n - (k + 1)) (l.drop (j + 5))).map (rks (rs ++ [(⟨za, zb, v % 4, v / 4 % 4, v / 16 % 4, decide (64 ≤ v), none, 0, []⟩ : Rc)]) ++ ·) by
            rw [HS2.out, Option.map_map, HRO.out, show 15 + 5 * (k + 1) = j + 5 by have := hJ.out; omega]
            congr 1; funext t; simp [rks, rk, kys])
          have HYN : Hid (RNb ⟨za, zb, v % 4, v / 4 % 4, v / 16 % 4, decide (64 ≤ v), none, 0, []⟩) := ⟨small_wf (z := za) wa.1 (by omega), small_wf (z := zb) wb.1 (by omega), small_wf (z := v % 4) (by omega) (by omega), small_wf (z := v / 4 % 4) (by omega) (by omega), small_wf (z := v / 16 % 4) (by omega) (by omega), rfl, rfl, rfl⟩
          have hS0 : Hid (InQ0 w wr.drew) := HLL.out.q.q.on (Below.refl _ _).drew
          have HQd : Hid (InQ w ⟨x0, z1, z3, x9 / 16, x9 % 16, z10, z12, 0, 0, 0, p', c', rs⟩ wr.drew) := HLL.out.q.on (Below.refl _ _).drew
          have HOd : Hid (OwnR 43 7 wr.drew (w.heap.size + 2) (.slice p' rs.length c') rs.length (rs.flatMap Rc.cells)) := HLL.out.own.below (Below.refl _ _).drew
          have HNb := Hid.mk' HLL.out.nb
          obtain ⟨_, _, _, _, _, _, _, _, _, _, c10⟩ := mbox_cells HQd.out.box
          have ej1 : (j : Int) + 2 ≤ c := by omega
          have s1 : 0 ≤ (j : Int) + 2 := by omega
          have s2 : ((j : Int) + 2).toNat = j + 2 := by omega
          have s3 : j ≤ j + 2 := by omega
          have s4 : j + 2 - j = 2 := by omega
          have s5 : 0 ≤ (j : Int) + 4 := by omega
          have s6 : ((j : Int) + 4).toNat = j + 4 := by omega
          have s7 : j + 2 ≤ j + 4 := by omega
          have s8 : j + 4 - (j + 2) = 2 := by omega
          have s9 : (j : Int) + 2 ≤ (j : Int) + 4 := by omega
          have ej2 : (j : Int) + 4 ≤ c := by omega
          have nj1 : ¬ c = j := by omega
          have nj2 : ¬ c = j + 2 := by omega
          have m1 : v.tmod 4 = v % 4 := Int.tmod_eq_emod_of_nonneg (by omega)
          have m2 : v.tdiv 4 = v / 4 := Int.tdiv_eq_ediv_of_nonneg (by omega)
          have m3 : v.tdiv 16 = v / 16 := Int.tdiv_eq_ediv_of_nonneg (by omega)
          have m4 : (v / 4).tmod 4 = v / 4 % 4 := Int.tmod_eq_emod_of_nonneg (by omega)
          have m5 : (v / 16).tmod 4 = v / 16 % 4 := Int.tmod_eq_emod_of_nonneg (by omega)
          have m6 : IntKind.i64.wrap (v / 4) = v / 4 := by rw [IntKind.wrap_i64]; omega
          have m7 : IntKind.i64.wrap (v / 16) = v / 16 := by rw [IntKind.wrap_i64]; omega
          have m8 : IntKind.i64.wrap ((j : Int) + 2) = (j : Int) + 2 := by rw [IntKind.wrap_i64]; omega
          have m9 : IntKind.i64.wrap ((j : Int) + 4) = (j : Int) + 4 := by rw [IntKind.wrap_i64]; omega
          clear HRR HST hres HLL
          go_wp2_with fail
          clear hv
          refine wp_region_held_drew (S := fun X => Hid (InQ0 w X)) (by kernel_rfl) hS0 (fun hS => ?_)
          clear hS0
          generalize wr.drew = wd at hS HQd HOd c10 ⊢
          refine wpAnyH_take (i := 0) (v := ?v0_47) rfl (by kernel_rfl) (by kernel_rfl) (by kernel_rfl) (fun _ _ _ h => h) (Or.inl ⟨by rfl, ?hy0_47⟩) (by assumption) ?rest0_47
          case hy0_47 => (intro w hSw; (try dsimp only at hSw); go_simp; try (with_reducible rfl))
          simp only [Act.put, List.getElem_toArray, List.getElem_cons_zero, List.getElem_cons_succ, List.setIfInBounds_toArray, List.set_cons_zero, List.set_cons_succ]
          refine wpAnyH_take (i := 2) (v := ?v2_48) rfl (by kernel_rfl) (by kernel_rfl) (by kernel_rfl) (fun _ _ _ h => h) (Or.inl ⟨by rfl, ?hy2_48⟩) (by assumption) ?rest2_48
          case hy2_48 => (intro w hSw; (try dsimp only at hSw); go_simp; try (with_reducible rfl))
          simp only [Act.put, List.getElem_toArray, List.getElem_cons_zero, List.getElem_cons_succ, List.setIfInBounds_toArray, List.set_cons_zero, List.set_cons_succ]
          refine wpAnyH_take (i := 3) (v := ?v3_49) rfl (by kernel_rfl) (by kernel_rfl) (by kernel_rfl) (fun _ _ _ h => h) (Or.inl ⟨by rfl, ?hy3_49⟩) (by assumption) ?rest3_49
          case hy3_49 => (intro w hSw; (try dsimp only at hSw); go_simp; try (with_reducible rfl))
          simp only [Act.put, List.getElem_toArray, List.getElem_cons_zero, List.getElem_cons_succ, List.setIfInBounds_toArray, List.set_cons_zero, List.set_cons_succ]
          refine wpAnyH_take (i := 4) (v := ?v4_50) rfl (by kernel_rfl) (by kernel_rfl) (by kernel_rfl) (fun _ _ _ h => h) (Or.inl ⟨by rfl, ?hy4_50⟩) (by assumption) ?rest4_50
          case hy4_50 => (intro w hSw; (try dsimp only at hSw); go_simp; try (with_reducible rfl))
          simp only [Act.put, List.getElem_toArray, List.getElem_cons_zero, List.getElem_cons_succ, List.setIfInBounds_toArray, List.set_cons_zero, List.set_cons_succ]
          refine wpAnyH_take (i := 5) (v := ?v5_51) rfl (by kernel_rfl) (by kernel_rfl) (by kernel_rfl) (fun _ _ _ h => h) (Or.inl ⟨by rfl, ?hy5_51⟩) (by assumption) ?rest5_51
          case hy5_51 => (intro w hSw; (try dsimp only at hSw); go_simp; try (with_reducible rfl))
          simp only [Act.put, List.getElem_toArray, List.getElem_cons_zero, List.getElem_cons_succ, List.setIfInBounds_toArray, List.set_cons_zero, List.set_cons_succ]
          refine wpAnyH_take (i := 6) (v := ?v6_52) rfl (by kernel_rfl) (by kernel_rfl) (by kernel_rfl) (fun _ _ _ h => h) (Or.inl ⟨by rfl, ?hy6_52⟩) (by assumption) ?rest6_52
          case hy6_52 => (intro w hSw; (try dsimp only at hSw); go_simp; try (with_reducible rfl))
          simp only [Act.put, List.getElem_toArray, List.getElem_cons_zero, List.getElem_cons_succ, List.setIfInBounds_toArray, List.set_cons_zero, List.set_cons_succ]
          refine wpAnyH_take (i := 8) (v := ?v8_53) rfl (by kernel_rfl) (by kernel_rfl) (by kernel_rfl) (fun _ _ _ h => h) (Or.inl ⟨by rfl, ?hy8_53⟩) (by assumption) ?rest8_53
          case hy8_53 => (intro w hSw; (try dsimp only at hSw); go_simp; try (with_reducible rfl))
          simp only [Act.put, List.getElem_toArray, List.getElem_cons_zero, List.getElem_cons_succ, List.setIfInBounds_toArray, List.set_cons_zero, List.set_cons_succ]
          refine wpAnyH_take (i := 9) (v := ?v9_54) rfl (by kernel_rfl) (by kernel_rfl) (by kernel_rfl) (fun _ _ _ h => h) (Or.inl ⟨by rfl, ?hy9_54⟩) (by assumption) ?rest9_54
          case hy9_54 => (intro w hSw; (try dsimp only at hSw); go_simp; try (with_reducible rfl))
          simp only [Act.put, List.getElem_toArray, List.getElem_cons_zero, List.getElem_cons_succ, List.setIfInBounds_toArray, List.set_cons_zero, List.set_cons_succ]
          refine wpAnyH_take (i := 10) (v := ?v10_55) rfl (by kernel_rfl) (by kernel_rfl) (by kernel_rfl) (fun _ _ _ h => h) (Or.inl ⟨by rfl, ?hy10_55⟩) (by assumption) ?rest10_55
          case hy10_55 => (intro w hSw; (try dsimp only at hSw); go_simp; try (with_reducible rfl))
          simp only [Act.put, List.getElem_toArray, List.getElem_cons_zero, List.getElem_cons_succ, List.setIfInBounds_toArray, List.set_cons_zero, List.set_cons_succ]
          refine wpAnyH_take (i := 11) (v := ?v11_56) rfl (by kernel_rfl) (by kernel_rfl) (by kernel_rfl) (fun _ _ _ h => h) (Or.inl ⟨by rfl, ?hy11_56⟩) (by assumption) ?rest11_56
          case hy11_56 => (intro w hSw; (try dsimp only at hSw); go_simp; try (with_reducible rfl))
          simp only [Act.put, List.getElem_toArray, List.getElem_cons_zero, List.getElem_cons_succ, List.setIfInBounds_toArray, List.set_cons_zero, List.set_cons_succ]
          refine wpAnyH_take (i := 12) (v := ?v12_57) rfl (by kernel_rfl) (by kernel_rfl) (by kernel_rfl) (fun _ _ _ h => h) (Or.inl ⟨by rfl, ?hy12_57⟩) (by assumption) ?rest12_57
          case hy12_57 => (intro w hSw; (try dsimp only at hSw); go_simp; try (with_reducible rfl))
          simp only [Act.put, List.getElem_toArray, List.getElem_cons_zero, List.getElem_cons_succ, List.setIfInBounds_toArray, List.set_cons_zero, List.set_cons_succ]
          refine wpAnyH_take (i := 13) (v := ?v13_58) rfl (by kernel_rfl) (by kernel_rfl) (by kernel_rfl) (fun _ _ _ h => h) (Or.inl ⟨by rfl, ?hy13_58⟩) (by assumption) ?rest13_58
          case hy13_58 => (intro w hSw; (try dsimp only at hSw); go_simp; try (with_reducible rfl))
          simp only [Act.put, List.getElem_toArray, List.getElem_cons_zero, List.getElem_cons_succ, List.setIfInBounds_toArray, List.set_cons_zero, List.set_cons_succ]
          refine wpAnyH_take (i := 15) (v := ?v15_59) rfl (by kernel_rfl) (by kernel_rfl) (by kernel_rfl) (fun _ _ _ h => h) (Or.inl ⟨by rfl, ?hy15_59⟩) (by assumption) ?rest15_59
          case hy15_59 => (intro w hSw; (try dsimp only at hSw); go_simp; try (with_reducible rfl))
          simp only [Act.put, List.getElem_toArray, List.getElem_cons_zero, List.getElem_cons_succ, List.setIfInBounds_toArray, List.set_cons_zero, List.set_cons_succ]
          refine wpAnyH_take (i := 16) (v := ?v16_60) rfl (by kernel_rfl) (by kernel_rfl) (by kernel_rfl) (fun _ _ _ h => h) (Or.inl ⟨by rfl, ?hy16_60⟩) (by assumption) ?rest16_60
          case hy16_60 => (intro w hSw; (try dsimp only at hSw); go_simp; try (with_reducible rfl))
          simp only [Act.put, List.getElem_toArray, List.getElem_cons_zero, List.getElem_cons_succ, List.setIfInBounds_toArray, List.set_cons_zero, List.set_cons_succ]
          refine wpAnyH_take (i := 17) (v := ?v17_61) rfl (by kernel_rfl) (by kernel_rfl) (by kernel_rfl) (fun _ _ _ h => h) (Or.inl ⟨by rfl, ?hy17_61⟩) (by assumption) ?rest17_61
          case hy17_61 => (intro w hSw; (try dsimp only at hSw); go_simp; try (with_reducible rfl))
          simp only [Act.put, List.getElem_toArray, List.getElem_cons_zero, List.getElem_cons_succ, List.setIfInBounds_toArray, List.set_cons_zero, List.set_cons_succ]
          refine wpAnyH_take (i := 18) (v := ?v18_62) rfl (by kernel_rfl) (by kernel_rfl) (by kernel_rfl) (fun _ _ _ h => h) (Or.inl ⟨by rfl, ?hy18_62⟩) (by assumption) ?rest18_62
          case hy18_62 => (intro w hSw; (try dsimp only at hSw); go_simp; try (with_reducible rfl))
          simp only [Act.put, List.getElem_toArray, List.getElem_cons_zero, List.getElem_cons_succ, List.setIfInBounds_toArray, List.set_cons_zero, List.set_cons_succ]
          refine wpAnyH_take (i := 19) (v := ?v19_63) rfl (by kernel_rfl) (by kernel_rfl) (by kernel_rfl) (fun _ _ _ h => h) (Or.inl ⟨by rfl, ?hy19_63⟩) (by assumption) ?rest19_63
          case hy19_63 => (intro w hSw; (try dsimp only at hSw); go_simp; try (with_reducible rfl))
          simp only [Act.put, List.getElem_toArray, List.getElem_cons_zero, List.getElem_cons_succ, List.setIfInBounds_toArray, List.set_cons_zero, List.set_cons_succ]
          refine wpAnyH_take (i := 20) (v := ?v20_64) rfl (by kernel_rfl) (by kernel_rfl) (by kernel_rfl) (fun _ _ _ h => h) (Or.inl ⟨by rfl, ?hy20_64⟩) (by assumption) ?rest20_64
          case hy20_64 => (intro w hSw; (try dsimp only at hSw); go_simp; try (with_reducible rfl))
          simp only [Act.put, List.getElem_toArray, List.getElem_cons_zero, List.getElem_cons_succ, List.setIfInBounds_toArray, List.set_cons_zero, List.set_cons_succ]
          refine wpAnyH_take (i := 21) (v := ?v21_65) rfl (by kernel_rfl) (by kernel_rfl) (by kernel_rfl) (fun _ _ _ h => h) (Or.inl ⟨by rfl, ?hy21_65⟩) (by assumption) ?rest21_65
          case hy21_65 => (intro w hSw; (try dsimp only at hSw); go_simp; try (with_reducible rfl))
          simp only [Act.put, List.getElem_toArray, List.getElem_cons_zero, List.getElem_cons_succ, List.setIfInBounds_toArray, List.set_cons_zero, List.set_cons_succ]
          refine wpAnyH_take (i := 22) (v := ?v22_66) rfl (by kernel_rfl) (by kernel_rfl) (by kernel_rfl) (fun _ _ _ h => h) (Or.inl ⟨by rfl, ?hy22_66⟩) (by assumption) ?rest22_66
          case hy22_66 => (intro w hSw; (try dsimp only at hSw); go_simp; try (with_reducible rfl))
          simp only [Act.put, List.getElem_toArray, List.getElem_cons_zero, List.getElem_cons_succ, List.setIfInBounds_toArray, List.set_cons_zero, List.set_cons_succ]
          refine wpAnyH_take (i := 23) (v := ?v23_67) rfl (by kernel_rfl) (by kernel_rfl) (by kernel_rfl) (fun _ _ _ h => h) (Or.inl ⟨by rfl, ?hy23_67⟩) (by assumption) ?rest23_67
          case hy23_67 => (intro w hSw; (try dsimp only at hSw); go_simp; try (with_reducible rfl))
          simp only [Act.put, List.getElem_toArray, List.getElem_cons_zero, List.getElem_cons_succ, List.setIfInBounds_toArray, List.set_cons_zero, List.set_cons_succ]
          refine wpAnyH_take (i := 24) (v := ?v24_68) rfl (by kernel_rfl) (by kernel_rfl) (by kernel_rfl) (fun _ _ _ h => h) (Or.inl ⟨by rfl, ?hy24_68⟩) (by assumption) ?rest24_68
          case hy24_68 => (intro w hSw; (try dsimp only at hSw); go_simp; try (with_reducible rfl))
          simp only [Act.put, List.getElem_toArray, List.getElem_cons_zero, List.getElem_cons_succ, List.setIfInBounds_toArray, List.set_cons_zero, List.set_cons_succ]
          refine wpAnyH_take (i := 25) (v := ?v25_69) rfl (by kernel_rfl) (by kernel_rfl) (by kernel_rfl) (fun _ _ _ h => h) (Or.inl ⟨by rfl, ?hy25_69⟩) (by assumption) ?rest25_69
          case hy25_69 => (intro w hSw; (try dsimp only at hSw); go_simp; try (with_reducible rfl))
          simp only [Act.put, List.getElem_toArray, List.getElem_cons_zero, List.getElem_cons_succ, List.setIfInBounds_toArray, List.set_cons_zero, List.set_cons_succ]
          refine wpAnyH_ready (rs := [1, 7]) (by kernel_rfl) (by simp) ?_
          refine (AllReadyH.cons rfl (fun K hK => ?_) (AllReadyH.cons rfl (fun K hK => ?_) AllReadyH.nil))
          · skip
            go_simp
            refine hK.out _ _ ?_ (fun hS' => ?_)
            · exact hS
            clear hK K
            try simp only [Act.put, List.getElem_toArray, List.getElem_cons_zero, List.getElem_cons_succ, List.setIfInBounds_toArray, List.set_cons_zero, List.set_cons_succ]
            replace hS := hS'
            clear hS'
            refine wpAnyH_ready (rs := [7]) (by kernel_rfl) (by simp) ?_
            refine (AllReadyH.cons rfl (fun K hK => ?_) AllReadyH.nil)
            go_simp
            refine (NA _ hS.out.below).mono ?_
            rintro e x1 ⟨rfl, rfl⟩
            go_wp2_with fail
            refine hK.out _ _ ?_ (fun hS' => ?_)
            · exact hS
            clear hK K
            try simp only [Act.put, List.getElem_toArray, List.getElem_cons_zero, List.getElem_cons_succ, List.setIfInBounds_toArray, List.set_cons_zero, List.set_cons_succ]
            replace hS := hS'
            clear hS'
            refine wpAnyH_ready (rs := [14]) (by kernel_rfl) (by simp) ?_
            refine (AllReadyH.cons rfl (fun K hK => ?_) AllReadyH.nil)
            go_simp
            refine (NB _ hS.out.below).mono ?_
            rintro e x1 ⟨rfl, rfl⟩
            go_wp2_with fail
            refine hK.out _ _ ?_ (fun hS' => ?_)
            · exact hS
            clear hK K
            try simp only [Act.put, List.getElem_toArray, List.getElem_cons_zero, List.getElem_cons_succ, List.setIfInBounds_toArray, List.set_cons_zero, List.set_cons_succ]
            replace hS := hS'
            clear hS'
            refine wpAnyH_ready (rs := [26]) (by kernel_rfl) (by simp) ?_
            refine (AllReadyH.cons rfl (fun K hK => ?_) AllReadyH.nil)
            go_simp
            refine hK.out _ _ ?_ (fun hS' => ?_)
            · exact hS
            clear hK K
            try simp only [Act.put, List.getElem_toArray, List.getElem_cons_zero, List.getElem_cons_succ, List.setIfInBounds_toArray, List.set_cons_zero, List.set_cons_succ]
            replace hS := hS'
            clear hS'
            refine wpAnyH_ready (rs := [27]) (by kernel_rfl) (by simp) ?_
            refine (AllReadyH.cons rfl (fun K hK => ?_) AllReadyH.nil)
            go_simp
            have hal := (Below.refl wd.heap.size wd).alloc (Nat.le_refl _) (.cells #[.int .i64 za, .int .i64 zb, .int .i64 (v % 4), .int .i64 (v / 4 % 4), .int .i64 (v / 16 % 4), .bool (decide (64 ≤ v)), .slice none 0 0] 43)
            have HQe := Hid.mk' (HQd.out.on hal)
            obtain ⟨_, _, _, _, _, _, _, _, _, _, c10e⟩ := mbox_cells HQe.out.box
            refine hK.out _ _ ?_ (fun hS' => ?_)
            · exact hS.out.on hal
            clear hK K
            try simp only [Act.put, List.getElem_toArray, List.getElem_cons_zero, List.getElem_cons_succ, List.setIfInBounds_toArray, List.set_cons_zero, List.set_cons_succ]
            replace hS := hS'
            clear hS'
            refine wpAnyH_ready (rs := [28]) (by kernel_rfl) (by simp) ?_
            refine (AllReadyH.cons rfl (fun K hK => ?_) AllReadyH.nil)
            refine step_addR (by rfl) (.tmp 66) (.tmp 92) (by rfl) (by rfl) HOd.out HQd.out.lt ⟨za, zb, v % 4, v / 4 % 4, v / 16 % 4, decide (64 ≤ v), none, 0, []⟩ (by rfl) (by have := hRL.out; omega) (fun p8 c8 w8 hO8 hB8 => ?_)
            have HQ8 := Hid.mk' (HQe.out.onB hB8)
            have c8f := HQ8.out.froz 10
            obtain ⟨_, _, _, _, _, _, _, _, _, _, c810⟩ := mbox_cells HQ8.out.box
            have HO8 := Hid.mk' hO8
            clear hO8 hB8
            go_simp
            refine hK.out _ _ ?_ (fun hS' => ?_)
            · exact HQ8.out.q
            clear hK K
            try simp only [Act.put, List.getElem_toArray, List.getElem_cons_zero, List.getElem_cons_succ, List.setIfInBounds_toArray, List.set_cons_zero, List.set_cons_succ]
            replace hS := hS'
            clear hS'
            refine wpAnyH_take (i := 29) (v := ?v29_70) rfl (by kernel_rfl) (by kernel_rfl) (by kernel_rfl) (fun _ _ _ h => h) (Or.inl ⟨by rfl, ?hy29_70⟩) (by assumption) ?rest29_70
            case hy29_70 => (intro w hSw; (try dsimp only at hSw); go_simp; try (with_reducible rfl))
            simp only [Act.put, List.getElem_toArray, List.getElem_cons_zero, List.getElem_cons_succ, List.setIfInBounds_toArray, List.set_cons_zero, List.set_cons_succ]
            refine wpAnyH_ready (rs := [30]) (by kernel_rfl) (by simp) ?_
            refine (AllReadyH.cons rfl (fun K hK => ?_) AllReadyH.nil)
            go_simp
            have fs := (Fr.refl (fun i => i = w.heap.size + 1) w8).setCell (p := ⟨w.heap.size + 1, 10, none⟩) (.inl rfl) (.slice p8 (rs.length + 1) c8)
            have hq9 : InQ0 w (w8.setCell ⟨w.heap.size + 1, 10, none⟩ (.slice p8 (rs.length + 1) c8)) := ⟨HQ8.out.q.below.setCell (Nat.le_succ _) _, by rw [fs.block _ (by have := HQ8.out.lt; omega) (by omega)]; exact HQ8.out.q.res⟩
            have hbox9 : (w8.setCell ⟨w.heap.size + 1, 10, none⟩ (.slice p8 (rs.length + 1) c8)).heap[w.heap.size + 1]? = some (.cells #[.int .i64 x0, .int .i64 z1, .int .i64 z3, .int .i64 (x9 / 16), .int .i64 (x9 % 16), .int .i64 z10, .int .i64 z12, .int .i64 0, .int .i64 0, .int .i64 0, .slice p8 (rs.length + 1) c8] 26 (0, 0)) := by simp [World.setCell, Array.getElem?_modify, HQ8.out.box]
            have ho9 := HO8.out.fr fs (fun g hg => by have := HO8.out.above g hg; omega)
            have HL9 : Hid (InL w ⟨x0, z1, z3, x9 / 16, x9 % 16, z10, z12, 0, 0, 0, p8, c8, rs ++ [(⟨za, zb, v % 4, v / 4 % 4, v / 16 % 4, decide (64 ≤ v), none, 0, []⟩ : Rc)]⟩ (w8.setCell ⟨w.heap.size + 1, 10, none⟩ (.slice p8 (rs.length + 1) c8))) :=
              ⟨⟨hq9, by show _ = some (Obj.cells #[.int .i64 x0, .int .i64 z1, .int .i64 z3, .int .i64 (x9 / 16), .int .i64 (x9 % 16), .int .i64 z10, .int .i64 z12, .int .i64 0, .int .i64 0, .int .i64 0, .slice p8 (rs ++ [(⟨za, zb, v % 4, v / 4 % 4, v / 16 % 4, decide (64 ≤ v), none, 0, []⟩ : Rc)]).length c8] _ _); rw [show (rs ++ [(⟨za, zb, v % 4, v / 4 % 4, v / 16 % 4, decide (64 ≤ v), none, 0, []⟩ : Rc)]).length = rs.length + 1 by simp]; exact hbox9⟩, ho9, fun x hx => by
                rcases List.mem_append.1 hx with h | h
                · exact HNb.out x h
                · obtain rfl := List.mem_singleton.1 h
                  exact HYN.out⟩
            clear hbox9 ho9 fs
            refine hK.out _ _ ?_ (fun hS' => ?_)
            · exact hq9
            clear hK K
            try simp only [Act.put, List.getElem_toArray, List.getElem_cons_zero, List.getElem_cons_succ, List.setIfInBounds_toArray, List.set_cons_zero, List.set_cons_succ]
            replace hS := hS'
            clear hS'
            refine wpAnyH_done (by kernel_rfl) ?_ _
            clear hS hq9 c810 c8f c10 c10e
            go_wp2_with fail
            go_roundw
            case rel => exact ⟨j + 5, k + 1, p8, c8, rs ++ [(⟨za, zb, v % 4, v / 4 % 4, v / 16 % 4, decide (64 ≤ v), none, 0, []⟩ : Rc)], by have := hJ.out; omega, by omega, by go_num, by have := hRL.out; simp; omega, HL9, HS3⟩
            case measure => simp [intOf]; omega
          · skip
            go_simp
            refine (NA _ hS.out.below).mono ?_
            rintro e x1 ⟨rfl, rfl⟩
            go_wp2_with fail
            refine hK.out _ _ ?_ (fun hS' => ?_)
            · exact hS
            clear hK K
            try simp only [Act.put, List.getElem_toArray, List.getElem_cons_zero, List.getElem_cons_succ, List.setIfInBounds_toArray, List.set_cons_zero, List.set_cons_succ]
            replace hS := hS'
            clear hS'
            refine wpAnyH_ready (rs := [1, 14]) (by kernel_rfl) (by simp) ?_
            refine (AllReadyH.cons rfl (fun K hK => ?_) (AllReadyH.cons rfl (fun K hK => ?_) AllReadyH.nil))
            · skip
              go_simp
              refine hK.out _ _ ?_ (fun hS' => ?_)
              · exact hS
              clear hK K
              try simp only [Act.put, List.getElem_toArray, List.getElem_cons_zero, List.getElem_cons_succ, List.setIfInBounds_toArray, List.set_cons_zero, List.set_cons_succ]
              replace hS := hS'
              clear hS'
              refine wpAnyH_ready (rs := [14]) (by kernel_rfl) (by simp) ?_
              refine (AllReadyH.cons rfl (fun K hK => ?_) AllReadyH.nil)
              go_simp
              refine (NB _ hS.out.below).mono ?_
              rintro e x1 ⟨rfl, rfl⟩
              go_wp2_with fail
              refine hK.out _ _ ?_ (fun hS' => ?_)
              · exact hS
              clear hK K
              try simp only [Act.put, List.getElem_toArray, List.getElem_cons_zero, List.getElem_cons_succ, List.setIfInBounds_toArray, List.set_cons_zero, List.set_cons_succ]
              replace hS := hS'
              clear hS'
              refine wpAnyH_ready (rs := [26]) (by kernel_rfl) (by simp) ?_
              refine (AllReadyH.cons rfl (fun K hK => ?_) AllReadyH.nil)
              go_simp
              refine hK.out _ _ ?_ (fun hS' => ?_)
              · exact hS
              clear hK K
              try simp only [Act.put, List.getElem_toArray, List.getElem_cons_zero, List.getElem_cons_succ, List.setIfInBounds_toArray, List.set_cons_zero, List.set_cons_succ]
              replace hS := hS'
              clear hS'
              refine wpAnyH_ready (rs := [27]) (by kernel_rfl) (by simp) ?_
              refine (AllReadyH.cons rfl (fun K hK => ?_) AllReadyH.nil)
              go_simp
              have hal := (Below.refl wd.heap.size wd).alloc (Nat.le_refl _) (.cells #[.int .i64 za, .int .i64 zb, .int .i64 (v % 4), .int .i64 (v / 4 % 4), .int .i64 (v / 16 % 4), .bool (decide (64 ≤ v)), .slice none 0 0] 43)
              have HQe := Hid.mk' (HQd.out.on hal)
              obtain ⟨_, _, _, _, _, _, _, _, _, _, c10e⟩ := mbox_cells HQe.out.box
              refine hK.out _ _ ?_ (fun hS' => ?_)
              · exact hS.out.on hal
              clear hK K
              try simp only [Act.put, List.getElem_toArray, List.getElem_cons_zero, List.getElem_cons_succ, List.setIfInBounds_toArray, List.set_cons_zero, List.set_cons_succ]
              replace hS := hS'
              clear hS'
              refine wpAnyH_ready (rs := [28]) (by kernel_rfl) (by simp) ?_
              refine (AllReadyH.cons rfl (fun K hK => ?_) AllReadyH.nil)
              refine step_addR (by rfl) (.tmp 66) (.tmp 92) (by rfl) (by rfl) HOd.out HQd.out.lt ⟨za, zb, v % 4, v / 4 % 4, v / 16 % 4, decide (64 ≤ v), none, 0, []⟩ (by rfl) (by have := hRL.out; omega) (fun p8 c8 w8 hO8 hB8 => ?_)
              have HQ8 := Hid.mk' (HQe.out.onB hB8)
              have c8f := HQ8.out.froz 10
              obtain ⟨_, _, _, _, _, _, _, _, _, _, c810⟩ := mbox_cells HQ8.out.box
              have HO8 := Hid.mk' hO8
              clear hO8 hB8
              go_simp
              refine hK.out _ _ ?_ (fun hS' => ?_)
              · exact HQ8.out.q
              clear hK K
              try simp only [Act.put, List.getElem_toArray, List.getElem_cons_zero, List.getElem_cons_succ, List.setIfInBounds_toArray, List.set_cons_zero, List.set_cons_succ]
              replace hS := hS'
              clear hS'
              refine wpAnyH_take (i := 29) (v := ?v29_71) rfl (by kernel_rfl) (by kernel_rfl) (by kernel_rfl) (fun _ _ _ h => h) (Or.inl ⟨by rfl, ?hy29_71⟩) (by assumption) ?rest29_71
              case hy29_71 => (intro w hSw; (try dsimp only at hSw); go_simp; try (with_reducible rfl))
              simp only [Act.put, List.getElem_toArray, List.getElem_cons_zero, List.getElem_cons_succ, List.setIfInBounds_toArray, List.set_cons_zero, List.set_cons_succ]
              refine wpAnyH_ready (rs := [30]) (by kernel_rfl) (by simp) ?_
              refine (AllReadyH.cons rfl (fun K hK => ?_) AllReadyH.nil)
              go_simp
              have fs := (Fr.refl (fun i => i = w.heap.size + 1) w8).setCell (p := ⟨w.heap.size + 1, 10, none⟩) (.inl rfl) (.slice p8 (rs.length + 1) c8)
              have hq9 : InQ0 w (w8.setCell ⟨w.heap.size + 1, 10, none⟩ (.slice p8 (rs.length + 1) c8)) := ⟨HQ8.out.q.below.setCell (Nat.le_succ _) _, by rw [fs.block _ (by have := HQ8.out.lt; omega) (by omega)]; exact HQ8.out.q.res⟩
              have hbox9 : (w8.setCell ⟨w.heap.size + 1, 10, none⟩ (.slice p8 (rs.length + 1) c8)).heap[w.heap.size + 1]? = some (.cells #[.int .i64 x0, .int .i64 z1, .int .i64 z3, .int .i64 (x9 / 16), .int .i64 (x9 % 16), .int .i64 z10, .int .i64 z12, .int .i64 0, .int .i64 0, .int .i64 0, .slice p8 (rs.length + 1) c8] 26 (0, 0)) := by simp [World.setCell, Array.getElem?_modify, HQ8.out.box]
              have ho9 := HO8.out.fr fs (fun g hg => by have := HO8.out.above g hg; omega)
              have HL9 : Hid (InL w ⟨x0, z1, z3, x9 / 16, x9 % 16, z10, z12, 0, 0, 0, p8, c8, rs ++ [(⟨za, zb, v % 4, v / 4 % 4, v / 16 % 4, decide (64 ≤ v), none, 0, []⟩ : Rc)]⟩ (w8.setCell ⟨w.heap.size + 1, 10, none⟩ (.slice p8 (rs.length + 1) c8))) :=
                ⟨⟨hq9, by show _ = some (Obj.cells #[.int .i64 x0, .int .i64 z1, .int .i64 z3, .int .i64 (x9 / 16), .int .i64 (x9 % 16), .int .i64 z10, .int .i64 z12, .int .i64 0, .int .i64 0, .int .i64 0, .slice p8 (rs ++ [(⟨za, zb, v % 4, v / 4 % 4, v / 16 % 4, decide (64 ≤ v), none, 0, []⟩ : Rc)]).length c8] _ _); rw [show (rs ++ [(⟨za, zb, v % 4, v / 4 % 4, v / 16 % 4, decide (64 ≤ v), none, 0, []⟩ : Rc)]).length = rs.length + 1 by simp]; exact hbox9⟩, ho9, fun x hx => by
                  rcases List.mem_append.1 hx with h | h
                  · exact HNb.out x h
                  · obtain rfl := List.mem_singleton.1 h
                    exact HYN.out⟩
              clear hbox9 ho9 fs
              refine hK.out _ _ ?_ (fun hS' => ?_)
              · exact hq9
              clear hK K
              try simp only [Act.put, List.getElem_toArray, List.getElem_cons_zero, List.getElem_cons_succ, List.setIfInBounds_toArray, List.set_cons_zero, List.set_cons_succ]
              replace hS := hS'
              clear hS'
              refine wpAnyH_done (by kernel_rfl) ?_ _
              clear hS hq9 c810 c8f c10 c10e
              go_wp2_with fail
              go_roundw
              case rel => exact ⟨j + 5, k + 1, p8, c8, rs ++ [(⟨za, zb, v % 4, v / 4 % 4, v / 16 % 4, decide (64 ≤ v), none, 0, []⟩ : Rc)], by have := hJ.out; omega, by omega, by go_num, by have := hRL.out; simp; omega, HL9, HS3⟩
              case measure => simp [intOf]; omega
            · skip
              go_simp
              refine (NB _ hS.out.below).mono ?_
              rintro e x1 ⟨rfl, rfl⟩
              go_wp2_with fail
              refine hK.out _ _ ?_ (fun hS' => ?_)
              · exact hS
              clear hK K
              try simp only [Act.put, List.getElem_toArray, List.getElem_cons_zero, List.getElem_cons_succ, List.setIfInBounds_toArray, List.set_cons_zero, List.set_cons_succ]
              replace hS := hS'
              clear hS'
              refine wpAnyH_ready (rs := [1, 26]) (by kernel_rfl) (by simp) ?_
              refine (AllReadyH.cons rfl (fun K hK => ?_) (AllReadyH.cons rfl (fun K hK => ?_) AllReadyH.nil))
              · skip
                go_simp
                refine hK.out _ _ ?_ (fun hS' => ?_)
                · exact hS
                clear hK K
                try simp only [Act.put, List.getElem_toArray, List.getElem_cons_zero, List.getElem_cons_succ, List.setIfInBounds_toArray, List.set_cons_zero, List.set_cons_succ]
                replace hS := hS'
                clear hS'
                refine wpAnyH_ready (rs := [26]) (by kernel_rfl) (by simp) ?_
                refine (AllReadyH.cons rfl (fun K hK => ?_) AllReadyH.nil)
                go_simp
                refine hK.out _ _ ?_ (fun hS' => ?_)
                · exact hS
                clear hK K
                try simp only [Act.put, List.getElem_toArray, List.getElem_cons_zero, List.getElem_cons_succ, List.setIfInBounds_toArray, List.set_cons_zero, List.set_cons_succ]
                replace hS := hS'
                clear hS'
                refine wpAnyH_ready (rs := [27]) (by kernel_rfl) (by simp) ?_
                refine (AllReadyH.cons rfl (fun K hK => ?_) AllReadyH.nil)
                go_simp
                have hal := (Below.refl wd.heap.size wd).alloc (Nat.le_refl _) (.cells #[.int .i64 za, .int .i64 zb, .int .i64 (v % 4), .int .i64 (v / 4 % 4), .int .i64 (v / 16 % 4), .bool (decide (64 ≤ v)), .slice none 0 0] 43)
                have HQe := Hid.mk' (HQd.out.on hal)
                obtain ⟨_, _, _, _, _, _, _, _, _, _, c10e⟩ := mbox_cells HQe.out.box
                refine hK.out _ _ ?_ (fun hS' => ?_)
                · exact hS.out.on hal
                clear hK K
                try simp only [Act.put, List.getElem_toArray, List.getElem_cons_zero, List.getElem_cons_succ, List.setIfInBounds_toArray, List.set_cons_zero, List.set_cons_succ]
                replace hS := hS'
                clear hS'
                refine wpAnyH_ready (rs := [28]) (by kernel_rfl) (by simp) ?_
                refine (AllReadyH.cons rfl (fun K hK => ?_) AllReadyH.nil)
                refine step_addR (by rfl) (.tmp 66) (.tmp 92) (by rfl) (by rfl) HOd.out HQd.out.lt ⟨za, zb, v % 4, v / 4 % 4, v / 16 % 4, decide (64 ≤ v), none, 0, []⟩ (by rfl) (by have := hRL.out; omega) (fun p8 c8 w8 hO8 hB8 => ?_)
                have HQ8 := Hid.mk' (HQe.out.onB hB8)
                have c8f := HQ8.out.froz 10
                obtain ⟨_, _, _, _, _, _, _, _, _, _, c810⟩ := mbox_cells HQ8.out.box
                have HO8 := Hid.mk' hO8
                clear hO8 hB8
                go_simp
                refine hK.out _ _ ?_ (fun hS' => ?_)
                · exact HQ8.out.q
                clear hK K
                try simp only [Act.put, List.getElem_toArray, List.getElem_cons_zero, List.getElem_cons_succ, List.setIfInBounds_toArray, List.set_cons_zero, List.set_cons_succ]
                replace hS := hS'
                clear hS'
                refine wpAnyH_take (i := 29) (v := ?v29_72) rfl (by kernel_rfl) (by kernel_rfl) (by kernel_rfl) (fun _ _ _ h => h) (Or.inl ⟨by rfl, ?hy29_72⟩) (by assumption) ?rest29_72
                case hy29_72 => (intro w hSw; (try dsimp only at hSw); go_simp; try (with_reducible rfl))
                simp only [Act.put, List.getElem_toArray, List.getElem_cons_zero, List.getElem_cons_succ, List.setIfInBounds_toArray, List.set_cons_zero, List.set_cons_succ]
                refine wpAnyH_ready (rs := [30]) (by kernel_rfl) (by simp) ?_
                refine (AllReadyH.cons rfl (fun K hK => ?_) AllReadyH.nil)
                go_simp
                have fs := (Fr.refl (fun i => i = w.heap.size + 1) w8).setCell (p := ⟨w.heap.size + 1, 10, none⟩) (.inl rfl) (.slice p8 (rs.length + 1) c8)
                have hq9 : InQ0 w (w8.setCell ⟨w.heap.size + 1, 10, none⟩ (.slice p8 (rs.length + 1) c8)) := ⟨HQ8.out.q.below.setCell (Nat.le_succ _) _, by rw [fs.block _ (by have := HQ8.out.lt; omega) (by omega)]; exact HQ8.out.q.res⟩
                have hbox9 : (w8.setCell ⟨w.heap.size + 1, 10, none⟩ (.slice p8 (rs.length + 1) c8)).heap[w.heap.size + 1]? = some (.cells #[.int .i64 x0, .int .i64 z1, .int .i64 z3, .int .i64 (x9 / 16), .int .i64 (x9 % 16), .int .i64 z10, .int .i64 z12, .int .i64 0, .int .i64 0, .int .i64 0, .slice p8 (rs.length + 1) c8] 26 (0, 0)) := by simp [World.setCell, Array.getElem?_modify, HQ8.out.box]
                have ho9 := HO8.out.fr fs (fun g hg => by have := HO8.out.above g hg; omega)
                have HL9 : Hid (InL w ⟨x0, z1, z3, x9 / 16, x9 % 16, z10, z12, 0, 0, 0, p8, c8, rs ++ [(⟨za, zb, v % 4, v / 4 % 4, v / 16 % 4, decide (64 ≤ v), none, 0, []⟩ : Rc)]⟩ (w8.setCell ⟨w.heap.size + 1, 10, none⟩ (.slice p8 (rs.length + 1) c8))) :=
                  ⟨⟨hq9, by show _ = some (Obj.cells #[.int .i64 x0, .int .i64 z1, .int .i64 z3, .int .i64 (x9 / 16), .int .i64 (x9 % 16), .int .i64 z10, .int .i64 z12, .int .i64 0, .int .i64 0, .int .i64 0, .slice p8 (rs ++ [(⟨za, zb, v % 4, v / 4 % 4, v / 16 % 4, decide (64 ≤ v), none, 0, []⟩ : Rc)]).length c8] _ _); rw [show (rs ++ [(⟨za, zb, v % 4, v / 4 % 4, v / 16 % 4, decide (64 ≤ v), none, 0, []⟩ : Rc)]).length = rs.length + 1 by simp]; exact hbox9⟩, ho9, fun x hx => by
                    rcases List.mem_append.1 hx with h | h
                    · exact HNb.out x h
                    · obtain rfl := List.mem_singleton.1 h
                      exact HYN.out⟩
                clear hbox9 ho9 fs
                refine hK.out _ _ ?_ (fun hS' => ?_)
                · exact hq9
                clear hK K
                try simp only [Act.put, List.getElem_toArray, List.getElem_cons_zero, List.getElem_cons_succ, List.setIfInBounds_toArray, List.set_cons_zero, List.set_cons_succ]
                replace hS := hS'
                clear hS'
                refine wpAnyH_done (by kernel_rfl) ?_ _
                clear hS hq9 c810 c8f c10 c10e
                go_wp2_with fail
                go_roundw
                case rel => exact ⟨j + 5, k + 1, p8, c8, rs ++ [(⟨za, zb, v % 4, v / 4 % 4, v / 16 % 4, decide (64 ≤ v), none, 0, []⟩ : Rc)], by have := hJ.out; omega, by omega, by go_num, by have := hRL.out; simp; omega, HL9, HS3⟩
                case measure => simp [intOf]; omega
              · skip
                go_simp
                refine hK.out _ _ ?_ (fun hS' => ?_)
                · exact hS
                clear hK K
                try simp only [Act.put, List.getElem_toArray, List.getElem_cons_zero, List.getElem_cons_succ, List.setIfInBounds_toArray, List.set_cons_zero, List.set_cons_succ]
                replace hS := hS'
                clear hS'
                refine wpAnyH_ready (rs := [1, 27]) (by kernel_rfl) (by simp) ?_
                refine (AllReadyH.cons rfl (fun K hK => ?_) (AllReadyH.cons rfl (fun K hK => ?_) AllReadyH.nil))
                · skip
                  go_simp
                  refine hK.out _ _ ?_ (fun hS' => ?_)
                  · exact hS
                  clear hK K
                  try simp only [Act.put, List.getElem_toArray, List.getElem_cons_zero, List.getElem_cons_succ, List.setIfInBounds_toArray, List.set_cons_zero, List.set_cons_succ]
                  replace hS := hS'
                  clear hS'
                  refine wpAnyH_ready (rs := [27]) (by kernel_rfl) (by simp) ?_
                  refine (AllReadyH.cons rfl (fun K hK => ?_) AllReadyH.nil)
                  go_simp
                  have hal := (Below.refl wd.heap.size wd).alloc (Nat.le_refl _) (.cells #[.int .i64 za, .int .i64 zb, .int .i64 (v % 4), .int .i64 (v / 4 % 4), .int .i64 (v / 16 % 4), .bool (decide (64 ≤ v)), .slice none 0 0] 43)
                  have HQe := Hid.mk' (HQd.out.on hal)
                  obtain ⟨_, _, _, _, _, _, _, _, _, _, c10e⟩ := mbox_cells HQe.out.box
                  refine hK.out _ _ ?_ (fun hS' => ?_)
                  · exact hS.out.on hal
                  clear hK K
                  try simp only [Act.put, List.getElem_toArray, List.getElem_cons_zero, List.getElem_cons_succ, List.setIfInBounds_toArray, List.set_cons_zero, List.set_cons_succ]
                  replace hS := hS'
                  clear hS'
                  refine wpAnyH_ready (rs := [28]) (by kernel_rfl) (by simp) ?_
                  refine (AllReadyH.cons rfl (fun K hK => ?_) AllReadyH.nil)
                  refine step_addR (by rfl) (.tmp 66) (.tmp 92) (by rfl) (by rfl) HOd.out HQd.out.lt ⟨za, zb, v % 4, v / 4 % 4, v / 16 % 4, decide (64 ≤ v), none, 0, []⟩ (by rfl) (by have := hRL.out; omega) (fun p8 c8 w8 hO8 hB8 => ?_)
                  have HQ8 := Hid.mk' (HQe.out.onB hB8)
                  have c8f := HQ8.out.froz 10
                  obtain ⟨_, _, _, _, _, _, _, _, _, _, c810⟩ := mbox_cells HQ8.out.box
                  have HO8 := Hid.mk' hO8
                  clear hO8 hB8
                  go_simp
                  refine hK.out _ _ ?_ (fun hS' => ?_)
                  · exact HQ8.out.q
                  clear hK K
                  try simp only [Act.put, List.getElem_toArray, List.getElem_cons_zero, List.getElem_cons_succ, List.setIfInBounds_toArray, List.set_cons_zero, List.set_cons_succ]
                  replace hS := hS'
                  clear hS'
                  refine wpAnyH_take (i := 29) (v := ?v29_73) rfl (by kernel_rfl) (by kernel_rfl) (by kernel_rfl) (fun _ _ _ h => h) (Or.inl ⟨by rfl, ?hy29_73⟩) (by assumption) ?rest29_73
                  case hy29_73 => (intro w hSw; (try dsimp only at hSw); go_simp; try (with_reducible rfl))
                  simp only [Act.put, List.getElem_toArray, List.getElem_cons_zero, List.getElem_cons_succ, List.setIfInBounds_toArray, List.set_cons_zero, List.set_cons_succ]
                  refine wpAnyH_ready (rs := [30]) (by kernel_rfl) (by simp) ?_
                  refine (AllReadyH.cons rfl (fun K hK => ?_) AllReadyH.nil)
                  go_simp
                  have fs := (Fr.refl (fun i => i = w.heap.size + 1) w8).setCell (p := ⟨w.heap.size + 1, 10, none⟩) (.inl rfl) (.slice p8 (rs.length + 1) c8)
                  have hq9 : InQ0 w (w8.setCell ⟨w.heap.size + 1, 10, none⟩ (.slice p8 (rs.length + 1) c8)) := ⟨HQ8.out.q.below.setCell (Nat.le_succ _) _, by rw [fs.block _ (by have := HQ8.out.lt; omega) (by omega)]; exact HQ8.out.q.res⟩
                  have hbox9 : (w8.setCell ⟨w.heap.size + 1, 10, none⟩ (.slice p8 (rs.length + 1) c8)).heap[w.heap.size + 1]? = some (.cells #[.int .i64 x0, .int .i64 z1, .int .i64 z3, .int .i64 (x9 / 16), .int .i64 (x9 % 16), .int .i64 z10, .int .i64 z12, .int .i64 0, .int .i64 0, .int .i64 0, .slice p8 (rs.length + 1) c8] 26 (0, 0)) := by simp [World.setCell, Array.getElem?_modify, HQ8.out.box]
                  have ho9 := HO8.out.fr fs (fun g hg => by have := HO8.out.above g hg; omega)
                  have HL9 : Hid (InL w ⟨x0, z1, z3, x9 / 16, x9 % 16, z10, z12, 0, 0, 0, p8, c8, rs ++ [(⟨za, zb, v % 4, v / 4 % 4, v / 16 % 4, decide (64 ≤ v), none, 0, []⟩ : Rc)]⟩ (w8.setCell ⟨w.heap.size + 1, 10, none⟩ (.slice p8 (rs.length + 1) c8))) :=
                    ⟨⟨hq9, by show _ = some (Obj.cells #[.int .i64 x0, .int .i64 z1, .int .i64 z3, .int .i64 (x9 / 16), .int .i64 (x9 % 16), .int .i64 z10, .int .i64 z12, .int .i64 0, .int .i64 0, .int .i64 0, .slice p8 (rs ++ [(⟨za, zb, v % 4, v / 4 % 4, v / 16 % 4, decide (64 ≤ v), none, 0, []⟩ : Rc)]).length c8] _ _); rw [show (rs ++ [(⟨za, zb, v % 4, v / 4 % 4, v / 16 % 4, decide (64 ≤ v), none, 0, []⟩ : Rc)]).length = rs.length + 1 by simp]; exact hbox9⟩, ho9, fun x hx => by
                      rcases List.mem_append.1 hx with h | h
                      · exact HNb.out x h
                      · obtain rfl := List.mem_singleton.1 h
                        exact HYN.out⟩
                  clear hbox9 ho9 fs
                  refine hK.out _ _ ?_ (fun hS' => ?_)
                  · exact hq9
                  clear hK K
                  try simp only [Act.put, List.getElem_toArray, List.getElem_cons_zero, List.getElem_cons_succ, List.setIfInBounds_toArray, List.set_cons_zero, List.set_cons_succ]
                  replace hS := hS'
                  clear hS'
                  refine wpAnyH_done (by kernel_rfl) ?_ _
                  clear hS hq9 c810 c8f c10 c10e
                  go_wp2_with fail
                  go_roundw
                  case rel => exact ⟨j + 5, k + 1, p8, c8, rs ++ [(⟨za, zb, v % 4, v / 4 % 4, v / 16 % 4, decide (64 ≤ v), none, 0, []⟩ : Rc)], by have := hJ.out; omega, by omega, by go_num, by have := hRL.out; simp; omega, HL9, HS3⟩
                  case measure => simp [intOf]; omega
                · skip
                  go_simp
                  have hal := (Below.refl wd.heap.size wd).alloc (Nat.le_refl _) (.cells #[.int .i64 za, .int .i64 zb, .int .i64 (v % 4), .int .i64 (v / 4 % 4), .int .i64 (v / 16 % 4), .bool (decide (64 ≤ v)), .slice none 0 0] 43)
                  have HQe := Hid.mk' (HQd.out.on hal)
                  obtain ⟨_, _, _, _, _, _, _, _, _, _, c10e⟩ := mbox_cells HQe.out.box
                  refine hK.out _ _ ?_ (fun hS' => ?_)
                  · exact hS.out.on hal
                  clear hK K
                  try simp only [Act.put, List.getElem_toArray, List.getElem_cons_zero, List.getElem_cons_succ, List.setIfInBounds_toArray, List.set_cons_zero, List.set_cons_succ]
                  replace hS := hS'
                  clear hS'
                  refine wpAnyH_ready (rs := [1]) (by kernel_rfl) (by simp) ?_
                  refine (AllReadyH.cons rfl (fun K hK => ?_) AllReadyH.nil)
                  go_simp
                  refine hK.out _ _ ?_ (fun hS' => ?_)
                  · exact hS
                  clear hK K
                  try simp only [Act.put, List.getElem_toArray, List.getElem_cons_zero, List.getElem_cons_succ, List.setIfInBounds_toArray, List.set_cons_zero, List.set_cons_succ]
                  replace hS := hS'
                  clear hS'
                  refine wpAnyH_ready (rs := [28]) (by kernel_rfl) (by simp) ?_
                  refine (AllReadyH.cons rfl (fun K hK => ?_) AllReadyH.nil)
                  refine step_addR (by rfl) (.tmp 66) (.tmp 92) (by rfl) (by rfl) HOd.out HQd.out.lt ⟨za, zb, v % 4, v / 4 % 4, v / 16 % 4, decide (64 ≤ v), none, 0, []⟩ (by rfl) (by have := hRL.out; omega) (fun p8 c8 w8 hO8 hB8 => ?_)
                  have HQ8 := Hid.mk' (HQe.out.onB hB8)
                  have c8f := HQ8.out.froz 10
                  obtain ⟨_, _, _, _, _, _, _, _, _, _, c810⟩ := mbox_cells HQ8.out.box
                  have HO8 := Hid.mk' hO8
                  clear hO8 hB8
                  go_simp
                  refine hK.out _ _ ?_ (fun hS' => ?_)
                  · exact HQ8.out.q
                  clear hK K
                  try simp only [Act.put, List.getElem_toArray, List.getElem_cons_zero, List.getElem_cons_succ, List.setIfInBounds_toArray, List.set_cons_zero, List.set_cons_succ]
                  replace hS := hS'
                  clear hS'
                  refine wpAnyH_take (i := 29) (v := ?v29_74) rfl (by kernel_rfl) (by kernel_rfl) (by kernel_rfl) (fun _ _ _ h => h) (Or.inl ⟨by rfl, ?hy29_74⟩) (by assumption) ?rest29_74
                  case hy29_74 => (intro w hSw; (try dsimp only at hSw); go_simp; try (with_reducible rfl))
                  simp only [Act.put, List.getElem_toArray, List.getElem_cons_zero, List.getElem_cons_succ, List.setIfInBounds_toArray, List.set_cons_zero, List.set_cons_succ]
                  refine wpAnyH_ready (rs := [30]) (by kernel_rfl) (by simp) ?_
                  refine (AllReadyH.cons rfl (fun K hK => ?_) AllReadyH.nil)
                  go_simp
                  have fs := (Fr.refl (fun i => i = w.heap.size + 1) w8).setCell (p := ⟨w.heap.size + 1, 10, none⟩) (.inl rfl) (.slice p8 (rs.length + 1) c8)
                  have hq9 : InQ0 w (w8.setCell ⟨w.heap.size + 1, 10, none⟩ (.slice p8 (rs.length + 1) c8)) := ⟨HQ8.out.q.below.setCell (Nat.le_succ _) _, by rw [fs.block _ (by have := HQ8.out.lt; omega) (by omega)]; exact HQ8.out.q.res⟩
                  have hbox9 : (w8.setCell ⟨w.heap.size + 1, 10, none⟩ (.slice p8 (rs.length + 1) c8)).heap[w.heap.size + 1]? = some (.cells #[.int .i64 x0, .int .i64 z1, .int .i64 z3, .int .i64 (x9 / 16), .int .i64 (x9 % 16), .int .i64 z10, .int .i64 z12, .int .i64 0, .int .i64 0, .int .i64 0, .slice p8 (rs.length + 1) c8] 26 (0, 0)) := by simp [World.setCell, Array.getElem?_modify, HQ8.out.box]
                  have ho9 := HO8.out.fr fs (fun g hg => by have := HO8.out.above g hg; omega)
                  have HL9 : Hid (InL w ⟨x0, z1, z3, x9 / 16, x9 % 16, z10, z12, 0, 0, 0, p8, c8, rs ++ [(⟨za, zb, v % 4, v / 4 % 4, v / 16 % 4, decide (64 ≤ v), none, 0, []⟩ : Rc)]⟩ (w8.setCell ⟨w.heap.size + 1, 10, none⟩ (.slice p8 (rs.length + 1) c8))) :=
                    ⟨⟨hq9, by show _ = some (Obj.cells #[.int .i64 x0, .int .i64 z1, .int .i64 z3, .int .i64 (x9 / 16), .int .i64 (x9 % 16), .int .i64 z10, .int .i64 z12, .int .i64 0, .int .i64 0, .int .i64 0, .slice p8 (rs ++ [(⟨za, zb, v % 4, v / 4 % 4, v / 16 % 4, decide (64 ≤ v), none, 0, []⟩ : Rc)]).length c8] _ _); rw [show (rs ++ [(⟨za, zb, v % 4, v / 4 % 4, v / 16 % 4, decide (64 ≤ v), none, 0, []⟩ : Rc)]).length = rs.length + 1 by simp]; exact hbox9⟩, ho9, fun x hx => by
                      rcases List.mem_append.1 hx with h | h
                      · exact HNb.out x h
                      · obtain rfl := List.mem_singleton.1 h
                        exact HYN.out⟩
                  clear hbox9 ho9 fs
                  refine hK.out _ _ ?_ (fun hS' => ?_)
                  · exact hq9
                  clear hK K
                  try simp only [Act.put, List.getElem_toArray, List.getElem_cons_zero, List.getElem_cons_succ, List.setIfInBounds_toArray, List.set_cons_zero, List.set_cons_succ]
                  replace hS := hS'
                  clear hS'
                  refine wpAnyH_done (by kernel_rfl) ?_ _
                  clear hS hq9 c810 c8f c10 c10e
                  go_wp2_with fail
                  go_roundw
                  case rel => exact ⟨j + 5, k + 1, p8, c8, rs ++ [(⟨za, zb, v % 4, v / 4 % 4, v / 16 % 4, decide (64 ≤ v), none, 0, []⟩ : Rc)], by have := hJ.out; omega, by omega, by go_num, by have := hRL.out; simp; omega, HL9, HS3⟩
                  case measure => simp [intOf]; omega
      · have hkn := Hid.mk' (show k = n by omega)
        have t' : ¬ (j : Int) < l.length := by have := hln.out; omega
        clear hj hrl
        have hown := HLL.out.own
        obtain ⟨p2, c2, e2, hrin, hp0, hlc2, hcm2⟩ := own_rin hown (fun f hf => (HLL.out.nb f hf).ok _)
        simp only [Value.slice.injEq, true_and] at e2
        obtain ⟨rfl, rfl⟩ := e2
        have hmk : MOk wr ⟨x0, z1, z3, x9 / 16, x9 % 16, z10, z12, 0, 0, 0, p', c', rs⟩ := ⟨small_wf (z := x0) hr0.1 (by omega), small_wf (z := z1) w1.1 (by omega), small_wf (z := z3) w3.1 (by omega), small_wf (z := x9 / 16) (by omega) (by omega), small_wf (z := x9 % 16) (by omega) (by omega), small_wf (z := z10) w10.1 (by omega), small_wf (z := z12) w12.1 (by omega), show (Lit.int .i64 0).wf = true by decide, show (Lit.int .i64 0).wf = true by decide, show (Lit.int .i64 0).wf = true by decide, hlc2, hcm2, hp0, hrin⟩
        have V := mvalid_any ⟨x0, z1, z3, x9 / 16, x9 % 16, z10, z12, 0, 0, 0, p', c', rs⟩ wr hmk (fun x hx => by rw [(HLL.out.nb x hx).bag]; simp [kys, szK]) (hK.below HLL.out.q.q.below)
        have HMK := Hid.mk' hmk
        obtain ⟨vb, hvb⟩ : ∃ vb, mayM ⟨x0, z1, z3, x9 / 16, x9 % 16, z10, z12, 0, 0, 0, p', c', rs⟩ = vb := ⟨_, rfl⟩
        rw [hvb] at V
        have HVB := Hid.mk' hvb
        have HRE := Hid.mk' (show recsOf n (l.drop 15) = some (rks rs) by rw [HRR.out, hkn.out, Nat.sub_self]; simp [recsOf])
        have HMV := Hid.mk' (show readV l (rks rs) = mv ⟨x0, z1, z3, x9 / 16, x9 % 16, z10, z12, 0, 0, 0, p', c', rs⟩ from HV.out _)
        have HUQ := Hid.mk' (show ∀ x, Read1 l x → x = mv ⟨x0, z1, z3, x9 / 16, x9 % 16, z10, z12, 0, 0, 0, p', c', rs⟩ from fun x h => by
          obtain ⟨_, _, rs', h3, h4, _⟩ := h
          rw [HX14.out, Int.toNat_natCast, HRE.out] at h3
          cases h3
          rw [h4]; exact HMV.out)
        clear hvb hmk hown hrin hp0 hlc2 hcm2
        obtain ⟨c0, c1, c2, c3, c4, c5, c6, c7, c8, c9, c10⟩ := mbox_cells HLL.out.q.box
        go_wp2_with fail
        refine V.mono ?_
        rintro e w5 ⟨rfl, hb5⟩
        have HQ5 := Hid.mk' (HLL.out.q.on hb5)
        have HM5 := Hid.mk' (HMK.out.below hb5)
        have HO5 := Hid.mk' (HLL.out.own.below hb5)
        have hres5 := HQ5.out.q.res
        clear hb5 c0 c1 c2 c3 c4 c5 c6 c7 c8 c9 c10 V hres
        cases vb
        · have hno : Hid (∀ x, ¬ Read1 l x) := fun x h => by
            have e := HUQ.out x h
            obtain ⟨_, _, _, _, _, h5, _⟩ := h
            rw [e, ← may_mv, HVB.out] at h5
            exact absurd h5 (by simp)
          go_wp2_with (refine wpList_store_row rfl 26 (.tmp 2) (.tmp 103) rfl w.heap.size #[.int .i64 0, .int .i64 0, .int .i64 0, .int .i64 0, .int .i64 0, .int .i64 0, .int .i64 0, .int .i64 0, .int .i64 0, .int .i64 0, .slice none 0 0] rfl rfl 26 #[.int .i64 0, .int .i64 0, .int .i64 0, .int .i64 0, .int .i64 0, .int .i64 0, .int .i64 0, .int .i64 0, .int .i64 0, .int .i64 0, .slice none 0 0] hres5 (by kernel_rfl) rfl (by simp [Value.oneCell']) ?_; rw [setRow_self _ _ _ _ _ hres5])
          try rw [Exit.noGoto_ret]
          obtain ⟨r0, r1, r2, r3, r4, r5, r6, r7, r8, r9, r10⟩ := mbox_cells (m := zm) hres5
          simp only [zm, List.length_nil] at r0 r1 r2 r3 r4 r5 r6 r7 r8 r9 r10
          exact bodyPost_ret (v := .tuple #[.agg #[.int .i64 0, .int .i64 0, .int .i64 0, .int .i64 0, .int .i64 0, .int .i64 0, .int .i64 0, .int .i64 0, .int .i64 0, .int .i64 0, .slice none 0 0], .bool false]) (by simp [results, Tryd.results15, go_sem, r0, r1, r2, r3, r4, r5, r6, r7, r8, r9, r10]) rfl (HNO.out _ HQ5.out.q.below hno.out)
        obtain ⟨c0, c1, c2, c3, c4, c5, c6, c7, c8, c9, c10⟩ := mbox_cells HQ5.out.box
        by_cases k9 : x0 = 9
        · have hno : Hid (∀ x, ¬ Read1 l x) := fun x h => by
            have e := HUQ.out x h
            obtain ⟨_, _, _, _, _, _, h6⟩ := h
            rw [e] at h6
            exact h6 k9
          have d9 : (x0 == 9) = true := by simp [k9]
          clear k9
          go_wp2_with (refine wpList_store_row rfl 26 (.tmp 2) (.tmp 103) rfl w.heap.size #[.int .i64 0, .int .i64 0, .int .i64 0, .int .i64 0, .int .i64 0, .int .i64 0, .int .i64 0, .int .i64 0, .int .i64 0, .int .i64 0, .slice none 0 0] rfl rfl 26 #[.int .i64 0, .int .i64 0, .int .i64 0, .int .i64 0, .int .i64 0, .int .i64 0, .int .i64 0, .int .i64 0, .int .i64 0, .int .i64 0, .slice none 0 0] hres5 (by kernel_rfl) rfl (by simp [Value.oneCell']) ?_; rw [setRow_self _ _ _ _ _ hres5])
          try rw [Exit.noGoto_ret]
          obtain ⟨r0, r1, r2, r3, r4, r5, r6, r7, r8, r9, r10⟩ := mbox_cells (m := zm) hres5
          simp only [zm, List.length_nil] at r0 r1 r2 r3 r4 r5 r6 r7 r8 r9 r10
          exact bodyPost_ret (v := .tuple #[.agg #[.int .i64 0, .int .i64 0, .int .i64 0, .int .i64 0, .int .i64 0, .int .i64 0, .int .i64 0, .int .i64 0, .int .i64 0, .int .i64 0, .slice none 0 0], .bool false]) (by simp [results, Tryd.results15, go_sem, r0, r1, r2, r3, r4, r5, r6, r7, r8, r9, r10]) rfl (HNO.out _ HQ5.out.q.below hno.out)
        · have HRD := Hid.mk' (show Read1 l (mv ⟨x0, z1, z3, x9 / 16, x9 % 16, z10, z12, 0, 0, 0, p', c', rs⟩) from ⟨by omega, by rw [HX14.out]; have := hln.out; omega, rks rs, by rw [HX14.out, Int.toNat_natCast]; exact HRE.out, HMV.out.symm, (may_mv _).1 HVB.out, k9⟩)
          have d9 : (x0 == 9) = false := by simp [k9]
          have HLE := Hid.mk' (show rs.length ≤ 255 by have := hRL.out; omega)
          have HNBB := Hid.mk' (fun x hx => (HLL.out.nb x hx).bag)
          clear k9
          go_wp2_with (refine wpList_store_row rfl 26 (.tmp 2) (.tmp 104) rfl w.heap.size #[.int .i64 x0, .int .i64 z1, .int .i64 z3, .int .i64 (x9 / 16), .int .i64 (x9 % 16), .int .i64 z10, .int .i64 z12, .int .i64 0, .int .i64 0, .int .i64 0, .slice p' rs.length c'] rfl rfl 26 #[.int .i64 0, .int .i64 0, .int .i64 0, .int .i64 0, .int .i64 0, .int .i64 0, .int .i64 0, .int .i64 0, .int .i64 0, .int .i64 0, .slice none 0 0] hres5 (by kernel_rfl) rfl (by simp [Value.oneCell']) ?_)
          have HBS := Hid.mk' (below_setRow HQ5.out.q.below (Nat.le_refl _) #[.int .i64 x0, .int .i64 z1, .int .i64 z3, .int .i64 (x9 / 16), .int .i64 (x9 % 16), .int .i64 z10, .int .i64 z12, .int .i64 0, .int .i64 0, .int .i64 0, .slice p' rs.length c'])
          have HOS := Hid.mk' (mok_of HM5.out (HO5.out.fr (fr_setRow w5 w.heap.size #[.int .i64 x0, .int .i64 z1, .int .i64 z3, .int .i64 (x9 / 16), .int .i64 (x9 % 16), .int .i64 z10, .int .i64 z12, .int .i64 0, .int .i64 0, .int .i64 0, .slice p' rs.length c']) (fun g hg => by have := HO5.out.above g hg; omega)) HLL.out.nb)
          obtain ⟨r0, r1, r2, r3, r4, r5, r6, r7, r8, r9, r10⟩ := mbox_cells (m := ⟨x0, z1, z3, x9 / 16, x9 % 16, z10, z12, 0, 0, 0, p', c', rs⟩) (setRow_heap _ _ _ #[.int .i64 x0, .int .i64 z1, .int .i64 z3, .int .i64 (x9 / 16), .int .i64 (x9 % 16), .int .i64 z10, .int .i64 z12, .int .i64 0, .int .i64 0, .int .i64 0, .slice p' rs.length c'] _ _ hres5)
          exact bodyPost_ret (v := .tuple #[.agg #[.int .i64 x0, .int .i64 z1, .int .i64 z3, .int .i64 (x9 / 16), .int .i64 (x9 % 16), .int .i64 z10, .int .i64 z12, .int .i64 0, .int .i64 0, .int .i64 0, .slice p' rs.length c'], .bool true]) (by simp [results, Tryd.results15, go_sem, r0, r1, r2, r3, r4, r5, r6, r7, r8, r9, r10]) rfl (HPost.out ⟨x0, z1, z3, x9 / 16, x9 % 16, z10, z12, 0, 0, 0, p', c', rs⟩ true _ HOS.out HBS.out (fun _ => ⟨HRD.out, HLE.out, HNBB.out⟩) (fun h => by cases h))
  · have d1 : ((l.length : Int) != 15 + 5 * x14) = true := by simpa using t1
    have hno : ∀ x, ¬ Read1 l x := fun x h => t1 (by rw [← HX14.out]; exact h.2.1)
    clear t1
    go_enter Tryd.func15, Tryd.ntmps15
    go_wp2_with fail
    exact bodyPost_ret (v := .tuple #[.agg #[.int .i64 0, .int .i64 0, .int .i64 0, .int .i64 0, .int .i64 0, .int .i64 0, .int .i64 0, .int .i64 0, .int .i64 0, .int .i64 0, .slice none 0 0], .bool false]) (by simp [results, Tryd.results15, go_sem]) rfl (HNO.out _ B1.out hno)
end Go.Proofs.YtmfkdohfejklhaaDoor
