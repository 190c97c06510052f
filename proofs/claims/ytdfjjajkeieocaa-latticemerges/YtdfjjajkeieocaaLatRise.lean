/-
  Package lattice: rising.
-/
import Derived.Test.YtdfjjajkeieocaaLatSort
namespace Go.Proofs.Ytdfjjajkeieocaa
open Go.RowKit
set_option linter.unusedSimpArgs false
set_option linter.unusedVariables false
set_option maxRecDepth 10000
set_option synthInstance.maxSize 2000

/-- What has been taken out of a map so far. -/
structure Got (G : Int → Option RK) (left : Lit → Bool) (l : List Rc) : Prop where
  there : ∀ y ∈ l, G y.id = some (rk y) ∧ left (.int .i64 y.id) = false
  apart : l.Pairwise (fun a b => a.id ≠ b.id)
  all : ∀ x k, G x = some k → left (.int .i64 x) = true ∨ ∃ y ∈ l, y.id = x
  few : ∀ y ∈ l, y.bag.length ≤ 1099511627776

theorem sameKey_int (x y : Int) : (Lit.int .i64 x).sameKey (.int .i64 y) = decide (x = y) := by
  by_cases h : x = y
  · subst h; simp [Lit.sameKey]
  · simp [Lit.sameKey, h]

theorem Got.start {w : World} {b n : Nat} {G : Int → Option RK} {D : DataW Value} (h : MapR w b n G D) : Got G (Maps.has D) [] :=
  ⟨by simp, List.Pairwise.nil, fun x k hk => .inl (by rw [h.has x (h.wf x k hk), hk]; rfl), by simp⟩

theorem Got.next {G : Int → Option RK} {left : Lit → Bool} {l : List Rc} (h : Got G left l) {y : Rc} (hG : G y.id = some (rk y)) (hl : left (.int .i64 y.id) = true) (hf : y.bag.length ≤ 1099511627776) : Got G (fun z => left z && !z.sameKey (.int .i64 y.id)) (l ++ [y]) := by
  refine ⟨fun x hx => ?_, List.pairwise_append.2 ⟨h.apart, List.pairwise_singleton _ _, fun a ha c hc => ?_⟩, fun x k hk => ?_, fun x hx => ?_⟩
  · rcases List.mem_append.1 hx with q | q
    · have := h.there x q; exact ⟨this.1, by rw [this.2]; rfl⟩
    · simp at q; subst q; exact ⟨hG, by rw [sameKey_int]; simp⟩
  · simp at hc; subst hc
    intro e
    have := (h.there a ha).2
    rw [e, hl] at this; cases this
  · by_cases e : x = y.id
    · exact .inr ⟨y, by simp, e.symm⟩
    · rcases h.all x k hk with q | ⟨s, q1, q2⟩
      · exact .inl (by rw [q, sameKey_int, decide_eq_false e]; rfl)
      · exact .inr ⟨s, by simp [q1], q2⟩
  · rcases List.mem_append.1 hx with q | q
    · exact h.few x q
    · simp at q; subst q; exact hf

/-- All that was there, sorted. -/
theorem Got.done {G : Int → Option RK} {left : Lit → Bool} {l l' : List Rc} (h : Got G left l) (hl : ∀ kl, left kl = false) (hG : ∀ x, Ix x (G x)) (hp : l'.Perm l) (hs : l'.Pairwise (fun a b => ¬ b.id < a.id)) : Asc (rks l') ∧ ∀ x, gK (rks l') x = G x := by
  have ha : l'.Pairwise (fun a b => a.id ≠ b.id) := (hp.pairwise_iff (fun h => Ne.symm h)).2 h.apart
  have hasc : Asc (rks l') := by
    unfold Asc rks
    rw [List.pairwise_map]
    exact (hs.and ha).imp (fun {a b} q => by have := q.1; have := q.2; show a.id < b.id; omega)
  refine ⟨hasc, fun x => ?_⟩
  cases hx : G x with
  | none =>
    refine gK_none.2 fun r hr => ?_
    obtain ⟨y, hy, rfl⟩ := List.mem_map.1 hr
    intro e
    have := (h.there y (hp.mem_iff.1 hy)).1
    rw [show y.id = x from e, hx] at this
    cases this
  | some k =>
    rcases h.all x k hx with q | ⟨y, q1, q2⟩
    · rw [hl] at q; cases q
    · have e := (h.there y q1).1
      rw [q2, hx] at e
      cases e
      have := asc_get hasc (rk y) (List.mem_map.2 ⟨y, hp.mem_iff.2 q1, rfl⟩)
      rw [show (rk y).id = x from q2] at this
      exact this

/-- A row of records that is owned, at a block. -/
def OwnG (W : World) (B : Nat) (a : Value) (l : List Rc) : Prop := OwnR 27 7 W B a l.length (l.flatMap Rc.cells) ∧ ∃ g cap, a = .slice (some ⟨g, 0, none⟩) l.length cap

theorem OwnG.block {W : World} {B : Nat} {a : Value} {l : List Rc} (h : OwnG W B a l) : ∃ g cap cs, a = .slice (some ⟨g, 0, none⟩) l.length cap ∧ a.ownBlock = some g ∧ W.heap[g]? = some (.cells cs 27 (0, 0)) ∧ B ≤ g ∧ g < W.heap.size := by
  obtain ⟨h1, g, cap, rfl⟩ := h
  rcases h1.owns.2 with ⟨h0, _⟩ | ⟨g', cap', cs, hv, _, hg, _⟩
  · cases h0
  · cases hv
    exact ⟨g, cap, cs, rfl, rfl, hg, h1.above g rfl, (Array.getElem?_eq_some_iff.1 hg).1⟩
theorem OwnG.below {W W' : World} {B : Nat} {a : Value} {l : List Rc} (h : OwnG W B a l) (k : Below W.heap.size W W') : OwnG W' B a l := ⟨h.1.below k, h.2⟩
theorem OwnG.other {W W' : World} {B r : Nat} {a : Value} {l : List Rc} (h : OwnG W B a l) (k : Fr (fun j => j = r) W W') (hr : ∀ cs e f, W.heap[r]? ≠ some (.cells cs e f)) : OwnG W' B a l := by
  obtain ⟨g, cap, cs, _, hb, hg, _⟩ := h.block
  refine ⟨h.1.fr k (fun j hj e => ?_), h.2⟩
  rw [hb] at hj; cases hj
  rw [e] at hg
  exact hr _ _ _ hg
theorem ranges_noCells {w : World} {b r n : Nat} {D : DataW Value} {left : Lit → Bool} {cnt : Nat} (h : w.ranges Try.prog 3 recElem b r n D left cnt) : (∀ cs e f, w.heap[r]? ≠ some (.cells cs e f)) ∧ (∀ cs e f, w.heap[b]? ≠ some (.cells cs e f)) := by
  obtain ⟨es, clock, since, seen, c0, hb, _, _, _, hr, _⟩ := h
  exact ⟨fun _ _ _ q => (by rw [hr] at q; cases q), fun _ _ _ q => (by rw [hb] at q; cases q)⟩
theorem ranges_fr {w w' : World} {b r n : Nat} {D : DataW Value} {left : Lit → Bool} {cnt B : Nat} {a : Value} {l : List Rc} (h : w.ranges Try.prog 3 recElem b r n D left cnt) (ho : OwnG w B a l) (k : Fr (fun j => a.ownBlock = some j) w w') : w'.ranges Try.prog 3 recElem b r n D left cnt := by
  obtain ⟨g, cap, cs, _, hb, hg, _⟩ := ho.block
  obtain ⟨n1, n2⟩ := ranges_noCells h
  refine h.kept (row := some g) ⟨k.os, k.tape, k.output, k.size, fun i hi hne => k.block i hi (fun q => hne (by rw [hb] at q; exact q.symm))⟩ (fun q => ?_) (fun q => ?_)
  · cases q; exact n2 _ _ _ hg
  · cases q; exact n1 _ _ _ hg

/-- 'append(v, y)' of one record that was laid for it. -/
theorem wpList_addG {W : World} {ops : Array Oper} {rest : List Oper} {o : Oper} {ac : Act} {Q : Exit → Act → World → Prop} (hgd : o.guard = none) (s x : Operand)
    (ho : o.op = .call { callee := .builtin .append, args := #[s, x], argTypes := #[22, 22] })
    {B : Nat} {a : Value} {A : List Rc} (hs : ac.eval s = a) (h3 : OwnG W B a A) (hB : B ≤ W.heap.size) (y : Rc) {g : Nat} (hg : W.heap.size = g) (hx : ac.eval x = .slice (some ⟨g, 0, none⟩) 1 1) (hl : A.length ≤ 1000000)
    (h : ∀ a' w', OwnG w' B a' (A ++ [y]) → Fr (fun k => a.ownBlock = some k) W w' → wpList Try.prog ops Q rest (ac.put o.dst a') w') : wpList Try.prog ops Q (o :: rest) ac (W.alloc (.cells #[.int .i64 y.id, .int .i64 y.inc, .int .i64 y.st, .int .i64 y.lo, .int .i64 y.hi, .bool y.cut, .slice y.p y.bag.length y.cap] 27)) := by
  subst hg
  obtain ⟨i0, hi, hz0, hz1, hz2⟩ := info_parts infoR
  have b : Below W.heap.size W (W.alloc (.cells #[.int .i64 y.id, .int .i64 y.inc, .int .i64 y.st, .int .i64 y.lo, .int .i64 y.hi, .bool y.cut, .slice y.p y.bag.length y.cap] 27)) := (Below.refl _ _).alloc (Nat.le_refl _) _
  have h4 := h3.below b
  refine wpList_append_fr hgd s x 22 ho 27 i0 _ 7 72 Try.underlying22 hi hz0 hz1 hz2 rfl (by decide) a A.length _ hs h4.1.owns (some ⟨W.heap.size, 0, none⟩) 1 1 [.int .i64 y.id, .int .i64 y.inc, .int .i64 y.st, .int .i64 y.lo, .int .i64 y.hi, .bool y.cut, .slice y.p y.bag.length y.cap] hx (by simp) (by simp) (fun _ => ⟨_, rfl, fun j u hj => ?_⟩) (fun u hu => ?_) (by unfold maxLen; omega) (by omega) fun v' w' hA => h v' w' ?_ ?_
  · have hg := heap_alloc_new W (.cells #[.int .i64 y.id, .int .i64 y.inc, .int .i64 y.st, .int .i64 y.lo, .int .i64 y.hi, .bool y.cut, .slice y.p y.bag.length y.cap] 27)
    rw [Go.WideShapes.add_plain]
    generalize W.alloc (.cells #[.int .i64 y.id, .int .i64 y.inc, .int .i64 y.st, .int .i64 y.lo, .int .i64 y.hi, .bool y.cut, .slice y.p y.bag.length y.cap] 27) = X at hg ⊢
    simp [World.cell?, hg]
    simpa using hj
  · refine flatR_one [y] u ?_
    simpa [Rc.cells] using hu
  · have e1 : (A ++ [y]).length = A.length + 1 := by simp
    have e2 : (A ++ [y]).flatMap Rc.cells = A.flatMap Rc.cells ++ [.int .i64 y.id, .int .i64 y.inc, .int .i64 y.st, .int .i64 y.lo, .int .i64 y.hi, .bool y.cut, .slice y.p y.bag.length y.cap] := by rw [flatR_append]; simp [Rc.cells]
    have h5 := (h4.1.next (Nat.le_trans hB b.size) hA).1
    unfold OwnG
    rw [e1, e2]
    refine ⟨h5, ?_⟩
    rcases h5.owns.2 with ⟨_, h0⟩ | ⟨g', cap', cur, hv, _⟩
    · omega
    · exact ⟨g', cap', hv⟩
  · exact (Fr.of_below b fun k => a.ownBlock = some k).trans hA.fr (fun i q => .inl q)

def RiseP (w : World) (n : Nat) (G : Int → Option RK) (e : Ending) (w' : World) : Prop := ∃ p cap l, e = .returned (.slice p l.length cap) ∧ RIn w' p l ∧ Asc (rks l) ∧ (∀ x, gK (rks l) x = G x) ∧ l.length ≤ n ∧ (∀ y ∈ l, y.bag.length ≤ 1099511627776) ∧ Below w.heap.size w w'

set_option maxHeartbeats 8000000 in
theorem rising_any (b n : Nat) (G : Int → Option RK) (D : DataW Value) (w : World) (hm : MapR w b n G D) (hn : n ≤ 1000000) :
    Calls Try.prog 44 #[.map (some b)] w (RiseP w n G) := by
  have HRP := Hid.mk' (show ∀ e w', RiseP w n G e w' = ∃ p cap l, e = .returned (.slice p l.length cap) ∧ RIn w' p l ∧ Asc (rks l) ∧ (∀ x, gK (rks l) x = G x) ∧ l.length ≤ n ∧ (∀ y ∈ l, y.bag.length ≤ 1099511627776) ∧ Below w.heap.size w w' from fun _ _ => rfl)
  generalize RiseP w n G = Post at HRP ⊢
  have HM := Hid.mk' hm
  have HIX := Hid.mk' hm.ix
  have hcn := hm.size
  have HD := Hid.mk' (show Got G (Maps.has D) [] from Got.start hm)
  obtain ⟨i0, hi, hz0, hz1, hz2⟩ := info_parts infoR
  obtain ⟨c, hc⟩ : ∃ c, Maps.size D = c := ⟨_, rfl⟩
  rw [hc] at hcn
  have HC := Hid.mk' hc
  obtain ⟨M, hmk, hown⟩ : ∃ M : Array Value, (∀ X : World, (Instr.makeSlice 22 (.int .i64 0) (.int .i64 (c : Int))).run Try.prog X = .ok (.slice (some ⟨X.heap.size, 0, none⟩) 0 c) (X.alloc (.cells M 27))) ∧ ∀ X : World, (X.alloc (.cells M 27)).ownsRow 0 27 7 (.slice (some ⟨X.heap.size, 0, none⟩) 0 c) 0 [] := by
    refine ⟨madeCells (Value.agg #[.int .i64 0, .int .i64 0, .int .i64 0, .int .i64 0, .int .i64 0, .bool false, .slice none 0 0]).cells (c * 7), fun X => ?_, fun X => World.ownsRow_made X _ c (Nat.zero_le _) (by unfold maxLen; omega) (size_madeCells _ _)⟩
    have := run_make (P := Try.prog) X 22 27 i0 _ Try.underlying22 hi hz0 .i64 .i64 0 c (Int.le_refl _) (by omega) (by rw [hz2]; omega) (by omega)
    rw [this, hz1]
    simp
  have HO := Hid.mk' (show OwnG (w.alloc (.cells M 27)) w.heap.size (.slice (some ⟨w.heap.size, 0, none⟩) 0 c) [] from ⟨⟨hown w, fun k hk => by simp [Value.ownBlock] at hk; omega⟩, w.heap.size, c, rfl⟩)
  have hB1 := (Below.refl w.heap.size w).alloc (Nat.le_refl _) (.cells M 27)
  have HB1 := Hid.mk' hB1
  have HM1 := Hid.mk' (HM.out.on hB1)
  clear hm hc hi hz0 hz1 hz2 hown hB1
  go_enter Try.func44, Try.ntmps44
  go_wp2_with (first | (at_len; refine wpList_lenR (by rfl) (.tmp 6) (by rfl) (by rfl) (by exact HM.out) HC.out ?_) | (at_range; refine wpList_rangeR (by rfl) (.tmp 9) (by rfl) (by rfl) (by exact HM1.out) ?_))
  intro w1 hrg hb1 _ hs1
  have hb1' : Below (w.alloc (.cells M 27)).heap.size (w.alloc (.cells M 27)) w1 := by simpa using hb1
  have HRG := Hid.mk' hrg
  have HB2 := Hid.mk' (HB1.out.trans (hb1'.mono (by simp)))
  have HO2 := Hid.mk' (HO.out.below hb1')
  clear hrg hb1 hb1' hs1 HO HB1 HM1 hmk
  rw [HC.out] at HRG
  go_wp2_with fail
  go_loopw [3] (fun v W => ∃ left cnt l, Hid (W.ranges Try.prog 3 recElem b (w.heap.size + 1) n D left cnt) ∧ Hid (OwnG W w.heap.size v l) ∧ Hid (Got G left l) ∧ Hid (∀ y ∈ l, ROk w y) ∧ l.length + cnt ≤ n ∧ Hid (Below w.heap.size w W)) (fun _ W => W.rangeLeft b (w.heap.size + 1))
  case atStart => exact ⟨_, _, [], HRG, HO2, HD, Hid.mk' (by simp), by simpa using hcn, HB2⟩
  case round =>
    obtain ⟨left, cnt, l, HR, HO, HGT, HOK, hln, HB⟩ := hrel
    have hle := HR.out.left_eq
    have HLE := Hid.mk' hle
    clear hle HRG HO2 HB2 HD
    go_wp2_with (at_next; refine wpList_nextR (by rfl) (.tmp 10) (by rfl) (by rfl) (by exact HR.out) (by exact HM.out) ?_ ?_)
    · intro hl
      have HL := Hid.mk' hl
      obtain ⟨g, cap, cs, hv, hob, hgc, hBg, hgs⟩ := HO.out.block
      subst hv
      have SR := sortRecs_any g cap w.heap.size l wr HO.out.1 (by omega)
      have HGC := Hid.mk' hBg
      clear hl hob hgc hBg hgs
      go_wp2_with fail
      refine SR.mono ?_
      clear SR
      rintro e w2 ⟨rfl, l', hp, hs, hrow, hfr⟩
      have hpl := hp.length_eq
      have HBW := Hid.mk' (HB.out.trans (hfr.below (B := w.heap.size) (fun i q => by have := HGC.out; omega) HB.out.size))
      have HGD := Hid.mk' (HGT.out.done HL.out HIX.out hp (hs.imp (fun h => by omega)))
      have HIN := Hid.mk' (RIn.of (w := w2) (b := g) (o := 0) (l := l') (fun i hi => ⟨by rw [Nat.zero_add]; exact hrow i hi, (HOK.out _ (hp.mem_iff.1 (by simp [List.getD, hi]))).below HBW.out⟩))
      have HFW := Hid.mk' (show ∀ y ∈ l', y.bag.length ≤ 1099511627776 from fun y hy => HGT.out.few y (hp.mem_iff.1 hy))
      have HLN := Hid.mk' (show l'.length ≤ n by omega)
      have HPL := Hid.mk' (show Value.slice (some ⟨g, 0, none⟩) l.length cap = .slice (some ⟨g, 0, none⟩) l'.length cap by rw [hpl])
      clear hp hs hrow hfr hpl hln HGT HOK HR HB HO
      go_wp2_with fail
      rw [HRP.out]
      exact ⟨_, _, l', congrArg Ending.returned HPL.out, HIN.out, HGD.out.1, HGD.out.2, HLN.out, HFW.out, HBW.out⟩
    · intro y w2 cnt2 hro hyf hGy hly hrg2 hlt hfr2 hen
      have HO2 := Hid.mk' (HO.out.other hfr2 (ranges_noCells HR.out).1)
      have HB2 := Hid.mk' (HB.out.trans (hfr2.below (B := w.heap.size) (fun i q => by omega) HB.out.size))
      have HG2 := Hid.mk' (HGT.out.next hGy hly hyf)
      have HOK2 := Hid.mk' (show ∀ x ∈ l ++ [y], ROk w x from fun x hx => by
        rcases List.mem_append.1 hx with q | q
        · exact HOK.out x q
        · simp at q; subst q; exact hro)
      have HRG2 := Hid.mk' hrg2
      have hB3 := (Below.refl w2.heap.size w2).alloc (Nat.le_refl _) (.cells #[.int .i64 y.id, .int .i64 y.inc, .int .i64 y.st, .int .i64 y.lo, .int .i64 y.hi, .bool y.cut, .slice y.p y.bag.length y.cap] 27)
      have HO3 := Hid.mk' (HO2.out.below hB3)
      have HB3 := Hid.mk' (HB2.out.trans (hB3.mono HB2.out.size))
      have HRG3 := Hid.mk' (HRG2.out.alloc (.cells #[.int .i64 y.id, .int .i64 y.inc, .int .i64 y.st, .int .i64 y.lo, .int .i64 y.hi, .bool y.cut, .slice y.p y.bag.length y.cap] 27))
      have hll : l.length ≤ 1000000 := by omega
      clear hro hGy hly hrg2 hfr2 hyf HO HB HR HGT HOK hB3
      go_wp2_with (at_builtin; refine wpList_addG (by rfl) (.tmp 15) (.tmp 17) (by rfl) (by rfl) (by exact HO3.out) (by exact HB3.out.size) y (g := w2.heap.size + 1) (by simp) (by rfl) hll ?_)
      intro a' w4 ho4 hf4
      have HO4 := Hid.mk' ho4
      have HRG4 := Hid.mk' (ranges_fr HRG3.out HO3.out hf4)
      have HB4 := Hid.mk' (HB3.out.trans (hf4.below (B := w.heap.size) (fun i q => HO3.out.1.above i q) HB3.out.size))
      clear ho4 hf4
      go_wp2_with fail
      go_roundw
      case rel => exact ⟨_, cnt2, l ++ [y], HRG4, HO4, HG2, HOK2, by simp; omega, HB4⟩
      case measure =>
        have e1 := HLE.out
        have e2 := HRG4.out.left_eq
        omega
end Go.Proofs.Ytdfjjajkeieocaa
