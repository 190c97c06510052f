/-
  A map of records by their ids: made, looked into, stored into, ranged over.
-/
import Derived.Test.YtdfjjajkeieocaaLatG
import Derived.Test.YtdfjjajkeieocaaLaw09
import Derived.Test.YtdfjjajkeieocaaRecP
import Derived.Maps.OwnSet
import Derived.Maps.RangeWalk
namespace Go.Proofs.Ytdfjjajkeieocaa
open Go.RowKit
set_option linter.unusedSimpArgs false
set_option linter.unusedVariables false
set_option maxRecDepth 10000
set_option synthInstance.maxSize 2000

def recElem (v : Value) : Option (DataW Value × List MemPlace) := some (.held v, [])
def mkR (r : Rc) : Value := .agg #[.int .i64 r.id, .int .i64 r.inc, .int .i64 r.st, .int .i64 r.lo, .int .i64 r.hi, .bool r.cut, .slice r.p r.bag.length r.cap]
theorem keyI : Maps.Keyed Try.prog 3 := Maps.int_keyed Try.underlying3
theorem keyI_of {x : Int} (h : (Lit.int .i64 x).wf = true) : Go.keyOf Try.prog 3 (.int .i64 x) = some (.int .i64 x) := Maps.keyOf_int_mk Try.underlying3 h
theorem keyI_lit {x : Int} (h : (Lit.int .i64 x).wf = true) : WideAt.IsKeyLit (.int .i64 x) := keyI.key (keyI_of h)

/-- Block b is a map of at most n records; G says what the one under an id says. -/
structure MapR (w : World) (b n : Nat) (G : Int → Option RK) (D : DataW Value) : Prop where
  own : w.ownsMap Try.prog 3 recElem b n D
  has : ∀ x, (Lit.int .i64 x).wf = true → Maps.has D (.int .i64 x) = (G x).isSome
  wf : ∀ x k, G x = some k → (Lit.int .i64 x).wf = true
  el : ∀ x k, G x = some k → ∃ r, rk r = k ∧ ROk w r ∧ r.id = x ∧ r.bag.length ≤ 1099511627776 ∧ ∀ z, D.atKey (.int .i64 x) z = .held (mkR r)

theorem MapR.made (w : World) : MapR (w.alloc (.map #[] 0)) w.heap.size 0 (fun _ => none) (.map []) :=
  ⟨World.ownsMap_made _ _ _ _, fun _ _ => rfl, fun _ _ h => (by cases h), fun _ _ h => (by cases h)⟩
theorem MapR.lt {w : World} {b n : Nat} {G : Int → Option RK} {D : DataW Value} (h : MapR w b n G D) : b < w.heap.size := h.own.lt
theorem grown_of_below {w w' : World} (k : Below w.heap.size w w') : w.grownBy w' none := ⟨k.os, k.tape, k.output, k.size, fun i hi _ => k.block i hi⟩
theorem MapR.on {w w' : World} {b n : Nat} {G : Int → Option RK} {D : DataW Value} (h : MapR w b n G D) (k : Below w.heap.size w w') : MapR w' b n G D :=
  ⟨h.own.kept (grown_of_below k) (by simp), h.has, h.wf, fun x q hq => by obtain ⟨r, h1, h2, h3⟩ := h.el x q hq; exact ⟨r, h1, h2.below k, h3⟩⟩

/-- A record's bag does not lie in a block that has no cells. -/
theorem ROk.turn {w w' : World} {r : Rc} {b : Nat} (h : ROk w r) (k : Fr (fun j => j = b) w w') (hn : ∀ o, w.cell? ⟨b, o, none⟩ = none) : ROk w' r := by
  refine ⟨h.id, h.inc, h.st, h.lo, h.hi, h.len, h.cap, h.nil, h.fin.fr k (fun hl a ha q => ?_) (fun f hf hl a ha q => ?_), h.few⟩
  · obtain ⟨c, o, e, hc⟩ := h.fin.at hl
    rw [e] at ha; cases ha
    obtain rfl : c = b := q
    have := (hc 0 hl).1
    rw [hn] at this; cases this
  · obtain ⟨i, hi, rfl⟩ := List.getElem_of_mem hf
    obtain ⟨c, o, e, hc⟩ := h.fin.at (by omega)
    have hfo := (hc i hi).2.2
    rw [show r.bag.getD i zf = r.bag[i] by simp [List.getD, hi]] at hfo
    obtain ⟨c2, o2, e2, hc2⟩ := hfo.bin hl
    rw [e2] at ha; cases ha
    obtain rfl : c2 = b := q
    have := hc2 0 hl
    rw [hn] at this; cases this

theorem fr_of_grown {w w' : World} {b : Nat} (k : w.grownBy w' (some b)) : Fr (fun j => j = b) w w' := ⟨k.os, k.tape, k.output, k.size, fun i hi hn => k.block i hi (fun e => hn (by cases e; rfl))⟩
theorem map_noCell {w : World} {b n : Nat} {D : DataW Value} (h : w.ownsMap Try.prog 3 recElem b n D) (o : Nat) : w.cell? ⟨b, o, none⟩ = none := by
  obtain ⟨es, clock, hb, _⟩ := h
  simp [World.cell?, hb]

def stepG (G : Int → Option RK) (r : RK) (x : Int) : Option RK := if x = r.id then some r else G x

theorem MapR.put {w w' : World} {b n : Nat} {G : Int → Option RK} {D : DataW Value} (h : MapR w b n G D) {r : Rc} (hr : ROk w r) (hf : r.bag.length ≤ 1099511627776)
    (own' : w'.ownsMap Try.prog 3 recElem b (n + 1) (D.put (.int .i64 r.id) (.held (mkR r)))) (hg : w.grownBy w' (some b)) : MapR w' b (n + 1) (stepG G (rk r)) (D.put (.int .i64 r.id) (.held (mkR r))) := by
  have hi : (rk r).id = r.id := rfl
  refine ⟨own', fun x hx => ?_, fun x k hk => ?_, fun x k hk => ?_⟩
  · unfold stepG
    rw [hi]
    by_cases e : x = r.id
    · subst e; rw [if_pos rfl, Maps.has_put_same h.own.isMap (keyI_lit hr.id)]; rfl
    · rw [if_neg e, Maps.has_put_other (by intro q; cases q; exact e rfl), h.has x hx]
  · unfold stepG at hk
    rw [hi] at hk
    by_cases e : x = r.id
    · subst e; exact hr.id
    · rw [if_neg e] at hk; exact h.wf x k hk
  · unfold stepG at hk
    rw [hi] at hk
    by_cases e : x = r.id
    · subst e; rw [if_pos rfl] at hk; cases hk
      exact ⟨r, rfl, hr.turn (fr_of_grown hg) (map_noCell h.own), rfl, hf, fun z => Maps.atKey_put_same h.own.isMap (keyI_lit hr.id) _ _⟩
    · rw [if_neg e] at hk
      obtain ⟨s, h1, h2, h3, h4, h5⟩ := h.el x k hk
      exact ⟨s, h1, h2.turn (fr_of_grown hg) (map_noCell h.own), h3, h4, fun z => by rw [Maps.atKey_put_other (by intro q; cases q; exact e rfl)]; exact h5 z⟩

section
variable {w : World} {ops : Array Oper} {rest : List Oper} {o : Oper} {a : Act} {Q : Exit → Act → World → Prop} {b n : Nat} {G : Int → Option RK} {D : DataW Value}

/-- 'v, ok := m[k]', where one is there. -/
theorem wpList_lookR_some (hg : o.guard = none) (m x : Operand) (hop : o.op = Op.lookup 60 m x true) (hm : a.eval m = .map (some b)) (h : MapR w b n G D) (i : Int) (hx : a.eval x = .int .i64 i) {k : RK} (hG : G i = some k)
    (hK : ∀ r, rk r = k → ROk w r → r.id = i → r.bag.length ≤ 1099511627776 → wpList Try.prog ops Q rest (a.put o.dst (.tuple #[.agg #[.int .i64 r.id, .int .i64 r.inc, .int .i64 r.st, .int .i64 r.lo, .int .i64 r.hi, .bool r.cut, .slice r.p r.bag.length r.cap], .bool true])) w) : wpList Try.prog ops Q (o :: rest) a w := by
  have hw := h.wf i k hG
  refine wpList_lookup_own_ok w hg m x _ hop 3 27 keyI Try.underlying60 recElem (Try.zeroValue27 w) _ [] rfl b n D hm h.own (.int .i64 i) (.int .i64 i) hx (keyI_of hw) ?_
  intro v ps hv
  obtain ⟨r, h1, h2, h3, h4, h5⟩ := h.el i k hG
  rw [h5] at hv
  simp only [recElem, Option.some.injEq, Prod.mk.injEq, DataW.held.injEq] at hv
  rw [hv.1, h.has i hw, hG]
  exact hK r h1 h2 h3 h4

/-- .. where none is. -/
theorem wpList_lookR_none (hg : o.guard = none) (m x : Operand) (hop : o.op = Op.lookup 60 m x true) (hm : a.eval m = .map (some b)) (h : MapR w b n G D) (i : Int) (hw : (Lit.int .i64 i).wf = true) (hx : a.eval x = .int .i64 i) (hG : G i = none)
    (hK : wpList Try.prog ops Q rest (a.put o.dst (.tuple #[.agg #[.int .i64 0, .int .i64 0, .int .i64 0, .int .i64 0, .int .i64 0, .bool false, .slice none 0 0], .bool false])) w) : wpList Try.prog ops Q (o :: rest) a w := by
  refine wpList_lookup_own_ok w hg m x _ hop 3 27 keyI Try.underlying60 recElem (Try.zeroValue27 w) _ [] rfl b n D hm h.own (.int .i64 i) (.int .i64 i) hx (keyI_of hw) ?_
  intro v ps hv
  have hh : Maps.has D (.int .i64 i) = false := by rw [h.has i hw, hG]; rfl
  rw [Maps.atKey_of_not_has hh] at hv
  simp only [recElem, Option.some.injEq, Prod.mk.injEq, DataW.held.injEq] at hv
  rw [hv.1, hh]
  exact hK

/-- 'm[k] = v'. -/
theorem wpList_putR (hg : o.guard = none) (m x v : Operand) (hop : o.op = Op.mapUpdate 60 m x v) (hm : a.eval m = .map (some b)) (h : MapR w b n G D) (hn : n < maxLen) (r : Rc) (hr : ROk w r) (hf : r.bag.length ≤ 1099511627776)
    (hx : a.eval x = .int .i64 r.id) (hv : a.eval v = .agg #[.int .i64 r.id, .int .i64 r.inc, .int .i64 r.st, .int .i64 r.lo, .int .i64 r.hi, .bool r.cut, .slice r.p r.bag.length r.cap])
    (hK : ∀ w' D', MapR w' b (n + 1) (stepG G (rk r)) D' → w.grownBy w' (some b) → wpList Try.prog ops Q rest (a.put o.dst undef) w') : wpList Try.prog ops Q (o :: rest) a w :=
  wpList_mapUpdate_own w hg m x v _ hop 3 27 keyI Try.underlying60 recElem b n D hm h.own hn _ _ (.int .i64 r.id) hx hv (keyI_of hr.id) (.held (mkR r)) [] rfl
    fun w' own' hgr => hK w' _ (h.put hr hf own' hgr) hgr

/-- 'len(m)'. -/
theorem wpList_lenR (hg : o.guard = none) (m : Operand) (hop : o.op = Op.call { callee := Callee.builtin Builtin.len, args := #[m], argTypes := #[60] }) (hm : a.eval m = .map (some b)) (h : MapR w b n G D) {c : Nat} (hc : Maps.size D = c)
    (hK : wpList Try.prog ops Q rest (a.put o.dst (.int .i64 c)) w) : wpList Try.prog ops Q (o :: rest) a w := by
  subst hc
  exact wpList_len_own w hg m _ hop 3 27 Try.underlying60 recElem b n D hm h.own hK

theorem MapR.size (h : MapR w b n G D) : Maps.size D ≤ n := h.own.size_le

/-- 'range m'. -/
theorem wpList_rangeR (hg : o.guard = none) (m : Operand) (hop : o.op = Op.range 60 m) (hm : a.eval m = .map (some b)) (h : MapR w b n G D)
    (hK : ∀ w', w'.ranges Try.prog 3 recElem b w.heap.size n D (Maps.has D) (Maps.size D) → Below w.heap.size w w' → MapR w' b n G D → w'.heap.size = w.heap.size + 1 → wpList Try.prog ops Q rest (a.put o.dst (.pointer (some ⟨w.heap.size, 0, none⟩))) w') : wpList Try.prog ops Q (o :: rest) a w :=
  wpList_range_own w hg m _ hop 3 27 keyI Try.underlying60 recElem b n D hm h.own fun w' h1 h2 h3 => by
    have hb : Below w.heap.size w w' := ⟨h2.os, h2.tape, h2.output, h2.size, fun k hk => h2.block k hk (by simp)⟩
    exact hK w' h1 hb (h.on hb) h3

/-- The next one of a range: the records are told of as at an elder world w0. -/
theorem wpList_nextR (hg : o.guard = none) (it : Operand) (hop : o.op = Op.next it false) {w0 : World} {r : Nat} {left : Lit → Bool} {cnt : Nat} (hit : a.eval it = .pointer (some ⟨r, 0, none⟩)) (h : w.ranges Try.prog 3 recElem b r n D left cnt) (hm : MapR w0 b n G D)
    (hDone : (∀ kl, left kl = false) → wpList Try.prog ops Q rest (a.put o.dst (.tuple #[.bool false])) w)
    (hMore : ∀ (y : Rc) (w' : World) (cnt' : Nat), ROk w0 y → y.bag.length ≤ 1099511627776 → G y.id = some (rk y) → left (.int .i64 y.id) = true → w'.ranges Try.prog 3 recElem b r n D (fun z => left z && !z.sameKey (.int .i64 y.id)) cnt' → cnt' < cnt →
      Fr (fun j => j = r) w w' → (Instr.entry (.pointer (some ⟨r, 0, none⟩))).run Try.prog w' = .ok (.tuple #[.int .i64 y.id, .agg #[.int .i64 y.id, .int .i64 y.inc, .int .i64 y.st, .int .i64 y.lo, .int .i64 y.hi, .bool y.cut, .slice y.p y.bag.length y.cap]]) w' → wpList Try.prog ops Q rest (a.put o.dst (.tuple #[.bool true, .int .i64 y.id, .agg #[.int .i64 y.id, .int .i64 y.inc, .int .i64 y.st, .int .i64 y.lo, .int .i64 y.hi, .bool y.cut, .slice y.p y.bag.length y.cap]])) w') :
    wpList Try.prog ops Q (o :: rest) a w := by
  refine wpList_plain hg fun K' hK' => ?_
  unfold Oper.wp
  rcases h.next keyI o.type with ⟨h0, hl, hrun⟩ | ⟨key, v, kl, y, w', cnt', hkey, hlk, hv, hat, hrun, hrg, hlt, hgr, hsz, hen⟩
  · simp [execOp, hop, hit, hrun, Result.andThen]
    exact hK' _ _ (hDone hl)
  · obtain ⟨x, rfl, rfl, hwx⟩ := Maps.keyOf_int_inv Try.underlying3 hkey
    simp only [recElem, Option.some.injEq] at hv
    subst hv
    have hh := Maps.has_true_of_atKey hat
    rw [hm.has x hwx] at hh
    obtain ⟨k, hk⟩ := Option.isSome_iff_exists.1 hh
    obtain ⟨s, h1, h2, rfl, h4, h5⟩ := hm.el x k hk
    have e := (h5 (.held v)).symm.trans (hat (.held v))
    simp only [DataW.held.injEq] at e
    subst e
    simp [execOp, hop, hit, hrun, Result.andThen]
    exact hK' _ _ (hMore s w' cnt' h2 h4 (by rw [hk, h1]) hlk hrg hlt (fr_of_grown hgr) hen)
end
end Go.Proofs.Ytdfjjajkeieocaa
