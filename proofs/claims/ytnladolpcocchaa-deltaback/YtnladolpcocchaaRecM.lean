/-
  Records as plain Lean values: where a record's bag lies, what it says; records in a slice.
-/
import Derived.Test.YtnladolpcocchaaBagQ
import Derived.Test.YtnladolpcocchaaSpan
namespace Go.Proofs.Ytnladolpcocchaa
open Go.RowKit Go.ChangeShapes Go.WideShapes
set_option linter.unusedSimpArgs false
set_option linter.unusedVariables false
set_option maxRecDepth 10000
set_option synthInstance.maxSize 2000

/-- A record, and where its bag lies. -/
structure Rc where
  id : Int
  inc : Int
  st : Int
  lo : Int
  hi : Int
  cut : Bool
  p : Option Addr
  cap : Nat
  bag : List Fd
def zr : Rc := ⟨0, 0, 0, 0, 0, false, none, 0, []⟩
def Rc.cells (r : Rc) : List Value := [.int .i64 r.id, .int .i64 r.inc, .int .i64 r.st, .int .i64 r.lo, .int .i64 r.hi, .bool r.cut, .slice r.p r.bag.length r.cap]

structure ROk (w : World) (r : Rc) : Prop where
  id : (Lit.int .i64 r.id).wf = true
  inc : (Lit.int .i64 r.inc).wf = true
  st : (Lit.int .i64 r.st).wf = true
  lo : (Lit.int .i64 r.lo).wf = true
  hi : (Lit.int .i64 r.hi).wf = true
  len : r.bag.length ≤ r.cap
  cap : r.cap ≤ maxLen
  nil : r.p = none → r.cap = 0
  fin : FIn w r.p r.bag
  few : r.bag.length ≤ 4398046511104

def shRc : Sh Rc := fun w cs r => cs = r.cells ∧ ROk w r
/-- Records in a slice. -/
abbrev RIn (w : World) (p : Option Addr) (l : List Rc) : Prop := LIn w p 7 shRc l

/-- What a record says: id, incarnation, status, span, whether it is cut, bag. -/
abbrev RK := Int × Int × Int × Int × Int × Bool × List Key
abbrev RK.id (r : RK) : Int := r.1
abbrev RK.inc (r : RK) : Int := r.2.1
abbrev RK.st (r : RK) : Int := r.2.2.1
abbrev RK.lo (r : RK) : Int := r.2.2.2.1
abbrev RK.hi (r : RK) : Int := r.2.2.2.2.1
abbrev RK.cut (r : RK) : Bool := r.2.2.2.2.2.1
abbrev RK.bag (r : RK) : List Key := r.2.2.2.2.2.2
def rk (r : Rc) : RK := ⟨r.id, r.inc, r.st, r.lo, r.hi, r.cut, kys r.bag⟩
def rks (l : List Rc) : List RK := l.map rk
theorem rks_len (l : List Rc) : (rks l).length = l.length := by simp [rks]
theorem rks_append (a b : List Rc) : rks (a ++ b) = rks a ++ rks b := by simp [rks]

theorem rk_eq (a b : Rc) : rk a = rk b ↔ (a.id = b.id ∧ a.inc = b.inc ∧ a.st = b.st ∧ a.lo = b.lo ∧ a.hi = b.hi ∧ a.cut = b.cut ∧ kys a.bag = kys b.bag) := by simp [rk]

def coreOk (r : RK) : Bool := decide (0 ≤ r.id ∧ r.id ≤ 4095) && decide (0 ≤ r.inc ∧ r.inc ≤ 281474976710655) && decide (0 ≤ r.st ∧ r.st ≤ 3) && okS r.lo r.hi
def mayR (r : RK) : Bool := coreOk r && mayK r.bag && !(r.cut && decide (0 < r.bag.length))
/-- Sorted, all ids above a. -/
def sortR : Int → List RK → Bool
  | _, [] => true
  | a, r :: t => mayR r && decide (a < r.id) && sortR r.id t

theorem trod_struct6 {H : Type} {enc : TypeId × Value → H} {P : Program} {w : World} {base : Nat} {spare : Nat → Bool} {held : Bool} {t : TypeId} {f0 f1 f2 f3 f4 f5 : Field} {fuel : Nat} {cs : List Value} {x : DataW H × List MemPlace} (ht : P.underlying t = some (.struct #[f0, f1, f2, f3, f4, f5])) (h : DataW.trod enc P w base spare held fuel t cs = some x) :
    ∃ y0 y1 y2 y3 y4 y5 n, x.1 = .agg [y0.1, y1.1, y2.1, y3.1, y4.1, y5.1] ∧ cs.length = P.cellsOf t ∧ DataW.trod enc P w base spare held n f0.type ((cs.drop f0.offset).take (P.cellsOf f0.type)) = some y0 ∧
      DataW.trod enc P w base spare held n f1.type ((cs.drop f1.offset).take (P.cellsOf f1.type)) = some y1 ∧ DataW.trod enc P w base spare held n f2.type ((cs.drop f2.offset).take (P.cellsOf f2.type)) = some y2 ∧
      DataW.trod enc P w base spare held n f3.type ((cs.drop f3.offset).take (P.cellsOf f3.type)) = some y3 ∧ DataW.trod enc P w base spare held n f4.type ((cs.drop f4.offset).take (P.cellsOf f4.type)) = some y4 ∧
      DataW.trod enc P w base spare held n f5.type ((cs.drop f5.offset).take (P.cellsOf f5.type)) = some y5 := by
  obtain ⟨xs, n, _, rfl, hl, hlen, hf⟩ := DataW.trod_struct ht h
  match xs, hlen with
  | [y0, y1, y2, y3, y4, y5], _ => exact ⟨y0, y1, y2, y3, y4, y5, n, by simp, hl, by simpa using hf 0 f0 rfl, by simpa using hf 1 f1 rfl, by simpa using hf 2 f2 rfl, by simpa using hf 3 f3 rfl, by simpa using hf 4 f4 rfl, by simpa using hf 5 f5 rfl⟩

theorem opensZ_rc {H : Type} {enc : TypeId × Value → H} {w : World} {base : Nat} {spare : Nat → Bool} {held : Bool} : OpensZ enc Try.prog w base spare held 34 shRc := fun fuel cs x h hz => by
  obtain ⟨y0, y1, y2, y3, y4, y5, n, hx, hl, h0, h1, h2, h3, h4, h5⟩ := trod_struct6 Try.underlying34 h
  haveI : Inhabited Fd := ⟨zf⟩
  have kr : Try.prog.cellsOf 34 = 7 := by kernel_rfl
  have ki : Try.prog.cellsOf 3 = 1 := by kernel_rfl
  have ks : Try.prog.cellsOf 31 = 2 := by kernel_rfl
  have kb : Try.prog.cellsOf 4 = 1 := by kernel_rfl
  have kf : Try.prog.cellsOf 32 = 1 := by kernel_rfl
  rw [kr] at hl
  simp only [ki] at h0 h1 h2
  simp only [ks] at h3
  simp only [kb] at h4
  simp only [kf] at h5
  rw [hx] at hz
  simp only [DataW.weights, Try.underlying34, List.map_cons, List.map_nil, DataW.weightsEach, List.mem_append] at hz
  match cs, hl with
  | [v0, v1, v2, v3, v4, v5, v6], _ =>
    simp only [List.drop_zero, List.drop_succ_cons, List.take_succ_cons, List.take_zero] at h0 h1 h2 h3 h4 h5
    obtain ⟨i0, e0, w0⟩ := opens_int Try.underlying3 _ _ _ h0
    obtain ⟨i1, e1, w1⟩ := opens_int Try.underlying3 _ _ _ h1
    obtain ⟨i2, e2, w2⟩ := opens_int Try.underlying3 _ _ _ h2
    obtain ⟨⟨i3, i4⟩, a, b, e3, ⟨ea, w3⟩, ⟨eb, w4⟩⟩ := opens_struct2 Try.underlying31 rfl (by kernel_rfl) (by kernel_rfl) (opens_int Try.underlying3) (opens_int Try.underlying3) _ _ _ h3
    obtain ⟨c, e5⟩ := opens_bool Try.underlying4 _ _ _ h4
    obtain ⟨l, p, cap, e6, g1, g2, g3, g4, g5⟩ := opensZ_slice (size := 2) (bytes := 32) Try.underlying32 (by kernel_rfl) (by kernel_rfl) (by decide) opensZ_fd _ _ _ h5 (fun n hn => hz n (by simp [DataW.weightsEach, hn]))
    subst ea eb
    simp [shBool] at e0 e1 e2 e3 e5 e6
    obtain ⟨e3, e4⟩ := e3
    subst e0 e1 e2 e3 e4 e5 e6
    exact ⟨⟨i0, i1, i2, i3, i4, c, p, cap, l⟩, rfl, ⟨w0, w1, w2, w3, w4, g1, g2, g3, g5, by have := reachBytes_lt; simp only at g4 ⊢; omega⟩⟩

theorem ROk.below {w w' : World} {r : Rc} (h : ROk w r) (k : Below w.heap.size w w') : ROk w' r := ⟨h.id, h.inc, h.st, h.lo, h.hi, h.len, h.cap, h.nil, h.fin.below k, h.few⟩
theorem zr_ok (w : World) : ROk w zr := ⟨by decide, by decide, by decide, by decide, by decide, Nat.le_refl _, by simp [zr, maxLen], fun _ => rfl, FIn.empty _ _, by simp [zr]⟩

/-- The seven cells of a record. -/
def RAt (w : World) (b o : Nat) (r : Rc) : Prop :=
  w.cell? ⟨b, o, none⟩ = some (.int .i64 r.id) ∧ w.cell? ⟨b, o + 1, none⟩ = some (.int .i64 r.inc) ∧ w.cell? ⟨b, o + 2, none⟩ = some (.int .i64 r.st) ∧ w.cell? ⟨b, o + 3, none⟩ = some (.int .i64 r.lo) ∧
  w.cell? ⟨b, o + 4, none⟩ = some (.int .i64 r.hi) ∧ w.cell? ⟨b, o + 5, none⟩ = some (.bool r.cut) ∧ w.cell? ⟨b, o + 6, none⟩ = some (.slice r.p r.bag.length r.cap)

theorem RAt.cell {w : World} {b o : Nat} {r : Rc} (h : RAt w b o r) (j : Nat) (hj : j < 7) : w.cell? ⟨b, o + j, none⟩ = r.cells[j]? := by
  obtain ⟨h0, h1, h2, h3, h4, h5, h6⟩ := h
  match j, hj with
  | 0, _ => simpa [Rc.cells] using h0
  | 1, _ => simpa [Rc.cells] using h1
  | 2, _ => simpa [Rc.cells] using h2
  | 3, _ => simpa [Rc.cells] using h3
  | 4, _ => simpa [Rc.cells] using h4
  | 5, _ => simpa [Rc.cells] using h5
  | 6, _ => simpa [Rc.cells] using h6

theorem RAt.of {w : World} {b o : Nat} {r : Rc} (h : ∀ j, j < 7 → w.cell? ⟨b, o + j, none⟩ = r.cells[j]?) : RAt w b o r :=
  ⟨by simpa [Rc.cells] using h 0 (by omega), by simpa [Rc.cells] using h 1 (by omega), by simpa [Rc.cells] using h 2 (by omega), by simpa [Rc.cells] using h 3 (by omega), by simpa [Rc.cells] using h 4 (by omega), by simpa [Rc.cells] using h 5 (by omega), by simpa [Rc.cells] using h 6 (by omega)⟩

theorem RAt.lt {w : World} {b o : Nat} {r : Rc} (h : RAt w b o r) : b < w.heap.size := lt_of_cell h.1

theorem RAt.fr {S : Nat → Prop} {w w' : World} {b o : Nat} {r : Rc} (h : RAt w b o r) (k : Fr S w w') (hn : ¬ S b) : RAt w' b o r :=
  RAt.of fun j hj => by rw [k.cell (p := ⟨b, o + j, none⟩) h.lt hn]; exact h.cell j hj

theorem RAt.below {w w' : World} {b o : Nat} {r : Rc} (h : RAt w b o r) (k : Below w.heap.size w w') : RAt w' b o r := h.fr (Fr.of_below k fun _ => False) fun q => q

theorem RIn.at {w : World} {p : Option Addr} {l : List Rc} (h : RIn w p l) (hl : 0 < l.length) : ∃ b o, p = some ⟨b, o, none⟩ ∧ ∀ i, i < l.length → RAt w b (o + i * 7) (l.getD i zr) ∧ ROk w (l.getD i zr) := by
  obtain ⟨b, o, rfl, hc⟩ := h hl
  refine ⟨b, o, rfl, fun i hi => ?_⟩
  obtain ⟨cs, _, h1, rfl, h3⟩ := hc i hi
  rw [show l.getD i zr = l[i] by simp [List.getD, hi]]
  exact ⟨RAt.of h1, h3⟩

theorem RIn.of {w : World} {b o : Nat} {l : List Rc} (h : ∀ i, i < l.length → RAt w b (o + i * 7) (l.getD i zr) ∧ ROk w (l.getD i zr)) : RIn w (some ⟨b, o, none⟩) l := fun _ => by
  refine ⟨b, o, rfl, fun i hi => ?_⟩
  obtain ⟨h1, h3⟩ := h i hi
  rw [show l.getD i zr = l[i] by simp [List.getD, hi]] at h1 h3
  exact ⟨l[i].cells, rfl, h1.cell, rfl, h3⟩

theorem RIn.below {w w' : World} {p : Option Addr} {l : List Rc} (h : RIn w p l) (k : Below w.heap.size w w') : RIn w' p l := fun hl => by
  obtain ⟨b, o, rfl, hc⟩ := h.at hl
  exact RIn.of (fun i hi => ⟨(hc i hi).1.below k, (hc i hi).2.below k⟩) hl

theorem RIn.empty (w : World) (p : Option Addr) : RIn w p [] := LIn.empty _ _ _ _

theorem RIn.oks {w : World} {p : Option Addr} {l : List Rc} (h : RIn w p l) : ∀ x ∈ l, ROk w x := fun x hx => by
  obtain ⟨i, hi, rfl⟩ := List.getElem_of_mem hx
  obtain ⟨_, _, _, hc⟩ := h.at (by omega)
  have := (hc i hi).2
  simpa [List.getD, hi] using this

theorem rtake_next (l : List Rc) (k : Nat) (h : k < l.length) : l.take (k + 1) = l.take k ++ [l.getD k zr] := by
  rw [List.take_succ_eq_append_getElem h]; simp [List.getD, h]
theorem rdrop_next (l : List Rc) (k : Nat) (h : k < l.length) : l.drop k = l.getD k zr :: l.drop (k + 1) := by
  rw [List.drop_eq_getElem_cons h]; simp [List.getD, h]

theorem RIn.take {w : World} {p : Option Addr} {l : List Rc} (h : RIn w p l) (n : Nat) : RIn w p (l.take n) := fun hl => by
  simp at hl
  obtain ⟨b, o, rfl, hc⟩ := h.at (by omega)
  refine RIn.of (fun i hi => ?_) (by simpa using hl)
  simp at hi
  have := hc i (by omega)
  rwa [show (l.take n).getD i zr = l.getD i zr by simp [List.getD, List.getElem?_take, show i < n by omega]]

theorem RIn.drop {w : World} {p : Option Addr} {l : List Rc} (h : RIn w p l) (n : Nat) : RIn w (p.map fun x => x.add (n * 7)) (l.drop n) := fun hl => by
  simp at hl
  obtain ⟨b, o, rfl, hc⟩ := h.at (by omega)
  rw [Option.map_some, Go.WideShapes.add_plain]
  refine RIn.of (fun i hi => ?_) (by simpa using hl)
  simp at hi
  have := hc (n + i) (by omega)
  rw [show o + (n + i) * 7 = o + n * 7 + i * 7 by omega] at this
  rwa [show (l.drop n).getD i zr = l.getD (n + i) zr by simp [List.getD]]

/-- A block that is one record. -/
theorem seven_cells {w : World} {b : Nat} {r : Rc} {t : TypeId} (h : w.heap[b]? = some (.cells #[.int .i64 r.id, .int .i64 r.inc, .int .i64 r.st, .int .i64 r.lo, .int .i64 r.hi, .bool r.cut, .slice r.p r.bag.length r.cap] t (0, 0))) : RAt w b 0 r ∧ ∀ j, w.frozen? ⟨b, j, none⟩ = false := by
  refine ⟨RAt.of fun j hj => ?_, fun j => ?_⟩
  · rw [Nat.zero_add]; simp [World.cell?, h, Rc.cells]
  · simp [World.frozen?, h]

theorem RIn.one {w : World} {g : Nat} {r : Rc} {t : TypeId} (h : w.heap[g]? = some (.cells #[.int .i64 r.id, .int .i64 r.inc, .int .i64 r.st, .int .i64 r.lo, .int .i64 r.hi, .bool r.cut, .slice r.p r.bag.length r.cap] t (0, 0))) (hr : ROk w r) : RIn w (some ⟨g, 0, none⟩) [r] := by
  refine RIn.of fun i hi => ?_
  obtain rfl : i = 0 := by simp at hi; omega
  exact ⟨(seven_cells h).1, hr⟩
end Go.Proofs.Ytnladolpcocchaa
