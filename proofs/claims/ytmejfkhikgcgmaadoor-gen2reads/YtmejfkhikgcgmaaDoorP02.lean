/-
  Package span, and the statements' own 'may': spans as two whole numbers.
  Records as plain Lean values: where a record's bag lies, what it says; records in a slice.
  Messages as plain Lean values: where a message's records lie, what it says; which messages may be.
  The reader of package octet: what each of its functions does to the world, said of a reader that lies in one block.
  The writer of package octet: what each of its functions does to the world, said of a writer that lies in one block and owns one row.
  A reader as what is left of it, good or spoilt: one contract a function; a writer beside a block that it does not own.
  A message as what it says; digits of numbers. No function of the program is named here.
  Items as plain Lean: what they come to, which items bytes are. No function of the program is named here.
-/
import Derived.Test.YtmejfkhikgcgmaaDoorP01
import Derived.Test.YtmejfkhikgcgmaaDoorRows
import Derived.WalkKit
import Derived.WalkSpells
import Derived.WalkLawsBesides
import Derived.Deep.OwnRows
namespace Go.Proofs.YtmejfkhikgcgmaaDoor
open Go.RowKit
set_option linter.unusedSimpArgs false
set_option linter.unusedVariables false
set_option maxRecDepth 10000

/-- May a span be? -/
def okS (lo hi : Int) : Bool := decide (1 ≤ lo ∧ lo ≤ hi ∧ hi ≤ 3)

theorem okS_yes {lo hi : Int} (h : okS lo hi = true) : 1 ≤ lo ∧ lo ≤ hi ∧ hi ≤ 3 := by simpa [okS] using h
theorem okS_mk {lo hi : Int} (h : 1 ≤ lo ∧ lo ≤ hi ∧ hi ≤ 3) : okS lo hi = true := by simpa [okS] using h
theorem okS_no {lo hi : Int} (h : okS lo hi = false) : ¬ (1 ≤ lo ∧ lo ≤ hi ∧ hi ≤ 3) := by simpa [okS] using h
theorem okS_mk_no {lo hi : Int} (h : ¬ (1 ≤ lo ∧ lo ≤ hi ∧ hi ≤ 3)) : okS lo hi = false := by simpa [okS] using h

/-- The world behind the box of a span. -/
abbrev boxS (w : World) (lo hi : Int) : World := w.alloc (.cells #[.int .i64 lo, .int .i64 hi] 23)

set_option maxHeartbeats 800000 in
theorem okS_any (lo hi : Int) (w : World) :
    Calls Tryd.prog 40 #[.agg #[.int .i64 lo, .int .i64 hi]] w fun e w' => e = .returned (.bool (okS lo hi)) ∧ w' = w.alloc (.cells #[.int .i64 lo, .int .i64 hi] 23) := by
  by_cases h1 : 1 ≤ lo <;> by_cases h2 : lo ≤ hi <;> by_cases h3 : hi ≤ 3 <;> first | (exfalso; omega) | skip
  all_goals
    have e : okS lo hi = true ∨ okS lo hi = false := by cases okS lo hi <;> simp
    rcases e with e | e <;> first | (exfalso; (first | (have := okS_yes e; omega) | (exact okS_no e ⟨h1, h2, h3⟩))) | skip
    rw [e]
    clear e
    go_enter Tryd.func40, Tryd.ntmps40
    go_wp2
    go_ret
    exact ⟨rfl, rfl⟩



set_option maxHeartbeats 800000 in
theorem code_yes (lo hi : Int) (w : World) (h : okS lo hi = true) :
    Calls Tryd.prog 54 #[.agg #[.int .i64 lo, .int .i64 hi]] w fun e w' => e = .returned (.int .i64 (16 * lo + hi)) ∧ Below w.heap.size w w' := by
  have V := fun w => okS_any lo hi w
  rw [h] at V
  obtain ⟨h1, h2, h3⟩ := okS_yes h
  clear h
  go_enter Tryd.func54, Tryd.ntmps54
  go_wp2_with (go_at_call 40; refine (V _).mono ?_; rintro e w' ⟨rfl, rfl⟩)
  go_ret
  exact ⟨rfl, ((Below.refl _ _).alloc (Nat.le_refl _) _).alloc (by simp) _⟩

set_option maxHeartbeats 800000 in
theorem code_no (lo hi : Int) (w : World) (h : okS lo hi = false) :
    Calls Tryd.prog 54 #[.agg #[.int .i64 lo, .int .i64 hi]] w fun e w' => e = .returned (.int .i64 0) ∧ Below w.heap.size w w' := by
  have V := fun w => okS_any lo hi w
  rw [h] at V
  clear h
  go_enter Tryd.func54, Tryd.ntmps54
  go_wp2_with (go_at_call 40; refine (V _).mono ?_; rintro e w' ⟨rfl, rfl⟩)
  go_ret
  exact ⟨rfl, ((Below.refl _ _).alloc (Nat.le_refl _) _).alloc (by simp) _⟩

/-- The two parts of a code. -/
def ofLo (c : Int) : Int := c.tdiv 16
def ofHi (c : Int) : Int := c.tmod 16

theorem of_code {lo hi c : Int} (h : 1 ≤ lo ∧ lo ≤ hi ∧ hi ≤ 3) (e : lo * 16 + hi = c) : ofLo c = lo ∧ ofHi c = hi := by
  subst e
  unfold ofLo ofHi
  rw [Int.tdiv_eq_ediv_of_nonneg (by omega), Int.tmod_eq_emod_of_nonneg (by omega)]
  omega

theorem code_of (c : Int) : ofLo c * 16 + ofHi c = c := by
  unfold ofLo ofHi
  rw [Int.tmod_def]
  generalize c.tdiv 16 = q
  omega

set_option maxHeartbeats 800000 in
theorem of_yes (c : Int) (w : World) (hc : (Lit.int .i64 c).wf = true) (h : okS (ofLo c) (ofHi c) = true) :
    Calls Tryd.prog 70 #[.int .i64 c] w fun e w' => e = .returned (.tuple #[.agg #[.int .i64 (ofLo c), .int .i64 (ofHi c)], .bool true]) ∧ Below w.heap.size w w' := by
  have hb := bounds_i64 hc
  clear hc
  have V := fun w => okS_any (ofLo c) (ofHi c) w
  rw [h] at V
  unfold ofLo ofHi at V ⊢
  clear h
  go_enter Tryd.func70, Tryd.ntmps70
  go_wp2_with (go_at_call 40; refine (V _).mono ?_; rintro e w' ⟨rfl, rfl⟩)
  exact bodyPost_ret (v := .tuple #[.agg #[.int .i64 (c.tdiv 16), .int .i64 (c.tmod 16)], .bool true]) (by simp [results, Tryd.results70, go_sem]) rfl ⟨rfl, (((Below.refl _ _).alloc (Nat.le_refl _) _).alloc (by simp) _).alloc (by simp; omega) _⟩

set_option maxHeartbeats 800000 in
theorem of_no (c : Int) (w : World) (hc : (Lit.int .i64 c).wf = true) (h : okS (ofLo c) (ofHi c) = false) :
    Calls Tryd.prog 70 #[.int .i64 c] w fun e w' => e = .returned (.tuple #[.agg #[.int .i64 0, .int .i64 0], .bool false]) ∧ Below w.heap.size w w' := by
  have hb := bounds_i64 hc
  clear hc
  have V := fun w => okS_any (ofLo c) (ofHi c) w
  rw [h] at V
  unfold ofLo ofHi at V
  clear h
  go_enter Tryd.func70, Tryd.ntmps70
  go_wp2_with (go_at_call 40; refine (V _).mono ?_; rintro e w' ⟨rfl, rfl⟩)
  exact bodyPost_ret (v := .tuple #[.agg #[.int .i64 0, .int .i64 0], .bool false]) (by simp [results, Tryd.results70, go_sem]) rfl ⟨rfl, (((Below.refl _ _).alloc (Nat.le_refl _) _).alloc (by simp) _).alloc (by simp; omega) _⟩

/-- What of a span is in another one too. -/
def nar (m s : Int × Int) : Int × Int := if okS s.1 s.2 = true ∧ okS (max m.1 s.1) (min m.2 s.2) = true then (max m.1 s.1, min m.2 s.2) else (0, 0)


end Go.Proofs.YtmejfkhikgcgmaaDoor
namespace Go.Proofs.YtmejfkhikgcgmaaDoor
open Go.RowKit Go.ChangeShapes Go.WideShapes
set_option linter.unusedSimpArgs false
set_option linter.unusedVariables false
set_option maxRecDepth 10000
set_option synthInstance.maxSize 2000

/-- A record, and where its bag lies. -/
structure Rc where
  id : Int
  inc : Int
  st : Int
  lo : Int
  hi : Int
  cut : Bool
  p : Option Addr
  cap : Nat
  bag : List Fd
def zr : Rc := ⟨0, 0, 0, 0, 0, false, none, 0, []⟩
def Rc.cells (r : Rc) : List Value := [.int .i64 r.id, .int .i64 r.inc, .int .i64 r.st, .int .i64 r.lo, .int .i64 r.hi, .bool r.cut, .slice r.p r.bag.length r.cap]

structure ROk (w : World) (r : Rc) : Prop where
  id : (Lit.int .i64 r.id).wf = true
  inc : (Lit.int .i64 r.inc).wf = true
  st : (Lit.int .i64 r.st).wf = true
  lo : (Lit.int .i64 r.lo).wf = true
  hi : (Lit.int .i64 r.hi).wf = true
  len : r.bag.length ≤ r.cap
  cap : r.cap ≤ maxLen
  nil : r.p = none → r.cap = 0
  fin : FIn w r.p r.bag
  few : r.bag.length ≤ 4398046511104

def shRc : Sh Rc := fun w cs r => cs = r.cells ∧ ROk w r
/-- Records in a slice. -/
abbrev RIn (w : World) (p : Option Addr) (l : List Rc) : Prop := LIn w p 7 shRc l

/-- What a record says: id, incarnation, status, span, whether it is cut, bag. -/
abbrev RK := Int × Int × Int × Int × Int × Bool × List Key
abbrev RK.id (r : RK) : Int := r.1
abbrev RK.inc (r : RK) : Int := r.2.1
abbrev RK.st (r : RK) : Int := r.2.2.1
abbrev RK.lo (r : RK) : Int := r.2.2.2.1
abbrev RK.hi (r : RK) : Int := r.2.2.2.2.1
abbrev RK.cut (r : RK) : Bool := r.2.2.2.2.2.1
abbrev RK.bag (r : RK) : List Key := r.2.2.2.2.2.2
def rk (r : Rc) : RK := ⟨r.id, r.inc, r.st, r.lo, r.hi, r.cut, kys r.bag⟩
def rks (l : List Rc) : List RK := l.map rk
theorem rks_len (l : List Rc) : (rks l).length = l.length := by simp [rks]
theorem rks_append (a b : List Rc) : rks (a ++ b) = rks a ++ rks b := by simp [rks]

theorem rk_eq (a b : Rc) : rk a = rk b ↔ (a.id = b.id ∧ a.inc = b.inc ∧ a.st = b.st ∧ a.lo = b.lo ∧ a.hi = b.hi ∧ a.cut = b.cut ∧ kys a.bag = kys b.bag) := by simp [rk]

def coreOk (r : RK) : Bool := decide (0 ≤ r.id ∧ r.id ≤ 4095) && decide (0 ≤ r.inc ∧ r.inc ≤ 281474976710655) && decide (0 ≤ r.st ∧ r.st ≤ 3) && okS r.lo r.hi
def mayR (r : RK) : Bool := coreOk r && mayK r.bag && !(r.cut && decide (0 < r.bag.length))
/-- Sorted, all ids above a. -/
def sortR : Int → List RK → Bool
  | _, [] => true
  | a, r :: t => mayR r && decide (a < r.id) && sortR r.id t

theorem trod_struct6 {H : Type} {enc : TypeId × Value → H} {P : Program} {w : World} {base : Nat} {spare : Nat → Bool} {held : Bool} {t : TypeId} {f0 f1 f2 f3 f4 f5 : Field} {fuel : Nat} {cs : List Value} {x : DataW H × List MemPlace} (ht : P.underlying t = some (.struct #[f0, f1, f2, f3, f4, f5])) (h : DataW.trod enc P w base spare held fuel t cs = some x) :
    ∃ y0 y1 y2 y3 y4 y5 n, x.1 = .agg [y0.1, y1.1, y2.1, y3.1, y4.1, y5.1] ∧ cs.length = P.cellsOf t ∧ DataW.trod enc P w base spare held n f0.type ((cs.drop f0.offset).take (P.cellsOf f0.type)) = some y0 ∧
      DataW.trod enc P w base spare held n f1.type ((cs.drop f1.offset).take (P.cellsOf f1.type)) = some y1 ∧ DataW.trod enc P w base spare held n f2.type ((cs.drop f2.offset).take (P.cellsOf f2.type)) = some y2 ∧
      DataW.trod enc P w base spare held n f3.type ((cs.drop f3.offset).take (P.cellsOf f3.type)) = some y3 ∧ DataW.trod enc P w base spare held n f4.type ((cs.drop f4.offset).take (P.cellsOf f4.type)) = some y4 ∧
      DataW.trod enc P w base spare held n f5.type ((cs.drop f5.offset).take (P.cellsOf f5.type)) = some y5 := by
  obtain ⟨xs, n, _, rfl, hl, hlen, hf⟩ := DataW.trod_struct ht h
  match xs, hlen with
  | [y0, y1, y2, y3, y4, y5], _ => exact ⟨y0, y1, y2, y3, y4, y5, n, by simp, hl, by simpa using hf 0 f0 rfl, by simpa using hf 1 f1 rfl, by simpa using hf 2 f2 rfl, by simpa using hf 3 f3 rfl, by simpa using hf 4 f4 rfl, by simpa using hf 5 f5 rfl⟩

theorem opensZ_rc {H : Type} {enc : TypeId × Value → H} {w : World} {base : Nat} {spare : Nat → Bool} {held : Bool} : OpensZ enc Tryd.prog w base spare held 44 shRc := fun fuel cs x h hz => by
  obtain ⟨y0, y1, y2, y3, y4, y5, n, hx, hl, h0, h1, h2, h3, h4, h5⟩ := trod_struct6 Tryd.underlying44 h
  haveI : Inhabited Fd := ⟨zf⟩
  have kr : Tryd.prog.cellsOf 44 = 7 := by kernel_rfl
  have ki : Tryd.prog.cellsOf 3 = 1 := by kernel_rfl
  have ks : Tryd.prog.cellsOf 23 = 2 := by kernel_rfl
  have kb : Tryd.prog.cellsOf 4 = 1 := by kernel_rfl
  have kf : Tryd.prog.cellsOf 42 = 1 := by kernel_rfl
  rw [kr] at hl
  simp only [ki] at h0 h1 h2
  simp only [ks] at h3
  simp only [kb] at h4
  simp only [kf] at h5
  rw [hx] at hz
  simp only [DataW.weights, Tryd.underlying44, List.map_cons, List.map_nil, DataW.weightsEach, List.mem_append] at hz
  match cs, hl with
  | [v0, v1, v2, v3, v4, v5, v6], _ =>
    simp only [List.drop_zero, List.drop_succ_cons, List.take_succ_cons, List.take_zero] at h0 h1 h2 h3 h4 h5
    obtain ⟨i0, e0, w0⟩ := opens_int Tryd.underlying3 _ _ _ h0
    obtain ⟨i1, e1, w1⟩ := opens_int Tryd.underlying3 _ _ _ h1
    obtain ⟨i2, e2, w2⟩ := opens_int Tryd.underlying3 _ _ _ h2
    obtain ⟨⟨i3, i4⟩, a, b, e3, ⟨ea, w3⟩, ⟨eb, w4⟩⟩ := opens_struct2 Tryd.underlying23 rfl (by kernel_rfl) (by kernel_rfl) (opens_int Tryd.underlying3) (opens_int Tryd.underlying3) _ _ _ h3
    obtain ⟨c, e5⟩ := opens_bool Tryd.underlying4 _ _ _ h4
    obtain ⟨l, p, cap, e6, g1, g2, g3, g4, g5⟩ := opensZ_slice (size := 2) (bytes := 32) Tryd.underlying42 (by kernel_rfl) (by kernel_rfl) (by decide) opensZ_fd _ _ _ h5 (fun n hn => hz n (by simp [DataW.weightsEach, hn]))
    subst ea eb
    simp [shBool] at e0 e1 e2 e3 e5 e6
    obtain ⟨e3, e4⟩ := e3
    subst e0 e1 e2 e3 e4 e5 e6
    exact ⟨⟨i0, i1, i2, i3, i4, c, p, cap, l⟩, rfl, ⟨w0, w1, w2, w3, w4, g1, g2, g3, g5, by have := reachBytes_lt; simp only at g4 ⊢; omega⟩⟩

theorem ROk.below {w w' : World} {r : Rc} (h : ROk w r) (k : Below w.heap.size w w') : ROk w' r := ⟨h.id, h.inc, h.st, h.lo, h.hi, h.len, h.cap, h.nil, h.fin.below k, h.few⟩
theorem zr_ok (w : World) : ROk w zr := ⟨by decide, by decide, by decide, by decide, by decide, Nat.le_refl _, by simp [zr, maxLen], fun _ => rfl, FIn.empty _ _, by simp [zr]⟩

/-- The seven cells of a record. -/
def RAt (w : World) (b o : Nat) (r : Rc) : Prop :=
  w.cell? ⟨b, o, none⟩ = some (.int .i64 r.id) ∧ w.cell? ⟨b, o + 1, none⟩ = some (.int .i64 r.inc) ∧ w.cell? ⟨b, o + 2, none⟩ = some (.int .i64 r.st) ∧ w.cell? ⟨b, o + 3, none⟩ = some (.int .i64 r.lo) ∧
  w.cell? ⟨b, o + 4, none⟩ = some (.int .i64 r.hi) ∧ w.cell? ⟨b, o + 5, none⟩ = some (.bool r.cut) ∧ w.cell? ⟨b, o + 6, none⟩ = some (.slice r.p r.bag.length r.cap)

theorem RAt.cell {w : World} {b o : Nat} {r : Rc} (h : RAt w b o r) (j : Nat) (hj : j < 7) : w.cell? ⟨b, o + j, none⟩ = r.cells[j]? := by
  obtain ⟨h0, h1, h2, h3, h4, h5, h6⟩ := h
  match j, hj with
  | 0, _ => simpa [Rc.cells] using h0
  | 1, _ => simpa [Rc.cells] using h1
  | 2, _ => simpa [Rc.cells] using h2
  | 3, _ => simpa [Rc.cells] using h3
  | 4, _ => simpa [Rc.cells] using h4
  | 5, _ => simpa [Rc.cells] using h5
  | 6, _ => simpa [Rc.cells] using h6

theorem RAt.of {w : World} {b o : Nat} {r : Rc} (h : ∀ j, j < 7 → w.cell? ⟨b, o + j, none⟩ = r.cells[j]?) : RAt w b o r :=
  ⟨by simpa [Rc.cells] using h 0 (by omega), by simpa [Rc.cells] using h 1 (by omega), by simpa [Rc.cells] using h 2 (by omega), by simpa [Rc.cells] using h 3 (by omega), by simpa [Rc.cells] using h 4 (by omega), by simpa [Rc.cells] using h 5 (by omega), by simpa [Rc.cells] using h 6 (by omega)⟩

theorem RAt.lt {w : World} {b o : Nat} {r : Rc} (h : RAt w b o r) : b < w.heap.size := lt_of_cell h.1

theorem RAt.fr {S : Nat → Prop} {w w' : World} {b o : Nat} {r : Rc} (h : RAt w b o r) (k : Fr S w w') (hn : ¬ S b) : RAt w' b o r :=
  RAt.of fun j hj => by rw [k.cell (p := ⟨b, o + j, none⟩) h.lt hn]; exact h.cell j hj

theorem RAt.below {w w' : World} {b o : Nat} {r : Rc} (h : RAt w b o r) (k : Below w.heap.size w w') : RAt w' b o r := h.fr (Fr.of_below k fun _ => False) fun q => q

theorem RIn.at {w : World} {p : Option Addr} {l : List Rc} (h : RIn w p l) (hl : 0 < l.length) : ∃ b o, p = some ⟨b, o, none⟩ ∧ ∀ i, i < l.length → RAt w b (o + i * 7) (l.getD i zr) ∧ ROk w (l.getD i zr) := by
  obtain ⟨b, o, rfl, hc⟩ := h hl
  refine ⟨b, o, rfl, fun i hi => ?_⟩
  obtain ⟨cs, _, h1, rfl, h3⟩ := hc i hi
  rw [show l.getD i zr = l[i] by simp [List.getD, hi]]
  exact ⟨RAt.of h1, h3⟩

theorem RIn.of {w : World} {b o : Nat} {l : List Rc} (h : ∀ i, i < l.length → RAt w b (o + i * 7) (l.getD i zr) ∧ ROk w (l.getD i zr)) : RIn w (some ⟨b, o, none⟩) l := fun _ => by
  refine ⟨b, o, rfl, fun i hi => ?_⟩
  obtain ⟨h1, h3⟩ := h i hi
  rw [show l.getD i zr = l[i] by simp [List.getD, hi]] at h1 h3
  exact ⟨l[i].cells, rfl, h1.cell, rfl, h3⟩

theorem RIn.below {w w' : World} {p : Option Addr} {l : List Rc} (h : RIn w p l) (k : Below w.heap.size w w') : RIn w' p l := fun hl => by
  obtain ⟨b, o, rfl, hc⟩ := h.at hl
  exact RIn.of (fun i hi => ⟨(hc i hi).1.below k, (hc i hi).2.below k⟩) hl

theorem RIn.empty (w : World) (p : Option Addr) : RIn w p [] := LIn.empty _ _ _ _

theorem RIn.oks {w : World} {p : Option Addr} {l : List Rc} (h : RIn w p l) : ∀ x ∈ l, ROk w x := fun x hx => by
  obtain ⟨i, hi, rfl⟩ := List.getElem_of_mem hx
  obtain ⟨_, _, _, hc⟩ := h.at (by omega)
  have := (hc i hi).2
  simpa [List.getD, hi] using this

theorem rtake_next (l : List Rc) (k : Nat) (h : k < l.length) : l.take (k + 1) = l.take k ++ [l.getD k zr] := by
  rw [List.take_succ_eq_append_getElem h]; simp [List.getD, h]
theorem rdrop_next (l : List Rc) (k : Nat) (h : k < l.length) : l.drop k = l.getD k zr :: l.drop (k + 1) := by
  rw [List.drop_eq_getElem_cons h]; simp [List.getD, h]

theorem RIn.take {w : World} {p : Option Addr} {l : List Rc} (h : RIn w p l) (n : Nat) : RIn w p (l.take n) := fun hl => by
  simp at hl
  obtain ⟨b, o, rfl, hc⟩ := h.at (by omega)
  refine RIn.of (fun i hi => ?_) (by simpa using hl)
  simp at hi
  have := hc i (by omega)
  rwa [show (l.take n).getD i zr = l.getD i zr by simp [List.getD, List.getElem?_take, show i < n by omega]]

theorem RIn.drop {w : World} {p : Option Addr} {l : List Rc} (h : RIn w p l) (n : Nat) : RIn w (p.map fun x => x.add (n * 7)) (l.drop n) := fun hl => by
  simp at hl
  obtain ⟨b, o, rfl, hc⟩ := h.at (by omega)
  rw [Option.map_some, Go.WideShapes.add_plain]
  refine RIn.of (fun i hi => ?_) (by simpa using hl)
  simp at hi
  have := hc (n + i) (by omega)
  rw [show o + (n + i) * 7 = o + n * 7 + i * 7 by omega] at this
  rwa [show (l.drop n).getD i zr = l.getD (n + i) zr by simp [List.getD]]

/-- A block that is one record. -/
theorem seven_cells {w : World} {b : Nat} {r : Rc} {t : TypeId} (h : w.heap[b]? = some (.cells #[.int .i64 r.id, .int .i64 r.inc, .int .i64 r.st, .int .i64 r.lo, .int .i64 r.hi, .bool r.cut, .slice r.p r.bag.length r.cap] t (0, 0))) : RAt w b 0 r ∧ ∀ j, w.frozen? ⟨b, j, none⟩ = false := by
  refine ⟨RAt.of fun j hj => ?_, fun j => ?_⟩
  · rw [Nat.zero_add]; simp [World.cell?, h, Rc.cells]
  · simp [World.frozen?, h]

theorem RIn.one {w : World} {g : Nat} {r : Rc} {t : TypeId} (h : w.heap[g]? = some (.cells #[.int .i64 r.id, .int .i64 r.inc, .int .i64 r.st, .int .i64 r.lo, .int .i64 r.hi, .bool r.cut, .slice r.p r.bag.length r.cap] t (0, 0))) (hr : ROk w r) : RIn w (some ⟨g, 0, none⟩) [r] := by
  refine RIn.of fun i hi => ?_
  obtain rfl : i = 0 := by simp at hi; omega
  exact ⟨(seven_cells h).1, hr⟩
end Go.Proofs.YtmejfkhikgcgmaaDoor
namespace Go.Proofs.YtmejfkhikgcgmaaDoor
open Go.RowKit Go.ChangeShapes Go.WideShapes
set_option linter.unusedSimpArgs false
set_option linter.unusedVariables false
set_option maxRecDepth 10000
set_option synthInstance.maxSize 2000

/-- A message, and where its records lie. -/
structure Mg where
  kind : Int
  frm : Int
  inc : Int
  lo : Int
  hi : Int
  seq : Int
  tgt : Int
  life : Int
  epoch : Int
  base : Int
  p : Option Addr
  cap : Nat
  recs : List Rc
def Mg.cells (m : Mg) : List Value := [.int .i64 m.kind, .int .i64 m.frm, .int .i64 m.inc, .int .i64 m.lo, .int .i64 m.hi, .int .i64 m.seq, .int .i64 m.tgt, .int .i64 m.life, .int .i64 m.epoch, .int .i64 m.base, .slice m.p m.recs.length m.cap]

structure MOk (w : World) (m : Mg) : Prop where
  kind : (Lit.int .i64 m.kind).wf = true
  frm : (Lit.int .i64 m.frm).wf = true
  inc : (Lit.int .i64 m.inc).wf = true
  lo : (Lit.int .i64 m.lo).wf = true
  hi : (Lit.int .i64 m.hi).wf = true
  seq : (Lit.int .i64 m.seq).wf = true
  tgt : (Lit.int .i64 m.tgt).wf = true
  life : (Lit.int .i64 m.life).wf = true
  epoch : (Lit.int .i64 m.epoch).wf = true
  base : (Lit.int .i64 m.base).wf = true
  len : m.recs.length ≤ m.cap
  cap : m.cap ≤ maxLen
  nil : m.p = none → m.cap = 0
  rin : RIn w m.p m.recs

def shMg : Sh Mg := fun w cs m => cs = m.cells ∧ MOk w m
theorem MOk.below {w w' : World} {m : Mg} (h : MOk w m) (k : Below w.heap.size w w') : MOk w' m := ⟨h.kind, h.frm, h.inc, h.lo, h.hi, h.seq, h.tgt, h.life, h.epoch, h.base, h.len, h.cap, h.nil, h.rin.below k⟩
theorem MOk.lenM {w : World} {m : Mg} (h : MOk w m) : m.recs.length ≤ maxLen := Nat.le_trans h.len h.cap

theorem opensZ_mg {H : Type} {enc : TypeId × Value → H} {w : World} {base : Nat} {spare : Nat → Bool} {held : Bool} : OpensZ enc Tryd.prog w base spare held 26 shMg := fun fuel cs x h hz => by
  obtain ⟨xs, n, _, rfl, hl, hlen, hf⟩ := DataW.trod_struct Tryd.underlying26 h
  haveI : Inhabited Rc := ⟨zr⟩
  have kr : Tryd.prog.cellsOf 26 = 11 := by kernel_rfl
  have ki : Tryd.prog.cellsOf 3 = 1 := by kernel_rfl
  have ks : Tryd.prog.cellsOf 23 = 2 := by kernel_rfl
  have kf : Tryd.prog.cellsOf 24 = 1 := by kernel_rfl
  rw [kr] at hl
  match xs, hlen, cs, hl with
  | [y0, y1, y2, y3, y4, y5, y6, y7, y8, y9], _, [v0, v1, v2, v3, v4, v5, v6, v7, v8, v9, v10], _ =>
    have h0 : DataW.trod enc Tryd.prog w base spare held n 3 ((List.drop 0 [v0, v1, v2, v3, v4, v5, v6, v7, v8, v9, v10]).take (Tryd.prog.cellsOf 3)) = some y0 := hf 0 _ rfl
    have h1 : DataW.trod enc Tryd.prog w base spare held n 3 ((List.drop 1 [v0, v1, v2, v3, v4, v5, v6, v7, v8, v9, v10]).take (Tryd.prog.cellsOf 3)) = some y1 := hf 1 _ rfl
    have h2 : DataW.trod enc Tryd.prog w base spare held n 3 ((List.drop 2 [v0, v1, v2, v3, v4, v5, v6, v7, v8, v9, v10]).take (Tryd.prog.cellsOf 3)) = some y2 := hf 2 _ rfl
    have h3 : DataW.trod enc Tryd.prog w base spare held n 23 ((List.drop 3 [v0, v1, v2, v3, v4, v5, v6, v7, v8, v9, v10]).take (Tryd.prog.cellsOf 23)) = some y3 := hf 3 _ rfl
    have h4 : DataW.trod enc Tryd.prog w base spare held n 3 ((List.drop 5 [v0, v1, v2, v3, v4, v5, v6, v7, v8, v9, v10]).take (Tryd.prog.cellsOf 3)) = some y4 := hf 4 _ rfl
    have h5 : DataW.trod enc Tryd.prog w base spare held n 3 ((List.drop 6 [v0, v1, v2, v3, v4, v5, v6, v7, v8, v9, v10]).take (Tryd.prog.cellsOf 3)) = some y5 := hf 5 _ rfl
    have h6 : DataW.trod enc Tryd.prog w base spare held n 3 ((List.drop 7 [v0, v1, v2, v3, v4, v5, v6, v7, v8, v9, v10]).take (Tryd.prog.cellsOf 3)) = some y6 := hf 6 _ rfl
    have h7 : DataW.trod enc Tryd.prog w base spare held n 3 ((List.drop 8 [v0, v1, v2, v3, v4, v5, v6, v7, v8, v9, v10]).take (Tryd.prog.cellsOf 3)) = some y7 := hf 7 _ rfl
    have h8 : DataW.trod enc Tryd.prog w base spare held n 3 ((List.drop 9 [v0, v1, v2, v3, v4, v5, v6, v7, v8, v9, v10]).take (Tryd.prog.cellsOf 3)) = some y8 := hf 8 _ rfl
    have h9 : DataW.trod enc Tryd.prog w base spare held n 24 ((List.drop 10 [v0, v1, v2, v3, v4, v5, v6, v7, v8, v9, v10]).take (Tryd.prog.cellsOf 24)) = some y9 := hf 9 _ rfl
    clear hf
    rw [ki] at h0 h1 h2 h4 h5 h6 h7 h8
    rw [ks] at h3
    rw [kf] at h9
    simp only [List.drop_zero, List.drop_succ_cons, List.take_succ_cons, List.take_zero] at h0 h1 h2 h3 h4 h5 h6 h7 h8 h9
    simp only [DataW.weights, Tryd.underlying26, List.map_cons, List.map_nil, DataW.weightsEach, List.mem_append] at hz
    obtain ⟨i0, e0, w0⟩ := opens_int Tryd.underlying3 _ _ _ h0
    obtain ⟨i1, e1, w1⟩ := opens_int Tryd.underlying3 _ _ _ h1
    obtain ⟨i2, e2, w2⟩ := opens_int Tryd.underlying3 _ _ _ h2
    obtain ⟨⟨i3, i4⟩, a, b, e3, ⟨ea, w3⟩, ⟨eb, w4⟩⟩ := opens_struct2 Tryd.underlying23 rfl (by kernel_rfl) (by kernel_rfl) (opens_int Tryd.underlying3) (opens_int Tryd.underlying3) _ _ _ h3
    obtain ⟨i5, e5, w5⟩ := opens_int Tryd.underlying3 _ _ _ h4
    obtain ⟨i6, e6, w6⟩ := opens_int Tryd.underlying3 _ _ _ h5
    obtain ⟨i7, e7, w7⟩ := opens_int Tryd.underlying3 _ _ _ h6
    obtain ⟨i8, e8, w8⟩ := opens_int Tryd.underlying3 _ _ _ h7
    obtain ⟨i9, e9, w9⟩ := opens_int Tryd.underlying3 _ _ _ h8
    obtain ⟨l, p, cap, e10, g1, g2, g3, g4, g5⟩ := opensZ_slice (size := 7) (bytes := 72) Tryd.underlying24 (by kernel_rfl) (by kernel_rfl) (by decide) opensZ_rc _ _ _ h9 (fun n hn => hz n (by simp [DataW.weightsEach, hn]))
    subst ea eb
    simp at e0 e1 e2 e3 e5 e6 e7 e8 e9 e10
    obtain ⟨e3, e4⟩ := e3
    subst e0 e1 e2 e3 e4 e5 e6 e7 e8 e9 e10
    exact ⟨⟨i0, i1, i2, i3, i4, i5, i6, i7, i8, i9, p, cap, l⟩, rfl, ⟨w0, w1, w2, w3, w4, w5, w6, w7, w8, w9, g1, g2, g3, g5⟩⟩

/-- A message that was laid for a call. -/
structure InM (w : World) (m : Mg) (X : World) : Prop where
  below : Below w.heap.size w X
  box : X.heap[w.heap.size]? = some (.cells #[.int .i64 m.kind, .int .i64 m.frm, .int .i64 m.inc, .int .i64 m.lo, .int .i64 m.hi, .int .i64 m.seq, .int .i64 m.tgt, .int .i64 m.life, .int .i64 m.epoch, .int .i64 m.base, .slice m.p m.recs.length m.cap] 26 (0, 0))
theorem InM.start (w : World) (m : Mg) : InM w m (w.alloc (.cells #[.int .i64 m.kind, .int .i64 m.frm, .int .i64 m.inc, .int .i64 m.lo, .int .i64 m.hi, .int .i64 m.seq, .int .i64 m.tgt, .int .i64 m.life, .int .i64 m.epoch, .int .i64 m.base, .slice m.p m.recs.length m.cap] 26)) := ⟨(Below.refl _ _).alloc (Nat.le_refl _) _, heap_alloc_new _ _⟩
theorem InM.on {w X X' : World} {m : Mg} (h : InM w m X) (k : Below X.heap.size X X') : InM w m X' :=
  ⟨h.below.trans (k.mono h.below.size), by rw [k.block _ (Array.getElem?_eq_some_iff.1 h.box).1]; exact h.box⟩
/-- The cells of a block that is a message. -/
theorem mbox_cells {X : World} {b : Nat} {m : Mg} {t : TypeId} (h : X.heap[b]? = some (.cells #[.int .i64 m.kind, .int .i64 m.frm, .int .i64 m.inc, .int .i64 m.lo, .int .i64 m.hi, .int .i64 m.seq, .int .i64 m.tgt, .int .i64 m.life, .int .i64 m.epoch, .int .i64 m.base, .slice m.p m.recs.length m.cap] t (0, 0))) : X.cell? ⟨b, 0, none⟩ = some (.int .i64 m.kind) ∧ X.cell? ⟨b, 1, none⟩ = some (.int .i64 m.frm) ∧ X.cell? ⟨b, 2, none⟩ = some (.int .i64 m.inc) ∧ X.cell? ⟨b, 3, none⟩ = some (.int .i64 m.lo) ∧ X.cell? ⟨b, 4, none⟩ = some (.int .i64 m.hi) ∧ X.cell? ⟨b, 5, none⟩ = some (.int .i64 m.seq) ∧ X.cell? ⟨b, 6, none⟩ = some (.int .i64 m.tgt) ∧ X.cell? ⟨b, 7, none⟩ = some (.int .i64 m.life) ∧ X.cell? ⟨b, 8, none⟩ = some (.int .i64 m.epoch) ∧ X.cell? ⟨b, 9, none⟩ = some (.int .i64 m.base) ∧ X.cell? ⟨b, 10, none⟩ = some (.slice m.p m.recs.length m.cap) := by
  simp [World.cell?, h]

/-- Two messages that were laid for a call. -/
structure InM2 (w : World) (a b : Mg) (X : World) : Prop where
  below : Below w.heap.size w X
  ba : X.heap[w.heap.size]? = some (.cells #[.int .i64 a.kind, .int .i64 a.frm, .int .i64 a.inc, .int .i64 a.lo, .int .i64 a.hi, .int .i64 a.seq, .int .i64 a.tgt, .int .i64 a.life, .int .i64 a.epoch, .int .i64 a.base, .slice a.p a.recs.length a.cap] 26 (0, 0))
  bb : X.heap[w.heap.size + 1]? = some (.cells #[.int .i64 b.kind, .int .i64 b.frm, .int .i64 b.inc, .int .i64 b.lo, .int .i64 b.hi, .int .i64 b.seq, .int .i64 b.tgt, .int .i64 b.life, .int .i64 b.epoch, .int .i64 b.base, .slice b.p b.recs.length b.cap] 26 (0, 0))
theorem InM2.start (w : World) (a b : Mg) : InM2 w a b ((w.alloc (.cells #[.int .i64 a.kind, .int .i64 a.frm, .int .i64 a.inc, .int .i64 a.lo, .int .i64 a.hi, .int .i64 a.seq, .int .i64 a.tgt, .int .i64 a.life, .int .i64 a.epoch, .int .i64 a.base, .slice a.p a.recs.length a.cap] 26)).alloc (.cells #[.int .i64 b.kind, .int .i64 b.frm, .int .i64 b.inc, .int .i64 b.lo, .int .i64 b.hi, .int .i64 b.seq, .int .i64 b.tgt, .int .i64 b.life, .int .i64 b.epoch, .int .i64 b.base, .slice b.p b.recs.length b.cap] 26)) := by
  refine ⟨((Below.refl _ _).alloc (Nat.le_refl _) _).alloc (by simp) _, (heap_alloc_old _ _ (by simp)).trans (heap_alloc_new _ _), ?_⟩
  have := heap_alloc_new (w.alloc (.cells #[.int .i64 a.kind, .int .i64 a.frm, .int .i64 a.inc, .int .i64 a.lo, .int .i64 a.hi, .int .i64 a.seq, .int .i64 a.tgt, .int .i64 a.life, .int .i64 a.epoch, .int .i64 a.base, .slice a.p a.recs.length a.cap] 26)) (.cells #[.int .i64 b.kind, .int .i64 b.frm, .int .i64 b.inc, .int .i64 b.lo, .int .i64 b.hi, .int .i64 b.seq, .int .i64 b.tgt, .int .i64 b.life, .int .i64 b.epoch, .int .i64 b.base, .slice b.p b.recs.length b.cap] 26)
  rw [show (w.alloc (.cells #[.int .i64 a.kind, .int .i64 a.frm, .int .i64 a.inc, .int .i64 a.lo, .int .i64 a.hi, .int .i64 a.seq, .int .i64 a.tgt, .int .i64 a.life, .int .i64 a.epoch, .int .i64 a.base, .slice a.p a.recs.length a.cap] 26)).heap.size = w.heap.size + 1 by simp] at this
  exact this
theorem InM2.on {w X X' : World} {a b : Mg} (h : InM2 w a b X) (k : Below X.heap.size X X') : InM2 w a b X' :=
  ⟨h.below.trans (k.mono h.below.size), by rw [k.block _ (Array.getElem?_eq_some_iff.1 h.ba).1]; exact h.ba, by rw [k.block _ (Array.getElem?_eq_some_iff.1 h.bb).1]; exact h.bb⟩

/-- Whether two messages say the same. -/
def sender (a b : Mg) : Bool := decide (a.kind = b.kind) && decide (a.frm = b.frm) && decide (a.inc = b.inc) && (decide (a.lo = b.lo) && decide (a.hi = b.hi))
def numbers (a b : Mg) : Bool := decide (a.seq = b.seq) && decide (a.tgt = b.tgt) && decide (a.life = b.life) && decide (a.epoch = b.epoch) && decide (a.base = b.base)
def sameM (a b : Mg) : Bool := sender a b && numbers a b && decide (rks a.recs = rks b.recs)
theorem sameM_self (a : Mg) : sameM a a = true := by simp [sameM, sender, numbers]
theorem sameM_comm (a b : Mg) : sameM b a = sameM a b := by
  rw [Bool.eq_iff_iff]
  simp only [sameM, sender, numbers, Bool.and_eq_true, decide_eq_true_eq]
  constructor <;> intro h <;> simp_all

/-- Which parts a kind has. -/
def hasB (k p : Int) : Bool :=
  if p = 0 then decide (k = 1 ∨ k = 2 ∨ k = 4 ∨ k = 5 ∨ k = 6) else
  if p = 1 then decide (k = 3 ∨ k = 6) else
  if p = 2 then decide (k = 7 ∨ k = 8 ∨ k = 9) else
  if p = 3 then decide (k = 7) else decide (p = 4) && decide (4 ≤ k ∧ k ≤ 8)

/-- May a part be that the kind has; is a part none. -/
def mayP (m : Mg) (p : Int) : Bool :=
  if p = 0 then decide (0 ≤ m.seq ∧ m.seq ≤ 65535) else
  if p = 1 then (if m.kind = 3 then decide (1 ≤ m.tgt ∧ m.tgt ≤ 3) else decide (0 ≤ m.tgt ∧ m.tgt ≤ 4095)) else
  if p = 2 then (if m.epoch = 0 then decide (m.life = 0 ∧ m.kind ≠ 9) else decide (0 ≤ m.life ∧ m.life ≤ 281474976710655) && decide (0 ≤ m.epoch ∧ m.epoch ≤ 65535)) else
  if p = 3 then decide (m.base = 0 ∨ 1 ≤ m.base ∧ m.base < m.epoch) else decide (m.recs.length ≤ 255) && sortR (-1) (rks m.recs)
def noneP (m : Mg) (p : Int) : Bool :=
  if p = 0 then decide (m.seq = 0) else
  if p = 1 then decide (m.tgt = 0) else
  if p = 2 then decide (m.life = 0 ∧ m.epoch = 0) else
  if p = 3 then decide (m.base = 0) else decide (m.recs.length = 0)
def partP (m : Mg) (p : Int) : Bool := if hasB m.kind p = true then mayP m p else noneP m p
/-- The parts from the k-th on. -/
def partsP (m : Mg) : Nat → Bool
  | 0 => true
  | n + 1 => partP m (4 - n) && partsP m n
def mayM (m : Mg) : Bool := decide (1 ≤ m.kind ∧ m.kind ≤ 9) && (decide (0 ≤ m.frm ∧ m.frm ≤ 4095) && decide (0 ≤ m.inc ∧ m.inc ≤ 281474976710655) && okS m.lo m.hi) && partsP m 5

/-- The same, number by number. -/
def numsOk (m : Mg) : Prop :=
  (1 ≤ m.kind ∧ m.kind ≤ 9) ∧ (0 ≤ m.frm ∧ m.frm ≤ 4095) ∧ (0 ≤ m.inc ∧ m.inc ≤ 281474976710655) ∧
  (0 ≤ m.seq ∧ m.seq ≤ 65535 ∧ (0 < m.seq → hasB m.kind 0 = true)) ∧
  (0 ≤ m.tgt ∧ m.tgt ≤ 4095 ∧ (0 < m.tgt → hasB m.kind 1 = true) ∧ (m.kind = 3 → 1 ≤ m.tgt ∧ m.tgt ≤ 3)) ∧
  (0 ≤ m.life ∧ m.life ≤ 281474976710655 ∧ 0 ≤ m.epoch ∧ m.epoch ≤ 65535 ∧ 0 ≤ m.base) ∧
  ((hasB m.kind 2 = false → ¬ (0 < m.life ∨ 0 < m.epoch)) ∧ ¬ (m.epoch = 0 ∧ 0 < m.life) ∧ ¬ (m.kind = 9 ∧ m.epoch = 0)) ∧
  ¬ (0 < m.base ∧ (m.kind ≠ 7 ∨ m.epoch ≤ m.base))
def recsOk (m : Mg) : Bool := if hasB m.kind 4 = true then decide (m.recs.length ≤ 255) && sortR (-1) (rks m.recs) else decide (m.recs.length = 0)

theorem mayM_nums (m : Mg) : mayM m = true ↔ numsOk m ∧ okS m.lo m.hi = true ∧ recsOk m = true := by
  by_cases hk : 1 ≤ m.kind ∧ m.kind ≤ 9
  · have hc : m.kind = 1 ∨ m.kind = 2 ∨ m.kind = 3 ∨ m.kind = 4 ∨ m.kind = 5 ∨ m.kind = 6 ∨ m.kind = 7 ∨ m.kind = 8 ∨ m.kind = 9 := by omega
    simp only [mayM, partsP, partP, hasB, mayP, noneP, numsOk, recsOk]
    generalize okS m.lo m.hi = b
    generalize sortR (-1) (rks m.recs) = c
    generalize m.recs.length = n
    rcases hc with h | h | h | h | h | h | h | h | h <;> (simp [h]; cases b <;> cases c <;> (try simp) <;> (try split) <;> (try simp) <;> omega)
  · constructor
    · intro h
      simp only [mayM, Bool.and_eq_true, decide_eq_true_eq] at h
      exact absurd h.1.1 hk
    · intro h
      exact absurd h.1.1 hk
end Go.Proofs.YtmejfkhikgcgmaaDoor
namespace Go.Proofs.YtmejfkhikgcgmaaDoor
open Go.RowKit
set_option linter.unusedSimpArgs false
set_option linter.unusedVariables false
set_option maxRecDepth 10000

theorem infoB : (Tryd.prog.info? 5).map (fun i => (i.zero, i.size, i.bytes)) = some (some (.int .u8 0), 1, 1) := by kernel_rfl
theorem infoB1 : (Tryd.prog.info? 5).map (·.size) = some 1 := by kernel_rfl

theorem made_len (n : Nat) : (madeCells #[Value.int .u8 0] n).size = n := by simp [madeCells]

theorem splice_all (L cs : List Value) (h : L.length = cs.length) : splice L 0 cs = cs := by
  simp [splice, h.symm]

/-- What 'copy' asks of its source, where the bytes lie in old memory and one block has been laid. -/
theorem src_old {w : World} {p : Option Addr} {l : List Int} (hB : BIn w p l) (o : Obj) (dp : Option Addr) : 0 < (l.map (Value.int .u8)).length → dp = dp ∧ ∃ ad, p = some ad ∧ ∀ j v, (l.map (Value.int .u8))[j]? = some v → (w.alloc o).cell? (ad.add j) = some v := by
  intro h
  obtain ⟨b, o, rfl, hc⟩ := hB (by simpa using h)
  refine ⟨rfl, _, rfl, fun j v hj => ?_⟩
  simp at hj
  obtain ⟨x, hx, rfl⟩ := hj
  have hj : j < l.length := by
    by_cases hh : j < l.length
    · exact hh
    · simp [List.getElem?_eq_none (Nat.le_of_not_lt hh)] at hx
  have hcj := hc j hj
  have hb : b < w.heap.size := lt_of_cell hcj
  rw [Go.WideShapes.add_plain, World.cell?_of_block (a := ⟨b, o + j, none⟩) (heap_alloc_old w _ hb), hcj]
  simp [List.getD, hx]

set_option maxHeartbeats 400000 in
theorem own_any (p : Option Addr) (c : Nat) (l : List Int) (w : World) (hB : BIn w p l) (hn : l.length ≤ 140737488355328) :
    Calls Tryd.prog 80 #[.slice p l.length c] w fun e w' => e = .returned (.slice (some ⟨w.heap.size, 0, none⟩) l.length l.length) ∧
      w'.heap[w.heap.size]? = some (.cells (cellsB l) 5 (0, 0)) ∧ Below w.heap.size w w' := by
  have hmk := fun w => run_make_row' (P := Tryd.prog) 29 5 (.int .u8 0) 1 Tryd.underlying29 infoB rfl .i64 .i64 l.length (by omega) (by omega) w
  go_enter Tryd.func80, Tryd.ntmps80
  go_wp2_with (refine wpList_copy_splice rfl (.tmp 7) (.tmp 8) 29 29 rfl 5 Tryd.underlying29 infoB1 (some ⟨w.heap.size, 0, none⟩) p l.length l.length l.length c rfl rfl w.heap.size 0 (madeCells #[Value.int .u8 0] l.length).toList 5 (by simpa using heap_alloc_new w _) (l.map (Value.int .u8)) (by simp) (src_old hB _ _) (by simp [made_len]) (oneCells l) w.heap.size w ((Below.refl _ _).alloc (Nat.le_refl _) _) (Nat.le_refl _) ?_)
  intro w' hg hb
  go_wp2
  go_ret
  refine ⟨rfl, ?_, hb⟩
  rw [hg.out, splice_all _ _ (by simp [made_len])]
  rfl

/-- At block b lies a reader with the bytes l left; they lie in a block of which Q holds. -/
def RdQ (Q : Nat → Prop) (w : World) (b : Nat) (l : List Int) (bad : Bool) : Prop :=
  ∃ p c, w.heap[b]? = some (.cells #[.slice p l.length c, .bool bad] 111 (0, 0)) ∧ l.length ≤ c ∧ c ≤ maxLen ∧ isB l ∧ BIn w p l ∧ (∀ a, p = some a → a.block ≠ b ∧ Q a.block) ∧ (bad = true → l = [])

/-- The same, wherever they lie. -/
abbrev Rd (w : World) (b : Nat) (l : List Int) (bad : Bool) : Prop := RdQ (fun _ => True) w b l bad

theorem RdQ.any {Q : Nat → Prop} {w : World} {b : Nat} {l : List Int} {bad : Bool} (h : RdQ Q w b l bad) : Rd w b l bad := by
  obtain ⟨p, c, h1, h2, h3, h4, h5, h6, h7⟩ := h
  exact ⟨p, c, h1, h2, h3, h4, h5, fun a ha => ⟨(h6 a ha).1, trivial⟩, h7⟩

theorem RdQ.fr {Q S : Nat → Prop} {w w' : World} {b : Nat} {l : List Int} {bad : Bool} (h : RdQ Q w b l bad) (k : Fr S w w') (hb : ∀ i, S i → w.heap.size ≤ i) : RdQ Q w' b l bad := by
  obtain ⟨p, c, h1, h2, h3, h4, h5, h6, h7⟩ := h
  refine ⟨p, c, ?_, h2, h3, h4, h5.fr k (fun a ha hlt q => by have := hb _ q; omega), h6, h7⟩
  have hlt : b < w.heap.size := (Array.getElem?_eq_some_iff.1 h1).1
  rw [k.block b hlt (fun q => by have := hb _ q; omega)]
  exact h1

theorem RdQ.below {Q : Nat → Prop} {w w' : World} {b : Nat} {l : List Int} {bad : Bool} (h : RdQ Q w b l bad) (k : Below w.heap.size w w') : RdQ Q w' b l bad :=
  h.fr (Fr.of_below k fun _ => False) fun _ q => q.elim

/-- Where all its blocks lie below B, what is written from B on does not touch it. -/
theorem RdQ.low {w w' : World} {B b : Nat} {l : List Int} {bad : Bool} (h : RdQ (fun k => k < B) w b l bad) (hb : b < B) (hB : B ≤ w.heap.size) (k : Below B w w') : RdQ (fun k => k < B) w' b l bad := by
  obtain ⟨p, c, h1, h2, h3, h4, h5, h6, h7⟩ := h
  have f : Fr (fun i => B ≤ i) w w' := ⟨k.os, k.tape, k.output, k.size, fun i _ hn => k.block i (by omega)⟩
  refine ⟨p, c, ?_, h2, h3, h4, h5.fr f (fun a ha _ q => by have := (h6 a ha).2; omega), h6, h7⟩
  rw [k.block b hb]
  exact h1

theorem RdQ.mono {Q Q' : Nat → Prop} {w : World} {b : Nat} {l : List Int} {bad : Bool} (h : RdQ Q w b l bad) (k : ∀ i, Q i → Q' i) : RdQ Q' w b l bad := by
  obtain ⟨p, c, h1, h2, h3, h4, h5, h6, h7⟩ := h
  exact ⟨p, c, h1, h2, h3, h4, h5, fun a ha => ⟨(h6 a ha).1, k _ (h6 a ha).2⟩, h7⟩

set_option maxHeartbeats 400000 in
theorem bad_any (b : Nat) (x : Value) (bad : Bool) (w : World) (h : w.heap[b]? = some (.cells #[x, .bool bad] 111 (0, 0))) :
    Calls Tryd.prog 66 #[.pointer (some ⟨b, 0, none⟩)] w fun e w' => e = .returned (.bool bad) ∧ w = w' := by
  obtain ⟨c0, c1, f0, f1⟩ := two_cells h
  clear h
  go_enter Tryd.func66, Tryd.ntmps66
  go_wp2
  go_ret
  exact ⟨rfl, rfl⟩

set_option maxHeartbeats 400000 in
theorem spoil_any (b : Nat) (x y : Value) (w : World) (h : w.heap[b]? = some (.cells #[x, y] 111 (0, 0))) :
    Calls Tryd.prog 90 #[.pointer (some ⟨b, 0, none⟩)] w fun e w' => e = .returned (.tuple #[]) ∧ Rd w' b [] true ∧ Fr (fun k => k = b) w w' := by
  obtain ⟨c0, c1, f0, f1⟩ := two_cells h
  have H : Hid (w.heap[b]? = some (.cells #[x, y] 111 (0, 0))) := h
  clear h
  go_enter Tryd.func90, Tryd.ntmps90
  go_wp2
  go_end0
  refine ⟨rfl, ⟨none, 0, ?_, Nat.le_refl _, by simp [maxLen], isB.nil, BIn.empty _ _, by simp, by simp⟩, Fr.setCell (S := fun k => k = b) (p := ⟨b, 1, none⟩) (Fr.setCell (S := fun k => k = b) (p := ⟨b, 0, none⟩) (Fr.refl _ _) (.inl rfl) _) (.inl rfl) _⟩
  exact set_second (set_first H.out _) _

theorem block_map {p : Option Addr} {R : Nat → Prop} {k : Nat} (h : ∀ a, p = some a → R a.block) : ∀ a, p.map (fun x => x.add k) = some a → R a.block := by
  intro a ha
  cases p with
  | none => simp at ha
  | some x =>
    simp at ha
    subst ha
    have := h x rfl
    unfold Addr.add
    split <;> simpa using this

/-- A reader that has gone k bytes on. -/
theorem Rd.step {Q : Nat → Prop} {w : World} {b : Nat} {l : List Int} {p : Option Addr} {c k : Nat} (H : w.heap[b]? = some (.cells #[.slice p l.length c, .bool false] 111 (0, 0))) (hk : k ≤ l.length) (h2 : l.length ≤ c) (h3 : c ≤ 2 ^ 63 - 1) (h4 : isB l) (h5 : BIn w p l)
    (h6 : ∀ a, p = some a → a.block ≠ b ∧ Q a.block) (q : Option Addr) (d : Nat) (hd : l.length - k ≤ d) (hd2 : d ≤ c) (hq : BIn w q (l.drop k)) (hqb : ∀ a, q = some a → a.block ≠ b ∧ Q a.block) :
    RdQ Q (w.setCell ⟨b, 0, none⟩ (.slice q (l.length - k) d)) b (l.drop k) false ∧ Fr (fun k => k = b) w (w.setCell ⟨b, 0, none⟩ (.slice q (l.length - k) d)) ∧ BIn (w.setCell ⟨b, 0, none⟩ (.slice q (l.length - k) d)) p (l.take k) := by
  have fr : Fr (fun k => k = b) w (w.setCell ⟨b, 0, none⟩ (.slice q (l.length - k) d)) := Fr.setCell (S := fun k => k = b) (p := ⟨b, 0, none⟩) (Fr.refl _ _) (.inl rfl) _
  refine ⟨⟨q, d, ?_, by simpa using hd, by simp only [maxLen]; omega, h4.drop k, hq.fr fr fun a ha _ => (hqb a ha).1, hqb, by simp⟩, fr, (h5.take k).fr fr fun a ha _ => (h6 a ha).1⟩
  rw [List.length_drop]
  exact set_first H _

set_option maxHeartbeats 400000 in
theorem step_ok {Q : Nat → Prop} (b : Nat) (l : List Int) (k : Nat) (w : World) (h : RdQ Q w b l false) (hk : k ≤ l.length) :
    Calls Tryd.prog 91 #[.pointer (some ⟨b, 0, none⟩), .int .i64 k] w fun e w' => (∃ p c, e = .returned (.slice p k c) ∧ BIn w' p (l.take k) ∧ k ≤ c) ∧ RdQ Q w' b (l.drop k) false ∧ Fr (fun k => k = b) w w' ∧ w'.heap.size = w.heap.size := by
  obtain ⟨p, c, h1, h2, h3, h4, h5, h6, h7⟩ := h
  obtain ⟨c0, c1, f0, f1⟩ := two_cells h1
  have H : Hid (w.heap[b]? = some (.cells #[.slice p l.length c, .bool false] 111 (0, 0))) := h1
  clear h1 h7
  unfold maxLen at h3
  by_cases hc : c = k
  · subst hc
    have hl : l.drop c = [] := List.drop_eq_nil_of_le h2
    have R := Rd.step H.out hk h2 h3 h4 h5 h6 p 0 (by omega) (by omega) (by rw [hl]; exact BIn.empty _ _) h6
    rw [show l.length - c = 0 by omega] at R
    have HR : Hid _ := R
    clear R hl
    go_enter Tryd.func91, Tryd.ntmps91
    go_wp2
    go_ret
    exact ⟨⟨p, c, rfl, HR.out.2.2, by omega⟩, HR.out.1, HR.out.2.1, by simp [World.setCell]⟩
  · have R := Rd.step H.out hk h2 h3 h4 h5 h6 (p.map fun x => x.add k) (c - k) (by omega) (by omega) (h5.cut k) (block_map (R := fun i => i ≠ b ∧ Q i) h6)
    have HR : Hid _ := R
    clear R
    go_enter Tryd.func91, Tryd.ntmps91
    go_wp2
    go_ret
    exact ⟨⟨p, c, rfl, HR.out.2.2, by omega⟩, HR.out.1, HR.out.2.1, by simp [World.setCell]⟩

set_option maxHeartbeats 400000 in
theorem step_no {Q : Nat → Prop} (b : Nat) (l : List Int) (bad : Bool) (n : Int) (w : World) (h : RdQ Q w b l bad) (hk : bad = true ∨ n < 0 ∨ (l.length : Int) < n) :
    Calls Tryd.prog 91 #[.pointer (some ⟨b, 0, none⟩), .int .i64 n] w fun e w' => e = .returned (.slice none 0 0) ∧ Rd w' b [] true ∧ Fr (fun k => k = b) w w' := by
  obtain ⟨p, c, h1, h2, h3, h4, h5, h6, h7⟩ := h
  obtain ⟨c0, c1, f0, f1⟩ := two_cells h1
  have S := spoil_any b _ _ w h1
  have B := bad_any b _ _ w h1
  clear h1 h7 h5 h6
  unfold maxLen at h3
  have go : ∀ (hk : bad = true ∨ (bad = false ∧ n < 0) ∨ (bad = false ∧ ¬ n < 0 ∧ (l.length : Int) < n)), Calls Tryd.prog 91 #[.pointer (some ⟨b, 0, none⟩), .int .i64 n] w fun e w' => e = .returned (.slice none 0 0) ∧ Rd w' b [] true ∧ Fr (fun k => k = b) w w' := by
    intro hk
    rcases hk with rfl | ⟨rfl, hn⟩ | ⟨rfl, hn, hn2⟩
    all_goals
      go_enter Tryd.func91, Tryd.ntmps91
      go_wp2_with (first | (go_at_call 66; refine B.mono ?_; rintro e w' ⟨rfl, rfl⟩) | (go_at_call 90; refine S.mono ?_; rintro e w' ⟨rfl, hR, hF⟩))
      go_ret
      exact ⟨rfl, hR, hF⟩
  apply go
  cases bad with
  | true => exact .inl rfl
  | false =>
    right
    by_cases hn : n < 0
    · exact .inl ⟨rfl, hn⟩
    · exact .inr ⟨rfl, hn, by rcases hk with h | h | h; cases h; exact absurd h hn; exact h⟩

/-- What bytes are as a number, the highest first. -/
def numB (l : List Int) : Int := l.foldl (fun v x => v * 256 + x) 0
theorem numB_snoc (l : List Int) (x : Int) : numB (l ++ [x]) = numB l * 256 + x := by simp [numB]
theorem numB_take (l : List Int) (j : Nat) (hj : j < l.length) : numB (l.take (j + 1)) = numB (l.take j) * 256 + l.getD j 0 := by
  rw [List.take_succ_eq_append_getElem hj, numB_snoc]; simp [List.getD, hj]
theorem numB_bound (l : List Int) (h : isB l) : 0 ≤ numB l ∧ numB l < 256 ^ l.length := by
  have : ∀ (l : List Int) (v : Int), isB l → 0 ≤ v → 0 ≤ l.foldl (fun v x => v * 256 + x) v ∧ l.foldl (fun v x => v * 256 + x) v < (v + 1) * 256 ^ l.length := by
    intro l
    induction l with
    | nil => intro v _ hv; simp; omega
    | cons x l ih =>
      intro v hl hv
      have hx := hl x (by simp)
      obtain ⟨i1, i2⟩ := ih (v * 256 + x) (fun y hy => hl y (by simp [hy])) (by omega)
      refine ⟨by simpa using i1, ?_⟩
      simp only [List.foldl_cons, List.length_cons]
      refine Int.lt_of_lt_of_le i2 ?_
      rw [Int.pow_succ, Int.mul_comm (256 ^ l.length) 256, ← Int.mul_assoc]
      exact Int.mul_le_mul_of_nonneg_right (by omega) (Int.le_of_lt (Int.pow_pos (by omega)))
  have := this l 0 h (Int.le_refl _)
  simpa [numB] using this
theorem pow6 (n : Nat) (h : n ≤ 6) : (256 : Int) ^ n ≤ 281474976710656 := by
  have : n = 0 ∨ n = 1 ∨ n = 2 ∨ n = 3 ∨ n = 4 ∨ n = 5 ∨ n = 6 := by omega
  rcases this with rfl | rfl | rfl | rfl | rfl | rfl | rfl <;> decide
theorem numB_small (l : List Int) (h : isB l) (j : Nat) (hj : j ≤ 6) : 0 ≤ numB (l.take j) ∧ numB (l.take j) < 281474976710656 := by
  have := numB_bound _ (h.take j)
  exact ⟨this.1, Int.lt_of_lt_of_le this.2 (pow6 _ (by simp; omega))⟩
theorem i64_or8 (x y : Int) (h1 : 0 ≤ x) (h2 : x < 281474976710656) (h3 : 0 ≤ y) (h4 : y < 256) : bits .or .i64 (x * 256) y = x * 256 + y :=
  bits_join .i64 63 (by decide) (fun n a b => by rw [IntKind.wrap_i64]; omega) 8 (x * 256) y (by omega) (by omega) (by omega) h3 (by omega) (by omega)

set_option maxHeartbeats 400000 in
theorem num_ok {Q : Nat → Prop} (b : Nat) (l : List Int) (k : Nat) (w : World) (h : RdQ Q w b l false) (hk : k ≤ l.length) (hk1 : 1 ≤ k) (hk7 : k ≤ 7) :
    Calls Tryd.prog 81 #[.pointer (some ⟨b, 0, none⟩), .int .i64 k] w fun e w' => e = .returned (.int .i64 (numB (l.take k))) ∧ RdQ Q w' b (l.drop k) false ∧ Fr (fun k => k = b) w w' ∧ w'.heap.size = w.heap.size := by
  have S := step_ok b l k w h hk
  have hB : isB l := by obtain ⟨p, c, h1, h2, h3, h4, _⟩ := h; exact h4
  clear h
  go_enter Tryd.func81, Tryd.ntmps81
  go_wp2_with (go_at_call 91; refine S.mono ?_; rintro e w1 ⟨⟨p, c, rfl, hbin, hkc⟩, hR, hF, hz⟩)
  obtain ⟨g, o, rfl, hc⟩ := hbin (by simp; omega)
  have HR := Hid.mk' hR
  go_loop [5, 20] (fun v i => ∃ j : Nat, j ≤ k ∧ i = .int .i64 j ∧ v = .int .i64 (numB (l.take j))) (fun _ i => k - (intOf i).toNat)
  case atStart => exact ⟨0, Nat.zero_le _, rfl, rfl⟩
  case round =>
    obtain ⟨j, hj, rfl, rfl⟩ := hrel
    by_cases hlt : j < k
    · have hjl : j < l.length := by omega
      have hcj := hc j (by simp; omega)
      rw [show (List.take k l).getD j 0 = l[j] by simp [List.getD, hlt, hjl]] at hcj
      have hn := numB_small l hB j (by omega)
      have hx := hB l[j] (List.getElem_mem hjl)
      have HN : Hid (numB (l.take (j + 1)) = numB (l.take j) * 256 + l[j]) := by
        have h := numB_take l j hjl
        rw [show l.getD j 0 = l[j] by simp [List.getD, hjl]] at h
        exact h
      have HO := Hid.mk' (i64_or8 (numB (l.take j)) l[j] hn.1 hn.2 hx.1 hx.2)
      go_wp2
      go_round
      case rel => exact ⟨j + 1, by omega, by go_num, by rw [HO.out, HN.out]⟩
      case measure => simp [intOf]; omega
    · obtain rfl : j = k := by omega
      go_wp2
      go_ret
      exact ⟨rfl, HR.out, hF, hz⟩

set_option maxHeartbeats 400000 in
theorem num_no {Q : Nat → Prop} (b : Nat) (l : List Int) (bad : Bool) (n : Int) (w : World) (h : RdQ Q w b l bad) (hk : bad = true ∨ n < 1 ∨ 7 < n ∨ (l.length : Int) < n) :
    Calls Tryd.prog 81 #[.pointer (some ⟨b, 0, none⟩), .int .i64 n] w fun e w' => e = .returned (.int .i64 0) ∧ Rd w' b [] true ∧ Fr (fun k => k = b) w w' := by
  have hl : (l.length : Int) ≤ 9223372036854775807 := by obtain ⟨p, c, h1, h2, h3, _⟩ := h; unfold maxLen at h3; omega
  have S := step_no b l bad n w h
  have P := fun x y h => spoil_any b x y w h
  obtain ⟨p, c, h1, _⟩ := h
  have P := P _ _ h1
  clear h1
  by_cases hn : n < 1
  · go_enter Tryd.func81, Tryd.ntmps81
    go_wp2_with (go_at_call 90; refine P.mono ?_; rintro e w' ⟨rfl, hR, hF⟩)
    go_ret
    exact ⟨rfl, hR, hF⟩
  · by_cases hn7 : 7 < n
    · go_enter Tryd.func81, Tryd.ntmps81
      go_wp2_with (go_at_call 90; refine P.mono ?_; rintro e w' ⟨rfl, hR, hF⟩)
      go_ret
      exact ⟨rfl, hR, hF⟩
    · have S := S (by rcases hk with h | h | h | h; exact .inl h; exact absurd h hn; exact absurd h hn7; exact .inr (.inr h))
      clear hk P
      go_enter Tryd.func81, Tryd.ntmps81
      go_wp2_with (go_at_call 91; refine S.mono ?_; rintro e w' ⟨rfl, hR, hF⟩)
      refine wp_loop_rounds 1 ?_
      rw [rounds_succ]
      go_wp2
      go_ret
      exact ⟨rfl, hR, hF⟩

set_option maxHeartbeats 400000 in
theorem take_ok {Q : Nat → Prop} (b : Nat) (l : List Int) (k : Nat) (w : World) (h : RdQ Q w b l false) (hk : k ≤ l.length) (hb : l.length ≤ 140737488355328) :
    Calls Tryd.prog 82 #[.pointer (some ⟨b, 0, none⟩), .int .i64 k] w fun e w' => e = .returned (.slice (some ⟨w.heap.size, 0, none⟩) k k) ∧ BIn w' (some ⟨w.heap.size, 0, none⟩) (l.take k) ∧ RdQ Q w' b (l.drop k) false ∧ Fr (fun k => k = b) w w' := by
  have S := step_ok b l k w h hk
  have hl : (l.take k).length = k := by simp; omega
  have HL := Hid.mk' hl
  clear h hl
  go_enter Tryd.func82, Tryd.ntmps82
  go_wp2_with (go_at_call 91; refine S.mono ?_; rintro e w1 ⟨⟨p, c, rfl, hbin, hkc⟩, hR, hF, hz⟩)
  have O := own_any p c (l.take k) w1 hbin (by rw [HL.out]; omega)
  rw [HL.out, hz] at O
  refine O.mono ?_
  rintro e w2 ⟨rfl, hblk, hbel⟩
  go_wp2
  go_ret
  refine ⟨rfl, ?_, hR.below (by rw [hz]; exact hbel), hF.trans (Fr.of_below (by rw [hz]; exact hbel) fun _ => False) fun _ q => q.elim⟩
  exact BIn.of_block (rest := []) (by simpa [cellsB] using hblk)

set_option maxHeartbeats 400000 in
theorem take_no {Q : Nat → Prop} (b : Nat) (l : List Int) (bad : Bool) (n : Int) (w : World) (h : RdQ Q w b l bad) (hk : bad = true ∨ n < 0 ∨ (l.length : Int) < n) :
    Calls Tryd.prog 82 #[.pointer (some ⟨b, 0, none⟩), .int .i64 n] w fun e w' => (∃ g, e = .returned (.slice (some ⟨g, 0, none⟩) 0 0)) ∧ Rd w' b [] true ∧ Fr (fun k => k = b) w w' := by
  have S := step_no b l bad n w h hk
  clear h
  go_enter Tryd.func82, Tryd.ntmps82
  go_wp2_with (go_at_call 91; refine S.mono ?_; rintro e w1 ⟨rfl, hR, hF⟩)
  refine (own_any none 0 [] w1 (BIn.empty _ _) (by simp)).mono ?_
  rintro e w2 ⟨rfl, hblk, hbel⟩
  go_wp2
  go_ret
  exact ⟨⟨_, rfl⟩, hR.below hbel, hF.trans (Fr.of_below hbel fun _ => False) fun _ q => q.elim⟩

set_option maxHeartbeats 400000 in
theorem left_any {Q : Nat → Prop} (b : Nat) (l : List Int) (bad : Bool) (w : World) (h : RdQ Q w b l bad) :
    Calls Tryd.prog 64 #[.pointer (some ⟨b, 0, none⟩)] w fun e w' => e = .returned (.int .i64 l.length) ∧ w = w' := by
  obtain ⟨p, c, h1, h2, h3, h4, h5, h6, h7⟩ := h
  have B := bad_any b _ _ w h1
  obtain ⟨c0, c1, f0, f1⟩ := two_cells h1
  unfold maxLen at h3
  clear h1 h4 h5 h6
  cases bad
  · clear h7
    go_enter Tryd.func64, Tryd.ntmps64
    go_wp2_with (go_at_call 66; refine B.mono ?_; rintro e w' ⟨rfl, rfl⟩)
    go_ret
    exact ⟨rfl, rfl⟩
  · obtain rfl := h7 rfl
    go_enter Tryd.func64, Tryd.ntmps64
    go_wp2_with (go_at_call 66; refine B.mono ?_; rintro e w' ⟨rfl, rfl⟩)
    go_ret
    exact ⟨rfl, rfl⟩

set_option maxHeartbeats 400000 in
theorem done_any {Q : Nat → Prop} (b : Nat) (l : List Int) (bad : Bool) (w : World) (h : RdQ Q w b l bad) :
    Calls Tryd.prog 83 #[.pointer (some ⟨b, 0, none⟩)] w fun e w' => e = .returned (.bool (!bad && ((l.length : Int) == 0))) ∧ w = w' := by
  obtain ⟨p, c, h1, h2, h3, h4, h5, h6, h7⟩ := h
  have B := bad_any b _ _ w h1
  obtain ⟨c0, c1, f0, f1⟩ := two_cells h1
  unfold maxLen at h3
  clear h1 h4 h5 h6 h7
  cases bad
  all_goals
    go_enter Tryd.func83, Tryd.ntmps83
    go_wp2_with (go_at_call 66; refine B.mono ?_; rintro e w' ⟨rfl, rfl⟩)
    go_ret
    exact ⟨rfl, rfl⟩

theorem badR_any {Q : Nat → Prop} (b : Nat) (l : List Int) (bad : Bool) (w : World) (h : RdQ Q w b l bad) :
    Calls Tryd.prog 66 #[.pointer (some ⟨b, 0, none⟩)] w fun e w' => e = .returned (.bool bad) ∧ w = w' := by
  obtain ⟨p, c, h1, _⟩ := h
  exact bad_any b _ _ w h1

set_option maxHeartbeats 400000 in
theorem read_at (p : Option Addr) (c : Nat) (l : List Int) (w : World) (hB : BIn w p l) (hl : isB l) (hn : l.length ≤ 140737488355328) :
    Calls Tryd.prog 63 #[.slice p l.length c] w fun e w' => ∃ b, e = .returned (.pointer (some ⟨b, 0, none⟩)) ∧ w.heap.size ≤ b ∧ b < w'.heap.size ∧ RdQ (fun k => w.heap.size ≤ k ∧ k < w'.heap.size) w' b l false ∧ Below w.heap.size w w' := by
  go_enter Tryd.func63, Tryd.ntmps63
  go_wp2_with (go_at_call 80; refine (own_any p c l w hB hn).mono ?_; rintro e w1 ⟨rfl, hblk, hbel⟩)
  go_ret
  have hlt : w.heap.size < w1.heap.size := (Array.getElem?_eq_some_iff.1 hblk).1
  refine ⟨w1.heap.size, rfl, hbel.size, by simp, ⟨_, _, heap_alloc_new _ _, Nat.le_refl _, by simp only [maxLen]; omega, hl, ?_, by intro a ha; simp at ha; subst ha; simp; omega, by simp⟩, hbel.alloc hbel.size _⟩
  exact BIn.of_block (rest := []) (by rw [heap_alloc_old _ _ hlt]; simpa [cellsB] using hblk)

theorem read_any (p : Option Addr) (c : Nat) (l : List Int) (w : World) (hB : BIn w p l) (hl : isB l) (hn : l.length ≤ 140737488355328) :
    Calls Tryd.prog 63 #[.slice p l.length c] w fun e w' => ∃ b, e = .returned (.pointer (some ⟨b, 0, none⟩)) ∧ w.heap.size ≤ b ∧ Rd w' b l false ∧ Below w.heap.size w w' :=
  (read_at p c l w hB hl hn).mono fun e w' ⟨b, h1, h2, _, h4, h5⟩ => ⟨b, h1, h2, h4.any, h5⟩

end Go.Proofs.YtmejfkhikgcgmaaDoor
namespace Go.Proofs.YtmejfkhikgcgmaaDoor
open Go.RowKit
set_option linter.unusedSimpArgs false
set_option linter.unusedVariables false
set_option maxRecDepth 10000

/-- At block b lies a writer to which the bytes l were put, and which owns the row g. -/
def Wr (w : World) (b : Nat) (g : Option Nat) (l : List Int) (bad : Bool) : Prop :=
  ∃ v, w.heap[b]? = some (.cells #[v, .bool bad] 106 (0, 0)) ∧ w.ownsRow 0 5 1 v l.length (l.map (Value.int .u8)) ∧ v.ownBlock = g ∧ g ≠ some b ∧ isB l ∧ (bad = true → l = [])

/-- The row that is owned now: the one of before, or a new one, or none. -/
def Next (w : World) (g g' : Option Nat) : Prop := g' = g ∨ g' = none ∨ ∃ k, g' = some k ∧ w.heap.size ≤ k

theorem Next.refl (w : World) (g : Option Nat) : Next w g g := .inl rfl
theorem Next.trans {S : Nat → Prop} {w w' : World} {g g' g'' : Option Nat} (h : Next w g g') (k : Next w' g' g'') (f : Fr S w w') : Next w g g'' := by
  rcases k with rfl | k | ⟨i, rfl, hi⟩
  · exact h
  · exact .inr (.inl k)
  · exact .inr (.inr ⟨i, rfl, Nat.le_trans f.size hi⟩)

theorem Wr.lt {w : World} {b : Nat} {g : Option Nat} {l : List Int} {bad : Bool} (h : Wr w b g l bad) : b < w.heap.size ∧ ∀ k, g = some k → k < w.heap.size := by
  obtain ⟨v, h1, h2, h3, _⟩ := h
  refine ⟨(Array.getElem?_eq_some_iff.1 h1).1, fun k hk => ?_⟩
  exact (h2.lt k (by rw [h3]; exact hk)).2

theorem Wr.fr {S : Nat → Prop} {w w' : World} {b : Nat} {g : Option Nat} {l : List Int} {bad : Bool} (h : Wr w b g l bad) (k : Fr S w w') (hb : b < w.heap.size → ¬ S b) (hg : ∀ i, i < w.heap.size → g = some i → ¬ S i) : Wr w' b g l bad := by
  have hlt := h.lt
  obtain ⟨v, h1, h2, h3, h4, h5, h6⟩ := h
  refine ⟨v, ?_, owns_fr h2 k fun i hi => hg i (hlt.2 i (by rw [← h3]; exact hi)) (by rw [← h3]; exact hi), h3, h4, h5, h6⟩
  rw [k.block b hlt.1 (hb hlt.1)]
  exact h1

theorem Wr.below {w w' : World} {b : Nat} {g : Option Nat} {l : List Int} {bad : Bool} (h : Wr w b g l bad) (k : Below w.heap.size w w') : Wr w' b g l bad :=
  h.fr (Fr.of_below k fun _ => False) (fun _ q => q) fun _ _ _ q => q

set_option maxHeartbeats 400000 in
theorem write_any (w : World) : Calls Tryd.prog 56 #[] w fun e w' => e = .returned (.pointer (some ⟨w.heap.size, 0, none⟩)) ∧ Wr w' w.heap.size none [] false ∧ Below w.heap.size w w' := by
  go_enter Tryd.func56, Tryd.ntmps56
  go_wp2
  go_ret
  exact ⟨rfl, ⟨_, heap_alloc_new _ _, World.ownsRow_nil _ _ _ _, rfl, by simp, isB.nil, by simp⟩, (Below.refl _ _).alloc (Nat.le_refl _) _⟩

set_option maxHeartbeats 400000 in
theorem isBad_any (b : Nat) (x : Value) (bad : Bool) (w : World) (h : w.heap[b]? = some (.cells #[x, .bool bad] 106 (0, 0))) :
    Calls Tryd.prog 79 #[.pointer (some ⟨b, 0, none⟩)] w fun e w' => e = .returned (.bool bad) ∧ w = w' := by
  obtain ⟨c0, c1, f0, f1⟩ := two_cells h
  clear h
  go_enter Tryd.func79, Tryd.ntmps79
  go_wp2
  go_ret
  exact ⟨rfl, rfl⟩

set_option maxHeartbeats 400000 in
theorem spoilW_any (b : Nat) (x y : Value) (w : World) (h : w.heap[b]? = some (.cells #[x, y] 106 (0, 0))) :
    Calls Tryd.prog 89 #[.pointer (some ⟨b, 0, none⟩)] w fun e w' => e = .returned (.tuple #[]) ∧ Wr w' b none [] true ∧ Fr (fun k => k = b) w w' := by
  obtain ⟨c0, c1, f0, f1⟩ := two_cells h
  have H : Hid (w.heap[b]? = some (.cells #[x, y] 106 (0, 0))) := h
  clear h
  go_enter Tryd.func89, Tryd.ntmps89
  go_wp2
  go_end0
  refine ⟨rfl, ⟨_, set_second (set_first H.out _) _, World.ownsRow_nil _ _ _ _, rfl, by simp, isB.nil, by simp⟩, Fr.setCell (S := fun k => k = b) (p := ⟨b, 1, none⟩) (Fr.setCell (S := fun k => k = b) (p := ⟨b, 0, none⟩) (Fr.refl _ _) (.inl rfl) _) (.inl rfl) _⟩

set_option maxHeartbeats 400000 in
theorem raw_bad (b : Nat) (g : Option Nat) (l : List Int) (s : Value) (w : World) (h : Wr w b g l true) :
    Calls Tryd.prog 77 #[.pointer (some ⟨b, 0, none⟩), s] w fun e w' => e = .returned (.pointer (some ⟨b, 0, none⟩)) ∧ w = w' := by
  obtain ⟨v, h1, _⟩ := h
  have B := isBad_any b _ _ w h1
  clear h1
  go_enter Tryd.func77, Tryd.ntmps77
  go_wp2_with (go_at_call 79; refine B.mono ?_; rintro e w' ⟨rfl, rfl⟩)
  go_ret
  exact ⟨rfl, rfl⟩

set_option maxHeartbeats 400000 in
theorem raw_ok (b : Nat) (g : Option Nat) (l m : List Int) (p : Option Addr) (c : Nat) (w : World) (h : Wr w b g l false) (hB : BIn w p m) (hm : isB m) (hp : p = none → c = 0) (hlen : l.length + m.length ≤ 140737488355328) :
    Calls Tryd.prog 77 #[.pointer (some ⟨b, 0, none⟩), .slice p m.length c] w fun e w' => e = .returned (.pointer (some ⟨b, 0, none⟩)) ∧ ∃ g', Wr w' b g' (l ++ m) false ∧ Next w g g' ∧ Fr (fun k => k = b ∨ g = some k) w w' := by
  have hlt := h.lt
  obtain ⟨v, h1, h2, h3, h4, h5, h6⟩ := h
  have B := isBad_any b _ _ w h1
  obtain ⟨c0, c1, f0, f1⟩ := two_cells h1
  obtain ⟨pv, cv, rfl, _⟩ := owns_BIn h2
  have H := Hid.mk' h1
  have H3 := Hid.mk' h3
  have HL := Hid.mk' hlt
  obtain ⟨i0, hi, hz0, hz1, hz2⟩ := info_parts infoB
  clear h1 h3 h6 hlt
  go_enter Tryd.func77, Tryd.ntmps77
  go_wp2_with (first | (go_at_call 79; refine B.mono ?_; rintro e w' ⟨rfl, rfl⟩) | (at_builtin; refine wpList_append_fr rfl (.tmp 12) (.tmp 13) 29 rfl 5 i0 (.int .u8 0) 1 1 Tryd.underlying29 hi hz0 hz1 hz2 rfl (by decide) _ l.length (l.map (Value.int .u8)) rfl h2 p m.length c (m.map (Value.int .u8)) rfl hp (by simp) hB.news (oneCells m) (by simp only [maxLen]; omega) (by omega) ?_))
  intro v' w1 HA
  have hnb : ¬ ((Value.slice pv l.length cv).ownBlock = some b) := by rw [H3.out]; exact h4
  have hb1 : w1.heap[b]? = some (.cells #[.slice pv l.length cv, .bool false] 106 (0, 0)) := by rw [HA.fr.block b HL.out.1 hnb]; exact H.out
  obtain ⟨d0, d1, e0, e1⟩ := two_cells hb1
  obtain ⟨p', c', rfl, _⟩ := owns_slice HA.owns
  have HB := Hid.mk' hb1
  have HNB := Hid.mk' hnb
  clear hb1 hnb B c0 c1 f0 f1 h2 hB
  go_wp2
  go_ret
  have hne : (Value.slice p' (l.length + m.length) c').ownBlock ≠ some b := by
    rcases HA.moved with q | ⟨k, hk, hk2⟩
    · rw [q]; exact HNB.out
    · rw [hk]; have := HL.out.1; simp; omega
  refine ⟨rfl, _, ⟨_, set_first HB.out _, ?_, rfl, hne, h5.append hm, by simp⟩, ?_, ?_⟩
  · have ho := owns_fr (S := fun k => k = b) HA.owns (Fr.setCell (S := fun k => k = b) (p := ⟨b, 0, none⟩) (Fr.refl _ _) (.inl rfl) (.slice p' (l.length + m.length) c')) fun i hi q => hne (by rw [hi, q])
    rw [List.length_append, List.map_append]
    exact ho
  · rcases HA.moved with q | ⟨k, hk, hk2⟩
    · exact .inl (by rw [q]; exact H3.out)
    · exact .inr (.inr ⟨k, hk, hk2⟩)
  · refine Fr.setCell (p := ⟨b, 0, none⟩) (HA.fr.mono fun i _ q => .inr ?_) (.inl (.inl rfl)) _
    rw [← H3.out]; exact q

theorem pow_two (k : Nat) : (2 : Int) ^ (8 * k) = 256 ^ k := by rw [Int.pow_mul]; rfl
theorem pow_pos (k : Nat) : (0 : Int) < 256 ^ k := Int.pow_pos (by omega)

/-- The n bytes of a number, the highest first. -/
def digB (n : Nat) (v : Int) : List Int := (List.range n).map fun t => v / 256 ^ (n - 1 - t) % 256
theorem digB_len (n : Nat) (v : Int) : (digB n v).length = n := by simp [digB]
theorem digB_isB (n : Nat) (v : Int) : isB (digB n v) := fun x hx => by
  simp [digB] at hx
  obtain ⟨t, _, rfl⟩ := hx
  omega
theorem digB_take (n : Nat) (v : Int) (j : Nat) (hj : j < n) : (digB n v).take (j + 1) = (digB n v).take j ++ [v / 256 ^ (n - 1 - j) % 256] := by
  have hj' : j < (digB n v).length := by rw [digB_len]; exact hj
  rw [List.take_succ_eq_append_getElem hj']
  simp [digB]

theorem shr_zero (k : Nat) (v : Int) : (v / 2 ^ (8 * k) == 0) = decide (0 ≤ v ∧ v < 256 ^ k) := by
  rw [pow_two, Bool.eq_iff_iff]
  simp
  have hp := pow_pos k
  constructor
  · intro h
    have h1 := Int.emod_nonneg v (Int.ne_of_gt hp)
    have h2 := Int.emod_lt_of_pos v hp
    have h3 := Int.mul_ediv_add_emod v (256 ^ k)
    rw [h] at h3
    simp at h3
    omega
  · rintro ⟨h1, h2⟩
    exact Int.ediv_eq_zero_of_lt h1 h2

set_option maxHeartbeats 400000 in
theorem fits_yes (k : Nat) (v : Int) (w : World) (h1 : 1 ≤ k) (h7 : k ≤ 7) (hv : 0 ≤ v) (hv2 : v < 256 ^ k) (hv3 : v ≤ 9223372036854775807) :
    Calls Tryd.prog 88 #[.int .i64 k, .int .i64 v] w fun e w' => e = .returned (.bool true) ∧ w = w' := by
  have H := Hid.mk' ((shr_zero k v).trans (decide_eq_true ⟨hv, hv2⟩))
  clear hv2
  go_enter Tryd.func88, Tryd.ntmps88
  go_wp2
  go_ret
  exact ⟨by rw [H.out]; rfl, rfl⟩

set_option maxHeartbeats 400000 in
theorem fits_no (n : Int) (v : Int) (w : World) (hv3 : v ≤ 9223372036854775807) (hv4 : -9223372036854775808 ≤ v) (h : n < 1 ∨ 7 < n ∨ v < 0 ∨ 256 ^ n.toNat ≤ v) :
    Calls Tryd.prog 88 #[.int .i64 n, .int .i64 v] w fun e w' => e = .returned (.bool false) ∧ w = w' := by
  by_cases h1 : n < 1
  · have h1' : ¬ 1 ≤ n := by omega
    clear h
    go_enter Tryd.func88, Tryd.ntmps88
    go_wp2
    go_ret
    exact ⟨rfl, rfl⟩
  · by_cases h7 : 7 < n
    · have h1' : ¬ n ≤ 7 := by omega
      clear h
      go_enter Tryd.func88, Tryd.ntmps88
      go_wp2
      go_ret
      exact ⟨rfl, rfl⟩
    · obtain ⟨k, rfl⟩ := Int.eq_ofNat_of_zero_le (show 0 ≤ n by omega)
      have hv : ¬ (0 ≤ v ∧ v < 256 ^ k) := by
        rintro ⟨a, b⟩
        simp at h
        omega
      have H := Hid.mk' ((shr_zero k v).trans (decide_eq_false hv))
      clear hv h
      have g1 : (1 : Int) ≤ (k : Int) := by omega
      have g7 : (k : Int) ≤ 7 := by omega
      go_enter Tryd.func88, Tryd.ntmps88
      go_wp2
      go_ret
      exact ⟨by rw [H.out]; rfl, rfl⟩

theorem one_BIn {w : World} {g : Nat} {x : Int} {e : TypeId} (h : w.heap[g]? = some (.cells #[.int .u8 x] e (0, 0))) : BIn w (some ⟨g, 0, none⟩) [x] :=
  BIn.of_block (rest := []) (e := e) (f := (0, 0)) (by simpa using h)

/-- 'Raw' of one byte that was laid for it. -/
theorem raw_one (b : Nat) (g : Option Nat) (l : List Int) (x : Int) (w : World) (h : Wr w b g l false) (hx : 0 ≤ x ∧ x < 256) (hlen : l.length + 1 ≤ 140737488355328) :
    Calls Tryd.prog 77 #[.pointer (some ⟨b, 0, none⟩), .slice (some ⟨w.heap.size, 0, none⟩) 1 1] (w.alloc (.cells #[.int .u8 x] 5)) fun e w' => e = .returned (.pointer (some ⟨b, 0, none⟩)) ∧ ∃ g', Wr w' b g' (l ++ [x]) false ∧ Next w g g' ∧ Fr (fun k => k = b ∨ g = some k) w w' := by
  have f : Fr (fun k => k = b ∨ g = some k) w (w.alloc (.cells #[.int .u8 x] 5)) := (Fr.refl _ _).alloc _
  refine (raw_ok b g l [x] (some ⟨w.heap.size, 0, none⟩) 1 _ (h.below ((Below.refl _ _).alloc (Nat.le_refl _) _)) (one_BIn (heap_alloc_new _ _)) (by intro y hy; simp at hy; subst hy; exact hx) (by simp) hlen).mono ?_
  rintro e w' ⟨rfl, g', h1, h2, h3⟩
  exact ⟨rfl, g', h1, (Next.refl _ _).trans h2 f, f.trans h3 fun _ q => .inl q⟩

set_option maxHeartbeats 400000 in
theorem numW_ok (b : Nat) (g : Option Nat) (l : List Int) (n : Nat) (v : Int) (w : World) (h : Wr w b g l false) (h1 : 1 ≤ n) (h7 : n ≤ 7) (hv : 0 ≤ v) (hv2 : v < 256 ^ n) (hv3 : v ≤ 9223372036854775807) (hlen : l.length + 7 ≤ 140737488355328) :
    Calls Tryd.prog 76 #[.pointer (some ⟨b, 0, none⟩), .int .i64 n, .int .i64 v] w fun e w' => e = .returned (.pointer (some ⟨b, 0, none⟩)) ∧ ∃ g', Wr w' b g' (l ++ digB n v) false ∧ Next w g g' ∧ Fr (fun k => k = b ∨ g = some k) w w' := by
  have F := fits_yes n v w h1 h7 hv hv2 hv3
  clear hv2
  go_enter Tryd.func76, Tryd.ntmps76
  go_wp2_with (go_at_call 88; refine F.mono ?_; rintro e w' ⟨rfl, rfl⟩)
  go_loopw [7] (fun i wr => ∃ j : Nat, j ≤ n ∧ i = .int .i64 ((n : Int) - 1 - j) ∧ ∃ g', Wr wr b g' (l ++ (digB n v).take j) false ∧ Next w g g' ∧ Fr (fun k => k = b ∨ g = some k) w wr) (fun i _ => (intOf i + 1).toNat)
  case atStart => exact ⟨0, Nat.zero_le _, by simp, g, by simpa using h, Next.refl _ _, Fr.refl _ _⟩
  case round =>
    obtain ⟨j, hj, rfl, g', hW, hN, hF⟩ := hrel
    by_cases hlt : j < n
    · have R := raw_one b g' (l ++ (digB n v).take j) (v / 256 ^ (n - 1 - j) % 256) wr hW (by omega) (by simp [digB_len]; omega)
      rw [List.append_assoc, ← digB_take n v j hlt] at R
      rw [← pow_two] at R
      go_wp2_with (go_at_call 77; refine R.mono ?_; rintro e w2 ⟨rfl, g2, hW2, hN2, hF2⟩)
      go_roundw
      case rel =>
        refine ⟨j + 1, by omega, by go_num, g2, hW2, hN.trans hN2 hF, hF.trans hF2 fun i q => ?_⟩
        rcases q with q | q
        · exact .inl (.inl q)
        · rcases hN with r | r | ⟨k, r, hk⟩
          · exact .inl (.inr (r ▸ q))
          · rw [r] at q; cases q
          · rw [r] at q; cases q; exact .inr hk
      case measure => simp [intOf]; omega
    · obtain rfl : j = n := by omega
      rw [List.take_of_length_le (by rw [digB_len]; exact Nat.le_refl _)] at hW
      go_wp2
      go_ret
      exact ⟨rfl, g', hW, hN, hF⟩

set_option maxHeartbeats 400000 in
theorem numW_no (b : Nat) (g : Option Nat) (l : List Int) (bad : Bool) (n v : Int) (w : World) (h : Wr w b g l bad) (hv3 : v ≤ 9223372036854775807) (hv4 : -9223372036854775808 ≤ v) (hn : n < 1 ∨ 7 < n ∨ v < 0 ∨ 256 ^ n.toNat ≤ v) :
    Calls Tryd.prog 76 #[.pointer (some ⟨b, 0, none⟩), .int .i64 n, .int .i64 v] w fun e w' => e = .returned (.pointer (some ⟨b, 0, none⟩)) ∧ Wr w' b none [] true ∧ Fr (fun k => k = b ∨ g = some k) w w' := by
  have F := fits_no n v w hv3 hv4 hn
  obtain ⟨x, h1, _⟩ := h
  have S := spoilW_any b _ _ w h1
  clear hn h1
  go_enter Tryd.func76, Tryd.ntmps76
  go_wp2_with (first | (go_at_call 88; refine F.mono ?_; rintro e w' ⟨rfl, rfl⟩) | (go_at_call 89; refine S.mono ?_; rintro e w1 ⟨rfl, hW, hF⟩))
  go_ret
  exact ⟨rfl, hW, hF.mono fun i _ q => .inl q⟩

set_option maxHeartbeats 400000 in
theorem numW_bad (b : Nat) (g : Option Nat) (l : List Int) (n : Nat) (v : Int) (w : World) (h : Wr w b g l true) (h1 : 1 ≤ n) (h7 : n ≤ 7) (hv : 0 ≤ v) (hv2 : v < 256 ^ n) (hv3 : v ≤ 9223372036854775807) :
    Calls Tryd.prog 76 #[.pointer (some ⟨b, 0, none⟩), .int .i64 n, .int .i64 v] w fun e w' => e = .returned (.pointer (some ⟨b, 0, none⟩)) ∧ Wr w' b g l true ∧ Fr (fun k => k = b ∨ g = some k) w w' := by
  have F := fits_yes n v w h1 h7 hv hv2 hv3
  clear hv2
  go_enter Tryd.func76, Tryd.ntmps76
  go_wp2_with (go_at_call 88; refine F.mono ?_; rintro e w' ⟨rfl, rfl⟩)
  go_loopw [7] (fun i wr => ∃ j : Nat, j ≤ n ∧ i = .int .i64 ((n : Int) - 1 - j) ∧ Wr wr b g l true ∧ Fr (fun k => k = b ∨ g = some k) w wr) (fun i _ => (intOf i + 1).toNat)
  case atStart => exact ⟨0, Nat.zero_le _, by simp, h, Fr.refl _ _⟩
  case round =>
    obtain ⟨j, hj, rfl, hW, hF⟩ := hrel
    by_cases hlt : j < n
    · have R := fun o s => raw_bad b g l s (wr.alloc o) (hW.below ((Below.refl _ _).alloc (Nat.le_refl _) _))
      go_wp2_with (go_at_call 77; refine (R _ _).mono ?_; rintro e w2 ⟨rfl, rfl⟩)
      go_roundw
      case rel => exact ⟨j + 1, by omega, by go_num, hW.below ((Below.refl _ _).alloc (Nat.le_refl _) _), hF.alloc _⟩
      case measure => simp [intOf]; omega
    · go_wp2
      go_ret
      exact ⟨rfl, hW, hF⟩

set_option maxHeartbeats 400000 in
theorem bytes_ok (b : Nat) (g : Option Nat) (l : List Int) (w : World) (h : Wr w b g l false) (hlen : l.length ≤ 140737488355328) :
    Calls Tryd.prog 59 #[.pointer (some ⟨b, 0, none⟩)] w fun e w' => e = .returned (.tuple #[.slice (some ⟨w.heap.size, 0, none⟩) l.length l.length, .bool true]) ∧ BIn w' (some ⟨w.heap.size, 0, none⟩) l ∧ Below w.heap.size w w' := by
  obtain ⟨v, h1, h2, h3, h4, h5, h6⟩ := h
  have B := isBad_any b _ _ w h1
  obtain ⟨c0, c1, f0, f1⟩ := two_cells h1
  obtain ⟨pv, cv, rfl, hb, _⟩ := owns_BIn h2
  have O := own_any pv cv l w hb hlen
  clear h1 h2 h3 h6 hb
  go_enter Tryd.func59, Tryd.ntmps59
  go_wp2_with (first | (go_at_call 79; refine B.mono ?_; rintro e w' ⟨rfl, rfl⟩) | (go_at_call 80; refine O.mono ?_; rintro e w1 ⟨rfl, hblk, hbel⟩))
  go_ret2
  exact ⟨rfl, BIn.of_block (rest := []) (by simpa [cellsB] using hblk), hbel⟩

set_option maxHeartbeats 400000 in
theorem bytes_bad (b : Nat) (g : Option Nat) (l : List Int) (w : World) (h : Wr w b g l true) :
    Calls Tryd.prog 59 #[.pointer (some ⟨b, 0, none⟩)] w fun e w' => e = .returned (.tuple #[.slice none 0 0, .bool false]) ∧ w = w' := by
  obtain ⟨v, h1, h2, h3, h4, h5, h6⟩ := h
  have B := isBad_any b _ _ w h1
  clear h1 h2 h3 h6
  go_enter Tryd.func59, Tryd.ntmps59
  go_wp2_with (go_at_call 79; refine B.mono ?_; rintro e w' ⟨rfl, rfl⟩)
  go_ret2
  exact ⟨rfl, rfl⟩

/-- A writer all of whose memory lies from block B on: the coarse view, where nothing else that lies there is wanted. -/
def WrB (w : World) (B b : Nat) (l : List Int) (bad : Bool) : Prop := ∃ g, Wr w b g l bad ∧ B ≤ b ∧ ∀ k, g = some k → B ≤ k

theorem WrB.next {w w' : World} {B b : Nat} {g g' : Option Nat} {l' : List Int} {bad' : Bool} (hB : B ≤ b) (hg : ∀ k, g = some k → B ≤ k) (hbs : b < w.heap.size) (h : Wr w' b g' l' bad') (hn : Next w g g') (hf : Fr (fun k => k = b ∨ g = some k) w w') : WrB w' B b l' bad' ∧ Below B w w' := by
  refine ⟨⟨g', h, hB, fun k hk => ?_⟩, hf.below (fun i q => ?_) (by omega)⟩
  · rcases hn with rfl | rfl | ⟨i, rfl, hi⟩
    · exact hg k hk
    · cases hk
    · cases hk; omega
  · rcases q with rfl | q
    · exact hB
    · exact hg i q

theorem WrB.below {w w' : World} {B b : Nat} {l : List Int} {bad : Bool} (h : WrB w B b l bad) (k : Below w.heap.size w w') : WrB w' B b l bad := by
  obtain ⟨g, h, h1, h2⟩ := h
  exact ⟨g, h.below k, h1, h2⟩

theorem writeB (w : World) : Calls Tryd.prog 56 #[] w fun e w' => e = .returned (.pointer (some ⟨w.heap.size, 0, none⟩)) ∧ WrB w' w.heap.size w.heap.size [] false ∧ Below w.heap.size w w' :=
  (write_any w).mono fun e w' ⟨h1, h2, h3⟩ => ⟨h1, ⟨none, h2, Nat.le_refl _, by simp⟩, h3⟩

theorem rawB (B b : Nat) (l m : List Int) (p : Option Addr) (c : Nat) (w : World) (h : WrB w B b l false) (hB : BIn w p m) (hm : isB m) (hp : p = none → c = 0) (hlen : l.length + m.length ≤ 140737488355328) :
    Calls Tryd.prog 77 #[.pointer (some ⟨b, 0, none⟩), .slice p m.length c] w fun e w' => e = .returned (.pointer (some ⟨b, 0, none⟩)) ∧ WrB w' B b (l ++ m) false ∧ Below B w w' := by
  obtain ⟨g, h, h1, h2⟩ := h
  have hlt := h.lt.1
  refine (raw_ok b g l m p c w h hB hm hp hlen).mono ?_
  rintro e w' ⟨rfl, g', h3, h4, h5⟩
  exact ⟨rfl, WrB.next h1 h2 hlt h3 h4 h5⟩

theorem rawOneB (B b : Nat) (l : List Int) (x : Int) (w : World) (h : WrB w B b l false) (hx : 0 ≤ x ∧ x < 256) (hlen : l.length + 1 ≤ 140737488355328) :
    Calls Tryd.prog 77 #[.pointer (some ⟨b, 0, none⟩), .slice (some ⟨w.heap.size, 0, none⟩) 1 1] (w.alloc (.cells #[.int .u8 x] 5)) fun e w' => e = .returned (.pointer (some ⟨b, 0, none⟩)) ∧ WrB w' B b (l ++ [x]) false ∧ Below B w w' := by
  obtain ⟨g, h, h1, h2⟩ := h
  have hlt := h.lt.1
  refine (raw_one b g l x w h hx hlen).mono ?_
  rintro e w' ⟨rfl, g', h3, h4, h5⟩
  exact ⟨rfl, WrB.next h1 h2 hlt h3 h4 h5⟩

theorem numB_ok (B b : Nat) (l : List Int) (n : Nat) (v : Int) (w : World) (h : WrB w B b l false) (h1 : 1 ≤ n) (h7 : n ≤ 7) (hv : 0 ≤ v) (hv2 : v < 256 ^ n) (hv3 : v ≤ 9223372036854775807) (hlen : l.length + 7 ≤ 140737488355328) :
    Calls Tryd.prog 76 #[.pointer (some ⟨b, 0, none⟩), .int .i64 n, .int .i64 v] w fun e w' => e = .returned (.pointer (some ⟨b, 0, none⟩)) ∧ WrB w' B b (l ++ digB n v) false ∧ Below B w w' := by
  obtain ⟨g, h, q1, q2⟩ := h
  have hlt := h.lt.1
  refine (numW_ok b g l n v w h h1 h7 hv hv2 hv3 hlen).mono ?_
  rintro e w' ⟨rfl, g', h3, h4, h5⟩
  exact ⟨rfl, WrB.next q1 q2 hlt h3 h4 h5⟩

theorem bytesB (B b : Nat) (l : List Int) (w : World) (h : WrB w B b l false) (hlen : l.length ≤ 140737488355328) :
    Calls Tryd.prog 59 #[.pointer (some ⟨b, 0, none⟩)] w fun e w' => e = .returned (.tuple #[.slice (some ⟨w.heap.size, 0, none⟩) l.length l.length, .bool true]) ∧ BIn w' (some ⟨w.heap.size, 0, none⟩) l ∧ Below w.heap.size w w' := by
  obtain ⟨g, h, _⟩ := h
  exact bytes_ok b g l w h hlen

end Go.Proofs.YtmejfkhikgcgmaaDoor
namespace Go.Proofs.YtmejfkhikgcgmaaDoor
open Go.RowKit
set_option linter.unusedSimpArgs false
set_option linter.unusedVariables false
set_option maxRecDepth 10000

/-- The bytes that are left of a reader; none: it is spoilt. -/
abbrev St := Option (List Int)
def nV (k : Nat) : St → Int
  | some l => if k ≤ l.length then numB (l.take k) else 0
  | none => 0
def nS (k : Nat) : St → St
  | some l => if k ≤ l.length then some (l.drop k) else none
  | none => none
def stB (s : St) : Prop := ∀ l, s = some l → isB l
theorem stB.nS {s : St} (h : stB s) (k : Nat) : stB (nS k s) := fun l e => by
  cases s with
  | none => simp [Go.Proofs.YtmejfkhikgcgmaaDoor.nS] at e
  | some b =>
    simp only [Go.Proofs.YtmejfkhikgcgmaaDoor.nS] at e
    split at e
    · cases e; exact (h b rfl).drop k
    · cases e
theorem nV_range {s : St} (h : stB s) (k : Nat) : 0 ≤ nV k s ∧ nV k s < 256 ^ k := by
  have hp := pow_pos k
  cases s with
  | none => simp only [nV]; omega
  | some b =>
    simp only [nV]
    split
    · rename_i hk
      have := numB_bound _ ((h b rfl).take k)
      rw [show (b.take k).length = k by simp; omega] at this
      exact this
    · omega
theorem nV1 {s : St} (h : stB s) : 0 ≤ nV 1 s ∧ nV 1 s ≤ 255 := by have := nV_range h 1; omega
theorem nV2 {s : St} (h : stB s) : 0 ≤ nV 2 s ∧ nV 2 s ≤ 65535 := by have := nV_range h 2; omega
theorem nV6 {s : St} (h : stB s) : 0 ≤ nV 6 s ∧ nV 6 s ≤ 281474976710655 := by have := nV_range h 6; omega
theorem nV_some {k : Nat} {l : List Int} (h : k ≤ l.length) : nV k (some l) = numB (l.take k) := by simp [nV, h]
theorem nS_some {k : Nat} {l : List Int} (h : k ≤ l.length) : nS k (some l) = some (l.drop k) := by simp [nS, h]
theorem nS_short {k : Nat} {l : List Int} (h : l.length < k) : nS k (some l) = none := by simp [nS, show ¬ k ≤ l.length by omega]
theorem nS_none (k : Nat) : nS k none = none := rfl

/-- At block b lies a reader with s left; all its memory lies below B. -/
structure RS (B : Nat) (w : World) (b : Nat) (s : St) : Prop where
  lt : b < B
  le : B ≤ w.heap.size
  good : ∀ l, s = some l → RdQ (fun k => k < B) w b l false
  bad : s = none → Rd w b [] true

theorem RS.low {B : Nat} {w w' : World} {b : Nat} {s : St} (h : RS B w b s) (k : Below B w w') : RS B w' b s := by
  refine ⟨h.lt, Nat.le_trans h.le k.size, fun l e => (h.good l e).low h.lt h.le k, fun e => ?_⟩
  obtain ⟨p, c, h1, h2, h3, h4, h5, h6, h7⟩ := h.bad e
  exact ⟨p, c, by rw [k.block b h.lt]; exact h1, h2, h3, h4, BIn.empty _ _, h6, h7⟩
theorem RS.on {B : Nat} {w w' : World} {b : Nat} {s : St} (h : RS B w b s) (k : Below w.heap.size w w') : RS B w' b s := h.low (k.mono h.le)
theorem RS.stB {B : Nat} {w : World} {b : Nat} {s : St} (h : RS B w b s) : stB s := fun l e => by
  obtain ⟨p, c, h1, h2, h3, h4, _⟩ := h.good l e
  exact h4

theorem gnum_any (B b : Nat) (k : Nat) (s : St) (w : World) (h : RS B w b s) (h1 : 1 ≤ k) (h7 : k ≤ 7) :
    Calls Tryd.prog 81 #[.pointer (some ⟨b, 0, none⟩), .int .i64 k] w fun e w' => e = .returned (.int .i64 (nV k s)) ∧ RS B w' b (nS k s) ∧ Fr (fun i => i = b) w w' := by
  cases s with
  | none =>
    refine (num_no b [] true k w (h.bad rfl) (.inl rfl)).mono ?_
    rintro e w' ⟨rfl, h1, h2⟩
    exact ⟨rfl, ⟨h.lt, Nat.le_trans h.le h2.size, fun l e => (by cases e), fun _ => h1⟩, h2⟩
  | some l =>
    by_cases q : k ≤ l.length
    · refine (num_ok b l k w (h.good l rfl) q h1 h7).mono ?_
      rintro e w' ⟨rfl, h1, h2, _⟩
      rw [nV_some q, nS_some q]
      exact ⟨rfl, ⟨h.lt, Nat.le_trans h.le h2.size, fun l e => (by cases e; exact h1), fun e => (by cases e)⟩, h2⟩
    · refine (num_no b l false k w (h.good l rfl) (.inr (.inr (.inr (by omega))))).mono ?_
      rintro e w' ⟨rfl, h1, h2⟩
      rw [nS_short (by omega), show nV k (some l) = 0 by simp [nV, q]]
      exact ⟨rfl, ⟨h.lt, Nat.le_trans h.le h2.size, fun l e => (by cases e), fun _ => h1⟩, h2⟩

/-- The reader, and what stands beside it, behind a number. -/
theorem fr_on {b : Nat} {w X X' : World} (h : Fr (fun i => i = b) w X) (k : Fr (fun i => i = b) X X') : Fr (fun i => i = b) w X' := h.trans k fun _ q => .inl q
theorem fr_bel {b : Nat} {w X X' : World} (h : Fr (fun i => i = b) w X) (k : Below X.heap.size X X') : Fr (fun i => i = b) w X' := h.trans (Fr.of_below k fun _ => False) fun _ q => q.elim
theorem fr_bel0 {b : Nat} {w X X' : World} (h : Fr (fun i => i = b) w X) (k : Below w.heap.size X X') : Fr (fun i => i = b) w X' :=
  h.trans (S' := fun i => w.heap.size ≤ i) ⟨k.os, k.tape, k.output, k.size, fun i _ hn => k.block i (by omega)⟩ fun _ q => .inr q
theorem box_on {b g : Nat} {X X' : World} {o : Obj} (h : X.heap[g]? = some o) (k : Fr (fun i => i = b) X X') (hn : g ≠ b) : X'.heap[g]? = some o := by
  rw [k.block g (Array.getElem?_eq_some_iff.1 h).1 hn]; exact h
theorem box_bel {g : Nat} {X X' : World} {o : Obj} (h : X.heap[g]? = some o) (k : Below X.heap.size X X') : X'.heap[g]? = some o := by
  rw [k.block g (Array.getElem?_eq_some_iff.1 h).1]; exact h
theorem box_lt {g : Nat} {X : World} {o : Obj} (h : X.heap[g]? = some o) : g < X.heap.size := (Array.getElem?_eq_some_iff.1 h).1

theorem gdone_any (B b : Nat) (t : St) (w : World) (h : RS B w b t) :
    Calls Tryd.prog 83 #[.pointer (some ⟨b, 0, none⟩)] w fun e w' => e = .returned (.bool (decide (t = some []))) ∧ w = w' := by
  cases t with
  | none =>
    refine (done_any b [] true w (h.bad rfl)).mono ?_
    rintro e w' ⟨rfl, rfl⟩
    exact ⟨rfl, rfl⟩
  | some l =>
    refine (done_any b l false w (h.good l rfl)).mono ?_
    rintro e w' ⟨rfl, rfl⟩
    refine ⟨?_, rfl⟩
    cases l with
    | nil => rfl
    | cons x t => simp; omega

theorem small_wf {z : Int} (h : 0 ≤ z) (h2 : z ≤ 281474976710655) : (Lit.int .i64 z).wf = true := by
  simp [Lit.wf, IntKind.min, IntKind.max, IntKind.signed, IntKind.bits]; omega

theorem lt1 {v : Int} (h : v ≤ 255) : v < 256 ^ 1 := by simp; omega
theorem lt2 {v : Int} (h : v ≤ 65535) : v < 256 ^ 2 := by simp; omega
theorem lt6 {v : Int} (h : v ≤ 281474976710655) : v < 256 ^ 6 := by simp; omega

/-- A writer beside a block r that it does not own. -/
def WrN (w : World) (B b r : Nat) (l : List Int) : Prop := ∃ g, Wr w b g l false ∧ B ≤ b ∧ (∀ k, g = some k → B ≤ k) ∧ g ≠ some r ∧ r ≠ b ∧ r < w.heap.size
theorem WrN.of {w : World} {B b : Nat} {l : List Int} (h : WrB w B b l false) (o : Obj) : WrN (w.alloc o) B b w.heap.size l := by
  obtain ⟨g, h1, h2, h3⟩ := h
  have hl := h1.lt
  refine ⟨g, h1.below ((Below.refl _ _).alloc (Nat.le_refl _) _), h2, h3, fun q => ?_, by omega, by simp⟩
  have := hl.2 _ q
  omega
theorem WrN.b {w : World} {B b r : Nat} {l : List Int} (h : WrN w B b r l) : WrB w B b l false := by
  obtain ⟨g, h1, h2, h3, _⟩ := h
  exact ⟨g, h1, h2, h3⟩
theorem WrN.below {w w' : World} {B b r : Nat} {l : List Int} (h : WrN w B b r l) (k : Below w.heap.size w w') : WrN w' B b r l := by
  obtain ⟨g, h1, h2, h3, h4, h5, h6⟩ := h
  exact ⟨g, h1.below k, h2, h3, h4, h5, Nat.lt_of_lt_of_le h6 k.size⟩
theorem numN (B b r : Nat) (l : List Int) (n : Nat) (v : Int) (w : World) (h : WrN w B b r l) (h1 : 1 ≤ n) (h7 : n ≤ 7) (hv : 0 ≤ v) (hv2 : v < 256 ^ n) (hv3 : v ≤ 9223372036854775807) (hlen : l.length + 7 ≤ 140737488355328) :
    Calls Tryd.prog 76 #[.pointer (some ⟨b, 0, none⟩), .int .i64 n, .int .i64 v] w fun e w' => e = .returned (.pointer (some ⟨b, 0, none⟩)) ∧ WrN w' B b r (l ++ digB n v) ∧ Below B w w' ∧ w'.heap[r]? = w.heap[r]? := by
  obtain ⟨g, h, q1, q2, q3, q4, q5⟩ := h
  have hlt := h.lt
  refine (numW_ok b g l n v w h h1 h7 hv hv2 hv3 hlen).mono ?_
  rintro e w' ⟨rfl, g', h3, h4, h5⟩
  obtain ⟨⟨g2, k1, k2, k3⟩, kb⟩ := WrB.next q1 q2 hlt.1 h3 h4 h5
  refine ⟨rfl, ⟨g', h3, q1, fun k hk => ?_, ?_, q4, Nat.lt_of_lt_of_le q5 kb.size⟩, kb, h5.block r q5 (fun q => ?_)⟩
  · rcases h4 with e | e | ⟨i, e, hi⟩
    · exact q2 k (e ▸ hk)
    · rw [e] at hk; cases hk
    · rw [e] at hk; cases hk; omega
  · rcases h4 with e | e | ⟨i, e, hi⟩
    · rw [e]; exact q3
    · rw [e]; simp
    · rw [e]; intro q; cases q; omega
  · rcases q with q | q
    · exact q4 q
    · exact q3 q

theorem writeX (w : World) (B : Nat) (hB : B = w.heap.size) : Calls Tryd.prog 56 #[] w fun e w' => ∃ b, e = .returned (.pointer (some ⟨b, 0, none⟩)) ∧ Hid (WrB w' B b [] false) ∧ Below B w w' := by
  subst hB
  refine (writeB w).mono ?_
  rintro e w' ⟨rfl, h1, h2⟩
  exact ⟨_, rfl, h1, h2⟩
theorem bytesX (B b : Nat) (l : List Int) (w : World) (h : WrB w B b l false) (hlen : l.length ≤ 100000) :
    Calls Tryd.prog 59 #[.pointer (some ⟨b, 0, none⟩)] w fun e w' => ∃ g, e = .returned (.tuple #[.slice (some ⟨g, 0, none⟩) l.length l.length, .bool true]) ∧ BIn w' (some ⟨g, 0, none⟩) l ∧ Below w.heap.size w w' := by
  refine (bytesB B b l w h (by omega)).mono ?_
  rintro e w' ⟨rfl, h1, h2⟩
  exact ⟨_, rfl, h1, h2⟩


/-- The bytes that come next. -/
def tV (k : Nat) : St → List Int
  | some l => if k ≤ l.length then l.take k else []
  | none => []
theorem tV_isB {s : St} (h : stB s) (k : Nat) : isB (tV k s) := by
  cases s with
  | none => exact isB.nil
  | some l =>
    simp only [tV]
    split
    · exact (h l rfl).take k
    · exact isB.nil
theorem tV_len (s : St) (k : Nat) : (tV k s).length ≤ k := by
  cases s with
  | none => simp [tV]
  | some l =>
    simp only [tV]
    split
    · simp; omega
    · simp

theorem gtake_any (B b : Nat) (k : Nat) (s : St) (w : World) (h : RS B w b s) (hl : ∀ l, s = some l → l.length ≤ 140737488355328) :
    Calls Tryd.prog 82 #[.pointer (some ⟨b, 0, none⟩), .int .i64 k] w fun e w' => ∃ g, e = .returned (.slice (some ⟨g, 0, none⟩) (tV k s).length (tV k s).length) ∧ BIn w' (some ⟨g, 0, none⟩) (tV k s) ∧ (0 < (tV k s).length → w.heap.size ≤ g) ∧ RS B w' b (nS k s) ∧ Fr (fun i => i = b) w w' := by
  cases s with
  | none =>
    refine (take_no b [] true k w (h.bad rfl) (.inl rfl)).mono ?_
    rintro e w' ⟨⟨g, rfl⟩, h1, h2⟩
    exact ⟨g, rfl, BIn.empty _ _, fun q => absurd q (by simp [tV]), ⟨h.lt, Nat.le_trans h.le h2.size, fun l e => (by cases e), fun _ => h1⟩, h2⟩
  | some l =>
    by_cases q : k ≤ l.length
    · refine (take_ok b l k w (h.good l rfl) q (hl l rfl)).mono ?_
      rintro e w' ⟨rfl, h1, h2, h3⟩
      have e1 : tV k (some l) = l.take k := by simp [tV, q]
      have e2 : (l.take k).length = k := by simp; omega
      rw [nS_some q, e1, e2]
      exact ⟨_, rfl, h1, fun _ => Nat.le_refl _, ⟨h.lt, Nat.le_trans h.le h3.size, fun l e => (by cases e; exact h2), fun e => (by cases e)⟩, h3⟩
    · refine (take_no b l false k w (h.good l rfl) (.inr (.inr (by omega)))).mono ?_
      rintro e w' ⟨⟨g, rfl⟩, h1, h2⟩
      have e1 : tV k (some l) = [] := by simp [tV, q]
      rw [nS_short (by omega), e1]
      exact ⟨g, rfl, BIn.empty _ _, fun q => absurd q (by simp), ⟨h.lt, Nat.le_trans h.le h2.size, fun l e => (by cases e), fun _ => h1⟩, h2⟩

/-- How many bytes are left. -/
def lV : St → Nat
  | some l => l.length
  | none => 0
theorem gleft_any (B b : Nat) (s : St) (w : World) (h : RS B w b s) :
    Calls Tryd.prog 64 #[.pointer (some ⟨b, 0, none⟩)] w fun e w' => e = .returned (.int .i64 (lV s)) ∧ w = w' := by
  cases s with
  | none => exact left_any b [] true w (h.bad rfl)
  | some l => exact left_any b l false w (h.good l rfl)

theorem gbad_any (B b : Nat) (s : St) (w : World) (h : RS B w b s) :
    Calls Tryd.prog 66 #[.pointer (some ⟨b, 0, none⟩)] w fun e w' => e = .returned (.bool s.isNone) ∧ w = w' := by
  cases s with
  | none => exact badR_any b [] true w (h.bad rfl)
  | some l => exact badR_any b l false w (h.good l rfl)

theorem gread_any (p : Option Addr) (c : Nat) (l : List Int) (w : World) (hB : BIn w p l) (hl : isB l) (hn : l.length ≤ 140737488355328) :
    Calls Tryd.prog 63 #[.slice p l.length c] w fun e w' => ∃ b, e = .returned (.pointer (some ⟨b, 0, none⟩)) ∧ w.heap.size ≤ b ∧ RS w'.heap.size w' b (some l) ∧ Below w.heap.size w w' := by
  refine (read_at p c l w hB hl hn).mono ?_
  rintro e w' ⟨b, rfl, h1, h2, h3, h4⟩
  exact ⟨b, rfl, h1, ⟨h2, Nat.le_refl _, fun l' e => (by cases e; exact h3.mono fun i q => q.2), fun e => (by cases e)⟩, h4⟩

theorem rawN (B b r : Nat) (l m : List Int) (p : Option Addr) (c : Nat) (w : World) (h : WrN w B b r l) (hB : BIn w p m) (hm : isB m) (hp : p = none → c = 0) (hlen : l.length + m.length ≤ 140737488355328) :
    Calls Tryd.prog 77 #[.pointer (some ⟨b, 0, none⟩), .slice p m.length c] w fun e w' => e = .returned (.pointer (some ⟨b, 0, none⟩)) ∧ WrN w' B b r (l ++ m) ∧ Below B w w' ∧ w'.heap[r]? = w.heap[r]? := by
  obtain ⟨g, h, q1, q2, q3, q4, q5⟩ := h
  have hlt := h.lt
  refine (raw_ok b g l m p c w h hB hm hp hlen).mono ?_
  rintro e w' ⟨rfl, g', h3, h4, h5⟩
  obtain ⟨⟨g2, k1, k2, k3⟩, kb⟩ := WrB.next q1 q2 hlt.1 h3 h4 h5
  refine ⟨rfl, ⟨g', h3, q1, fun k hk => ?_, ?_, q4, Nat.lt_of_lt_of_le q5 kb.size⟩, kb, h5.block r q5 (fun q => ?_)⟩
  · rcases h4 with e | e | ⟨i, e, hi⟩
    · exact q2 k (e ▸ hk)
    · rw [e] at hk; cases hk
    · rw [e] at hk; cases hk; omega
  · rcases h4 with e | e | ⟨i, e, hi⟩
    · rw [e]; exact q3
    · rw [e]; simp
    · rw [e]; intro q; cases q; omega
  · rcases q with q | q
    · exact q4 q
    · exact q3 q

theorem num_digs (n : Nat) (v : Int) (hv : 0 ≤ v) (hv2 : v < 256 ^ n) : numB (digB n v) = v := by
  have key : ∀ j, j ≤ n → numB ((digB n v).take j) = v / 256 ^ (n - j) := by
    intro j
    induction j with
    | zero => intro _; simp [numB]; exact (Int.ediv_eq_zero_of_lt hv hv2).symm
    | succ j ih =>
      intro hj
      rw [digB_take n v j (by omega), numB_snoc, ih (by omega)]
      have e1 : n - 1 - j = n - (j + 1) := by omega
      have e2 : (256 : Int) ^ (n - j) = 256 ^ (n - (j + 1)) * 256 := by
        rw [← Int.pow_succ]; congr 1; omega
      rw [e1, e2, ← Int.ediv_ediv_of_nonneg (Int.le_of_lt (pow_pos _))]
      omega
  have := key n (Nat.le_refl _)
  rw [List.take_of_length_le (by rw [digB_len]; exact Nat.le_refl _)] at this
  simpa using this
end Go.Proofs.YtmejfkhikgcgmaaDoor
namespace Go.Proofs.YtmejfkhikgcgmaaDoor
open Go.RowKit
set_option linter.unusedSimpArgs false
set_option linter.unusedVariables false
set_option maxRecDepth 10000
set_option synthInstance.maxSize 2000

/-! Digits. -/
theorem digB_succ (n : Nat) (v : Int) : digB (n + 1) v = digB n (v / 256) ++ [v % 256] := by
  simp only [digB, List.range_succ, List.map_append, List.map_cons, List.map_nil]
  congr 1
  · apply List.map_congr_left
    intro t ht
    have ht' : t < n := List.mem_range.1 ht
    rw [show n + 1 - 1 - t = (n - 1 - t) + 1 by omega, Int.pow_succ, Int.mul_comm, ← Int.ediv_ediv_of_nonneg (by omega)]
  · simp

theorem digs_num (l : List Int) (h : isB l) : digB l.length (numB l) = l := by
  have key : ∀ (n : Nat) (l : List Int), l.length = n → isB l → digB n (numB l) = l := by
    intro n
    induction n with
    | zero => intro l hl _; have : l = [] := List.eq_nil_of_length_eq_zero hl; subst this; rfl
    | succ n ih =>
      intro l hl hb
      have hne : l ≠ [] := by intro h; subst h; simp at hl
      obtain ⟨l', x, rfl⟩ : ∃ l' x, l = l' ++ [x] := ⟨l.dropLast, l.getLast hne, (List.dropLast_concat_getLast hne).symm⟩
      have hx : 0 ≤ x ∧ x < 256 := hb x (by simp)
      have hl' : l'.length = n := by simpa using hl
      rw [numB_snoc, digB_succ, show (numB l' * 256 + x) / 256 = numB l' by omega, show (numB l' * 256 + x) % 256 = x by omega, ih l' hl' (fun y hy => hb y (by simp [hy]))]
  exact key _ l rfl h

theorem dig1 (v : Int) (h : 0 ≤ v) (h2 : v < 256) : digB 1 v = [v] := by
  rw [digB_succ]; simp [digB]; omega
theorem num2 (a b : Int) : numB [a, b] = a * 256 + b := by simp [numB]
theorem digs2 (a b : Int) (ha : 0 ≤ a ∧ a < 256) (hb : 0 ≤ b ∧ b < 256) : digB 2 (numB [a, b]) = [a, b] := digs_num [a, b] (by intro x hx; simp at hx; rcases hx with rfl | rfl <;> assumption)

/-! What a message says. -/
structure MV where
  kind : Int
  frm : Int
  inc : Int
  lo : Int
  hi : Int
  seq : Int
  tgt : Int
  life : Int
  epoch : Int
  base : Int
  recs : List RK
def mv (m : Mg) : MV := ⟨m.kind, m.frm, m.inc, m.lo, m.hi, m.seq, m.tgt, m.life, m.epoch, m.base, rks m.recs⟩
theorem sameM_mv (a b : Mg) : sameM a b = true ↔ mv a = mv b := by
  simp only [sameM, sender, numbers, Bool.and_eq_true, decide_eq_true_eq, mv, MV.mk.injEq]
  constructor
  · rintro ⟨⟨⟨⟨⟨h1, h2⟩, h3⟩, h4, h5⟩, ⟨⟨⟨h6, h7⟩, h8⟩, h9⟩, h10⟩, h11⟩; exact ⟨h1, h2, h3, h4, h5, h6, h7, h8, h9, h10, h11⟩
  · rintro ⟨h1, h2, h3, h4, h5, h6, h7, h8, h9, h10, h11⟩; exact ⟨⟨⟨⟨⟨h1, h2⟩, h3⟩, h4, h5⟩, ⟨⟨⟨h6, h7⟩, h8⟩, h9⟩, h10⟩, h11⟩

/-- May what it says be? -/
def MV.nums (x : MV) : Prop :=
  (1 ≤ x.kind ∧ x.kind ≤ 9) ∧ (0 ≤ x.frm ∧ x.frm ≤ 4095) ∧ (0 ≤ x.inc ∧ x.inc ≤ 281474976710655) ∧
  (0 ≤ x.seq ∧ x.seq ≤ 65535 ∧ (0 < x.seq → hasB x.kind 0 = true)) ∧
  (0 ≤ x.tgt ∧ x.tgt ≤ 4095 ∧ (0 < x.tgt → hasB x.kind 1 = true) ∧ (x.kind = 3 → 1 ≤ x.tgt ∧ x.tgt ≤ 3)) ∧
  (0 ≤ x.life ∧ x.life ≤ 281474976710655 ∧ 0 ≤ x.epoch ∧ x.epoch ≤ 65535 ∧ 0 ≤ x.base) ∧
  ((hasB x.kind 2 = false → ¬ (0 < x.life ∨ 0 < x.epoch)) ∧ ¬ (x.epoch = 0 ∧ 0 < x.life) ∧ ¬ (x.kind = 9 ∧ x.epoch = 0)) ∧
  ¬ (0 < x.base ∧ (x.kind ≠ 7 ∨ x.epoch ≤ x.base))
def MV.list (x : MV) : Bool := if hasB x.kind 4 = true then decide (x.recs.length ≤ 255) && sortR (-1) x.recs else decide (x.recs.length = 0)
def MV.may (x : MV) : Prop := x.nums ∧ okS x.lo x.hi = true ∧ x.list = true
theorem may_mv (m : Mg) : mayM m = true ↔ (mv m).may := by
  rw [mayM_nums]
  have e : (mv m).list = recsOk m := by simp [MV.list, recsOk, mv, rks_len]
  rw [MV.may, e]
  exact Iff.rfl

theorem sort_may : ∀ {l : List RK} {a : Int}, sortR a l = true → ∀ r ∈ l, mayR r = true
  | [], _, _, r, hr => by simp at hr
  | x :: l, a, h, r, hr => by
    simp only [sortR, Bool.and_eq_true] at h
    rcases List.mem_cons.1 hr with rfl | hr
    · exact h.1.1
    · exact sort_may h.2 r hr

theorem list_may {x : MV} (h : x.list = true) : x.recs.length ≤ 255 ∧ ∀ r ∈ x.recs, mayR r = true := by
  unfold MV.list at h
  split at h
  · simp only [Bool.and_eq_true, decide_eq_true_eq] at h
    exact ⟨h.1, sort_may h.2⟩
  · simp only [decide_eq_true_eq] at h
    have : x.recs = [] := List.eq_nil_of_length_eq_zero h
    rw [this]; simp

theorem two_of {l : List Int} (h : l.length = 2) : ∃ a b, l = [a, b] := by
  match l, h with
  | [a, b], _ => exact ⟨a, b, rfl⟩
theorem six_of {l : List Int} (h : l.length = 6) : ∃ a b c d e f, l = [a, b, c, d, e, f] := by
  match l, h with
  | [a, b, c, d, e, f], _ => exact ⟨a, b, c, d, e, f, rfl⟩
end Go.Proofs.YtmejfkhikgcgmaaDoor
namespace Go.Proofs.YtmejfkhikgcgmaaDoor
open Go.RowKit
set_option linter.unusedSimpArgs false
set_option linter.unusedVariables false
set_option maxRecDepth 10000

/-- An item as bytes. -/
def encK (x : Key) : List Int := x.1 % 256 :: (x.2.length : Int) / 256 % 256 :: (x.2.length : Int) % 256 :: x.2
def joinK (l : List Key) : List Int := l.flatMap encK
theorem encK_len (x : Key) : (encK x).length = 3 + x.2.length := by simp [encK]; omega
theorem joinK_nil : joinK [] = [] := rfl
theorem joinK_cons (x : Key) (l : List Key) : joinK (x :: l) = encK x ++ joinK l := by simp [joinK]
theorem joinK_append (a b : List Key) : joinK (a ++ b) = joinK a ++ joinK b := by simp [joinK]
theorem joinK_one (x : Key) : joinK [x] = encK x := by simp [joinK]

/-- What may not be about an item: 5, its tag; 3, its length. -/
def fltK (x : Key) : Int := if x.1 < 0 ∨ 255 < x.1 then 5 else if 65535 < x.2.length then 3 else 0
def fltL : List Key → Int
  | [] => 0
  | x :: t => if fltK x = 0 then fltL t else fltK x
theorem fltK_ok {x : Key} (h : fltK x = 0) : (0 ≤ x.1 ∧ x.1 ≤ 255) ∧ x.2.length ≤ 65535 := by
  unfold fltK at h
  split at h
  · omega
  · split at h
    · omega
    · omega
theorem fltK_of {x : Key} (h1 : 0 ≤ x.1) (h2 : x.1 ≤ 255) (h3 : x.2.length ≤ 65535) : fltK x = 0 := by
  unfold fltK
  rw [if_neg (by omega), if_neg (by omega)]
theorem fltL_ok {l : List Key} (h : fltL l = 0) : ∀ x ∈ l, fltK x = 0 := by
  induction l with
  | nil => intro x hx; cases hx
  | cons y l ih =>
    rw [fltL] at h
    by_cases q : fltK y = 0
    · rw [if_pos q] at h
      intro x hx
      rcases List.mem_cons.1 hx with rfl | hx
      · exact q
      · exact ih h x hx
    · rw [if_neg q] at h; exact absurd h q
theorem fltL_of {l : List Key} (h : ∀ x ∈ l, fltK x = 0) : fltL l = 0 := by
  induction l with
  | nil => rfl
  | cons y l ih => rw [fltL, if_pos (h y (by simp))]; exact ih fun x hx => h x (by simp [hx])
theorem fltL_at {a : List Key} {x : Key} {b : List Key} (h : ∀ y ∈ a, fltK y = 0) (hx : fltK x ≠ 0) : fltL (a ++ x :: b) = fltK x := by
  induction a with
  | nil => rw [List.nil_append, fltL, if_neg hx]
  | cons y a ih => rw [List.cons_append, fltL, if_pos (h y (by simp))]; exact ih fun z hz => h z (by simp [hz])

theorem encK_isB {x : Key} (hd : isB x.2) : isB (encK x) := fun y hy => by
  simp only [encK, List.mem_cons] at hy
  rcases hy with rfl | rfl | rfl | h
  · omega
  · omega
  · omega
  · exact hd y h
theorem joinK_isB {l : List Key} (h : ∀ x ∈ l, isB x.2) : isB (joinK l) := fun y hy => by
  obtain ⟨x, hx, hy⟩ := List.mem_flatMap.1 hy
  exact encK_isB (h x hx) y hy

/-- How many bytes the first item says that it has. -/
def itLen (b : List Int) : Nat := (b.getD 1 0 * 256 + b.getD 2 0).toNat
def splitN : Nat → List Int → Option (List Key)
  | 0, _ => some []
  | k + 1, b =>
    if b.length = 0 then some []
    else if b.length < 3 + itLen b ∨ b.length < 3 then none
    else (splitN k (b.drop (3 + itLen b))).map ((b.getD 0 0, (b.drop 3).take (itLen b)) :: ·)
/-- The items that bytes are. -/
def splitB (b : List Int) : Option (List Key) := splitN b.length b
theorem splitN_fuel : ∀ (k m : Nat) (b : List Int), b.length ≤ k → b.length ≤ m → splitN k b = splitN m b
  | 0, 0, b, _, _ => rfl
  | 0, m + 1, b, h, _ => by rw [splitN, splitN, if_pos (by omega)]
  | k + 1, 0, b, _, h => by rw [splitN, splitN, if_pos (by omega)]
  | k + 1, m + 1, b, h1, h2 => by
    rw [splitN, splitN]
    split
    · rfl
    · split
      · rfl
      · rw [splitN_fuel k m _ (by simp; omega) (by simp; omega)]
theorem splitB_nil : splitB [] = some [] := rfl
theorem splitB_short {b : List Int} (h0 : 0 < b.length) (h : b.length < 3 + itLen b ∨ b.length < 3) : splitB b = none := by
  obtain ⟨k, hk⟩ : ∃ k, b.length = k + 1 := ⟨b.length - 1, by omega⟩
  rw [splitB, hk, splitN, if_neg (by omega), if_pos h]
theorem splitB_step {b : List Int} (h3 : 3 ≤ b.length) (h : 3 + itLen b ≤ b.length) : splitB b = (splitB (b.drop (3 + itLen b))).map ((b.getD 0 0, (b.drop 3).take (itLen b)) :: ·) := by
  obtain ⟨k, hk⟩ : ∃ k, b.length = k + 1 := ⟨b.length - 1, by omega⟩
  rw [splitB, hk, splitN, if_neg (by omega), if_neg (by omega), splitN_fuel k _ _ (by simp; omega) (Nat.le_refl _)]
  rfl

theorem itLen_enc {x : Key} (h : fltK x = 0) (t : List Int) : itLen (encK x ++ t) = x.2.length := by
  obtain ⟨_, h3⟩ := fltK_ok h
  have e1 : (encK x ++ t).getD 1 0 = (x.2.length : Int) / 256 % 256 := by simp [encK]
  have e2 : (encK x ++ t).getD 2 0 = (x.2.length : Int) % 256 := by simp [encK]
  rw [itLen, e1, e2]
  omega
/-- What was joined is split into the same items. -/
theorem split_join : ∀ (l : List Key), fltL l = 0 → splitB (joinK l) = some l
  | [], _ => rfl
  | x :: l, h => by
    have hall := fltL_ok h
    have hx := hall x (by simp)
    have hr := split_join l (fltL_of fun y hy => hall y (by simp [hy]))
    rw [joinK_cons]
    have hi := itLen_enc hx (joinK l)
    rw [splitB_step (by rw [List.length_append, encK_len]; omega) (by rw [hi, List.length_append, encK_len]; omega), hi]
    have e0 : (encK x ++ joinK l).getD 0 0 = x.1 := by
      obtain ⟨⟨h1, h2⟩, _⟩ := fltK_ok hx
      simp [encK]; omega
    have e1 : (encK x ++ joinK l).drop (3 + x.2.length) = joinK l := by rw [← encK_len x]; exact List.drop_left
    have e2 : ((encK x ++ joinK l).drop 3).take x.2.length = x.2 := by
      have : (encK x ++ joinK l).drop 3 = x.2 ++ joinK l := by simp [encK]
      rw [this]; exact List.take_left
    rw [e0, e1, e2, hr]
    rfl
/-- What is split may be joined, to the same bytes. -/
theorem join_split : ∀ (n : Nat) (b : List Int) (l : List Key), b.length ≤ n → isB b → splitB b = some l → fltL l = 0 ∧ joinK l = b ∧ ∀ x ∈ l, isB x.2
  | 0, b, l, hn, hb, h => by
    obtain rfl : b = [] := List.eq_nil_of_length_eq_zero (by omega)
    rw [splitB_nil] at h
    cases h
    exact ⟨rfl, rfl, by simp⟩
  | n + 1, b, l, hn, hb, h => by
    by_cases h0 : b.length = 0
    · obtain rfl : b = [] := List.eq_nil_of_length_eq_zero h0
      rw [splitB_nil] at h
      cases h
      exact ⟨rfl, rfl, by simp⟩
    · by_cases hs : b.length < 3 + itLen b ∨ b.length < 3
      · rw [splitB_short (by omega) hs] at h; cases h
      · rw [splitB_step (by omega) (by omega)] at h
        obtain ⟨t, ht, rfl⟩ := Option.map_eq_some_iff.1 h
        obtain ⟨i1, i2, i3⟩ := join_split n _ t (by simp; omega) (hb.drop _) ht
        have g0 := hb.getD 0
        have g1 := hb.getD 1
        have g2 := hb.getD 2
        have hl : ((b.drop 3).take (itLen b)).length = itLen b := by simp; omega
        have hI : itLen b = (b.getD 1 0 * 256 + b.getD 2 0).toNat := rfl
        have hx : fltK (b.getD 0 0, (b.drop 3).take (itLen b)) = 0 := fltK_of g0.1 (by simp only []; omega) (by rw [hl]; omega)
        refine ⟨fltL_of fun y hy => ?_, ?_, fun y hy => ?_⟩
        · rcases List.mem_cons.1 hy with rfl | hy
          · exact hx
          · exact fltL_ok i1 y hy
        · rw [joinK_cons, i2]
          have hd : b.drop (3 + itLen b) = (b.drop 3).drop (itLen b) := by rw [List.drop_drop]
          have e : encK (b.getD 0 0, (b.drop 3).take (itLen b)) = b.take 3 ++ (b.drop 3).take (itLen b) := by
            unfold encK
            simp only [hl]
            have e3 : b.take 3 = [b.getD 0 0, b.getD 1 0, b.getD 2 0] := by
              match b, hs with
              | x :: y :: z :: t, _ => simp
              | [_, _], hs => exact absurd (.inr (by simp)) hs
              | [_], hs => exact absurd (.inr (by simp)) hs
              | [], hs => exact absurd (.inr (by simp)) hs
            rw [e3, show b.getD 0 0 % 256 = b.getD 0 0 by omega, show (itLen b : Int) / 256 % 256 = b.getD 1 0 by rw [hI]; omega, show (itLen b : Int) % 256 = b.getD 2 0 by rw [hI]; omega]
            rfl
          rw [e, hd, List.append_assoc, List.take_append_drop, List.take_append_drop]
        · rcases List.mem_cons.1 hy with rfl | hy
          · exact (hb.drop 3).take _
          · exact i3 y hy

/-- The item that comes next, and what is left then. -/
def nxK (s : St) : Key := (nV 1 s, tV (nV 2 (nS 1 s)).toNat (nS 2 (nS 1 s)))
def nxS (s : St) : St := nS (nV 2 (nS 1 s)).toNat (nS 2 (nS 1 s))
theorem numB_take1 {l : List Int} (h : 1 ≤ l.length) : numB (l.take 1) = l.getD 0 0 := by
  match l, h with
  | x :: t, _ => simp [numB]
theorem numB_take2 {l : List Int} (h : 2 ≤ l.length) : numB (l.take 2) = l.getD 0 0 * 256 + l.getD 1 0 := by
  match l, h with
  | x :: y :: t, _ => simp [numB]
  | [_], h => simp at h
theorem nx_ok {b : List Int} (hb : isB b) (h3 : 3 ≤ b.length) (h : 3 + itLen b ≤ b.length) : nxK (some b) = (b.getD 0 0, (b.drop 3).take (itLen b)) ∧ nxS (some b) = some (b.drop (3 + itLen b)) := by
  have e1 : nS 1 (some b) = some (b.drop 1) := nS_some (by omega)
  have e2 : nS 2 (some (b.drop 1)) = some (b.drop 3) := by rw [nS_some (by simp; omega), List.drop_drop]
  have e3 : (nV 2 (some (b.drop 1))).toNat = itLen b := by
    rw [nV_some (by simp; omega), numB_take2 (by simp; omega), itLen]
    congr 2 <;> simp [List.getD]
  have e4 : (itLen b) ≤ (b.drop 3).length := by simp; omega
  refine ⟨?_, ?_⟩
  · rw [nxK, e1, e2, e3, nV_some (by omega), numB_take1 (by omega), tV, if_pos e4]
  · rw [nxS, e1, e2, e3, nS_some e4, List.drop_drop]
theorem nx_no {b : List Int} (h : b.length < 3 + itLen b ∨ b.length < 3) : nxS (some b) = none := by
  by_cases h1 : 1 ≤ b.length
  · have e1 : nS 1 (some b) = some (b.drop 1) := nS_some (by omega)
    by_cases h2 : 3 ≤ b.length
    · have e2 : nS 2 (some (b.drop 1)) = some (b.drop 3) := by rw [nS_some (by simp; omega), List.drop_drop]
      have e3 : (nV 2 (some (b.drop 1))).toNat = itLen b := by
        rw [nV_some (by simp; omega), numB_take2 (by simp; omega), itLen]
        congr 2 <;> simp [List.getD]
      rw [nxS, e1, e2, e3, nS_short (by simp; omega)]
    · rw [nxS, e1, nS_short (k := 2) (by simp; omega)]
      rfl
  · rw [nxS, nS_short (k := 1) (by omega)]
    rfl

/-- A number's bytes, if it is one. -/
def numD (n v : Int) : List Int := if (1 ≤ n ∧ n ≤ 7) ∧ (0 ≤ v ∧ v < 256 ^ n.toNat) then digB n.toNat v else []
end Go.Proofs.YtmejfkhikgcgmaaDoor
