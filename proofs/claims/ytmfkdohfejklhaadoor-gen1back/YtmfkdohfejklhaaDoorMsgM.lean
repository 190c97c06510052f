/-
  Messages as plain Lean values: where a message's records lie, what it says; which messages may be.
-/
import Derived.Test.YtmfkdohfejklhaaDoorRecM
namespace Go.Proofs.YtmfkdohfejklhaaDoor
open Go.RowKit Go.ChangeShapes Go.WideShapes
set_option linter.unusedSimpArgs false
set_option linter.unusedVariables false
set_option maxRecDepth 10000
set_option synthInstance.maxSize 2000

/-- A message, and where its records lie. -/
structure Mg where
  kind : Int
  frm : Int
  inc : Int
  lo : Int
  hi : Int
  seq : Int
  tgt : Int
  life : Int
  epoch : Int
  base : Int
  p : Option Addr
  cap : Nat
  recs : List Rc
def Mg.cells (m : Mg) : List Value := [.int .i64 m.kind, .int .i64 m.frm, .int .i64 m.inc, .int .i64 m.lo, .int .i64 m.hi, .int .i64 m.seq, .int .i64 m.tgt, .int .i64 m.life, .int .i64 m.epoch, .int .i64 m.base, .slice m.p m.recs.length m.cap]

structure MOk (w : World) (m : Mg) : Prop where
  kind : (Lit.int .i64 m.kind).wf = true
  frm : (Lit.int .i64 m.frm).wf = true
  inc : (Lit.int .i64 m.inc).wf = true
  lo : (Lit.int .i64 m.lo).wf = true
  hi : (Lit.int .i64 m.hi).wf = true
  seq : (Lit.int .i64 m.seq).wf = true
  tgt : (Lit.int .i64 m.tgt).wf = true
  life : (Lit.int .i64 m.life).wf = true
  epoch : (Lit.int .i64 m.epoch).wf = true
  base : (Lit.int .i64 m.base).wf = true
  len : m.recs.length ≤ m.cap
  cap : m.cap ≤ maxLen
  nil : m.p = none → m.cap = 0
  rin : RIn w m.p m.recs

def shMg : Sh Mg := fun w cs m => cs = m.cells ∧ MOk w m
theorem MOk.below {w w' : World} {m : Mg} (h : MOk w m) (k : Below w.heap.size w w') : MOk w' m := ⟨h.kind, h.frm, h.inc, h.lo, h.hi, h.seq, h.tgt, h.life, h.epoch, h.base, h.len, h.cap, h.nil, h.rin.below k⟩
theorem MOk.lenM {w : World} {m : Mg} (h : MOk w m) : m.recs.length ≤ maxLen := Nat.le_trans h.len h.cap

theorem opensZ_mg {H : Type} {enc : TypeId × Value → H} {w : World} {base : Nat} {spare : Nat → Bool} {held : Bool} : OpensZ enc Tryd.prog w base spare held 26 shMg := fun fuel cs x h hz => by
  obtain ⟨xs, n, _, rfl, hl, hlen, hf⟩ := DataW.trod_struct Tryd.underlying26 h
  haveI : Inhabited Rc := ⟨zr⟩
  have kr : Tryd.prog.cellsOf 26 = 11 := by kernel_rfl
  have ki : Tryd.prog.cellsOf 3 = 1 := by kernel_rfl
  have ks : Tryd.prog.cellsOf 23 = 2 := by kernel_rfl
  have kf : Tryd.prog.cellsOf 24 = 1 := by kernel_rfl
  rw [kr] at hl
  match xs, hlen, cs, hl with
  | [y0, y1, y2, y3, y4, y5, y6, y7, y8, y9], _, [v0, v1, v2, v3, v4, v5, v6, v7, v8, v9, v10], _ =>
    have h0 : DataW.trod enc Tryd.prog w base spare held n 3 ((List.drop 0 [v0, v1, v2, v3, v4, v5, v6, v7, v8, v9, v10]).take (Tryd.prog.cellsOf 3)) = some y0 := hf 0 _ rfl
    have h1 : DataW.trod enc Tryd.prog w base spare held n 3 ((List.drop 1 [v0, v1, v2, v3, v4, v5, v6, v7, v8, v9, v10]).take (Tryd.prog.cellsOf 3)) = some y1 := hf 1 _ rfl
    have h2 : DataW.trod enc Tryd.prog w base spare held n 3 ((List.drop 2 [v0, v1, v2, v3, v4, v5, v6, v7, v8, v9, v10]).take (Tryd.prog.cellsOf 3)) = some y2 := hf 2 _ rfl
    have h3 : DataW.trod enc Tryd.prog w base spare held n 23 ((List.drop 3 [v0, v1, v2, v3, v4, v5, v6, v7, v8, v9, v10]).take (Tryd.prog.cellsOf 23)) = some y3 := hf 3 _ rfl
    have h4 : DataW.trod enc Tryd.prog w base spare held n 3 ((List.drop 5 [v0, v1, v2, v3, v4, v5, v6, v7, v8, v9, v10]).take (Tryd.prog.cellsOf 3)) = some y4 := hf 4 _ rfl
    have h5 : DataW.trod enc Tryd.prog w base spare held n 3 ((List.drop 6 [v0, v1, v2, v3, v4, v5, v6, v7, v8, v9, v10]).take (Tryd.prog.cellsOf 3)) = some y5 := hf 5 _ rfl
    have h6 : DataW.trod enc Tryd.prog w base spare held n 3 ((List.drop 7 [v0, v1, v2, v3, v4, v5, v6, v7, v8, v9, v10]).take (Tryd.prog.cellsOf 3)) = some y6 := hf 6 _ rfl
    have h7 : DataW.trod enc Tryd.prog w base spare held n 3 ((List.drop 8 [v0, v1, v2, v3, v4, v5, v6, v7, v8, v9, v10]).take (Tryd.prog.cellsOf 3)) = some y7 := hf 7 _ rfl
    have h8 : DataW.trod enc Tryd.prog w base spare held n 3 ((List.drop 9 [v0, v1, v2, v3, v4, v5, v6, v7, v8, v9, v10]).take (Tryd.prog.cellsOf 3)) = some y8 := hf 8 _ rfl
    have h9 : DataW.trod enc Tryd.prog w base spare held n 24 ((List.drop 10 [v0, v1, v2, v3, v4, v5, v6, v7, v8, v9, v10]).take (Tryd.prog.cellsOf 24)) = some y9 := hf 9 _ rfl
    clear hf
    rw [ki] at h0 h1 h2 h4 h5 h6 h7 h8
    rw [ks] at h3
    rw [kf] at h9
    simp only [List.drop_zero, List.drop_succ_cons, List.take_succ_cons, List.take_zero] at h0 h1 h2 h3 h4 h5 h6 h7 h8 h9
    simp only [DataW.weights, Tryd.underlying26, List.map_cons, List.map_nil, DataW.weightsEach, List.mem_append] at hz
    obtain ⟨i0, e0, w0⟩ := opens_int Tryd.underlying3 _ _ _ h0
    obtain ⟨i1, e1, w1⟩ := opens_int Tryd.underlying3 _ _ _ h1
    obtain ⟨i2, e2, w2⟩ := opens_int Tryd.underlying3 _ _ _ h2
    obtain ⟨⟨i3, i4⟩, a, b, e3, ⟨ea, w3⟩, ⟨eb, w4⟩⟩ := opens_struct2 Tryd.underlying23 rfl (by kernel_rfl) (by kernel_rfl) (opens_int Tryd.underlying3) (opens_int Tryd.underlying3) _ _ _ h3
    obtain ⟨i5, e5, w5⟩ := opens_int Tryd.underlying3 _ _ _ h4
    obtain ⟨i6, e6, w6⟩ := opens_int Tryd.underlying3 _ _ _ h5
    obtain ⟨i7, e7, w7⟩ := opens_int Tryd.underlying3 _ _ _ h6
    obtain ⟨i8, e8, w8⟩ := opens_int Tryd.underlying3 _ _ _ h7
    obtain ⟨i9, e9, w9⟩ := opens_int Tryd.underlying3 _ _ _ h8
    obtain ⟨l, p, cap, e10, g1, g2, g3, g4, g5⟩ := opensZ_slice (size := 7) (bytes := 72) Tryd.underlying24 (by kernel_rfl) (by kernel_rfl) (by decide) opensZ_rc _ _ _ h9 (fun n hn => hz n (by simp [DataW.weightsEach, hn]))
    subst ea eb
    simp at e0 e1 e2 e3 e5 e6 e7 e8 e9 e10
    obtain ⟨e3, e4⟩ := e3
    subst e0 e1 e2 e3 e4 e5 e6 e7 e8 e9 e10
    exact ⟨⟨i0, i1, i2, i3, i4, i5, i6, i7, i8, i9, p, cap, l⟩, rfl, ⟨w0, w1, w2, w3, w4, w5, w6, w7, w8, w9, g1, g2, g3, g5⟩⟩

/-- A message that was laid for a call. -/
structure InM (w : World) (m : Mg) (X : World) : Prop where
  below : Below w.heap.size w X
  box : X.heap[w.heap.size]? = some (.cells #[.int .i64 m.kind, .int .i64 m.frm, .int .i64 m.inc, .int .i64 m.lo, .int .i64 m.hi, .int .i64 m.seq, .int .i64 m.tgt, .int .i64 m.life, .int .i64 m.epoch, .int .i64 m.base, .slice m.p m.recs.length m.cap] 26 (0, 0))
theorem InM.start (w : World) (m : Mg) : InM w m (w.alloc (.cells #[.int .i64 m.kind, .int .i64 m.frm, .int .i64 m.inc, .int .i64 m.lo, .int .i64 m.hi, .int .i64 m.seq, .int .i64 m.tgt, .int .i64 m.life, .int .i64 m.epoch, .int .i64 m.base, .slice m.p m.recs.length m.cap] 26)) := ⟨(Below.refl _ _).alloc (Nat.le_refl _) _, heap_alloc_new _ _⟩
theorem InM.on {w X X' : World} {m : Mg} (h : InM w m X) (k : Below X.heap.size X X') : InM w m X' :=
  ⟨h.below.trans (k.mono h.below.size), by rw [k.block _ (Array.getElem?_eq_some_iff.1 h.box).1]; exact h.box⟩
/-- The cells of a block that is a message. -/
theorem mbox_cells {X : World} {b : Nat} {m : Mg} {t : TypeId} (h : X.heap[b]? = some (.cells #[.int .i64 m.kind, .int .i64 m.frm, .int .i64 m.inc, .int .i64 m.lo, .int .i64 m.hi, .int .i64 m.seq, .int .i64 m.tgt, .int .i64 m.life, .int .i64 m.epoch, .int .i64 m.base, .slice m.p m.recs.length m.cap] t (0, 0))) : X.cell? ⟨b, 0, none⟩ = some (.int .i64 m.kind) ∧ X.cell? ⟨b, 1, none⟩ = some (.int .i64 m.frm) ∧ X.cell? ⟨b, 2, none⟩ = some (.int .i64 m.inc) ∧ X.cell? ⟨b, 3, none⟩ = some (.int .i64 m.lo) ∧ X.cell? ⟨b, 4, none⟩ = some (.int .i64 m.hi) ∧ X.cell? ⟨b, 5, none⟩ = some (.int .i64 m.seq) ∧ X.cell? ⟨b, 6, none⟩ = some (.int .i64 m.tgt) ∧ X.cell? ⟨b, 7, none⟩ = some (.int .i64 m.life) ∧ X.cell? ⟨b, 8, none⟩ = some (.int .i64 m.epoch) ∧ X.cell? ⟨b, 9, none⟩ = some (.int .i64 m.base) ∧ X.cell? ⟨b, 10, none⟩ = some (.slice m.p m.recs.length m.cap) := by
  simp [World.cell?, h]

/-- Two messages that were laid for a call. -/
structure InM2 (w : World) (a b : Mg) (X : World) : Prop where
  below : Below w.heap.size w X
  ba : X.heap[w.heap.size]? = some (.cells #[.int .i64 a.kind, .int .i64 a.frm, .int .i64 a.inc, .int .i64 a.lo, .int .i64 a.hi, .int .i64 a.seq, .int .i64 a.tgt, .int .i64 a.life, .int .i64 a.epoch, .int .i64 a.base, .slice a.p a.recs.length a.cap] 26 (0, 0))
  bb : X.heap[w.heap.size + 1]? = some (.cells #[.int .i64 b.kind, .int .i64 b.frm, .int .i64 b.inc, .int .i64 b.lo, .int .i64 b.hi, .int .i64 b.seq, .int .i64 b.tgt, .int .i64 b.life, .int .i64 b.epoch, .int .i64 b.base, .slice b.p b.recs.length b.cap] 26 (0, 0))
theorem InM2.start (w : World) (a b : Mg) : InM2 w a b ((w.alloc (.cells #[.int .i64 a.kind, .int .i64 a.frm, .int .i64 a.inc, .int .i64 a.lo, .int .i64 a.hi, .int .i64 a.seq, .int .i64 a.tgt, .int .i64 a.life, .int .i64 a.epoch, .int .i64 a.base, .slice a.p a.recs.length a.cap] 26)).alloc (.cells #[.int .i64 b.kind, .int .i64 b.frm, .int .i64 b.inc, .int .i64 b.lo, .int .i64 b.hi, .int .i64 b.seq, .int .i64 b.tgt, .int .i64 b.life, .int .i64 b.epoch, .int .i64 b.base, .slice b.p b.recs.length b.cap] 26)) := by
  refine ⟨((Below.refl _ _).alloc (Nat.le_refl _) _).alloc (by simp) _, (heap_alloc_old _ _ (by simp)).trans (heap_alloc_new _ _), ?_⟩
  have := heap_alloc_new (w.alloc (.cells #[.int .i64 a.kind, .int .i64 a.frm, .int .i64 a.inc, .int .i64 a.lo, .int .i64 a.hi, .int .i64 a.seq, .int .i64 a.tgt, .int .i64 a.life, .int .i64 a.epoch, .int .i64 a.base, .slice a.p a.recs.length a.cap] 26)) (.cells #[.int .i64 b.kind, .int .i64 b.frm, .int .i64 b.inc, .int .i64 b.lo, .int .i64 b.hi, .int .i64 b.seq, .int .i64 b.tgt, .int .i64 b.life, .int .i64 b.epoch, .int .i64 b.base, .slice b.p b.recs.length b.cap] 26)
  rw [show (w.alloc (.cells #[.int .i64 a.kind, .int .i64 a.frm, .int .i64 a.inc, .int .i64 a.lo, .int .i64 a.hi, .int .i64 a.seq, .int .i64 a.tgt, .int .i64 a.life, .int .i64 a.epoch, .int .i64 a.base, .slice a.p a.recs.length a.cap] 26)).heap.size = w.heap.size + 1 by simp] at this
  exact this
theorem InM2.on {w X X' : World} {a b : Mg} (h : InM2 w a b X) (k : Below X.heap.size X X') : InM2 w a b X' :=
  ⟨h.below.trans (k.mono h.below.size), by rw [k.block _ (Array.getElem?_eq_some_iff.1 h.ba).1]; exact h.ba, by rw [k.block _ (Array.getElem?_eq_some_iff.1 h.bb).1]; exact h.bb⟩

/-- Whether two messages say the same. -/
def sender (a b : Mg) : Bool := decide (a.kind = b.kind) && decide (a.frm = b.frm) && decide (a.inc = b.inc) && (decide (a.lo = b.lo) && decide (a.hi = b.hi))
def numbers (a b : Mg) : Bool := decide (a.seq = b.seq) && decide (a.tgt = b.tgt) && decide (a.life = b.life) && decide (a.epoch = b.epoch) && decide (a.base = b.base)
def sameM (a b : Mg) : Bool := sender a b && numbers a b && decide (rks a.recs = rks b.recs)
theorem sameM_self (a : Mg) : sameM a a = true := by simp [sameM, sender, numbers]
theorem sameM_comm (a b : Mg) : sameM b a = sameM a b := by
  rw [Bool.eq_iff_iff]
  simp only [sameM, sender, numbers, Bool.and_eq_true, decide_eq_true_eq]
  constructor <;> intro h <;> simp_all

/-- Which parts a kind has. -/
def hasB (k p : Int) : Bool :=
  if p = 0 then decide (k = 1 ∨ k = 2 ∨ k = 4 ∨ k = 5 ∨ k = 6) else
  if p = 1 then decide (k = 3 ∨ k = 6) else
  if p = 2 then decide (k = 7 ∨ k = 8 ∨ k = 9) else
  if p = 3 then decide (k = 7) else decide (p = 4) && decide (4 ≤ k ∧ k ≤ 8)

/-- May a part be that the kind has; is a part none. -/
def mayP (m : Mg) (p : Int) : Bool :=
  if p = 0 then decide (0 ≤ m.seq ∧ m.seq ≤ 65535) else
  if p = 1 then (if m.kind = 3 then decide (1 ≤ m.tgt ∧ m.tgt ≤ 3) else decide (0 ≤ m.tgt ∧ m.tgt ≤ 4095)) else
  if p = 2 then (if m.epoch = 0 then decide (m.life = 0 ∧ m.kind ≠ 9) else decide (0 ≤ m.life ∧ m.life ≤ 281474976710655) && decide (0 ≤ m.epoch ∧ m.epoch ≤ 65535)) else
  if p = 3 then decide (m.base = 0 ∨ 1 ≤ m.base ∧ m.base < m.epoch) else decide (m.recs.length ≤ 255) && sortR (-1) (rks m.recs)
def noneP (m : Mg) (p : Int) : Bool :=
  if p = 0 then decide (m.seq = 0) else
  if p = 1 then decide (m.tgt = 0) else
  if p = 2 then decide (m.life = 0 ∧ m.epoch = 0) else
  if p = 3 then decide (m.base = 0) else decide (m.recs.length = 0)
def partP (m : Mg) (p : Int) : Bool := if hasB m.kind p = true then mayP m p else noneP m p
/-- The parts from the k-th on. -/
def partsP (m : Mg) : Nat → Bool
  | 0 => true
  | n + 1 => partP m (4 - n) && partsP m n
def mayM (m : Mg) : Bool := decide (1 ≤ m.kind ∧ m.kind ≤ 9) && (decide (0 ≤ m.frm ∧ m.frm ≤ 4095) && decide (0 ≤ m.inc ∧ m.inc ≤ 281474976710655) && okS m.lo m.hi) && partsP m 5

/-- The same, number by number. -/
def numsOk (m : Mg) : Prop :=
  (1 ≤ m.kind ∧ m.kind ≤ 9) ∧ (0 ≤ m.frm ∧ m.frm ≤ 4095) ∧ (0 ≤ m.inc ∧ m.inc ≤ 281474976710655) ∧
  (0 ≤ m.seq ∧ m.seq ≤ 65535 ∧ (0 < m.seq → hasB m.kind 0 = true)) ∧
  (0 ≤ m.tgt ∧ m.tgt ≤ 4095 ∧ (0 < m.tgt → hasB m.kind 1 = true) ∧ (m.kind = 3 → 1 ≤ m.tgt ∧ m.tgt ≤ 3)) ∧
  (0 ≤ m.life ∧ m.life ≤ 281474976710655 ∧ 0 ≤ m.epoch ∧ m.epoch ≤ 65535 ∧ 0 ≤ m.base) ∧
  ((hasB m.kind 2 = false → ¬ (0 < m.life ∨ 0 < m.epoch)) ∧ ¬ (m.epoch = 0 ∧ 0 < m.life) ∧ ¬ (m.kind = 9 ∧ m.epoch = 0)) ∧
  ¬ (0 < m.base ∧ (m.kind ≠ 7 ∨ m.epoch ≤ m.base))
def recsOk (m : Mg) : Bool := if hasB m.kind 4 = true then decide (m.recs.length ≤ 255) && sortR (-1) (rks m.recs) else decide (m.recs.length = 0)

theorem mayM_nums (m : Mg) : mayM m = true ↔ numsOk m ∧ okS m.lo m.hi = true ∧ recsOk m = true := by
  by_cases hk : 1 ≤ m.kind ∧ m.kind ≤ 9
  · have hc : m.kind = 1 ∨ m.kind = 2 ∨ m.kind = 3 ∨ m.kind = 4 ∨ m.kind = 5 ∨ m.kind = 6 ∨ m.kind = 7 ∨ m.kind = 8 ∨ m.kind = 9 := by omega
    simp only [mayM, partsP, partP, hasB, mayP, noneP, numsOk, recsOk]
    generalize okS m.lo m.hi = b
    generalize sortR (-1) (rks m.recs) = c
    generalize m.recs.length = n
    rcases hc with h | h | h | h | h | h | h | h | h <;> (simp [h]; cases b <;> cases c <;> (try simp) <;> (try split) <;> (try simp) <;> omega)
  · constructor
    · intro h
      simp only [mayM, Bool.and_eq_true, decide_eq_true_eq] at h
      exact absurd h.1.1 hk
    · intro h
      exact absurd h.1.1 hk
end Go.Proofs.YtmfkdohfejklhaaDoor
