/-
  Package bag: Compare and Same, with cmp.Compare, bytes.Compare, cmp.Or and slices.CompareFunc.
-/
import Derived.Test.YtflllegengomnaaBagM
import Derived.Lib.BytesEntry
import Derived.Laws.Entries
import Derived.RegionCalls
import Derived.Deep.RegionHeld3
import Derived.Deep.DeepCutAuto
namespace Go.Proofs.Ytflllegengomnaa
open Go.RowKit
set_option linter.unusedSimpArgs false
set_option linter.unusedVariables false



theorem bytesOf_run {w : World} {p : Option Addr} {l : List Int} (h : BIn w p l) (c : Nat) : (Extern.Bytes.bytesOf (.slice p l.length c)).run Try.prog w = .ok ⟨(Lib.bytesOf l).toArray⟩ w := by
  cases p with
  | none =>
    rcases Nat.eq_zero_or_pos l.length with hn | hn
    · obtain rfl : l = [] := List.eq_nil_of_length_eq_zero hn
      simp [Extern.Bytes.bytesOf, Lib.bytesOf]
      rfl
    · obtain ⟨b, o, e, _⟩ := h hn; cases e
  | some a =>
    have := Lib.run_loadBytesX (P := Try.prog) w l a .empty (fun j x hj => by
      have hjl : j < l.length := (List.getElem?_eq_some_iff.1 hj).1
      obtain ⟨b, o, e, hc⟩ := h (by omega)
      cases e
      rw [Go.WideShapes.add_plain, hc j hjl, List.getD_eq_getElem?_getD, hj]
      rfl)
    simp only [Extern.Bytes.bytesOf]
    rw [this]
    simp

theorem compare_run {w : World} {p q : Option Addr} {a b : List Int} (ha : BIn w p a) (hb : BIn w q b) (ia : isB a) (ib : isB b) (c d : Nat) :
    (Extern.BytealgCompare.compare #[.slice p a.length c, .slice q b.length d]).run Try.prog w = .ok (.int .i64 (cmpB a b)) w := by
  change Sem.run Try.prog (do pure (goInt (Extern.BytealgCompare.cmp (← Extern.Bytes.bytesOf (.slice p a.length c)) (← Extern.Bytes.bytesOf (.slice q b.length d))))) w = _
  rw [Sem.run_bind, bytesOf_run ha, Result.andThen_ok, Sem.run_bind, bytesOf_run hb, Result.andThen_ok, Sem.run_pure, Lib.cmp_eq, ← compareBytes_eq a b ia ib]
  rfl



/-- Two fields that were laid for a call. -/
structure InP (w : World) (x y : Fd) (W : World) : Prop where
  bx : W.heap[w.heap.size]? = some (.cells #[.int .i64 x.tag, .slice x.p x.d.length x.cap] 30 (0, 0))
  by' : W.heap[w.heap.size + 1]? = some (.cells #[.int .i64 y.tag, .slice y.p y.d.length y.cap] 30 (0, 0))
  below : Below w.heap.size w W

theorem InP.on {w W W' : World} {x y : Fd} (h : InP w x y W) (k : Below W.heap.size W W') : InP w x y W' :=
  ⟨by rw [k.block _ (Array.getElem?_eq_some_iff.1 h.bx).1]; exact h.bx, by rw [k.block _ (Array.getElem?_eq_some_iff.1 h.by').1]; exact h.by', h.below.trans (k.mono h.below.size)⟩

def SInP (w : World) (x y : Fd) (W : World) : Prop :=
  W.cell? ⟨w.heap.size, 0, none⟩ = some (.int .i64 x.tag) ∧ W.cell? ⟨w.heap.size, 1, none⟩ = some (.slice x.p x.d.length x.cap) ∧ W.cell? ⟨w.heap.size + 1, 0, none⟩ = some (.int .i64 y.tag) ∧ W.cell? ⟨w.heap.size + 1, 1, none⟩ = some (.slice y.p y.d.length y.cap) ∧ Hid (InP w x y W)

theorem InP.s {w W : World} {x y : Fd} (h : InP w x y W) : SInP w x y W := by
  obtain ⟨a0, a1, _, _⟩ := two_cells h.bx
  obtain ⟨b0, b1, _, _⟩ := two_cells h.by'
  exact ⟨a0, a1, b0, b1, h⟩





end Go.Proofs.Ytflllegengomnaa
