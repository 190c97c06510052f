/-
  Fields and bags as plain Lean values; package bag: Size, tagsMayBe, Valid, Light.
-/
import Derived.Test.YtflllegengomnaaShapesZ
import Derived.Test.YtflllegengomnaaOwn
import Derived.BigQuiet
import Derived.Test.YtflllegengomnaaRows
import Derived.WalkSpells
import Derived.WalkLawsBesides
import Derived.WalkKit
namespace Go.Proofs.Ytflllegengomnaa
open Go.RowKit
set_option linter.unusedSimpArgs false
set_option linter.unusedVariables false

/-- A field: its tag, and where its bytes lie. -/
structure Fd where
  tag : Int
  p : Option Addr
  cap : Nat
  d : List Int
def zf : Fd := ⟨0, none, 0, []⟩
def Fd.cells (f : Fd) : List Value := [.int .i64 f.tag, .slice f.p f.d.length f.cap]

structure FOk (w : World) (f : Fd) : Prop where
  tag : (Lit.int .i64 f.tag).wf = true
  len : f.d.length ≤ f.cap
  cap : f.cap ≤ maxLen
  nil : f.p = none → f.cap = 0
  bin : BIn w f.p f.d
  isb : isB f.d
  few : f.d.length ≤ 140737488355328

def shFd : Sh Fd := fun w cs f => cs = f.cells ∧ FOk w f
/-- Fields in a slice. -/
abbrev FIn (w : World) (p : Option Addr) (l : List Fd) : Prop := LIn w p 2 shFd l

/-- What a field says. -/
abbrev Key := Int × List Int
def ky (f : Fd) : Key := (f.tag, f.d)
def kys (l : List Fd) : List Key := l.map ky
def szK (l : List Key) : Nat := (l.map fun x => x.2.length).sum
def tagsK : Int → List Key → Bool
  | _, [] => true
  | a, x :: t => decide (a ≤ x.1) && decide (x.1 ≤ 255) && tagsK x.1 t
def mayK (l : List Key) : Bool := decide (l.length ≤ 32) && tagsK 32 l && decide (szK l ≤ 4096)

theorem opensZ_fd {H : Type} {enc : TypeId × Value → H} {w : World} {base : Nat} {spare : Nat → Bool} {held : Bool} : OpensZ enc Try.prog w base spare held 30 shFd := fun fuel cs x h hz => by
  obtain ⟨⟨t, d⟩, a, b, rfl, ⟨rfl, h1⟩, ⟨p, cap, rfl, h2, h3, h4, h6, h5⟩⟩ := opensZ_struct2 Try.underlying30 rfl (by kernel_rfl) (by kernel_rfl) (opens_int Try.underlying3).z (opensZ_slice (size := 1) (bytes := 1) Try.underlying25 (by kernel_rfl) (by kernel_rfl) (by decide) (opens_int Try.underlying5).z) fuel cs x h hz
  exact ⟨⟨t, p, cap, d⟩, rfl, ⟨h1, h2, h3, h4, h5.bytes, h5.isB, by have := reachBytes_lt; simp only at h6 ⊢; omega⟩⟩

theorem FOk.below {w w' : World} {f : Fd} (h : FOk w f) (k : Below w.heap.size w w') : FOk w' f := ⟨h.tag, h.len, h.cap, h.nil, h.bin.below k, h.isb, h.few⟩

theorem FIn.at {w : World} {p : Option Addr} {l : List Fd} (h : FIn w p l) (hl : 0 < l.length) : ∃ b o, p = some ⟨b, o, none⟩ ∧ ∀ i, i < l.length → w.cell? ⟨b, o + i * 2, none⟩ = some (.int .i64 (l.getD i zf).tag) ∧ w.cell? ⟨b, o + i * 2 + 1, none⟩ = some (.slice (l.getD i zf).p (l.getD i zf).d.length (l.getD i zf).cap) ∧ FOk w (l.getD i zf) := by
  obtain ⟨b, o, rfl, hc⟩ := h hl
  refine ⟨b, o, rfl, fun i hi => ?_⟩
  obtain ⟨cs, _, h1, rfl, h3⟩ := hc i hi
  have h0 := h1 0 (by omega)
  have h2 := h1 1 (by omega)
  simp [List.getD, hi, Fd.cells] at h0 h2 ⊢
  exact ⟨h0, h2, h3⟩

theorem FIn.of {w : World} {b o : Nat} {l : List Fd} (h : ∀ i, i < l.length → w.cell? ⟨b, o + i * 2, none⟩ = some (.int .i64 (l.getD i zf).tag) ∧ w.cell? ⟨b, o + i * 2 + 1, none⟩ = some (.slice (l.getD i zf).p (l.getD i zf).d.length (l.getD i zf).cap) ∧ FOk w (l.getD i zf)) : FIn w (some ⟨b, o, none⟩) l := fun _ => by
  refine ⟨b, o, rfl, fun i hi => ?_⟩
  obtain ⟨h1, h2, h3⟩ := h i hi
  simp [List.getD, hi] at h1 h2 h3
  refine ⟨l[i].cells, rfl, fun j hj => ?_, rfl, h3⟩
  have hj' : j = 0 ∨ j = 1 := by omega
  rcases hj' with rfl | rfl <;> simpa [Fd.cells]

theorem FIn.below {w w' : World} {p : Option Addr} {l : List Fd} (h : FIn w p l) (k : Below w.heap.size w w') : FIn w' p l := fun hl => by
  obtain ⟨b, o, rfl, hc⟩ := h.at hl
  refine FIn.of (fun i hi => ?_) hl
  obtain ⟨h1, h2, h3⟩ := hc i hi
  exact ⟨by rw [k.cell (p := ⟨b, o + i * 2, none⟩) (lt_of_cell h1)]; exact h1, by rw [k.cell (p := ⟨b, o + i * 2 + 1, none⟩) (lt_of_cell h2)]; exact h2, h3.below k⟩

theorem FIn.empty (w : World) (p : Option Addr) : FIn w p [] := LIn.empty _ _ _ _

theorem kys_len (l : List Fd) : (kys l).length = l.length := by simp [kys]
theorem kys_append (a b : List Fd) : kys (a ++ b) = kys a ++ kys b := by simp [kys]
theorem szK_append (a b : List Key) : szK (a ++ b) = szK a + szK b := by simp [szK]
theorem take_next (l : List Fd) (k : Nat) (h : k < l.length) : l.take (k + 1) = l.take k ++ [l.getD k zf] := by
  rw [List.take_succ_eq_append_getElem h]; simp [List.getD, h]
theorem drop_next (l : List Fd) (k : Nat) (h : k < l.length) : l.drop k = l.getD k zf :: l.drop (k + 1) := by
  rw [List.drop_eq_getElem_cons h]; simp [List.getD, h]
theorem sz_next (l : List Fd) (k : Nat) (h : k < l.length) : szK (kys (l.take (k + 1))) = szK (kys (l.take k)) + (l.getD k zf).d.length := by
  rw [take_next l k h, kys_append, szK_append]; simp [szK, kys, ky]
theorem sz_take_le (l : List Fd) (k : Nat) : szK (kys (l.take k)) ≤ szK (kys l) := by
  have h : szK (kys l) = szK (kys (l.take k)) + szK (kys (l.drop k)) := by rw [← szK_append, ← kys_append, List.take_append_drop]
  omega




end Go.Proofs.Ytflllegengomnaa
