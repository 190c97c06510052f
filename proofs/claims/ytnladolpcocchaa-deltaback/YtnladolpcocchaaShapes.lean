/-
  What an argument of a call is, as a plain Lean value: shapes, put together type by type, and how a reading of memory opens them.
-/
import Derived.Test.YtnladolpcocchaaBase
import Derived.ProofKit
import Derived.OpenShut
import Derived.Deep.Slices
import Derived.Deep.Strs
namespace Go.Proofs.Ytnladolpcocchaa
open Go.RowKit Go.ChangeShapes Go.WideShapes
set_option linter.unusedSimpArgs false
set_option linter.unusedVariables false
set_option maxRecDepth 10000

/-- Which cells are which value, in a world. -/
abbrev Sh (α : Type) := World → List Value → α → Prop

def shInt (k : IntKind) : Sh Int := fun _ cs n => cs = [.int k n] ∧ (Lit.int k n).wf = true
def shBool : Sh Bool := fun _ cs b => cs = [.bool b]
def shStr : Sh ByteArray := fun _ cs s => cs = [.string s] ∧ s.size ≤ maxLen
def shTwo {α β : Type} (E : Sh α) (F : Sh β) : Sh (α × β) := fun w cs x => ∃ a b, cs = a ++ b ∧ E w a x.1 ∧ F w b x.2

/-- The elements of a slice, 'size' cells each. -/
def LIn {α : Type} (w : World) (p : Option Addr) (size : Nat) (E : Sh α) (l : List α) : Prop :=
  0 < l.length → ∃ b o, p = some ⟨b, o, none⟩ ∧ ∀ i (h : i < l.length), ∃ cs, cs.length = size ∧ (∀ j, j < size → w.cell? ⟨b, o + i * size + j, none⟩ = cs[j]?) ∧ E w cs l[i]

def shSlice {α : Type} (size : Nat) (E : Sh α) : Sh (List α) := fun w cs l => ∃ p cap, cs = [.slice p l.length cap] ∧ l.length ≤ cap ∧ cap ≤ maxLen ∧ (p = none → cap = 0) ∧ LIn w p size E l

theorem LIn.empty {α : Type} (w : World) (p : Option Addr) (size : Nat) (E : Sh α) : LIn w p size E [] := fun h => absurd h (by simp)

section
variable {H : Type} {enc : TypeId × Value → H} {P : Program} {w : World} {base : Nat} {spare : Nat → Bool} {held : Bool}

/-- Whatever reads by the type t has the shape E. -/
def Opens {α : Type} (enc : TypeId × Value → H) (P : Program) (w : World) (base : Nat) (spare : Nat → Bool) (held : Bool) (t : TypeId) (E : Sh α) : Prop :=
  ∀ fuel cs x, DataW.trod enc P w base spare held fuel t cs = some x → ∃ a, E w cs a

theorem opens_int {t : TypeId} {k : IntKind} (ht : P.underlying t = some (.int k)) : Opens enc P w base spare held t (shInt k) := fun _ _ _ h => by
  obtain ⟨n, h1, _, h3⟩ := DataW.trod_int ht h
  exact ⟨n, h1, h3⟩

theorem opens_bool {t : TypeId} (ht : P.underlying t = some .bool) : Opens enc P w base spare held t shBool := fun _ _ _ h => by
  obtain ⟨b, h1, _⟩ := DataW.trod_bool ht h
  exact ⟨b, h1⟩

theorem opens_str {t : TypeId} (ht : P.underlying t = some .string) : Opens enc P w base spare held t shStr := fun _ _ _ h => by
  obtain ⟨s, h1, _, h3⟩ := DataW.trod_string ht h
  exact ⟨s, h1, h3⟩

theorem opens_slice {α : Type} [Inhabited α] {t e : TypeId} {size : Nat} {E : Sh α} (ht : P.underlying t = some (.slice e)) (hs : P.cellsOf e = size) (h0 : 0 < size) (hE : Opens enc P w base spare held e E) : Opens enc P w base spare held t (shSlice size E) := fun _ _ _ h => by
  rcases Go.Deep.open_slice ht h with ⟨rfl, _⟩ | ⟨a, len, cap, m, n, D, Pl, rfl, hb, hl, hm, hmm, rfl, hx⟩
  · exact ⟨[], none, 0, rfl, Nat.le_refl _, by simp [maxLen], fun _ => rfl, LIn.empty _ _ _ _⟩
  · have hlm : len ≤ m := by rw [hmm]; split <;> omega
    have each : ∀ i, i < len → ∃ q : α, ∃ cs, cs.length = size ∧ (∀ j, j < size → w.cell? (a.add (i * size + j)) = cs[j]?) ∧ E w cs q := by
      intro i hi
      obtain ⟨cs', h1, h2⟩ := hx i (by omega)
      obtain ⟨q, hq⟩ := hE _ _ _ h2
      rw [hs] at h1
      obtain ⟨_, hlen, hcell⟩ := World.cells?_some h1
      exact ⟨q, cs', hlen, fun j hj => by rw [← Go.Deep.add_add]; exact hcell j hj, hq⟩
    obtain ⟨f, hf⟩ := Go.Deep.choose_lt each
    refine ⟨(List.range len).map f, some a, cap, by simp, by simpa using hl, hm, by simp, fun hpos => ?_⟩
    have hpos' : 0 < len := by simpa using hpos
    obtain ⟨b, o, s⟩ := a
    obtain rfl : s = none := by
      obtain ⟨cs, hcl, hc, _⟩ := hf 0 hpos'
      have h1 := hc 0 h0
      have h2 : cs[0]? = some cs[0] := by simp
      rw [h2] at h1
      simpa [Addr.add] using World.cell?_spot h1
    refine ⟨b, o, rfl, fun i hi => ?_⟩
    have hi' : i < len := by simpa using hi
    obtain ⟨cs, hcl, hc, hq⟩ := hf i hi'
    refine ⟨cs, hcl, fun j hj => ?_, by simpa using hq⟩
    rw [Nat.add_assoc, ← Go.WideShapes.add_plain]
    exact hc j hj

theorem opens_struct2 {α β : Type} {t : TypeId} {f0 f1 : Field} {E : Sh α} {F : Sh β} (ht : P.underlying t = some (.struct #[f0, f1])) (o0 : f0.offset = 0) (o1 : f1.offset = P.cellsOf f0.type) (o2 : P.cellsOf t = P.cellsOf f0.type + P.cellsOf f1.type)
    (hE : Opens enc P w base spare held f0.type E) (hF : Opens enc P w base spare held f1.type F) : Opens enc P w base spare held t (shTwo E F) := fun _ cs _ h => by
  obtain ⟨y0, y1, n, _, hl, h0, h1⟩ := trod_struct2 ht h
  obtain ⟨a, ha⟩ := hE _ _ _ h0
  obtain ⟨b, hb⟩ := hF _ _ _ h1
  rw [o0, List.drop_zero] at ha
  rw [o1, List.take_of_length_le (by simp; omega)] at hb
  exact ⟨(a, b), _, _, (List.take_append_drop (P.cellsOf f0.type) cs).symm, ha, hb⟩

theorem opens_struct3 {α β γ : Type} {t : TypeId} {f0 f1 f2 : Field} {E : Sh α} {F : Sh β} {G : Sh γ} (ht : P.underlying t = some (.struct #[f0, f1, f2])) (o0 : f0.offset = 0) (o1 : f1.offset = P.cellsOf f0.type) (o2 : f2.offset = P.cellsOf f0.type + P.cellsOf f1.type)
    (o3 : P.cellsOf t = P.cellsOf f0.type + P.cellsOf f1.type + P.cellsOf f2.type)
    (hE : Opens enc P w base spare held f0.type E) (hF : Opens enc P w base spare held f1.type F) (hG : Opens enc P w base spare held f2.type G) : Opens enc P w base spare held t (shTwo E (shTwo F G)) := fun _ cs _ h => by
  obtain ⟨y0, y1, y2, n, _, hl, h0, h1, h2⟩ := Go.Deep.trod_struct3 ht h
  obtain ⟨a, ha⟩ := hE _ _ _ h0
  obtain ⟨b, hb⟩ := hF _ _ _ h1
  obtain ⟨c, hc⟩ := hG _ _ _ h2
  rw [o0, List.drop_zero] at ha
  rw [o1] at hb
  rw [o2, List.take_of_length_le (by simp; omega)] at hc
  refine ⟨(a, b, c), _, _, (List.take_append_drop (P.cellsOf f0.type) cs).symm, ha, _, _, (List.take_append_drop (P.cellsOf f1.type) (cs.drop (P.cellsOf f0.type))).symm, hb, ?_⟩
  rw [List.drop_drop]
  exact hc
end

/-- The bytes of a shape. -/
theorem LIn.bytes {w : World} {p : Option Addr} {l : List Int} (h : LIn w p 1 (shInt .u8) l) : BIn w p l := fun hl => by
  obtain ⟨b, o, rfl, hc⟩ := h hl
  refine ⟨b, o, rfl, fun i hi => ?_⟩
  obtain ⟨cs, _, h1, rfl, _⟩ := hc i hi
  have := h1 0 (by omega)
  simpa [List.getD, hi] using this

theorem LIn.isB {w : World} {p : Option Addr} {l : List Int} (h : LIn w p 1 (shInt .u8) l) : isB l := fun x hx => by
  obtain ⟨i, hi, rfl⟩ := List.getElem_of_mem hx
  obtain ⟨b, o, rfl, hc⟩ := h (by omega)
  obtain ⟨cs, _, _, _, hw⟩ := hc i hi
  have := bounds_u8 hw
  omega

end Go.Proofs.Ytnladolpcocchaa
