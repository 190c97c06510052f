/-
  Shapes of arguments that hold slices inside: what the reading's reach says of their lengths.
-/
import Derived.Test.YtnladolpcocchaaShapes
import Derived.SizedLaws
namespace Go.Proofs.Ytnladolpcocchaa
open Go.RowKit Go.ChangeShapes Go.WideShapes
set_option linter.unusedSimpArgs false
set_option linter.unusedVariables false
set_option maxRecDepth 10000

section
variable {H : Type} {enc : TypeId × Value → H} {P : Program} {w : World} {base : Nat} {spare : Nat → Bool} {held : Bool}

/-- Whatever reads by the type t, and weighs no more than may be, has the shape E. -/
def OpensZ {α : Type} (enc : TypeId × Value → H) (P : Program) (w : World) (base : Nat) (spare : Nat → Bool) (held : Bool) (t : TypeId) (E : Sh α) : Prop :=
  ∀ fuel cs x, DataW.trod enc P w base spare held fuel t cs = some x → (∀ n ∈ x.1.weights P t, n ≤ reachBytes) → ∃ a, E w cs a

theorem Opens.z {α : Type} {t : TypeId} {E : Sh α} (h : Opens enc P w base spare held t E) : OpensZ enc P w base spare held t E := fun fuel cs x hx _ => h fuel cs x hx

theorem weightsAll_mem {e : TypeId} {d : DataW H} {n : Nat} : ∀ {l : List (DataW H)}, d ∈ l → n ∈ d.weights P e → n ∈ DataW.weightsAll P e l
  | x :: l, hd, hn => by
    simp only [DataW.weightsAll, List.mem_append]
    rcases List.mem_cons.1 hd with rfl | q
    · exact .inl hn
    · exact .inr (weightsAll_mem q hn)

def shSliceZ {α : Type} (size bytes : Nat) (E : Sh α) : Sh (List α) := fun w cs l => ∃ p cap, cs = [.slice p l.length cap] ∧ l.length ≤ cap ∧ cap ≤ maxLen ∧ (p = none → cap = 0) ∧ l.length * bytes ≤ reachBytes ∧ LIn w p size E l

theorem opensZ_slice {α : Type} [Inhabited α] {t e : TypeId} {size bytes : Nat} {E : Sh α} (ht : P.underlying t = some (.slice e)) (hs : P.cellsOf e = size) (hby : P.bytesOf e = bytes) (h0 : 0 < size) (hE : OpensZ enc P w base spare held e E) : OpensZ enc P w base spare held t (shSliceZ size bytes E) := fun _ _ _ h hz => by
  rcases Go.Deep.open_slice ht h with ⟨rfl, _⟩ | ⟨a, len, cap, m, n, D, Pl, rfl, hb, hl, hm, hmm, rfl, hx⟩
  · exact ⟨[], none, 0, rfl, Nat.le_refl _, by simp [maxLen], fun _ => rfl, by simp [reachBytes], LIn.empty _ _ _ _⟩
  · have hlm : len ≤ m := by rw [hmm]; split <;> omega
    simp only [DataW.weights, ht, List.mem_cons, List.mem_append] at hz
    have hlen : len * bytes ≤ reachBytes := by
      have := hz _ (.inl rfl)
      rw [hby] at this
      simp only [List.length_map, List.length_range] at this
      exact Nat.le_trans (Nat.mul_le_mul_right _ (by omega)) this
    have each : ∀ i, i < len → ∃ q : α, ∃ cs, cs.length = size ∧ (∀ j, j < size → w.cell? (a.add (i * size + j)) = cs[j]?) ∧ E w cs q := by
      intro i hi
      obtain ⟨cs', h1, h2⟩ := hx i (by omega)
      obtain ⟨q, hq⟩ := hE _ _ _ h2 (fun n hn => hz n (.inr (.inl (weightsAll_mem (List.mem_map.2 ⟨i, by simpa using hi, rfl⟩) hn))))
      rw [hs] at h1
      obtain ⟨_, hlen, hcell⟩ := World.cells?_some h1
      exact ⟨q, cs', hlen, fun j hj => by rw [← Go.Deep.add_add]; exact hcell j hj, hq⟩
    obtain ⟨f, hf⟩ := Go.Deep.choose_lt each
    refine ⟨(List.range len).map f, some a, cap, by simp, by simpa using hl, hm, by simp, by simpa using hlen, fun hpos => ?_⟩
    have hpos' : 0 < len := by simpa using hpos
    obtain ⟨b, o, s⟩ := a
    obtain rfl : s = none := by
      obtain ⟨cs, hcl, hc, _⟩ := hf 0 hpos'
      have h1 := hc 0 h0
      have h2 : cs[0]? = some cs[0] := by simp
      rw [h2] at h1
      simpa [Addr.add] using World.cell?_spot h1
    refine ⟨b, o, rfl, fun i hi => ?_⟩
    have hi' : i < len := by simpa using hi
    obtain ⟨cs, hcl, hc, hq⟩ := hf i hi'
    refine ⟨cs, hcl, fun j hj => ?_, by simpa using hq⟩
    rw [Nat.add_assoc, ← Go.WideShapes.add_plain]
    exact hc j hj

theorem opensZ_struct2 {α β : Type} {t : TypeId} {f0 f1 : Field} {E : Sh α} {F : Sh β} (ht : P.underlying t = some (.struct #[f0, f1])) (o0 : f0.offset = 0) (o1 : f1.offset = P.cellsOf f0.type) (o2 : P.cellsOf t = P.cellsOf f0.type + P.cellsOf f1.type)
    (hE : OpensZ enc P w base spare held f0.type E) (hF : OpensZ enc P w base spare held f1.type F) : OpensZ enc P w base spare held t (shTwo E F) := fun _ cs x h hz => by
  obtain ⟨y0, y1, n, rfl, hl, h0, h1⟩ := trod_struct2 ht h
  simp only [DataW.weights, ht, List.map_cons, List.map_nil, DataW.weightsEach, List.mem_append] at hz
  obtain ⟨a, ha⟩ := hE _ _ _ h0 (fun n hn => hz n (by simp [DataW.weightsEach, hn]))
  obtain ⟨b, hb⟩ := hF _ _ _ h1 (fun n hn => hz n (by simp [DataW.weightsEach, hn]))
  rw [o0, List.drop_zero] at ha
  rw [o1, List.take_of_length_le (by simp; omega)] at hb
  exact ⟨(a, b), _, _, (List.take_append_drop (P.cellsOf f0.type) cs).symm, ha, hb⟩
end
end Go.Proofs.Ytnladolpcocchaa
