/-
  Package rec: Bare, own.
-/
import Derived.Test.YtmfkdohfejklhaaDoorRecF
namespace Go.Proofs.YtmfkdohfejklhaaDoor
open Go.RowKit
set_option linter.unusedSimpArgs false
set_option linter.unusedVariables false
set_option maxRecDepth 10000
set_option synthInstance.maxSize 2000


theorem FIn.fr {S : Nat → Prop} {w w' : World} {p : Option Addr} {l : List Fd} (h : FIn w p l) (k : Fr S w w') (h1 : 0 < l.length → ∀ a, p = some a → ¬ S a.block) (h2 : ∀ f ∈ l, 0 < f.d.length → ∀ a, f.p = some a → ¬ S a.block) : FIn w' p l := fun hl => by
  obtain ⟨b, o, rfl, hc⟩ := h.at hl
  have hn := h1 hl _ rfl
  refine FIn.of (fun i hi => ?_) hl
  obtain ⟨e1, e2, e3⟩ := hc i hi
  exact ⟨by rw [k.cell (p := ⟨b, o + i * 2, none⟩) (lt_of_cell e1) hn]; exact e1, by rw [k.cell (p := ⟨b, o + i * 2 + 1, none⟩) (lt_of_cell e2) hn]; exact e2, e3.fr k (h2 _ (by simp [List.getD, hi]))⟩

/-- All of its bag lies behind block B. -/
structure ROkA (B : Nat) (w : World) (r : Rc) : Prop where
  ok : ROk w r
  off : ∀ a, r.p = some a → B < a.block
  offs : ∀ f ∈ r.bag, 0 < f.d.length → ∀ a, f.p = some a → B < a.block

theorem ROkA.below {B : Nat} {w w' : World} {r : Rc} (h : ROkA B w r) (k : Below w.heap.size w w') : ROkA B w' r := ⟨h.ok.below k, h.off, h.offs⟩
theorem ROkA.mono {B B' : Nat} {w : World} {r : Rc} (h : ROkA B w r) (hb : B' ≤ B) : ROkA B' w r := ⟨h.ok, fun a ha => by have := h.off a ha; omega, fun f hf hl a ha => by have := h.offs f hf hl a ha; omega⟩
theorem ROkA.fr {B : Nat} {S : Nat → Prop} {w w' : World} {r : Rc} (h : ROkA B w r) (k : Fr S w w') (hs : ∀ i, S i → i ≤ B) : ROkA B w' r :=
  ⟨⟨h.ok.id, h.ok.inc, h.ok.st, h.ok.lo, h.ok.hi, h.ok.len, h.ok.cap, h.ok.nil, h.ok.fin.fr k (fun _ a ha q => by have := h.off a ha; have := hs _ q; omega) (fun f hf hl a ha q => by have := h.offs f hf hl a ha; have := hs _ q; omega), h.ok.few⟩, h.off, h.offs⟩

/-- Seven stores into one block. -/
theorem Fr.seven {S : Nat → Prop} {w X : World} (h : Fr S w X) {b o : Nat} (hb : S b) (r : Rc) :
    Fr S w (((((((X.setCell ⟨b, o, none⟩ (.int .i64 r.id)).setCell ⟨b, o + 1, none⟩ (.int .i64 r.inc)).setCell ⟨b, o + 2, none⟩ (.int .i64 r.st)).setCell ⟨b, o + 3, none⟩ (.int .i64 r.lo)).setCell ⟨b, o + 4, none⟩ (.int .i64 r.hi)).setCell ⟨b, o + 5, none⟩ (.bool r.cut)).setCell ⟨b, o + 6, none⟩ (.slice r.p r.bag.length r.cap)) :=
  ((((((h.setCell (p := ⟨b, o, none⟩) (.inl hb) _).setCell (p := ⟨b, o + 1, none⟩) (.inl hb) _).setCell (p := ⟨b, o + 2, none⟩) (.inl hb) _).setCell (p := ⟨b, o + 3, none⟩) (.inl hb) _).setCell (p := ⟨b, o + 4, none⟩) (.inl hb) _).setCell (p := ⟨b, o + 5, none⟩) (.inl hb) _).setCell (p := ⟨b, o + 6, none⟩) (.inl hb) _

def OwnPost (w : World) (r : Rc) (e : Ending) (w' : World) : Prop := ∃ r', e = .returned (.agg #[.int .i64 r'.id, .int .i64 r'.inc, .int .i64 r'.st, .int .i64 r'.lo, .int .i64 r'.hi, .bool r'.cut, .slice r'.p r'.bag.length r'.cap]) ∧ rk r' = rk r ∧ ROkA w.heap.size w' r' ∧ Below w.heap.size w w'


end Go.Proofs.YtmfkdohfejklhaaDoor
