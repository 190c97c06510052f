/-
  Package bag: Put.
-/
import Derived.Test.YtnladolpcocchaaBagP
namespace Go.Proofs.Ytnladolpcocchaa
open Go.RowKit
set_option linter.unusedSimpArgs false
set_option linter.unusedVariables false
set_option maxRecDepth 10000

def putK (x : Key) (l : List Key) : List Key := l.takeWhile (fun y => decide (y.1 ≤ x.1)) ++ x :: l.dropWhile (fun y => decide (y.1 ≤ x.1))

def PutPost (w : World) (x : Key) (L : List Key) (e : Ending) (w' : World) : Prop :=
  (if (mayK L && mayK [x]) = true then
    (if mayK (putK x L) = true then ∃ g l', e = .returned (.tuple #[.slice (some ⟨g, 0, none⟩) l'.length l'.length, .int .i64 0]) ∧ kys l' = putK x L ∧ FIn w' (some ⟨g, 0, none⟩) l' ∧ w.heap.size ≤ g
     else e = .returned (.tuple #[.slice none 0 0, .int .i64 6]))
   else e = .returned (.tuple #[.slice none 0 0, .int .i64 1])) ∧ Below w.heap.size w w'

theorem FIn.take {w : World} {p : Option Addr} {l : List Fd} (h : FIn w p l) (n : Nat) : FIn w p (l.take n) := fun hl => by
  simp at hl
  obtain ⟨b, o, rfl, hc⟩ := h.at (by omega)
  refine FIn.of (fun i hi => ?_) (by simpa using hl)
  simp at hi
  have := hc i (by omega)
  rwa [show (l.take n).getD i zf = l.getD i zf by simp [List.getD, List.getElem?_take, show i < n by omega]]

theorem FIn.drop {w : World} {p : Option Addr} {l : List Fd} (h : FIn w p l) (n : Nat) : FIn w (p.map fun x => x.add (n * 2)) (l.drop n) := fun hl => by
  simp at hl
  obtain ⟨b, o, rfl, hc⟩ := h.at (by omega)
  rw [Option.map_some, Go.WideShapes.add_plain]
  refine FIn.of (fun i hi => ?_) (by simpa using hl)
  simp at hi
  have := hc (n + i) (by omega)
  rw [show o + (n + i) * 2 = o + n * 2 + i * 2 by omega] at this
  rwa [show (l.drop n).getD i zf = l.getD (n + i) zf by simp [List.getD]]

theorem FIn.one {w : World} {g : Nat} {f : Fd} {t : TypeId} (h : w.heap[g]? = some (.cells #[.int .i64 f.tag, .slice f.p f.d.length f.cap] t (0, 0))) (hf : FOk w f) : FIn w (some ⟨g, 0, none⟩) [f] := by
  obtain ⟨h0, h1, _, _⟩ := two_cells h
  refine FIn.of fun i hi => ?_
  obtain rfl : i = 0 := by simp at hi; omega
  exact ⟨h0, h1, hf⟩

theorem while_take {l : List Fd} {v : Int} {k : Nat} (hk : k ≤ l.length) (h1 : ∀ f ∈ l.take k, f.tag ≤ v) (h2 : k < l.length → v < (l.getD k zf).tag) :
    (kys l).takeWhile (fun y => decide (y.1 ≤ v)) = kys (l.take k) ∧ (kys l).dropWhile (fun y => decide (y.1 ≤ v)) = kys (l.drop k) := by
  induction l generalizing k with
  | nil => simp [kys]
  | cons a l ih =>
    cases k with
    | zero =>
      have : ¬ a.tag ≤ v := by have := h2 (by simp); simp at this; omega
      simp [kys, ky, this, List.takeWhile_cons, List.dropWhile_cons]
    | succ k =>
      have ha : a.tag ≤ v := h1 a (by simp)
      have := ih (k := k) (by simpa using hk) (fun f hf => h1 f (by simp [hf])) (fun h => by simpa using h2 (by simpa using h))
      simp only [kys] at this ⊢
      simp [ky, ha, List.takeWhile_cons, List.dropWhile_cons, this]

theorem szK_one (x : Key) : szK [x] = x.2.length := by simp [szK]

/-- What stays while a field is put. -/
structure InPt (w : World) (f : Fd) (X : World) : Prop where
  below : Below w.heap.size w X
  box : X.heap[w.heap.size]? = some (.cells #[.int .i64 f.tag, .slice f.p f.d.length f.cap] 55 (0, 0))
  one : X.heap[w.heap.size + 1]? = some (.cells #[.int .i64 f.tag, .slice f.p f.d.length f.cap] 55 (0, 0))

theorem InPt.on {w X X' : World} {f : Fd} (h : InPt w f X) (k : Below X.heap.size X X') : InPt w f X' :=
  ⟨h.below.trans (k.mono h.below.size), by rw [k.block _ (Array.getElem?_eq_some_iff.1 h.box).1]; exact h.box, by rw [k.block _ (Array.getElem?_eq_some_iff.1 h.one).1]; exact h.one⟩

theorem FIn.oks {w : World} {p : Option Addr} {l : List Fd} (h : FIn w p l) : ∀ x ∈ l, FOk w x := fun x hx => by
  obtain ⟨i, hi, rfl⟩ := List.getElem_of_mem hx
  obtain ⟨_, _, _, hc⟩ := h.at (by omega)
  have := (hc i hi).2.2
  simpa [List.getD, hi] using this

/-- The three parts of what is put together. -/
theorem parts_in {X w : World} {p q : Option Addr} {c k : Nat} {l : List Fd} {f : Fd} (hk : k ≤ l.length) (hp : FIn X p l) (hf : FOk X f) (hq : FIn X q (l.drop k)) (hpn : p = none → c = 0) (hqn : q = none → c - k = 0)
    (h1 : X.heap[w.heap.size + 1]? = some (.cells #[.int .i64 f.tag, .slice f.p f.d.length f.cap] 55 (0, 0))) :
    PIn (X.alloc (.cells #[.slice p k c, .slice (some ⟨w.heap.size + 1, 0, none⟩) 1 1, .slice q (l.length - k) (c - k)] 32)) X.heap.size [⟨p, c, l.take k⟩, ⟨some ⟨w.heap.size + 1, 0, none⟩, 1, [f]⟩, ⟨q, c - k, l.drop k⟩] := by
  have hnew := heap_alloc_new X (.cells #[.slice p k c, .slice (some ⟨w.heap.size + 1, 0, none⟩) 1 1, .slice q (l.length - k) (c - k)] 32)
  have hb := (Below.refl X.heap.size X).alloc (Nat.le_refl _) (.cells #[.slice p k c, .slice (some ⟨w.heap.size + 1, 0, none⟩) 1 1, .slice q (l.length - k) (c - k)] 32)
  generalize X.alloc (.cells #[.slice p k c, .slice (some ⟨w.heap.size + 1, 0, none⟩) 1 1, .slice q (l.length - k) (c - k)] 32) = Y at hnew hb ⊢
  refine ⟨fun i hi => ?_, fun x hx => ?_, fun x hx => ?_⟩
  · have : i = 0 ∨ i = 1 ∨ i = 2 := by simp at hi; omega
    rcases this with rfl | rfl | rfl
    · simp [World.cell?, hnew, Nat.min_eq_left hk]
    · simp [World.cell?, hnew]
    · simp [World.cell?, hnew]
  · simp only [List.mem_cons, List.not_mem_nil, or_false] at hx
    rcases hx with rfl | rfl | rfl
    · exact (hp.below hb).take k
    · exact FIn.one (by rw [hb.block _ (Array.getElem?_eq_some_iff.1 h1).1]; exact h1) (hf.below hb)
    · exact hq.below hb
  · simp only [List.mem_cons, List.not_mem_nil, or_false] at hx
    rcases hx with rfl | rfl | rfl
    · exact hpn
    · simp
    · exact hqn


end Go.Proofs.Ytnladolpcocchaa
