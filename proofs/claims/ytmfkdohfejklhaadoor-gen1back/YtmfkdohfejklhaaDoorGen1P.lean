/-
  Stage 11: what Encode and Decode answer.
-/
import Derived.Test.YtmfkdohfejklhaaDoorGen1R
import Derived.Test.YtmfkdohfejklhaaDoorLaw10A
namespace Go.Proofs.YtmfkdohfejklhaaDoor
open Go.RowKit
set_option linter.unusedSimpArgs false
set_option linter.unusedVariables false
set_option maxRecDepth 10000
set_option synthInstance.maxSize 2000

/-- What Encode answers for a message. -/
def EncOk (m : Mg) (b : List Int) (err : Int) : Prop :=
  (fit1 m = true ∧ err = 0 ∧ b = body1 (mv m)) ∨ (mayM m = false ∧ err = 1 ∧ b = []) ∨ (mayM m = true ∧ fit1 m = false ∧ err = 14 ∧ b = [])
def EncPost (m : Mg) (w : World) (e : Ending) (w' : World) : Prop :=
  ∃ p c b err, e = .returned (.tuple #[.slice p b.length c, .int .i64 err]) ∧ BIn w' p b ∧ isB b ∧ (p = none → c = 0) ∧ b.length ≤ c ∧ c ≤ maxLen ∧ b.length ≤ 100000 ∧ Below w.heap.size w w' ∧ EncOk m b err
/-- What Decode answers for bytes. -/
def DecOk (l : List Int) (m : Mg) (err : Int) : Prop := (err = 0 ∧ Read1 l (mv m)) ∨ (err = 4 ∧ m = zm ∧ ∀ x, ¬ Read1 l x)
def DecPost (l : List Int) (w : World) (e : Ending) (w' : World) : Prop :=
  ∃ m : Mg, ∃ err : Int, e = .returned (.tuple #[.agg #[.int .i64 m.kind, .int .i64 m.frm, .int .i64 m.inc, .int .i64 m.lo, .int .i64 m.hi, .int .i64 m.seq, .int .i64 m.tgt, .int .i64 m.life, .int .i64 m.epoch, .int .i64 m.base, .slice m.p m.recs.length m.cap], .int .i64 err]) ∧ MOk w' m ∧ (∀ x ∈ m.recs, x.bag = []) ∧ Below w.heap.size w w' ∧ DecOk l m err

/-- Two readings of the same bytes. -/
theorem read_uniq {l : List Int} {x y : MV} (h : Read1 l x) (k : Read1 l y) : x = y := by
  obtain ⟨_, _, r1, h1, rfl, _⟩ := h
  obtain ⟨_, _, r2, h2, rfl, _⟩ := k
  rw [h1] at h2
  cases h2
  rfl
theorem bag_small {m : Mg} (h : ∀ x ∈ m.recs, x.bag = []) : ∀ x ∈ m.recs, szK (kys x.bag) ≤ 4611686018427387904 := fun x hx => by rw [h x hx]; simp [kys, szK]

/-- What is wanted of the program's functions. -/
structure Gen1Ok : Prop where
  enc : ∀ (m : Mg) (w : World), MOk w m → (∀ x ∈ m.recs, szK (kys x.bag) ≤ 4611686018427387904) → Kd w → Calls Tryd.prog 9 #[.agg #[.int .i64 m.kind, .int .i64 m.frm, .int .i64 m.inc, .int .i64 m.lo, .int .i64 m.hi, .int .i64 m.seq, .int .i64 m.tgt, .int .i64 m.life, .int .i64 m.epoch, .int .i64 m.base, .slice m.p m.recs.length m.cap]] w fun e w' => EncPost m w e w'
  dec : ∀ (p : Option Addr) (c : Nat) (l : List Int) (w : World), BIn w p l → isB l → l.length ≤ c → c ≤ maxLen → l.length ≤ 100000 → Kd w → Calls Tryd.prog 14 #[.slice p l.length c] w fun e w' => DecPost l w e w'
  fits : ∀ (m : Mg) (w : World), MOk w m → (∀ x ∈ m.recs, szK (kys x.bag) ≤ 4611686018427387904) → Kd w → Calls Tryd.prog 10 #[.agg #[.int .i64 m.kind, .int .i64 m.frm, .int .i64 m.inc, .int .i64 m.lo, .int .i64 m.hi, .int .i64 m.seq, .int .i64 m.tgt, .int .i64 m.life, .int .i64 m.epoch, .int .i64 m.base, .slice m.p m.recs.length m.cap]] w fun e w' => e = .returned (.bool (fit1 m)) ∧ Below w.heap.size w w'
end Go.Proofs.YtmfkdohfejklhaaDoor
