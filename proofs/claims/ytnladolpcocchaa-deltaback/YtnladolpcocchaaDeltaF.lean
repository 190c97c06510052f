/-
  Stage 14: what is wanted of the program's Diff, Over and Gone.
-/
import Derived.Test.YtnladolpcocchaaDeltaM
import Derived.Test.YtnladolpcocchaaRecX
import Derived.Test.YtnladolpcocchaaRecQ
import Derived.Test.YtnladolpcocchaaRecP
import Derived.Test.YtnladolpcocchaaAccM
namespace Go.Proofs.Ytnladolpcocchaa
open Go.RowKit
set_option linter.unusedSimpArgs false
set_option linter.unusedVariables false
set_option maxRecDepth 10000
set_option synthInstance.maxSize 2000

/-- Few enough records, and bags. -/
def SmK (l : List RK) : Prop := l.length ≤ 1000 ∧ ∀ r ∈ l, r.bag.length ≤ 1000 ∧ szK r.bag ≤ 1000000
theorem SmK.of_few {l : List Rc} (h : fewR (rks l) = true) : SmK (rks l) := by
  obtain ⟨h1, h2⟩ := fewR_yes h
  refine ⟨by rw [rks_len]; omega, fun r hr => ?_⟩
  obtain ⟨x, hx, rfl⟩ := List.mem_map.1 hr
  have := h2 x hx
  exact ⟨by rw [show (rk x).bag.length = x.bag.length from kys_len _]; omega, by show szK (kys x.bag) ≤ _; omega⟩
theorem SmK.sub {l k : List RK} (h : SmK l) (hk : k.length ≤ l.length) (hs : ∀ r ∈ k, r ∈ l) : SmK k := ⟨by have := h.1; omega, fun r hr => h.2 r (hs r hr)⟩
theorem SmK.len {l : List Rc} (h : SmK (rks l)) : l.length ≤ 1000 := by have := h.1; rwa [rks_len] at this
theorem SmK.bags {l : List Rc} (h : SmK (rks l)) : ∀ x ∈ l, x.bag.length ≤ 1000 ∧ szK (kys x.bag) ≤ 1000000 := fun x hx => by
  have := h.2 (rk x) (List.mem_map_of_mem hx)
  rwa [show (rk x).bag.length = x.bag.length from kys_len _] at this

/-- Both lists are sorted. -/
def bothS (b n : List RK) : Bool := sortR (-1) b && sortR (-1) n
/-- What a call comes to that gives records, and whether it could. -/
def GivesR (w : World) (ok : Bool) (K : List RK) (e : Ending) (w' : World) : Prop :=
  ∃ p c D, e = .returned (.tuple #[.slice p (List.length D) c, .bool ok]) ∧ RIn w' p D ∧ D.length ≤ c ∧ c ≤ maxLen ∧ (p = none → c = 0) ∧ rks D = (if ok = true then K else []) ∧ Below w.heap.size w w'
/-- What a call comes to that gives whole numbers, and whether it could. -/
def GivesN (w : World) (ok : Bool) (K : List Int) (e : Ending) (w' : World) : Prop :=
  ∃ p c G, e = .returned (.tuple #[.slice p (List.length G) c, .bool ok]) ∧ NIn w' p G ∧ G.length ≤ c ∧ c ≤ maxLen ∧ G = (if ok = true then K else []) ∧ Below w.heap.size w w'

structure DeltaOk : Prop where
  diff : ∀ (p : Option Addr) (c : Nat) (b : List Rc) (q : Option Addr) (d : Nat) (n : List Rc) (w : World), RIn w p b → b.length ≤ c → c ≤ maxLen → (p = none → c = 0) → SmK (rks b) → RIn w q n → n.length ≤ d → d ≤ maxLen → (q = none → d = 0) → SmK (rks n) →
    Calls Try.prog 8 #[.slice p b.length c, .slice q n.length d] w fun e w' => GivesR w (bothS (rks b) (rks n)) (diffK (rks b) (rks n)) e w'
  over : ∀ (p : Option Addr) (c : Nat) (b : List Rc) (q : Option Addr) (d : Nat) (n : List Rc) (w : World), RIn w p b → b.length ≤ c → c ≤ maxLen → (p = none → c = 0) → SmK (rks b) → RIn w q n → n.length ≤ d → d ≤ maxLen → (q = none → d = 0) → SmK (rks n) →
    Calls Try.prog 14 #[.slice p b.length c, .slice q n.length d] w fun e w' => GivesR w (bothS (rks b) (rks n)) (overK (rks b) (rks n)) e w'
  gone : ∀ (p : Option Addr) (c : Nat) (b : List Rc) (q : Option Addr) (d : Nat) (n : List Rc) (w : World), RIn w p b → b.length ≤ c → c ≤ maxLen → (p = none → c = 0) → SmK (rks b) → RIn w q n → n.length ≤ d → d ≤ maxLen → (q = none → d = 0) → SmK (rks n) →
    Calls Try.prog 9 #[.slice p b.length c, .slice q n.length d] w fun e w' => GivesN w (bothS (rks b) (rks n)) (goneK (rks b) (rks n)) e w'
end Go.Proofs.Ytnladolpcocchaa
