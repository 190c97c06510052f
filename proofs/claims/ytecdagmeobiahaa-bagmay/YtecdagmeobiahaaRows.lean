/-
  No cell of these rows narrows 'for every input' (looked for: loops, veiled, ifaces, maps, wideKeys, modest, calm, conditions, laid).
  DERIVED. THE GIVEN ROWS OF THIS SEAT. 6 by the template 'for every input the law returns true; each argument reads behind the call as it read before'; 0 by the template 'total and deterministic' (their statements: YtecdagmeobiahaaTotals.lean).
  GIVEN WITH THE SEED: the statements are not yours to turn. If you find one false, say at which input.
  Laid BY PROGRAM, IN A SANDBOX (cutbox-rows.mjs): the forced cells as the released guide's own fill.sh prints them over the translation e2ca2c00af4145c6… (all of the seat's roots in one cut). By AI agents, Wed Nov 11 2026. No macro, syntax, notation, axiom, sorry.
-/
import Derived.Test.YtecdagmeobiahaaChecked
import GoSem.Claim
import GoSem.ClaimJoined
import GoSem.ClaimMapViews
import Derived.JoinedTies
import Derived.KernelRfl
namespace Go.Proofs.Ytecdagmeobiahaa
/- THE CELL 'sum', in the pinned program and in every row, IS THE sha256 OF THE DUMP (.gsa) THAT YtecdagmeobiahaaProg.lean LOADS. Nothing in Lean hashes anything: it is a label: what it is worth is what the hold of that sum in a sandbox is worth. -/
noncomputable def Try.pinned : Pinned := { name := "ytecdagmeobiahaa", sum := "e2ca2c00af4145c61b21800e4c06866941458749e7324b0c3c7cb38866b14b1a", checked := Try.checked }
namespace Rows
def none {H : Type} : Left H := { results := [], args := [] }

/-- 'polyglotlaw06.BagMay': WHATEVER THE INPUT: true; the input reads as it did. -/
def bagMaySpec : ChangeSpec := { name := "bagMay", fn := fun _ => fun
  | [d] => { results := [.lit (.bool true)], args := [d] }
  | _ => none }
def bagMayRow : OpenClaim := { program := "ytecdagmeobiahaa", sum := "e2ca2c00af4145c61b21800e4c06866941458749e7324b0c3c7cb38866b14b1a", func := "polyglot/polyglotlaw06.BagMay", spec := "bagMay", inPlace := ["internal/bytealg.Compare"], unfollowed := true, recurses := true, apart := false }
def BagMaySaid : Prop := bagMayRow.holds Try.pinned (OpenSpec.ofChange bagMaySpec)

/-- ITS FALSE NEIGHBOUR: 'it returns false'. Refute it at one input. -/
def bagMayWrong : ChangeSpec := { name := "bagMay", fn := fun _ => fun
  | [d] => { results := [.lit (.bool false)], args := [d] }
  | _ => none }
def BagMayWrongFalsely : Prop := bagMayRow.holds Try.pinned (OpenSpec.ofChange bagMayWrong)

/-- 'polyglotlaw06.BagOrders': WHATEVER THE INPUT: true; the input reads as it did. -/
def bagOrdersSpec : ChangeSpec := { name := "bagOrders", fn := fun _ => fun
  | [d1, d2] => { results := [.lit (.bool true)], args := [d1, d2] }
  | _ => none }
def bagOrdersRow : OpenClaim := { program := "ytecdagmeobiahaa", sum := "e2ca2c00af4145c61b21800e4c06866941458749e7324b0c3c7cb38866b14b1a", func := "polyglot/polyglotlaw06.BagOrders", spec := "bagOrders", inPlace := ["internal/bytealg.Compare"], unfollowed := true, recurses := true, apart := false }
def BagOrdersSaid : Prop := bagOrdersRow.holds Try.pinned (OpenSpec.ofChange bagOrdersSpec)

/-- ITS FALSE NEIGHBOUR: 'it returns false'. Refute it at one input. -/
def bagOrdersWrong : ChangeSpec := { name := "bagOrders", fn := fun _ => fun
  | [d1, d2] => { results := [.lit (.bool false)], args := [d1, d2] }
  | _ => none }
def BagOrdersWrongFalsely : Prop := bagOrdersRow.holds Try.pinned (OpenSpec.ofChange bagOrdersWrong)

/-- 'polyglotlaw06.BagChains': WHATEVER THE INPUT: true; the input reads as it did. -/
def bagChainsSpec : ChangeSpec := { name := "bagChains", fn := fun _ => fun
  | [d1, d2, d3] => { results := [.lit (.bool true)], args := [d1, d2, d3] }
  | _ => none }
def bagChainsRow : OpenClaim := { program := "ytecdagmeobiahaa", sum := "e2ca2c00af4145c61b21800e4c06866941458749e7324b0c3c7cb38866b14b1a", func := "polyglot/polyglotlaw06.BagChains", spec := "bagChains", inPlace := ["internal/bytealg.Compare"], unfollowed := true, recurses := true, apart := false }
def BagChainsSaid : Prop := bagChainsRow.holds Try.pinned (OpenSpec.ofChange bagChainsSpec)

/-- ITS FALSE NEIGHBOUR: 'it returns false'. Refute it at one input. -/
def bagChainsWrong : ChangeSpec := { name := "bagChains", fn := fun _ => fun
  | [d1, d2, d3] => { results := [.lit (.bool false)], args := [d1, d2, d3] }
  | _ => none }
def BagChainsWrongFalsely : Prop := bagChainsRow.holds Try.pinned (OpenSpec.ofChange bagChainsWrong)

/-- 'polyglotlaw06.BagPuts': WHATEVER THE INPUT: true; the input reads as it did. -/
def bagPutsSpec : ChangeSpec := { name := "bagPuts", fn := fun _ => fun
  | [d1, d2] => { results := [.lit (.bool true)], args := [d1, d2] }
  | _ => none }
def bagPutsRow : OpenClaim := { program := "ytecdagmeobiahaa", sum := "e2ca2c00af4145c61b21800e4c06866941458749e7324b0c3c7cb38866b14b1a", func := "polyglot/polyglotlaw06.BagPuts", spec := "bagPuts", unfollowed := true, recurses := true, apart := false }
def BagPutsSaid : Prop := bagPutsRow.holds Try.pinned (OpenSpec.ofChange bagPutsSpec)

/-- ITS FALSE NEIGHBOUR: 'it returns false'. Refute it at one input. -/
def bagPutsWrong : ChangeSpec := { name := "bagPuts", fn := fun _ => fun
  | [d1, d2] => { results := [.lit (.bool false)], args := [d1, d2] }
  | _ => none }
def BagPutsWrongFalsely : Prop := bagPutsRow.holds Try.pinned (OpenSpec.ofChange bagPutsWrong)

/-- 'polyglotlaw07.KnownReads': WHATEVER THE INPUT: true; the input reads as it did. -/
def knownReadsSpec : ChangeSpec := { name := "knownReads", fn := fun _ => fun
  | [d] => { results := [.lit (.bool true)], args := [d] }
  | _ => none }
def knownReadsRow : OpenClaim := { program := "ytecdagmeobiahaa", sum := "e2ca2c00af4145c61b21800e4c06866941458749e7324b0c3c7cb38866b14b1a", func := "polyglot/polyglotlaw07.KnownReads", spec := "knownReads", apart := false }
def KnownReadsSaid : Prop := knownReadsRow.holds Try.pinned (OpenSpec.ofChange knownReadsSpec)

/-- ITS FALSE NEIGHBOUR: 'it returns false'. Refute it at one input. -/
def knownReadsWrong : ChangeSpec := { name := "knownReads", fn := fun _ => fun
  | [d] => { results := [.lit (.bool false)], args := [d] }
  | _ => none }
def KnownReadsWrongFalsely : Prop := knownReadsRow.holds Try.pinned (OpenSpec.ofChange knownReadsWrong)

/-- 'polyglotlaw07.KnownMakes': WHATEVER THE INPUT: true; the input reads as it did. -/
def knownMakesSpec : ChangeSpec := { name := "knownMakes", fn := fun _ => fun
  | [d1, d2, d3] => { results := [.lit (.bool true)], args := [d1, d2, d3] }
  | _ => none }
def knownMakesRow : OpenClaim := { program := "ytecdagmeobiahaa", sum := "e2ca2c00af4145c61b21800e4c06866941458749e7324b0c3c7cb38866b14b1a", func := "polyglot/polyglotlaw07.KnownMakes", spec := "knownMakes", apart := false }
def KnownMakesSaid : Prop := knownMakesRow.holds Try.pinned (OpenSpec.ofChange knownMakesSpec)

/-- ITS FALSE NEIGHBOUR: 'it returns false'. Refute it at one input. -/
def knownMakesWrong : ChangeSpec := { name := "knownMakes", fn := fun _ => fun
  | [d1, d2, d3] => { results := [.lit (.bool false)], args := [d1, d2, d3] }
  | _ => none }
def KnownMakesWrongFalsely : Prop := knownMakesRow.holds Try.pinned (OpenSpec.ofChange knownMakesWrong)

/- THE SECOND FORM. 'bulk': how many values and letters a reading holds, each counted each time it is reached (what is shared counts as often as it is met; a slice's spare places count too). A statement '..UptoSaid' is the law's where the arguments, and the package variables that the reading takes, are together of bulk at most 1048576: NARROWER than '..Said'. Prove '..Said' where nothing that the law and all that it calls make is longer than what came in: it says more and counts as full. Else prove '..UptoSaid'. A law counts once. -/
mutual
def uptoBulk {H : Type} : DataW H → Nat
  | .lit (.string bytes) => bytes.length + 1
  | .lit _ => 1
  | .nil => 1
  | .ptr d => uptoBulk d + 1
  | .slice elems spare => uptoBulkAll elems + uptoBulkAll spare + 1
  | .agg parts => uptoBulkAll parts + 1
  | .iface _ d => uptoBulk d + 1
  | .map entries => uptoBulkEntries entries + 1
  | .held _ => 1
def uptoBulkAll {H : Type} : List (DataW H) → Nat
  | [] => 0
  | d :: r => uptoBulk d + uptoBulkAll r
def uptoBulkEntries {H : Type} : List (Lit × DataW H) → Nat
  | [] => 0
  | x :: r => uptoBulkEntry x + uptoBulkEntries r
def uptoBulkEntry {H : Type} : Lit × DataW H → Nat
  | (.string bytes, d) => bytes.length + uptoBulk d + 1
  | (_, d) => uptoBulk d + 1
 end
def uptoSmall : (H : Type) → List (DataW H) → Bool := fun _ ds => decide (uptoBulkAll ds ≤ 1048576)
def OpenSpec.upto (s : _root_.Go.ChangeSpec) : _root_.Go.OpenSpec := { _root_.Go.OpenSpec.ofChange s with cond := some uptoSmall }

/-- 'polyglotlaw06.BagMay', WHERE WHAT IT READS IS OF BULK AT MOST 1048576: true; the input reads as it did. -/
def bagMayUptoRow : OpenClaim := { program := "ytecdagmeobiahaa", sum := "e2ca2c00af4145c61b21800e4c06866941458749e7324b0c3c7cb38866b14b1a", func := "polyglot/polyglotlaw06.BagMay", spec := "bagMay", inPlace := ["internal/bytealg.Compare"], unfollowed := true, recurses := true, apart := false, narrowed := true }
def BagMayUptoSaid : Prop := bagMayUptoRow.holds Try.pinned (OpenSpec.upto bagMaySpec)

/-- 'polyglotlaw06.BagOrders', WHERE WHAT IT READS IS OF BULK AT MOST 1048576: true; the input reads as it did. -/
def bagOrdersUptoRow : OpenClaim := { program := "ytecdagmeobiahaa", sum := "e2ca2c00af4145c61b21800e4c06866941458749e7324b0c3c7cb38866b14b1a", func := "polyglot/polyglotlaw06.BagOrders", spec := "bagOrders", inPlace := ["internal/bytealg.Compare"], unfollowed := true, recurses := true, apart := false, narrowed := true }
def BagOrdersUptoSaid : Prop := bagOrdersUptoRow.holds Try.pinned (OpenSpec.upto bagOrdersSpec)

/-- 'polyglotlaw06.BagChains', WHERE WHAT IT READS IS OF BULK AT MOST 1048576: true; the input reads as it did. -/
def bagChainsUptoRow : OpenClaim := { program := "ytecdagmeobiahaa", sum := "e2ca2c00af4145c61b21800e4c06866941458749e7324b0c3c7cb38866b14b1a", func := "polyglot/polyglotlaw06.BagChains", spec := "bagChains", inPlace := ["internal/bytealg.Compare"], unfollowed := true, recurses := true, apart := false, narrowed := true }
def BagChainsUptoSaid : Prop := bagChainsUptoRow.holds Try.pinned (OpenSpec.upto bagChainsSpec)

/-- 'polyglotlaw06.BagPuts', WHERE WHAT IT READS IS OF BULK AT MOST 1048576: true; the input reads as it did. -/
def bagPutsUptoRow : OpenClaim := { program := "ytecdagmeobiahaa", sum := "e2ca2c00af4145c61b21800e4c06866941458749e7324b0c3c7cb38866b14b1a", func := "polyglot/polyglotlaw06.BagPuts", spec := "bagPuts", unfollowed := true, recurses := true, apart := false, narrowed := true }
def BagPutsUptoSaid : Prop := bagPutsUptoRow.holds Try.pinned (OpenSpec.upto bagPutsSpec)

/-- 'polyglotlaw07.KnownReads', WHERE WHAT IT READS IS OF BULK AT MOST 1048576: true; the input reads as it did. -/
def knownReadsUptoRow : OpenClaim := { program := "ytecdagmeobiahaa", sum := "e2ca2c00af4145c61b21800e4c06866941458749e7324b0c3c7cb38866b14b1a", func := "polyglot/polyglotlaw07.KnownReads", spec := "knownReads", apart := false, narrowed := true }
def KnownReadsUptoSaid : Prop := knownReadsUptoRow.holds Try.pinned (OpenSpec.upto knownReadsSpec)

/-- 'polyglotlaw07.KnownMakes', WHERE WHAT IT READS IS OF BULK AT MOST 1048576: true; the input reads as it did. -/
def knownMakesUptoRow : OpenClaim := { program := "ytecdagmeobiahaa", sum := "e2ca2c00af4145c61b21800e4c06866941458749e7324b0c3c7cb38866b14b1a", func := "polyglot/polyglotlaw07.KnownMakes", spec := "knownMakes", apart := false, narrowed := true }
def KnownMakesUptoSaid : Prop := knownMakesUptoRow.holds Try.pinned (OpenSpec.upto knownMakesSpec)

end Rows
end Go.Proofs.Ytecdagmeobiahaa
