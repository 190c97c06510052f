/-
  No cell of these rows narrows 'for every input' (looked for: loops, veiled, ifaces, maps, wideKeys, modest, calm, conditions, laid).
  DERIVED. THE GIVEN ROWS OF THIS SEAT. 6 by the template 'for every input the law returns true; each argument reads behind the call as it read before'; 0 by the template 'total and deterministic' (their statements: YtdfjjajkeieocaaTotals.lean).
  GIVEN WITH THE SEED: the statements are not yours to turn. If you find one false, say at which input.
  Laid BY PROGRAM, IN A SANDBOX (cutbox-rows.mjs): the forced cells as the released guide's own fill.sh prints them over the translation 0d83f887b8acd8dd… (all of the seat's roots in one cut). By AI agents, Wed Nov 11 2026. No macro, syntax, notation, axiom, sorry.
-/
import Derived.Test.YtdfjjajkeieocaaChecked
import GoSem.Claim
import GoSem.ClaimJoined
import GoSem.ClaimMapViews
import Derived.JoinedTies
import Derived.KernelRfl
namespace Go.Proofs.Ytdfjjajkeieocaa
/- THE CELL 'sum', in the pinned program and in every row, IS THE sha256 OF THE DUMP (.gsa) THAT YtdfjjajkeieocaaProg.lean LOADS. Nothing in Lean hashes anything: it is a label: what it is worth is what the hold of that sum in a sandbox is worth. -/
noncomputable def Try.pinned : Pinned := { name := "ytdfjjajkeieocaa", sum := "0d83f887b8acd8ddb1c2474802b807193d8f566c04decbb98f11f4fab692e8e1", checked := Try.checked }
namespace Rows
def none {H : Type} : Left H := { results := [], args := [] }

/-- 'polyglotlaw08.RecLists': WHATEVER THE INPUT: true; the input reads as it did. -/
def recListsSpec : ChangeSpec := { name := "recLists", fn := fun _ => fun
  | [d1, d2, d3] => { results := [.lit (.bool true)], args := [d1, d2, d3] }
  | _ => none }
def recListsRow : OpenClaim := { program := "ytdfjjajkeieocaa", sum := "0d83f887b8acd8ddb1c2474802b807193d8f566c04decbb98f11f4fab692e8e1", func := "polyglot/polyglotlaw08.RecLists", spec := "recLists", inPlace := ["internal/bytealg.Compare"], unfollowed := true, recurses := true, apart := false }
def RecListsSaid : Prop := recListsRow.holds Try.pinned (OpenSpec.ofChange recListsSpec)

/-- ITS FALSE NEIGHBOUR: 'it returns false'. Refute it at one input. -/
def recListsWrong : ChangeSpec := { name := "recLists", fn := fun _ => fun
  | [d1, d2, d3] => { results := [.lit (.bool false)], args := [d1, d2, d3] }
  | _ => none }
def RecListsWrongFalsely : Prop := recListsRow.holds Try.pinned (OpenSpec.ofChange recListsWrong)

/-- 'polyglotlaw09.LatticeJoins': WHATEVER THE INPUT: true; the input reads as it did. -/
def latticeJoinsSpec : ChangeSpec := { name := "latticeJoins", fn := fun _ => fun
  | [d1, d2] => { results := [.lit (.bool true)], args := [d1, d2] }
  | _ => none }
def latticeJoinsRow : OpenClaim := { program := "ytdfjjajkeieocaa", sum := "0d83f887b8acd8ddb1c2474802b807193d8f566c04decbb98f11f4fab692e8e1", func := "polyglot/polyglotlaw09.LatticeJoins", spec := "latticeJoins", inPlace := ["internal/bytealg.Compare"], unfollowed := true, recurses := true, apart := false }
def LatticeJoinsSaid : Prop := latticeJoinsRow.holds Try.pinned (OpenSpec.ofChange latticeJoinsSpec)

/-- ITS FALSE NEIGHBOUR: 'it returns false'. Refute it at one input. -/
def latticeJoinsWrong : ChangeSpec := { name := "latticeJoins", fn := fun _ => fun
  | [d1, d2] => { results := [.lit (.bool false)], args := [d1, d2] }
  | _ => none }
def LatticeJoinsWrongFalsely : Prop := latticeJoinsRow.holds Try.pinned (OpenSpec.ofChange latticeJoinsWrong)

/-- 'polyglotlaw09.LatticeLaws': WHATEVER THE INPUT: true; the input reads as it did. -/
def latticeLawsSpec : ChangeSpec := { name := "latticeLaws", fn := fun _ => fun
  | [d1, d2, d3] => { results := [.lit (.bool true)], args := [d1, d2, d3] }
  | _ => none }
def latticeLawsRow : OpenClaim := { program := "ytdfjjajkeieocaa", sum := "0d83f887b8acd8ddb1c2474802b807193d8f566c04decbb98f11f4fab692e8e1", func := "polyglot/polyglotlaw09.LatticeLaws", spec := "latticeLaws", inPlace := ["internal/bytealg.Compare"], unfollowed := true, recurses := true, apart := false }
def LatticeLawsSaid : Prop := latticeLawsRow.holds Try.pinned (OpenSpec.ofChange latticeLawsSpec)

/-- ITS FALSE NEIGHBOUR: 'it returns false'. Refute it at one input. -/
def latticeLawsWrong : ChangeSpec := { name := "latticeLaws", fn := fun _ => fun
  | [d1, d2, d3] => { results := [.lit (.bool false)], args := [d1, d2, d3] }
  | _ => none }
def LatticeLawsWrongFalsely : Prop := latticeLawsRow.holds Try.pinned (OpenSpec.ofChange latticeLawsWrong)

/-- 'polyglotlaw09.LatticeMerges': WHATEVER THE INPUT: true; the input reads as it did. -/
def latticeMergesSpec : ChangeSpec := { name := "latticeMerges", fn := fun _ => fun
  | [d1, d2] => { results := [.lit (.bool true)], args := [d1, d2] }
  | _ => none }
def latticeMergesRow : OpenClaim := { program := "ytdfjjajkeieocaa", sum := "0d83f887b8acd8ddb1c2474802b807193d8f566c04decbb98f11f4fab692e8e1", func := "polyglot/polyglotlaw09.LatticeMerges", spec := "latticeMerges", inPlace := ["internal/bytealg.Compare"], unfollowed := true, recurses := true, apart := false }
def LatticeMergesSaid : Prop := latticeMergesRow.holds Try.pinned (OpenSpec.ofChange latticeMergesSpec)

/-- ITS FALSE NEIGHBOUR: 'it returns false'. Refute it at one input. -/
def latticeMergesWrong : ChangeSpec := { name := "latticeMerges", fn := fun _ => fun
  | [d1, d2] => { results := [.lit (.bool false)], args := [d1, d2] }
  | _ => none }
def LatticeMergesWrongFalsely : Prop := latticeMergesRow.holds Try.pinned (OpenSpec.ofChange latticeMergesWrong)

/-- 'polyglotlaw09.LatticeOrders': WHATEVER THE INPUT: true; the input reads as it did. -/
def latticeOrdersSpec : ChangeSpec := { name := "latticeOrders", fn := fun _ => fun
  | [d1, d2, d3] => { results := [.lit (.bool true)], args := [d1, d2, d3] }
  | _ => none }
def latticeOrdersRow : OpenClaim := { program := "ytdfjjajkeieocaa", sum := "0d83f887b8acd8ddb1c2474802b807193d8f566c04decbb98f11f4fab692e8e1", func := "polyglot/polyglotlaw09.LatticeOrders", spec := "latticeOrders", inPlace := ["internal/bytealg.Compare"], unfollowed := true, recurses := true, apart := false }
def LatticeOrdersSaid : Prop := latticeOrdersRow.holds Try.pinned (OpenSpec.ofChange latticeOrdersSpec)

/-- ITS FALSE NEIGHBOUR: 'it returns false'. Refute it at one input. -/
def latticeOrdersWrong : ChangeSpec := { name := "latticeOrders", fn := fun _ => fun
  | [d1, d2, d3] => { results := [.lit (.bool false)], args := [d1, d2, d3] }
  | _ => none }
def LatticeOrdersWrongFalsely : Prop := latticeOrdersRow.holds Try.pinned (OpenSpec.ofChange latticeOrdersWrong)

/-- 'polyglotlaw09.LatticeUnders': WHATEVER THE INPUT: true; the input reads as it did. -/
def latticeUndersSpec : ChangeSpec := { name := "latticeUnders", fn := fun _ => fun
  | [d1, d2] => { results := [.lit (.bool true)], args := [d1, d2] }
  | _ => none }
def latticeUndersRow : OpenClaim := { program := "ytdfjjajkeieocaa", sum := "0d83f887b8acd8ddb1c2474802b807193d8f566c04decbb98f11f4fab692e8e1", func := "polyglot/polyglotlaw09.LatticeUnders", spec := "latticeUnders", inPlace := ["internal/bytealg.Compare"], unfollowed := true, recurses := true, apart := false }
def LatticeUndersSaid : Prop := latticeUndersRow.holds Try.pinned (OpenSpec.ofChange latticeUndersSpec)

/-- ITS FALSE NEIGHBOUR: 'it returns false'. Refute it at one input. -/
def latticeUndersWrong : ChangeSpec := { name := "latticeUnders", fn := fun _ => fun
  | [d1, d2] => { results := [.lit (.bool false)], args := [d1, d2] }
  | _ => none }
def LatticeUndersWrongFalsely : Prop := latticeUndersRow.holds Try.pinned (OpenSpec.ofChange latticeUndersWrong)

/- THE SECOND FORM. 'bulk': how many values and letters a reading holds, each counted each time it is reached (what is shared counts as often as it is met; a slice's spare places count too). A statement '..UptoSaid' is the law's where the arguments, and the package variables that the reading takes, are together of bulk at most 1048576: NARROWER than '..Said'. Prove '..Said' where nothing that the law and all that it calls make is longer than what came in: it says more and counts as full. Else prove '..UptoSaid'. A law counts once. -/
mutual
def uptoBulk {H : Type} : DataW H → Nat
  | .lit (.string bytes) => bytes.length + 1
  | .lit _ => 1
  | .nil => 1
  | .ptr d => uptoBulk d + 1
  | .slice elems spare => uptoBulkAll elems + uptoBulkAll spare + 1
  | .agg parts => uptoBulkAll parts + 1
  | .iface _ d => uptoBulk d + 1
  | .map entries => uptoBulkEntries entries + 1
  | .held _ => 1
def uptoBulkAll {H : Type} : List (DataW H) → Nat
  | [] => 0
  | d :: r => uptoBulk d + uptoBulkAll r
def uptoBulkEntries {H : Type} : List (Lit × DataW H) → Nat
  | [] => 0
  | x :: r => uptoBulkEntry x + uptoBulkEntries r
def uptoBulkEntry {H : Type} : Lit × DataW H → Nat
  | (.string bytes, d) => bytes.length + uptoBulk d + 1
  | (_, d) => uptoBulk d + 1
 end
def uptoSmall : (H : Type) → List (DataW H) → Bool := fun _ ds => decide (uptoBulkAll ds ≤ 1048576)
def OpenSpec.upto (s : _root_.Go.ChangeSpec) : _root_.Go.OpenSpec := { _root_.Go.OpenSpec.ofChange s with cond := some uptoSmall }

/-- 'polyglotlaw08.RecLists', WHERE WHAT IT READS IS OF BULK AT MOST 1048576: true; the input reads as it did. -/
def recListsUptoRow : OpenClaim := { program := "ytdfjjajkeieocaa", sum := "0d83f887b8acd8ddb1c2474802b807193d8f566c04decbb98f11f4fab692e8e1", func := "polyglot/polyglotlaw08.RecLists", spec := "recLists", inPlace := ["internal/bytealg.Compare"], unfollowed := true, recurses := true, apart := false, narrowed := true }
def RecListsUptoSaid : Prop := recListsUptoRow.holds Try.pinned (OpenSpec.upto recListsSpec)

/-- 'polyglotlaw09.LatticeJoins', WHERE WHAT IT READS IS OF BULK AT MOST 1048576: true; the input reads as it did. -/
def latticeJoinsUptoRow : OpenClaim := { program := "ytdfjjajkeieocaa", sum := "0d83f887b8acd8ddb1c2474802b807193d8f566c04decbb98f11f4fab692e8e1", func := "polyglot/polyglotlaw09.LatticeJoins", spec := "latticeJoins", inPlace := ["internal/bytealg.Compare"], unfollowed := true, recurses := true, apart := false, narrowed := true }
def LatticeJoinsUptoSaid : Prop := latticeJoinsUptoRow.holds Try.pinned (OpenSpec.upto latticeJoinsSpec)

/-- 'polyglotlaw09.LatticeLaws', WHERE WHAT IT READS IS OF BULK AT MOST 1048576: true; the input reads as it did. -/
def latticeLawsUptoRow : OpenClaim := { program := "ytdfjjajkeieocaa", sum := "0d83f887b8acd8ddb1c2474802b807193d8f566c04decbb98f11f4fab692e8e1", func := "polyglot/polyglotlaw09.LatticeLaws", spec := "latticeLaws", inPlace := ["internal/bytealg.Compare"], unfollowed := true, recurses := true, apart := false, narrowed := true }
def LatticeLawsUptoSaid : Prop := latticeLawsUptoRow.holds Try.pinned (OpenSpec.upto latticeLawsSpec)

/-- 'polyglotlaw09.LatticeMerges', WHERE WHAT IT READS IS OF BULK AT MOST 1048576: true; the input reads as it did. -/
def latticeMergesUptoRow : OpenClaim := { program := "ytdfjjajkeieocaa", sum := "0d83f887b8acd8ddb1c2474802b807193d8f566c04decbb98f11f4fab692e8e1", func := "polyglot/polyglotlaw09.LatticeMerges", spec := "latticeMerges", inPlace := ["internal/bytealg.Compare"], unfollowed := true, recurses := true, apart := false, narrowed := true }
def LatticeMergesUptoSaid : Prop := latticeMergesUptoRow.holds Try.pinned (OpenSpec.upto latticeMergesSpec)

/-- 'polyglotlaw09.LatticeOrders', WHERE WHAT IT READS IS OF BULK AT MOST 1048576: true; the input reads as it did. -/
def latticeOrdersUptoRow : OpenClaim := { program := "ytdfjjajkeieocaa", sum := "0d83f887b8acd8ddb1c2474802b807193d8f566c04decbb98f11f4fab692e8e1", func := "polyglot/polyglotlaw09.LatticeOrders", spec := "latticeOrders", inPlace := ["internal/bytealg.Compare"], unfollowed := true, recurses := true, apart := false, narrowed := true }
def LatticeOrdersUptoSaid : Prop := latticeOrdersUptoRow.holds Try.pinned (OpenSpec.upto latticeOrdersSpec)

/-- 'polyglotlaw09.LatticeUnders', WHERE WHAT IT READS IS OF BULK AT MOST 1048576: true; the input reads as it did. -/
def latticeUndersUptoRow : OpenClaim := { program := "ytdfjjajkeieocaa", sum := "0d83f887b8acd8ddb1c2474802b807193d8f566c04decbb98f11f4fab692e8e1", func := "polyglot/polyglotlaw09.LatticeUnders", spec := "latticeUnders", inPlace := ["internal/bytealg.Compare"], unfollowed := true, recurses := true, apart := false, narrowed := true }
def LatticeUndersUptoSaid : Prop := latticeUndersUptoRow.holds Try.pinned (OpenSpec.upto latticeUndersSpec)

end Rows
end Go.Proofs.Ytdfjjajkeieocaa
