/-
  NARROWER THAN 'FOR EVERY INPUT', by the rows' own cells (each row's printed sentence says how): Gen1Writes: laid · Gen1Reads: laid · Gen1Image: laid · Gen1Back: laid.
  DERIVED. THE GIVEN ROWS OF THIS SEAT. 4 by the template 'for every input the law returns true; each argument reads behind the call as it read before'; 0 by the template 'total and deterministic' (their statements: YtmfkdohfejklhaaDoorTotals.lean).
  GIVEN WITH THE SEED: the statements are not yours to turn. If you find one false, say at which input.
  Laid BY PROGRAM, IN A SANDBOX (cutbox-rows.mjs): the forced cells as the released guide's own fill.sh prints them over the translation bf64ff1a39db1d3e… (all of the seat's roots in one cut). By AI agents, Wed Nov 11 2026. No macro, syntax, notation, axiom, sorry.
-/
import Derived.Test.YtmfkdohfejklhaaDoorChecked
import GoSem.Claim
import GoSem.ClaimJoined
import GoSem.ClaimMapViews
import Derived.JoinedTies
import Derived.KernelRfl
namespace Go.Proofs.YtmfkdohfejklhaaDoor
/- THE CELL 'sum', in the pinned program and in every row, IS THE sha256 OF THE DUMP (.gsa) THAT YtmfkdohfejklhaaDoorProg.lean LOADS. Nothing in Lean hashes anything: it is a label: what it is worth is what the hold of that sum in a sandbox is worth. -/
noncomputable def Tryd.pinned : Pinned := { name := "ytmfkdohfejklhaadoor", sum := "bf64ff1a39db1d3e33373ec439d4501a6ff7be6d20d6e2e547d4bdd175e49c4c", checked := Tryd.checked }
namespace Rows
def none {H : Type} : Left H := { results := [], args := [] }

/- WHAT THE LISTED PACKAGE-LEVEL VARIABLES READ AS WHEN THE CALL BEGINS. Each datum BY PROGRAM (the guide's laid-datum.mjs) off the statement by which the dump's own 'gosem.cut.vars' lays the variable. In a bare row this is a premise. The card (YtmfkdohfejklhaaDoorCards.lean) ties it to the program's text. -/
def laid_polyglot_msg_kinds {H : Type} : DataW H := .agg [.agg [.lit (.string []), .agg [.lit (.bool false), .lit (.bool false), .lit (.bool false), .lit (.bool false), .lit (.bool false)]], .agg [.lit (.string [104, 101, 108, 108, 111]), .agg [.lit (.bool true), .lit (.bool false), .lit (.bool false), .lit (.bool false), .lit (.bool false)]], .agg [.lit (.string [119, 101, 108, 99, 111, 109, 101]), .agg [.lit (.bool true), .lit (.bool false), .lit (.bool false), .lit (.bool false), .lit (.bool false)]], .agg [.lit (.string [114, 101, 106, 101, 99, 116]), .agg [.lit (.bool false), .lit (.bool true), .lit (.bool false), .lit (.bool false), .lit (.bool false)]], .agg [.lit (.string [112, 105, 110, 103]), .agg [.lit (.bool true), .lit (.bool false), .lit (.bool false), .lit (.bool false), .lit (.bool true)]], .agg [.lit (.string [97, 99, 107]), .agg [.lit (.bool true), .lit (.bool false), .lit (.bool false), .lit (.bool false), .lit (.bool true)]], .agg [.lit (.string [97, 115, 107]), .agg [.lit (.bool true), .lit (.bool true), .lit (.bool false), .lit (.bool false), .lit (.bool true)]], .agg [.lit (.string [112, 117, 115, 104]), .agg [.lit (.bool false), .lit (.bool false), .lit (.bool true), .lit (.bool true), .lit (.bool true)]], .agg [.lit (.string [112, 117, 108, 108]), .agg [.lit (.bool false), .lit (.bool false), .lit (.bool true), .lit (.bool false), .lit (.bool true)]], .agg [.lit (.string [114, 101, 115, 101, 116]), .agg [.lit (.bool false), .lit (.bool false), .lit (.bool true), .lit (.bool false), .lit (.bool false)]]]

/-- 'polyglotlaw11.Gen1Writes': WHATEVER THE INPUT: true; the input reads as it did. -/
def gen1WritesSpec : ChangeSpec := { name := "gen1Writes", fn := fun _ => fun
  | [d] => { results := [.lit (.bool true)], args := [d] }
  | _ => none }
def gen1WritesRow : OpenClaim := { program := "ytmfkdohfejklhaadoor", sum := "bf64ff1a39db1d3e33373ec439d4501a6ff7be6d20d6e2e547d4bdd175e49c4c", func := "polyglot/polyglotlaw11.Gen1Writes", spec := "gen1Writes", unfollowed := true, recurses := true, named := ["polyglot/msg.kinds"], apart := false, laid := [("polyglot/msg.kinds", laid_polyglot_msg_kinds)] }
def Gen1WritesSaid : Prop := gen1WritesRow.holds Tryd.pinned (OpenSpec.ofChange gen1WritesSpec)

/-- ITS FALSE NEIGHBOUR: 'it returns false'. Refute it at one input. -/
def gen1WritesWrong : ChangeSpec := { name := "gen1Writes", fn := fun _ => fun
  | [d] => { results := [.lit (.bool false)], args := [d] }
  | _ => none }
def Gen1WritesWrongFalsely : Prop := gen1WritesRow.holds Tryd.pinned (OpenSpec.ofChange gen1WritesWrong)

/-- 'polyglotlaw11.Gen1Reads': WHATEVER THE INPUT: true; the input reads as it did. -/
def gen1ReadsSpec : ChangeSpec := { name := "gen1Reads", fn := fun _ => fun
  | [d] => { results := [.lit (.bool true)], args := [d] }
  | _ => none }
def gen1ReadsRow : OpenClaim := { program := "ytmfkdohfejklhaadoor", sum := "bf64ff1a39db1d3e33373ec439d4501a6ff7be6d20d6e2e547d4bdd175e49c4c", func := "polyglot/polyglotlaw11.Gen1Reads", spec := "gen1Reads", inPlace := ["internal/bytealg.Compare"], unfollowed := true, recurses := true, named := ["polyglot/msg.kinds"], apart := false, laid := [("polyglot/msg.kinds", laid_polyglot_msg_kinds)] }
def Gen1ReadsSaid : Prop := gen1ReadsRow.holds Tryd.pinned (OpenSpec.ofChange gen1ReadsSpec)

/-- ITS FALSE NEIGHBOUR: 'it returns false'. Refute it at one input. -/
def gen1ReadsWrong : ChangeSpec := { name := "gen1Reads", fn := fun _ => fun
  | [d] => { results := [.lit (.bool false)], args := [d] }
  | _ => none }
def Gen1ReadsWrongFalsely : Prop := gen1ReadsRow.holds Tryd.pinned (OpenSpec.ofChange gen1ReadsWrong)

/-- 'polyglotlaw11.Gen1Image': WHATEVER THE INPUT: true; the input reads as it did. -/
def gen1ImageSpec : ChangeSpec := { name := "gen1Image", fn := fun _ => fun
  | [d] => { results := [.lit (.bool true)], args := [d] }
  | _ => none }
def gen1ImageRow : OpenClaim := { program := "ytmfkdohfejklhaadoor", sum := "bf64ff1a39db1d3e33373ec439d4501a6ff7be6d20d6e2e547d4bdd175e49c4c", func := "polyglot/polyglotlaw11.Gen1Image", spec := "gen1Image", unfollowed := true, recurses := true, named := ["polyglot/msg.kinds"], apart := false, laid := [("polyglot/msg.kinds", laid_polyglot_msg_kinds)] }
def Gen1ImageSaid : Prop := gen1ImageRow.holds Tryd.pinned (OpenSpec.ofChange gen1ImageSpec)

/-- ITS FALSE NEIGHBOUR: 'it returns false'. Refute it at one input. -/
def gen1ImageWrong : ChangeSpec := { name := "gen1Image", fn := fun _ => fun
  | [d] => { results := [.lit (.bool false)], args := [d] }
  | _ => none }
def Gen1ImageWrongFalsely : Prop := gen1ImageRow.holds Tryd.pinned (OpenSpec.ofChange gen1ImageWrong)

/-- 'polyglotlaw11.Gen1Back': WHATEVER THE INPUT: true; the input reads as it did. -/
def gen1BackSpec : ChangeSpec := { name := "gen1Back", fn := fun _ => fun
  | [d] => { results := [.lit (.bool true)], args := [d] }
  | _ => none }
def gen1BackRow : OpenClaim := { program := "ytmfkdohfejklhaadoor", sum := "bf64ff1a39db1d3e33373ec439d4501a6ff7be6d20d6e2e547d4bdd175e49c4c", func := "polyglot/polyglotlaw11.Gen1Back", spec := "gen1Back", inPlace := ["internal/bytealg.Compare"], unfollowed := true, recurses := true, named := ["polyglot/msg.kinds"], apart := false, laid := [("polyglot/msg.kinds", laid_polyglot_msg_kinds)] }
def Gen1BackSaid : Prop := gen1BackRow.holds Tryd.pinned (OpenSpec.ofChange gen1BackSpec)

/-- ITS FALSE NEIGHBOUR: 'it returns false'. Refute it at one input. -/
def gen1BackWrong : ChangeSpec := { name := "gen1Back", fn := fun _ => fun
  | [d] => { results := [.lit (.bool false)], args := [d] }
  | _ => none }
def Gen1BackWrongFalsely : Prop := gen1BackRow.holds Tryd.pinned (OpenSpec.ofChange gen1BackWrong)

/- THE SECOND FORM. 'bulk': how many values and letters a reading holds, each counted each time it is reached (what is shared counts as often as it is met; a slice's spare places count too). A statement '..UptoSaid' is the law's where the arguments, and the package variables that the reading takes, are together of bulk at most 1048576: NARROWER than '..Said'. Prove '..Said' where nothing that the law and all that it calls make is longer than what came in: it says more and counts as full. Else prove '..UptoSaid'. A law counts once. -/
mutual
def uptoBulk {H : Type} : DataW H → Nat
  | .lit (.string bytes) => bytes.length + 1
  | .lit _ => 1
  | .nil => 1
  | .ptr d => uptoBulk d + 1
  | .slice elems spare => uptoBulkAll elems + uptoBulkAll spare + 1
  | .agg parts => uptoBulkAll parts + 1
  | .iface _ d => uptoBulk d + 1
  | .map entries => uptoBulkEntries entries + 1
  | .held _ => 1
def uptoBulkAll {H : Type} : List (DataW H) → Nat
  | [] => 0
  | d :: r => uptoBulk d + uptoBulkAll r
def uptoBulkEntries {H : Type} : List (Lit × DataW H) → Nat
  | [] => 0
  | x :: r => uptoBulkEntry x + uptoBulkEntries r
def uptoBulkEntry {H : Type} : Lit × DataW H → Nat
  | (.string bytes, d) => bytes.length + uptoBulk d + 1
  | (_, d) => uptoBulk d + 1
 end
def uptoSmall : (H : Type) → List (DataW H) → Bool := fun _ ds => decide (uptoBulkAll ds ≤ 1048576)
def OpenSpec.upto (s : _root_.Go.ChangeSpec) : _root_.Go.OpenSpec := { _root_.Go.OpenSpec.ofChange s with cond := some uptoSmall }

/-- 'polyglotlaw11.Gen1Writes', WHERE WHAT IT READS IS OF BULK AT MOST 1048576: true; the input reads as it did. -/
def gen1WritesUptoRow : OpenClaim := { program := "ytmfkdohfejklhaadoor", sum := "bf64ff1a39db1d3e33373ec439d4501a6ff7be6d20d6e2e547d4bdd175e49c4c", func := "polyglot/polyglotlaw11.Gen1Writes", spec := "gen1Writes", unfollowed := true, recurses := true, named := ["polyglot/msg.kinds"], apart := false, laid := [("polyglot/msg.kinds", laid_polyglot_msg_kinds)], narrowed := true }
def Gen1WritesUptoSaid : Prop := gen1WritesUptoRow.holds Tryd.pinned (OpenSpec.upto gen1WritesSpec)

/-- 'polyglotlaw11.Gen1Reads', WHERE WHAT IT READS IS OF BULK AT MOST 1048576: true; the input reads as it did. -/
def gen1ReadsUptoRow : OpenClaim := { program := "ytmfkdohfejklhaadoor", sum := "bf64ff1a39db1d3e33373ec439d4501a6ff7be6d20d6e2e547d4bdd175e49c4c", func := "polyglot/polyglotlaw11.Gen1Reads", spec := "gen1Reads", inPlace := ["internal/bytealg.Compare"], unfollowed := true, recurses := true, named := ["polyglot/msg.kinds"], apart := false, laid := [("polyglot/msg.kinds", laid_polyglot_msg_kinds)], narrowed := true }
def Gen1ReadsUptoSaid : Prop := gen1ReadsUptoRow.holds Tryd.pinned (OpenSpec.upto gen1ReadsSpec)

/-- 'polyglotlaw11.Gen1Image', WHERE WHAT IT READS IS OF BULK AT MOST 1048576: true; the input reads as it did. -/
def gen1ImageUptoRow : OpenClaim := { program := "ytmfkdohfejklhaadoor", sum := "bf64ff1a39db1d3e33373ec439d4501a6ff7be6d20d6e2e547d4bdd175e49c4c", func := "polyglot/polyglotlaw11.Gen1Image", spec := "gen1Image", unfollowed := true, recurses := true, named := ["polyglot/msg.kinds"], apart := false, laid := [("polyglot/msg.kinds", laid_polyglot_msg_kinds)], narrowed := true }
def Gen1ImageUptoSaid : Prop := gen1ImageUptoRow.holds Tryd.pinned (OpenSpec.upto gen1ImageSpec)

/-- 'polyglotlaw11.Gen1Back', WHERE WHAT IT READS IS OF BULK AT MOST 1048576: true; the input reads as it did. -/
def gen1BackUptoRow : OpenClaim := { program := "ytmfkdohfejklhaadoor", sum := "bf64ff1a39db1d3e33373ec439d4501a6ff7be6d20d6e2e547d4bdd175e49c4c", func := "polyglot/polyglotlaw11.Gen1Back", spec := "gen1Back", inPlace := ["internal/bytealg.Compare"], unfollowed := true, recurses := true, named := ["polyglot/msg.kinds"], apart := false, laid := [("polyglot/msg.kinds", laid_polyglot_msg_kinds)], narrowed := true }
def Gen1BackUptoSaid : Prop := gen1BackUptoRow.holds Tryd.pinned (OpenSpec.upto gen1BackSpec)

end Rows
end Go.Proofs.YtmfkdohfejklhaaDoor
