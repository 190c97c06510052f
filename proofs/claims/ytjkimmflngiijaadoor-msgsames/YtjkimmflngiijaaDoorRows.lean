/-
  NARROWER THAN 'FOR EVERY INPUT', by the rows' own cells (each row's printed sentence says how): MsgParts: laid · MsgMay: laid · MsgMany: laid · MsgSames: laid.
  DERIVED. THE GIVEN ROWS OF THIS SEAT. 4 by the template 'for every input the law returns true; each argument reads behind the call as it read before'; 0 by the template 'total and deterministic' (their statements: YtjkimmflngiijaaDoorTotals.lean).
  GIVEN WITH THE SEED: the statements are not yours to turn. If you find one false, say at which input.
  Laid BY PROGRAM, IN A SANDBOX (cutbox-rows.mjs): the forced cells as the released guide's own fill.sh prints them over the translation f50cf0d325a75007… (all of the seat's roots in one cut). By AI agents, Wed Nov 11 2026. No macro, syntax, notation, axiom, sorry.
-/
import Derived.Test.YtjkimmflngiijaaDoorChecked
import GoSem.Claim
import GoSem.ClaimJoined
import GoSem.ClaimMapViews
import Derived.JoinedTies
import Derived.KernelRfl
namespace Go.Proofs.YtjkimmflngiijaaDoor
/- THE CELL 'sum', in the pinned program and in every row, IS THE sha256 OF THE DUMP (.gsa) THAT YtjkimmflngiijaaDoorProg.lean LOADS. Nothing in Lean hashes anything: it is a label: what it is worth is what the hold of that sum in a sandbox is worth. -/
noncomputable def Tryd.pinned : Pinned := { name := "ytjkimmflngiijaadoor", sum := "f50cf0d325a750076e90e36f6c9535dae69d2d9cf7f1ce8aff01bb887b0f31bb", checked := Tryd.checked }
namespace Rows
def none {H : Type} : Left H := { results := [], args := [] }

/- WHAT THE LISTED PACKAGE-LEVEL VARIABLES READ AS WHEN THE CALL BEGINS. Each datum BY PROGRAM (the guide's laid-datum.mjs) off the statement by which the dump's own 'gosem.cut.vars' lays the variable. In a bare row this is a premise. The card (YtjkimmflngiijaaDoorCards.lean) ties it to the program's text. -/
def laid_polyglot_msg_kinds {H : Type} : DataW H := .agg [.agg [.lit (.string []), .agg [.lit (.bool false), .lit (.bool false), .lit (.bool false), .lit (.bool false), .lit (.bool false)]], .agg [.lit (.string [104, 101, 108, 108, 111]), .agg [.lit (.bool true), .lit (.bool false), .lit (.bool false), .lit (.bool false), .lit (.bool false)]], .agg [.lit (.string [119, 101, 108, 99, 111, 109, 101]), .agg [.lit (.bool true), .lit (.bool false), .lit (.bool false), .lit (.bool false), .lit (.bool false)]], .agg [.lit (.string [114, 101, 106, 101, 99, 116]), .agg [.lit (.bool false), .lit (.bool true), .lit (.bool false), .lit (.bool false), .lit (.bool false)]], .agg [.lit (.string [112, 105, 110, 103]), .agg [.lit (.bool true), .lit (.bool false), .lit (.bool false), .lit (.bool false), .lit (.bool true)]], .agg [.lit (.string [97, 99, 107]), .agg [.lit (.bool true), .lit (.bool false), .lit (.bool false), .lit (.bool false), .lit (.bool true)]], .agg [.lit (.string [97, 115, 107]), .agg [.lit (.bool true), .lit (.bool true), .lit (.bool false), .lit (.bool false), .lit (.bool true)]], .agg [.lit (.string [112, 117, 115, 104]), .agg [.lit (.bool false), .lit (.bool false), .lit (.bool true), .lit (.bool true), .lit (.bool true)]], .agg [.lit (.string [112, 117, 108, 108]), .agg [.lit (.bool false), .lit (.bool false), .lit (.bool true), .lit (.bool false), .lit (.bool true)]], .agg [.lit (.string [114, 101, 115, 101, 116]), .agg [.lit (.bool false), .lit (.bool false), .lit (.bool true), .lit (.bool false), .lit (.bool false)]]]

/-- 'polyglotlaw10.MsgParts': WHATEVER THE INPUT: true; the input reads as it did. -/
def msgPartsSpec : ChangeSpec := { name := "msgParts", fn := fun _ => fun
  | [d1, d2, d3] => { results := [.lit (.bool true)], args := [d1, d2, d3] }
  | _ => none }
def msgPartsRow : OpenClaim := { program := "ytjkimmflngiijaadoor", sum := "f50cf0d325a750076e90e36f6c9535dae69d2d9cf7f1ce8aff01bb887b0f31bb", func := "polyglot/polyglotlaw10.MsgParts", spec := "msgParts", named := ["polyglot/msg.kinds"], apart := false, laid := [("polyglot/msg.kinds", laid_polyglot_msg_kinds)] }
def MsgPartsSaid : Prop := msgPartsRow.holds Tryd.pinned (OpenSpec.ofChange msgPartsSpec)

/-- ITS FALSE NEIGHBOUR: 'it returns false'. Refute it at one input. -/
def msgPartsWrong : ChangeSpec := { name := "msgParts", fn := fun _ => fun
  | [d1, d2, d3] => { results := [.lit (.bool false)], args := [d1, d2, d3] }
  | _ => none }
def MsgPartsWrongFalsely : Prop := msgPartsRow.holds Tryd.pinned (OpenSpec.ofChange msgPartsWrong)

/-- 'polyglotlaw10.MsgMay': WHATEVER THE INPUT: true; the input reads as it did. -/
def msgMaySpec : ChangeSpec := { name := "msgMay", fn := fun _ => fun
  | [d] => { results := [.lit (.bool true)], args := [d] }
  | _ => none }
def msgMayRow : OpenClaim := { program := "ytjkimmflngiijaadoor", sum := "f50cf0d325a750076e90e36f6c9535dae69d2d9cf7f1ce8aff01bb887b0f31bb", func := "polyglot/polyglotlaw10.MsgMay", spec := "msgMay", inPlace := ["internal/bytealg.Compare"], unfollowed := true, recurses := true, named := ["polyglot/msg.kinds"], apart := false, laid := [("polyglot/msg.kinds", laid_polyglot_msg_kinds)] }
def MsgMaySaid : Prop := msgMayRow.holds Tryd.pinned (OpenSpec.ofChange msgMaySpec)

/-- ITS FALSE NEIGHBOUR: 'it returns false'. Refute it at one input. -/
def msgMayWrong : ChangeSpec := { name := "msgMay", fn := fun _ => fun
  | [d] => { results := [.lit (.bool false)], args := [d] }
  | _ => none }
def MsgMayWrongFalsely : Prop := msgMayRow.holds Tryd.pinned (OpenSpec.ofChange msgMayWrong)

/-- 'polyglotlaw10.MsgMany': WHATEVER THE INPUT: true; the input reads as it did. -/
def msgManySpec : ChangeSpec := { name := "msgMany", fn := fun _ => fun
  | [d1, d2] => { results := [.lit (.bool true)], args := [d1, d2] }
  | _ => none }
def msgManyRow : OpenClaim := { program := "ytjkimmflngiijaadoor", sum := "f50cf0d325a750076e90e36f6c9535dae69d2d9cf7f1ce8aff01bb887b0f31bb", func := "polyglot/polyglotlaw10.MsgMany", spec := "msgMany", named := ["polyglot/msg.kinds"], apart := false, laid := [("polyglot/msg.kinds", laid_polyglot_msg_kinds)] }
def MsgManySaid : Prop := msgManyRow.holds Tryd.pinned (OpenSpec.ofChange msgManySpec)

/-- ITS FALSE NEIGHBOUR: 'it returns false'. Refute it at one input. -/
def msgManyWrong : ChangeSpec := { name := "msgMany", fn := fun _ => fun
  | [d1, d2] => { results := [.lit (.bool false)], args := [d1, d2] }
  | _ => none }
def MsgManyWrongFalsely : Prop := msgManyRow.holds Tryd.pinned (OpenSpec.ofChange msgManyWrong)

/-- 'polyglotlaw10.MsgSames': WHATEVER THE INPUT: true; the input reads as it did. -/
def msgSamesSpec : ChangeSpec := { name := "msgSames", fn := fun _ => fun
  | [d1, d2] => { results := [.lit (.bool true)], args := [d1, d2] }
  | _ => none }
def msgSamesRow : OpenClaim := { program := "ytjkimmflngiijaadoor", sum := "f50cf0d325a750076e90e36f6c9535dae69d2d9cf7f1ce8aff01bb887b0f31bb", func := "polyglot/polyglotlaw10.MsgSames", spec := "msgSames", inPlace := ["internal/bytealg.Compare"], unfollowed := true, recurses := true, named := ["polyglot/msg.kinds"], apart := false, laid := [("polyglot/msg.kinds", laid_polyglot_msg_kinds)] }
def MsgSamesSaid : Prop := msgSamesRow.holds Tryd.pinned (OpenSpec.ofChange msgSamesSpec)

/-- ITS FALSE NEIGHBOUR: 'it returns false'. Refute it at one input. -/
def msgSamesWrong : ChangeSpec := { name := "msgSames", fn := fun _ => fun
  | [d1, d2] => { results := [.lit (.bool false)], args := [d1, d2] }
  | _ => none }
def MsgSamesWrongFalsely : Prop := msgSamesRow.holds Tryd.pinned (OpenSpec.ofChange msgSamesWrong)

/- THE SECOND FORM. 'bulk': how many values and letters a reading holds, each counted each time it is reached (what is shared counts as often as it is met; a slice's spare places count too). A statement '..UptoSaid' is the law's where the arguments, and the package variables that the reading takes, are together of bulk at most 1048576: NARROWER than '..Said'. Prove '..Said' where nothing that the law and all that it calls make is longer than what came in: it says more and counts as full. Else prove '..UptoSaid'. A law counts once. -/
mutual
def uptoBulk {H : Type} : DataW H → Nat
  | .lit (.string bytes) => bytes.length + 1
  | .lit _ => 1
  | .nil => 1
  | .ptr d => uptoBulk d + 1
  | .slice elems spare => uptoBulkAll elems + uptoBulkAll spare + 1
  | .agg parts => uptoBulkAll parts + 1
  | .iface _ d => uptoBulk d + 1
  | .map entries => uptoBulkEntries entries + 1
  | .held _ => 1
def uptoBulkAll {H : Type} : List (DataW H) → Nat
  | [] => 0
  | d :: r => uptoBulk d + uptoBulkAll r
def uptoBulkEntries {H : Type} : List (Lit × DataW H) → Nat
  | [] => 0
  | x :: r => uptoBulkEntry x + uptoBulkEntries r
def uptoBulkEntry {H : Type} : Lit × DataW H → Nat
  | (.string bytes, d) => bytes.length + uptoBulk d + 1
  | (_, d) => uptoBulk d + 1
 end
def uptoSmall : (H : Type) → List (DataW H) → Bool := fun _ ds => decide (uptoBulkAll ds ≤ 1048576)
def OpenSpec.upto (s : _root_.Go.ChangeSpec) : _root_.Go.OpenSpec := { _root_.Go.OpenSpec.ofChange s with cond := some uptoSmall }

/-- 'polyglotlaw10.MsgParts', WHERE WHAT IT READS IS OF BULK AT MOST 1048576: true; the input reads as it did. -/
def msgPartsUptoRow : OpenClaim := { program := "ytjkimmflngiijaadoor", sum := "f50cf0d325a750076e90e36f6c9535dae69d2d9cf7f1ce8aff01bb887b0f31bb", func := "polyglot/polyglotlaw10.MsgParts", spec := "msgParts", named := ["polyglot/msg.kinds"], apart := false, laid := [("polyglot/msg.kinds", laid_polyglot_msg_kinds)], narrowed := true }
def MsgPartsUptoSaid : Prop := msgPartsUptoRow.holds Tryd.pinned (OpenSpec.upto msgPartsSpec)

/-- 'polyglotlaw10.MsgMay', WHERE WHAT IT READS IS OF BULK AT MOST 1048576: true; the input reads as it did. -/
def msgMayUptoRow : OpenClaim := { program := "ytjkimmflngiijaadoor", sum := "f50cf0d325a750076e90e36f6c9535dae69d2d9cf7f1ce8aff01bb887b0f31bb", func := "polyglot/polyglotlaw10.MsgMay", spec := "msgMay", inPlace := ["internal/bytealg.Compare"], unfollowed := true, recurses := true, named := ["polyglot/msg.kinds"], apart := false, laid := [("polyglot/msg.kinds", laid_polyglot_msg_kinds)], narrowed := true }
def MsgMayUptoSaid : Prop := msgMayUptoRow.holds Tryd.pinned (OpenSpec.upto msgMaySpec)

/-- 'polyglotlaw10.MsgMany', WHERE WHAT IT READS IS OF BULK AT MOST 1048576: true; the input reads as it did. -/
def msgManyUptoRow : OpenClaim := { program := "ytjkimmflngiijaadoor", sum := "f50cf0d325a750076e90e36f6c9535dae69d2d9cf7f1ce8aff01bb887b0f31bb", func := "polyglot/polyglotlaw10.MsgMany", spec := "msgMany", named := ["polyglot/msg.kinds"], apart := false, laid := [("polyglot/msg.kinds", laid_polyglot_msg_kinds)], narrowed := true }
def MsgManyUptoSaid : Prop := msgManyUptoRow.holds Tryd.pinned (OpenSpec.upto msgManySpec)

/-- 'polyglotlaw10.MsgSames', WHERE WHAT IT READS IS OF BULK AT MOST 1048576: true; the input reads as it did. -/
def msgSamesUptoRow : OpenClaim := { program := "ytjkimmflngiijaadoor", sum := "f50cf0d325a750076e90e36f6c9535dae69d2d9cf7f1ce8aff01bb887b0f31bb", func := "polyglot/polyglotlaw10.MsgSames", spec := "msgSames", inPlace := ["internal/bytealg.Compare"], unfollowed := true, recurses := true, named := ["polyglot/msg.kinds"], apart := false, laid := [("polyglot/msg.kinds", laid_polyglot_msg_kinds)], narrowed := true }
def MsgSamesUptoSaid : Prop := msgSamesUptoRow.holds Tryd.pinned (OpenSpec.upto msgSamesSpec)

end Rows
end Go.Proofs.YtjkimmflngiijaaDoor
