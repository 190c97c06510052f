/-
  NARROWER THAN 'FOR EVERY INPUT', by the rows' own cells (each row's printed sentence says how): Gen2Writes: laid · Gen2Reads: laid · Gen2Image: laid · Gen2Back: laid.
  DERIVED. THE GIVEN ROWS OF THIS SEAT. 4 by the template 'for every input the law returns true; each argument reads behind the call as it read before'; 0 by the template 'total and deterministic' (their statements: YtmejfkhikgcgmaaDoorTotals.lean).
  GIVEN WITH THE SEED: the statements are not yours to turn. If you find one false, say at which input.
  Laid BY PROGRAM, IN A SANDBOX (cutbox-rows.mjs): the forced cells as the released guide's own fill.sh prints them over the translation e979174628dfd6f1… (all of the seat's roots in one cut). By AI agents, Wed Nov 11 2026. No macro, syntax, notation, axiom, sorry.
-/
import Derived.Test.YtmejfkhikgcgmaaDoorChecked
import GoSem.Claim
import GoSem.ClaimJoined
import GoSem.ClaimMapViews
import Derived.JoinedTies
import Derived.KernelRfl
namespace Go.Proofs.YtmejfkhikgcgmaaDoor
/- THE CELL 'sum', in the pinned program and in every row, IS THE sha256 OF THE DUMP (.gsa) THAT YtmejfkhikgcgmaaDoorProg.lean LOADS. Nothing in Lean hashes anything: it is a label: what it is worth is what the hold of that sum in a sandbox is worth. -/
noncomputable def Tryd.pinned : Pinned := { name := "ytmejfkhikgcgmaadoor", sum := "e979174628dfd6f12fc2ac5a10ca7e09c1dac90089ad7bb74358f55e6e2186d2", checked := Tryd.checked }
namespace Rows
def none {H : Type} : Left H := { results := [], args := [] }

/- WHAT THE LISTED PACKAGE-LEVEL VARIABLES READ AS WHEN THE CALL BEGINS. Each datum BY PROGRAM (the guide's laid-datum.mjs) off the statement by which the dump's own 'gosem.cut.vars' lays the variable. In a bare row this is a premise. The card (YtmejfkhikgcgmaaDoorCards.lean) ties it to the program's text. -/
def laid_polyglot_msg_kinds {H : Type} : DataW H := .agg [.agg [.lit (.string []), .agg [.lit (.bool false), .lit (.bool false), .lit (.bool false), .lit (.bool false), .lit (.bool false)]], .agg [.lit (.string [104, 101, 108, 108, 111]), .agg [.lit (.bool true), .lit (.bool false), .lit (.bool false), .lit (.bool false), .lit (.bool false)]], .agg [.lit (.string [119, 101, 108, 99, 111, 109, 101]), .agg [.lit (.bool true), .lit (.bool false), .lit (.bool false), .lit (.bool false), .lit (.bool false)]], .agg [.lit (.string [114, 101, 106, 101, 99, 116]), .agg [.lit (.bool false), .lit (.bool true), .lit (.bool false), .lit (.bool false), .lit (.bool false)]], .agg [.lit (.string [112, 105, 110, 103]), .agg [.lit (.bool true), .lit (.bool false), .lit (.bool false), .lit (.bool false), .lit (.bool true)]], .agg [.lit (.string [97, 99, 107]), .agg [.lit (.bool true), .lit (.bool false), .lit (.bool false), .lit (.bool false), .lit (.bool true)]], .agg [.lit (.string [97, 115, 107]), .agg [.lit (.bool true), .lit (.bool true), .lit (.bool false), .lit (.bool false), .lit (.bool true)]], .agg [.lit (.string [112, 117, 115, 104]), .agg [.lit (.bool false), .lit (.bool false), .lit (.bool true), .lit (.bool true), .lit (.bool true)]], .agg [.lit (.string [112, 117, 108, 108]), .agg [.lit (.bool false), .lit (.bool false), .lit (.bool true), .lit (.bool false), .lit (.bool true)]], .agg [.lit (.string [114, 101, 115, 101, 116]), .agg [.lit (.bool false), .lit (.bool false), .lit (.bool true), .lit (.bool false), .lit (.bool false)]]]

/-- 'polyglotlaw13.Gen2Writes': WHATEVER THE INPUT: true; the input reads as it did. -/
def gen2WritesSpec : ChangeSpec := { name := "gen2Writes", fn := fun _ => fun
  | [d] => { results := [.lit (.bool true)], args := [d] }
  | _ => none }
def gen2WritesRow : OpenClaim := { program := "ytmejfkhikgcgmaadoor", sum := "e979174628dfd6f12fc2ac5a10ca7e09c1dac90089ad7bb74358f55e6e2186d2", func := "polyglot/polyglotlaw13.Gen2Writes", spec := "gen2Writes", unfollowed := true, recurses := true, named := ["polyglot/msg.kinds"], apart := false, laid := [("polyglot/msg.kinds", laid_polyglot_msg_kinds)] }
def Gen2WritesSaid : Prop := gen2WritesRow.holds Tryd.pinned (OpenSpec.ofChange gen2WritesSpec)

/-- ITS FALSE NEIGHBOUR: 'it returns false'. Refute it at one input. -/
def gen2WritesWrong : ChangeSpec := { name := "gen2Writes", fn := fun _ => fun
  | [d] => { results := [.lit (.bool false)], args := [d] }
  | _ => none }
def Gen2WritesWrongFalsely : Prop := gen2WritesRow.holds Tryd.pinned (OpenSpec.ofChange gen2WritesWrong)

/-- 'polyglotlaw13.Gen2Reads': WHATEVER THE INPUT: true; the input reads as it did. -/
def gen2ReadsSpec : ChangeSpec := { name := "gen2Reads", fn := fun _ => fun
  | [d] => { results := [.lit (.bool true)], args := [d] }
  | _ => none }
def gen2ReadsRow : OpenClaim := { program := "ytmejfkhikgcgmaadoor", sum := "e979174628dfd6f12fc2ac5a10ca7e09c1dac90089ad7bb74358f55e6e2186d2", func := "polyglot/polyglotlaw13.Gen2Reads", spec := "gen2Reads", inPlace := ["internal/bytealg.Compare"], unfollowed := true, recurses := true, named := ["polyglot/msg.kinds"], apart := false, laid := [("polyglot/msg.kinds", laid_polyglot_msg_kinds)] }
def Gen2ReadsSaid : Prop := gen2ReadsRow.holds Tryd.pinned (OpenSpec.ofChange gen2ReadsSpec)

/-- ITS FALSE NEIGHBOUR: 'it returns false'. Refute it at one input. -/
def gen2ReadsWrong : ChangeSpec := { name := "gen2Reads", fn := fun _ => fun
  | [d] => { results := [.lit (.bool false)], args := [d] }
  | _ => none }
def Gen2ReadsWrongFalsely : Prop := gen2ReadsRow.holds Tryd.pinned (OpenSpec.ofChange gen2ReadsWrong)

/-- 'polyglotlaw13.Gen2Image': WHATEVER THE INPUT: true; the input reads as it did. -/
def gen2ImageSpec : ChangeSpec := { name := "gen2Image", fn := fun _ => fun
  | [d] => { results := [.lit (.bool true)], args := [d] }
  | _ => none }
def gen2ImageRow : OpenClaim := { program := "ytmejfkhikgcgmaadoor", sum := "e979174628dfd6f12fc2ac5a10ca7e09c1dac90089ad7bb74358f55e6e2186d2", func := "polyglot/polyglotlaw13.Gen2Image", spec := "gen2Image", unfollowed := true, recurses := true, named := ["polyglot/msg.kinds"], apart := false, laid := [("polyglot/msg.kinds", laid_polyglot_msg_kinds)] }
def Gen2ImageSaid : Prop := gen2ImageRow.holds Tryd.pinned (OpenSpec.ofChange gen2ImageSpec)

/-- ITS FALSE NEIGHBOUR: 'it returns false'. Refute it at one input. -/
def gen2ImageWrong : ChangeSpec := { name := "gen2Image", fn := fun _ => fun
  | [d] => { results := [.lit (.bool false)], args := [d] }
  | _ => none }
def Gen2ImageWrongFalsely : Prop := gen2ImageRow.holds Tryd.pinned (OpenSpec.ofChange gen2ImageWrong)

/-- 'polyglotlaw13.Gen2Back': WHATEVER THE INPUT: true; the input reads as it did. -/
def gen2BackSpec : ChangeSpec := { name := "gen2Back", fn := fun _ => fun
  | [d] => { results := [.lit (.bool true)], args := [d] }
  | _ => none }
def gen2BackRow : OpenClaim := { program := "ytmejfkhikgcgmaadoor", sum := "e979174628dfd6f12fc2ac5a10ca7e09c1dac90089ad7bb74358f55e6e2186d2", func := "polyglot/polyglotlaw13.Gen2Back", spec := "gen2Back", inPlace := ["internal/bytealg.Compare"], unfollowed := true, recurses := true, named := ["polyglot/msg.kinds"], apart := false, laid := [("polyglot/msg.kinds", laid_polyglot_msg_kinds)] }
def Gen2BackSaid : Prop := gen2BackRow.holds Tryd.pinned (OpenSpec.ofChange gen2BackSpec)

/-- ITS FALSE NEIGHBOUR: 'it returns false'. Refute it at one input. -/
def gen2BackWrong : ChangeSpec := { name := "gen2Back", fn := fun _ => fun
  | [d] => { results := [.lit (.bool false)], args := [d] }
  | _ => none }
def Gen2BackWrongFalsely : Prop := gen2BackRow.holds Tryd.pinned (OpenSpec.ofChange gen2BackWrong)

/- THE SECOND FORM. 'bulk': how many values and letters a reading holds, each counted each time it is reached (what is shared counts as often as it is met; a slice's spare places count too). A statement '..UptoSaid' is the law's where the arguments, and the package variables that the reading takes, are together of bulk at most 1048576: NARROWER than '..Said'. Prove '..Said' where nothing that the law and all that it calls make is longer than what came in: it says more and counts as full. Else prove '..UptoSaid'. A law counts once. -/
mutual
def uptoBulk {H : Type} : DataW H → Nat
  | .lit (.string bytes) => bytes.length + 1
  | .lit _ => 1
  | .nil => 1
  | .ptr d => uptoBulk d + 1
  | .slice elems spare => uptoBulkAll elems + uptoBulkAll spare + 1
  | .agg parts => uptoBulkAll parts + 1
  | .iface _ d => uptoBulk d + 1
  | .map entries => uptoBulkEntries entries + 1
  | .held _ => 1
def uptoBulkAll {H : Type} : List (DataW H) → Nat
  | [] => 0
  | d :: r => uptoBulk d + uptoBulkAll r
def uptoBulkEntries {H : Type} : List (Lit × DataW H) → Nat
  | [] => 0
  | x :: r => uptoBulkEntry x + uptoBulkEntries r
def uptoBulkEntry {H : Type} : Lit × DataW H → Nat
  | (.string bytes, d) => bytes.length + uptoBulk d + 1
  | (_, d) => uptoBulk d + 1
 end
def uptoSmall : (H : Type) → List (DataW H) → Bool := fun _ ds => decide (uptoBulkAll ds ≤ 1048576)
def OpenSpec.upto (s : _root_.Go.ChangeSpec) : _root_.Go.OpenSpec := { _root_.Go.OpenSpec.ofChange s with cond := some uptoSmall }

/-- 'polyglotlaw13.Gen2Writes', WHERE WHAT IT READS IS OF BULK AT MOST 1048576: true; the input reads as it did. -/
def gen2WritesUptoRow : OpenClaim := { program := "ytmejfkhikgcgmaadoor", sum := "e979174628dfd6f12fc2ac5a10ca7e09c1dac90089ad7bb74358f55e6e2186d2", func := "polyglot/polyglotlaw13.Gen2Writes", spec := "gen2Writes", unfollowed := true, recurses := true, named := ["polyglot/msg.kinds"], apart := false, laid := [("polyglot/msg.kinds", laid_polyglot_msg_kinds)], narrowed := true }
def Gen2WritesUptoSaid : Prop := gen2WritesUptoRow.holds Tryd.pinned (OpenSpec.upto gen2WritesSpec)

/-- 'polyglotlaw13.Gen2Reads', WHERE WHAT IT READS IS OF BULK AT MOST 1048576: true; the input reads as it did. -/
def gen2ReadsUptoRow : OpenClaim := { program := "ytmejfkhikgcgmaadoor", sum := "e979174628dfd6f12fc2ac5a10ca7e09c1dac90089ad7bb74358f55e6e2186d2", func := "polyglot/polyglotlaw13.Gen2Reads", spec := "gen2Reads", inPlace := ["internal/bytealg.Compare"], unfollowed := true, recurses := true, named := ["polyglot/msg.kinds"], apart := false, laid := [("polyglot/msg.kinds", laid_polyglot_msg_kinds)], narrowed := true }
def Gen2ReadsUptoSaid : Prop := gen2ReadsUptoRow.holds Tryd.pinned (OpenSpec.upto gen2ReadsSpec)

/-- 'polyglotlaw13.Gen2Image', WHERE WHAT IT READS IS OF BULK AT MOST 1048576: true; the input reads as it did. -/
def gen2ImageUptoRow : OpenClaim := { program := "ytmejfkhikgcgmaadoor", sum := "e979174628dfd6f12fc2ac5a10ca7e09c1dac90089ad7bb74358f55e6e2186d2", func := "polyglot/polyglotlaw13.Gen2Image", spec := "gen2Image", unfollowed := true, recurses := true, named := ["polyglot/msg.kinds"], apart := false, laid := [("polyglot/msg.kinds", laid_polyglot_msg_kinds)], narrowed := true }
def Gen2ImageUptoSaid : Prop := gen2ImageUptoRow.holds Tryd.pinned (OpenSpec.upto gen2ImageSpec)

/-- 'polyglotlaw13.Gen2Back', WHERE WHAT IT READS IS OF BULK AT MOST 1048576: true; the input reads as it did. -/
def gen2BackUptoRow : OpenClaim := { program := "ytmejfkhikgcgmaadoor", sum := "e979174628dfd6f12fc2ac5a10ca7e09c1dac90089ad7bb74358f55e6e2186d2", func := "polyglot/polyglotlaw13.Gen2Back", spec := "gen2Back", inPlace := ["internal/bytealg.Compare"], unfollowed := true, recurses := true, named := ["polyglot/msg.kinds"], apart := false, laid := [("polyglot/msg.kinds", laid_polyglot_msg_kinds)], narrowed := true }
def Gen2BackUptoSaid : Prop := gen2BackUptoRow.holds Tryd.pinned (OpenSpec.upto gen2BackSpec)

end Rows
end Go.Proofs.YtmejfkhikgcgmaaDoor
