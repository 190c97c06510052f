/-
  No cell of these rows narrows 'for every input' (looked for: loops, veiled, ifaces, maps, wideKeys, modest, calm, conditions, laid).
  DERIVED. THE GIVEN ROWS OF THIS SEAT. 5 by the template 'for every input the law returns true; each argument reads behind the call as it read before'; 0 by the template 'total and deterministic' (their statements: YtllaajajjodimaaTotals.lean).
  GIVEN WITH THE SEED: the statements are not yours to turn. If you find one false, say at which input.
  Laid BY PROGRAM, IN A SANDBOX (cutbox-rows.mjs): the forced cells as the released guide's own fill.sh prints them over the translation 315be079e547a408… (all of the seat's roots in one cut). By AI agents, Wed Nov 11 2026. No macro, syntax, notation, axiom, sorry.
-/
import Derived.Test.YtllaajajjodimaaChecked
import GoSem.Claim
import GoSem.ClaimJoined
import GoSem.ClaimMapViews
import Derived.JoinedTies
import Derived.KernelRfl
namespace Go.Proofs.Ytllaajajjodimaa
/- THE CELL 'sum', in the pinned program and in every row, IS THE sha256 OF THE DUMP (.gsa) THAT YtllaajajjodimaaProg.lean LOADS. Nothing in Lean hashes anything: it is a label: what it is worth is what the hold of that sum in a sandbox is worth. -/
noncomputable def Try.pinned : Pinned := { name := "ytllaajajjodimaa", sum := "315be079e547a408991ee096d89900ea81acee3afd006b7cd87f3db0513cadcc", checked := Try.checked }
namespace Rows
def none {H : Type} : Left H := { results := [], args := [] }

/-- 'polyglotlaw02.VarintForms': WHATEVER THE INPUT: true; the input reads as it did. -/
def varintFormsSpec : ChangeSpec := { name := "varintForms", fn := fun _ => fun
  | [d] => { results := [.lit (.bool true)], args := [d] }
  | _ => none }
def varintFormsRow : OpenClaim := { program := "ytllaajajjodimaa", sum := "315be079e547a408991ee096d89900ea81acee3afd006b7cd87f3db0513cadcc", func := "polyglot/polyglotlaw02.VarintForms", spec := "varintForms", apart := false }
def VarintFormsSaid : Prop := varintFormsRow.holds Try.pinned (OpenSpec.ofChange varintFormsSpec)

/-- ITS FALSE NEIGHBOUR: 'it returns false'. Refute it at one input. -/
def varintFormsWrong : ChangeSpec := { name := "varintForms", fn := fun _ => fun
  | [d] => { results := [.lit (.bool false)], args := [d] }
  | _ => none }
def VarintFormsWrongFalsely : Prop := varintFormsRow.holds Try.pinned (OpenSpec.ofChange varintFormsWrong)

/-- 'polyglotlaw02.VarintGets': WHATEVER THE INPUT: true; the input reads as it did. -/
def varintGetsSpec : ChangeSpec := { name := "varintGets", fn := fun _ => fun
  | [d] => { results := [.lit (.bool true)], args := [d] }
  | _ => none }
def varintGetsRow : OpenClaim := { program := "ytllaajajjodimaa", sum := "315be079e547a408991ee096d89900ea81acee3afd006b7cd87f3db0513cadcc", func := "polyglot/polyglotlaw02.VarintGets", spec := "varintGets", apart := false }
def VarintGetsSaid : Prop := varintGetsRow.holds Try.pinned (OpenSpec.ofChange varintGetsSpec)

/-- ITS FALSE NEIGHBOUR: 'it returns false'. Refute it at one input. -/
def varintGetsWrong : ChangeSpec := { name := "varintGets", fn := fun _ => fun
  | [d] => { results := [.lit (.bool false)], args := [d] }
  | _ => none }
def VarintGetsWrongFalsely : Prop := varintGetsRow.holds Try.pinned (OpenSpec.ofChange varintGetsWrong)

/-- 'polyglotlaw02.VarintBacks': WHATEVER THE INPUT: true; the input reads as it did. -/
def varintBacksSpec : ChangeSpec := { name := "varintBacks", fn := fun _ => fun
  | [d1, d2] => { results := [.lit (.bool true)], args := [d1, d2] }
  | _ => none }
def varintBacksRow : OpenClaim := { program := "ytllaajajjodimaa", sum := "315be079e547a408991ee096d89900ea81acee3afd006b7cd87f3db0513cadcc", func := "polyglot/polyglotlaw02.VarintBacks", spec := "varintBacks", apart := false }
def VarintBacksSaid : Prop := varintBacksRow.holds Try.pinned (OpenSpec.ofChange varintBacksSpec)

/-- ITS FALSE NEIGHBOUR: 'it returns false'. Refute it at one input. -/
def varintBacksWrong : ChangeSpec := { name := "varintBacks", fn := fun _ => fun
  | [d1, d2] => { results := [.lit (.bool false)], args := [d1, d2] }
  | _ => none }
def VarintBacksWrongFalsely : Prop := varintBacksRow.holds Try.pinned (OpenSpec.ofChange varintBacksWrong)

/-- 'polyglotlaw02.VarintFroms': WHATEVER THE INPUT: true; the input reads as it did. -/
def varintFromsSpec : ChangeSpec := { name := "varintFroms", fn := fun _ => fun
  | [d1, d2] => { results := [.lit (.bool true)], args := [d1, d2] }
  | _ => none }
def varintFromsRow : OpenClaim := { program := "ytllaajajjodimaa", sum := "315be079e547a408991ee096d89900ea81acee3afd006b7cd87f3db0513cadcc", func := "polyglot/polyglotlaw02.VarintFroms", spec := "varintFroms", apart := false }
def VarintFromsSaid : Prop := varintFromsRow.holds Try.pinned (OpenSpec.ofChange varintFromsSpec)

/-- ITS FALSE NEIGHBOUR: 'it returns false'. Refute it at one input. -/
def varintFromsWrong : ChangeSpec := { name := "varintFroms", fn := fun _ => fun
  | [d1, d2] => { results := [.lit (.bool false)], args := [d1, d2] }
  | _ => none }
def VarintFromsWrongFalsely : Prop := varintFromsRow.holds Try.pinned (OpenSpec.ofChange varintFromsWrong)

/-- 'polyglotlaw02.VarintZigs': WHATEVER THE INPUT: true; the input reads as it did. -/
def varintZigsSpec : ChangeSpec := { name := "varintZigs", fn := fun _ => fun
  | [d1, d2] => { results := [.lit (.bool true)], args := [d1, d2] }
  | _ => none }
def varintZigsRow : OpenClaim := { program := "ytllaajajjodimaa", sum := "315be079e547a408991ee096d89900ea81acee3afd006b7cd87f3db0513cadcc", func := "polyglot/polyglotlaw02.VarintZigs", spec := "varintZigs", apart := false }
def VarintZigsSaid : Prop := varintZigsRow.holds Try.pinned (OpenSpec.ofChange varintZigsSpec)

/-- ITS FALSE NEIGHBOUR: 'it returns false'. Refute it at one input. -/
def varintZigsWrong : ChangeSpec := { name := "varintZigs", fn := fun _ => fun
  | [d1, d2] => { results := [.lit (.bool false)], args := [d1, d2] }
  | _ => none }
def VarintZigsWrongFalsely : Prop := varintZigsRow.holds Try.pinned (OpenSpec.ofChange varintZigsWrong)

/- THE SECOND FORM. 'bulk': how many values and letters a reading holds, each counted each time it is reached (what is shared counts as often as it is met; a slice's spare places count too). A statement '..UptoSaid' is the law's where the arguments, and the package variables that the reading takes, are together of bulk at most 1048576: NARROWER than '..Said'. Prove '..Said' where nothing that the law and all that it calls make is longer than what came in: it says more and counts as full. Else prove '..UptoSaid'. A law counts once. -/
mutual
def uptoBulk {H : Type} : DataW H → Nat
  | .lit (.string bytes) => bytes.length + 1
  | .lit _ => 1
  | .nil => 1
  | .ptr d => uptoBulk d + 1
  | .slice elems spare => uptoBulkAll elems + uptoBulkAll spare + 1
  | .agg parts => uptoBulkAll parts + 1
  | .iface _ d => uptoBulk d + 1
  | .map entries => uptoBulkEntries entries + 1
  | .held _ => 1
def uptoBulkAll {H : Type} : List (DataW H) → Nat
  | [] => 0
  | d :: r => uptoBulk d + uptoBulkAll r
def uptoBulkEntries {H : Type} : List (Lit × DataW H) → Nat
  | [] => 0
  | x :: r => uptoBulkEntry x + uptoBulkEntries r
def uptoBulkEntry {H : Type} : Lit × DataW H → Nat
  | (.string bytes, d) => bytes.length + uptoBulk d + 1
  | (_, d) => uptoBulk d + 1
 end
def uptoSmall : (H : Type) → List (DataW H) → Bool := fun _ ds => decide (uptoBulkAll ds ≤ 1048576)
def OpenSpec.upto (s : _root_.Go.ChangeSpec) : _root_.Go.OpenSpec := { _root_.Go.OpenSpec.ofChange s with cond := some uptoSmall }

/-- 'polyglotlaw02.VarintForms', WHERE WHAT IT READS IS OF BULK AT MOST 1048576: true; the input reads as it did. -/
def varintFormsUptoRow : OpenClaim := { program := "ytllaajajjodimaa", sum := "315be079e547a408991ee096d89900ea81acee3afd006b7cd87f3db0513cadcc", func := "polyglot/polyglotlaw02.VarintForms", spec := "varintForms", apart := false, narrowed := true }
def VarintFormsUptoSaid : Prop := varintFormsUptoRow.holds Try.pinned (OpenSpec.upto varintFormsSpec)

/-- 'polyglotlaw02.VarintGets', WHERE WHAT IT READS IS OF BULK AT MOST 1048576: true; the input reads as it did. -/
def varintGetsUptoRow : OpenClaim := { program := "ytllaajajjodimaa", sum := "315be079e547a408991ee096d89900ea81acee3afd006b7cd87f3db0513cadcc", func := "polyglot/polyglotlaw02.VarintGets", spec := "varintGets", apart := false, narrowed := true }
def VarintGetsUptoSaid : Prop := varintGetsUptoRow.holds Try.pinned (OpenSpec.upto varintGetsSpec)

/-- 'polyglotlaw02.VarintBacks', WHERE WHAT IT READS IS OF BULK AT MOST 1048576: true; the input reads as it did. -/
def varintBacksUptoRow : OpenClaim := { program := "ytllaajajjodimaa", sum := "315be079e547a408991ee096d89900ea81acee3afd006b7cd87f3db0513cadcc", func := "polyglot/polyglotlaw02.VarintBacks", spec := "varintBacks", apart := false, narrowed := true }
def VarintBacksUptoSaid : Prop := varintBacksUptoRow.holds Try.pinned (OpenSpec.upto varintBacksSpec)

/-- 'polyglotlaw02.VarintFroms', WHERE WHAT IT READS IS OF BULK AT MOST 1048576: true; the input reads as it did. -/
def varintFromsUptoRow : OpenClaim := { program := "ytllaajajjodimaa", sum := "315be079e547a408991ee096d89900ea81acee3afd006b7cd87f3db0513cadcc", func := "polyglot/polyglotlaw02.VarintFroms", spec := "varintFroms", apart := false, narrowed := true }
def VarintFromsUptoSaid : Prop := varintFromsUptoRow.holds Try.pinned (OpenSpec.upto varintFromsSpec)

/-- 'polyglotlaw02.VarintZigs', WHERE WHAT IT READS IS OF BULK AT MOST 1048576: true; the input reads as it did. -/
def varintZigsUptoRow : OpenClaim := { program := "ytllaajajjodimaa", sum := "315be079e547a408991ee096d89900ea81acee3afd006b7cd87f3db0513cadcc", func := "polyglot/polyglotlaw02.VarintZigs", spec := "varintZigs", apart := false, narrowed := true }
def VarintZigsUptoSaid : Prop := varintZigsUptoRow.holds Try.pinned (OpenSpec.upto varintZigsSpec)

end Rows
end Go.Proofs.Ytllaajajjodimaa
