/-
  DERIVED. GIVEN WITH THE SEED: THE CARDS: each row of YtgjnbcbbkabljaaDoorRows.lean that lists a variable, with what it lists TIED to the program's text (the seventh form; the later family's looks); each row that meets fmt, with fmt's text TOLD by the authors' own Lean function (tested against real Go, not proved from fmt's source: count such statements apart). THE CARD IS WHAT COUNTS. Prove the row's statement (the work); the ties are given (YtgjnbcbbkabljaaDoorTie.lean); close each card by the builder's one call (the guide's Derived/Test/ToyasCard.lean, 'card_holds'). Laid BY PROGRAM, IN A SANDBOX (cutbox-door.mjs). By AI agents, Wed Nov 11 2026. No macro, syntax, notation, axiom, sorry.
-/
import Derived.Test.YtgjnbcbbkabljaaDoorRows
import GoSem.ClaimSeven
namespace Go.Proofs.YtgjnbcbbkabljaaDoor
namespace Rows

/-- THE TIED CARD OF 'polyglotlaw05.SpanHas'. -/
def spanHasCard : Claim7 := { stood := { row := spanHasRow, standIns := [], harness := (true, "fbb78f8bb8d7d92a3312a1a90c5935cc73ec5038548ae4b8e08bd3e99f75b5f3"), looks := false }, kinds := [], alts := [], laidByText := true, laidKinds := [.data, .data, .data], laidTests := true, laidLooks := .later }
def SpanHasCardSaid : Prop := Claim7.holds Tryd.pinned (.plain (OpenSpec.ofChange spanHasSpec)) spanHasCard

/-- THE TIED CARD OF 'polyglotlaw05.SpanMeets'. -/
def spanMeetsCard : Claim7 := { stood := { row := spanMeetsRow, standIns := [], harness := (true, "fbb78f8bb8d7d92a3312a1a90c5935cc73ec5038548ae4b8e08bd3e99f75b5f3"), looks := false }, kinds := [], alts := [], laidByText := true, laidKinds := [.data, .data, .data], laidTests := true, laidLooks := .later }
def SpanMeetsCardSaid : Prop := Claim7.holds Tryd.pinned (.plain (OpenSpec.ofChange spanMeetsSpec)) spanMeetsCard

/-- THE TIED CARD OF 'polyglotlaw05.SpanCommons'. -/
def spanCommonsCard : Claim7 := { stood := { row := spanCommonsRow, standIns := [], harness := (true, "fbb78f8bb8d7d92a3312a1a90c5935cc73ec5038548ae4b8e08bd3e99f75b5f3"), looks := false }, kinds := [], alts := [], laidByText := true, laidKinds := [.data, .data, .data], laidTests := true, laidLooks := .later }
def SpanCommonsCardSaid : Prop := Claim7.holds Tryd.pinned (.plain (OpenSpec.ofChange spanCommonsSpec)) spanCommonsCard

/-- THE TIED CARD OF 'polyglotlaw05.SpanTexts'. -/
def spanTextsCard : Claim7 := { stood := { row := spanTextsRow, standIns := [], harness := (true, "fbb78f8bb8d7d92a3312a1a90c5935cc73ec5038548ae4b8e08bd3e99f75b5f3"), looks := false }, kinds := [], alts := [], laidByText := true, laidKinds := [.data, .data, .data], laidTests := true, laidLooks := .later }
def SpanTextsCardSaid : Prop := Claim7.holds Tryd.pinned (.plain (OpenSpec.ofChange spanTextsSpec)) spanTextsCard

/-- THE SECOND FORM's CARD OF 'polyglotlaw05.SpanHas'. -/
def spanHasUptoCard : Claim7 := { stood := { row := spanHasUptoRow, standIns := [], harness := (true, "fbb78f8bb8d7d92a3312a1a90c5935cc73ec5038548ae4b8e08bd3e99f75b5f3"), looks := false }, kinds := [], alts := [], laidByText := true, laidKinds := [.data, .data, .data], laidTests := true, laidLooks := .later }
def SpanHasUptoCardSaid : Prop := Claim7.holds Tryd.pinned (.plain (OpenSpec.upto spanHasSpec)) spanHasUptoCard

/-- THE SECOND FORM's CARD OF 'polyglotlaw05.SpanMeets'. -/
def spanMeetsUptoCard : Claim7 := { stood := { row := spanMeetsUptoRow, standIns := [], harness := (true, "fbb78f8bb8d7d92a3312a1a90c5935cc73ec5038548ae4b8e08bd3e99f75b5f3"), looks := false }, kinds := [], alts := [], laidByText := true, laidKinds := [.data, .data, .data], laidTests := true, laidLooks := .later }
def SpanMeetsUptoCardSaid : Prop := Claim7.holds Tryd.pinned (.plain (OpenSpec.upto spanMeetsSpec)) spanMeetsUptoCard

/-- THE SECOND FORM's CARD OF 'polyglotlaw05.SpanCommons'. -/
def spanCommonsUptoCard : Claim7 := { stood := { row := spanCommonsUptoRow, standIns := [], harness := (true, "fbb78f8bb8d7d92a3312a1a90c5935cc73ec5038548ae4b8e08bd3e99f75b5f3"), looks := false }, kinds := [], alts := [], laidByText := true, laidKinds := [.data, .data, .data], laidTests := true, laidLooks := .later }
def SpanCommonsUptoCardSaid : Prop := Claim7.holds Tryd.pinned (.plain (OpenSpec.upto spanCommonsSpec)) spanCommonsUptoCard

/-- THE SECOND FORM's CARD OF 'polyglotlaw05.SpanTexts'. -/
def spanTextsUptoCard : Claim7 := { stood := { row := spanTextsUptoRow, standIns := [], harness := (true, "fbb78f8bb8d7d92a3312a1a90c5935cc73ec5038548ae4b8e08bd3e99f75b5f3"), looks := false }, kinds := [], alts := [], laidByText := true, laidKinds := [.data, .data, .data], laidTests := true, laidLooks := .later }
def SpanTextsUptoCardSaid : Prop := Claim7.holds Tryd.pinned (.plain (OpenSpec.upto spanTextsSpec)) spanTextsUptoCard
end Rows
end Go.Proofs.YtgjnbcbbkabljaaDoor
