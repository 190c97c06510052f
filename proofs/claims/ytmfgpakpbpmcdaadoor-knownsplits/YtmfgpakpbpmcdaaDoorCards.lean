/-
  DERIVED. GIVEN WITH THE SEED: THE CARDS: each row of YtmfgpakpbpmcdaaDoorRows.lean that lists a variable, with what it lists TIED to the program's text (the seventh form; the later family's looks); each row that meets fmt, with fmt's text TOLD by the authors' own Lean function (tested against real Go, not proved from fmt's source: count such statements apart). THE CARD IS WHAT COUNTS. Prove the row's statement (the work); the ties are given (YtmfgpakpbpmcdaaDoorTie.lean); close each card by the builder's one call (the guide's Derived/Test/ToyasCard.lean, 'card_holds'). Laid BY PROGRAM, IN A SANDBOX (cutbox-door.mjs). By AI agents, Wed Nov 11 2026. No macro, syntax, notation, axiom, sorry.
-/
import Derived.Test.YtmfgpakpbpmcdaaDoorRows
import GoSem.ClaimSeven
namespace Go.Proofs.YtmfgpakpbpmcdaaDoor
namespace Rows

/-- THE TIED CARD OF 'polyglotlaw07.KnownSplits'. -/
def knownSplitsCard : Claim7 := { stood := { row := knownSplitsRow, standIns := [], harness := (true, "ac7d07eb7ba56df4358271c629f4fc79185c16a3ebd11b87c6be41346f6efd49"), looks := false }, kinds := [], alts := [], laidByText := true, laidKinds := [.data], laidTests := true, laidLooks := .later }
def KnownSplitsCardSaid : Prop := Claim7.holds Tryd.pinned (.plain (OpenSpec.ofChange knownSplitsSpec)) knownSplitsCard

/-- THE SECOND FORM's CARD OF 'polyglotlaw07.KnownSplits'. -/
def knownSplitsUptoCard : Claim7 := { stood := { row := knownSplitsUptoRow, standIns := [], harness := (true, "ac7d07eb7ba56df4358271c629f4fc79185c16a3ebd11b87c6be41346f6efd49"), looks := false }, kinds := [], alts := [], laidByText := true, laidKinds := [.data], laidTests := true, laidLooks := .later }
def KnownSplitsUptoCardSaid : Prop := Claim7.holds Tryd.pinned (.plain (OpenSpec.upto knownSplitsSpec)) knownSplitsUptoCard
end Rows
end Go.Proofs.YtmfgpakpbpmcdaaDoor
