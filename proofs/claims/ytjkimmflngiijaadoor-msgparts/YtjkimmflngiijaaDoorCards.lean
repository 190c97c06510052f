/-
  DERIVED. GIVEN WITH THE SEED: THE CARDS: each row of YtjkimmflngiijaaDoorRows.lean that lists a variable, with what it lists TIED to the program's text (the seventh form; the later family's looks); each row that meets fmt, with fmt's text TOLD by the authors' own Lean function (tested against real Go, not proved from fmt's source: count such statements apart). THE CARD IS WHAT COUNTS. Prove the row's statement (the work); the ties are given (YtjkimmflngiijaaDoorTie.lean); close each card by the builder's one call (the guide's Derived/Test/ToyasCard.lean, 'card_holds'). Laid BY PROGRAM, IN A SANDBOX (cutbox-door.mjs). By AI agents, Wed Nov 11 2026. No macro, syntax, notation, axiom, sorry.
-/
import Derived.Test.YtjkimmflngiijaaDoorRows
import GoSem.ClaimSeven
namespace Go.Proofs.YtjkimmflngiijaaDoor
namespace Rows

/-- THE TIED CARD OF 'polyglotlaw10.MsgParts'. -/
def msgPartsCard : Claim7 := { stood := { row := msgPartsRow, standIns := [], harness := (true, "af4ab11feb15b1e760458e7e563e999d39a41c0701361c3aebe46f965ee72831"), looks := false }, kinds := [], alts := [], laidByText := true, laidKinds := [.data], laidTests := true, laidLooks := .later }
def MsgPartsCardSaid : Prop := Claim7.holds Tryd.pinned (.plain (OpenSpec.ofChange msgPartsSpec)) msgPartsCard

/-- THE TIED CARD OF 'polyglotlaw10.MsgMay'. -/
def msgMayCard : Claim7 := { stood := { row := msgMayRow, standIns := [], harness := (true, "af4ab11feb15b1e760458e7e563e999d39a41c0701361c3aebe46f965ee72831"), looks := false }, kinds := [], alts := [], laidByText := true, laidKinds := [.data], laidTests := true, laidLooks := .later }
def MsgMayCardSaid : Prop := Claim7.holds Tryd.pinned (.plain (OpenSpec.ofChange msgMaySpec)) msgMayCard

/-- THE TIED CARD OF 'polyglotlaw10.MsgMany'. -/
def msgManyCard : Claim7 := { stood := { row := msgManyRow, standIns := [], harness := (true, "af4ab11feb15b1e760458e7e563e999d39a41c0701361c3aebe46f965ee72831"), looks := false }, kinds := [], alts := [], laidByText := true, laidKinds := [.data], laidTests := true, laidLooks := .later }
def MsgManyCardSaid : Prop := Claim7.holds Tryd.pinned (.plain (OpenSpec.ofChange msgManySpec)) msgManyCard

/-- THE TIED CARD OF 'polyglotlaw10.MsgSames'. -/
def msgSamesCard : Claim7 := { stood := { row := msgSamesRow, standIns := [], harness := (true, "af4ab11feb15b1e760458e7e563e999d39a41c0701361c3aebe46f965ee72831"), looks := false }, kinds := [], alts := [], laidByText := true, laidKinds := [.data], laidTests := true, laidLooks := .later }
def MsgSamesCardSaid : Prop := Claim7.holds Tryd.pinned (.plain (OpenSpec.ofChange msgSamesSpec)) msgSamesCard

/-- THE SECOND FORM's CARD OF 'polyglotlaw10.MsgParts'. -/
def msgPartsUptoCard : Claim7 := { stood := { row := msgPartsUptoRow, standIns := [], harness := (true, "af4ab11feb15b1e760458e7e563e999d39a41c0701361c3aebe46f965ee72831"), looks := false }, kinds := [], alts := [], laidByText := true, laidKinds := [.data], laidTests := true, laidLooks := .later }
def MsgPartsUptoCardSaid : Prop := Claim7.holds Tryd.pinned (.plain (OpenSpec.upto msgPartsSpec)) msgPartsUptoCard

/-- THE SECOND FORM's CARD OF 'polyglotlaw10.MsgMay'. -/
def msgMayUptoCard : Claim7 := { stood := { row := msgMayUptoRow, standIns := [], harness := (true, "af4ab11feb15b1e760458e7e563e999d39a41c0701361c3aebe46f965ee72831"), looks := false }, kinds := [], alts := [], laidByText := true, laidKinds := [.data], laidTests := true, laidLooks := .later }
def MsgMayUptoCardSaid : Prop := Claim7.holds Tryd.pinned (.plain (OpenSpec.upto msgMaySpec)) msgMayUptoCard

/-- THE SECOND FORM's CARD OF 'polyglotlaw10.MsgMany'. -/
def msgManyUptoCard : Claim7 := { stood := { row := msgManyUptoRow, standIns := [], harness := (true, "af4ab11feb15b1e760458e7e563e999d39a41c0701361c3aebe46f965ee72831"), looks := false }, kinds := [], alts := [], laidByText := true, laidKinds := [.data], laidTests := true, laidLooks := .later }
def MsgManyUptoCardSaid : Prop := Claim7.holds Tryd.pinned (.plain (OpenSpec.upto msgManySpec)) msgManyUptoCard

/-- THE SECOND FORM's CARD OF 'polyglotlaw10.MsgSames'. -/
def msgSamesUptoCard : Claim7 := { stood := { row := msgSamesUptoRow, standIns := [], harness := (true, "af4ab11feb15b1e760458e7e563e999d39a41c0701361c3aebe46f965ee72831"), looks := false }, kinds := [], alts := [], laidByText := true, laidKinds := [.data], laidTests := true, laidLooks := .later }
def MsgSamesUptoCardSaid : Prop := Claim7.holds Tryd.pinned (.plain (OpenSpec.upto msgSamesSpec)) msgSamesUptoCard
end Rows
end Go.Proofs.YtjkimmflngiijaaDoor
