/-
  DERIVED. GIVEN WITH THE SEED: THE CARDS: each row of YtmejfkhikgcgmaaDoorRows.lean that lists a variable, with what it lists TIED to the program's text (the seventh form; the later family's looks); each row that meets fmt, with fmt's text TOLD by the authors' own Lean function (tested against real Go, not proved from fmt's source: count such statements apart). THE CARD IS WHAT COUNTS. Prove the row's statement (the work); the ties are given (YtmejfkhikgcgmaaDoorTie.lean); close each card by the builder's one call (the guide's Derived/Test/ToyasCard.lean, 'card_holds'). Laid BY PROGRAM, IN A SANDBOX (cutbox-door.mjs). By AI agents, Wed Nov 11 2026. No macro, syntax, notation, axiom, sorry.
-/
import Derived.Test.YtmejfkhikgcgmaaDoorRows
import GoSem.ClaimSeven
namespace Go.Proofs.YtmejfkhikgcgmaaDoor
namespace Rows

/-- THE TIED CARD OF 'polyglotlaw13.Gen2Writes'. -/
def gen2WritesCard : Claim7 := { stood := { row := gen2WritesRow, standIns := [], harness := (true, "3d089135634952230fd6078be9e498bd2f27c36a1c45ed0b1e788b5ed9f733f0"), looks := false }, kinds := [], alts := [], laidByText := true, laidKinds := [.data], laidTests := true, laidLooks := .later }
def Gen2WritesCardSaid : Prop := Claim7.holds Tryd.pinned (.plain (OpenSpec.ofChange gen2WritesSpec)) gen2WritesCard

/-- THE TIED CARD OF 'polyglotlaw13.Gen2Reads'. -/
def gen2ReadsCard : Claim7 := { stood := { row := gen2ReadsRow, standIns := [], harness := (true, "3d089135634952230fd6078be9e498bd2f27c36a1c45ed0b1e788b5ed9f733f0"), looks := false }, kinds := [], alts := [], laidByText := true, laidKinds := [.data], laidTests := true, laidLooks := .later }
def Gen2ReadsCardSaid : Prop := Claim7.holds Tryd.pinned (.plain (OpenSpec.ofChange gen2ReadsSpec)) gen2ReadsCard

/-- THE TIED CARD OF 'polyglotlaw13.Gen2Image'. -/
def gen2ImageCard : Claim7 := { stood := { row := gen2ImageRow, standIns := [], harness := (true, "3d089135634952230fd6078be9e498bd2f27c36a1c45ed0b1e788b5ed9f733f0"), looks := false }, kinds := [], alts := [], laidByText := true, laidKinds := [.data], laidTests := true, laidLooks := .later }
def Gen2ImageCardSaid : Prop := Claim7.holds Tryd.pinned (.plain (OpenSpec.ofChange gen2ImageSpec)) gen2ImageCard

/-- THE TIED CARD OF 'polyglotlaw13.Gen2Back'. -/
def gen2BackCard : Claim7 := { stood := { row := gen2BackRow, standIns := [], harness := (true, "3d089135634952230fd6078be9e498bd2f27c36a1c45ed0b1e788b5ed9f733f0"), looks := false }, kinds := [], alts := [], laidByText := true, laidKinds := [.data], laidTests := true, laidLooks := .later }
def Gen2BackCardSaid : Prop := Claim7.holds Tryd.pinned (.plain (OpenSpec.ofChange gen2BackSpec)) gen2BackCard

/-- THE SECOND FORM's CARD OF 'polyglotlaw13.Gen2Writes'. -/
def gen2WritesUptoCard : Claim7 := { stood := { row := gen2WritesUptoRow, standIns := [], harness := (true, "3d089135634952230fd6078be9e498bd2f27c36a1c45ed0b1e788b5ed9f733f0"), looks := false }, kinds := [], alts := [], laidByText := true, laidKinds := [.data], laidTests := true, laidLooks := .later }
def Gen2WritesUptoCardSaid : Prop := Claim7.holds Tryd.pinned (.plain (OpenSpec.upto gen2WritesSpec)) gen2WritesUptoCard

/-- THE SECOND FORM's CARD OF 'polyglotlaw13.Gen2Reads'. -/
def gen2ReadsUptoCard : Claim7 := { stood := { row := gen2ReadsUptoRow, standIns := [], harness := (true, "3d089135634952230fd6078be9e498bd2f27c36a1c45ed0b1e788b5ed9f733f0"), looks := false }, kinds := [], alts := [], laidByText := true, laidKinds := [.data], laidTests := true, laidLooks := .later }
def Gen2ReadsUptoCardSaid : Prop := Claim7.holds Tryd.pinned (.plain (OpenSpec.upto gen2ReadsSpec)) gen2ReadsUptoCard

/-- THE SECOND FORM's CARD OF 'polyglotlaw13.Gen2Image'. -/
def gen2ImageUptoCard : Claim7 := { stood := { row := gen2ImageUptoRow, standIns := [], harness := (true, "3d089135634952230fd6078be9e498bd2f27c36a1c45ed0b1e788b5ed9f733f0"), looks := false }, kinds := [], alts := [], laidByText := true, laidKinds := [.data], laidTests := true, laidLooks := .later }
def Gen2ImageUptoCardSaid : Prop := Claim7.holds Tryd.pinned (.plain (OpenSpec.upto gen2ImageSpec)) gen2ImageUptoCard

/-- THE SECOND FORM's CARD OF 'polyglotlaw13.Gen2Back'. -/
def gen2BackUptoCard : Claim7 := { stood := { row := gen2BackUptoRow, standIns := [], harness := (true, "3d089135634952230fd6078be9e498bd2f27c36a1c45ed0b1e788b5ed9f733f0"), looks := false }, kinds := [], alts := [], laidByText := true, laidKinds := [.data], laidTests := true, laidLooks := .later }
def Gen2BackUptoCardSaid : Prop := Claim7.holds Tryd.pinned (.plain (OpenSpec.upto gen2BackSpec)) gen2BackUptoCard
end Rows
end Go.Proofs.YtmejfkhikgcgmaaDoor
