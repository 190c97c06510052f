/-
  DERIVED. GIVEN WITH THE SEED: THE CARDS: each row of YtmfkdohfejklhaaDoorRows.lean that lists a variable, with what it lists TIED to the program's text (the seventh form; the later family's looks); each row that meets fmt, with fmt's text TOLD by the authors' own Lean function (tested against real Go, not proved from fmt's source: count such statements apart). THE CARD IS WHAT COUNTS. Prove the row's statement (the work); the ties are given (YtmfkdohfejklhaaDoorTie.lean); close each card by the builder's one call (the guide's Derived/Test/ToyasCard.lean, 'card_holds'). Laid BY PROGRAM, IN A SANDBOX (cutbox-door.mjs). By AI agents, Wed Nov 11 2026. No macro, syntax, notation, axiom, sorry.
-/
import Derived.Test.YtmfkdohfejklhaaDoorRows
import GoSem.ClaimSeven
namespace Go.Proofs.YtmfkdohfejklhaaDoor
namespace Rows

/-- THE TIED CARD OF 'polyglotlaw11.Gen1Writes'. -/
def gen1WritesCard : Claim7 := { stood := { row := gen1WritesRow, standIns := [], harness := (true, "90bc111f5d194c88f6e26786760b78513463f06a5d70d70c91270385cda3a41c"), looks := false }, kinds := [], alts := [], laidByText := true, laidKinds := [.data], laidTests := true, laidLooks := .later }
def Gen1WritesCardSaid : Prop := Claim7.holds Tryd.pinned (.plain (OpenSpec.ofChange gen1WritesSpec)) gen1WritesCard

/-- THE TIED CARD OF 'polyglotlaw11.Gen1Reads'. -/
def gen1ReadsCard : Claim7 := { stood := { row := gen1ReadsRow, standIns := [], harness := (true, "90bc111f5d194c88f6e26786760b78513463f06a5d70d70c91270385cda3a41c"), looks := false }, kinds := [], alts := [], laidByText := true, laidKinds := [.data], laidTests := true, laidLooks := .later }
def Gen1ReadsCardSaid : Prop := Claim7.holds Tryd.pinned (.plain (OpenSpec.ofChange gen1ReadsSpec)) gen1ReadsCard

/-- THE TIED CARD OF 'polyglotlaw11.Gen1Image'. -/
def gen1ImageCard : Claim7 := { stood := { row := gen1ImageRow, standIns := [], harness := (true, "90bc111f5d194c88f6e26786760b78513463f06a5d70d70c91270385cda3a41c"), looks := false }, kinds := [], alts := [], laidByText := true, laidKinds := [.data], laidTests := true, laidLooks := .later }
def Gen1ImageCardSaid : Prop := Claim7.holds Tryd.pinned (.plain (OpenSpec.ofChange gen1ImageSpec)) gen1ImageCard

/-- THE TIED CARD OF 'polyglotlaw11.Gen1Back'. -/
def gen1BackCard : Claim7 := { stood := { row := gen1BackRow, standIns := [], harness := (true, "90bc111f5d194c88f6e26786760b78513463f06a5d70d70c91270385cda3a41c"), looks := false }, kinds := [], alts := [], laidByText := true, laidKinds := [.data], laidTests := true, laidLooks := .later }
def Gen1BackCardSaid : Prop := Claim7.holds Tryd.pinned (.plain (OpenSpec.ofChange gen1BackSpec)) gen1BackCard

/-- THE SECOND FORM's CARD OF 'polyglotlaw11.Gen1Writes'. -/
def gen1WritesUptoCard : Claim7 := { stood := { row := gen1WritesUptoRow, standIns := [], harness := (true, "90bc111f5d194c88f6e26786760b78513463f06a5d70d70c91270385cda3a41c"), looks := false }, kinds := [], alts := [], laidByText := true, laidKinds := [.data], laidTests := true, laidLooks := .later }
def Gen1WritesUptoCardSaid : Prop := Claim7.holds Tryd.pinned (.plain (OpenSpec.upto gen1WritesSpec)) gen1WritesUptoCard

/-- THE SECOND FORM's CARD OF 'polyglotlaw11.Gen1Reads'. -/
def gen1ReadsUptoCard : Claim7 := { stood := { row := gen1ReadsUptoRow, standIns := [], harness := (true, "90bc111f5d194c88f6e26786760b78513463f06a5d70d70c91270385cda3a41c"), looks := false }, kinds := [], alts := [], laidByText := true, laidKinds := [.data], laidTests := true, laidLooks := .later }
def Gen1ReadsUptoCardSaid : Prop := Claim7.holds Tryd.pinned (.plain (OpenSpec.upto gen1ReadsSpec)) gen1ReadsUptoCard

/-- THE SECOND FORM's CARD OF 'polyglotlaw11.Gen1Image'. -/
def gen1ImageUptoCard : Claim7 := { stood := { row := gen1ImageUptoRow, standIns := [], harness := (true, "90bc111f5d194c88f6e26786760b78513463f06a5d70d70c91270385cda3a41c"), looks := false }, kinds := [], alts := [], laidByText := true, laidKinds := [.data], laidTests := true, laidLooks := .later }
def Gen1ImageUptoCardSaid : Prop := Claim7.holds Tryd.pinned (.plain (OpenSpec.upto gen1ImageSpec)) gen1ImageUptoCard

/-- THE SECOND FORM's CARD OF 'polyglotlaw11.Gen1Back'. -/
def gen1BackUptoCard : Claim7 := { stood := { row := gen1BackUptoRow, standIns := [], harness := (true, "90bc111f5d194c88f6e26786760b78513463f06a5d70d70c91270385cda3a41c"), looks := false }, kinds := [], alts := [], laidByText := true, laidKinds := [.data], laidTests := true, laidLooks := .later }
def Gen1BackUptoCardSaid : Prop := Claim7.holds Tryd.pinned (.plain (OpenSpec.upto gen1BackSpec)) gen1BackUptoCard
end Rows
end Go.Proofs.YtmfkdohfejklhaaDoor
