/-
  DERIVED. GIVEN WITH THE SEED: THE CARDS: each row of YtemlbegafkmgbaaDoorRows.lean that lists a variable, with what it lists TIED to the program's text (the seventh form; the later family's looks); each row that meets fmt, with fmt's text TOLD by the authors' own Lean function (tested against real Go, not proved from fmt's source: count such statements apart). THE CARD IS WHAT COUNTS. Prove the row's statement (the work); the ties are given (YtemlbegafkmgbaaDoorTie.lean); close each card by the builder's one call (the guide's Derived/Test/ToyasCard.lean, 'card_holds'). Laid BY PROGRAM, IN A SANDBOX (cutbox-door.mjs). By AI agents, Wed Nov 11 2026. No macro, syntax, notation, axiom, sorry.
-/
import Derived.Test.YtemlbegafkmgbaaDoorRows
import GoSem.ClaimSeven
namespace Go.Proofs.YtemlbegafkmgbaaDoor
namespace Rows

/-- THE TIED CARD OF 'crierlaw07.LineKnown'. -/
def lineKnownCard : Claim7 := { stood := { row := lineKnownRow, standIns := [], harness := (true, "3629b80d210df4dd4613530e8d9b568f7935815ada8fd44c9360591e42eb181c"), looks := false }, kinds := [], alts := [], laidByText := true, laidKinds := [.data, .pinned], laidTests := true, laidLooks := .later }
def LineKnownCardSaid : Prop := Claim7.holds Tryd.pinned (.plain (OpenSpec.ofChange lineKnownSpec)) lineKnownCard

/-- THE TIED CARD OF 'crierlaw07.LineReads'. -/
def lineReadsCard : Claim7 := { stood := { row := lineReadsRow, standIns := [], harness := (true, "3629b80d210df4dd4613530e8d9b568f7935815ada8fd44c9360591e42eb181c"), looks := false }, kinds := [], alts := [], laidByText := true, laidKinds := [.data, .pinned], laidTests := true, laidLooks := .later }
def LineReadsCardSaid : Prop := Claim7.holds Tryd.pinned (.plain (OpenSpec.ofChange lineReadsSpec)) lineReadsCard

/-- THE TIED CARD OF 'crierlaw07.LineBytes'. -/
def lineBytesCard : Claim7 := { stood := { row := lineBytesRow, standIns := [], harness := (true, "3629b80d210df4dd4613530e8d9b568f7935815ada8fd44c9360591e42eb181c"), looks := false }, kinds := [], alts := [], laidByText := true, laidKinds := [.data, .pinned], laidTests := true, laidLooks := .later }
def LineBytesCardSaid : Prop := Claim7.holds Tryd.pinned (.plain (OpenSpec.ofChange lineBytesSpec)) lineBytesCard

/-- THE TIED CARD OF 'crierlaw07.LineBack'. -/
def lineBackCard : Claim7 := { stood := { row := lineBackRow, standIns := [], harness := (true, "3629b80d210df4dd4613530e8d9b568f7935815ada8fd44c9360591e42eb181c"), looks := false }, kinds := [], alts := [], laidByText := true, laidKinds := [.data, .data, .data, .data, .pinned], laidTests := true, laidLooks := .later }
def LineBackCardSaid : Prop := Claim7.holds Tryd.pinned (.plain (OpenSpec.ofChange lineBackSpec)) lineBackCard

/-- THE TIED CARD OF 'crierlaw07.LineTargets'. -/
def lineTargetsCard : Claim7 := { stood := { row := lineTargetsRow, standIns := [], harness := (true, "3629b80d210df4dd4613530e8d9b568f7935815ada8fd44c9360591e42eb181c"), looks := false }, kinds := [], alts := [], laidByText := true, laidKinds := [.data, .pinned], laidTests := true, laidLooks := .later }
def LineTargetsCardSaid : Prop := Claim7.holds Tryd.pinned (.plain (OpenSpec.ofChange lineTargetsSpec)) lineTargetsCard

/-- THE TIED CARD OF 'crierlaw07.LineStatus'. -/
def lineStatusCard : Claim7 := { stood := { row := lineStatusRow, standIns := [], harness := (true, "3629b80d210df4dd4613530e8d9b568f7935815ada8fd44c9360591e42eb181c"), looks := false }, kinds := [], alts := [], laidByText := true, laidKinds := [.data, .data, .data, .data, .pinned], laidTests := true, laidLooks := .later }
def LineStatusCardSaid : Prop := Claim7.holds Tryd.pinned (.plain (OpenSpec.ofChange lineStatusSpec)) lineStatusCard

/-- THE SECOND FORM's CARD OF 'crierlaw07.LineKnown'. -/
def lineKnownUptoCard : Claim7 := { stood := { row := lineKnownUptoRow, standIns := [], harness := (true, "3629b80d210df4dd4613530e8d9b568f7935815ada8fd44c9360591e42eb181c"), looks := false }, kinds := [], alts := [], laidByText := true, laidKinds := [.data, .pinned], laidTests := true, laidLooks := .later }
def LineKnownUptoCardSaid : Prop := Claim7.holds Tryd.pinned (.plain (OpenSpec.upto lineKnownSpec)) lineKnownUptoCard

/-- THE SECOND FORM's CARD OF 'crierlaw07.LineReads'. -/
def lineReadsUptoCard : Claim7 := { stood := { row := lineReadsUptoRow, standIns := [], harness := (true, "3629b80d210df4dd4613530e8d9b568f7935815ada8fd44c9360591e42eb181c"), looks := false }, kinds := [], alts := [], laidByText := true, laidKinds := [.data, .pinned], laidTests := true, laidLooks := .later }
def LineReadsUptoCardSaid : Prop := Claim7.holds Tryd.pinned (.plain (OpenSpec.upto lineReadsSpec)) lineReadsUptoCard

/-- THE SECOND FORM's CARD OF 'crierlaw07.LineBytes'. -/
def lineBytesUptoCard : Claim7 := { stood := { row := lineBytesUptoRow, standIns := [], harness := (true, "3629b80d210df4dd4613530e8d9b568f7935815ada8fd44c9360591e42eb181c"), looks := false }, kinds := [], alts := [], laidByText := true, laidKinds := [.data, .pinned], laidTests := true, laidLooks := .later }
def LineBytesUptoCardSaid : Prop := Claim7.holds Tryd.pinned (.plain (OpenSpec.upto lineBytesSpec)) lineBytesUptoCard

/-- THE SECOND FORM's CARD OF 'crierlaw07.LineBack'. -/
def lineBackUptoCard : Claim7 := { stood := { row := lineBackUptoRow, standIns := [], harness := (true, "3629b80d210df4dd4613530e8d9b568f7935815ada8fd44c9360591e42eb181c"), looks := false }, kinds := [], alts := [], laidByText := true, laidKinds := [.data, .data, .data, .data, .pinned], laidTests := true, laidLooks := .later }
def LineBackUptoCardSaid : Prop := Claim7.holds Tryd.pinned (.plain (OpenSpec.upto lineBackSpec)) lineBackUptoCard

/-- THE SECOND FORM's CARD OF 'crierlaw07.LineTargets'. -/
def lineTargetsUptoCard : Claim7 := { stood := { row := lineTargetsUptoRow, standIns := [], harness := (true, "3629b80d210df4dd4613530e8d9b568f7935815ada8fd44c9360591e42eb181c"), looks := false }, kinds := [], alts := [], laidByText := true, laidKinds := [.data, .pinned], laidTests := true, laidLooks := .later }
def LineTargetsUptoCardSaid : Prop := Claim7.holds Tryd.pinned (.plain (OpenSpec.upto lineTargetsSpec)) lineTargetsUptoCard

/-- THE SECOND FORM's CARD OF 'crierlaw07.LineStatus'. -/
def lineStatusUptoCard : Claim7 := { stood := { row := lineStatusUptoRow, standIns := [], harness := (true, "3629b80d210df4dd4613530e8d9b568f7935815ada8fd44c9360591e42eb181c"), looks := false }, kinds := [], alts := [], laidByText := true, laidKinds := [.data, .data, .data, .data, .pinned], laidTests := true, laidLooks := .later }
def LineStatusUptoCardSaid : Prop := Claim7.holds Tryd.pinned (.plain (OpenSpec.upto lineStatusSpec)) lineStatusUptoCard
end Rows
end Go.Proofs.YtemlbegafkmgbaaDoor
