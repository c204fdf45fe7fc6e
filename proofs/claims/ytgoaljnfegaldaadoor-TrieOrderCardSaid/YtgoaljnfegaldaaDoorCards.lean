/-
  DERIVED. GIVEN WITH THE SEED: THE CARDS: each row of YtgoaljnfegaldaaDoorRows.lean that lists a variable, with what it lists TIED to the program's text (the seventh form; the later family's looks); each row that meets fmt, with fmt's text TOLD by the authors' own Lean function (tested against real Go, not proved from fmt's source: count such statements apart). THE CARD IS WHAT COUNTS. Prove the row's statement (the work); the ties are given (YtgoaljnfegaldaaDoorTie.lean); close each card by the builder's one call (the guide's Derived/Test/ToyasCard.lean, 'card_holds'). Laid BY PROGRAM, IN A SANDBOX (cutbox-door.mjs). By AI agents, Wed Nov 11 2026. No macro, syntax, notation, axiom, sorry.
-/
import Derived.Test.YtgoaljnfegaldaaDoorRows
import GoSem.ClaimSeven
namespace Go.Proofs.YtgoaljnfegaldaaDoor
namespace Rows

/-- THE TIED CARD OF 'crierlaw12.TrieOrder'. -/
def trieOrderCard : Claim7 := { stood := { row := trieOrderRow, standIns := [], harness := (true, "534c3e89823674df990335f768b52dbf6505333e27c7bdf665dbd5bff377e3f8"), looks := false }, kinds := [], alts := [], laidByText := true, laidKinds := [.data, .pinned], laidTests := true, laidLooks := .later }
def TrieOrderCardSaid : Prop := Claim7.holds Tryd.pinned (.plain (OpenSpec.ofChange trieOrderSpec)) trieOrderCard

/-- THE TIED CARD OF 'crierlaw12.TrieFills'. -/
def trieFillsCard : Claim7 := { stood := { row := trieFillsRow, standIns := [], harness := (true, "534c3e89823674df990335f768b52dbf6505333e27c7bdf665dbd5bff377e3f8"), looks := false }, kinds := [], alts := [], laidByText := true, laidKinds := [.data, .pinned], laidTests := true, laidLooks := .later }
def TrieFillsCardSaid : Prop := Claim7.holds Tryd.pinned (.plain (OpenSpec.ofChange trieFillsSpec)) trieFillsCard

/-- THE TIED CARD OF 'crierlaw12.TrieMore'. -/
def trieMoreCard : Claim7 := { stood := { row := trieMoreRow, standIns := [], harness := (true, "534c3e89823674df990335f768b52dbf6505333e27c7bdf665dbd5bff377e3f8"), looks := false }, kinds := [], alts := [], laidByText := true, laidKinds := [.data, .pinned], laidTests := true, laidLooks := .later }
def TrieMoreCardSaid : Prop := Claim7.holds Tryd.pinned (.plain (OpenSpec.ofChange trieMoreSpec)) trieMoreCard

/-- THE TIED CARD OF 'crierlaw12.TrieKnown'. -/
def trieKnownCard : Claim7 := { stood := { row := trieKnownRow, standIns := [], harness := (true, "534c3e89823674df990335f768b52dbf6505333e27c7bdf665dbd5bff377e3f8"), looks := false }, kinds := [], alts := [], laidByText := true, laidKinds := [.data, .pinned], laidTests := true, laidLooks := .later }
def TrieKnownCardSaid : Prop := Claim7.holds Tryd.pinned (.plain (OpenSpec.ofChange trieKnownSpec)) trieKnownCard

/-- THE SECOND FORM's CARD OF 'crierlaw12.TrieOrder'. -/
def trieOrderUptoCard : Claim7 := { stood := { row := trieOrderUptoRow, standIns := [], harness := (true, "534c3e89823674df990335f768b52dbf6505333e27c7bdf665dbd5bff377e3f8"), looks := false }, kinds := [], alts := [], laidByText := true, laidKinds := [.data, .pinned], laidTests := true, laidLooks := .later }
def TrieOrderUptoCardSaid : Prop := Claim7.holds Tryd.pinned (.plain (OpenSpec.upto trieOrderSpec)) trieOrderUptoCard

/-- THE SECOND FORM's CARD OF 'crierlaw12.TrieFills'. -/
def trieFillsUptoCard : Claim7 := { stood := { row := trieFillsUptoRow, standIns := [], harness := (true, "534c3e89823674df990335f768b52dbf6505333e27c7bdf665dbd5bff377e3f8"), looks := false }, kinds := [], alts := [], laidByText := true, laidKinds := [.data, .pinned], laidTests := true, laidLooks := .later }
def TrieFillsUptoCardSaid : Prop := Claim7.holds Tryd.pinned (.plain (OpenSpec.upto trieFillsSpec)) trieFillsUptoCard

/-- THE SECOND FORM's CARD OF 'crierlaw12.TrieMore'. -/
def trieMoreUptoCard : Claim7 := { stood := { row := trieMoreUptoRow, standIns := [], harness := (true, "534c3e89823674df990335f768b52dbf6505333e27c7bdf665dbd5bff377e3f8"), looks := false }, kinds := [], alts := [], laidByText := true, laidKinds := [.data, .pinned], laidTests := true, laidLooks := .later }
def TrieMoreUptoCardSaid : Prop := Claim7.holds Tryd.pinned (.plain (OpenSpec.upto trieMoreSpec)) trieMoreUptoCard

/-- THE SECOND FORM's CARD OF 'crierlaw12.TrieKnown'. -/
def trieKnownUptoCard : Claim7 := { stood := { row := trieKnownUptoRow, standIns := [], harness := (true, "534c3e89823674df990335f768b52dbf6505333e27c7bdf665dbd5bff377e3f8"), looks := false }, kinds := [], alts := [], laidByText := true, laidKinds := [.data, .pinned], laidTests := true, laidLooks := .later }
def TrieKnownUptoCardSaid : Prop := Claim7.holds Tryd.pinned (.plain (OpenSpec.upto trieKnownSpec)) trieKnownUptoCard
end Rows
end Go.Proofs.YtgoaljnfegaldaaDoor
