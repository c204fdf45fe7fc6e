/-
  DERIVED. GIVEN WITH THE SEED: THE CARDS: each row of YtnaekjmlikhglaaDoorRows.lean that lists a variable, with what it lists TIED to the program's text (the seventh form; the later family's looks); each row that meets fmt, with fmt's text TOLD by the authors' own Lean function (tested against real Go, not proved from fmt's source: count such statements apart). THE CARD IS WHAT COUNTS. Prove the row's statement (the work); the ties are given (YtnaekjmlikhglaaDoorTie.lean); close each card by the builder's one call (the guide's Derived/Test/ToyasCard.lean, 'card_holds'). Laid BY PROGRAM, IN A SANDBOX (cutbox-door.mjs). By AI agents, Wed Nov 11 2026. No macro, syntax, notation, axiom, sorry.
-/
import Derived.Test.YtnaekjmlikhglaaDoorRows
import GoSem.ClaimSeven
namespace Go.Proofs.YtnaekjmlikhglaaDoor
namespace Rows

/-- THE TIED CARD OF 'crierlaw17.HandChecks'. -/
def handChecksCard : Claim7 := { stood := { row := handChecksRow, standIns := [], harness := (true, "db37a2fd2fbc3a886527444561be2013c2e15dec16bab3a211c8ba4ef4e1418c"), looks := false }, kinds := [], alts := [], laidByText := true, laidKinds := [.data, .data, .pinned], laidTests := true, laidLooks := .later }
def HandChecksCardSaid : Prop := Claim7.holds Tryd.pinned (.plain (OpenSpec.ofChange handChecksSpec)) handChecksCard

/-- THE TIED CARD OF 'crierlaw17.HandAccepts'. -/
def handAcceptsCard : Claim7 := { stood := { row := handAcceptsRow, standIns := [], harness := (true, "db37a2fd2fbc3a886527444561be2013c2e15dec16bab3a211c8ba4ef4e1418c"), looks := false }, kinds := [], alts := [], laidByText := true, laidKinds := [.data, .data, .pinned], laidTests := true, laidLooks := .later }
def HandAcceptsCardSaid : Prop := Claim7.holds Tryd.pinned (.plain (OpenSpec.ofChange handAcceptsSpec)) handAcceptsCard

/-- THE TIED CARD OF 'crierlaw17.HandOrder'. -/
def handOrderCard : Claim7 := { stood := { row := handOrderRow, standIns := [], harness := (true, "db37a2fd2fbc3a886527444561be2013c2e15dec16bab3a211c8ba4ef4e1418c"), looks := false }, kinds := [], alts := [], laidByText := true, laidKinds := [.data, .data, .pinned], laidTests := true, laidLooks := .later }
def HandOrderCardSaid : Prop := Claim7.holds Tryd.pinned (.plain (OpenSpec.ofChange handOrderSpec)) handOrderCard

/-- THE TIED CARD OF 'crierlaw17.HandLacks'. -/
def handLacksCard : Claim7 := { stood := { row := handLacksRow, standIns := [], harness := (true, "db37a2fd2fbc3a886527444561be2013c2e15dec16bab3a211c8ba4ef4e1418c"), looks := false }, kinds := [], alts := [], laidByText := true, laidKinds := [.data, .data, .pinned], laidTests := true, laidLooks := .later }
def HandLacksCardSaid : Prop := Claim7.holds Tryd.pinned (.plain (OpenSpec.ofChange handLacksSpec)) handLacksCard

/-- THE TIED CARD OF 'crierlaw17.HandVersions'. -/
def handVersionsCard : Claim7 := { stood := { row := handVersionsRow, standIns := [], harness := (true, "db37a2fd2fbc3a886527444561be2013c2e15dec16bab3a211c8ba4ef4e1418c"), looks := false }, kinds := [], alts := [], laidByText := true, laidKinds := [.data, .data, .pinned], laidTests := true, laidLooks := .later }
def HandVersionsCardSaid : Prop := Claim7.holds Tryd.pinned (.plain (OpenSpec.ofChange handVersionsSpec)) handVersionsCard

/-- THE TIED CARD OF 'crierlaw17.HandKnown'. -/
def handKnownCard : Claim7 := { stood := { row := handKnownRow, standIns := [], harness := (true, "db37a2fd2fbc3a886527444561be2013c2e15dec16bab3a211c8ba4ef4e1418c"), looks := false }, kinds := [], alts := [], laidByText := true, laidKinds := [.data, .data, .pinned], laidTests := true, laidLooks := .later }
def HandKnownCardSaid : Prop := Claim7.holds Tryd.pinned (.plain (OpenSpec.ofChange handKnownSpec)) handKnownCard

/-- THE SECOND FORM's CARD OF 'crierlaw17.HandChecks'. -/
def handChecksUptoCard : Claim7 := { stood := { row := handChecksUptoRow, standIns := [], harness := (true, "db37a2fd2fbc3a886527444561be2013c2e15dec16bab3a211c8ba4ef4e1418c"), looks := false }, kinds := [], alts := [], laidByText := true, laidKinds := [.data, .data, .pinned], laidTests := true, laidLooks := .later }
def HandChecksUptoCardSaid : Prop := Claim7.holds Tryd.pinned (.plain (OpenSpec.upto handChecksSpec)) handChecksUptoCard

/-- THE SECOND FORM's CARD OF 'crierlaw17.HandAccepts'. -/
def handAcceptsUptoCard : Claim7 := { stood := { row := handAcceptsUptoRow, standIns := [], harness := (true, "db37a2fd2fbc3a886527444561be2013c2e15dec16bab3a211c8ba4ef4e1418c"), looks := false }, kinds := [], alts := [], laidByText := true, laidKinds := [.data, .data, .pinned], laidTests := true, laidLooks := .later }
def HandAcceptsUptoCardSaid : Prop := Claim7.holds Tryd.pinned (.plain (OpenSpec.upto handAcceptsSpec)) handAcceptsUptoCard

/-- THE SECOND FORM's CARD OF 'crierlaw17.HandOrder'. -/
def handOrderUptoCard : Claim7 := { stood := { row := handOrderUptoRow, standIns := [], harness := (true, "db37a2fd2fbc3a886527444561be2013c2e15dec16bab3a211c8ba4ef4e1418c"), looks := false }, kinds := [], alts := [], laidByText := true, laidKinds := [.data, .data, .pinned], laidTests := true, laidLooks := .later }
def HandOrderUptoCardSaid : Prop := Claim7.holds Tryd.pinned (.plain (OpenSpec.upto handOrderSpec)) handOrderUptoCard

/-- THE SECOND FORM's CARD OF 'crierlaw17.HandLacks'. -/
def handLacksUptoCard : Claim7 := { stood := { row := handLacksUptoRow, standIns := [], harness := (true, "db37a2fd2fbc3a886527444561be2013c2e15dec16bab3a211c8ba4ef4e1418c"), looks := false }, kinds := [], alts := [], laidByText := true, laidKinds := [.data, .data, .pinned], laidTests := true, laidLooks := .later }
def HandLacksUptoCardSaid : Prop := Claim7.holds Tryd.pinned (.plain (OpenSpec.upto handLacksSpec)) handLacksUptoCard

/-- THE SECOND FORM's CARD OF 'crierlaw17.HandVersions'. -/
def handVersionsUptoCard : Claim7 := { stood := { row := handVersionsUptoRow, standIns := [], harness := (true, "db37a2fd2fbc3a886527444561be2013c2e15dec16bab3a211c8ba4ef4e1418c"), looks := false }, kinds := [], alts := [], laidByText := true, laidKinds := [.data, .data, .pinned], laidTests := true, laidLooks := .later }
def HandVersionsUptoCardSaid : Prop := Claim7.holds Tryd.pinned (.plain (OpenSpec.upto handVersionsSpec)) handVersionsUptoCard

/-- THE SECOND FORM's CARD OF 'crierlaw17.HandKnown'. -/
def handKnownUptoCard : Claim7 := { stood := { row := handKnownUptoRow, standIns := [], harness := (true, "db37a2fd2fbc3a886527444561be2013c2e15dec16bab3a211c8ba4ef4e1418c"), looks := false }, kinds := [], alts := [], laidByText := true, laidKinds := [.data, .data, .pinned], laidTests := true, laidLooks := .later }
def HandKnownUptoCardSaid : Prop := Claim7.holds Tryd.pinned (.plain (OpenSpec.upto handKnownSpec)) handKnownUptoCard
end Rows
end Go.Proofs.YtnaekjmlikhglaaDoor
