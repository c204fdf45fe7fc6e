/-
  DERIVED. GIVEN WITH THE SEED: THE CARDS: each row of YtbnlkjoblngakaaDoorRows.lean that lists a variable, with what it lists TIED to the program's text (the seventh form; the later family's looks); each row that meets fmt, with fmt's text TOLD by the authors' own Lean function (tested against real Go, not proved from fmt's source: count such statements apart). THE CARD IS WHAT COUNTS. Prove the row's statement (the work); the ties are given (YtbnlkjoblngakaaDoorTie.lean); close each card by the builder's one call (the guide's Derived/Test/ToyasCard.lean, 'card_holds'). Laid BY PROGRAM, IN A SANDBOX (cutbox-door.mjs). By AI agents, Wed Nov 11 2026. No macro, syntax, notation, axiom, sorry.
-/
import Derived.Test.YtbnlkjoblngakaaDoorRows
import GoSem.ClaimSeven
namespace Go.Proofs.YtbnlkjoblngakaaDoor
namespace Rows

/-- THE TIED CARD OF 'crierlaw13.ChainGoes'. -/
def chainGoesCard : Claim7 := { stood := { row := chainGoesRow, standIns := [], harness := (true, "73f50649223ebd391931008d944a54bce942e3956af95dd968ebbfd1b34e2ae2"), looks := false }, kinds := [], alts := [], laidByText := true, laidKinds := [.data, .pinned], laidTests := true, laidLooks := .later }
def ChainGoesCardSaid : Prop := Claim7.holds Tryd.pinned (.plain (OpenSpec.ofChange chainGoesSpec)) chainGoesCard

/-- THE TIED CARD OF 'crierlaw13.ChainNobody'. -/
def chainNobodyCard : Claim7 := { stood := { row := chainNobodyRow, standIns := [], harness := (true, "73f50649223ebd391931008d944a54bce942e3956af95dd968ebbfd1b34e2ae2"), looks := false }, kinds := [], alts := [], laidByText := true, laidKinds := [.data, .pinned], laidTests := true, laidLooks := .later }
def ChainNobodyCardSaid : Prop := Claim7.holds Tryd.pinned (.plain (OpenSpec.ofChange chainNobodySpec)) chainNobodyCard

/-- THE TIED CARD OF 'crierlaw13.ChainSplits'. -/
def chainSplitsCard : Claim7 := { stood := { row := chainSplitsRow, standIns := [], harness := (true, "73f50649223ebd391931008d944a54bce942e3956af95dd968ebbfd1b34e2ae2"), looks := false }, kinds := [], alts := [], laidByText := true, laidKinds := [.data, .pinned], laidTests := true, laidLooks := .later }
def ChainSplitsCardSaid : Prop := Claim7.holds Tryd.pinned (.plain (OpenSpec.ofChange chainSplitsSpec)) chainSplitsCard

/-- THE TIED CARD OF 'crierlaw13.ChainStays'. -/
def chainStaysCard : Claim7 := { stood := { row := chainStaysRow, standIns := [], harness := (true, "73f50649223ebd391931008d944a54bce942e3956af95dd968ebbfd1b34e2ae2"), looks := false }, kinds := [], alts := [], laidByText := true, laidKinds := [.data, .pinned], laidTests := true, laidLooks := .later }
def ChainStaysCardSaid : Prop := Claim7.holds Tryd.pinned (.plain (OpenSpec.ofChange chainStaysSpec)) chainStaysCard

/-- THE TIED CARD OF 'crierlaw13.ChainOnce'. -/
def chainOnceCard : Claim7 := { stood := { row := chainOnceRow, standIns := [], harness := (true, "73f50649223ebd391931008d944a54bce942e3956af95dd968ebbfd1b34e2ae2"), looks := false }, kinds := [], alts := [], laidByText := true, laidKinds := [.data, .pinned], laidTests := true, laidLooks := .later }
def ChainOnceCardSaid : Prop := Claim7.holds Tryd.pinned (.plain (OpenSpec.ofChange chainOnceSpec)) chainOnceCard

/-- THE TIED CARD OF 'crierlaw13.ChainKnown'. -/
def chainKnownCard : Claim7 := { stood := { row := chainKnownRow, standIns := [], harness := (true, "73f50649223ebd391931008d944a54bce942e3956af95dd968ebbfd1b34e2ae2"), looks := false }, kinds := [], alts := [], laidByText := true, laidKinds := [.data, .pinned], laidTests := true, laidLooks := .later }
def ChainKnownCardSaid : Prop := Claim7.holds Tryd.pinned (.plain (OpenSpec.ofChange chainKnownSpec)) chainKnownCard

/-- THE SECOND FORM's CARD OF 'crierlaw13.ChainGoes'. -/
def chainGoesUptoCard : Claim7 := { stood := { row := chainGoesUptoRow, standIns := [], harness := (true, "73f50649223ebd391931008d944a54bce942e3956af95dd968ebbfd1b34e2ae2"), looks := false }, kinds := [], alts := [], laidByText := true, laidKinds := [.data, .pinned], laidTests := true, laidLooks := .later }
def ChainGoesUptoCardSaid : Prop := Claim7.holds Tryd.pinned (.plain (OpenSpec.upto chainGoesSpec)) chainGoesUptoCard

/-- THE SECOND FORM's CARD OF 'crierlaw13.ChainNobody'. -/
def chainNobodyUptoCard : Claim7 := { stood := { row := chainNobodyUptoRow, standIns := [], harness := (true, "73f50649223ebd391931008d944a54bce942e3956af95dd968ebbfd1b34e2ae2"), looks := false }, kinds := [], alts := [], laidByText := true, laidKinds := [.data, .pinned], laidTests := true, laidLooks := .later }
def ChainNobodyUptoCardSaid : Prop := Claim7.holds Tryd.pinned (.plain (OpenSpec.upto chainNobodySpec)) chainNobodyUptoCard

/-- THE SECOND FORM's CARD OF 'crierlaw13.ChainSplits'. -/
def chainSplitsUptoCard : Claim7 := { stood := { row := chainSplitsUptoRow, standIns := [], harness := (true, "73f50649223ebd391931008d944a54bce942e3956af95dd968ebbfd1b34e2ae2"), looks := false }, kinds := [], alts := [], laidByText := true, laidKinds := [.data, .pinned], laidTests := true, laidLooks := .later }
def ChainSplitsUptoCardSaid : Prop := Claim7.holds Tryd.pinned (.plain (OpenSpec.upto chainSplitsSpec)) chainSplitsUptoCard

/-- THE SECOND FORM's CARD OF 'crierlaw13.ChainStays'. -/
def chainStaysUptoCard : Claim7 := { stood := { row := chainStaysUptoRow, standIns := [], harness := (true, "73f50649223ebd391931008d944a54bce942e3956af95dd968ebbfd1b34e2ae2"), looks := false }, kinds := [], alts := [], laidByText := true, laidKinds := [.data, .pinned], laidTests := true, laidLooks := .later }
def ChainStaysUptoCardSaid : Prop := Claim7.holds Tryd.pinned (.plain (OpenSpec.upto chainStaysSpec)) chainStaysUptoCard

/-- THE SECOND FORM's CARD OF 'crierlaw13.ChainOnce'. -/
def chainOnceUptoCard : Claim7 := { stood := { row := chainOnceUptoRow, standIns := [], harness := (true, "73f50649223ebd391931008d944a54bce942e3956af95dd968ebbfd1b34e2ae2"), looks := false }, kinds := [], alts := [], laidByText := true, laidKinds := [.data, .pinned], laidTests := true, laidLooks := .later }
def ChainOnceUptoCardSaid : Prop := Claim7.holds Tryd.pinned (.plain (OpenSpec.upto chainOnceSpec)) chainOnceUptoCard

/-- THE SECOND FORM's CARD OF 'crierlaw13.ChainKnown'. -/
def chainKnownUptoCard : Claim7 := { stood := { row := chainKnownUptoRow, standIns := [], harness := (true, "73f50649223ebd391931008d944a54bce942e3956af95dd968ebbfd1b34e2ae2"), looks := false }, kinds := [], alts := [], laidByText := true, laidKinds := [.data, .pinned], laidTests := true, laidLooks := .later }
def ChainKnownUptoCardSaid : Prop := Claim7.holds Tryd.pinned (.plain (OpenSpec.upto chainKnownSpec)) chainKnownUptoCard
end Rows
end Go.Proofs.YtbnlkjoblngakaaDoor
