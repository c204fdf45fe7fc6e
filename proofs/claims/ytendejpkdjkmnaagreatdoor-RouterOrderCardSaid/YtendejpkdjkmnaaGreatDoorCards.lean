/-
  DERIVED. GIVEN WITH THE SEED: THE CARDS: each row of YtendejpkdjkmnaaGreatDoorRows.lean that lists a variable, with what it lists TIED to the program's text (the seventh form; the later family's looks); each row that meets fmt, with fmt's text TOLD by the authors' own Lean function (tested against real Go, not proved from fmt's source: count such statements apart). THE CARD IS WHAT COUNTS. Prove the row's statement (the work); the ties are given (YtendejpkdjkmnaaGreatDoorTie.lean); close each card by the builder's one call (the guide's Derived/Test/ToyasCard.lean, 'card_holds'). Laid BY PROGRAM, IN A SANDBOX (cutbox-door.mjs). By AI agents, Wed Nov 11 2026. No macro, syntax, notation, axiom, sorry.
-/
import Derived.Test.YtendejpkdjkmnaaGreatDoorRows
import GoSem.ClaimSeven
namespace Go.Proofs.YtendejpkdjkmnaaGreatDoor
namespace Rows

/-- THE TIED CARD OF 'crierlaw14.RouterNobody'. -/
def routerNobodyCard : Claim7 := { stood := { row := routerNobodyRow, standIns := [], harness := (true, "e86e335189c302af9b5f9e91b3eeac2a41be8e226e0110ee0c1568bc7125b9db"), looks := true }, kinds := [], alts := [], laidByText := true, laidKinds := [.data, .data, .data, .data, .sentinel, .sentinel, .pinned], laidTests := true, laidLooks := .later }
def RouterNobodyCardSaid : Prop := Claim7.holds Tryz.pinned (.plain (OpenSpec.ofChange routerNobodySpec)) routerNobodyCard

/-- THE TIED CARD OF 'crierlaw14.RouterOrder'. -/
def routerOrderCard : Claim7 := { stood := { row := routerOrderRow, standIns := [], harness := (true, "e86e335189c302af9b5f9e91b3eeac2a41be8e226e0110ee0c1568bc7125b9db"), looks := true }, kinds := [], alts := [], laidByText := true, laidKinds := [.data, .data, .data, .data, .sentinel, .sentinel, .pinned], laidTests := true, laidLooks := .later }
def RouterOrderCardSaid : Prop := Claim7.holds Tryz.pinned (.plain (OpenSpec.ofChange routerOrderSpec)) routerOrderCard

/-- THE TIED CARD OF 'crierlaw14.RouterAllows'. -/
def routerAllowsCard : Claim7 := { stood := { row := routerAllowsRow, standIns := [], harness := (true, "e86e335189c302af9b5f9e91b3eeac2a41be8e226e0110ee0c1568bc7125b9db"), looks := true }, kinds := [], alts := [], laidByText := true, laidKinds := [.data, .data, .data, .data, .sentinel, .sentinel, .pinned], laidTests := true, laidLooks := .later }
def RouterAllowsCardSaid : Prop := Claim7.holds Tryz.pinned (.plain (OpenSpec.ofChange routerAllowsSpec)) routerAllowsCard

/-- THE TIED CARD OF 'crierlaw14.RouterKnown'. -/
def routerKnownCard : Claim7 := { stood := { row := routerKnownRow, standIns := [], harness := (true, "e86e335189c302af9b5f9e91b3eeac2a41be8e226e0110ee0c1568bc7125b9db"), looks := true }, kinds := [], alts := [], laidByText := true, laidKinds := [.data, .data, .data, .data, .sentinel, .sentinel, .pinned], laidTests := true, laidLooks := .later }
def RouterKnownCardSaid : Prop := Claim7.holds Tryz.pinned (.plain (OpenSpec.ofChange routerKnownSpec)) routerKnownCard

/-- THE SECOND FORM's CARD OF 'crierlaw14.RouterNobody'. -/
def routerNobodyUptoCard : Claim7 := { stood := { row := routerNobodyUptoRow, standIns := [], harness := (true, "e86e335189c302af9b5f9e91b3eeac2a41be8e226e0110ee0c1568bc7125b9db"), looks := true }, kinds := [], alts := [], laidByText := true, laidKinds := [.data, .data, .data, .data, .sentinel, .sentinel, .pinned], laidTests := true, laidLooks := .later }
def RouterNobodyUptoCardSaid : Prop := Claim7.holds Tryz.pinned (.plain (OpenSpec.upto routerNobodySpec)) routerNobodyUptoCard

/-- THE SECOND FORM's CARD OF 'crierlaw14.RouterOrder'. -/
def routerOrderUptoCard : Claim7 := { stood := { row := routerOrderUptoRow, standIns := [], harness := (true, "e86e335189c302af9b5f9e91b3eeac2a41be8e226e0110ee0c1568bc7125b9db"), looks := true }, kinds := [], alts := [], laidByText := true, laidKinds := [.data, .data, .data, .data, .sentinel, .sentinel, .pinned], laidTests := true, laidLooks := .later }
def RouterOrderUptoCardSaid : Prop := Claim7.holds Tryz.pinned (.plain (OpenSpec.upto routerOrderSpec)) routerOrderUptoCard

/-- THE SECOND FORM's CARD OF 'crierlaw14.RouterAllows'. -/
def routerAllowsUptoCard : Claim7 := { stood := { row := routerAllowsUptoRow, standIns := [], harness := (true, "e86e335189c302af9b5f9e91b3eeac2a41be8e226e0110ee0c1568bc7125b9db"), looks := true }, kinds := [], alts := [], laidByText := true, laidKinds := [.data, .data, .data, .data, .sentinel, .sentinel, .pinned], laidTests := true, laidLooks := .later }
def RouterAllowsUptoCardSaid : Prop := Claim7.holds Tryz.pinned (.plain (OpenSpec.upto routerAllowsSpec)) routerAllowsUptoCard

/-- THE SECOND FORM's CARD OF 'crierlaw14.RouterKnown'. -/
def routerKnownUptoCard : Claim7 := { stood := { row := routerKnownUptoRow, standIns := [], harness := (true, "e86e335189c302af9b5f9e91b3eeac2a41be8e226e0110ee0c1568bc7125b9db"), looks := true }, kinds := [], alts := [], laidByText := true, laidKinds := [.data, .data, .data, .data, .sentinel, .sentinel, .pinned], laidTests := true, laidLooks := .later }
def RouterKnownUptoCardSaid : Prop := Claim7.holds Tryz.pinned (.plain (OpenSpec.upto routerKnownSpec)) routerKnownUptoCard
end Rows
end Go.Proofs.YtendejpkdjkmnaaGreatDoor
