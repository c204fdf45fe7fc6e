/-
  NARROWER THAN 'FOR EVERY INPUT', by the rows' own cells (each row's printed sentence says how): HandChecks: laid · HandAccepts: laid · HandOrder: laid · HandLacks: laid · HandVersions: laid · HandKnown: laid.
  DERIVED. THE GIVEN ROWS OF THIS SEAT. 6 by the template 'for every input the law returns true; each argument reads behind the call as it read before'; 0 by the template 'total and deterministic' (their statements: YtnaekjmlikhglaaDoorTotals.lean).
  GIVEN WITH THE SEED: the statements are not yours to turn. If you find one false, say at which input.
  Laid BY PROGRAM, IN A SANDBOX (cutbox-rows.mjs): the forced cells as the released guide's own fill.sh prints them over the translation 0a45345e07ee689a… (all of the seat's roots in one cut). By AI agents, Wed Nov 11 2026. No macro, syntax, notation, axiom, sorry.
-/
import Derived.Test.YtnaekjmlikhglaaDoorChecked
import GoSem.PinnedTables
import GoSem.Claim
import GoSem.ClaimJoined
import GoSem.ClaimMapViews
import Derived.JoinedTies
import Derived.KernelRfl
namespace Go.Proofs.YtnaekjmlikhglaaDoor
/- THE CELL 'sum', in the pinned program and in every row, IS THE sha256 OF THE DUMP (.gsa) THAT YtnaekjmlikhglaaDoorProg.lean LOADS. Nothing in Lean hashes anything: it is a label: what it is worth is what the hold of that sum in a sandbox is worth. -/
noncomputable def Tryd.pinned : Pinned := { name := "ytnaekjmlikhglaadoor", sum := "0a45345e07ee689a3d63ecf009653dcdba52ef243ec6163abb6191007017bc2f", checked := Tryd.checked }
namespace Rows
def none {H : Type} : Left H := { results := [], args := [] }

/- WHAT THE LISTED PACKAGE-LEVEL VARIABLES READ AS WHEN THE CALL BEGINS. Each datum BY PROGRAM (the guide's laid-datum.mjs) off the statement by which the dump's own 'gosem.cut.vars' lays the variable. In a bare row this is a premise. The card (YtnaekjmlikhglaaDoorCards.lean) ties it to the program's text. -/
def laid_unicode_utf8_acceptRanges {H : Type} : DataW H := .agg [.agg [.lit (.int .u8 128), .lit (.int .u8 191)], .agg [.lit (.int .u8 160), .lit (.int .u8 191)], .agg [.lit (.int .u8 128), .lit (.int .u8 159)], .agg [.lit (.int .u8 144), .lit (.int .u8 191)], .agg [.lit (.int .u8 128), .lit (.int .u8 143)], .agg [.lit (.int .u8 0), .lit (.int .u8 0)], .agg [.lit (.int .u8 0), .lit (.int .u8 0)], .agg [.lit (.int .u8 0), .lit (.int .u8 0)], .agg [.lit (.int .u8 0), .lit (.int .u8 0)], .agg [.lit (.int .u8 0), .lit (.int .u8 0)], .agg [.lit (.int .u8 0), .lit (.int .u8 0)], .agg [.lit (.int .u8 0), .lit (.int .u8 0)], .agg [.lit (.int .u8 0), .lit (.int .u8 0)], .agg [.lit (.int .u8 0), .lit (.int .u8 0)], .agg [.lit (.int .u8 0), .lit (.int .u8 0)], .agg [.lit (.int .u8 0), .lit (.int .u8 0)]]
def laid_crier_sha_start {H : Type} : DataW H := .agg [.lit (.int .u32 1732584193), .lit (.int .u32 4023233417), .lit (.int .u32 2562383102), .lit (.int .u32 271733878), .lit (.int .u32 3285377520)]
/-- One of Go's own tables, pinned by name: the form's constant. -/
def laid_unicode_utf8_first : DataW Unit := Go.Pinned.utf8First

/-- 'crierlaw17.HandChecks': WHATEVER THE INPUT: true; the input reads as it did. -/
def handChecksSpec : ChangeSpec := { name := "handChecks", fn := fun _ => fun
  | [d] => { results := [.lit (.bool true)], args := [d] }
  | _ => none }
def handChecksRow : OpenClaim := { program := "ytnaekjmlikhglaadoor", sum := "0a45345e07ee689a3d63ecf009653dcdba52ef243ec6163abb6191007017bc2f", func := "crier/crierlaw17.HandChecks", spec := "handChecks", inPlace := ["internal/bytealg.IndexByteString", "internal/bytealg.IndexString", "internal/abi.NoEscape", "internal/bytealg.MakeNoZero"], unfollowed := true, recurses := true, named := ["internal/bytealg.MaxLen", "unicode/utf8.first", "unicode/utf8.acceptRanges", "crier/sha.start"], apart := false, laid := [("unicode/utf8.acceptRanges", laid_unicode_utf8_acceptRanges), ("crier/sha.start", laid_crier_sha_start), ("unicode/utf8.first", laid_unicode_utf8_first)] }
def HandChecksSaid : Prop := handChecksRow.holds Tryd.pinned (OpenSpec.ofChange handChecksSpec)

/-- ITS FALSE NEIGHBOUR: 'it returns false'. Refute it at one input. -/
def handChecksWrong : ChangeSpec := { name := "handChecks", fn := fun _ => fun
  | [d] => { results := [.lit (.bool false)], args := [d] }
  | _ => none }
def HandChecksWrongFalsely : Prop := handChecksRow.holds Tryd.pinned (OpenSpec.ofChange handChecksWrong)

/-- 'crierlaw17.HandAccepts': WHATEVER THE INPUT: true; the input reads as it did. -/
def handAcceptsSpec : ChangeSpec := { name := "handAccepts", fn := fun _ => fun
  | [d] => { results := [.lit (.bool true)], args := [d] }
  | _ => none }
def handAcceptsRow : OpenClaim := { program := "ytnaekjmlikhglaadoor", sum := "0a45345e07ee689a3d63ecf009653dcdba52ef243ec6163abb6191007017bc2f", func := "crier/crierlaw17.HandAccepts", spec := "handAccepts", inPlace := ["internal/abi.NoEscape", "internal/bytealg.MakeNoZero", "internal/bytealg.IndexByteString", "internal/bytealg.IndexString"], unfollowed := true, recurses := true, named := ["crier/sha.start", "internal/bytealg.MaxLen", "unicode/utf8.first", "unicode/utf8.acceptRanges"], apart := false, laid := [("unicode/utf8.acceptRanges", laid_unicode_utf8_acceptRanges), ("crier/sha.start", laid_crier_sha_start), ("unicode/utf8.first", laid_unicode_utf8_first)] }
def HandAcceptsSaid : Prop := handAcceptsRow.holds Tryd.pinned (OpenSpec.ofChange handAcceptsSpec)

/-- ITS FALSE NEIGHBOUR: 'it returns false'. Refute it at one input. -/
def handAcceptsWrong : ChangeSpec := { name := "handAccepts", fn := fun _ => fun
  | [d] => { results := [.lit (.bool false)], args := [d] }
  | _ => none }
def HandAcceptsWrongFalsely : Prop := handAcceptsRow.holds Tryd.pinned (OpenSpec.ofChange handAcceptsWrong)

/-- 'crierlaw17.HandOrder': WHATEVER THE INPUT: true; the input reads as it did. -/
def handOrderSpec : ChangeSpec := { name := "handOrder", fn := fun _ => fun
  | [d1, d2, d3, d4, d5] => { results := [.lit (.bool true)], args := [d1, d2, d3, d4, d5] }
  | _ => none }
def handOrderRow : OpenClaim := { program := "ytnaekjmlikhglaadoor", sum := "0a45345e07ee689a3d63ecf009653dcdba52ef243ec6163abb6191007017bc2f", func := "crier/crierlaw17.HandOrder", spec := "handOrder", inPlace := ["internal/bytealg.IndexByteString", "internal/bytealg.IndexString", "internal/abi.NoEscape", "internal/bytealg.MakeNoZero"], unfollowed := true, recurses := true, named := ["internal/bytealg.MaxLen", "unicode/utf8.first", "unicode/utf8.acceptRanges", "crier/sha.start"], apart := false, laid := [("unicode/utf8.acceptRanges", laid_unicode_utf8_acceptRanges), ("crier/sha.start", laid_crier_sha_start), ("unicode/utf8.first", laid_unicode_utf8_first)] }
def HandOrderSaid : Prop := handOrderRow.holds Tryd.pinned (OpenSpec.ofChange handOrderSpec)

/-- ITS FALSE NEIGHBOUR: 'it returns false'. Refute it at one input. -/
def handOrderWrong : ChangeSpec := { name := "handOrder", fn := fun _ => fun
  | [d1, d2, d3, d4, d5] => { results := [.lit (.bool false)], args := [d1, d2, d3, d4, d5] }
  | _ => none }
def HandOrderWrongFalsely : Prop := handOrderRow.holds Tryd.pinned (OpenSpec.ofChange handOrderWrong)

/-- 'crierlaw17.HandLacks': WHATEVER THE INPUT: true; the input reads as it did. -/
def handLacksSpec : ChangeSpec := { name := "handLacks", fn := fun _ => fun
  | [d1, d2, d3, d4] => { results := [.lit (.bool true)], args := [d1, d2, d3, d4] }
  | _ => none }
def handLacksRow : OpenClaim := { program := "ytnaekjmlikhglaadoor", sum := "0a45345e07ee689a3d63ecf009653dcdba52ef243ec6163abb6191007017bc2f", func := "crier/crierlaw17.HandLacks", spec := "handLacks", inPlace := ["internal/bytealg.IndexByteString", "internal/bytealg.IndexString", "internal/abi.NoEscape", "internal/bytealg.MakeNoZero"], unfollowed := true, recurses := true, named := ["internal/bytealg.MaxLen", "unicode/utf8.first", "unicode/utf8.acceptRanges", "crier/sha.start"], apart := false, laid := [("unicode/utf8.acceptRanges", laid_unicode_utf8_acceptRanges), ("crier/sha.start", laid_crier_sha_start), ("unicode/utf8.first", laid_unicode_utf8_first)] }
def HandLacksSaid : Prop := handLacksRow.holds Tryd.pinned (OpenSpec.ofChange handLacksSpec)

/-- ITS FALSE NEIGHBOUR: 'it returns false'. Refute it at one input. -/
def handLacksWrong : ChangeSpec := { name := "handLacks", fn := fun _ => fun
  | [d1, d2, d3, d4] => { results := [.lit (.bool false)], args := [d1, d2, d3, d4] }
  | _ => none }
def HandLacksWrongFalsely : Prop := handLacksRow.holds Tryd.pinned (OpenSpec.ofChange handLacksWrong)

/-- 'crierlaw17.HandVersions': WHATEVER THE INPUT: true; the input reads as it did. -/
def handVersionsSpec : ChangeSpec := { name := "handVersions", fn := fun _ => fun
  | [d1, d2] => { results := [.lit (.bool true)], args := [d1, d2] }
  | _ => none }
def handVersionsRow : OpenClaim := { program := "ytnaekjmlikhglaadoor", sum := "0a45345e07ee689a3d63ecf009653dcdba52ef243ec6163abb6191007017bc2f", func := "crier/crierlaw17.HandVersions", spec := "handVersions", inPlace := ["internal/bytealg.IndexByteString", "internal/bytealg.IndexString", "internal/abi.NoEscape", "internal/bytealg.MakeNoZero"], unfollowed := true, recurses := true, named := ["internal/bytealg.MaxLen", "unicode/utf8.first", "unicode/utf8.acceptRanges", "crier/sha.start"], apart := false, laid := [("unicode/utf8.acceptRanges", laid_unicode_utf8_acceptRanges), ("crier/sha.start", laid_crier_sha_start), ("unicode/utf8.first", laid_unicode_utf8_first)] }
def HandVersionsSaid : Prop := handVersionsRow.holds Tryd.pinned (OpenSpec.ofChange handVersionsSpec)

/-- ITS FALSE NEIGHBOUR: 'it returns false'. Refute it at one input. -/
def handVersionsWrong : ChangeSpec := { name := "handVersions", fn := fun _ => fun
  | [d1, d2] => { results := [.lit (.bool false)], args := [d1, d2] }
  | _ => none }
def HandVersionsWrongFalsely : Prop := handVersionsRow.holds Tryd.pinned (OpenSpec.ofChange handVersionsWrong)

/-- 'crierlaw17.HandKnown': WHATEVER THE INPUT: true; the input reads as it did. -/
def handKnownSpec : ChangeSpec := { name := "handKnown", fn := fun _ => fun
  | [] => { results := [.lit (.bool true)], args := [] }
  | _ => none }
def handKnownRow : OpenClaim := { program := "ytnaekjmlikhglaadoor", sum := "0a45345e07ee689a3d63ecf009653dcdba52ef243ec6163abb6191007017bc2f", func := "crier/crierlaw17.HandKnown", spec := "handKnown", inPlace := ["internal/bytealg.IndexByteString", "internal/bytealg.IndexString", "internal/abi.NoEscape", "internal/bytealg.MakeNoZero"], unfollowed := true, recurses := true, named := ["internal/bytealg.MaxLen", "unicode/utf8.first", "unicode/utf8.acceptRanges", "crier/sha.start"], apart := false, laid := [("unicode/utf8.acceptRanges", laid_unicode_utf8_acceptRanges), ("crier/sha.start", laid_crier_sha_start), ("unicode/utf8.first", laid_unicode_utf8_first)] }
def HandKnownSaid : Prop := handKnownRow.holds Tryd.pinned (OpenSpec.ofChange handKnownSpec)

/-- ITS FALSE NEIGHBOUR: 'it returns false'. Refute it at one input. -/
def handKnownWrong : ChangeSpec := { name := "handKnown", fn := fun _ => fun
  | [] => { results := [.lit (.bool false)], args := [] }
  | _ => none }
def HandKnownWrongFalsely : Prop := handKnownRow.holds Tryd.pinned (OpenSpec.ofChange handKnownWrong)

/- THE SECOND FORM. 'bulk': how many values and letters a reading holds, each counted each time it is reached (what is shared counts as often as it is met; a slice's spare places count too). A statement '..UptoSaid' is the law's where the arguments, and the package variables that the reading takes, are together of bulk at most 1048576: NARROWER than '..Said'. Prove '..Said' where nothing that the law and all that it calls make is longer than what came in: it says more and counts as full. Else prove '..UptoSaid'. A law counts once. -/
mutual
def uptoBulk {H : Type} : DataW H → Nat
  | .lit (.string bytes) => bytes.length + 1
  | .lit _ => 1
  | .nil => 1
  | .ptr d => uptoBulk d + 1
  | .slice elems spare => uptoBulkAll elems + uptoBulkAll spare + 1
  | .agg parts => uptoBulkAll parts + 1
  | .iface _ d => uptoBulk d + 1
  | .map entries => uptoBulkEntries entries + 1
  | .held _ => 1
def uptoBulkAll {H : Type} : List (DataW H) → Nat
  | [] => 0
  | d :: r => uptoBulk d + uptoBulkAll r
def uptoBulkEntries {H : Type} : List (Lit × DataW H) → Nat
  | [] => 0
  | x :: r => uptoBulkEntry x + uptoBulkEntries r
def uptoBulkEntry {H : Type} : Lit × DataW H → Nat
  | (.string bytes, d) => bytes.length + uptoBulk d + 1
  | (_, d) => uptoBulk d + 1
 end
def uptoSmall : (H : Type) → List (DataW H) → Bool := fun _ ds => decide (uptoBulkAll ds ≤ 1048576)
def OpenSpec.upto (s : _root_.Go.ChangeSpec) : _root_.Go.OpenSpec := { _root_.Go.OpenSpec.ofChange s with cond := some uptoSmall }

/-- 'crierlaw17.HandChecks', WHERE WHAT IT READS IS OF BULK AT MOST 1048576: true; the input reads as it did. -/
def handChecksUptoRow : OpenClaim := { program := "ytnaekjmlikhglaadoor", sum := "0a45345e07ee689a3d63ecf009653dcdba52ef243ec6163abb6191007017bc2f", func := "crier/crierlaw17.HandChecks", spec := "handChecks", inPlace := ["internal/bytealg.IndexByteString", "internal/bytealg.IndexString", "internal/abi.NoEscape", "internal/bytealg.MakeNoZero"], unfollowed := true, recurses := true, named := ["internal/bytealg.MaxLen", "unicode/utf8.first", "unicode/utf8.acceptRanges", "crier/sha.start"], apart := false, laid := [("unicode/utf8.acceptRanges", laid_unicode_utf8_acceptRanges), ("crier/sha.start", laid_crier_sha_start), ("unicode/utf8.first", laid_unicode_utf8_first)], narrowed := true }
def HandChecksUptoSaid : Prop := handChecksUptoRow.holds Tryd.pinned (OpenSpec.upto handChecksSpec)

/-- 'crierlaw17.HandAccepts', WHERE WHAT IT READS IS OF BULK AT MOST 1048576: true; the input reads as it did. -/
def handAcceptsUptoRow : OpenClaim := { program := "ytnaekjmlikhglaadoor", sum := "0a45345e07ee689a3d63ecf009653dcdba52ef243ec6163abb6191007017bc2f", func := "crier/crierlaw17.HandAccepts", spec := "handAccepts", inPlace := ["internal/abi.NoEscape", "internal/bytealg.MakeNoZero", "internal/bytealg.IndexByteString", "internal/bytealg.IndexString"], unfollowed := true, recurses := true, named := ["crier/sha.start", "internal/bytealg.MaxLen", "unicode/utf8.first", "unicode/utf8.acceptRanges"], apart := false, laid := [("unicode/utf8.acceptRanges", laid_unicode_utf8_acceptRanges), ("crier/sha.start", laid_crier_sha_start), ("unicode/utf8.first", laid_unicode_utf8_first)], narrowed := true }
def HandAcceptsUptoSaid : Prop := handAcceptsUptoRow.holds Tryd.pinned (OpenSpec.upto handAcceptsSpec)

/-- 'crierlaw17.HandOrder', WHERE WHAT IT READS IS OF BULK AT MOST 1048576: true; the input reads as it did. -/
def handOrderUptoRow : OpenClaim := { program := "ytnaekjmlikhglaadoor", sum := "0a45345e07ee689a3d63ecf009653dcdba52ef243ec6163abb6191007017bc2f", func := "crier/crierlaw17.HandOrder", spec := "handOrder", inPlace := ["internal/bytealg.IndexByteString", "internal/bytealg.IndexString", "internal/abi.NoEscape", "internal/bytealg.MakeNoZero"], unfollowed := true, recurses := true, named := ["internal/bytealg.MaxLen", "unicode/utf8.first", "unicode/utf8.acceptRanges", "crier/sha.start"], apart := false, laid := [("unicode/utf8.acceptRanges", laid_unicode_utf8_acceptRanges), ("crier/sha.start", laid_crier_sha_start), ("unicode/utf8.first", laid_unicode_utf8_first)], narrowed := true }
def HandOrderUptoSaid : Prop := handOrderUptoRow.holds Tryd.pinned (OpenSpec.upto handOrderSpec)

/-- 'crierlaw17.HandLacks', WHERE WHAT IT READS IS OF BULK AT MOST 1048576: true; the input reads as it did. -/
def handLacksUptoRow : OpenClaim := { program := "ytnaekjmlikhglaadoor", sum := "0a45345e07ee689a3d63ecf009653dcdba52ef243ec6163abb6191007017bc2f", func := "crier/crierlaw17.HandLacks", spec := "handLacks", inPlace := ["internal/bytealg.IndexByteString", "internal/bytealg.IndexString", "internal/abi.NoEscape", "internal/bytealg.MakeNoZero"], unfollowed := true, recurses := true, named := ["internal/bytealg.MaxLen", "unicode/utf8.first", "unicode/utf8.acceptRanges", "crier/sha.start"], apart := false, laid := [("unicode/utf8.acceptRanges", laid_unicode_utf8_acceptRanges), ("crier/sha.start", laid_crier_sha_start), ("unicode/utf8.first", laid_unicode_utf8_first)], narrowed := true }
def HandLacksUptoSaid : Prop := handLacksUptoRow.holds Tryd.pinned (OpenSpec.upto handLacksSpec)

/-- 'crierlaw17.HandVersions', WHERE WHAT IT READS IS OF BULK AT MOST 1048576: true; the input reads as it did. -/
def handVersionsUptoRow : OpenClaim := { program := "ytnaekjmlikhglaadoor", sum := "0a45345e07ee689a3d63ecf009653dcdba52ef243ec6163abb6191007017bc2f", func := "crier/crierlaw17.HandVersions", spec := "handVersions", inPlace := ["internal/bytealg.IndexByteString", "internal/bytealg.IndexString", "internal/abi.NoEscape", "internal/bytealg.MakeNoZero"], unfollowed := true, recurses := true, named := ["internal/bytealg.MaxLen", "unicode/utf8.first", "unicode/utf8.acceptRanges", "crier/sha.start"], apart := false, laid := [("unicode/utf8.acceptRanges", laid_unicode_utf8_acceptRanges), ("crier/sha.start", laid_crier_sha_start), ("unicode/utf8.first", laid_unicode_utf8_first)], narrowed := true }
def HandVersionsUptoSaid : Prop := handVersionsUptoRow.holds Tryd.pinned (OpenSpec.upto handVersionsSpec)

/-- 'crierlaw17.HandKnown', WHERE WHAT IT READS IS OF BULK AT MOST 1048576: true; the input reads as it did. -/
def handKnownUptoRow : OpenClaim := { program := "ytnaekjmlikhglaadoor", sum := "0a45345e07ee689a3d63ecf009653dcdba52ef243ec6163abb6191007017bc2f", func := "crier/crierlaw17.HandKnown", spec := "handKnown", inPlace := ["internal/bytealg.IndexByteString", "internal/bytealg.IndexString", "internal/abi.NoEscape", "internal/bytealg.MakeNoZero"], unfollowed := true, recurses := true, named := ["internal/bytealg.MaxLen", "unicode/utf8.first", "unicode/utf8.acceptRanges", "crier/sha.start"], apart := false, laid := [("unicode/utf8.acceptRanges", laid_unicode_utf8_acceptRanges), ("crier/sha.start", laid_crier_sha_start), ("unicode/utf8.first", laid_unicode_utf8_first)], narrowed := true }
def HandKnownUptoSaid : Prop := handKnownUptoRow.holds Tryd.pinned (OpenSpec.upto handKnownSpec)

end Rows
end Go.Proofs.YtnaekjmlikhglaaDoor
