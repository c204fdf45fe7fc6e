/-
  No cell of these rows narrows 'for every input' (looked for: loops, veiled, ifaces, maps, wideKeys, modest, calm, conditions, laid).
  DERIVED. THE GIVEN ROWS OF THIS SEAT. 7 by the template 'for every input the law returns true; each argument reads behind the call as it read before'; 0 by the template 'total and deterministic' (their statements: YtlmolmmhkddpaaaTotals.lean).
  GIVEN WITH THE SEED: the statements are not yours to turn. If you find one false, say at which input.
  Laid BY PROGRAM, IN A SANDBOX (cutbox-rows.mjs): the forced cells as the released guide's own fill.sh prints them over the translation c2da27af324714f0… (all of the seat's roots in one cut). By AI agents, Wed Nov 11 2026. No macro, syntax, notation, axiom, sorry.
-/
import Derived.Test.YtlmolmmhkddpaaaChecked
import GoSem.Claim
import GoSem.ClaimJoined
import GoSem.ClaimMapViews
import Derived.JoinedTies
import Derived.KernelRfl
namespace Go.Proofs.Ytlmolmmhkddpaaa
/- THE CELL 'sum', in the pinned program and in every row, IS THE sha256 OF THE DUMP (.gsa) THAT YtlmolmmhkddpaaaProg.lean LOADS. Nothing in Lean hashes anything: it is a label: what it is worth is what the hold of that sum in a sandbox is worth. -/
noncomputable def Try.pinned : Pinned := { name := "ytlmolmmhkddpaaa", sum := "c2da27af324714f088807b74250184c460c822ab4a0974caee6e0722a5cfe8f2", checked := Try.checked }
namespace Rows
def none {H : Type} : Left H := { results := [], args := [] }

/-- 'crierlaw16.FramesKnown': WHATEVER THE INPUT: true; the input reads as it did. -/
def framesKnownSpec : ChangeSpec := { name := "framesKnown", fn := fun _ => fun
  | [] => { results := [.lit (.bool true)], args := [] }
  | _ => none }
def framesKnownRow : OpenClaim := { program := "ytlmolmmhkddpaaa", sum := "c2da27af324714f088807b74250184c460c822ab4a0974caee6e0722a5cfe8f2", func := "crier/crierlaw16.FramesKnown", spec := "framesKnown", unfollowed := true, recurses := true, apart := false }
def FramesKnownSaid : Prop := framesKnownRow.holds Try.pinned (OpenSpec.ofChange framesKnownSpec)

/-- ITS FALSE NEIGHBOUR: 'it returns false'. Refute it at one input. -/
def framesKnownWrong : ChangeSpec := { name := "framesKnown", fn := fun _ => fun
  | [] => { results := [.lit (.bool false)], args := [] }
  | _ => none }
def FramesKnownWrongFalsely : Prop := framesKnownRow.holds Try.pinned (OpenSpec.ofChange framesKnownWrong)

/-- 'crierlaw16.FramesTell': WHATEVER THE INPUT: true; the input reads as it did. -/
def framesTellSpec : ChangeSpec := { name := "framesTell", fn := fun _ => fun
  | [d1, d2] => { results := [.lit (.bool true)], args := [d1, d2] }
  | _ => none }
def framesTellRow : OpenClaim := { program := "ytlmolmmhkddpaaa", sum := "c2da27af324714f088807b74250184c460c822ab4a0974caee6e0722a5cfe8f2", func := "crier/crierlaw16.FramesTell", spec := "framesTell", unfollowed := true, recurses := true, apart := false }
def FramesTellSaid : Prop := framesTellRow.holds Try.pinned (OpenSpec.ofChange framesTellSpec)

/-- ITS FALSE NEIGHBOUR: 'it returns false'. Refute it at one input. -/
def framesTellWrong : ChangeSpec := { name := "framesTell", fn := fun _ => fun
  | [d1, d2] => { results := [.lit (.bool false)], args := [d1, d2] }
  | _ => none }
def FramesTellWrongFalsely : Prop := framesTellRow.holds Try.pinned (OpenSpec.ofChange framesTellWrong)

/-- 'crierlaw16.FramesHeads': WHATEVER THE INPUT: true; the input reads as it did. -/
def framesHeadsSpec : ChangeSpec := { name := "framesHeads", fn := fun _ => fun
  | [d1, d2, d3, d4] => { results := [.lit (.bool true)], args := [d1, d2, d3, d4] }
  | _ => none }
def framesHeadsRow : OpenClaim := { program := "ytlmolmmhkddpaaa", sum := "c2da27af324714f088807b74250184c460c822ab4a0974caee6e0722a5cfe8f2", func := "crier/crierlaw16.FramesHeads", spec := "framesHeads", unfollowed := true, recurses := true, apart := false }
def FramesHeadsSaid : Prop := framesHeadsRow.holds Try.pinned (OpenSpec.ofChange framesHeadsSpec)

/-- ITS FALSE NEIGHBOUR: 'it returns false'. Refute it at one input. -/
def framesHeadsWrong : ChangeSpec := { name := "framesHeads", fn := fun _ => fun
  | [d1, d2, d3, d4] => { results := [.lit (.bool false)], args := [d1, d2, d3, d4] }
  | _ => none }
def FramesHeadsWrongFalsely : Prop := framesHeadsRow.holds Try.pinned (OpenSpec.ofChange framesHeadsWrong)

/-- 'crierlaw16.FramesNobody': WHATEVER THE INPUT: true; the input reads as it did. -/
def framesNobodySpec : ChangeSpec := { name := "framesNobody", fn := fun _ => fun
  | [d] => { results := [.lit (.bool true)], args := [d] }
  | _ => none }
def framesNobodyRow : OpenClaim := { program := "ytlmolmmhkddpaaa", sum := "c2da27af324714f088807b74250184c460c822ab4a0974caee6e0722a5cfe8f2", func := "crier/crierlaw16.FramesNobody", spec := "framesNobody", unfollowed := true, recurses := true, apart := false }
def FramesNobodySaid : Prop := framesNobodyRow.holds Try.pinned (OpenSpec.ofChange framesNobodySpec)

/-- ITS FALSE NEIGHBOUR: 'it returns false'. Refute it at one input. -/
def framesNobodyWrong : ChangeSpec := { name := "framesNobody", fn := fun _ => fun
  | [d] => { results := [.lit (.bool false)], args := [d] }
  | _ => none }
def FramesNobodyWrongFalsely : Prop := framesNobodyRow.holds Try.pinned (OpenSpec.ofChange framesNobodyWrong)

/-- 'crierlaw16.FramesPieces': WHATEVER THE INPUT: true; the input reads as it did. -/
def framesPiecesSpec : ChangeSpec := { name := "framesPieces", fn := fun _ => fun
  | [d1, d2, d3] => { results := [.lit (.bool true)], args := [d1, d2, d3] }
  | _ => none }
def framesPiecesRow : OpenClaim := { program := "ytlmolmmhkddpaaa", sum := "c2da27af324714f088807b74250184c460c822ab4a0974caee6e0722a5cfe8f2", func := "crier/crierlaw16.FramesPieces", spec := "framesPieces", unfollowed := true, recurses := true, apart := false }
def FramesPiecesSaid : Prop := framesPiecesRow.holds Try.pinned (OpenSpec.ofChange framesPiecesSpec)

/-- ITS FALSE NEIGHBOUR: 'it returns false'. Refute it at one input. -/
def framesPiecesWrong : ChangeSpec := { name := "framesPieces", fn := fun _ => fun
  | [d1, d2, d3] => { results := [.lit (.bool false)], args := [d1, d2, d3] }
  | _ => none }
def FramesPiecesWrongFalsely : Prop := framesPiecesRow.holds Try.pinned (OpenSpec.ofChange framesPiecesWrong)

/-- 'crierlaw16.FramesBack': WHATEVER THE INPUT: true; the input reads as it did. -/
def framesBackSpec : ChangeSpec := { name := "framesBack", fn := fun _ => fun
  | [d1, d2] => { results := [.lit (.bool true)], args := [d1, d2] }
  | _ => none }
def framesBackRow : OpenClaim := { program := "ytlmolmmhkddpaaa", sum := "c2da27af324714f088807b74250184c460c822ab4a0974caee6e0722a5cfe8f2", func := "crier/crierlaw16.FramesBack", spec := "framesBack", unfollowed := true, recurses := true, apart := false }
def FramesBackSaid : Prop := framesBackRow.holds Try.pinned (OpenSpec.ofChange framesBackSpec)

/-- ITS FALSE NEIGHBOUR: 'it returns false'. Refute it at one input. -/
def framesBackWrong : ChangeSpec := { name := "framesBack", fn := fun _ => fun
  | [d1, d2] => { results := [.lit (.bool false)], args := [d1, d2] }
  | _ => none }
def FramesBackWrongFalsely : Prop := framesBackRow.holds Try.pinned (OpenSpec.ofChange framesBackWrong)

/-- 'crierlaw16.FramesLeft': WHATEVER THE INPUT: true; the input reads as it did. -/
def framesLeftSpec : ChangeSpec := { name := "framesLeft", fn := fun _ => fun
  | [d1, d2] => { results := [.lit (.bool true)], args := [d1, d2] }
  | _ => none }
def framesLeftRow : OpenClaim := { program := "ytlmolmmhkddpaaa", sum := "c2da27af324714f088807b74250184c460c822ab4a0974caee6e0722a5cfe8f2", func := "crier/crierlaw16.FramesLeft", spec := "framesLeft", unfollowed := true, recurses := true, apart := false }
def FramesLeftSaid : Prop := framesLeftRow.holds Try.pinned (OpenSpec.ofChange framesLeftSpec)

/-- ITS FALSE NEIGHBOUR: 'it returns false'. Refute it at one input. -/
def framesLeftWrong : ChangeSpec := { name := "framesLeft", fn := fun _ => fun
  | [d1, d2] => { results := [.lit (.bool false)], args := [d1, d2] }
  | _ => none }
def FramesLeftWrongFalsely : Prop := framesLeftRow.holds Try.pinned (OpenSpec.ofChange framesLeftWrong)

/- THE SECOND FORM. 'bulk': how many values and letters a reading holds, each counted each time it is reached (what is shared counts as often as it is met; a slice's spare places count too). A statement '..UptoSaid' is the law's where the arguments, and the package variables that the reading takes, are together of bulk at most 1048576: NARROWER than '..Said'. Prove '..Said' where nothing that the law and all that it calls make is longer than what came in: it says more and counts as full. Else prove '..UptoSaid'. A law counts once. -/
mutual
def uptoBulk {H : Type} : DataW H → Nat
  | .lit (.string bytes) => bytes.length + 1
  | .lit _ => 1
  | .nil => 1
  | .ptr d => uptoBulk d + 1
  | .slice elems spare => uptoBulkAll elems + uptoBulkAll spare + 1
  | .agg parts => uptoBulkAll parts + 1
  | .iface _ d => uptoBulk d + 1
  | .map entries => uptoBulkEntries entries + 1
  | .held _ => 1
def uptoBulkAll {H : Type} : List (DataW H) → Nat
  | [] => 0
  | d :: r => uptoBulk d + uptoBulkAll r
def uptoBulkEntries {H : Type} : List (Lit × DataW H) → Nat
  | [] => 0
  | x :: r => uptoBulkEntry x + uptoBulkEntries r
def uptoBulkEntry {H : Type} : Lit × DataW H → Nat
  | (.string bytes, d) => bytes.length + uptoBulk d + 1
  | (_, d) => uptoBulk d + 1
 end
def uptoSmall : (H : Type) → List (DataW H) → Bool := fun _ ds => decide (uptoBulkAll ds ≤ 1048576)
def OpenSpec.upto (s : _root_.Go.ChangeSpec) : _root_.Go.OpenSpec := { _root_.Go.OpenSpec.ofChange s with cond := some uptoSmall }

/-- 'crierlaw16.FramesKnown', WHERE WHAT IT READS IS OF BULK AT MOST 1048576: true; the input reads as it did. -/
def framesKnownUptoRow : OpenClaim := { program := "ytlmolmmhkddpaaa", sum := "c2da27af324714f088807b74250184c460c822ab4a0974caee6e0722a5cfe8f2", func := "crier/crierlaw16.FramesKnown", spec := "framesKnown", unfollowed := true, recurses := true, apart := false, narrowed := true }
def FramesKnownUptoSaid : Prop := framesKnownUptoRow.holds Try.pinned (OpenSpec.upto framesKnownSpec)

/-- 'crierlaw16.FramesTell', WHERE WHAT IT READS IS OF BULK AT MOST 1048576: true; the input reads as it did. -/
def framesTellUptoRow : OpenClaim := { program := "ytlmolmmhkddpaaa", sum := "c2da27af324714f088807b74250184c460c822ab4a0974caee6e0722a5cfe8f2", func := "crier/crierlaw16.FramesTell", spec := "framesTell", unfollowed := true, recurses := true, apart := false, narrowed := true }
def FramesTellUptoSaid : Prop := framesTellUptoRow.holds Try.pinned (OpenSpec.upto framesTellSpec)

/-- 'crierlaw16.FramesHeads', WHERE WHAT IT READS IS OF BULK AT MOST 1048576: true; the input reads as it did. -/
def framesHeadsUptoRow : OpenClaim := { program := "ytlmolmmhkddpaaa", sum := "c2da27af324714f088807b74250184c460c822ab4a0974caee6e0722a5cfe8f2", func := "crier/crierlaw16.FramesHeads", spec := "framesHeads", unfollowed := true, recurses := true, apart := false, narrowed := true }
def FramesHeadsUptoSaid : Prop := framesHeadsUptoRow.holds Try.pinned (OpenSpec.upto framesHeadsSpec)

/-- 'crierlaw16.FramesNobody', WHERE WHAT IT READS IS OF BULK AT MOST 1048576: true; the input reads as it did. -/
def framesNobodyUptoRow : OpenClaim := { program := "ytlmolmmhkddpaaa", sum := "c2da27af324714f088807b74250184c460c822ab4a0974caee6e0722a5cfe8f2", func := "crier/crierlaw16.FramesNobody", spec := "framesNobody", unfollowed := true, recurses := true, apart := false, narrowed := true }
def FramesNobodyUptoSaid : Prop := framesNobodyUptoRow.holds Try.pinned (OpenSpec.upto framesNobodySpec)

/-- 'crierlaw16.FramesPieces', WHERE WHAT IT READS IS OF BULK AT MOST 1048576: true; the input reads as it did. -/
def framesPiecesUptoRow : OpenClaim := { program := "ytlmolmmhkddpaaa", sum := "c2da27af324714f088807b74250184c460c822ab4a0974caee6e0722a5cfe8f2", func := "crier/crierlaw16.FramesPieces", spec := "framesPieces", unfollowed := true, recurses := true, apart := false, narrowed := true }
def FramesPiecesUptoSaid : Prop := framesPiecesUptoRow.holds Try.pinned (OpenSpec.upto framesPiecesSpec)

/-- 'crierlaw16.FramesBack', WHERE WHAT IT READS IS OF BULK AT MOST 1048576: true; the input reads as it did. -/
def framesBackUptoRow : OpenClaim := { program := "ytlmolmmhkddpaaa", sum := "c2da27af324714f088807b74250184c460c822ab4a0974caee6e0722a5cfe8f2", func := "crier/crierlaw16.FramesBack", spec := "framesBack", unfollowed := true, recurses := true, apart := false, narrowed := true }
def FramesBackUptoSaid : Prop := framesBackUptoRow.holds Try.pinned (OpenSpec.upto framesBackSpec)

/-- 'crierlaw16.FramesLeft', WHERE WHAT IT READS IS OF BULK AT MOST 1048576: true; the input reads as it did. -/
def framesLeftUptoRow : OpenClaim := { program := "ytlmolmmhkddpaaa", sum := "c2da27af324714f088807b74250184c460c822ab4a0974caee6e0722a5cfe8f2", func := "crier/crierlaw16.FramesLeft", spec := "framesLeft", unfollowed := true, recurses := true, apart := false, narrowed := true }
def FramesLeftUptoSaid : Prop := framesLeftUptoRow.holds Try.pinned (OpenSpec.upto framesLeftSpec)

end Rows
end Go.Proofs.Ytlmolmmhkddpaaa
