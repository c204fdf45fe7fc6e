/-
  No cell of these rows narrows 'for every input' (looked for: loops, veiled, ifaces, maps, wideKeys, modest, calm, conditions, laid).
  DERIVED. THE GIVEN ROWS OF THIS SEAT. 5 by the template 'for every input the law returns true; each argument reads behind the call as it read before'; 0 by the template 'total and deterministic' (their statements: YtgkinbichiahjaaTotals.lean).
  GIVEN WITH THE SEED: the statements are not yours to turn. If you find one false, say at which input.
  Laid BY PROGRAM, IN A SANDBOX (cutbox-rows.mjs): the forced cells as the released guide's own fill.sh prints them over the translation 49e240309bd71375… (all of the seat's roots in one cut). By AI agents, Wed Nov 11 2026. No macro, syntax, notation, axiom, sorry.
-/
import Derived.Test.YtgkinbichiahjaaChecked
import GoSem.Claim
import GoSem.ClaimJoined
import GoSem.ClaimMapViews
import Derived.JoinedTies
import Derived.KernelRfl
namespace Go.Proofs.Ytgkinbichiahjaa
/- THE CELL 'sum', in the pinned program and in every row, IS THE sha256 OF THE DUMP (.gsa) THAT YtgkinbichiahjaaProg.lean LOADS. Nothing in Lean hashes anything: it is a label: what it is worth is what the hold of that sum in a sandbox is worth. -/
noncomputable def Try.pinned : Pinned := { name := "ytgkinbichiahjaa", sum := "49e240309bd713754fb428bd692272c53b86f0e9e5fc5b971e39623d88e1aac1", checked := Try.checked }
namespace Rows
def none {H : Type} : Left H := { results := [], args := [] }

/-- 'crierlaw04.BufKnown': WHATEVER THE INPUT: true; the input reads as it did. -/
def bufKnownSpec : ChangeSpec := { name := "bufKnown", fn := fun _ => fun
  | [] => { results := [.lit (.bool true)], args := [] }
  | _ => none }
def bufKnownRow : OpenClaim := { program := "ytgkinbichiahjaa", sum := "49e240309bd713754fb428bd692272c53b86f0e9e5fc5b971e39623d88e1aac1", func := "crier/crierlaw04.BufKnown", spec := "bufKnown", inPlace := ["internal/bytealg.IndexByte", "internal/bytealg.Index"], named := ["internal/bytealg.MaxLen"], apart := false }
def BufKnownSaid : Prop := bufKnownRow.holds Try.pinned (OpenSpec.ofChange bufKnownSpec)

/-- ITS FALSE NEIGHBOUR: 'it returns false'. Refute it at one input. -/
def bufKnownWrong : ChangeSpec := { name := "bufKnown", fn := fun _ => fun
  | [] => { results := [.lit (.bool false)], args := [] }
  | _ => none }
def BufKnownWrongFalsely : Prop := bufKnownRow.holds Try.pinned (OpenSpec.ofChange bufKnownWrong)

/-- 'crierlaw04.BufPlays': WHATEVER THE INPUT: true; the input reads as it did. -/
def bufPlaysSpec : ChangeSpec := { name := "bufPlays", fn := fun _ => fun
  | [d1, d2] => { results := [.lit (.bool true)], args := [d1, d2] }
  | _ => none }
def bufPlaysRow : OpenClaim := { program := "ytgkinbichiahjaa", sum := "49e240309bd713754fb428bd692272c53b86f0e9e5fc5b971e39623d88e1aac1", func := "crier/crierlaw04.BufPlays", spec := "bufPlays", inPlace := ["internal/bytealg.IndexByte", "internal/bytealg.Index"], named := ["internal/bytealg.MaxLen"], apart := false }
def BufPlaysSaid : Prop := bufPlaysRow.holds Try.pinned (OpenSpec.ofChange bufPlaysSpec)

/-- ITS FALSE NEIGHBOUR: 'it returns false'. Refute it at one input. -/
def bufPlaysWrong : ChangeSpec := { name := "bufPlays", fn := fun _ => fun
  | [d1, d2] => { results := [.lit (.bool false)], args := [d1, d2] }
  | _ => none }
def BufPlaysWrongFalsely : Prop := bufPlaysRow.holds Try.pinned (OpenSpec.ofChange bufPlaysWrong)

/-- 'crierlaw04.BufNobody': WHATEVER THE INPUT: true; the input reads as it did. -/
def bufNobodySpec : ChangeSpec := { name := "bufNobody", fn := fun _ => fun
  | [d1, d2] => { results := [.lit (.bool true)], args := [d1, d2] }
  | _ => none }
def bufNobodyRow : OpenClaim := { program := "ytgkinbichiahjaa", sum := "49e240309bd713754fb428bd692272c53b86f0e9e5fc5b971e39623d88e1aac1", func := "crier/crierlaw04.BufNobody", spec := "bufNobody", inPlace := ["internal/bytealg.IndexByte", "internal/bytealg.Index"], named := ["internal/bytealg.MaxLen"], apart := false }
def BufNobodySaid : Prop := bufNobodyRow.holds Try.pinned (OpenSpec.ofChange bufNobodySpec)

/-- ITS FALSE NEIGHBOUR: 'it returns false'. Refute it at one input. -/
def bufNobodyWrong : ChangeSpec := { name := "bufNobody", fn := fun _ => fun
  | [d1, d2] => { results := [.lit (.bool false)], args := [d1, d2] }
  | _ => none }
def BufNobodyWrongFalsely : Prop := bufNobodyRow.holds Try.pinned (OpenSpec.ofChange bufNobodyWrong)

/-- 'crierlaw04.BufStream': WHATEVER THE INPUT: true; the input reads as it did. -/
def bufStreamSpec : ChangeSpec := { name := "bufStream", fn := fun _ => fun
  | [d1, d2, d3] => { results := [.lit (.bool true)], args := [d1, d2, d3] }
  | _ => none }
def bufStreamRow : OpenClaim := { program := "ytgkinbichiahjaa", sum := "49e240309bd713754fb428bd692272c53b86f0e9e5fc5b971e39623d88e1aac1", func := "crier/crierlaw04.BufStream", spec := "bufStream", inPlace := ["internal/bytealg.IndexByte", "internal/bytealg.Index"], named := ["internal/bytealg.MaxLen"], apart := false }
def BufStreamSaid : Prop := bufStreamRow.holds Try.pinned (OpenSpec.ofChange bufStreamSpec)

/-- ITS FALSE NEIGHBOUR: 'it returns false'. Refute it at one input. -/
def bufStreamWrong : ChangeSpec := { name := "bufStream", fn := fun _ => fun
  | [d1, d2, d3] => { results := [.lit (.bool false)], args := [d1, d2, d3] }
  | _ => none }
def BufStreamWrongFalsely : Prop := bufStreamRow.holds Try.pinned (OpenSpec.ofChange bufStreamWrong)

/-- 'crierlaw04.BufFinds': WHATEVER THE INPUT: true; the input reads as it did. -/
def bufFindsSpec : ChangeSpec := { name := "bufFinds", fn := fun _ => fun
  | [d1, d2] => { results := [.lit (.bool true)], args := [d1, d2] }
  | _ => none }
def bufFindsRow : OpenClaim := { program := "ytgkinbichiahjaa", sum := "49e240309bd713754fb428bd692272c53b86f0e9e5fc5b971e39623d88e1aac1", func := "crier/crierlaw04.BufFinds", spec := "bufFinds", inPlace := ["internal/bytealg.IndexByte", "internal/bytealg.Index"], named := ["internal/bytealg.MaxLen"], apart := false }
def BufFindsSaid : Prop := bufFindsRow.holds Try.pinned (OpenSpec.ofChange bufFindsSpec)

/-- ITS FALSE NEIGHBOUR: 'it returns false'. Refute it at one input. -/
def bufFindsWrong : ChangeSpec := { name := "bufFinds", fn := fun _ => fun
  | [d1, d2] => { results := [.lit (.bool false)], args := [d1, d2] }
  | _ => none }
def BufFindsWrongFalsely : Prop := bufFindsRow.holds Try.pinned (OpenSpec.ofChange bufFindsWrong)

/- THE SECOND FORM. 'bulk': how many values and letters a reading holds, each counted each time it is reached (what is shared counts as often as it is met; a slice's spare places count too). A statement '..UptoSaid' is the law's where the arguments, and the package variables that the reading takes, are together of bulk at most 1048576: NARROWER than '..Said'. Prove '..Said' where nothing that the law and all that it calls make is longer than what came in: it says more and counts as full. Else prove '..UptoSaid'. A law counts once. -/
mutual
def uptoBulk {H : Type} : DataW H → Nat
  | .lit (.string bytes) => bytes.length + 1
  | .lit _ => 1
  | .nil => 1
  | .ptr d => uptoBulk d + 1
  | .slice elems spare => uptoBulkAll elems + uptoBulkAll spare + 1
  | .agg parts => uptoBulkAll parts + 1
  | .iface _ d => uptoBulk d + 1
  | .map entries => uptoBulkEntries entries + 1
  | .held _ => 1
def uptoBulkAll {H : Type} : List (DataW H) → Nat
  | [] => 0
  | d :: r => uptoBulk d + uptoBulkAll r
def uptoBulkEntries {H : Type} : List (Lit × DataW H) → Nat
  | [] => 0
  | x :: r => uptoBulkEntry x + uptoBulkEntries r
def uptoBulkEntry {H : Type} : Lit × DataW H → Nat
  | (.string bytes, d) => bytes.length + uptoBulk d + 1
  | (_, d) => uptoBulk d + 1
 end
def uptoSmall : (H : Type) → List (DataW H) → Bool := fun _ ds => decide (uptoBulkAll ds ≤ 1048576)
def OpenSpec.upto (s : _root_.Go.ChangeSpec) : _root_.Go.OpenSpec := { _root_.Go.OpenSpec.ofChange s with cond := some uptoSmall }

/-- 'crierlaw04.BufKnown', WHERE WHAT IT READS IS OF BULK AT MOST 1048576: true; the input reads as it did. -/
def bufKnownUptoRow : OpenClaim := { program := "ytgkinbichiahjaa", sum := "49e240309bd713754fb428bd692272c53b86f0e9e5fc5b971e39623d88e1aac1", func := "crier/crierlaw04.BufKnown", spec := "bufKnown", inPlace := ["internal/bytealg.IndexByte", "internal/bytealg.Index"], named := ["internal/bytealg.MaxLen"], apart := false, narrowed := true }
def BufKnownUptoSaid : Prop := bufKnownUptoRow.holds Try.pinned (OpenSpec.upto bufKnownSpec)

/-- 'crierlaw04.BufPlays', WHERE WHAT IT READS IS OF BULK AT MOST 1048576: true; the input reads as it did. -/
def bufPlaysUptoRow : OpenClaim := { program := "ytgkinbichiahjaa", sum := "49e240309bd713754fb428bd692272c53b86f0e9e5fc5b971e39623d88e1aac1", func := "crier/crierlaw04.BufPlays", spec := "bufPlays", inPlace := ["internal/bytealg.IndexByte", "internal/bytealg.Index"], named := ["internal/bytealg.MaxLen"], apart := false, narrowed := true }
def BufPlaysUptoSaid : Prop := bufPlaysUptoRow.holds Try.pinned (OpenSpec.upto bufPlaysSpec)

/-- 'crierlaw04.BufNobody', WHERE WHAT IT READS IS OF BULK AT MOST 1048576: true; the input reads as it did. -/
def bufNobodyUptoRow : OpenClaim := { program := "ytgkinbichiahjaa", sum := "49e240309bd713754fb428bd692272c53b86f0e9e5fc5b971e39623d88e1aac1", func := "crier/crierlaw04.BufNobody", spec := "bufNobody", inPlace := ["internal/bytealg.IndexByte", "internal/bytealg.Index"], named := ["internal/bytealg.MaxLen"], apart := false, narrowed := true }
def BufNobodyUptoSaid : Prop := bufNobodyUptoRow.holds Try.pinned (OpenSpec.upto bufNobodySpec)

/-- 'crierlaw04.BufStream', WHERE WHAT IT READS IS OF BULK AT MOST 1048576: true; the input reads as it did. -/
def bufStreamUptoRow : OpenClaim := { program := "ytgkinbichiahjaa", sum := "49e240309bd713754fb428bd692272c53b86f0e9e5fc5b971e39623d88e1aac1", func := "crier/crierlaw04.BufStream", spec := "bufStream", inPlace := ["internal/bytealg.IndexByte", "internal/bytealg.Index"], named := ["internal/bytealg.MaxLen"], apart := false, narrowed := true }
def BufStreamUptoSaid : Prop := bufStreamUptoRow.holds Try.pinned (OpenSpec.upto bufStreamSpec)

/-- 'crierlaw04.BufFinds', WHERE WHAT IT READS IS OF BULK AT MOST 1048576: true; the input reads as it did. -/
def bufFindsUptoRow : OpenClaim := { program := "ytgkinbichiahjaa", sum := "49e240309bd713754fb428bd692272c53b86f0e9e5fc5b971e39623d88e1aac1", func := "crier/crierlaw04.BufFinds", spec := "bufFinds", inPlace := ["internal/bytealg.IndexByte", "internal/bytealg.Index"], named := ["internal/bytealg.MaxLen"], apart := false, narrowed := true }
def BufFindsUptoSaid : Prop := bufFindsUptoRow.holds Try.pinned (OpenSpec.upto bufFindsSpec)

end Rows
end Go.Proofs.Ytgkinbichiahjaa
