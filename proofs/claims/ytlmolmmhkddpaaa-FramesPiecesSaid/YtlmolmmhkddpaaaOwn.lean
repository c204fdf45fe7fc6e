/- Two facts of the program. -/
import Derived.Test.YtlmolmmhkddpaaaGen2
import Derived.Test.YtlmolmmhkddpaaaProg
import Derived.ProofKit
import Derived.Handed
import Derived.OpenShut
namespace Go.Proofs.Ytlmolmmhkddpaaa
open Go.ChangeShapes Go.WideShapes Go.ChangeAt Go.RowKit
theorem Try.own : ownKnob Try.prog.godebug = none := by kernel_rfl
theorem Try.laidOut : laidOutB Try.prog = true := by kernel_rfl
end Go.Proofs.Ytlmolmmhkddpaaa
