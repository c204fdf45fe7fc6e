/- Two facts of the program. -/
import Derived.Test.YtepamoikoinhdaaGen2
import Derived.Test.YtepamoikoinhdaaProg
import Derived.ProofKit
import Derived.Handed
import Derived.OpenShut
namespace Go.Proofs.Ytepamoikoinhdaa
open Go.ChangeShapes Go.WideShapes Go.ChangeAt Go.RowKit
theorem Try.own : ownKnob Try.prog.godebug = none := by kernel_rfl
theorem Try.laidOut : laidOutB Try.prog = true := by kernel_rfl
end Go.Proofs.Ytepamoikoinhdaa
