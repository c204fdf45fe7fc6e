/- Two facts of the program. -/
import Derived.Test.YtgoaljnfegaldaaDoorGen2
import Derived.Test.YtgoaljnfegaldaaDoorProg
import Derived.ProofKit
import Derived.Handed
import Derived.OpenShut
namespace Go.Proofs.YtgoaljnfegaldaaDoor
open Go.ChangeShapes Go.WideShapes Go.ChangeAt Go.RowKit
theorem Tryd.own : ownKnob Tryd.prog.godebug = none := by kernel_rfl
theorem Tryd.laidOut : laidOutB Tryd.prog = true := by kernel_rfl
end Go.Proofs.YtgoaljnfegaldaaDoor
