/- Two facts of the program. -/
import Derived.Test.YtnaekjmlikhglaaDoorGen9
import Derived.Test.YtnaekjmlikhglaaDoorProg
import Derived.ProofKit
import Derived.Handed
import Derived.OpenShut
namespace Go.Proofs.YtnaekjmlikhglaaDoor
open Go.ChangeShapes Go.WideShapes Go.ChangeAt Go.RowKit
theorem Tryd.own : ownKnob Tryd.prog.godebug = none := by kernel_rfl
theorem Tryd.laidOut : laidOutB Tryd.prog = true := by kernel_rfl
end Go.Proofs.YtnaekjmlikhglaaDoor
