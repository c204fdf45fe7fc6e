/- Two facts of the program. -/
import Derived.Test.YtbnlkjoblngakaaDoorGen2
import Derived.Test.YtbnlkjoblngakaaDoorProg
import Derived.ProofKit
import Derived.Handed
import Derived.OpenShut
namespace Go.Proofs.YtbnlkjoblngakaaDoor
open Go.ChangeShapes Go.WideShapes Go.ChangeAt Go.RowKit
theorem Tryd.own : ownKnob Tryd.prog.godebug = none := by kernel_rfl
theorem Tryd.laidOut : laidOutB Tryd.prog = true := by kernel_rfl
end Go.Proofs.YtbnlkjoblngakaaDoor
