/- The landed package of frames does what is asked of it. -/
import Derived.Test.YtepamoikoinhdaaEw9
namespace Go.Proofs.Ytepamoikoinhdaa
theorem frameI (w : World) : FrameI w where
  mask := fun K a s W _ ha hl => wmask_any K a ha s (by omega) W
  bytes := fun f W _ hl => wbytes_any f (by omega) W
  head := fun s W _ hl => whead_any s hl W
  read := fun s W _ hl => wread_any s hl W
end Go.Proofs.Ytepamoikoinhdaa
