/- The landed packages of frames: what the statements ask of them. -/
import Derived.Test.YtlmolmmhkddpaaaHw7
namespace Go.Proofs.Ytlmolmmhkddpaaa
open Go.RowKit
theorem bytesI (w : World) : ∀ (f : Frm) (W : World), Below w.heap.size w W → f.data.length ≤ 100000 → Calls Try.prog 20 #[frV f] W fun e w' => e = .returned (bytesV f) ∧ Below W.heap.size W w' :=
  fun f W _ h => wbytes_any f (by omega) W
end Go.Proofs.Ytlmolmmhkddpaaa
