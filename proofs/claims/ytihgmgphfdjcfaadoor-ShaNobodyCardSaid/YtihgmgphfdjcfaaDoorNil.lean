/- A nil hash takes nothing: Write does nothing. -/
import Derived.Test.YtihgmgphfdjcfaaDoorW8
namespace Go.Proofs.YtihgmgphfdjcfaaDoor
open Go.RowKit
set_option maxRecDepth 100000 in
set_option maxHeartbeats 2000000 in
theorem write_nil (l : List UInt8) (w : World) : Calls Tryd.prog 13 #[.pointer none, S l] w fun e w' => e = .returned (.tuple #[]) ∧ Below w.heap.size w w' := by
  go_enter Tryd.func13, Tryd.ntmps13
  go_wp2
  refine bodyPost_ret (v := .tuple #[]) (results_none rfl _ _ _) rfl ?_
  exact ⟨rfl, Below.refl _ _⟩
end Go.Proofs.YtihgmgphfdjcfaaDoor
