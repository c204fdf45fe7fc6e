/- Bytes that came in. -/
import Derived.Test.YtlmolmmhkddpaaaGen2
import Derived.Test.YtlmolmmhkddpaaaProg
import Derived.OpenShut
namespace Go.Proofs.Ytlmolmmhkddpaaa
open Go.RowKit

theorem cells5 : Try.prog.cellsOf 5 = 1 := by kernel_rfl
theorem bytes_came {w : World} {V : Value} {n : Nat} {ad : Nat → Addr} {z : Nat → Int} (h : Came Try.prog w 38 V n ad (fun i => .int .u8 (z i))) (hz : ∀ i, i < n → (Lit.int .u8 (z i)).wf = true) :
    Came Try.prog w 38 V n ad (fun i => .int .u8 (((z i).toNat : Nat) : Int)) ∧ ∀ i, i < n → (z i).toNat ≤ 255 := by
  refine ⟨⟨h.len, h.index, fun i hi => ?_⟩, fun i hi => ?_⟩
  · have := bounds_u8 (hz i hi)
    rw [h.cell i hi, show (((z i).toNat : Nat) : Int) = z i by omega]
  · have := bounds_u8 (hz i hi)
    omega
end Go.Proofs.Ytlmolmmhkddpaaa
