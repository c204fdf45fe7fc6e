/- Bytes that came in; ChunkBack of either kind. -/
import Derived.Test.YtocekbfnefajhaaDoorCb
import Derived.Test.YtocekbfnefajhaaDoorGen2
import Derived.OpenShut
namespace Go.Proofs.YtocekbfnefajhaaDoor
open Go.RowKit

theorem cells5 : Tryd.prog.cellsOf 5 = 1 := by kernel_rfl
theorem bytes_came {w : World} {V : Value} {n : Nat} {ad : Nat → Addr} {z : Nat → Int} (h : Came Tryd.prog w 35 V n ad (fun i => .int .u8 (z i))) (hz : ∀ i, i < n → (Lit.int .u8 (z i)).wf = true) :
    Came Tryd.prog w 35 V n ad (fun i => .int .u8 (((z i).toNat : Nat) : Int)) ∧ ∀ i, i < n → (z i).toNat ≤ 255 := by
  refine ⟨⟨h.len, h.index, fun i hi => ?_⟩, fun i hi => ?_⟩
  · have := bounds_u8 (hz i hi)
    rw [h.cell i hi, show (((z i).toNat : Nat) : Int) = z i by omega]
  · have := bounds_u8 (hz i hi)
    omega
theorem cback_any {RA : World → (Nat → Prop) → Nat → Cst → Prop} (C : ChunkI RA) {T : World → Prop} (X : HexI T) (s : List UInt8) (V : Value) (N : Nat) (ad : Nat → Addr) (z : Nat → Nat) (gr : Bool) (q : List UInt8) (hs : s.length ≤ maxLen) (hq : q.length ≤ maxLen) (w : World) (hT : T w)
    (hV : Came Tryd.prog w 35 V N ad (fun i => .int .u8 (z i : Int))) (hz : ∀ i, i < N → z i ≤ 255) :
    Calls Tryd.prog 8 #[S s, V, .bool gr, S q] w fun e w' => e = .returned (.bool true) ∧ Below w.heap.size w w' := by
  cases gr with
  | false => exact cback_false C X s V N ad z q hs hq w hT hV hz
  | true => exact cback_true C X s V N ad z q hs hq w hT hV hz
end Go.Proofs.YtocekbfnefajhaaDoor
