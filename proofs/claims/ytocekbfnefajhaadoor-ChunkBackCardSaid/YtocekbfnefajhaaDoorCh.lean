/- strconv.FormatInt of base 16 walked. -/
import Derived.Test.YtocekbfnefajhaaDoorCb
namespace Go.Proofs.YtocekbfnefajhaaDoor
open Go.RowKit
attribute [local go_sem] store_one S_match S_store

/-- The cell that counts the zeros behind 16. -/
def ZeroAt (w : World) : Prop := w.cell? ⟨3, 15, none⟩ = some (.int .u8 4)
theorem zero_keep (w w' : World) (h : ZeroAt w) (hb : Below w.heap.size w w') : ZeroAt w' := by
  unfold ZeroAt World.cell? at *
  have hlt : 3 < w.heap.size := by
    by_cases hlt : 3 < w.heap.size
    · exact hlt
    · rw [show w.heap[3]? = none from Array.getElem?_eq_none (by omega)] at h; simp at h
  have e : w'.heap[3]? = w.heap[3]? := hb.block _ hlt
  simp only at *
  rw [e]
  exact h
set_option maxRecDepth 100000 in
set_option maxHeartbeats 1000000 in
theorem tz64 (w : World) (hT : ZeroAt w) : Calls Tryd.prog 59 #[.int .u64 16] w fun e w' => e = .returned (.int .i64 4) ∧ w' = w := by
  unfold ZeroAt at hT
  have hc : ∀ w, (convert 5 3 (.int .u8 4)).run Tryd.prog w = .ok (.int .i64 4) w := fun w => cv8 4 (by omega) w
  have k1 : IntKind.u64.wrap (-16) = 18446744073709551600 := by decide
  have k2 : bits .and .u64 16 18446744073709551600 = 16 := by decide
  have k3 : IntKind.u64.wrap (16 * 285870213051353865) = 4573923408821661840 := by decide
  go_enter Tryd.func59, Tryd.ntmps59
  go_wp2
  go_ret
  exact ⟨rfl, rfl⟩
set_option maxRecDepth 100000 in
set_option maxHeartbeats 1000000 in
theorem tz (w : World) (hT : ZeroAt w) : Calls Tryd.prog 55 #[.int .u64 16] w fun e w' => e = .returned (.int .i64 4) ∧ w' = w := by
  have HT := Lib.hid (tz64 w hT)
  clear hT
  go_enter Tryd.func55, Tryd.ntmps55
  go_wp2_with fail
  refine HT.out.mono ?_
  rintro e w1 ⟨rfl, rfl⟩
  go_wp2
  go_ret
  exact ⟨rfl, rfl⟩
set_option maxRecDepth 100000 in
set_option maxHeartbeats 1000000 in
theorem pow2 (w : World) : Calls Tryd.prog 54 #[.int .i64 16] w fun e w' => e = .returned (.bool true) ∧ w' = w := by
  go_enter Tryd.func54, Tryd.ntmps54
  go_wp2
  trace_state
  go_ret
  exact ⟨rfl, rfl⟩
end Go.Proofs.YtocekbfnefajhaaDoor
