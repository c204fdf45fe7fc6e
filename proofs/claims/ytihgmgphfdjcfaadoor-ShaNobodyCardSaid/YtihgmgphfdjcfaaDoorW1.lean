/- The walks of the leaves. -/
import Derived.Test.YtihgmgphfdjcfaaDoorWords
namespace Go.Proofs.YtihgmgphfdjcfaaDoor
open Go.RowKit
attribute [local go_sem] U_add U_xor U_and U_or U_not U_shl U_shr

theorem mask1 : bits .and .u64 1 31 = 1 := by decide
theorem mask5 : bits .and .u64 5 31 = 5 := by decide
theorem mask30 : bits .and .u64 30 31 = 30 := by decide

set_option maxHeartbeats 400000 in
theorem rotl1 (x : UInt32) (w : World) : Calls Tryd.prog 22 #[U x, .int .i64 1] w fun e w' => e = .returned (U (rot x 1)) ∧ w = w' := by
  have h := mask1
  go_enter Tryd.func22, Tryd.ntmps22
  go_wp2
  go_ret
  exact ⟨rfl, rfl⟩
set_option maxHeartbeats 400000 in
theorem rotl5 (x : UInt32) (w : World) : Calls Tryd.prog 22 #[U x, .int .i64 5] w fun e w' => e = .returned (U (rot x 5)) ∧ w = w' := by
  have h := mask5
  go_enter Tryd.func22, Tryd.ntmps22
  go_wp2
  go_ret
  exact ⟨rfl, rfl⟩
set_option maxHeartbeats 400000 in
theorem rotl30 (x : UInt32) (w : World) : Calls Tryd.prog 22 #[U x, .int .i64 30] w fun e w' => e = .returned (U (rot x 30)) ∧ w = w' := by
  have h := mask30
  go_enter Tryd.func22, Tryd.ntmps22
  go_wp2
  go_ret
  exact ⟨rfl, rfl⟩

set_option maxHeartbeats 400000 in
theorem rot1 (x : UInt32) (w : World) : Calls Tryd.prog 16 #[U x, .int .u64 1] w fun e w' => e = .returned (U (rot x 1)) ∧ w = w' := by
  go_enter Tryd.func16, Tryd.ntmps16
  go_wp2
  go_ret
  exact ⟨rfl, rfl⟩
set_option maxHeartbeats 400000 in
theorem rot5 (x : UInt32) (w : World) : Calls Tryd.prog 16 #[U x, .int .u64 5] w fun e w' => e = .returned (U (rot x 5)) ∧ w = w' := by
  go_enter Tryd.func16, Tryd.ntmps16
  go_wp2
  go_ret
  exact ⟨rfl, rfl⟩
set_option maxHeartbeats 400000 in
theorem rot30 (x : UInt32) (w : World) : Calls Tryd.prog 16 #[U x, .int .u64 30] w fun e w' => e = .returned (U (rot x 30)) ∧ w = w' := by
  go_enter Tryd.func16, Tryd.ntmps16
  go_wp2
  go_ret
  exact ⟨rfl, rfl⟩

theorem K1 : (Value.int .u32 1518500249) = U 0x5a827999 := rfl
theorem K2 : (Value.int .u32 1859775393) = U 0x6ed9eba1 := rfl
theorem K3 : (Value.int .u32 2400959708) = U 0x8f1bbcdc := rfl
theorem K4 : (Value.int .u32 3395469782) = U 0xca62c1d6 := rfl

set_option maxHeartbeats 400000 in
theorem mix_any (t : Nat) (b c d : UInt32) (ht : t < 80) (w : World) :
    Calls Tryd.prog 21 #[.int .i64 (t : Int), U b, U c, U d] w fun e w' => e = .returned (.tuple #[U (fF t b c d), U (kK t)]) ∧ w = w' := by
  by_cases h1 : t < 20
  · go_enter Tryd.func21, Tryd.ntmps21
    go_wp2
    go_ret2
    exact ⟨by rw [fF, kK, if_pos h1, if_pos h1]; rfl, rfl⟩
  by_cases h2 : t < 40
  · go_enter Tryd.func21, Tryd.ntmps21
    go_wp2
    go_ret2
    exact ⟨by rw [fF, kK, if_neg h1, if_neg h1, if_pos h2, if_pos h2]; rfl, rfl⟩
  by_cases h3 : t < 60
  · go_enter Tryd.func21, Tryd.ntmps21
    go_wp2
    go_ret2
    exact ⟨by rw [fF, kK, if_neg h1, if_neg h1, if_neg h2, if_neg h2, if_pos h3, if_pos h3]; rfl, rfl⟩
  · go_enter Tryd.func21, Tryd.ntmps21
    go_wp2
    go_ret2
    exact ⟨by rw [fF, kK, if_neg h1, if_neg h1, if_neg h2, if_neg h2, if_neg h3, if_neg h3]; rfl, rfl⟩
end Go.Proofs.YtihgmgphfdjcfaaDoor
