/- The walk of the words as bytes. -/
import Derived.Test.YtnaekjmlikhglaaDoorNsReg
import Derived.Lib.Hide
import Derived.IntWalk
namespace Go.Proofs.YtnaekjmlikhglaaDoor.sa
open Go.RowKit
attribute [local go_sem] U_add U_xor U_and U_or U_not U_shl U_shr store_one U_match B_match U_store B_store

/-- Twenty noughts. -/
def Z20 : Array Value := (List.replicate 20 (B 0)).toArray
theorem z22 : ∀ w, (zeroValue 55).run Tryd.prog w = .ok (.agg Z20) w := (zero_of_info (n := 20) (by kernel_rfl)).1
theorem i22 : (Tryd.prog.info? 55).map (·.size) = some 20 := by kernel_rfl
theorem i35 : (Tryd.prog.info? 65).map (·.size) = some 5 := by kernel_rfl
theorem Z20_wbs (ws : List UInt32) : Z20 = bcells (wbs ws 0) := rfl

set_option maxRecDepth 100000 in
set_option maxHeartbeats 2000000 in
theorem wordBytes_any (ws : List UInt32) (hb : ws.length = 5) (w : World) : Calls Tryd.prog 64 #[.agg (ucells ws)] w fun e w' => e = .returned (.agg (bcells (wbs ws 20))) ∧ Below w.heap.size w w' := by
  have hz := z22
  have HL := Lib.hid hb
  clear hb
  go_enter Tryd.func64, Tryd.ntmps64
  go_wp2
  go_loopw [5] (fun i wr => ∃ k : Nat, k ≤ 20 ∧ i = .int .i64 k ∧ wr = ((w.alloc (.cells (ucells ws) 65)).alloc (.cells Z20 55)).alloc (.cells (bcells (wbs ws k)) 55)) (fun i _ => 20 - (intOf i).toNat)
  case atStart => exact ⟨0, Nat.zero_le _, rfl, by rw [← Z20_wbs]⟩
  case round =>
    obtain ⟨k, hk, rfl, rfl⟩ := hrel
    by_cases hlt : k < 20
    · have hcv := convU
      have hcell : (ucells ws)[k / 4]? = some (U (ws[k / 4]?.getD 0)) := ucells_get _ _ (by rw [HL.out]; omega)
      have hcell2 : (bcells (wbs ws k))[k]? = some (B ((wbs ws k)[k]?.getD 0)) := bcells_get _ _ (by rw [wbs_length]; omega)
      have hset := fun x => bcells_set (wbs ws k) k x
      have hsh : binOp .shr 64 (U (ws[k / 4]?.getD 0)) (.int .i64 (24 - 8 * ((k : Int) % 4))) = pure (U ((ws[k / 4]?.getD 0) >>> UInt32.ofNat (24 - 8 * (k % 4)))) := by
        rw [U_shr 64 _ .i64 _ (by omega) (by omega), show (24 - 8 * ((k : Int) % 4)).toNat = 24 - 8 * (k % 4) by omega]
      go_wp2
      exact ⟨⟨k + 1, by omega, by go_num, rfl⟩, by simp [intOf]; omega⟩
    · obtain rfl : k = 20 := by omega
      rw [show ((20 : Nat) : Int) = 20 from rfl]
      have HS1 : Hid ((Tryd.prog.info? 55).map (·.size) = some (bcells (wbs ws 20)).size) := by unfold Hid; rw [bcells_size, wbs_length]; exact i22
      have HS2 : Hid (Z20.size = (bcells (wbs ws 20)).size) := by unfold Hid; rw [bcells_size, wbs_length]; rfl
      go_wp2_with (first
        | (with_reducible refine wpList_load_row rfl 55 (.tmp 3) rfl (w.heap.size + 1 + 1) rfl 55 (bcells (wbs ws 20)) (0, 0) _ (heap3_2 _ _ _ _) Tryd.underlying55 rfl HS1.out ?_)
        | (with_reducible refine wpList_store_row rfl 55 (.tmp 2) (.tmp 21) rfl (w.heap.size + 1) (bcells (wbs ws 20)) rfl rfl 55 Z20 (heap3_1 _ _ _ _) HS1.out HS2.out (bcells_one _) ?_))
      exact bodyPost_ret (v := .agg (bcells (wbs ws 20))) (results_cell_row rfl _ _ (w.heap.size + 1) 55 _ (0, 0) _ rfl (setRow_heap _ _ _ _ _ _ (heap3_1 _ _ _ _)) Tryd.underlying55 rfl HS1.out) rfl
        ⟨rfl, Below.setRow ((((Below.refl _ _).alloc (Nat.le_refl _) _).alloc (by simp) _).alloc (by simp; omega) _) (by omega) _⟩
end Go.Proofs.YtnaekjmlikhglaaDoor.sa
