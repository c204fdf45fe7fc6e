/- The walk of the schedule. -/
import Derived.Test.YtihgmgphfdjcfaaDoorWords2
import Derived.Lib.Hide
import Derived.IntWalk
import Derived.StillTailTactics
namespace Go.Proofs.YtihgmgphfdjcfaaDoor
open Go.RowKit
attribute [local go_sem] U_add U_xor U_and U_or U_not U_shl U_shr store_one U_match B_match U_store B_store

/-- Eighty noughts. -/
def Z80 : Array Value := (List.replicate 80 (U 0)).toArray
theorem z50 : ∀ w, (zeroValue 50).run Tryd.prog w = .ok (.agg Z80) w := (zero_of_info (n := 80) (by kernel_rfl)).1
theorem i36 : (Tryd.prog.info? 36).map (·.size) = some 64 := by kernel_rfl
theorem i50 : (Tryd.prog.info? 50).map (·.size) = some 80 := by kernel_rfl
theorem Z80_pw (bs : List UInt8) : Z80 = ucells (pw bs 0) := rfl

/-- The world of the schedule: the block, the result, the words. -/
def SW (w : World) (bs : List UInt8) (L : List UInt32) : World :=
  ((w.alloc (.cells (bcells bs) 36)).alloc (.cells Z80 50)).alloc (.cells (ucells L) 50)

set_option maxRecDepth 100000 in
set_option maxHeartbeats 2000000 in
theorem sched_any (bs : List UInt8) (hb : bs.length = 64) (w : World) : Calls Tryd.prog 20 #[.agg (bcells bs)] w fun e w' => e = .returned (.agg (ucells (sched bs))) ∧ Below w.heap.size w w' := by
  have hz := z50
  have HL := Lib.hid hb
  have hs : (bcells bs).size = 64 := by rw [bcells_size, hb]
  have HS := Lib.hid hs
  clear hb hs
  go_enter Tryd.func20, Tryd.ntmps20
  go_wp2_with (with_reducible refine wpList_load_row rfl 36 (.tmp 1) rfl w.heap.size rfl 36 (bcells bs) (0, 0) _ (heap3_0 _ _ _ _) Tryd.underlying36 rfl (by rw [HS.out]; exact i36) ?_)
  go_loopw [8] (fun i wr => ∃ k : Nat, k ≤ 64 ∧ i = .int .i64 k ∧ wr = ((w.alloc (.cells (bcells bs) 36)).alloc (.cells Z80 50)).alloc (.cells (ucells (pw bs k)) 50)) (fun i _ => 64 - (intOf i).toNat)
  case atStart => exact ⟨0, Nat.zero_le _, rfl, by rw [← Z80_pw]⟩
  case round =>
    obtain ⟨k, hk, rfl, rfl⟩ := hrel
    by_cases hlt : k < 64
    · have hidx : ∀ w', (Instr.index 36 (.agg (bcells bs)) (.int .i64 k)).run Tryd.prog w' = .ok (B (bs[k]?.getD 0)) w' := fun w' =>
        run_index_cells (bcells bs) _ k w' Tryd.underlying36 Tryd.sizeOf5 Tryd.isAgg5 (by omega) (by omega) (bcells_get bs k (by rw [HL.out]; exact hlt))
      have hcv := convB
      have hcell : (ucells (pw bs k))[k / 4]? = some (U ((pw bs k)[k / 4]?.getD 0)) := ucells_get _ _ (by rw [pw_length]; omega)
      have hset := fun x => ucells_set (pw bs k) (k / 4) x
      go_wp2
      exact ⟨⟨k + 1, by omega, by go_num, rfl⟩, by simp [intOf]; omega⟩
    · obtain rfl : k = 64 := by omega
      rw [show ((64 : Nat) : Int) = 64 from rfl]
      go_wp2
      go_loopw [6] (fun i wr => ∃ n : Nat, n ≤ 64 ∧ i = .int .i64 ((16 + n : Nat) : Int) ∧ Row wr (w.heap.size + 1) Z80 50 ∧ Row wr (w.heap.size + 1 + 1) (ucells (sq (pw bs 64) n)) 50 ∧ Below w.heap.size w wr) (fun i _ => 80 - (intOf i).toNat)
      case atStart => exact ⟨0, Nat.zero_le _, rfl, heap3_1 _ _ _ _, heap3_2 _ _ _ _, (((Below.refl _ _).alloc (Nat.le_refl _) _).alloc (by simp) _).alloc (by simp; omega) _⟩
      case round =>
        obtain ⟨n, hn, rfl, R1, R2, hbel⟩ := hrel
        by_cases hlt : n < 64
        · have hlen : (sq (pw bs 64) n).length = 80 := by rw [sq_length, pw_length]
          have hc1 := R2.word _ rfl (13 + n) (by rw [hlen]; omega)
          have hc2 := R2.word _ rfl (8 + n) (by rw [hlen]; omega)
          have hc3 := R2.word _ rfl (2 + n) (by rw [hlen]; omega)
          have hc4 := R2.word _ rfl n (by rw [hlen]; omega)
          have hc5 := R2.word _ rfl (16 + n) (by rw [hlen]; omega)
          have hf5 := R2.frozen (16 + n)
          have hno : ((16 + n : Nat) : Int) < 80 := by omega
          have w1 : IntKind.i64.wrap (16 + (n : Int) - 3) = 13 + (n : Int) := by rw [IntWalk.i64_in _ (by omega)]; omega
          have w2 : IntKind.i64.wrap (16 + (n : Int) - 8) = 8 + (n : Int) := by rw [IntWalk.i64_in _ (by omega)]; omega
          have w3 : IntKind.i64.wrap (16 + (n : Int) - 14) = 2 + (n : Int) := by rw [IntWalk.i64_in _ (by omega)]; omega
          have w4 : IntKind.i64.wrap (16 + (n : Int) - 16) = (n : Int) := by rw [IntWalk.i64_in _ (by omega)]; omega
          have p1 : 0 ≤ 13 + (n : Int) ∧ 13 + (n : Int) < 80 := by omega
          have p2 : 0 ≤ 8 + (n : Int) ∧ 8 + (n : Int) < 80 := by omega
          have p3 : 0 ≤ 2 + (n : Int) ∧ 2 + (n : Int) < 80 := by omega
          have p4 : 0 ≤ (n : Int) ∧ (n : Int) < 80 := by omega
          have p5 : 0 ≤ 16 + (n : Int) ∧ 16 + (n : Int) < 80 := by omega
          have t1 : (13 + (n : Int)).toNat = 13 + n := by omega
          have t2 : (8 + (n : Int)).toNat = 8 + n := by omega
          have t3 : (2 + (n : Int)).toNat = 2 + n := by omega
          have t5 : (16 + (n : Int)).toNat = 16 + n := by omega
          clear hlen
          go_wp2
          go_still_tail 22, (by kernel_rfl)
          still_call ((rotl1 _ _).mono fun _ _ ⟨ea, eb⟩ => ⟨ea, eb.symm⟩)
          still_step
          refine wpStill_nil ?_
          clear w1 w2 w3 w4 t1 t2 t3 p1 p2 p3 p4
          change wpList _ _ _ _ _ wr.drew
          generalize hx : wr.drew = wd at *
          have hd5 : wd.cell? ⟨w.heap.size + 1 + 1, 16 + n, none⟩ = some (U ((sq (pw bs 64) n)[16 + n]?.getD 0)) := by subst hx; exact hc5
          have hg5 : wd.frozen? ⟨w.heap.size + 1 + 1, 16 + n, none⟩ = false := by subst hx; exact hf5
          have HX := Lib.hid hx
          clear hx hc1 hc2 hc3 hc4 hc5 hf5
          go_wp2
          refine ⟨⟨n + 1, by omega, by go_num, ?_, ?_, ?_⟩, by simp [intOf]; omega⟩
          · rw [← HX.out]; exact (R1.drew).other (by show _ ≠ w.heap.size + 1 + 1; omega)
          · rw [← HX.out]
            exact (R2.drew).set_word _ _ rfl
          · rw [← HX.out]; exact hbel.drew.setCell (by show _ ≤ w.heap.size + 1 + 1; omega) _
        · obtain rfl : n = 64 := by omega
          have hs : (Tryd.prog.info? 50).map (·.size) = some (ucells (sq (pw bs 64) 64)).size := by rw [ucells_size, sq_length, pw_length]; exact i50
          have hs2 : Z80.size = (ucells (sq (pw bs 64) 64)).size := by rw [ucells_size, sq_length, pw_length]; rfl
          have HS1 := Lib.hid hs
          have HS2 := Lib.hid hs2
          have HR := Lib.hid (R1.row)
          have HR2 := Lib.hid (R2.row)
          clear hs hs2
          go_wp2_with (first
            | (with_reducible refine wpList_load_row rfl 50 (.tmp 3) rfl (w.heap.size + 1 + 1) rfl 50 (ucells (sq (pw bs 64) 64)) (0, 0) _ HR2.out Tryd.underlying50 rfl HS1.out ?_)
            | (with_reducible refine wpList_store_row rfl 50 (.tmp 2) (.tmp 50) rfl (w.heap.size + 1) (ucells (sq (pw bs 64) 64)) rfl rfl 50 Z80 HR.out HS1.out HS2.out (ucells_one _) ?_))
          exact bodyPost_ret (v := .agg (ucells (sched bs))) (results_cell_row rfl _ _ (w.heap.size + 1) 50 _ (0, 0) _ rfl (setRow_heap _ _ _ _ _ _ R1) Tryd.underlying50 rfl HS1.out) rfl ⟨rfl, hbel.setRow (by omega) _⟩
end Go.Proofs.YtihgmgphfdjcfaaDoor
