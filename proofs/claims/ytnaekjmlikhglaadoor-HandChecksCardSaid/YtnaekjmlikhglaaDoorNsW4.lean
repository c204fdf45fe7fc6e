/- Texts of this proof, one behind the other. -/
import Derived.Test.YtnaekjmlikhglaaDoorNsReg
import Derived.Lib.Hide
import Derived.IntWalk
import Derived.StillTailTactics
import Derived.Deep.QuietTactic
import Derived.BigQuiet
/- The walk of the schedule. -/
namespace Go.Proofs.YtnaekjmlikhglaaDoor.sa
open Go.RowKit
attribute [local go_sem] U_add U_xor U_and U_or U_not U_shl U_shr store_one U_match B_match U_store B_store

/-- Eighty noughts. -/
def Z80 : Array Value := (List.replicate 80 (U 0)).toArray
theorem z50 : ∀ w, (zeroValue 90).run Tryd.prog w = .ok (.agg Z80) w := (zero_of_info (n := 80) (by kernel_rfl)).1
theorem i36 : (Tryd.prog.info? 66).map (·.size) = some 64 := by kernel_rfl
theorem i50 : (Tryd.prog.info? 90).map (·.size) = some 80 := by kernel_rfl
theorem Z80_pw (bs : List UInt8) : Z80 = ucells (pw bs 0) := rfl

/-- The world of the schedule: the block, the result, the words. -/
def SW (w : World) (bs : List UInt8) (L : List UInt32) : World :=
  ((w.alloc (.cells (bcells bs) 66)).alloc (.cells Z80 90)).alloc (.cells (ucells L) 90)

set_option maxRecDepth 100000 in
set_option maxHeartbeats 2000000 in
theorem sched_any (bs : List UInt8) (hb : bs.length = 64) (w : World) : Calls Tryd.prog 72 #[.agg (bcells bs)] w fun e w' => e = .returned (.agg (ucells (sched bs))) ∧ Below w.heap.size w w' := by
  have hz := z50
  have HL := Lib.hid hb
  have hs : (bcells bs).size = 64 := by rw [bcells_size, hb]
  have HS := Lib.hid hs
  clear hb hs
  go_enter Tryd.func72, Tryd.ntmps72
  go_wp2_with (with_reducible refine wpList_load_row rfl 66 (.tmp 1) rfl w.heap.size rfl 66 (bcells bs) (0, 0) _ (heap3_0 _ _ _ _) Tryd.underlying66 rfl (by rw [HS.out]; exact i36) ?_)
  go_loopw [8] (fun i wr => ∃ k : Nat, k ≤ 64 ∧ i = .int .i64 k ∧ wr = ((w.alloc (.cells (bcells bs) 66)).alloc (.cells Z80 90)).alloc (.cells (ucells (pw bs k)) 90)) (fun i _ => 64 - (intOf i).toNat)
  case atStart => exact ⟨0, Nat.zero_le _, rfl, by rw [← Z80_pw]⟩
  case round =>
    obtain ⟨k, hk, rfl, rfl⟩ := hrel
    by_cases hlt : k < 64
    · have hidx : ∀ w', (Instr.index 66 (.agg (bcells bs)) (.int .i64 k)).run Tryd.prog w' = .ok (B (bs[k]?.getD 0)) w' := fun w' =>
        run_index_cells (bcells bs) _ k w' Tryd.underlying66 Tryd.sizeOf5 Tryd.isAgg5 (by omega) (by omega) (bcells_get bs k (by rw [HL.out]; exact hlt))
      have hcv := convB
      have hcell : (ucells (pw bs k))[k / 4]? = some (U ((pw bs k)[k / 4]?.getD 0)) := ucells_get _ _ (by rw [pw_length]; omega)
      have hset := fun x => ucells_set (pw bs k) (k / 4) x
      go_wp2
      exact ⟨⟨k + 1, by omega, by go_num, rfl⟩, by simp [intOf]; omega⟩
    · obtain rfl : k = 64 := by omega
      rw [show ((64 : Nat) : Int) = 64 from rfl]
      go_wp2
      go_loopw [6] (fun i wr => ∃ n : Nat, n ≤ 64 ∧ i = .int .i64 ((16 + n : Nat) : Int) ∧ Row wr (w.heap.size + 1) Z80 90 ∧ Row wr (w.heap.size + 1 + 1) (ucells (sq (pw bs 64) n)) 90 ∧ Below w.heap.size w wr) (fun i _ => 80 - (intOf i).toNat)
      case atStart => exact ⟨0, Nat.zero_le _, rfl, heap3_1 _ _ _ _, heap3_2 _ _ _ _, (((Below.refl _ _).alloc (Nat.le_refl _) _).alloc (by simp) _).alloc (by simp; omega) _⟩
      case round =>
        obtain ⟨n, hn, rfl, R1, R2, hbel⟩ := hrel
        by_cases hlt : n < 64
        · have hlen : (sq (pw bs 64) n).length = 80 := by rw [sq_length, pw_length]
          have hc1 := R2.word _ rfl (13 + n) (by rw [hlen]; omega)
          have hc2 := R2.word _ rfl (8 + n) (by rw [hlen]; omega)
          have hc3 := R2.word _ rfl (2 + n) (by rw [hlen]; omega)
          have hc4 := R2.word _ rfl n (by rw [hlen]; omega)
          have hc5 := R2.word _ rfl (16 + n) (by rw [hlen]; omega)
          have hf5 := R2.frozen (16 + n)
          have hno : ((16 + n : Nat) : Int) < 80 := by omega
          have w1 : IntKind.i64.wrap (16 + (n : Int) - 3) = 13 + (n : Int) := by rw [IntWalk.i64_in _ (by omega)]; omega
          have w2 : IntKind.i64.wrap (16 + (n : Int) - 8) = 8 + (n : Int) := by rw [IntWalk.i64_in _ (by omega)]; omega
          have w3 : IntKind.i64.wrap (16 + (n : Int) - 14) = 2 + (n : Int) := by rw [IntWalk.i64_in _ (by omega)]; omega
          have w4 : IntKind.i64.wrap (16 + (n : Int) - 16) = (n : Int) := by rw [IntWalk.i64_in _ (by omega)]; omega
          have p1 : 0 ≤ 13 + (n : Int) ∧ 13 + (n : Int) < 80 := by omega
          have p2 : 0 ≤ 8 + (n : Int) ∧ 8 + (n : Int) < 80 := by omega
          have p3 : 0 ≤ 2 + (n : Int) ∧ 2 + (n : Int) < 80 := by omega
          have p4 : 0 ≤ (n : Int) ∧ (n : Int) < 80 := by omega
          have p5 : 0 ≤ 16 + (n : Int) ∧ 16 + (n : Int) < 80 := by omega
          have t1 : (13 + (n : Int)).toNat = 13 + n := by omega
          have t2 : (8 + (n : Int)).toNat = 8 + n := by omega
          have t3 : (2 + (n : Int)).toNat = 2 + n := by omega
          have t5 : (16 + (n : Int)).toNat = 16 + n := by omega
          clear hlen
          go_wp2
          go_still_tail 22, (by kernel_rfl)
          still_call ((rotl1 _ _).mono fun _ _ ⟨ea, eb⟩ => ⟨ea, eb.symm⟩)
          still_step
          refine wpStill_nil ?_
          clear w1 w2 w3 w4 t1 t2 t3 p1 p2 p3 p4
          change wpList _ _ _ _ _ wr.drew
          generalize hx : wr.drew = wd at *
          have hd5 : wd.cell? ⟨w.heap.size + 1 + 1, 16 + n, none⟩ = some (U ((sq (pw bs 64) n)[16 + n]?.getD 0)) := by subst hx; exact hc5
          have hg5 : wd.frozen? ⟨w.heap.size + 1 + 1, 16 + n, none⟩ = false := by subst hx; exact hf5
          have HX := Lib.hid hx
          clear hx hc1 hc2 hc3 hc4 hc5 hf5
          go_wp2
          refine ⟨⟨n + 1, by omega, by go_num, ?_, ?_, ?_⟩, by simp [intOf]; omega⟩
          · rw [← HX.out]; exact (R1.drew).other (by show _ ≠ w.heap.size + 1 + 1; omega)
          · rw [← HX.out]
            exact (R2.drew).set_word _ _ rfl
          · rw [← HX.out]; exact hbel.drew.setCell (by show _ ≤ w.heap.size + 1 + 1; omega) _
        · obtain rfl : n = 64 := by omega
          have hs : (Tryd.prog.info? 90).map (·.size) = some (ucells (sq (pw bs 64) 64)).size := by rw [ucells_size, sq_length, pw_length]; exact i50
          have hs2 : Z80.size = (ucells (sq (pw bs 64) 64)).size := by rw [ucells_size, sq_length, pw_length]; rfl
          have HS1 := Lib.hid hs
          have HS2 := Lib.hid hs2
          have HR := Lib.hid (R1.row)
          have HR2 := Lib.hid (R2.row)
          clear hs hs2
          go_wp2_with (first
            | (with_reducible refine wpList_load_row rfl 90 (.tmp 3) rfl (w.heap.size + 1 + 1) rfl 90 (ucells (sq (pw bs 64) 64)) (0, 0) _ HR2.out Tryd.underlying90 rfl HS1.out ?_)
            | (with_reducible refine wpList_store_row rfl 90 (.tmp 2) (.tmp 50) rfl (w.heap.size + 1) (ucells (sq (pw bs 64) 64)) rfl rfl 90 Z80 HR.out HS1.out HS2.out (ucells_one _) ?_))
          exact bodyPost_ret (v := .agg (ucells (sched bs))) (results_cell_row rfl _ _ (w.heap.size + 1) 90 _ (0, 0) _ rfl (setRow_heap _ _ _ _ _ _ R1) Tryd.underlying90 rfl HS1.out) rfl ⟨rfl, hbel.setRow (by omega) _⟩
end Go.Proofs.YtnaekjmlikhglaaDoor.sa
/- The walk of a block's step. -/
namespace Go.Proofs.YtnaekjmlikhglaaDoor.sa
open Go.RowKit
attribute [local go_sem] U_add U_xor U_and U_or U_not U_shl U_shr store_one U_match B_match U_store B_store

/-- Five noughts. -/
abbrev Z5 : Array Value := #[U 0, U 0, U 0, U 0, U 0]
theorem z35 : ∀ w, (zeroValue 65).run Tryd.prog w = .ok (.agg Z5) w := (zero_of_info (n := 5) (by kernel_rfl)).1
theorem i35' : (Tryd.prog.info? 65).map (·.size) = some 5 := by kernel_rfl

set_option maxRecDepth 100000 in
set_option maxHeartbeats 2000000 in
theorem addBlock_any (s : S5) (bs : List UInt8) (hb : bs.length = 64) (w : World) : Calls Tryd.prog 62 #[.agg (ucells s.l), .agg (bcells bs)] w fun e w' => e = .returned (.agg (ucells (blk s bs).l)) ∧ Below w.heap.size w w' := by
  have hz := z35
  have HB := Lib.hid hb
  clear hb
  have c0 : (ucells s.l)[0]? = some (U s.a) := rfl
  have c1 : (ucells s.l)[1]? = some (U s.b) := rfl
  have c2 : (ucells s.l)[2]? = some (U s.c) := rfl
  have c3 : (ucells s.l)[3]? = some (U s.d) := rfl
  have c4 : (ucells s.l)[4]? = some (U s.e) := rfl
  have HS : Hid ((Tryd.prog.info? 66).map (·.size) = some (bcells bs).size) := by unfold Hid; rw [bcells_size, HB.out]; exact i36
  go_enter Tryd.func62, Tryd.ntmps62
  go_wp2_with fail
  go_quiet (fail)
  clear c0 c1 c2 c3 c4
  obtain ⟨W, hW⟩ : ∃ W, W = ((((w.alloc (.cells (ucells s.l) 65)).alloc (.cells (bcells bs) 66)).alloc (.cells Z5 65)).drewN nq) := ⟨_, rfl⟩
  rw [← hW]
  have R0 : Row W w.heap.size (ucells s.l) 65 := by rw [hW]; exact heap3_0 _ _ _ _
  have R1 : Row W (w.heap.size + 1) (bcells bs) 66 := by rw [hW]; exact heap3_1 _ _ _ _
  have R2 : Row W (w.heap.size + 1 + 1) Z5 65 := by rw [hW]; exact heap3_2 _ _ _ _
  have bW : Below w.heap.size w W := by rw [hW]; exact _root_.Go.below_drewN ((((Below.refl _ _).alloc (Nat.le_refl _) _).alloc (by simp) _).alloc (by simp; omega) _) nq
  have HR1 := Lib.hid R1.row
  clear hW
  go_wp2_with (first
    | (with_reducible refine wpList_load_row rfl 66 (.tmp 3) rfl (w.heap.size + 1) rfl 66 (bcells bs) (0, 0) _ HR1.out Tryd.underlying66 rfl HS.out ?_)
    | (go_at_call 72; refine (sched_any bs HB.out _).mono ?_; rintro e W2 ⟨rfl, b2⟩))
  have Q0 : Row W2 w.heap.size (ucells s.l) 65 := R0.below b2 R0.lt
  have Q2 : Row W2 (w.heap.size + 1 + 1) Z5 65 := R2.below b2 R2.lt
  have bW2 : Below w.heap.size w W2 := bW.trans (b2.mono bW.size)
  clear R0 R1 R2 HR1 b2 bW
  go_loop [5, 6, 7, 8, 9, 26] (fun a b c d e i => ∃ t : Nat, t ≤ 80 ∧ i = .int .i64 t ∧ a = U (rd (sched bs) s t).a ∧ b = U (rd (sched bs) s t).b ∧ c = U (rd (sched bs) s t).c ∧ d = U (rd (sched bs) s t).d ∧ e = U (rd (sched bs) s t).e) (fun _ _ _ _ _ i => 80 - (intOf i).toNat)
  case atStart => exact ⟨0, Nat.zero_le _, rfl, rfl, rfl, rfl, rfl, rfl⟩
  case round =>
    obtain ⟨t, ht, rfl, rfl, rfl, rfl, rfl, rfl⟩ := hrel
    obtain ⟨p, hp⟩ : ∃ p, p = rd (sched bs) s t := ⟨_, rfl⟩
    rw [← hp]
    have HP := Lib.hid hp
    clear hp
    by_cases hlt : t < 80
    · have hidx : ∀ w', (Instr.index 90 (.agg (ucells (sched bs))) (.int .i64 t)).run Tryd.prog w' = .ok (U ((sched bs)[t]?.getD 0)) w' := fun w' =>
        run_index_cells (ucells (sched bs)) _ t w' Tryd.underlying90 Tryd.sizeOf64 Tryd.isAgg64 (by omega) (by omega) (ucells_get _ t (by rw [sched_length]; exact hlt))
      go_wp2_with (first
        | (go_at_call 73; refine (mix_any t _ _ _ hlt _).mono ?_; rintro e W3 ⟨rfl, rfl⟩)
        | (go_at_call 74; first
            | ((with_reducible refine (rotl5 _ _).mono ?_); rintro e W3 ⟨rfl, rfl⟩)
            | ((with_reducible refine (rotl30 _ _).mono ?_); rintro e W3 ⟨rfl, rfl⟩)))
      have e : rd (sched bs) s (t + 1) = rd1 (sched bs) t p := by rw [HP.out]; rfl
      exact ⟨⟨t + 1, by omega, by go_num, by rw [e]; rfl, by rw [e]; rfl, by rw [e]; rfl, by rw [e]; rfl, by rw [e]; rfl⟩, by simp [intOf]; omega⟩
    · obtain rfl : t = 80 := by omega
      rw [show ((80 : Nat) : Int) = 80 from rfl]
      have c0 : W2.cell? ⟨w.heap.size, 0, none⟩ = some (U s.a) := Q0.word _ rfl 0 (by simp [S5.l])
      have c1 : W2.cell? ⟨w.heap.size, 1, none⟩ = some (U s.b) := Q0.word _ rfl 1 (by simp [S5.l])
      have c2 : W2.cell? ⟨w.heap.size, 2, none⟩ = some (U s.c) := Q0.word _ rfl 2 (by simp [S5.l])
      have c3 : W2.cell? ⟨w.heap.size, 3, none⟩ = some (U s.d) := Q0.word _ rfl 3 (by simp [S5.l])
      have c4 : W2.cell? ⟨w.heap.size, 4, none⟩ = some (U s.e) := Q0.word _ rfl 4 (by simp [S5.l])
      have HQ2 := Lib.hid Q2.row
      have HO1 : Hid ((#[U (s.a + p.a), U (s.b + p.b), U (s.c + p.c), U (s.d + p.d), U (s.e + p.e)] : Array Value).all (·.oneCell') = true) := ucells_one (s.add p).l
      have HO2 : Hid (Z5.size = (#[U (s.a + p.a), U (s.b + p.b), U (s.c + p.c), U (s.d + p.d), U (s.e + p.e)] : Array Value).size) := rfl
      have HO3 : Hid ((Tryd.prog.info? 65).map (·.size) = some (#[U (s.a + p.a), U (s.b + p.b), U (s.c + p.c), U (s.d + p.d), U (s.e + p.e)] : Array Value).size) := i35'
      go_wp2_with (first
        | (with_reducible refine wpList_store_row rfl 65 (.tmp 4) (.tmp 74) rfl (w.heap.size + 1 + 1) #[U (s.a + p.a), U (s.b + p.b), U (s.c + p.c), U (s.d + p.d), U (s.e + p.e)] rfl rfl 65 Z5 HQ2.out HO3.out HO2.out HO1.out ?_))
      have e : (#[U (s.a + p.a), U (s.b + p.b), U (s.c + p.c), U (s.d + p.d), U (s.e + p.e)] : Array Value) = ucells (blk s bs).l := by
        rw [blk, blkW, ← HP.out]; rfl
      have HO4 := HO3.out
      rw [e] at HO4 ⊢
      exact bodyPost_ret (v := .agg (ucells (blk s bs).l)) (results_cell_row rfl _ _ (w.heap.size + 1 + 1) 65 _ (0, 0) _ rfl (setRow_heap _ _ _ _ _ _ Q2) Tryd.underlying65 rfl HO4) rfl
        ⟨rfl, bW2.setRow (by omega) _⟩
end Go.Proofs.YtnaekjmlikhglaaDoor.sa
