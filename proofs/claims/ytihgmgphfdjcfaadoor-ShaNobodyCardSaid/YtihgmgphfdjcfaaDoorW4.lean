/- The walk of a block's step. -/
import Derived.Test.YtihgmgphfdjcfaaDoorW2
import Derived.Deep.QuietTactic
import Derived.BigQuiet
namespace Go.Proofs.YtihgmgphfdjcfaaDoor
open Go.RowKit
attribute [local go_sem] U_add U_xor U_and U_or U_not U_shl U_shr store_one U_match B_match U_store B_store

/-- Five noughts. -/
abbrev Z5 : Array Value := #[U 0, U 0, U 0, U 0, U 0]
theorem z35 : ∀ w, (zeroValue 35).run Tryd.prog w = .ok (.agg Z5) w := (zero_of_info (n := 5) (by kernel_rfl)).1
theorem i35' : (Tryd.prog.info? 35).map (·.size) = some 5 := by kernel_rfl

set_option maxRecDepth 100000 in
set_option maxHeartbeats 2000000 in
theorem addBlock_any (s : S5) (bs : List UInt8) (hb : bs.length = 64) (w : World) : Calls Tryd.prog 17 #[.agg (ucells s.l), .agg (bcells bs)] w fun e w' => e = .returned (.agg (ucells (blk s bs).l)) ∧ Below w.heap.size w w' := by
  have hz := z35
  have HB := Lib.hid hb
  clear hb
  have c0 : (ucells s.l)[0]? = some (U s.a) := rfl
  have c1 : (ucells s.l)[1]? = some (U s.b) := rfl
  have c2 : (ucells s.l)[2]? = some (U s.c) := rfl
  have c3 : (ucells s.l)[3]? = some (U s.d) := rfl
  have c4 : (ucells s.l)[4]? = some (U s.e) := rfl
  have HS : Hid ((Tryd.prog.info? 36).map (·.size) = some (bcells bs).size) := by unfold Hid; rw [bcells_size, HB.out]; exact i36
  go_enter Tryd.func17, Tryd.ntmps17
  go_wp2_with fail
  go_quiet (fail)
  clear c0 c1 c2 c3 c4
  obtain ⟨W, hW⟩ : ∃ W, W = ((((w.alloc (.cells (ucells s.l) 35)).alloc (.cells (bcells bs) 36)).alloc (.cells Z5 35)).drewN nq) := ⟨_, rfl⟩
  rw [← hW]
  have R0 : Row W w.heap.size (ucells s.l) 35 := by rw [hW]; exact heap3_0 _ _ _ _
  have R1 : Row W (w.heap.size + 1) (bcells bs) 36 := by rw [hW]; exact heap3_1 _ _ _ _
  have R2 : Row W (w.heap.size + 1 + 1) Z5 35 := by rw [hW]; exact heap3_2 _ _ _ _
  have bW : Below w.heap.size w W := by rw [hW]; exact below_drewN ((((Below.refl _ _).alloc (Nat.le_refl _) _).alloc (by simp) _).alloc (by simp; omega) _) nq
  have HR1 := Lib.hid R1.row
  clear hW
  go_wp2_with (first
    | (with_reducible refine wpList_load_row rfl 36 (.tmp 3) rfl (w.heap.size + 1) rfl 36 (bcells bs) (0, 0) _ HR1.out Tryd.underlying36 rfl HS.out ?_)
    | (go_at_call 20; refine (sched_any bs HB.out _).mono ?_; rintro e W2 ⟨rfl, b2⟩))
  have Q0 : Row W2 w.heap.size (ucells s.l) 35 := R0.below b2 R0.lt
  have Q2 : Row W2 (w.heap.size + 1 + 1) Z5 35 := R2.below b2 R2.lt
  have bW2 : Below w.heap.size w W2 := bW.trans (b2.mono bW.size)
  clear R0 R1 R2 HR1 b2 bW
  go_loop [5, 6, 7, 8, 9, 26] (fun a b c d e i => ∃ t : Nat, t ≤ 80 ∧ i = .int .i64 t ∧ a = U (rd (sched bs) s t).a ∧ b = U (rd (sched bs) s t).b ∧ c = U (rd (sched bs) s t).c ∧ d = U (rd (sched bs) s t).d ∧ e = U (rd (sched bs) s t).e) (fun _ _ _ _ _ i => 80 - (intOf i).toNat)
  case atStart => exact ⟨0, Nat.zero_le _, rfl, rfl, rfl, rfl, rfl, rfl⟩
  case round =>
    obtain ⟨t, ht, rfl, rfl, rfl, rfl, rfl, rfl⟩ := hrel
    obtain ⟨p, hp⟩ : ∃ p, p = rd (sched bs) s t := ⟨_, rfl⟩
    rw [← hp]
    have HP := Lib.hid hp
    clear hp
    by_cases hlt : t < 80
    · have hidx : ∀ w', (Instr.index 50 (.agg (ucells (sched bs))) (.int .i64 t)).run Tryd.prog w' = .ok (U ((sched bs)[t]?.getD 0)) w' := fun w' =>
        run_index_cells (ucells (sched bs)) _ t w' Tryd.underlying50 Tryd.sizeOf34 Tryd.isAgg34 (by omega) (by omega) (ucells_get _ t (by rw [sched_length]; exact hlt))
      go_wp2_with (first
        | (go_at_call 21; refine (mix_any t _ _ _ hlt _).mono ?_; rintro e W3 ⟨rfl, rfl⟩)
        | (go_at_call 22; first
            | ((with_reducible refine (rotl5 _ _).mono ?_); rintro e W3 ⟨rfl, rfl⟩)
            | ((with_reducible refine (rotl30 _ _).mono ?_); rintro e W3 ⟨rfl, rfl⟩)))
      have e : rd (sched bs) s (t + 1) = rd1 (sched bs) t p := by rw [HP.out]; rfl
      exact ⟨⟨t + 1, by omega, by go_num, by rw [e]; rfl, by rw [e]; rfl, by rw [e]; rfl, by rw [e]; rfl, by rw [e]; rfl⟩, by simp [intOf]; omega⟩
    · obtain rfl : t = 80 := by omega
      rw [show ((80 : Nat) : Int) = 80 from rfl]
      have c0 : W2.cell? ⟨w.heap.size, 0, none⟩ = some (U s.a) := Q0.word _ rfl 0 (by simp [S5.l])
      have c1 : W2.cell? ⟨w.heap.size, 1, none⟩ = some (U s.b) := Q0.word _ rfl 1 (by simp [S5.l])
      have c2 : W2.cell? ⟨w.heap.size, 2, none⟩ = some (U s.c) := Q0.word _ rfl 2 (by simp [S5.l])
      have c3 : W2.cell? ⟨w.heap.size, 3, none⟩ = some (U s.d) := Q0.word _ rfl 3 (by simp [S5.l])
      have c4 : W2.cell? ⟨w.heap.size, 4, none⟩ = some (U s.e) := Q0.word _ rfl 4 (by simp [S5.l])
      have HQ2 := Lib.hid Q2.row
      have HO1 : Hid ((#[U (s.a + p.a), U (s.b + p.b), U (s.c + p.c), U (s.d + p.d), U (s.e + p.e)] : Array Value).all (·.oneCell') = true) := ucells_one (s.add p).l
      have HO2 : Hid (Z5.size = (#[U (s.a + p.a), U (s.b + p.b), U (s.c + p.c), U (s.d + p.d), U (s.e + p.e)] : Array Value).size) := rfl
      have HO3 : Hid ((Tryd.prog.info? 35).map (·.size) = some (#[U (s.a + p.a), U (s.b + p.b), U (s.c + p.c), U (s.d + p.d), U (s.e + p.e)] : Array Value).size) := i35'
      go_wp2_with (first
        | (with_reducible refine wpList_store_row rfl 35 (.tmp 4) (.tmp 74) rfl (w.heap.size + 1 + 1) #[U (s.a + p.a), U (s.b + p.b), U (s.c + p.c), U (s.d + p.d), U (s.e + p.e)] rfl rfl 35 Z5 HQ2.out HO3.out HO2.out HO1.out ?_))
      have e : (#[U (s.a + p.a), U (s.b + p.b), U (s.c + p.c), U (s.d + p.d), U (s.e + p.e)] : Array Value) = ucells (blk s bs).l := by
        rw [blk, blkW, ← HP.out]; rfl
      have HO4 := HO3.out
      rw [e] at HO4 ⊢
      exact bodyPost_ret (v := .agg (ucells (blk s bs).l)) (results_cell_row rfl _ _ (w.heap.size + 1 + 1) 35 _ (0, 0) _ rfl (setRow_heap _ _ _ _ _ _ Q2) Tryd.underlying35 rfl HO4) rfl
        ⟨rfl, bW2.setRow (by omega) _⟩
end Go.Proofs.YtihgmgphfdjcfaaDoor
