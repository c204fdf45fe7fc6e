/- The document's ReadHead (stage 15) walked. (mkef.py writes it.) -/
import Derived.Test.YtlmolmmhkddpaaaEf
import Derived.BigQuiet
namespace Go.Proofs.Ytlmolmmhkddpaaa
open Go.RowKit
attribute [local go_sem] store_one B_match B_store S_match S_store nguard_BN eguard_BN

set_option maxRecDepth 100000 in
set_option maxHeartbeats 4000000 in
theorem rhead_2mn1 (a b : UInt8) (t : List UInt8) (_ht : t.length ≤ 1000000) (hw : wideN b.toNat = 2) (hm : 128 ≤ b.toNat) (hl : t.length < 2) (w : World) : Calls Try.prog 21 #[S (a :: b :: t)] w fun e w' => e = .returned (hrV (readHeadF (a :: b :: t))) ∧ Below w.heap.size w w' := by
  have hlS := run_len_S (P := Try.prog) Try.underlying9 3 (a :: b :: t)
  have hi0 : ∀ w', (Instr.index 9 (S (a :: b :: t)) (.int .i64 0)).run Try.prog w' = .ok (B a) w' := fun w' => index_S Try.underlying9 (a :: b :: t) 0 a rfl w'
  have hi1 : ∀ w', (Instr.index 9 (S (a :: b :: t)) (.int .i64 1)).run Try.prog w' = .ok (B b) w' := fun w' => index_S Try.underlying9 (a :: b :: t) 1 b rfl w'
  have hix : ∀ (j : Nat) (c : UInt8), t[j]? = some c → ∀ w', (Instr.index 9 (S (a :: b :: t)) (.int .i64 ((2 + j : Nat) : Int))).run Try.prog w' = .ok (B c) w' := fun j c hc w' => index_S Try.underlying9 (a :: b :: t) (2 + j) c (by rw [Nat.add_comm 2 j]; exact hc) w'
  have HIX := Lib.hid hix
  have hb := b.toNat_lt
  have ha := a.toNat_lt
  obtain ⟨N, hN⟩ : ∃ N, N = t.length := ⟨_, rfl⟩
  have hlS2 : ∀ w', (Builtin.len_ #[9] 3 #[S (a :: b :: t)]).run Try.prog w' = .ok (.int .i64 ((N + 2 : Nat) : Int)) w' := by rw [hN]; exact hlS
  obtain ⟨N2, hN2⟩ : ∃ x, x = N + 2 := ⟨_, rfl⟩
  rw [← hN2] at hlS2
  rw [← hN] at hl
  have cva : ∀ w', (convert 5 3 (B a)).run Try.prog w' = .ok (.int .i64 (a.toNat : Int)) w' := conv_byte Try.underlying5 Try.underlying3 a
  have cvb : ∀ w', (convert 5 3 (B b)).run Try.prog w' = .ok (.int .i64 (b.toNat : Int)) w' := conv_byte Try.underlying5 Try.underlying3 b
  obtain ⟨an, han⟩ : ∃ x, x = a.toNat := ⟨_, rfl⟩
  obtain ⟨bn, hbn⟩ : ∃ x, x = b.toNat := ⟨_, rfl⟩
  rw [← han] at cva ha
  rw [← hbn] at cvb hb hw hm
  obtain ⟨bm, hbm⟩ : ∃ x, x = bn % 128 := ⟨_, rfl⟩
  have r1 : (bn : Int).tmod 128 = (bm : Int) := by rw [Int.tmod_eq_emod_of_nonneg (by omega)]; omega
  have r2 : (bn : Int) % 128 = (bm : Int) := by omega
  have r3 : IntKind.i64.wrap (bm : Int) = (bm : Int) := by rw [IntKind.wrap_i64]; omega
  have cvm : ∀ w', (convert 3 56 (.int .i64 (bm : Int))).run Try.prog w' = .ok (.int .u64 (bm : Int)) w' := conv_iu Try.underlying56 Try.underlying3 bm (by omega)
  have hbw : bm = 126 := by
    unfold wideN at hw; rw [← hbm] at hw
    split at hw
    · assumption
    · split at hw <;> cases hw
  have q1 : ((bm : Int) == 126) = true := by rw [beq_iff_eq]; omega
  have q2 : ((bm : Int) == 127) = false := by rw [beq_eq_false_iff_ne]; omega
  have g0 : decide ((N2 : Int) < 2) = false := decide_eq_false (by omega)
  have g3 : decide ((N2 : Int) < 4) = true := decide_eq_true (by omega)
  have HV : Hid (readHeadF (a :: b :: t) = none) := Lib.hid (by
    rw [readHeadF, if_pos]
    unfold moreN
    rw [← hbn, hw, if_pos hm]
    omega)
  have HNN := Lib.hid (And.intro hN (And.intro hN2 (And.intro han (And.intro hbn hbm))))
  obtain ⟨s, hs⟩ : ∃ s, s = a :: b :: t := ⟨_, rfl⟩
  have HSS := Lib.hid hs
  rw [← hs] at hi0 hi1 hlS2 HIX HV ⊢
  have HW : Hid (wideN b.toNat = 2) := Lib.hid (by rw [← hbn]; exact hw)
  clear hN hN2 han hbn hbm hlS hix hs hw
  go_enter Try.func21, Try.ntmps21
  go_wp2
  go_quiet (fail)
  obtain ⟨Wd, hWd⟩ : ∃ W, W = ((w.alloc (.cells #[.bool false, .bool false, .bool false, .int .i64 0, .int .i64 0, .int .u8 0, .int .u8 0, .int .u8 0, .int .u8 0, .int .u64 0] 58)).alloc (.cells #[.bool false, .bool false, .bool false, .int .i64 0, .int .i64 0, .int .u8 0, .int .u8 0, .int .u8 0, .int .u8 0, .int .u64 0] 58)).drewN nq := ⟨_, rfl⟩
  have hz0 : Row Wd w.heap.size #[.bool false, .bool false, .bool false, .int .i64 0, .int .i64 0, .int .u8 0, .int .u8 0, .int .u8 0, .int .u8 0, .int .u64 0] 58 := by rw [hWd]; exact (row_new w _ _).alloc _
  have hz1 : Row Wd (w.heap.size + 1) #[.bool false, .bool false, .bool false, .int .i64 0, .int .i64 0, .int .u8 0, .int .u8 0, .int .u8 0, .int .u8 0, .int .u64 0] 58 := by
    have h := row_new (w.alloc (.cells #[.bool false, .bool false, .bool false, .int .i64 0, .int .i64 0, .int .u8 0, .int .u8 0, .int .u8 0, .int .u8 0, .int .u64 0] 58)) #[.bool false, .bool false, .bool false, .int .i64 0, .int .i64 0, .int .u8 0, .int .u8 0, .int .u8 0, .int .u8 0, .int .u64 0] 58
    rw [alloc_size] at h
    rw [hWd]; exact h
  have hbd : Below w.heap.size w Wd := by rw [hWd]; exact (((Below.refl _ _).alloc (Nat.le_refl _) _).alloc (by rw [alloc_size]; omega) _).trans (below_drewN _ nq |>.mono (by rw [alloc_size, alloc_size]; omega))
  rw [← hWd]
  have HD := Lib.hid (And.intro hz0 (And.intro hz1 hbd))
  clear hWd hz0 hz1 hbd
  have hrow := HD.out.2.1
  have hrz := HD.out.1
  have h0 : Wd.cell? ⟨w.heap.size + 1, 0, none⟩ = some (.bool false) := cell_of_row Wd _ 0 _ _ (0, 0) hrow
  have h1 : Wd.cell? ⟨w.heap.size + 1, 1, none⟩ = some (.bool false) := cell_of_row Wd _ 1 _ _ (0, 0) hrow
  have h2 : Wd.cell? ⟨w.heap.size + 1, 2, none⟩ = some (.bool false) := cell_of_row Wd _ 2 _ _ (0, 0) hrow
  have h3 : Wd.cell? ⟨w.heap.size + 1, 3, none⟩ = some (.int .i64 0) := cell_of_row Wd _ 3 _ _ (0, 0) hrow
  have h4 : Wd.cell? ⟨w.heap.size + 1, 4, none⟩ = some (.int .i64 0) := cell_of_row Wd _ 4 _ _ (0, 0) hrow
  have h5 : Wd.cell? ⟨w.heap.size + 1, 5, none⟩ = some (.int .u8 0) := cell_of_row Wd _ 5 _ _ (0, 0) hrow
  have h6 : Wd.cell? ⟨w.heap.size + 1, 6, none⟩ = some (.int .u8 0) := cell_of_row Wd _ 6 _ _ (0, 0) hrow
  have h7 : Wd.cell? ⟨w.heap.size + 1, 7, none⟩ = some (.int .u8 0) := cell_of_row Wd _ 7 _ _ (0, 0) hrow
  have h8 : Wd.cell? ⟨w.heap.size + 1, 8, none⟩ = some (.int .u8 0) := cell_of_row Wd _ 8 _ _ (0, 0) hrow
  have h9 : Wd.cell? ⟨w.heap.size + 1, 9, none⟩ = some (.int .u64 0) := cell_of_row Wd _ 9 _ _ (0, 0) hrow
  have z0 : Wd.cell? ⟨w.heap.size, 0, none⟩ = some (.bool false) := cell_of_row Wd _ 0 _ _ (0, 0) hrz
  have z1 : Wd.cell? ⟨w.heap.size, 1, none⟩ = some (.bool false) := cell_of_row Wd _ 1 _ _ (0, 0) hrz
  have z2 : Wd.cell? ⟨w.heap.size, 2, none⟩ = some (.bool false) := cell_of_row Wd _ 2 _ _ (0, 0) hrz
  have z3 : Wd.cell? ⟨w.heap.size, 3, none⟩ = some (.int .i64 0) := cell_of_row Wd _ 3 _ _ (0, 0) hrz
  have z4 : Wd.cell? ⟨w.heap.size, 4, none⟩ = some (.int .i64 0) := cell_of_row Wd _ 4 _ _ (0, 0) hrz
  have z5 : Wd.cell? ⟨w.heap.size, 5, none⟩ = some (.int .u8 0) := cell_of_row Wd _ 5 _ _ (0, 0) hrz
  have z6 : Wd.cell? ⟨w.heap.size, 6, none⟩ = some (.int .u8 0) := cell_of_row Wd _ 6 _ _ (0, 0) hrz
  have z7 : Wd.cell? ⟨w.heap.size, 7, none⟩ = some (.int .u8 0) := cell_of_row Wd _ 7 _ _ (0, 0) hrz
  have z8 : Wd.cell? ⟨w.heap.size, 8, none⟩ = some (.int .u8 0) := cell_of_row Wd _ 8 _ _ (0, 0) hrz
  have z9 : Wd.cell? ⟨w.heap.size, 9, none⟩ = some (.int .u64 0) := cell_of_row Wd _ 9 _ _ (0, 0) hrz
  have zf0 := hrz.frozen 0
  have zf1 := hrz.frozen 1
  have zf2 := hrz.frozen 2
  have zf3 := hrz.frozen 3
  have zf4 := hrz.frozen 4
  have zf5 := hrz.frozen 5
  have zf6 := hrz.frozen 6
  have zf7 := hrz.frozen 7
  have zf8 := hrz.frozen 8
  have zf9 := hrz.frozen 9
  have HRZ := Lib.hid hrz
  clear hrow hrz
  go_wp2
  refine bodyPost_ret (results_row3E rfl _ _ w.heap.size 58 #[.bool false, .bool false, .bool false, .int .i64 0, .int .i64 0, .int .u8 0, .int .u8 0, .int .u8 0, .int .u8 0, .int .u64 0] (0, 0) _ rfl (put10_row HRZ.out (.bool false) (.bool false) (.bool false) (.int .i64 0) (.int .i64 0) (.int .u8 0) (.int .u8 0) (.int .u8 0) (.int .u8 0) (.int .u64 0)) Try.underlying58 rfl infoHr) rfl ?_
  exact ⟨by rw [HV.out]; rfl, put10_below HD.out.2.2 (Nat.le_refl _) _ _ _ _ _ _ _ _ _ _⟩
set_option maxRecDepth 100000 in
set_option maxHeartbeats 4000000 in
theorem rhead_2un1 (a b : UInt8) (t : List UInt8) (_ht : t.length ≤ 1000000) (hw : wideN b.toNat = 2) (hm : ¬ 128 ≤ b.toNat) (hl : t.length < 2) (w : World) : Calls Try.prog 21 #[S (a :: b :: t)] w fun e w' => e = .returned (hrV (readHeadF (a :: b :: t))) ∧ Below w.heap.size w w' := by
  have hlS := run_len_S (P := Try.prog) Try.underlying9 3 (a :: b :: t)
  have hi0 : ∀ w', (Instr.index 9 (S (a :: b :: t)) (.int .i64 0)).run Try.prog w' = .ok (B a) w' := fun w' => index_S Try.underlying9 (a :: b :: t) 0 a rfl w'
  have hi1 : ∀ w', (Instr.index 9 (S (a :: b :: t)) (.int .i64 1)).run Try.prog w' = .ok (B b) w' := fun w' => index_S Try.underlying9 (a :: b :: t) 1 b rfl w'
  have hix : ∀ (j : Nat) (c : UInt8), t[j]? = some c → ∀ w', (Instr.index 9 (S (a :: b :: t)) (.int .i64 ((2 + j : Nat) : Int))).run Try.prog w' = .ok (B c) w' := fun j c hc w' => index_S Try.underlying9 (a :: b :: t) (2 + j) c (by rw [Nat.add_comm 2 j]; exact hc) w'
  have HIX := Lib.hid hix
  have hb := b.toNat_lt
  have ha := a.toNat_lt
  obtain ⟨N, hN⟩ : ∃ N, N = t.length := ⟨_, rfl⟩
  have hlS2 : ∀ w', (Builtin.len_ #[9] 3 #[S (a :: b :: t)]).run Try.prog w' = .ok (.int .i64 ((N + 2 : Nat) : Int)) w' := by rw [hN]; exact hlS
  obtain ⟨N2, hN2⟩ : ∃ x, x = N + 2 := ⟨_, rfl⟩
  rw [← hN2] at hlS2
  rw [← hN] at hl
  have cva : ∀ w', (convert 5 3 (B a)).run Try.prog w' = .ok (.int .i64 (a.toNat : Int)) w' := conv_byte Try.underlying5 Try.underlying3 a
  have cvb : ∀ w', (convert 5 3 (B b)).run Try.prog w' = .ok (.int .i64 (b.toNat : Int)) w' := conv_byte Try.underlying5 Try.underlying3 b
  obtain ⟨an, han⟩ : ∃ x, x = a.toNat := ⟨_, rfl⟩
  obtain ⟨bn, hbn⟩ : ∃ x, x = b.toNat := ⟨_, rfl⟩
  rw [← han] at cva ha
  rw [← hbn] at cvb hb hw hm
  obtain ⟨bm, hbm⟩ : ∃ x, x = bn % 128 := ⟨_, rfl⟩
  have r1 : (bn : Int).tmod 128 = (bm : Int) := by rw [Int.tmod_eq_emod_of_nonneg (by omega)]; omega
  have r2 : (bn : Int) % 128 = (bm : Int) := by omega
  have r3 : IntKind.i64.wrap (bm : Int) = (bm : Int) := by rw [IntKind.wrap_i64]; omega
  have cvm : ∀ w', (convert 3 56 (.int .i64 (bm : Int))).run Try.prog w' = .ok (.int .u64 (bm : Int)) w' := conv_iu Try.underlying56 Try.underlying3 bm (by omega)
  have hbw : bm = 126 := by
    unfold wideN at hw; rw [← hbm] at hw
    split at hw
    · assumption
    · split at hw <;> cases hw
  have q1 : ((bm : Int) == 126) = true := by rw [beq_iff_eq]; omega
  have q2 : ((bm : Int) == 127) = false := by rw [beq_eq_false_iff_ne]; omega
  have g0 : decide ((N2 : Int) < 2) = false := decide_eq_false (by omega)
  have g3 : decide ((N2 : Int) < 4) = true := decide_eq_true (by omega)
  have HV : Hid (readHeadF (a :: b :: t) = none) := Lib.hid (by
    rw [readHeadF, if_pos]
    unfold moreN
    rw [← hbn, hw, if_neg hm]
    omega)
  have HNN := Lib.hid (And.intro hN (And.intro hN2 (And.intro han (And.intro hbn hbm))))
  obtain ⟨s, hs⟩ : ∃ s, s = a :: b :: t := ⟨_, rfl⟩
  have HSS := Lib.hid hs
  rw [← hs] at hi0 hi1 hlS2 HIX HV ⊢
  have HW : Hid (wideN b.toNat = 2) := Lib.hid (by rw [← hbn]; exact hw)
  clear hN hN2 han hbn hbm hlS hix hs hw
  go_enter Try.func21, Try.ntmps21
  go_wp2
  go_quiet (fail)
  obtain ⟨Wd, hWd⟩ : ∃ W, W = ((w.alloc (.cells #[.bool false, .bool false, .bool false, .int .i64 0, .int .i64 0, .int .u8 0, .int .u8 0, .int .u8 0, .int .u8 0, .int .u64 0] 58)).alloc (.cells #[.bool false, .bool false, .bool false, .int .i64 0, .int .i64 0, .int .u8 0, .int .u8 0, .int .u8 0, .int .u8 0, .int .u64 0] 58)).drewN nq := ⟨_, rfl⟩
  have hz0 : Row Wd w.heap.size #[.bool false, .bool false, .bool false, .int .i64 0, .int .i64 0, .int .u8 0, .int .u8 0, .int .u8 0, .int .u8 0, .int .u64 0] 58 := by rw [hWd]; exact (row_new w _ _).alloc _
  have hz1 : Row Wd (w.heap.size + 1) #[.bool false, .bool false, .bool false, .int .i64 0, .int .i64 0, .int .u8 0, .int .u8 0, .int .u8 0, .int .u8 0, .int .u64 0] 58 := by
    have h := row_new (w.alloc (.cells #[.bool false, .bool false, .bool false, .int .i64 0, .int .i64 0, .int .u8 0, .int .u8 0, .int .u8 0, .int .u8 0, .int .u64 0] 58)) #[.bool false, .bool false, .bool false, .int .i64 0, .int .i64 0, .int .u8 0, .int .u8 0, .int .u8 0, .int .u8 0, .int .u64 0] 58
    rw [alloc_size] at h
    rw [hWd]; exact h
  have hbd : Below w.heap.size w Wd := by rw [hWd]; exact (((Below.refl _ _).alloc (Nat.le_refl _) _).alloc (by rw [alloc_size]; omega) _).trans (below_drewN _ nq |>.mono (by rw [alloc_size, alloc_size]; omega))
  rw [← hWd]
  have HD := Lib.hid (And.intro hz0 (And.intro hz1 hbd))
  clear hWd hz0 hz1 hbd
  have hrow := HD.out.2.1
  have hrz := HD.out.1
  have h0 : Wd.cell? ⟨w.heap.size + 1, 0, none⟩ = some (.bool false) := cell_of_row Wd _ 0 _ _ (0, 0) hrow
  have h1 : Wd.cell? ⟨w.heap.size + 1, 1, none⟩ = some (.bool false) := cell_of_row Wd _ 1 _ _ (0, 0) hrow
  have h2 : Wd.cell? ⟨w.heap.size + 1, 2, none⟩ = some (.bool false) := cell_of_row Wd _ 2 _ _ (0, 0) hrow
  have h3 : Wd.cell? ⟨w.heap.size + 1, 3, none⟩ = some (.int .i64 0) := cell_of_row Wd _ 3 _ _ (0, 0) hrow
  have h4 : Wd.cell? ⟨w.heap.size + 1, 4, none⟩ = some (.int .i64 0) := cell_of_row Wd _ 4 _ _ (0, 0) hrow
  have h5 : Wd.cell? ⟨w.heap.size + 1, 5, none⟩ = some (.int .u8 0) := cell_of_row Wd _ 5 _ _ (0, 0) hrow
  have h6 : Wd.cell? ⟨w.heap.size + 1, 6, none⟩ = some (.int .u8 0) := cell_of_row Wd _ 6 _ _ (0, 0) hrow
  have h7 : Wd.cell? ⟨w.heap.size + 1, 7, none⟩ = some (.int .u8 0) := cell_of_row Wd _ 7 _ _ (0, 0) hrow
  have h8 : Wd.cell? ⟨w.heap.size + 1, 8, none⟩ = some (.int .u8 0) := cell_of_row Wd _ 8 _ _ (0, 0) hrow
  have h9 : Wd.cell? ⟨w.heap.size + 1, 9, none⟩ = some (.int .u64 0) := cell_of_row Wd _ 9 _ _ (0, 0) hrow
  have z0 : Wd.cell? ⟨w.heap.size, 0, none⟩ = some (.bool false) := cell_of_row Wd _ 0 _ _ (0, 0) hrz
  have z1 : Wd.cell? ⟨w.heap.size, 1, none⟩ = some (.bool false) := cell_of_row Wd _ 1 _ _ (0, 0) hrz
  have z2 : Wd.cell? ⟨w.heap.size, 2, none⟩ = some (.bool false) := cell_of_row Wd _ 2 _ _ (0, 0) hrz
  have z3 : Wd.cell? ⟨w.heap.size, 3, none⟩ = some (.int .i64 0) := cell_of_row Wd _ 3 _ _ (0, 0) hrz
  have z4 : Wd.cell? ⟨w.heap.size, 4, none⟩ = some (.int .i64 0) := cell_of_row Wd _ 4 _ _ (0, 0) hrz
  have z5 : Wd.cell? ⟨w.heap.size, 5, none⟩ = some (.int .u8 0) := cell_of_row Wd _ 5 _ _ (0, 0) hrz
  have z6 : Wd.cell? ⟨w.heap.size, 6, none⟩ = some (.int .u8 0) := cell_of_row Wd _ 6 _ _ (0, 0) hrz
  have z7 : Wd.cell? ⟨w.heap.size, 7, none⟩ = some (.int .u8 0) := cell_of_row Wd _ 7 _ _ (0, 0) hrz
  have z8 : Wd.cell? ⟨w.heap.size, 8, none⟩ = some (.int .u8 0) := cell_of_row Wd _ 8 _ _ (0, 0) hrz
  have z9 : Wd.cell? ⟨w.heap.size, 9, none⟩ = some (.int .u64 0) := cell_of_row Wd _ 9 _ _ (0, 0) hrz
  have zf0 := hrz.frozen 0
  have zf1 := hrz.frozen 1
  have zf2 := hrz.frozen 2
  have zf3 := hrz.frozen 3
  have zf4 := hrz.frozen 4
  have zf5 := hrz.frozen 5
  have zf6 := hrz.frozen 6
  have zf7 := hrz.frozen 7
  have zf8 := hrz.frozen 8
  have zf9 := hrz.frozen 9
  have HRZ := Lib.hid hrz
  clear hrow hrz
  go_wp2
  refine bodyPost_ret (results_row3E rfl _ _ w.heap.size 58 #[.bool false, .bool false, .bool false, .int .i64 0, .int .i64 0, .int .u8 0, .int .u8 0, .int .u8 0, .int .u8 0, .int .u64 0] (0, 0) _ rfl (put10_row HRZ.out (.bool false) (.bool false) (.bool false) (.int .i64 0) (.int .i64 0) (.int .u8 0) (.int .u8 0) (.int .u8 0) (.int .u8 0) (.int .u64 0)) Try.underlying58 rfl infoHr) rfl ?_
  exact ⟨by rw [HV.out]; rfl, put10_below HD.out.2.2 (Nat.le_refl _) _ _ _ _ _ _ _ _ _ _⟩
set_option maxRecDepth 100000 in
set_option maxHeartbeats 4000000 in
theorem rhead_8mn1 (a b : UInt8) (t : List UInt8) (_ht : t.length ≤ 1000000) (hw : wideN b.toNat = 8) (hm : 128 ≤ b.toNat) (hl : t.length < 8) (w : World) : Calls Try.prog 21 #[S (a :: b :: t)] w fun e w' => e = .returned (hrV (readHeadF (a :: b :: t))) ∧ Below w.heap.size w w' := by
  have hlS := run_len_S (P := Try.prog) Try.underlying9 3 (a :: b :: t)
  have hi0 : ∀ w', (Instr.index 9 (S (a :: b :: t)) (.int .i64 0)).run Try.prog w' = .ok (B a) w' := fun w' => index_S Try.underlying9 (a :: b :: t) 0 a rfl w'
  have hi1 : ∀ w', (Instr.index 9 (S (a :: b :: t)) (.int .i64 1)).run Try.prog w' = .ok (B b) w' := fun w' => index_S Try.underlying9 (a :: b :: t) 1 b rfl w'
  have hix : ∀ (j : Nat) (c : UInt8), t[j]? = some c → ∀ w', (Instr.index 9 (S (a :: b :: t)) (.int .i64 ((2 + j : Nat) : Int))).run Try.prog w' = .ok (B c) w' := fun j c hc w' => index_S Try.underlying9 (a :: b :: t) (2 + j) c (by rw [Nat.add_comm 2 j]; exact hc) w'
  have HIX := Lib.hid hix
  have hb := b.toNat_lt
  have ha := a.toNat_lt
  obtain ⟨N, hN⟩ : ∃ N, N = t.length := ⟨_, rfl⟩
  have hlS2 : ∀ w', (Builtin.len_ #[9] 3 #[S (a :: b :: t)]).run Try.prog w' = .ok (.int .i64 ((N + 2 : Nat) : Int)) w' := by rw [hN]; exact hlS
  obtain ⟨N2, hN2⟩ : ∃ x, x = N + 2 := ⟨_, rfl⟩
  rw [← hN2] at hlS2
  rw [← hN] at hl
  have cva : ∀ w', (convert 5 3 (B a)).run Try.prog w' = .ok (.int .i64 (a.toNat : Int)) w' := conv_byte Try.underlying5 Try.underlying3 a
  have cvb : ∀ w', (convert 5 3 (B b)).run Try.prog w' = .ok (.int .i64 (b.toNat : Int)) w' := conv_byte Try.underlying5 Try.underlying3 b
  obtain ⟨an, han⟩ : ∃ x, x = a.toNat := ⟨_, rfl⟩
  obtain ⟨bn, hbn⟩ : ∃ x, x = b.toNat := ⟨_, rfl⟩
  rw [← han] at cva ha
  rw [← hbn] at cvb hb hw hm
  obtain ⟨bm, hbm⟩ : ∃ x, x = bn % 128 := ⟨_, rfl⟩
  have r1 : (bn : Int).tmod 128 = (bm : Int) := by rw [Int.tmod_eq_emod_of_nonneg (by omega)]; omega
  have r2 : (bn : Int) % 128 = (bm : Int) := by omega
  have r3 : IntKind.i64.wrap (bm : Int) = (bm : Int) := by rw [IntKind.wrap_i64]; omega
  have cvm : ∀ w', (convert 3 56 (.int .i64 (bm : Int))).run Try.prog w' = .ok (.int .u64 (bm : Int)) w' := conv_iu Try.underlying56 Try.underlying3 bm (by omega)
  have hbw : bm = 127 := by
    unfold wideN at hw; rw [← hbm] at hw
    split at hw
    · cases hw
    · split at hw
      · assumption
      · cases hw
  have q1 : ((bm : Int) == 126) = false := by rw [beq_eq_false_iff_ne]; omega
  have q2 : ((bm : Int) == 127) = true := by rw [beq_iff_eq]; omega
  have g0 : decide ((N2 : Int) < 2) = false := decide_eq_false (by omega)
  have g3 : decide ((N2 : Int) < 10) = true := decide_eq_true (by omega)
  have HV : Hid (readHeadF (a :: b :: t) = none) := Lib.hid (by
    rw [readHeadF, if_pos]
    unfold moreN
    rw [← hbn, hw, if_pos hm]
    omega)
  have HNN := Lib.hid (And.intro hN (And.intro hN2 (And.intro han (And.intro hbn hbm))))
  obtain ⟨s, hs⟩ : ∃ s, s = a :: b :: t := ⟨_, rfl⟩
  have HSS := Lib.hid hs
  rw [← hs] at hi0 hi1 hlS2 HIX HV ⊢
  have HW : Hid (wideN b.toNat = 8) := Lib.hid (by rw [← hbn]; exact hw)
  clear hN hN2 han hbn hbm hlS hix hs hw
  go_enter Try.func21, Try.ntmps21
  go_wp2
  go_quiet (fail)
  obtain ⟨Wd, hWd⟩ : ∃ W, W = ((w.alloc (.cells #[.bool false, .bool false, .bool false, .int .i64 0, .int .i64 0, .int .u8 0, .int .u8 0, .int .u8 0, .int .u8 0, .int .u64 0] 58)).alloc (.cells #[.bool false, .bool false, .bool false, .int .i64 0, .int .i64 0, .int .u8 0, .int .u8 0, .int .u8 0, .int .u8 0, .int .u64 0] 58)).drewN nq := ⟨_, rfl⟩
  have hz0 : Row Wd w.heap.size #[.bool false, .bool false, .bool false, .int .i64 0, .int .i64 0, .int .u8 0, .int .u8 0, .int .u8 0, .int .u8 0, .int .u64 0] 58 := by rw [hWd]; exact (row_new w _ _).alloc _
  have hz1 : Row Wd (w.heap.size + 1) #[.bool false, .bool false, .bool false, .int .i64 0, .int .i64 0, .int .u8 0, .int .u8 0, .int .u8 0, .int .u8 0, .int .u64 0] 58 := by
    have h := row_new (w.alloc (.cells #[.bool false, .bool false, .bool false, .int .i64 0, .int .i64 0, .int .u8 0, .int .u8 0, .int .u8 0, .int .u8 0, .int .u64 0] 58)) #[.bool false, .bool false, .bool false, .int .i64 0, .int .i64 0, .int .u8 0, .int .u8 0, .int .u8 0, .int .u8 0, .int .u64 0] 58
    rw [alloc_size] at h
    rw [hWd]; exact h
  have hbd : Below w.heap.size w Wd := by rw [hWd]; exact (((Below.refl _ _).alloc (Nat.le_refl _) _).alloc (by rw [alloc_size]; omega) _).trans (below_drewN _ nq |>.mono (by rw [alloc_size, alloc_size]; omega))
  rw [← hWd]
  have HD := Lib.hid (And.intro hz0 (And.intro hz1 hbd))
  clear hWd hz0 hz1 hbd
  have hrow := HD.out.2.1
  have hrz := HD.out.1
  have h0 : Wd.cell? ⟨w.heap.size + 1, 0, none⟩ = some (.bool false) := cell_of_row Wd _ 0 _ _ (0, 0) hrow
  have h1 : Wd.cell? ⟨w.heap.size + 1, 1, none⟩ = some (.bool false) := cell_of_row Wd _ 1 _ _ (0, 0) hrow
  have h2 : Wd.cell? ⟨w.heap.size + 1, 2, none⟩ = some (.bool false) := cell_of_row Wd _ 2 _ _ (0, 0) hrow
  have h3 : Wd.cell? ⟨w.heap.size + 1, 3, none⟩ = some (.int .i64 0) := cell_of_row Wd _ 3 _ _ (0, 0) hrow
  have h4 : Wd.cell? ⟨w.heap.size + 1, 4, none⟩ = some (.int .i64 0) := cell_of_row Wd _ 4 _ _ (0, 0) hrow
  have h5 : Wd.cell? ⟨w.heap.size + 1, 5, none⟩ = some (.int .u8 0) := cell_of_row Wd _ 5 _ _ (0, 0) hrow
  have h6 : Wd.cell? ⟨w.heap.size + 1, 6, none⟩ = some (.int .u8 0) := cell_of_row Wd _ 6 _ _ (0, 0) hrow
  have h7 : Wd.cell? ⟨w.heap.size + 1, 7, none⟩ = some (.int .u8 0) := cell_of_row Wd _ 7 _ _ (0, 0) hrow
  have h8 : Wd.cell? ⟨w.heap.size + 1, 8, none⟩ = some (.int .u8 0) := cell_of_row Wd _ 8 _ _ (0, 0) hrow
  have h9 : Wd.cell? ⟨w.heap.size + 1, 9, none⟩ = some (.int .u64 0) := cell_of_row Wd _ 9 _ _ (0, 0) hrow
  have z0 : Wd.cell? ⟨w.heap.size, 0, none⟩ = some (.bool false) := cell_of_row Wd _ 0 _ _ (0, 0) hrz
  have z1 : Wd.cell? ⟨w.heap.size, 1, none⟩ = some (.bool false) := cell_of_row Wd _ 1 _ _ (0, 0) hrz
  have z2 : Wd.cell? ⟨w.heap.size, 2, none⟩ = some (.bool false) := cell_of_row Wd _ 2 _ _ (0, 0) hrz
  have z3 : Wd.cell? ⟨w.heap.size, 3, none⟩ = some (.int .i64 0) := cell_of_row Wd _ 3 _ _ (0, 0) hrz
  have z4 : Wd.cell? ⟨w.heap.size, 4, none⟩ = some (.int .i64 0) := cell_of_row Wd _ 4 _ _ (0, 0) hrz
  have z5 : Wd.cell? ⟨w.heap.size, 5, none⟩ = some (.int .u8 0) := cell_of_row Wd _ 5 _ _ (0, 0) hrz
  have z6 : Wd.cell? ⟨w.heap.size, 6, none⟩ = some (.int .u8 0) := cell_of_row Wd _ 6 _ _ (0, 0) hrz
  have z7 : Wd.cell? ⟨w.heap.size, 7, none⟩ = some (.int .u8 0) := cell_of_row Wd _ 7 _ _ (0, 0) hrz
  have z8 : Wd.cell? ⟨w.heap.size, 8, none⟩ = some (.int .u8 0) := cell_of_row Wd _ 8 _ _ (0, 0) hrz
  have z9 : Wd.cell? ⟨w.heap.size, 9, none⟩ = some (.int .u64 0) := cell_of_row Wd _ 9 _ _ (0, 0) hrz
  have zf0 := hrz.frozen 0
  have zf1 := hrz.frozen 1
  have zf2 := hrz.frozen 2
  have zf3 := hrz.frozen 3
  have zf4 := hrz.frozen 4
  have zf5 := hrz.frozen 5
  have zf6 := hrz.frozen 6
  have zf7 := hrz.frozen 7
  have zf8 := hrz.frozen 8
  have zf9 := hrz.frozen 9
  have HRZ := Lib.hid hrz
  clear hrow hrz
  go_wp2
  refine bodyPost_ret (results_row3E rfl _ _ w.heap.size 58 #[.bool false, .bool false, .bool false, .int .i64 0, .int .i64 0, .int .u8 0, .int .u8 0, .int .u8 0, .int .u8 0, .int .u64 0] (0, 0) _ rfl (put10_row HRZ.out (.bool false) (.bool false) (.bool false) (.int .i64 0) (.int .i64 0) (.int .u8 0) (.int .u8 0) (.int .u8 0) (.int .u8 0) (.int .u64 0)) Try.underlying58 rfl infoHr) rfl ?_
  exact ⟨by rw [HV.out]; rfl, put10_below HD.out.2.2 (Nat.le_refl _) _ _ _ _ _ _ _ _ _ _⟩
set_option maxRecDepth 100000 in
set_option maxHeartbeats 4000000 in
theorem rhead_8un1 (a b : UInt8) (t : List UInt8) (_ht : t.length ≤ 1000000) (hw : wideN b.toNat = 8) (hm : ¬ 128 ≤ b.toNat) (hl : t.length < 8) (w : World) : Calls Try.prog 21 #[S (a :: b :: t)] w fun e w' => e = .returned (hrV (readHeadF (a :: b :: t))) ∧ Below w.heap.size w w' := by
  have hlS := run_len_S (P := Try.prog) Try.underlying9 3 (a :: b :: t)
  have hi0 : ∀ w', (Instr.index 9 (S (a :: b :: t)) (.int .i64 0)).run Try.prog w' = .ok (B a) w' := fun w' => index_S Try.underlying9 (a :: b :: t) 0 a rfl w'
  have hi1 : ∀ w', (Instr.index 9 (S (a :: b :: t)) (.int .i64 1)).run Try.prog w' = .ok (B b) w' := fun w' => index_S Try.underlying9 (a :: b :: t) 1 b rfl w'
  have hix : ∀ (j : Nat) (c : UInt8), t[j]? = some c → ∀ w', (Instr.index 9 (S (a :: b :: t)) (.int .i64 ((2 + j : Nat) : Int))).run Try.prog w' = .ok (B c) w' := fun j c hc w' => index_S Try.underlying9 (a :: b :: t) (2 + j) c (by rw [Nat.add_comm 2 j]; exact hc) w'
  have HIX := Lib.hid hix
  have hb := b.toNat_lt
  have ha := a.toNat_lt
  obtain ⟨N, hN⟩ : ∃ N, N = t.length := ⟨_, rfl⟩
  have hlS2 : ∀ w', (Builtin.len_ #[9] 3 #[S (a :: b :: t)]).run Try.prog w' = .ok (.int .i64 ((N + 2 : Nat) : Int)) w' := by rw [hN]; exact hlS
  obtain ⟨N2, hN2⟩ : ∃ x, x = N + 2 := ⟨_, rfl⟩
  rw [← hN2] at hlS2
  rw [← hN] at hl
  have cva : ∀ w', (convert 5 3 (B a)).run Try.prog w' = .ok (.int .i64 (a.toNat : Int)) w' := conv_byte Try.underlying5 Try.underlying3 a
  have cvb : ∀ w', (convert 5 3 (B b)).run Try.prog w' = .ok (.int .i64 (b.toNat : Int)) w' := conv_byte Try.underlying5 Try.underlying3 b
  obtain ⟨an, han⟩ : ∃ x, x = a.toNat := ⟨_, rfl⟩
  obtain ⟨bn, hbn⟩ : ∃ x, x = b.toNat := ⟨_, rfl⟩
  rw [← han] at cva ha
  rw [← hbn] at cvb hb hw hm
  obtain ⟨bm, hbm⟩ : ∃ x, x = bn % 128 := ⟨_, rfl⟩
  have r1 : (bn : Int).tmod 128 = (bm : Int) := by rw [Int.tmod_eq_emod_of_nonneg (by omega)]; omega
  have r2 : (bn : Int) % 128 = (bm : Int) := by omega
  have r3 : IntKind.i64.wrap (bm : Int) = (bm : Int) := by rw [IntKind.wrap_i64]; omega
  have cvm : ∀ w', (convert 3 56 (.int .i64 (bm : Int))).run Try.prog w' = .ok (.int .u64 (bm : Int)) w' := conv_iu Try.underlying56 Try.underlying3 bm (by omega)
  have hbw : bm = 127 := by
    unfold wideN at hw; rw [← hbm] at hw
    split at hw
    · cases hw
    · split at hw
      · assumption
      · cases hw
  have q1 : ((bm : Int) == 126) = false := by rw [beq_eq_false_iff_ne]; omega
  have q2 : ((bm : Int) == 127) = true := by rw [beq_iff_eq]; omega
  have g0 : decide ((N2 : Int) < 2) = false := decide_eq_false (by omega)
  have g3 : decide ((N2 : Int) < 10) = true := decide_eq_true (by omega)
  have HV : Hid (readHeadF (a :: b :: t) = none) := Lib.hid (by
    rw [readHeadF, if_pos]
    unfold moreN
    rw [← hbn, hw, if_neg hm]
    omega)
  have HNN := Lib.hid (And.intro hN (And.intro hN2 (And.intro han (And.intro hbn hbm))))
  obtain ⟨s, hs⟩ : ∃ s, s = a :: b :: t := ⟨_, rfl⟩
  have HSS := Lib.hid hs
  rw [← hs] at hi0 hi1 hlS2 HIX HV ⊢
  have HW : Hid (wideN b.toNat = 8) := Lib.hid (by rw [← hbn]; exact hw)
  clear hN hN2 han hbn hbm hlS hix hs hw
  go_enter Try.func21, Try.ntmps21
  go_wp2
  go_quiet (fail)
  obtain ⟨Wd, hWd⟩ : ∃ W, W = ((w.alloc (.cells #[.bool false, .bool false, .bool false, .int .i64 0, .int .i64 0, .int .u8 0, .int .u8 0, .int .u8 0, .int .u8 0, .int .u64 0] 58)).alloc (.cells #[.bool false, .bool false, .bool false, .int .i64 0, .int .i64 0, .int .u8 0, .int .u8 0, .int .u8 0, .int .u8 0, .int .u64 0] 58)).drewN nq := ⟨_, rfl⟩
  have hz0 : Row Wd w.heap.size #[.bool false, .bool false, .bool false, .int .i64 0, .int .i64 0, .int .u8 0, .int .u8 0, .int .u8 0, .int .u8 0, .int .u64 0] 58 := by rw [hWd]; exact (row_new w _ _).alloc _
  have hz1 : Row Wd (w.heap.size + 1) #[.bool false, .bool false, .bool false, .int .i64 0, .int .i64 0, .int .u8 0, .int .u8 0, .int .u8 0, .int .u8 0, .int .u64 0] 58 := by
    have h := row_new (w.alloc (.cells #[.bool false, .bool false, .bool false, .int .i64 0, .int .i64 0, .int .u8 0, .int .u8 0, .int .u8 0, .int .u8 0, .int .u64 0] 58)) #[.bool false, .bool false, .bool false, .int .i64 0, .int .i64 0, .int .u8 0, .int .u8 0, .int .u8 0, .int .u8 0, .int .u64 0] 58
    rw [alloc_size] at h
    rw [hWd]; exact h
  have hbd : Below w.heap.size w Wd := by rw [hWd]; exact (((Below.refl _ _).alloc (Nat.le_refl _) _).alloc (by rw [alloc_size]; omega) _).trans (below_drewN _ nq |>.mono (by rw [alloc_size, alloc_size]; omega))
  rw [← hWd]
  have HD := Lib.hid (And.intro hz0 (And.intro hz1 hbd))
  clear hWd hz0 hz1 hbd
  have hrow := HD.out.2.1
  have hrz := HD.out.1
  have h0 : Wd.cell? ⟨w.heap.size + 1, 0, none⟩ = some (.bool false) := cell_of_row Wd _ 0 _ _ (0, 0) hrow
  have h1 : Wd.cell? ⟨w.heap.size + 1, 1, none⟩ = some (.bool false) := cell_of_row Wd _ 1 _ _ (0, 0) hrow
  have h2 : Wd.cell? ⟨w.heap.size + 1, 2, none⟩ = some (.bool false) := cell_of_row Wd _ 2 _ _ (0, 0) hrow
  have h3 : Wd.cell? ⟨w.heap.size + 1, 3, none⟩ = some (.int .i64 0) := cell_of_row Wd _ 3 _ _ (0, 0) hrow
  have h4 : Wd.cell? ⟨w.heap.size + 1, 4, none⟩ = some (.int .i64 0) := cell_of_row Wd _ 4 _ _ (0, 0) hrow
  have h5 : Wd.cell? ⟨w.heap.size + 1, 5, none⟩ = some (.int .u8 0) := cell_of_row Wd _ 5 _ _ (0, 0) hrow
  have h6 : Wd.cell? ⟨w.heap.size + 1, 6, none⟩ = some (.int .u8 0) := cell_of_row Wd _ 6 _ _ (0, 0) hrow
  have h7 : Wd.cell? ⟨w.heap.size + 1, 7, none⟩ = some (.int .u8 0) := cell_of_row Wd _ 7 _ _ (0, 0) hrow
  have h8 : Wd.cell? ⟨w.heap.size + 1, 8, none⟩ = some (.int .u8 0) := cell_of_row Wd _ 8 _ _ (0, 0) hrow
  have h9 : Wd.cell? ⟨w.heap.size + 1, 9, none⟩ = some (.int .u64 0) := cell_of_row Wd _ 9 _ _ (0, 0) hrow
  have z0 : Wd.cell? ⟨w.heap.size, 0, none⟩ = some (.bool false) := cell_of_row Wd _ 0 _ _ (0, 0) hrz
  have z1 : Wd.cell? ⟨w.heap.size, 1, none⟩ = some (.bool false) := cell_of_row Wd _ 1 _ _ (0, 0) hrz
  have z2 : Wd.cell? ⟨w.heap.size, 2, none⟩ = some (.bool false) := cell_of_row Wd _ 2 _ _ (0, 0) hrz
  have z3 : Wd.cell? ⟨w.heap.size, 3, none⟩ = some (.int .i64 0) := cell_of_row Wd _ 3 _ _ (0, 0) hrz
  have z4 : Wd.cell? ⟨w.heap.size, 4, none⟩ = some (.int .i64 0) := cell_of_row Wd _ 4 _ _ (0, 0) hrz
  have z5 : Wd.cell? ⟨w.heap.size, 5, none⟩ = some (.int .u8 0) := cell_of_row Wd _ 5 _ _ (0, 0) hrz
  have z6 : Wd.cell? ⟨w.heap.size, 6, none⟩ = some (.int .u8 0) := cell_of_row Wd _ 6 _ _ (0, 0) hrz
  have z7 : Wd.cell? ⟨w.heap.size, 7, none⟩ = some (.int .u8 0) := cell_of_row Wd _ 7 _ _ (0, 0) hrz
  have z8 : Wd.cell? ⟨w.heap.size, 8, none⟩ = some (.int .u8 0) := cell_of_row Wd _ 8 _ _ (0, 0) hrz
  have z9 : Wd.cell? ⟨w.heap.size, 9, none⟩ = some (.int .u64 0) := cell_of_row Wd _ 9 _ _ (0, 0) hrz
  have zf0 := hrz.frozen 0
  have zf1 := hrz.frozen 1
  have zf2 := hrz.frozen 2
  have zf3 := hrz.frozen 3
  have zf4 := hrz.frozen 4
  have zf5 := hrz.frozen 5
  have zf6 := hrz.frozen 6
  have zf7 := hrz.frozen 7
  have zf8 := hrz.frozen 8
  have zf9 := hrz.frozen 9
  have HRZ := Lib.hid hrz
  clear hrow hrz
  go_wp2
  refine bodyPost_ret (results_row3E rfl _ _ w.heap.size 58 #[.bool false, .bool false, .bool false, .int .i64 0, .int .i64 0, .int .u8 0, .int .u8 0, .int .u8 0, .int .u8 0, .int .u64 0] (0, 0) _ rfl (put10_row HRZ.out (.bool false) (.bool false) (.bool false) (.int .i64 0) (.int .i64 0) (.int .u8 0) (.int .u8 0) (.int .u8 0) (.int .u8 0) (.int .u64 0)) Try.underlying58 rfl infoHr) rfl ?_
  exact ⟨by rw [HV.out]; rfl, put10_below HD.out.2.2 (Nat.le_refl _) _ _ _ _ _ _ _ _ _ _⟩
set_option maxRecDepth 100000 in
set_option maxHeartbeats 4000000 in
theorem rhead_0mn2 (a b : UInt8) (t : List UInt8) (_ht : t.length ≤ 1000000) (hw : wideN b.toNat = 0) (hm : 128 ≤ b.toNat) (_hl : 0 ≤ t.length) (hl2 : t.length < 4) (w : World) : Calls Try.prog 21 #[S (a :: b :: t)] w fun e w' => e = .returned (hrV (readHeadF (a :: b :: t))) ∧ Below w.heap.size w w' := by
  have hlS := run_len_S (P := Try.prog) Try.underlying9 3 (a :: b :: t)
  have hi0 : ∀ w', (Instr.index 9 (S (a :: b :: t)) (.int .i64 0)).run Try.prog w' = .ok (B a) w' := fun w' => index_S Try.underlying9 (a :: b :: t) 0 a rfl w'
  have hi1 : ∀ w', (Instr.index 9 (S (a :: b :: t)) (.int .i64 1)).run Try.prog w' = .ok (B b) w' := fun w' => index_S Try.underlying9 (a :: b :: t) 1 b rfl w'
  have hix : ∀ (j : Nat) (c : UInt8), t[j]? = some c → ∀ w', (Instr.index 9 (S (a :: b :: t)) (.int .i64 ((2 + j : Nat) : Int))).run Try.prog w' = .ok (B c) w' := fun j c hc w' => index_S Try.underlying9 (a :: b :: t) (2 + j) c (by rw [Nat.add_comm 2 j]; exact hc) w'
  have HIX := Lib.hid hix
  have hb := b.toNat_lt
  have ha := a.toNat_lt
  obtain ⟨N, hN⟩ : ∃ N, N = t.length := ⟨_, rfl⟩
  have hlS2 : ∀ w', (Builtin.len_ #[9] 3 #[S (a :: b :: t)]).run Try.prog w' = .ok (.int .i64 ((N + 2 : Nat) : Int)) w' := by rw [hN]; exact hlS
  obtain ⟨N2, hN2⟩ : ∃ x, x = N + 2 := ⟨_, rfl⟩
  rw [← hN2] at hlS2
  rw [← hN] at hl2
  have cva : ∀ w', (convert 5 3 (B a)).run Try.prog w' = .ok (.int .i64 (a.toNat : Int)) w' := conv_byte Try.underlying5 Try.underlying3 a
  have cvb : ∀ w', (convert 5 3 (B b)).run Try.prog w' = .ok (.int .i64 (b.toNat : Int)) w' := conv_byte Try.underlying5 Try.underlying3 b
  obtain ⟨an, han⟩ : ∃ x, x = a.toNat := ⟨_, rfl⟩
  obtain ⟨bn, hbn⟩ : ∃ x, x = b.toNat := ⟨_, rfl⟩
  rw [← han] at cva ha
  rw [← hbn] at cvb hb hw hm
  obtain ⟨bm, hbm⟩ : ∃ x, x = bn % 128 := ⟨_, rfl⟩
  have r1 : (bn : Int).tmod 128 = (bm : Int) := by rw [Int.tmod_eq_emod_of_nonneg (by omega)]; omega
  have r2 : (bn : Int) % 128 = (bm : Int) := by omega
  have r3 : IntKind.i64.wrap (bm : Int) = (bm : Int) := by rw [IntKind.wrap_i64]; omega
  have cvm : ∀ w', (convert 3 56 (.int .i64 (bm : Int))).run Try.prog w' = .ok (.int .u64 (bm : Int)) w' := conv_iu Try.underlying56 Try.underlying3 bm (by omega)
  have hbw : bm ≠ 126 ∧ bm ≠ 127 := by unfold wideN at hw; rw [← hbm] at hw; exact ⟨fun e => (by rw [if_pos e] at hw; cases hw), fun e => (by rw [if_neg (by omega), if_pos e] at hw; cases hw)⟩
  have q1 : ((bm : Int) == 126) = false := by rw [beq_eq_false_iff_ne]; omega
  have q2 : ((bm : Int) == 127) = false := by rw [beq_eq_false_iff_ne]; omega
  have g0 : decide ((N2 : Int) < 2) = false := decide_eq_false (by omega)
  have g3 : decide ((N2 : Int) < 2) = false := decide_eq_false (by omega)
  have g4 : decide ((128 : Int) ≤ (bn : Int)) = true := decide_eq_true (by omega)
  have g5 : decide ((N2 : Int) < 6) = true := decide_eq_true (by omega)
  have HV : Hid (readHeadF (a :: b :: t) = none) := Lib.hid (by
    rw [readHeadF, if_pos]
    unfold moreN
    rw [← hbn, hw, if_pos hm]
    omega)
  have HNN := Lib.hid (And.intro hN (And.intro hN2 (And.intro han (And.intro hbn hbm))))
  obtain ⟨s, hs⟩ : ∃ s, s = a :: b :: t := ⟨_, rfl⟩
  have HSS := Lib.hid hs
  rw [← hs] at hi0 hi1 hlS2 HIX HV ⊢
  have HW : Hid (wideN b.toNat = 0) := Lib.hid (by rw [← hbn]; exact hw)
  clear hN hN2 han hbn hbm hlS hix hs hw
  go_enter Try.func21, Try.ntmps21
  go_wp2
  go_quiet (fail)
  obtain ⟨Wd, hWd⟩ : ∃ W, W = ((w.alloc (.cells #[.bool false, .bool false, .bool false, .int .i64 0, .int .i64 0, .int .u8 0, .int .u8 0, .int .u8 0, .int .u8 0, .int .u64 0] 58)).alloc (.cells #[.bool false, .bool false, .bool false, .int .i64 0, .int .i64 0, .int .u8 0, .int .u8 0, .int .u8 0, .int .u8 0, .int .u64 0] 58)).drewN nq := ⟨_, rfl⟩
  have hz0 : Row Wd w.heap.size #[.bool false, .bool false, .bool false, .int .i64 0, .int .i64 0, .int .u8 0, .int .u8 0, .int .u8 0, .int .u8 0, .int .u64 0] 58 := by rw [hWd]; exact (row_new w _ _).alloc _
  have hz1 : Row Wd (w.heap.size + 1) #[.bool false, .bool false, .bool false, .int .i64 0, .int .i64 0, .int .u8 0, .int .u8 0, .int .u8 0, .int .u8 0, .int .u64 0] 58 := by
    have h := row_new (w.alloc (.cells #[.bool false, .bool false, .bool false, .int .i64 0, .int .i64 0, .int .u8 0, .int .u8 0, .int .u8 0, .int .u8 0, .int .u64 0] 58)) #[.bool false, .bool false, .bool false, .int .i64 0, .int .i64 0, .int .u8 0, .int .u8 0, .int .u8 0, .int .u8 0, .int .u64 0] 58
    rw [alloc_size] at h
    rw [hWd]; exact h
  have hbd : Below w.heap.size w Wd := by rw [hWd]; exact (((Below.refl _ _).alloc (Nat.le_refl _) _).alloc (by rw [alloc_size]; omega) _).trans (below_drewN _ nq |>.mono (by rw [alloc_size, alloc_size]; omega))
  rw [← hWd]
  have HD := Lib.hid (And.intro hz0 (And.intro hz1 hbd))
  clear hWd hz0 hz1 hbd
  go_wp2
  go_loopw [8, 9, 11] (fun nv xv iv wr => nv = .int .i64 2 ∧ xv = .int .u64 (bm : Int) ∧ iv = .int .i64 0 ∧ wr = Wd) (fun _ _ _ _ => 0)
  case atStart => exact ⟨rfl, rfl, rfl, rfl⟩
  case round =>
    obtain ⟨rfl, rfl, rfl, rfl⟩ := hrel
    obtain ⟨X, hX⟩ : ∃ X, X = bm := ⟨_, rfl⟩
    have HX : Hid (X = if wideN b.toNat = 0 then b.toNat % 128 else ofBE (t.take (wideN b.toNat))) := Lib.hid (by rw [HW.out, if_pos rfl, hX, HNN.out.2.2.2.2, HNN.out.2.2.2.1])
    have hXb : X < 2 ^ 63 := by have := HNN.out.2.2.2.2; omega
    rw [← hX]
    clear hX
    have hrow := HD.out.2.1
    have hrz := HD.out.1
    have h0 : wr.cell? ⟨w.heap.size + 1, 0, none⟩ = some (.bool false) := cell_of_row wr _ 0 _ _ (0, 0) hrow
    have h1 : wr.cell? ⟨w.heap.size + 1, 1, none⟩ = some (.bool false) := cell_of_row wr _ 1 _ _ (0, 0) hrow
    have h2 : wr.cell? ⟨w.heap.size + 1, 2, none⟩ = some (.bool false) := cell_of_row wr _ 2 _ _ (0, 0) hrow
    have h3 : wr.cell? ⟨w.heap.size + 1, 3, none⟩ = some (.int .i64 0) := cell_of_row wr _ 3 _ _ (0, 0) hrow
    have h4 : wr.cell? ⟨w.heap.size + 1, 4, none⟩ = some (.int .i64 0) := cell_of_row wr _ 4 _ _ (0, 0) hrow
    have h5 : wr.cell? ⟨w.heap.size + 1, 5, none⟩ = some (.int .u8 0) := cell_of_row wr _ 5 _ _ (0, 0) hrow
    have h6 : wr.cell? ⟨w.heap.size + 1, 6, none⟩ = some (.int .u8 0) := cell_of_row wr _ 6 _ _ (0, 0) hrow
    have h7 : wr.cell? ⟨w.heap.size + 1, 7, none⟩ = some (.int .u8 0) := cell_of_row wr _ 7 _ _ (0, 0) hrow
    have h8 : wr.cell? ⟨w.heap.size + 1, 8, none⟩ = some (.int .u8 0) := cell_of_row wr _ 8 _ _ (0, 0) hrow
    have h9 : wr.cell? ⟨w.heap.size + 1, 9, none⟩ = some (.int .u64 0) := cell_of_row wr _ 9 _ _ (0, 0) hrow
    have z0 : wr.cell? ⟨w.heap.size, 0, none⟩ = some (.bool false) := cell_of_row wr _ 0 _ _ (0, 0) hrz
    have z1 : wr.cell? ⟨w.heap.size, 1, none⟩ = some (.bool false) := cell_of_row wr _ 1 _ _ (0, 0) hrz
    have z2 : wr.cell? ⟨w.heap.size, 2, none⟩ = some (.bool false) := cell_of_row wr _ 2 _ _ (0, 0) hrz
    have z3 : wr.cell? ⟨w.heap.size, 3, none⟩ = some (.int .i64 0) := cell_of_row wr _ 3 _ _ (0, 0) hrz
    have z4 : wr.cell? ⟨w.heap.size, 4, none⟩ = some (.int .i64 0) := cell_of_row wr _ 4 _ _ (0, 0) hrz
    have z5 : wr.cell? ⟨w.heap.size, 5, none⟩ = some (.int .u8 0) := cell_of_row wr _ 5 _ _ (0, 0) hrz
    have z6 : wr.cell? ⟨w.heap.size, 6, none⟩ = some (.int .u8 0) := cell_of_row wr _ 6 _ _ (0, 0) hrz
    have z7 : wr.cell? ⟨w.heap.size, 7, none⟩ = some (.int .u8 0) := cell_of_row wr _ 7 _ _ (0, 0) hrz
    have z8 : wr.cell? ⟨w.heap.size, 8, none⟩ = some (.int .u8 0) := cell_of_row wr _ 8 _ _ (0, 0) hrz
    have z9 : wr.cell? ⟨w.heap.size, 9, none⟩ = some (.int .u64 0) := cell_of_row wr _ 9 _ _ (0, 0) hrz
    have zf0 := hrz.frozen 0
    have zf1 := hrz.frozen 1
    have zf2 := hrz.frozen 2
    have zf3 := hrz.frozen 3
    have zf4 := hrz.frozen 4
    have zf5 := hrz.frozen 5
    have zf6 := hrz.frozen 6
    have zf7 := hrz.frozen 7
    have zf8 := hrz.frozen 8
    have zf9 := hrz.frozen 9
    have HRZ := Lib.hid hrz
    clear hrow hrz
    go_wp2
    refine bodyPost_ret (results_row3E rfl _ _ w.heap.size 58 #[.bool false, .bool false, .bool false, .int .i64 0, .int .i64 0, .int .u8 0, .int .u8 0, .int .u8 0, .int .u8 0, .int .u64 0] (0, 0) _ rfl (put10_row HRZ.out (.bool false) (.bool false) (.bool false) (.int .i64 0) (.int .i64 0) (.int .u8 0) (.int .u8 0) (.int .u8 0) (.int .u8 0) (.int .u64 0)) Try.underlying58 rfl infoHr) rfl ?_
    exact ⟨by rw [HV.out]; rfl, put10_below HD.out.2.2 (Nat.le_refl _) _ _ _ _ _ _ _ _ _ _⟩
set_option maxRecDepth 100000 in
set_option maxHeartbeats 4000000 in
theorem rhead_2mn2 (a b : UInt8) (t : List UInt8) (_ht : t.length ≤ 1000000) (hw : wideN b.toNat = 2) (hm : 128 ≤ b.toNat) (hl : 2 ≤ t.length) (hl2 : t.length < 6) (w : World) : Calls Try.prog 21 #[S (a :: b :: t)] w fun e w' => e = .returned (hrV (readHeadF (a :: b :: t))) ∧ Below w.heap.size w w' := by
  have hlS := run_len_S (P := Try.prog) Try.underlying9 3 (a :: b :: t)
  have hi0 : ∀ w', (Instr.index 9 (S (a :: b :: t)) (.int .i64 0)).run Try.prog w' = .ok (B a) w' := fun w' => index_S Try.underlying9 (a :: b :: t) 0 a rfl w'
  have hi1 : ∀ w', (Instr.index 9 (S (a :: b :: t)) (.int .i64 1)).run Try.prog w' = .ok (B b) w' := fun w' => index_S Try.underlying9 (a :: b :: t) 1 b rfl w'
  have hix : ∀ (j : Nat) (c : UInt8), t[j]? = some c → ∀ w', (Instr.index 9 (S (a :: b :: t)) (.int .i64 ((2 + j : Nat) : Int))).run Try.prog w' = .ok (B c) w' := fun j c hc w' => index_S Try.underlying9 (a :: b :: t) (2 + j) c (by rw [Nat.add_comm 2 j]; exact hc) w'
  have HIX := Lib.hid hix
  have hb := b.toNat_lt
  have ha := a.toNat_lt
  obtain ⟨N, hN⟩ : ∃ N, N = t.length := ⟨_, rfl⟩
  have hlS2 : ∀ w', (Builtin.len_ #[9] 3 #[S (a :: b :: t)]).run Try.prog w' = .ok (.int .i64 ((N + 2 : Nat) : Int)) w' := by rw [hN]; exact hlS
  obtain ⟨N2, hN2⟩ : ∃ x, x = N + 2 := ⟨_, rfl⟩
  rw [← hN2] at hlS2
  rw [← hN] at hl hl2
  have cva : ∀ w', (convert 5 3 (B a)).run Try.prog w' = .ok (.int .i64 (a.toNat : Int)) w' := conv_byte Try.underlying5 Try.underlying3 a
  have cvb : ∀ w', (convert 5 3 (B b)).run Try.prog w' = .ok (.int .i64 (b.toNat : Int)) w' := conv_byte Try.underlying5 Try.underlying3 b
  obtain ⟨an, han⟩ : ∃ x, x = a.toNat := ⟨_, rfl⟩
  obtain ⟨bn, hbn⟩ : ∃ x, x = b.toNat := ⟨_, rfl⟩
  rw [← han] at cva ha
  rw [← hbn] at cvb hb hw hm
  obtain ⟨bm, hbm⟩ : ∃ x, x = bn % 128 := ⟨_, rfl⟩
  have r1 : (bn : Int).tmod 128 = (bm : Int) := by rw [Int.tmod_eq_emod_of_nonneg (by omega)]; omega
  have r2 : (bn : Int) % 128 = (bm : Int) := by omega
  have r3 : IntKind.i64.wrap (bm : Int) = (bm : Int) := by rw [IntKind.wrap_i64]; omega
  have cvm : ∀ w', (convert 3 56 (.int .i64 (bm : Int))).run Try.prog w' = .ok (.int .u64 (bm : Int)) w' := conv_iu Try.underlying56 Try.underlying3 bm (by omega)
  have hbw : bm = 126 := by
    unfold wideN at hw; rw [← hbm] at hw
    split at hw
    · assumption
    · split at hw <;> cases hw
  have q1 : ((bm : Int) == 126) = true := by rw [beq_iff_eq]; omega
  have q2 : ((bm : Int) == 127) = false := by rw [beq_eq_false_iff_ne]; omega
  have g0 : decide ((N2 : Int) < 2) = false := decide_eq_false (by omega)
  have g3 : decide ((N2 : Int) < 4) = false := decide_eq_false (by omega)
  have g4 : decide ((128 : Int) ≤ (bn : Int)) = true := decide_eq_true (by omega)
  have g5 : decide ((N2 : Int) < 8) = true := decide_eq_true (by omega)
  have HV : Hid (readHeadF (a :: b :: t) = none) := Lib.hid (by
    rw [readHeadF, if_pos]
    unfold moreN
    rw [← hbn, hw, if_pos hm]
    omega)
  have HNN := Lib.hid (And.intro hN (And.intro hN2 (And.intro han (And.intro hbn hbm))))
  obtain ⟨s, hs⟩ : ∃ s, s = a :: b :: t := ⟨_, rfl⟩
  have HSS := Lib.hid hs
  rw [← hs] at hi0 hi1 hlS2 HIX HV ⊢
  have HW : Hid (wideN b.toNat = 2) := Lib.hid (by rw [← hbn]; exact hw)
  clear hN hN2 han hbn hbm hlS hix hs hw
  go_enter Try.func21, Try.ntmps21
  go_wp2
  go_quiet (fail)
  obtain ⟨Wd, hWd⟩ : ∃ W, W = ((w.alloc (.cells #[.bool false, .bool false, .bool false, .int .i64 0, .int .i64 0, .int .u8 0, .int .u8 0, .int .u8 0, .int .u8 0, .int .u64 0] 58)).alloc (.cells #[.bool false, .bool false, .bool false, .int .i64 0, .int .i64 0, .int .u8 0, .int .u8 0, .int .u8 0, .int .u8 0, .int .u64 0] 58)).drewN nq := ⟨_, rfl⟩
  have hz0 : Row Wd w.heap.size #[.bool false, .bool false, .bool false, .int .i64 0, .int .i64 0, .int .u8 0, .int .u8 0, .int .u8 0, .int .u8 0, .int .u64 0] 58 := by rw [hWd]; exact (row_new w _ _).alloc _
  have hz1 : Row Wd (w.heap.size + 1) #[.bool false, .bool false, .bool false, .int .i64 0, .int .i64 0, .int .u8 0, .int .u8 0, .int .u8 0, .int .u8 0, .int .u64 0] 58 := by
    have h := row_new (w.alloc (.cells #[.bool false, .bool false, .bool false, .int .i64 0, .int .i64 0, .int .u8 0, .int .u8 0, .int .u8 0, .int .u8 0, .int .u64 0] 58)) #[.bool false, .bool false, .bool false, .int .i64 0, .int .i64 0, .int .u8 0, .int .u8 0, .int .u8 0, .int .u8 0, .int .u64 0] 58
    rw [alloc_size] at h
    rw [hWd]; exact h
  have hbd : Below w.heap.size w Wd := by rw [hWd]; exact (((Below.refl _ _).alloc (Nat.le_refl _) _).alloc (by rw [alloc_size]; omega) _).trans (below_drewN _ nq |>.mono (by rw [alloc_size, alloc_size]; omega))
  rw [← hWd]
  have HD := Lib.hid (And.intro hz0 (And.intro hz1 hbd))
  clear hWd hz0 hz1 hbd
  go_wp2
  go_loopw [8, 9, 11] (fun nv xv iv wr => ∃ i : Nat, i ≤ 2 ∧ nv = .int .i64 ((2 + i : Nat) : Int) ∧ xv = .int .u64 ((ofBE (t.take i) : Nat) : Int) ∧ iv = .int .i64 (i : Int) ∧ wr = Wd) (fun _ _ iv _ => 2 - (intOf iv).toNat)
  case atStart => exact ⟨0, by omega, rfl, rfl, rfl, rfl⟩
  case round =>
    obtain ⟨i, hi, rfl, rfl, rfl, rfl⟩ := hrel
    by_cases hlt : i < 2
    · have l1 : decide ((i : Int) < 2) = true := decide_eq_true (by omega)
      obtain ⟨c, hc⟩ : ∃ c, t[i]? = some c := ⟨t[i]'(by have := HNN.out.1; omega), List.getElem?_eq_getElem _⟩
      have hic := HIX.out i c hc
      have hnx := ofBE_next hc
      have hlx := ofBE_lt (t.take i)
      have hl8 : (t.take i).length ≤ 7 := by rw [List.length_take]; omega
      have hpw := Nat.pow_le_pow_right (n := 256) (by decide) hl8
      have hcb := c.toNat_lt
      obtain ⟨Y, hY⟩ : ∃ Y, Y = ofBE (t.take i) := ⟨_, rfl⟩
      obtain ⟨Y2, hY2⟩ : ∃ Y, Y = ofBE (t.take (i + 1)) := ⟨_, rfl⟩
      rw [← hY, ← hY2] at hnx
      rw [← hY] at hlx ⊢
      obtain ⟨cn, hcn⟩ : ∃ x, x = c.toNat := ⟨_, rfl⟩
      have hcv : ∀ w', (convert 5 56 (B c)).run Try.prog w' = .ok (.int .u64 (cn : Int)) w' := by rw [hcn]; exact conv_b64 Try.underlying5 Try.underlying56 c
      rw [← hcn] at hnx hcb
      have m1 : IntKind.u64.wrap ((Y : Int) * 256) = (Y : Int) * 256 := by simp [IntKind.wrap, IntKind.bits, IntKind.signed]; omega
      have m2 : IntKind.u64.wrap ((Y : Int) * 256 + (cn : Int)) = (Y2 : Int) := by simp [IntKind.wrap, IntKind.bits, IntKind.signed]; omega
      obtain ⟨nn, hnn⟩ : ∃ x, x = 2 + i := ⟨_, rfl⟩
      rw [← hnn] at hic ⊢
      have m3 : IntKind.i64.wrap ((nn : Int) + 1) = ((nn + 1 : Nat) : Int) := by rw [IntKind.wrap_i64]; omega
      have m4 : IntKind.i64.wrap ((i : Int) + 1) = (i : Int) + 1 := by rw [IntKind.wrap_i64]; omega
      have HY := Lib.hid (And.intro hY2 hnn)
      clear hc hnx hlx hl8 hpw hcb hY hY2 hcn hnn
      go_wp2
      exact ⟨⟨i + 1, by omega, by rw [HY.out.2]; rfl, by rw [HY.out.1], by go_num, by trivial⟩, by simp [intOf]; omega⟩
    obtain rfl : i = 2 := by omega
    obtain ⟨X, hX⟩ : ∃ X, X = ofBE (t.take 2) := ⟨_, rfl⟩
    have HX : Hid (X = if wideN b.toNat = 0 then b.toNat % 128 else ofBE (t.take (wideN b.toNat))) := Lib.hid (by rw [HW.out, if_neg (by decide), hX])
    have hlx := ofBE_lt (t.take 2)
    have hl8 : (t.take 2).length ≤ 2 := by rw [List.length_take]; omega
    have hpw := Nat.pow_le_pow_right (n := 256) (by decide) hl8
    have hXb : X < 256 ^ 2 := by omega
    rw [← hX]
    clear hX hlx hl8 hpw
    have hrow := HD.out.2.1
    have hrz := HD.out.1
    have h0 : wr.cell? ⟨w.heap.size + 1, 0, none⟩ = some (.bool false) := cell_of_row wr _ 0 _ _ (0, 0) hrow
    have h1 : wr.cell? ⟨w.heap.size + 1, 1, none⟩ = some (.bool false) := cell_of_row wr _ 1 _ _ (0, 0) hrow
    have h2 : wr.cell? ⟨w.heap.size + 1, 2, none⟩ = some (.bool false) := cell_of_row wr _ 2 _ _ (0, 0) hrow
    have h3 : wr.cell? ⟨w.heap.size + 1, 3, none⟩ = some (.int .i64 0) := cell_of_row wr _ 3 _ _ (0, 0) hrow
    have h4 : wr.cell? ⟨w.heap.size + 1, 4, none⟩ = some (.int .i64 0) := cell_of_row wr _ 4 _ _ (0, 0) hrow
    have h5 : wr.cell? ⟨w.heap.size + 1, 5, none⟩ = some (.int .u8 0) := cell_of_row wr _ 5 _ _ (0, 0) hrow
    have h6 : wr.cell? ⟨w.heap.size + 1, 6, none⟩ = some (.int .u8 0) := cell_of_row wr _ 6 _ _ (0, 0) hrow
    have h7 : wr.cell? ⟨w.heap.size + 1, 7, none⟩ = some (.int .u8 0) := cell_of_row wr _ 7 _ _ (0, 0) hrow
    have h8 : wr.cell? ⟨w.heap.size + 1, 8, none⟩ = some (.int .u8 0) := cell_of_row wr _ 8 _ _ (0, 0) hrow
    have h9 : wr.cell? ⟨w.heap.size + 1, 9, none⟩ = some (.int .u64 0) := cell_of_row wr _ 9 _ _ (0, 0) hrow
    have z0 : wr.cell? ⟨w.heap.size, 0, none⟩ = some (.bool false) := cell_of_row wr _ 0 _ _ (0, 0) hrz
    have z1 : wr.cell? ⟨w.heap.size, 1, none⟩ = some (.bool false) := cell_of_row wr _ 1 _ _ (0, 0) hrz
    have z2 : wr.cell? ⟨w.heap.size, 2, none⟩ = some (.bool false) := cell_of_row wr _ 2 _ _ (0, 0) hrz
    have z3 : wr.cell? ⟨w.heap.size, 3, none⟩ = some (.int .i64 0) := cell_of_row wr _ 3 _ _ (0, 0) hrz
    have z4 : wr.cell? ⟨w.heap.size, 4, none⟩ = some (.int .i64 0) := cell_of_row wr _ 4 _ _ (0, 0) hrz
    have z5 : wr.cell? ⟨w.heap.size, 5, none⟩ = some (.int .u8 0) := cell_of_row wr _ 5 _ _ (0, 0) hrz
    have z6 : wr.cell? ⟨w.heap.size, 6, none⟩ = some (.int .u8 0) := cell_of_row wr _ 6 _ _ (0, 0) hrz
    have z7 : wr.cell? ⟨w.heap.size, 7, none⟩ = some (.int .u8 0) := cell_of_row wr _ 7 _ _ (0, 0) hrz
    have z8 : wr.cell? ⟨w.heap.size, 8, none⟩ = some (.int .u8 0) := cell_of_row wr _ 8 _ _ (0, 0) hrz
    have z9 : wr.cell? ⟨w.heap.size, 9, none⟩ = some (.int .u64 0) := cell_of_row wr _ 9 _ _ (0, 0) hrz
    have zf0 := hrz.frozen 0
    have zf1 := hrz.frozen 1
    have zf2 := hrz.frozen 2
    have zf3 := hrz.frozen 3
    have zf4 := hrz.frozen 4
    have zf5 := hrz.frozen 5
    have zf6 := hrz.frozen 6
    have zf7 := hrz.frozen 7
    have zf8 := hrz.frozen 8
    have zf9 := hrz.frozen 9
    have HRZ := Lib.hid hrz
    clear hrow hrz
    go_wp2
    refine bodyPost_ret (results_row3E rfl _ _ w.heap.size 58 #[.bool false, .bool false, .bool false, .int .i64 0, .int .i64 0, .int .u8 0, .int .u8 0, .int .u8 0, .int .u8 0, .int .u64 0] (0, 0) _ rfl (put10_row HRZ.out (.bool false) (.bool false) (.bool false) (.int .i64 0) (.int .i64 0) (.int .u8 0) (.int .u8 0) (.int .u8 0) (.int .u8 0) (.int .u64 0)) Try.underlying58 rfl infoHr) rfl ?_
    exact ⟨by rw [HV.out]; rfl, put10_below HD.out.2.2 (Nat.le_refl _) _ _ _ _ _ _ _ _ _ _⟩
set_option maxRecDepth 100000 in
set_option maxHeartbeats 4000000 in
theorem rhead_8mn2 (a b : UInt8) (t : List UInt8) (_ht : t.length ≤ 1000000) (hw : wideN b.toNat = 8) (hm : 128 ≤ b.toNat) (hl : 8 ≤ t.length) (hl2 : t.length < 12) (w : World) : Calls Try.prog 21 #[S (a :: b :: t)] w fun e w' => e = .returned (hrV (readHeadF (a :: b :: t))) ∧ Below w.heap.size w w' := by
  have hlS := run_len_S (P := Try.prog) Try.underlying9 3 (a :: b :: t)
  have hi0 : ∀ w', (Instr.index 9 (S (a :: b :: t)) (.int .i64 0)).run Try.prog w' = .ok (B a) w' := fun w' => index_S Try.underlying9 (a :: b :: t) 0 a rfl w'
  have hi1 : ∀ w', (Instr.index 9 (S (a :: b :: t)) (.int .i64 1)).run Try.prog w' = .ok (B b) w' := fun w' => index_S Try.underlying9 (a :: b :: t) 1 b rfl w'
  have hix : ∀ (j : Nat) (c : UInt8), t[j]? = some c → ∀ w', (Instr.index 9 (S (a :: b :: t)) (.int .i64 ((2 + j : Nat) : Int))).run Try.prog w' = .ok (B c) w' := fun j c hc w' => index_S Try.underlying9 (a :: b :: t) (2 + j) c (by rw [Nat.add_comm 2 j]; exact hc) w'
  have HIX := Lib.hid hix
  have hb := b.toNat_lt
  have ha := a.toNat_lt
  obtain ⟨N, hN⟩ : ∃ N, N = t.length := ⟨_, rfl⟩
  have hlS2 : ∀ w', (Builtin.len_ #[9] 3 #[S (a :: b :: t)]).run Try.prog w' = .ok (.int .i64 ((N + 2 : Nat) : Int)) w' := by rw [hN]; exact hlS
  obtain ⟨N2, hN2⟩ : ∃ x, x = N + 2 := ⟨_, rfl⟩
  rw [← hN2] at hlS2
  rw [← hN] at hl hl2
  have cva : ∀ w', (convert 5 3 (B a)).run Try.prog w' = .ok (.int .i64 (a.toNat : Int)) w' := conv_byte Try.underlying5 Try.underlying3 a
  have cvb : ∀ w', (convert 5 3 (B b)).run Try.prog w' = .ok (.int .i64 (b.toNat : Int)) w' := conv_byte Try.underlying5 Try.underlying3 b
  obtain ⟨an, han⟩ : ∃ x, x = a.toNat := ⟨_, rfl⟩
  obtain ⟨bn, hbn⟩ : ∃ x, x = b.toNat := ⟨_, rfl⟩
  rw [← han] at cva ha
  rw [← hbn] at cvb hb hw hm
  obtain ⟨bm, hbm⟩ : ∃ x, x = bn % 128 := ⟨_, rfl⟩
  have r1 : (bn : Int).tmod 128 = (bm : Int) := by rw [Int.tmod_eq_emod_of_nonneg (by omega)]; omega
  have r2 : (bn : Int) % 128 = (bm : Int) := by omega
  have r3 : IntKind.i64.wrap (bm : Int) = (bm : Int) := by rw [IntKind.wrap_i64]; omega
  have cvm : ∀ w', (convert 3 56 (.int .i64 (bm : Int))).run Try.prog w' = .ok (.int .u64 (bm : Int)) w' := conv_iu Try.underlying56 Try.underlying3 bm (by omega)
  have hbw : bm = 127 := by
    unfold wideN at hw; rw [← hbm] at hw
    split at hw
    · cases hw
    · split at hw
      · assumption
      · cases hw
  have q1 : ((bm : Int) == 126) = false := by rw [beq_eq_false_iff_ne]; omega
  have q2 : ((bm : Int) == 127) = true := by rw [beq_iff_eq]; omega
  have g0 : decide ((N2 : Int) < 2) = false := decide_eq_false (by omega)
  have g3 : decide ((N2 : Int) < 10) = false := decide_eq_false (by omega)
  have g4 : decide ((128 : Int) ≤ (bn : Int)) = true := decide_eq_true (by omega)
  have g5 : decide ((N2 : Int) < 14) = true := decide_eq_true (by omega)
  have HV : Hid (readHeadF (a :: b :: t) = none) := Lib.hid (by
    rw [readHeadF, if_pos]
    unfold moreN
    rw [← hbn, hw, if_pos hm]
    omega)
  have HNN := Lib.hid (And.intro hN (And.intro hN2 (And.intro han (And.intro hbn hbm))))
  obtain ⟨s, hs⟩ : ∃ s, s = a :: b :: t := ⟨_, rfl⟩
  have HSS := Lib.hid hs
  rw [← hs] at hi0 hi1 hlS2 HIX HV ⊢
  have HW : Hid (wideN b.toNat = 8) := Lib.hid (by rw [← hbn]; exact hw)
  clear hN hN2 han hbn hbm hlS hix hs hw
  go_enter Try.func21, Try.ntmps21
  go_wp2
  go_quiet (fail)
  obtain ⟨Wd, hWd⟩ : ∃ W, W = ((w.alloc (.cells #[.bool false, .bool false, .bool false, .int .i64 0, .int .i64 0, .int .u8 0, .int .u8 0, .int .u8 0, .int .u8 0, .int .u64 0] 58)).alloc (.cells #[.bool false, .bool false, .bool false, .int .i64 0, .int .i64 0, .int .u8 0, .int .u8 0, .int .u8 0, .int .u8 0, .int .u64 0] 58)).drewN nq := ⟨_, rfl⟩
  have hz0 : Row Wd w.heap.size #[.bool false, .bool false, .bool false, .int .i64 0, .int .i64 0, .int .u8 0, .int .u8 0, .int .u8 0, .int .u8 0, .int .u64 0] 58 := by rw [hWd]; exact (row_new w _ _).alloc _
  have hz1 : Row Wd (w.heap.size + 1) #[.bool false, .bool false, .bool false, .int .i64 0, .int .i64 0, .int .u8 0, .int .u8 0, .int .u8 0, .int .u8 0, .int .u64 0] 58 := by
    have h := row_new (w.alloc (.cells #[.bool false, .bool false, .bool false, .int .i64 0, .int .i64 0, .int .u8 0, .int .u8 0, .int .u8 0, .int .u8 0, .int .u64 0] 58)) #[.bool false, .bool false, .bool false, .int .i64 0, .int .i64 0, .int .u8 0, .int .u8 0, .int .u8 0, .int .u8 0, .int .u64 0] 58
    rw [alloc_size] at h
    rw [hWd]; exact h
  have hbd : Below w.heap.size w Wd := by rw [hWd]; exact (((Below.refl _ _).alloc (Nat.le_refl _) _).alloc (by rw [alloc_size]; omega) _).trans (below_drewN _ nq |>.mono (by rw [alloc_size, alloc_size]; omega))
  rw [← hWd]
  have HD := Lib.hid (And.intro hz0 (And.intro hz1 hbd))
  clear hWd hz0 hz1 hbd
  go_wp2
  go_loopw [8, 9, 11] (fun nv xv iv wr => ∃ i : Nat, i ≤ 8 ∧ nv = .int .i64 ((2 + i : Nat) : Int) ∧ xv = .int .u64 ((ofBE (t.take i) : Nat) : Int) ∧ iv = .int .i64 (i : Int) ∧ wr = Wd) (fun _ _ iv _ => 8 - (intOf iv).toNat)
  case atStart => exact ⟨0, by omega, rfl, rfl, rfl, rfl⟩
  case round =>
    obtain ⟨i, hi, rfl, rfl, rfl, rfl⟩ := hrel
    by_cases hlt : i < 8
    · have l1 : decide ((i : Int) < 8) = true := decide_eq_true (by omega)
      obtain ⟨c, hc⟩ : ∃ c, t[i]? = some c := ⟨t[i]'(by have := HNN.out.1; omega), List.getElem?_eq_getElem _⟩
      have hic := HIX.out i c hc
      have hnx := ofBE_next hc
      have hlx := ofBE_lt (t.take i)
      have hl8 : (t.take i).length ≤ 7 := by rw [List.length_take]; omega
      have hpw := Nat.pow_le_pow_right (n := 256) (by decide) hl8
      have hcb := c.toNat_lt
      obtain ⟨Y, hY⟩ : ∃ Y, Y = ofBE (t.take i) := ⟨_, rfl⟩
      obtain ⟨Y2, hY2⟩ : ∃ Y, Y = ofBE (t.take (i + 1)) := ⟨_, rfl⟩
      rw [← hY, ← hY2] at hnx
      rw [← hY] at hlx ⊢
      obtain ⟨cn, hcn⟩ : ∃ x, x = c.toNat := ⟨_, rfl⟩
      have hcv : ∀ w', (convert 5 56 (B c)).run Try.prog w' = .ok (.int .u64 (cn : Int)) w' := by rw [hcn]; exact conv_b64 Try.underlying5 Try.underlying56 c
      rw [← hcn] at hnx hcb
      have m1 : IntKind.u64.wrap ((Y : Int) * 256) = (Y : Int) * 256 := by simp [IntKind.wrap, IntKind.bits, IntKind.signed]; omega
      have m2 : IntKind.u64.wrap ((Y : Int) * 256 + (cn : Int)) = (Y2 : Int) := by simp [IntKind.wrap, IntKind.bits, IntKind.signed]; omega
      obtain ⟨nn, hnn⟩ : ∃ x, x = 2 + i := ⟨_, rfl⟩
      rw [← hnn] at hic ⊢
      have m3 : IntKind.i64.wrap ((nn : Int) + 1) = ((nn + 1 : Nat) : Int) := by rw [IntKind.wrap_i64]; omega
      have m4 : IntKind.i64.wrap ((i : Int) + 1) = (i : Int) + 1 := by rw [IntKind.wrap_i64]; omega
      have HY := Lib.hid (And.intro hY2 hnn)
      clear hc hnx hlx hl8 hpw hcb hY hY2 hcn hnn
      go_wp2
      exact ⟨⟨i + 1, by omega, by rw [HY.out.2]; rfl, by rw [HY.out.1], by go_num, by trivial⟩, by simp [intOf]; omega⟩
    obtain rfl : i = 8 := by omega
    obtain ⟨X, hX⟩ : ∃ X, X = ofBE (t.take 8) := ⟨_, rfl⟩
    have HX : Hid (X = if wideN b.toNat = 0 then b.toNat % 128 else ofBE (t.take (wideN b.toNat))) := Lib.hid (by rw [HW.out, if_neg (by decide), hX])
    have hlx := ofBE_lt (t.take 8)
    have hl8 : (t.take 8).length ≤ 8 := by rw [List.length_take]; omega
    have hpw := Nat.pow_le_pow_right (n := 256) (by decide) hl8
    have hXb : X < 256 ^ 8 := by omega
    rw [← hX]
    clear hX hlx hl8 hpw
    have hrow := HD.out.2.1
    have hrz := HD.out.1
    have h0 : wr.cell? ⟨w.heap.size + 1, 0, none⟩ = some (.bool false) := cell_of_row wr _ 0 _ _ (0, 0) hrow
    have h1 : wr.cell? ⟨w.heap.size + 1, 1, none⟩ = some (.bool false) := cell_of_row wr _ 1 _ _ (0, 0) hrow
    have h2 : wr.cell? ⟨w.heap.size + 1, 2, none⟩ = some (.bool false) := cell_of_row wr _ 2 _ _ (0, 0) hrow
    have h3 : wr.cell? ⟨w.heap.size + 1, 3, none⟩ = some (.int .i64 0) := cell_of_row wr _ 3 _ _ (0, 0) hrow
    have h4 : wr.cell? ⟨w.heap.size + 1, 4, none⟩ = some (.int .i64 0) := cell_of_row wr _ 4 _ _ (0, 0) hrow
    have h5 : wr.cell? ⟨w.heap.size + 1, 5, none⟩ = some (.int .u8 0) := cell_of_row wr _ 5 _ _ (0, 0) hrow
    have h6 : wr.cell? ⟨w.heap.size + 1, 6, none⟩ = some (.int .u8 0) := cell_of_row wr _ 6 _ _ (0, 0) hrow
    have h7 : wr.cell? ⟨w.heap.size + 1, 7, none⟩ = some (.int .u8 0) := cell_of_row wr _ 7 _ _ (0, 0) hrow
    have h8 : wr.cell? ⟨w.heap.size + 1, 8, none⟩ = some (.int .u8 0) := cell_of_row wr _ 8 _ _ (0, 0) hrow
    have h9 : wr.cell? ⟨w.heap.size + 1, 9, none⟩ = some (.int .u64 0) := cell_of_row wr _ 9 _ _ (0, 0) hrow
    have z0 : wr.cell? ⟨w.heap.size, 0, none⟩ = some (.bool false) := cell_of_row wr _ 0 _ _ (0, 0) hrz
    have z1 : wr.cell? ⟨w.heap.size, 1, none⟩ = some (.bool false) := cell_of_row wr _ 1 _ _ (0, 0) hrz
    have z2 : wr.cell? ⟨w.heap.size, 2, none⟩ = some (.bool false) := cell_of_row wr _ 2 _ _ (0, 0) hrz
    have z3 : wr.cell? ⟨w.heap.size, 3, none⟩ = some (.int .i64 0) := cell_of_row wr _ 3 _ _ (0, 0) hrz
    have z4 : wr.cell? ⟨w.heap.size, 4, none⟩ = some (.int .i64 0) := cell_of_row wr _ 4 _ _ (0, 0) hrz
    have z5 : wr.cell? ⟨w.heap.size, 5, none⟩ = some (.int .u8 0) := cell_of_row wr _ 5 _ _ (0, 0) hrz
    have z6 : wr.cell? ⟨w.heap.size, 6, none⟩ = some (.int .u8 0) := cell_of_row wr _ 6 _ _ (0, 0) hrz
    have z7 : wr.cell? ⟨w.heap.size, 7, none⟩ = some (.int .u8 0) := cell_of_row wr _ 7 _ _ (0, 0) hrz
    have z8 : wr.cell? ⟨w.heap.size, 8, none⟩ = some (.int .u8 0) := cell_of_row wr _ 8 _ _ (0, 0) hrz
    have z9 : wr.cell? ⟨w.heap.size, 9, none⟩ = some (.int .u64 0) := cell_of_row wr _ 9 _ _ (0, 0) hrz
    have zf0 := hrz.frozen 0
    have zf1 := hrz.frozen 1
    have zf2 := hrz.frozen 2
    have zf3 := hrz.frozen 3
    have zf4 := hrz.frozen 4
    have zf5 := hrz.frozen 5
    have zf6 := hrz.frozen 6
    have zf7 := hrz.frozen 7
    have zf8 := hrz.frozen 8
    have zf9 := hrz.frozen 9
    have HRZ := Lib.hid hrz
    clear hrow hrz
    go_wp2
    refine bodyPost_ret (results_row3E rfl _ _ w.heap.size 58 #[.bool false, .bool false, .bool false, .int .i64 0, .int .i64 0, .int .u8 0, .int .u8 0, .int .u8 0, .int .u8 0, .int .u64 0] (0, 0) _ rfl (put10_row HRZ.out (.bool false) (.bool false) (.bool false) (.int .i64 0) (.int .i64 0) (.int .u8 0) (.int .u8 0) (.int .u8 0) (.int .u8 0) (.int .u64 0)) Try.underlying58 rfl infoHr) rfl ?_
    exact ⟨by rw [HV.out]; rfl, put10_below HD.out.2.2 (Nat.le_refl _) _ _ _ _ _ _ _ _ _ _⟩
end Go.Proofs.Ytlmolmmhkddpaaa
