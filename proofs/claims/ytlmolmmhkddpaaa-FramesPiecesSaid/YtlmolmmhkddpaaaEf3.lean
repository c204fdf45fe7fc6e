/- The document's ReadHead (stage 15) walked. (mkef.py writes it.) -/
import Derived.Test.YtlmolmmhkddpaaaEf
import Derived.BigQuiet
namespace Go.Proofs.Ytlmolmmhkddpaaa
open Go.RowKit
attribute [local go_sem] store_one B_match B_store S_match S_store nguard_BN eguard_BN

set_option maxRecDepth 100000 in
set_option maxHeartbeats 4000000 in
theorem rhead_0m (a b : UInt8) (t : List UInt8) (ht : t.length ≤ 1000000) (hw : wideN b.toNat = 0) (hm : 128 ≤ b.toNat) (hl : 4 ≤ t.length) (w : World) : Calls Try.prog 21 #[S (a :: b :: t)] w fun e w' => e = .returned (hrV (readHeadF (a :: b :: t))) ∧ Below w.heap.size w w' := by
  have hlS := run_len_S (P := Try.prog) Try.underlying9 3 (a :: b :: t)
  have hi0 : ∀ w', (Instr.index 9 (S (a :: b :: t)) (.int .i64 0)).run Try.prog w' = .ok (B a) w' := fun w' => index_S Try.underlying9 (a :: b :: t) 0 a rfl w'
  have hi1 : ∀ w', (Instr.index 9 (S (a :: b :: t)) (.int .i64 1)).run Try.prog w' = .ok (B b) w' := fun w' => index_S Try.underlying9 (a :: b :: t) 1 b rfl w'
  have hix : ∀ (j : Nat) (c : UInt8), t[j]? = some c → ∀ w', (Instr.index 9 (S (a :: b :: t)) (.int .i64 ((2 + j : Nat) : Int))).run Try.prog w' = .ok (B c) w' := fun j c hc w' => index_S Try.underlying9 (a :: b :: t) (2 + j) c (by rw [Nat.add_comm 2 j]; exact hc) w'
  have HIX := Lib.hid hix
  have hb := b.toNat_lt
  have ha := a.toNat_lt
  obtain ⟨N, hN⟩ : ∃ N, N = t.length := ⟨_, rfl⟩
  have hlS2 : ∀ w', (Builtin.len_ #[9] 3 #[S (a :: b :: t)]).run Try.prog w' = .ok (.int .i64 ((N + 2 : Nat) : Int)) w' := by rw [hN]; exact hlS
  obtain ⟨N2, hN2⟩ : ∃ x, x = N + 2 := ⟨_, rfl⟩
  rw [← hN2] at hlS2
  rw [← hN] at ht hl
  have cva : ∀ w', (convert 5 3 (B a)).run Try.prog w' = .ok (.int .i64 (a.toNat : Int)) w' := conv_byte Try.underlying5 Try.underlying3 a
  have cvb : ∀ w', (convert 5 3 (B b)).run Try.prog w' = .ok (.int .i64 (b.toNat : Int)) w' := conv_byte Try.underlying5 Try.underlying3 b
  obtain ⟨an, han⟩ : ∃ x, x = a.toNat := ⟨_, rfl⟩
  obtain ⟨bn, hbn⟩ : ∃ x, x = b.toNat := ⟨_, rfl⟩
  rw [← han] at cva ha
  rw [← hbn] at cvb hb hw hm
  obtain ⟨bm, hbm⟩ : ∃ x, x = bn % 128 := ⟨_, rfl⟩
  have r1 : (bn : Int).tmod 128 = (bm : Int) := by rw [Int.tmod_eq_emod_of_nonneg (by omega)]; omega
  have r2 : (bn : Int) % 128 = (bm : Int) := by omega
  have r3 : IntKind.i64.wrap (bm : Int) = (bm : Int) := by rw [IntKind.wrap_i64]; omega
  have cvm : ∀ w', (convert 3 56 (.int .i64 (bm : Int))).run Try.prog w' = .ok (.int .u64 (bm : Int)) w' := conv_iu Try.underlying56 Try.underlying3 bm (by omega)
  have hbw : bm ≠ 126 ∧ bm ≠ 127 := by unfold wideN at hw; rw [← hbm] at hw; exact ⟨fun e => (by rw [if_pos e] at hw; cases hw), fun e => (by rw [if_neg (by omega), if_pos e] at hw; cases hw)⟩
  have q1 : ((bm : Int) == 126) = false := by rw [beq_eq_false_iff_ne]; omega
  have q2 : ((bm : Int) == 127) = false := by rw [beq_eq_false_iff_ne]; omega
  have g0 : decide ((N2 : Int) < 2) = false := decide_eq_false (by omega)
  have g3 : decide ((N2 : Int) < 2) = false := decide_eq_false (by omega)
  have g4 : decide ((128 : Int) ≤ (bn : Int)) = true := decide_eq_true (by omega)
  have g5 : decide ((N2 : Int) < 6) = false := decide_eq_false (by omega)
  obtain ⟨k0, k1, k2, k3, hk0, hk1, hk2, hk3⟩ : ∃ k0 k1 k2 k3, t[0]? = some k0 ∧ t[1]? = some k1 ∧ t[2]? = some k2 ∧ t[3]? = some k3 := ⟨t[0]'(by omega), t[1]'(by omega), t[2]'(by omega), t[3]'(by omega), List.getElem?_eq_getElem _, List.getElem?_eq_getElem _, List.getElem?_eq_getElem _, List.getElem?_eq_getElem _⟩
  have HK := Lib.hid (And.intro hk0 (And.intro hk1 (And.intro hk2 hk3)))
  have hx0 : ∀ w', (Instr.index 9 (S (a :: b :: t)) (.int .i64 2)).run Try.prog w' = .ok (B k0) w' := fun w' => hix 0 k0 hk0 w'
  have hx1 : ∀ w', (Instr.index 9 (S (a :: b :: t)) (.int .i64 3)).run Try.prog w' = .ok (B k1) w' := fun w' => hix 1 k1 hk1 w'
  have hx2 : ∀ w', (Instr.index 9 (S (a :: b :: t)) (.int .i64 4)).run Try.prog w' = .ok (B k2) w' := fun w' => hix 2 k2 hk2 w'
  have hx3 : ∀ w', (Instr.index 9 (S (a :: b :: t)) (.int .i64 5)).run Try.prog w' = .ok (B k3) w' := fun w' => hix 3 k3 hk3 w'
  have HNN := Lib.hid (And.intro hN (And.intro hN2 (And.intro han (And.intro hbn hbm))))
  obtain ⟨s, hs⟩ : ∃ s, s = a :: b :: t := ⟨_, rfl⟩
  have HSS := Lib.hid hs
  rw [← hs] at hi0 hi1 hlS2 HIX hx0 hx1 hx2 hx3 ⊢
  have HW : Hid (wideN b.toNat = 0) := Lib.hid (by rw [← hbn]; exact hw)
  clear hk0 hk1 hk2 hk3 hN hN2 han hbn hbm hlS hix hs hw
  go_enter Try.func21, Try.ntmps21
  go_wp2
  go_quiet (fail)
  obtain ⟨Wd, hWd⟩ : ∃ W, W = ((w.alloc (.cells #[.bool false, .bool false, .bool false, .int .i64 0, .int .i64 0, .int .u8 0, .int .u8 0, .int .u8 0, .int .u8 0, .int .u64 0] 58)).alloc (.cells #[.bool false, .bool false, .bool false, .int .i64 0, .int .i64 0, .int .u8 0, .int .u8 0, .int .u8 0, .int .u8 0, .int .u64 0] 58)).drewN nq := ⟨_, rfl⟩
  have hz0 : Row Wd w.heap.size #[.bool false, .bool false, .bool false, .int .i64 0, .int .i64 0, .int .u8 0, .int .u8 0, .int .u8 0, .int .u8 0, .int .u64 0] 58 := by rw [hWd]; exact (row_new w _ _).alloc _
  have hz1 : Row Wd (w.heap.size + 1) #[.bool false, .bool false, .bool false, .int .i64 0, .int .i64 0, .int .u8 0, .int .u8 0, .int .u8 0, .int .u8 0, .int .u64 0] 58 := by
    have h := row_new (w.alloc (.cells #[.bool false, .bool false, .bool false, .int .i64 0, .int .i64 0, .int .u8 0, .int .u8 0, .int .u8 0, .int .u8 0, .int .u64 0] 58)) #[.bool false, .bool false, .bool false, .int .i64 0, .int .i64 0, .int .u8 0, .int .u8 0, .int .u8 0, .int .u8 0, .int .u64 0] 58
    rw [alloc_size] at h
    rw [hWd]; exact h
  have hbd : Below w.heap.size w Wd := by rw [hWd]; exact (((Below.refl _ _).alloc (Nat.le_refl _) _).alloc (by rw [alloc_size]; omega) _).trans (below_drewN _ nq |>.mono (by rw [alloc_size, alloc_size]; omega))
  rw [← hWd]
  have HD := Lib.hid (And.intro hz0 (And.intro hz1 hbd))
  clear hWd hz0 hz1 hbd
  go_wp2
  go_loopw [8, 9, 11] (fun nv xv iv wr => nv = .int .i64 2 ∧ xv = .int .u64 (bm : Int) ∧ iv = .int .i64 0 ∧ wr = Wd) (fun _ _ _ _ => 0)
  case atStart => exact ⟨rfl, rfl, rfl, rfl⟩
  case round =>
    obtain ⟨rfl, rfl, rfl, rfl⟩ := hrel
    obtain ⟨X, hX⟩ : ∃ X, X = bm := ⟨_, rfl⟩
    have HX : Hid (X = if wideN b.toNat = 0 then b.toNat % 128 else ofBE (t.take (wideN b.toNat))) := Lib.hid (by rw [HW.out, if_pos rfl, hX, HNN.out.2.2.2.2, HNN.out.2.2.2.1])
    have hXb : X < 2 ^ 63 := by have := HNN.out.2.2.2.2; omega
    rw [← hX]
    clear hX
    go_wp2
    go_loopw [8, 12] (fun nv iv wx => ∃ j : Nat, j ≤ 4 ∧ nv = .int .i64 ((2 + j : Nat) : Int) ∧ iv = .int .i64 (j : Int) ∧ Hid (Row wx w.heap.size #[.bool false, .bool false, .bool false, .int .i64 0, .int .i64 0, .int .u8 0, .int .u8 0, .int .u8 0, .int .u8 0, .int .u64 0] 58 ∧ Row wx (w.heap.size + 1) (keyA k0 k1 k2 k3 j) 58 ∧ Below w.heap.size w wx)) (fun _ iv _ => 4 - (intOf iv).toNat)
    case atStart => exact ⟨0, by omega, rfl, rfl, HD⟩
    case round =>
      obtain ⟨j, hj, rfl, rfl, HJ⟩ := hrel
      have hc : j = 0 ∨ j = 1 ∨ j = 2 ∨ j = 3 ∨ j = 4 := by omega
      rcases hc with rfl | rfl | rfl | rfl | rfl
      · have hrow := HJ.out.2.1
        have xc := cell_of_row _ _ 5 _ _ (0, 0) hrow
        have xf := hrow.frozen 5
        have xc' : wr.cell? ⟨w.heap.size + 1, 5, none⟩ = some (.int .u8 0) := xc
        have HE : Hid (Row (wr.setCell ⟨w.heap.size + 1, 5, none⟩ (B k0)) w.heap.size #[.bool false, .bool false, .bool false, .int .i64 0, .int .i64 0, .int .u8 0, .int .u8 0, .int .u8 0, .int .u8 0, .int .u64 0] 58 ∧ Row (wr.setCell ⟨w.heap.size + 1, 5, none⟩ (B k0)) (w.heap.size + 1) (keyA k0 k1 k2 k3 1) 58 ∧ Below w.heap.size w (wr.setCell ⟨w.heap.size + 1, 5, none⟩ (B k0))) :=
          Lib.hid ⟨HJ.out.1.other (a := ⟨w.heap.size + 1, 5, none⟩) (by show w.heap.size ≠ w.heap.size + 1; omega), hrow.set 5 (B k0), below_set HJ.out.2.2 (by omega) _⟩
        clear hrow xc HJ
        go_wp2
        exact ⟨⟨1, by omega, by go_num, by go_num, HE⟩, by simp [intOf]⟩
      · have hrow := HJ.out.2.1
        have xc := cell_of_row _ _ 6 _ _ (0, 0) hrow
        have xf := hrow.frozen 6
        have xc' : wr.cell? ⟨w.heap.size + 1, 6, none⟩ = some (.int .u8 0) := xc
        have HE : Hid (Row (wr.setCell ⟨w.heap.size + 1, 6, none⟩ (B k1)) w.heap.size #[.bool false, .bool false, .bool false, .int .i64 0, .int .i64 0, .int .u8 0, .int .u8 0, .int .u8 0, .int .u8 0, .int .u64 0] 58 ∧ Row (wr.setCell ⟨w.heap.size + 1, 6, none⟩ (B k1)) (w.heap.size + 1) (keyA k0 k1 k2 k3 2) 58 ∧ Below w.heap.size w (wr.setCell ⟨w.heap.size + 1, 6, none⟩ (B k1))) :=
          Lib.hid ⟨HJ.out.1.other (a := ⟨w.heap.size + 1, 6, none⟩) (by show w.heap.size ≠ w.heap.size + 1; omega), hrow.set 6 (B k1), below_set HJ.out.2.2 (by omega) _⟩
        clear hrow xc HJ
        go_wp2
        exact ⟨⟨2, by omega, by go_num, by go_num, HE⟩, by simp [intOf]⟩
      · have hrow := HJ.out.2.1
        have xc := cell_of_row _ _ 7 _ _ (0, 0) hrow
        have xf := hrow.frozen 7
        have xc' : wr.cell? ⟨w.heap.size + 1, 7, none⟩ = some (.int .u8 0) := xc
        have HE : Hid (Row (wr.setCell ⟨w.heap.size + 1, 7, none⟩ (B k2)) w.heap.size #[.bool false, .bool false, .bool false, .int .i64 0, .int .i64 0, .int .u8 0, .int .u8 0, .int .u8 0, .int .u8 0, .int .u64 0] 58 ∧ Row (wr.setCell ⟨w.heap.size + 1, 7, none⟩ (B k2)) (w.heap.size + 1) (keyA k0 k1 k2 k3 3) 58 ∧ Below w.heap.size w (wr.setCell ⟨w.heap.size + 1, 7, none⟩ (B k2))) :=
          Lib.hid ⟨HJ.out.1.other (a := ⟨w.heap.size + 1, 7, none⟩) (by show w.heap.size ≠ w.heap.size + 1; omega), hrow.set 7 (B k2), below_set HJ.out.2.2 (by omega) _⟩
        clear hrow xc HJ
        go_wp2
        exact ⟨⟨3, by omega, by go_num, by go_num, HE⟩, by simp [intOf]⟩
      · have hrow := HJ.out.2.1
        have xc := cell_of_row _ _ 8 _ _ (0, 0) hrow
        have xf := hrow.frozen 8
        have xc' : wr.cell? ⟨w.heap.size + 1, 8, none⟩ = some (.int .u8 0) := xc
        have HE : Hid (Row (wr.setCell ⟨w.heap.size + 1, 8, none⟩ (B k3)) w.heap.size #[.bool false, .bool false, .bool false, .int .i64 0, .int .i64 0, .int .u8 0, .int .u8 0, .int .u8 0, .int .u8 0, .int .u64 0] 58 ∧ Row (wr.setCell ⟨w.heap.size + 1, 8, none⟩ (B k3)) (w.heap.size + 1) (keyA k0 k1 k2 k3 4) 58 ∧ Below w.heap.size w (wr.setCell ⟨w.heap.size + 1, 8, none⟩ (B k3))) :=
          Lib.hid ⟨HJ.out.1.other (a := ⟨w.heap.size + 1, 8, none⟩) (by show w.heap.size ≠ w.heap.size + 1; omega), hrow.set 8 (B k3), below_set HJ.out.2.2 (by omega) _⟩
        clear hrow xc HJ
        go_wp2
        exact ⟨⟨4, by omega, by go_num, by go_num, HE⟩, by simp [intOf]⟩
      have HD := HJ
      have hk : keyA k0 k1 k2 k3 4 = #[.bool false, .bool false, .bool false, .int .i64 0, .int .i64 0, B k0, B k1, B k2, B k3, .int .u64 0] := rfl
      rw [hk] at HD
      clear HJ hk
      obtain ⟨FN, hFN⟩ : ∃ x, x = decide (128 ≤ an) := ⟨_, rfl⟩
      have f1 : decide ((128 : Int) ≤ (an : Int)) = FN := by rw [hFN]; exact decide_eq_decide.2 (by omega)
      obtain ⟨A1, hA1⟩ : ∃ x, x = an / 16 := ⟨_, rfl⟩
      obtain ⟨R8, hR8⟩ : ∃ x, x = A1 % 8 := ⟨_, rfl⟩
      obtain ⟨O6, hO6⟩ : ∃ x, x = an % 16 := ⟨_, rfl⟩
      have p1 : IntKind.i64.wrap ((an : Int).tdiv 16) = (A1 : Int) := by rw [IntKind.wrap_i64, Int.tdiv_eq_ediv_of_nonneg (by omega)]; omega
      have p2 : (an : Int) / 16 = (A1 : Int) := by omega
      have p3 : IntKind.i64.wrap (A1 : Int) = (A1 : Int) := by rw [IntKind.wrap_i64]; omega
      have p4 : IntKind.i64.wrap ((A1 : Int).tmod 8) = (R8 : Int) := by rw [IntKind.wrap_i64, Int.tmod_eq_emod_of_nonneg (by omega)]; omega
      have p5 : (A1 : Int) % 8 = (R8 : Int) := by omega
      have p6 : IntKind.i64.wrap ((an : Int).tmod 16) = (O6 : Int) := by rw [IntKind.wrap_i64, Int.tmod_eq_emod_of_nonneg (by omega)]; omega
      have p7 : (an : Int) % 16 = (O6 : Int) := by omega
      obtain ⟨LE, hLE⟩ : ∃ x, x = leastN (wideN b.toNat) X := ⟨_, rfl⟩
      have hle : LE = true := by rw [hLE, HW.out]; rfl
      have HV : Hid (hrV (readHeadF s) = .tuple #[.agg #[.bool FN, .bool true, .bool LE, .int .i64 (R8 : Int), .int .i64 (O6 : Int), B k0, B k1, B k2, B k3, .int .u64 (X : Int)], .int .i64 6, .bool true]) := Lib.hid (by
        obtain ⟨n1, n2, n3, n4, n5⟩ := HNN.out
        have hmb : 128 ≤ b.toNat := by rw [← n4]; exact hm
        have hmore : moreN b = 4 := by unfold moreN; rw [HW.out, if_pos hmb]
        rw [HSS.out, head_cons a b t (by omega), hmore]
        unfold hrV headOf hrC
        dsimp only
        have q1 : decide (128 ≤ a.toNat) = FN := by rw [hFN, n3]
        have q2 : a.toNat / 16 % 8 = R8 := by rw [hR8, hA1, n3]
        have q3 : a.toNat % 16 = O6 := by rw [hO6, n3]
        have q4 : decide (128 ≤ b.toNat) = true := decide_eq_true hmb
        have q5 : (if 128 ≤ b.toNat then keyOf (t.drop (wideN b.toNat)) else key0) = ⟨k0, k1, k2, k3⟩ := by
          rw [if_pos hmb, HW.out]
          obtain ⟨e0, e1, e2, e3⟩ := HK.out
          have hd : t.drop 0 = k0 :: k1 :: k2 :: k3 :: t.drop 4 := by
            rw [List.drop_eq_getElem_cons (by omega), List.drop_eq_getElem_cons (by omega), List.drop_eq_getElem_cons (by omega), List.drop_eq_getElem_cons (by omega)]
            rw [(List.getElem?_eq_some_iff.1 e0).2, (List.getElem?_eq_some_iff.1 e1).2, (List.getElem?_eq_some_iff.1 e2).2, (List.getElem?_eq_some_iff.1 e3).2]
          rw [hd]; rfl
        rw [← HX.out, q1, q2, q3, q4, q5, ← hLE]
        rfl)
      have hrow := HD.out.2.1
      have hrz := HD.out.1
      have h0 : wr.cell? ⟨w.heap.size + 1, 0, none⟩ = some (.bool false) := cell_of_row wr _ 0 _ _ (0, 0) hrow
      have h1 : wr.cell? ⟨w.heap.size + 1, 1, none⟩ = some (.bool false) := cell_of_row wr _ 1 _ _ (0, 0) hrow
      have h2 : wr.cell? ⟨w.heap.size + 1, 2, none⟩ = some (.bool false) := cell_of_row wr _ 2 _ _ (0, 0) hrow
      have h3 : wr.cell? ⟨w.heap.size + 1, 3, none⟩ = some (.int .i64 0) := cell_of_row wr _ 3 _ _ (0, 0) hrow
      have h4 : wr.cell? ⟨w.heap.size + 1, 4, none⟩ = some (.int .i64 0) := cell_of_row wr _ 4 _ _ (0, 0) hrow
      have h5 : wr.cell? ⟨w.heap.size + 1, 5, none⟩ = some (B k0) := cell_of_row wr _ 5 _ _ (0, 0) hrow
      have h6 : wr.cell? ⟨w.heap.size + 1, 6, none⟩ = some (B k1) := cell_of_row wr _ 6 _ _ (0, 0) hrow
      have h7 : wr.cell? ⟨w.heap.size + 1, 7, none⟩ = some (B k2) := cell_of_row wr _ 7 _ _ (0, 0) hrow
      have h8 : wr.cell? ⟨w.heap.size + 1, 8, none⟩ = some (B k3) := cell_of_row wr _ 8 _ _ (0, 0) hrow
      have h9 : wr.cell? ⟨w.heap.size + 1, 9, none⟩ = some (.int .u64 0) := cell_of_row wr _ 9 _ _ (0, 0) hrow
      have hf0 := hrow.frozen 0
      have hf1 := hrow.frozen 1
      have hf2 := hrow.frozen 2
      have hf3 := hrow.frozen 3
      have hf4 := hrow.frozen 4
      have hf5 := hrow.frozen 5
      have hf6 := hrow.frozen 6
      have hf7 := hrow.frozen 7
      have hf8 := hrow.frozen 8
      have hf9 := hrow.frozen 9
      have z0 : wr.cell? ⟨w.heap.size, 0, none⟩ = some (.bool false) := cell_of_row wr _ 0 _ _ (0, 0) hrz
      have z1 : wr.cell? ⟨w.heap.size, 1, none⟩ = some (.bool false) := cell_of_row wr _ 1 _ _ (0, 0) hrz
      have z2 : wr.cell? ⟨w.heap.size, 2, none⟩ = some (.bool false) := cell_of_row wr _ 2 _ _ (0, 0) hrz
      have z3 : wr.cell? ⟨w.heap.size, 3, none⟩ = some (.int .i64 0) := cell_of_row wr _ 3 _ _ (0, 0) hrz
      have z4 : wr.cell? ⟨w.heap.size, 4, none⟩ = some (.int .i64 0) := cell_of_row wr _ 4 _ _ (0, 0) hrz
      have z5 : wr.cell? ⟨w.heap.size, 5, none⟩ = some (.int .u8 0) := cell_of_row wr _ 5 _ _ (0, 0) hrz
      have z6 : wr.cell? ⟨w.heap.size, 6, none⟩ = some (.int .u8 0) := cell_of_row wr _ 6 _ _ (0, 0) hrz
      have z7 : wr.cell? ⟨w.heap.size, 7, none⟩ = some (.int .u8 0) := cell_of_row wr _ 7 _ _ (0, 0) hrz
      have z8 : wr.cell? ⟨w.heap.size, 8, none⟩ = some (.int .u8 0) := cell_of_row wr _ 8 _ _ (0, 0) hrz
      have z9 : wr.cell? ⟨w.heap.size, 9, none⟩ = some (.int .u64 0) := cell_of_row wr _ 9 _ _ (0, 0) hrz
      have zf0 := hrz.frozen 0
      have zf1 := hrz.frozen 1
      have zf2 := hrz.frozen 2
      have zf3 := hrz.frozen 3
      have zf4 := hrz.frozen 4
      have zf5 := hrz.frozen 5
      have zf6 := hrz.frozen 6
      have zf7 := hrz.frozen 7
      have zf8 := hrz.frozen 8
      have zf9 := hrz.frozen 9
      have HRZ := Lib.hid (hrz)
      clear hFN hA1 hR8 hO6 hrow hrz
      subst hle
      clear hLE
      go_wp2
      have hz : Row ((((((wr.setCell ⟨w.heap.size + 1, 0, none⟩ (.bool FN)).setCell ⟨w.heap.size + 1, 3, none⟩ (.int .i64 (R8 : Int))).setCell ⟨w.heap.size + 1, 4, none⟩ (.int .i64 (O6 : Int))).setCell ⟨w.heap.size + 1, 1, none⟩ (.bool true)).setCell ⟨w.heap.size + 1, 9, none⟩ (.int .u64 (X : Int))).setCell ⟨w.heap.size + 1, 2, none⟩ (.bool true)) w.heap.size #[.bool false, .bool false, .bool false, .int .i64 0, .int .i64 0, .int .u8 0, .int .u8 0, .int .u8 0, .int .u8 0, .int .u64 0] 58 := ((((((HRZ.out.other (a := ⟨w.heap.size + 1, 0, none⟩) (by show w.heap.size ≠ w.heap.size + 1; omega)).other (a := ⟨w.heap.size + 1, 3, none⟩) (by show w.heap.size ≠ w.heap.size + 1; omega)).other (a := ⟨w.heap.size + 1, 4, none⟩) (by show w.heap.size ≠ w.heap.size + 1; omega)).other (a := ⟨w.heap.size + 1, 1, none⟩) (by show w.heap.size ≠ w.heap.size + 1; omega)).other (a := ⟨w.heap.size + 1, 9, none⟩) (by show w.heap.size ≠ w.heap.size + 1; omega)).other (a := ⟨w.heap.size + 1, 2, none⟩) (by show w.heap.size ≠ w.heap.size + 1; omega))
      refine bodyPost_ret (results_row3E rfl _ _ w.heap.size 58 #[.bool FN, .bool true, .bool true, .int .i64 (R8 : Int), .int .i64 (O6 : Int), B k0, B k1, B k2, B k3, .int .u64 (X : Int)] (0, 0) _ rfl (put10_row hz (.bool FN) (.bool true) (.bool true) (.int .i64 (R8 : Int)) (.int .i64 (O6 : Int)) (B k0) (B k1) (B k2) (B k3) (.int .u64 (X : Int))) Try.underlying58 rfl infoHr) rfl ?_
      exact ⟨by rw [HV.out]; rfl, put10_below (below_set (below_set (below_set (below_set (below_set (below_set HD.out.2.2 (by omega) _) (by omega) _) (by omega) _) (by omega) _) (by omega) _) (by omega) _) (Nat.le_refl _) _ _ _ _ _ _ _ _ _ _⟩
set_option maxRecDepth 100000 in
set_option maxHeartbeats 4000000 in
theorem rhead_0u (a b : UInt8) (t : List UInt8) (ht : t.length ≤ 1000000) (hw : wideN b.toNat = 0) (hm : ¬ 128 ≤ b.toNat) (hl : 0 ≤ t.length) (w : World) : Calls Try.prog 21 #[S (a :: b :: t)] w fun e w' => e = .returned (hrV (readHeadF (a :: b :: t))) ∧ Below w.heap.size w w' := by
  have hlS := run_len_S (P := Try.prog) Try.underlying9 3 (a :: b :: t)
  have hi0 : ∀ w', (Instr.index 9 (S (a :: b :: t)) (.int .i64 0)).run Try.prog w' = .ok (B a) w' := fun w' => index_S Try.underlying9 (a :: b :: t) 0 a rfl w'
  have hi1 : ∀ w', (Instr.index 9 (S (a :: b :: t)) (.int .i64 1)).run Try.prog w' = .ok (B b) w' := fun w' => index_S Try.underlying9 (a :: b :: t) 1 b rfl w'
  have hix : ∀ (j : Nat) (c : UInt8), t[j]? = some c → ∀ w', (Instr.index 9 (S (a :: b :: t)) (.int .i64 ((2 + j : Nat) : Int))).run Try.prog w' = .ok (B c) w' := fun j c hc w' => index_S Try.underlying9 (a :: b :: t) (2 + j) c (by rw [Nat.add_comm 2 j]; exact hc) w'
  have HIX := Lib.hid hix
  have hb := b.toNat_lt
  have ha := a.toNat_lt
  obtain ⟨N, hN⟩ : ∃ N, N = t.length := ⟨_, rfl⟩
  have hlS2 : ∀ w', (Builtin.len_ #[9] 3 #[S (a :: b :: t)]).run Try.prog w' = .ok (.int .i64 ((N + 2 : Nat) : Int)) w' := by rw [hN]; exact hlS
  obtain ⟨N2, hN2⟩ : ∃ x, x = N + 2 := ⟨_, rfl⟩
  rw [← hN2] at hlS2
  rw [← hN] at ht hl
  have cva : ∀ w', (convert 5 3 (B a)).run Try.prog w' = .ok (.int .i64 (a.toNat : Int)) w' := conv_byte Try.underlying5 Try.underlying3 a
  have cvb : ∀ w', (convert 5 3 (B b)).run Try.prog w' = .ok (.int .i64 (b.toNat : Int)) w' := conv_byte Try.underlying5 Try.underlying3 b
  obtain ⟨an, han⟩ : ∃ x, x = a.toNat := ⟨_, rfl⟩
  obtain ⟨bn, hbn⟩ : ∃ x, x = b.toNat := ⟨_, rfl⟩
  rw [← han] at cva ha
  rw [← hbn] at cvb hb hw hm
  obtain ⟨bm, hbm⟩ : ∃ x, x = bn % 128 := ⟨_, rfl⟩
  have r1 : (bn : Int).tmod 128 = (bm : Int) := by rw [Int.tmod_eq_emod_of_nonneg (by omega)]; omega
  have r2 : (bn : Int) % 128 = (bm : Int) := by omega
  have r3 : IntKind.i64.wrap (bm : Int) = (bm : Int) := by rw [IntKind.wrap_i64]; omega
  have cvm : ∀ w', (convert 3 56 (.int .i64 (bm : Int))).run Try.prog w' = .ok (.int .u64 (bm : Int)) w' := conv_iu Try.underlying56 Try.underlying3 bm (by omega)
  have hbw : bm ≠ 126 ∧ bm ≠ 127 := by unfold wideN at hw; rw [← hbm] at hw; exact ⟨fun e => (by rw [if_pos e] at hw; cases hw), fun e => (by rw [if_neg (by omega), if_pos e] at hw; cases hw)⟩
  have q1 : ((bm : Int) == 126) = false := by rw [beq_eq_false_iff_ne]; omega
  have q2 : ((bm : Int) == 127) = false := by rw [beq_eq_false_iff_ne]; omega
  have g0 : decide ((N2 : Int) < 2) = false := decide_eq_false (by omega)
  have g3 : decide ((N2 : Int) < 2) = false := decide_eq_false (by omega)
  have g4 : decide ((128 : Int) ≤ (bn : Int)) = false := decide_eq_false (by omega)
  have g5 : decide ((N2 : Int) < 2) = false := decide_eq_false (by omega)
  have HNN := Lib.hid (And.intro hN (And.intro hN2 (And.intro han (And.intro hbn hbm))))
  obtain ⟨s, hs⟩ : ∃ s, s = a :: b :: t := ⟨_, rfl⟩
  have HSS := Lib.hid hs
  rw [← hs] at hi0 hi1 hlS2 HIX ⊢
  have HW : Hid (wideN b.toNat = 0) := Lib.hid (by rw [← hbn]; exact hw)
  clear hN hN2 han hbn hbm hlS hix hs hw
  go_enter Try.func21, Try.ntmps21
  go_wp2
  go_quiet (fail)
  obtain ⟨Wd, hWd⟩ : ∃ W, W = ((w.alloc (.cells #[.bool false, .bool false, .bool false, .int .i64 0, .int .i64 0, .int .u8 0, .int .u8 0, .int .u8 0, .int .u8 0, .int .u64 0] 58)).alloc (.cells #[.bool false, .bool false, .bool false, .int .i64 0, .int .i64 0, .int .u8 0, .int .u8 0, .int .u8 0, .int .u8 0, .int .u64 0] 58)).drewN nq := ⟨_, rfl⟩
  have hz0 : Row Wd w.heap.size #[.bool false, .bool false, .bool false, .int .i64 0, .int .i64 0, .int .u8 0, .int .u8 0, .int .u8 0, .int .u8 0, .int .u64 0] 58 := by rw [hWd]; exact (row_new w _ _).alloc _
  have hz1 : Row Wd (w.heap.size + 1) #[.bool false, .bool false, .bool false, .int .i64 0, .int .i64 0, .int .u8 0, .int .u8 0, .int .u8 0, .int .u8 0, .int .u64 0] 58 := by
    have h := row_new (w.alloc (.cells #[.bool false, .bool false, .bool false, .int .i64 0, .int .i64 0, .int .u8 0, .int .u8 0, .int .u8 0, .int .u8 0, .int .u64 0] 58)) #[.bool false, .bool false, .bool false, .int .i64 0, .int .i64 0, .int .u8 0, .int .u8 0, .int .u8 0, .int .u8 0, .int .u64 0] 58
    rw [alloc_size] at h
    rw [hWd]; exact h
  have hbd : Below w.heap.size w Wd := by rw [hWd]; exact (((Below.refl _ _).alloc (Nat.le_refl _) _).alloc (by rw [alloc_size]; omega) _).trans (below_drewN _ nq |>.mono (by rw [alloc_size, alloc_size]; omega))
  rw [← hWd]
  have HD := Lib.hid (And.intro hz0 (And.intro hz1 hbd))
  clear hWd hz0 hz1 hbd
  go_wp2
  go_loopw [8, 9, 11] (fun nv xv iv wr => nv = .int .i64 2 ∧ xv = .int .u64 (bm : Int) ∧ iv = .int .i64 0 ∧ wr = Wd) (fun _ _ _ _ => 0)
  case atStart => exact ⟨rfl, rfl, rfl, rfl⟩
  case round =>
    obtain ⟨rfl, rfl, rfl, rfl⟩ := hrel
    obtain ⟨X, hX⟩ : ∃ X, X = bm := ⟨_, rfl⟩
    have HX : Hid (X = if wideN b.toNat = 0 then b.toNat % 128 else ofBE (t.take (wideN b.toNat))) := Lib.hid (by rw [HW.out, if_pos rfl, hX, HNN.out.2.2.2.2, HNN.out.2.2.2.1])
    have hXb : X < 2 ^ 63 := by have := HNN.out.2.2.2.2; omega
    rw [← hX]
    clear hX
    obtain ⟨FN, hFN⟩ : ∃ x, x = decide (128 ≤ an) := ⟨_, rfl⟩
    have f1 : decide ((128 : Int) ≤ (an : Int)) = FN := by rw [hFN]; exact decide_eq_decide.2 (by omega)
    obtain ⟨A1, hA1⟩ : ∃ x, x = an / 16 := ⟨_, rfl⟩
    obtain ⟨R8, hR8⟩ : ∃ x, x = A1 % 8 := ⟨_, rfl⟩
    obtain ⟨O6, hO6⟩ : ∃ x, x = an % 16 := ⟨_, rfl⟩
    have p1 : IntKind.i64.wrap ((an : Int).tdiv 16) = (A1 : Int) := by rw [IntKind.wrap_i64, Int.tdiv_eq_ediv_of_nonneg (by omega)]; omega
    have p2 : (an : Int) / 16 = (A1 : Int) := by omega
    have p3 : IntKind.i64.wrap (A1 : Int) = (A1 : Int) := by rw [IntKind.wrap_i64]; omega
    have p4 : IntKind.i64.wrap ((A1 : Int).tmod 8) = (R8 : Int) := by rw [IntKind.wrap_i64, Int.tmod_eq_emod_of_nonneg (by omega)]; omega
    have p5 : (A1 : Int) % 8 = (R8 : Int) := by omega
    have p6 : IntKind.i64.wrap ((an : Int).tmod 16) = (O6 : Int) := by rw [IntKind.wrap_i64, Int.tmod_eq_emod_of_nonneg (by omega)]; omega
    have p7 : (an : Int) % 16 = (O6 : Int) := by omega
    obtain ⟨LE, hLE⟩ : ∃ x, x = leastN (wideN b.toNat) X := ⟨_, rfl⟩
    have hle : LE = true := by rw [hLE, HW.out]; rfl
    have HV : Hid (hrV (readHeadF s) = .tuple #[.agg #[.bool FN, .bool false, .bool LE, .int .i64 (R8 : Int), .int .i64 (O6 : Int), .int .u8 0, .int .u8 0, .int .u8 0, .int .u8 0, .int .u64 (X : Int)], .int .i64 2, .bool true]) := Lib.hid (by
      obtain ⟨n1, n2, n3, n4, n5⟩ := HNN.out
      have hmb : ¬ 128 ≤ b.toNat := by rw [← n4]; exact hm
      have hmore : moreN b = 0 := by unfold moreN; rw [HW.out, if_neg hmb]
      rw [HSS.out, head_cons a b t (by omega), hmore]
      unfold hrV headOf hrC
      dsimp only
      have q1 : decide (128 ≤ a.toNat) = FN := by rw [hFN, n3]
      have q2 : a.toNat / 16 % 8 = R8 := by rw [hR8, hA1, n3]
      have q3 : a.toNat % 16 = O6 := by rw [hO6, n3]
      have q4 : decide (128 ≤ b.toNat) = false := decide_eq_false hmb
      have q5 : (if 128 ≤ b.toNat then keyOf (t.drop (wideN b.toNat)) else key0) = key0 := by
        rw [if_neg hmb]
      rw [← HX.out, q1, q2, q3, q4, q5, ← hLE]
      rfl)
    have hrow := HD.out.2.1
    have hrz := HD.out.1
    have h0 : wr.cell? ⟨w.heap.size + 1, 0, none⟩ = some (.bool false) := cell_of_row wr _ 0 _ _ (0, 0) hrow
    have h1 : wr.cell? ⟨w.heap.size + 1, 1, none⟩ = some (.bool false) := cell_of_row wr _ 1 _ _ (0, 0) hrow
    have h2 : wr.cell? ⟨w.heap.size + 1, 2, none⟩ = some (.bool false) := cell_of_row wr _ 2 _ _ (0, 0) hrow
    have h3 : wr.cell? ⟨w.heap.size + 1, 3, none⟩ = some (.int .i64 0) := cell_of_row wr _ 3 _ _ (0, 0) hrow
    have h4 : wr.cell? ⟨w.heap.size + 1, 4, none⟩ = some (.int .i64 0) := cell_of_row wr _ 4 _ _ (0, 0) hrow
    have h5 : wr.cell? ⟨w.heap.size + 1, 5, none⟩ = some (.int .u8 0) := cell_of_row wr _ 5 _ _ (0, 0) hrow
    have h6 : wr.cell? ⟨w.heap.size + 1, 6, none⟩ = some (.int .u8 0) := cell_of_row wr _ 6 _ _ (0, 0) hrow
    have h7 : wr.cell? ⟨w.heap.size + 1, 7, none⟩ = some (.int .u8 0) := cell_of_row wr _ 7 _ _ (0, 0) hrow
    have h8 : wr.cell? ⟨w.heap.size + 1, 8, none⟩ = some (.int .u8 0) := cell_of_row wr _ 8 _ _ (0, 0) hrow
    have h9 : wr.cell? ⟨w.heap.size + 1, 9, none⟩ = some (.int .u64 0) := cell_of_row wr _ 9 _ _ (0, 0) hrow
    have hf0 := hrow.frozen 0
    have hf1 := hrow.frozen 1
    have hf2 := hrow.frozen 2
    have hf3 := hrow.frozen 3
    have hf4 := hrow.frozen 4
    have hf5 := hrow.frozen 5
    have hf6 := hrow.frozen 6
    have hf7 := hrow.frozen 7
    have hf8 := hrow.frozen 8
    have hf9 := hrow.frozen 9
    have z0 : wr.cell? ⟨w.heap.size, 0, none⟩ = some (.bool false) := cell_of_row wr _ 0 _ _ (0, 0) hrz
    have z1 : wr.cell? ⟨w.heap.size, 1, none⟩ = some (.bool false) := cell_of_row wr _ 1 _ _ (0, 0) hrz
    have z2 : wr.cell? ⟨w.heap.size, 2, none⟩ = some (.bool false) := cell_of_row wr _ 2 _ _ (0, 0) hrz
    have z3 : wr.cell? ⟨w.heap.size, 3, none⟩ = some (.int .i64 0) := cell_of_row wr _ 3 _ _ (0, 0) hrz
    have z4 : wr.cell? ⟨w.heap.size, 4, none⟩ = some (.int .i64 0) := cell_of_row wr _ 4 _ _ (0, 0) hrz
    have z5 : wr.cell? ⟨w.heap.size, 5, none⟩ = some (.int .u8 0) := cell_of_row wr _ 5 _ _ (0, 0) hrz
    have z6 : wr.cell? ⟨w.heap.size, 6, none⟩ = some (.int .u8 0) := cell_of_row wr _ 6 _ _ (0, 0) hrz
    have z7 : wr.cell? ⟨w.heap.size, 7, none⟩ = some (.int .u8 0) := cell_of_row wr _ 7 _ _ (0, 0) hrz
    have z8 : wr.cell? ⟨w.heap.size, 8, none⟩ = some (.int .u8 0) := cell_of_row wr _ 8 _ _ (0, 0) hrz
    have z9 : wr.cell? ⟨w.heap.size, 9, none⟩ = some (.int .u64 0) := cell_of_row wr _ 9 _ _ (0, 0) hrz
    have zf0 := hrz.frozen 0
    have zf1 := hrz.frozen 1
    have zf2 := hrz.frozen 2
    have zf3 := hrz.frozen 3
    have zf4 := hrz.frozen 4
    have zf5 := hrz.frozen 5
    have zf6 := hrz.frozen 6
    have zf7 := hrz.frozen 7
    have zf8 := hrz.frozen 8
    have zf9 := hrz.frozen 9
    have HRZ := Lib.hid (hrz)
    clear hFN hA1 hR8 hO6 hrow hrz
    subst hle
    clear hLE
    go_wp2
    have hz : Row ((((((wr.setCell ⟨w.heap.size + 1, 0, none⟩ (.bool FN)).setCell ⟨w.heap.size + 1, 3, none⟩ (.int .i64 (R8 : Int))).setCell ⟨w.heap.size + 1, 4, none⟩ (.int .i64 (O6 : Int))).setCell ⟨w.heap.size + 1, 1, none⟩ (.bool false)).setCell ⟨w.heap.size + 1, 9, none⟩ (.int .u64 (X : Int))).setCell ⟨w.heap.size + 1, 2, none⟩ (.bool true)) w.heap.size #[.bool false, .bool false, .bool false, .int .i64 0, .int .i64 0, .int .u8 0, .int .u8 0, .int .u8 0, .int .u8 0, .int .u64 0] 58 := ((((((HRZ.out.other (a := ⟨w.heap.size + 1, 0, none⟩) (by show w.heap.size ≠ w.heap.size + 1; omega)).other (a := ⟨w.heap.size + 1, 3, none⟩) (by show w.heap.size ≠ w.heap.size + 1; omega)).other (a := ⟨w.heap.size + 1, 4, none⟩) (by show w.heap.size ≠ w.heap.size + 1; omega)).other (a := ⟨w.heap.size + 1, 1, none⟩) (by show w.heap.size ≠ w.heap.size + 1; omega)).other (a := ⟨w.heap.size + 1, 9, none⟩) (by show w.heap.size ≠ w.heap.size + 1; omega)).other (a := ⟨w.heap.size + 1, 2, none⟩) (by show w.heap.size ≠ w.heap.size + 1; omega))
    refine bodyPost_ret (results_row3E rfl _ _ w.heap.size 58 #[.bool FN, .bool false, .bool true, .int .i64 (R8 : Int), .int .i64 (O6 : Int), .int .u8 0, .int .u8 0, .int .u8 0, .int .u8 0, .int .u64 (X : Int)] (0, 0) _ rfl (put10_row hz (.bool FN) (.bool false) (.bool true) (.int .i64 (R8 : Int)) (.int .i64 (O6 : Int)) (.int .u8 0) (.int .u8 0) (.int .u8 0) (.int .u8 0) (.int .u64 (X : Int))) Try.underlying58 rfl infoHr) rfl ?_
    exact ⟨by rw [HV.out]; rfl, put10_below (below_set (below_set (below_set (below_set (below_set (below_set HD.out.2.2 (by omega) _) (by omega) _) (by omega) _) (by omega) _) (by omega) _) (by omega) _) (Nat.le_refl _) _ _ _ _ _ _ _ _ _ _⟩
end Go.Proofs.Ytlmolmmhkddpaaa
