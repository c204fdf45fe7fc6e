/- The law's ReplyCodes (stage 10) walked. (mkpk.py writes it.) -/
import Derived.Test.YtfdbmbgpcioogaaGreatDoorPj
namespace Go.Proofs.YtfdbmbgpcioogaaGreatDoor
open Go.RowKit
attribute [local go_sem] store_one S_match S_store eguard_BN nguard_BN

set_option maxRecDepth 100000 in
set_option maxHeartbeats 2000000 in
theorem codes_any {w : World} (C : ReplyI w) (c : Int) (p t : List UInt8) : Calls Tryz.prog 4 #[.int .i64 c, .agg #[S p, S t]] w fun e w' => e = .returned (.bool true) ∧ Below w.heap.size w w' := by
  have HC := Lib.hid C
  obtain ⟨b3, hb3⟩ : ∃ b, b = w.heap.size := ⟨_, rfl⟩
  obtain ⟨W1, hW1⟩ : ∃ W, W = w.alloc (.cells #[S p, S t] 35) := ⟨_, rfl⟩
  have hB1 : Below w.heap.size w W1 := by rw [hW1]; exact (Below.refl _ w).alloc (Nat.le_refl _) _
  have hr1 : Row W1 b3 #[S p, S t] 35 := by rw [hW1, hb3]; exact row_new _ _ _
  have HAW := Lib.hid (awake10_any (C.up hB1))
  have H1 := Lib.hid (And.intro hB1 hr1)
  have hl1 := run_len_S (P := Tryz.prog) Tryz.underlying9 3 p
  have hl2 := run_len_S (P := Tryz.prog) Tryz.underlying9 3 t
  obtain ⟨lp, hlp⟩ : ∃ lp, lp = p.length := ⟨_, rfl⟩
  obtain ⟨lt, hlt⟩ : ∃ lt, lt = t.length := ⟨_, rfl⟩
  rw [← hlp] at hl1
  rw [← hlt] at hl2
  have HLL := Lib.hid (And.intro hlp hlt)
  clear C hB1 hr1 hlp hlt
  go_enter Tryz.func4, Tryz.ntmps4
  go_wp2_with fail
  all_goals try rw [← hW1, ← hb3]
  clear hW1 hb3
  refine HAW.out.mono ?_
  rintro e W2 ⟨rfl, hB⟩
  have H2 := Lib.hid (And.intro (H1.out.1.trans (hB.mono H1.out.1.size)) (H1.out.2.below hB H1.out.2.lt))
  have c0 : W2.cell? ⟨b3, 0, none⟩ = some (S p) := cell_of_row W2 _ 0 _ _ (0, 0) H2.out.2
  have c1 : W2.cell? ⟨b3, 1, none⟩ = some (S t) := cell_of_row W2 _ 1 _ _ (0, 0) H2.out.2
  clear hB HAW H1
  by_cases h1 : 1000 < lp
  · have g1 : decide ((1000 : Int) < (lp : Int)) = true := decide_eq_true (by omega)
    go_wp2
    go_ret
    exact ⟨rfl, H2.out.1⟩
  have g1 : decide ((1000 : Int) < (lp : Int)) = false := decide_eq_false (by omega)
  by_cases h2 : 1000 < lt
  · have g2 : decide ((1000 : Int) < (lt : Int)) = true := decide_eq_true (by omega)
    go_wp2
    go_ret
    exact ⟨rfl, H2.out.1⟩
  have g2 : decide ((1000 : Int) < (lt : Int)) = false := decide_eq_false (by omega)
  have HS := Lib.hid (show p.length ≤ 1000 ∧ t.length ≤ 1000 by have := HLL.out; omega)
  have hps : p.length ≤ 1000 := HS.out.1
  have hts : t.length ≤ 1000 := HS.out.2
  obtain ⟨R, hR⟩ : ∃ R, R = rsnF c := ⟨_, rfl⟩
  have hRl := (rsn_ok c).2
  rw [← hR] at hRl
  have HDR : Hid (∀ W, Calls Tryz.prog 12 #[.int .i64 c] W fun e w' => e = .returned (S R) ∧ Below W.heap.size W w') := Lib.hid fun W => by rw [hR]; exact dreason_any c W
  have yX1 : binOp .add 9 (.string ⟨#[72, 84, 84, 80, 47, 49, 46, 49, 32]⟩) (S R) = pure (S (([72, 84, 84, 80, 47, 49, 46, 49, 32] : List UInt8) ++ R)) := S_add 9 [72, 84, 84, 80, 47, 49, 46, 49, 32] R (by first | omega | (simp only [List.length_cons, List.length_nil]; omega))
  obtain ⟨X1, hX1⟩ : ∃ Y, Y = ([72, 84, 84, 80, 47, 49, 46, 49, 32] : List UInt8) ++ R := ⟨_, rfl⟩
  rw [← hX1] at yX1
  have lX1 : X1.length ≤ 9 + 40 := by rw [hX1, List.length_append]; first | omega | (simp only [List.length_cons, List.length_nil]; omega)
  clear hX1
  have yX2 : binOp .add 9 (S X1) (.string ⟨#[13, 10, 13, 10]⟩) = pure (S ((X1 : List UInt8) ++ [13, 10, 13, 10])) := S_add 9 X1 [13, 10, 13, 10] (by first | omega | (simp only [List.length_cons, List.length_nil]; omega))
  obtain ⟨X2, hX2⟩ : ∃ Y, Y = (X1 : List UInt8) ++ [13, 10, 13, 10] := ⟨_, rfl⟩
  rw [← hX2] at yX2
  have lX2 : X2.length ≤ 9 + 40 + 4 := by rw [hX2, List.length_append]; first | omega | (simp only [List.length_cons, List.length_nil]; omega)
  clear hX2
  have yY1 : binOp .add 9 (.string ⟨#[72, 84, 84, 80, 47, 49, 46, 49, 32, 50, 48, 48, 32, 13, 10]⟩) (S p) = pure (S (([72, 84, 84, 80, 47, 49, 46, 49, 32, 50, 48, 48, 32, 13, 10] : List UInt8) ++ p)) := S_add 9 [72, 84, 84, 80, 47, 49, 46, 49, 32, 50, 48, 48, 32, 13, 10] p (by first | omega | (simp only [List.length_cons, List.length_nil]; omega))
  obtain ⟨Y1, hY1⟩ : ∃ Y, Y = ([72, 84, 84, 80, 47, 49, 46, 49, 32, 50, 48, 48, 32, 13, 10] : List UInt8) ++ p := ⟨_, rfl⟩
  rw [← hY1] at yY1
  have lY1 : Y1.length ≤ 15 + 1000 := by rw [hY1, List.length_append]; first | omega | (simp only [List.length_cons, List.length_nil]; omega)
  clear hY1
  have yY2 : binOp .add 9 (S Y1) (.string ⟨#[58]⟩) = pure (S ((Y1 : List UInt8) ++ [58])) := S_add 9 Y1 [58] (by first | omega | (simp only [List.length_cons, List.length_nil]; omega))
  obtain ⟨Y2, hY2⟩ : ∃ Y, Y = (Y1 : List UInt8) ++ [58] := ⟨_, rfl⟩
  rw [← hY2] at yY2
  have lY2 : Y2.length ≤ 15 + 1000 + 1 := by rw [hY2, List.length_append]; first | omega | (simp only [List.length_cons, List.length_nil]; omega)
  clear hY2
  have yY3 : binOp .add 9 (S Y2) (S t) = pure (S ((Y2 : List UInt8) ++ t)) := S_add 9 Y2 t (by first | omega | (simp only [List.length_cons, List.length_nil]; omega))
  obtain ⟨Y3, hY3⟩ : ∃ Y, Y = (Y2 : List UInt8) ++ t := ⟨_, rfl⟩
  rw [← hY3] at yY3
  have lY3 : Y3.length ≤ 15 + 1000 + 1 + 1000 := by rw [hY3, List.length_append]; first | omega | (simp only [List.length_cons, List.length_nil]; omega)
  clear hY3
  have yY4 : binOp .add 9 (S Y3) (.string ⟨#[13, 10, 67, 111, 110, 116, 101, 110, 116, 45, 76, 101, 110, 103, 116, 104, 58, 32, 49, 13, 10, 13, 10, 120]⟩) = pure (S ((Y3 : List UInt8) ++ [13, 10, 67, 111, 110, 116, 101, 110, 116, 45, 76, 101, 110, 103, 116, 104, 58, 32, 49, 13, 10, 13, 10, 120])) := S_add 9 Y3 [13, 10, 67, 111, 110, 116, 101, 110, 116, 45, 76, 101, 110, 103, 116, 104, 58, 32, 49, 13, 10, 13, 10, 120] (by first | omega | (simp only [List.length_cons, List.length_nil]; omega))
  obtain ⟨Y4, hY4⟩ : ∃ Y, Y = (Y3 : List UInt8) ++ [13, 10, 67, 111, 110, 116, 101, 110, 116, 45, 76, 101, 110, 103, 116, 104, 58, 32, 49, 13, 10, 13, 10, 120] := ⟨_, rfl⟩
  rw [← hY4] at yY4
  have lY4 : Y4.length ≤ 15 + 1000 + 1 + 1000 + 24 := by rw [hY4, List.length_append]; first | omega | (simp only [List.length_cons, List.length_nil]; omega)
  clear hY4
  have yZ1 : binOp .add 9 (.string ⟨#[72, 84, 84, 80, 47, 49, 46, 49, 32, 49, 48, 49, 32, 13, 10]⟩) (S p) = pure (S (([72, 84, 84, 80, 47, 49, 46, 49, 32, 49, 48, 49, 32, 13, 10] : List UInt8) ++ p)) := S_add 9 [72, 84, 84, 80, 47, 49, 46, 49, 32, 49, 48, 49, 32, 13, 10] p (by first | omega | (simp only [List.length_cons, List.length_nil]; omega))
  obtain ⟨Z1, hZ1⟩ : ∃ Y, Y = ([72, 84, 84, 80, 47, 49, 46, 49, 32, 49, 48, 49, 32, 13, 10] : List UInt8) ++ p := ⟨_, rfl⟩
  rw [← hZ1] at yZ1
  have lZ1 : Z1.length ≤ 15 + 1000 := by rw [hZ1, List.length_append]; first | omega | (simp only [List.length_cons, List.length_nil]; omega)
  clear hZ1
  have yZ2 : binOp .add 9 (S Z1) (.string ⟨#[58]⟩) = pure (S ((Z1 : List UInt8) ++ [58])) := S_add 9 Z1 [58] (by first | omega | (simp only [List.length_cons, List.length_nil]; omega))
  obtain ⟨Z2, hZ2⟩ : ∃ Y, Y = (Z1 : List UInt8) ++ [58] := ⟨_, rfl⟩
  rw [← hZ2] at yZ2
  have lZ2 : Z2.length ≤ 15 + 1000 + 1 := by rw [hZ2, List.length_append]; first | omega | (simp only [List.length_cons, List.length_nil]; omega)
  clear hZ2
  have yZ3 : binOp .add 9 (S Z2) (S t) = pure (S ((Z2 : List UInt8) ++ t)) := S_add 9 Z2 t (by first | omega | (simp only [List.length_cons, List.length_nil]; omega))
  obtain ⟨Z3, hZ3⟩ : ∃ Y, Y = (Z2 : List UInt8) ++ t := ⟨_, rfl⟩
  rw [← hZ3] at yZ3
  have lZ3 : Z3.length ≤ 15 + 1000 + 1 + 1000 := by rw [hZ3, List.length_append]; first | omega | (simp only [List.length_cons, List.length_nil]; omega)
  clear hZ3
  have yZ4 : binOp .add 9 (S Z3) (.string ⟨#[13, 10, 13, 10]⟩) = pure (S ((Z3 : List UInt8) ++ [13, 10, 13, 10])) := S_add 9 Z3 [13, 10, 13, 10] (by first | omega | (simp only [List.length_cons, List.length_nil]; omega))
  obtain ⟨Z4, hZ4⟩ : ∃ Y, Y = (Z3 : List UInt8) ++ [13, 10, 13, 10] := ⟨_, rfl⟩
  rw [← hZ4] at yZ4
  have lZ4 : Z4.length ≤ 15 + 1000 + 1 + 1000 + 4 := by rw [hZ4, List.length_append]; first | omega | (simp only [List.length_cons, List.length_nil]; omega)
  clear hZ4
  clear hps hts hR hRl h1 h2
  obtain ⟨g, hg⟩ : ∃ g, g = W2.heap.size := ⟨_, rfl⟩
  obtain ⟨b5, hb5⟩ : ∃ b, b = W2.heap.size + 1 := ⟨_, rfl⟩
  obtain ⟨b6, hb6⟩ : ∃ b, b = W2.heap.size + 1 + 1 := ⟨_, rfl⟩
  obtain ⟨W5, hW5⟩ : ∃ W, W = ((W2.alloc (.cells #[S p, S t] 35)).alloc (.cells #[.int .i64 c, .slice (some ⟨g, 0, none⟩) 1 1, .string ⟨#[]⟩] 24)).alloc (.cells #[.int .i64 c, .slice (some ⟨g, 0, none⟩) 1 1, .string ⟨#[120]⟩] 24) := ⟨_, rfl⟩
  have hrg : Row W5 g #[S p, S t] 35 := by rw [hW5, hg]; exact ((row_new W2 _ _).alloc _).alloc _
  have hr5 : Row W5 b5 #[.int .i64 c, .slice (some ⟨g, 0, none⟩) 1 1, .string ⟨#[]⟩] 24 := by
    have := (row_new (W2.alloc (.cells #[S p, S t] 35)) #[.int .i64 c, .slice (some ⟨g, 0, none⟩) 1 1, .string ⟨#[]⟩] 24).alloc (.cells #[.int .i64 c, .slice (some ⟨g, 0, none⟩) 1 1, .string ⟨#[120]⟩] 24)
    rw [alloc_size] at this
    rw [hW5, hb5]; exact this
  have hr6 : Row W5 b6 #[.int .i64 c, .slice (some ⟨g, 0, none⟩) 1 1, .string ⟨#[120]⟩] 24 := by
    have := row_new ((W2.alloc (.cells #[S p, S t] 35)).alloc (.cells #[.int .i64 c, .slice (some ⟨g, 0, none⟩) 1 1, .string ⟨#[]⟩] 24)) #[.int .i64 c, .slice (some ⟨g, 0, none⟩) 1 1, .string ⟨#[120]⟩] 24
    rw [alloc_size, alloc_size] at this
    rw [hW5, hb6]; exact this
  have hB5 : Below W2.heap.size W2 W5 := by rw [hW5]; exact (((Below.refl _ W2).alloc (Nat.le_refl _) _).alloc (by simp) _).alloc (by simp; omega) _
  have H5 := Lib.hid (And.intro (H2.out.1.trans (hB5.mono H2.out.1.size)) (And.intro (show FA W5 (.slice (some ⟨g, 0, none⟩) 1 1) [(p, t)] g 0 from fa_row (fs := [(p, t)]) hrg) (And.intro hr5 (And.intro hr6 (H2.out.2.below hB5 H2.out.2.lt)))))
  have HW5 := Lib.hid (And.intro hW5 (And.intro hg (And.intro hb5 hb6)))
  rw [hg] at hW5
  clear hrg hr5 hr6 hB5 H2
  go_wp2_with fail
  clear c0 c1
  rw [← hW5, ← hg]
  clear hW5
  have tidy : Hid (b5 = W2.heap.size + 1 ∧ b6 = W2.heap.size + 1 + 1) := Lib.hid ⟨hb5, hb6⟩
  rw [← hg] at hb5 hb6
  rw [← hb6, ← hb5]
  clear hb5 hb6 hg HW5
  refine (writes_any (HC.out.up H5.out.1) c [(p, t)] [] false false _ g 0 H5.out.2.1 (by decide)).mono ?_
  rintro e W6 ⟨rfl, hB⟩
  have H6 := Lib.hid (And.intro (H5.out.1.trans (hB.mono H5.out.1.size)) (And.intro (H5.out.2.1.below hB) (And.intro (H5.out.2.2.1.below hB H5.out.2.2.1.lt) (And.intro (H5.out.2.2.2.1.below hB H5.out.2.2.2.1.lt) (H5.out.2.2.2.2.below hB H5.out.2.2.2.2.lt)))))
  clear hB H5
  have k0 : W6.cell? ⟨b5, 0, none⟩ = some (.int .i64 c) := cell_of_row W6 _ 0 _ _ (0, 0) H6.out.2.2.1
  have k1 : W6.cell? ⟨b5, 1, none⟩ = some (.slice (some ⟨g, 0, none⟩) 1 1) := cell_of_row W6 _ 1 _ _ (0, 0) H6.out.2.2.1
  have k2 : W6.cell? ⟨b5, 2, none⟩ = some (.string ⟨#[]⟩) := cell_of_row W6 _ 2 _ _ (0, 0) H6.out.2.2.1
  go_wp2_with fail
  clear k0 k1 k2
  refine (writes_any (HC.out.up H6.out.1) c [(p, t)] [] false true _ g 0 H6.out.2.1 (by decide)).mono ?_
  rintro e W7 ⟨rfl, hB⟩
  have H7 := Lib.hid (And.intro (H6.out.1.trans (hB.mono H6.out.1.size)) (And.intro (H6.out.2.1.below hB) (And.intro (H6.out.2.2.1.below hB H6.out.2.2.1.lt) (And.intro (H6.out.2.2.2.1.below hB H6.out.2.2.2.1.lt) (H6.out.2.2.2.2.below hB H6.out.2.2.2.2.lt)))))
  clear hB H6
  have k0 : W7.cell? ⟨b6, 0, none⟩ = some (.int .i64 c) := cell_of_row W7 _ 0 _ _ (0, 0) H7.out.2.2.2.1
  have k1 : W7.cell? ⟨b6, 1, none⟩ = some (.slice (some ⟨g, 0, none⟩) 1 1) := cell_of_row W7 _ 1 _ _ (0, 0) H7.out.2.2.2.1
  have k2 : W7.cell? ⟨b6, 2, none⟩ = some (.string ⟨#[120]⟩) := cell_of_row W7 _ 2 _ _ (0, 0) H7.out.2.2.2.1
  go_wp2_with fail
  clear k0 k1 k2
  refine (writes_any (HC.out.up H7.out.1) c [(p, t)] [120] true true _ g 0 H7.out.2.1 (by decide)).mono ?_
  rintro e W8 ⟨rfl, hB⟩
  have H8 := Lib.hid (And.intro (H7.out.1.trans (hB.mono H7.out.1.size)) (And.intro (H7.out.2.1.below hB) (And.intro (H7.out.2.2.1.below hB H7.out.2.2.1.lt) (And.intro (H7.out.2.2.2.1.below hB H7.out.2.2.2.1.lt) (H7.out.2.2.2.2.below hB H7.out.2.2.2.2.lt)))))
  clear hB H7
  go_wp2_with fail
  refine (HDR.out W8).mono ?_
  rintro e W9 ⟨rfl, hB⟩
  have H9 := Lib.hid (And.intro (H8.out.1.trans (hB.mono H8.out.1.size)) (And.intro (H8.out.2.1.below hB) (And.intro (H8.out.2.2.1.below hB H8.out.2.2.1.lt) (And.intro (H8.out.2.2.2.1.below hB H8.out.2.2.2.1.lt) (H8.out.2.2.2.2.below hB H8.out.2.2.2.2.lt)))))
  clear hB H8
  go_wp2_with fail
  refine (reads10_any (HC.out.up H9.out.1) X2 false).mono ?_
  rintro e W10 ⟨rfl, hB⟩
  have H10 := Lib.hid (And.intro (H9.out.1.trans (hB.mono H9.out.1.size)) (And.intro (H9.out.2.1.below hB) (And.intro (H9.out.2.2.1.below hB H9.out.2.2.1.lt) (And.intro (H9.out.2.2.2.1.below hB H9.out.2.2.2.1.lt) (H9.out.2.2.2.2.below hB H9.out.2.2.2.2.lt)))))
  clear hB H9
  have m0 : W10.cell? ⟨b3, 0, none⟩ = some (S p) := cell_of_row W10 _ 0 _ _ (0, 0) H10.out.2.2.2.2
  have m1 : W10.cell? ⟨b3, 1, none⟩ = some (S t) := cell_of_row W10 _ 1 _ _ (0, 0) H10.out.2.2.2.2
  go_wp2_with fail
  clear m0 m1
  refine (reads10_any (HC.out.up H10.out.1) Y4 false).mono ?_
  rintro e W11 ⟨rfl, hB⟩
  have H11 := Lib.hid (And.intro (H10.out.1.trans (hB.mono H10.out.1.size)) (And.intro (H10.out.2.1.below hB) (And.intro (H10.out.2.2.1.below hB H10.out.2.2.1.lt) (And.intro (H10.out.2.2.2.1.below hB H10.out.2.2.2.1.lt) (H10.out.2.2.2.2.below hB H10.out.2.2.2.2.lt)))))
  clear hB H10
  have m0 : W11.cell? ⟨b3, 0, none⟩ = some (S p) := cell_of_row W11 _ 0 _ _ (0, 0) H11.out.2.2.2.2
  have m1 : W11.cell? ⟨b3, 1, none⟩ = some (S t) := cell_of_row W11 _ 1 _ _ (0, 0) H11.out.2.2.2.2
  go_wp2_with fail
  clear m0 m1
  refine (reads10_any (HC.out.up H11.out.1) Z4 false).mono ?_
  rintro e W12 ⟨rfl, hB⟩
  have H12 := Lib.hid (H11.out.1.trans (hB.mono H11.out.1.size))
  clear hB H11
  go_wp2
  go_ret
  exact ⟨rfl, H12.out⟩
end Go.Proofs.YtfdbmbgpcioogaaGreatDoor
