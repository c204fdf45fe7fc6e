/- FrameBack (stage 15): what may be. (mkeu.py writes it.) -/
import Derived.Test.YtepamoikoinhdaaEq
import Derived.Test.YtepamoikoinhdaaEu
namespace Go.Proofs.Ytepamoikoinhdaa
open Go.RowKit
attribute [local go_sem] store_one B_match B_store S_match S_store

theorem headB_len (f : Frm) : 2 ≤ (headB f).length ∧ (headB f).length ≤ 14 := by
  have h1 := lenB_len (finN f.masked) f.data.length
  have h2 : (keyB f).length = 4 ∨ (keyB f).length = 0 := by unfold keyB; split <;> simp
  unfold headB
  rw [List.length_cons, List.length_append, h1]
  split <;> (try split) <;> omega
theorem bytesF_len (f : Frm) : (bytesF f).length = (headB f).length + f.data.length := by unfold bytesF; rw [List.length_append, mask_len]
theorem conv_u32i {P : Program} {tb ti : TypeId} (h1 : P.underlying tb = some (.int .u32)) (h2 : P.underlying ti = some (.int .i64)) (n : Nat) (hn : n < 4294967296) (w : World) : (convert tb ti (.int .u32 (n : Int))).run P w = .ok (.int .i64 (n : Int)) w := by
  have e : IntKind.i64.wrap (n : Int) = (n : Int) := by rw [IntKind.wrap_i64]; omega
  simp [convert, run_underlying h1, run_underlying h2, e, go_sem]
theorem neq_frame (f : Frm) (w : World) : (binOp .neq 34 (.agg (frC f)) (.agg (frC f))).run Try.prog w = .ok (.bool false) w := by
  have := eqin_frame f w
  unfold frV at this
  rw [run_neq_struct, this]; rfl
set_option maxRecDepth 100000 in
set_option maxHeartbeats 2000000 in
theorem back15_any {w : World} (C : FrameI w) (f : Frm) (t : List UInt8) (cut : Nat) (hcut : cut < 4294967296) : Calls Try.prog 8 #[frV f, S t, .int .u32 (cut : Int)] w fun e w' => e = .returned (.bool true) ∧ Below w.heap.size w w' := by
  cases hok : okFr f with
  | false => exact back15_no C f t cut hok
  | true =>
  obtain ⟨W1, hW1⟩ : ∃ W, W = w.alloc (.cells (frC f) 34) := ⟨_, rfl⟩
  have H1 : Hid (Row W1 w.heap.size (frC f) 34 ∧ Below w.heap.size w W1) := Lib.hid (by rw [hW1]; exact ⟨row_new _ _ _, (Below.refl _ _).alloc (Nat.le_refl _) _⟩)
  have HA := Lib.hid (awake15_any (C.up H1.out.2))
  have hlN := run_len_S (P := Try.prog) Try.underlying9 3 f.data
  have hlM := run_len_S (P := Try.prog) Try.underlying9 3 t
  have hhl := headB_len f
  have hbl := bytesF_len f
  obtain ⟨T, hT⟩ : ∃ T, T = bytesF f := ⟨_, rfl⟩
  obtain ⟨P, hP⟩ : ∃ P, P = T ++ t := ⟨_, rfl⟩
  obtain ⟨N, hN⟩ : ∃ N, N = f.data.length := ⟨_, rfl⟩
  obtain ⟨M, hM⟩ : ∃ M, M = t.length := ⟨_, rfl⟩
  obtain ⟨LT, hLT⟩ : ∃ L, L = T.length := ⟨_, rfl⟩
  obtain ⟨LH, hLH⟩ : ∃ L, L = (headB f).length := ⟨_, rfl⟩
  obtain ⟨q, hq⟩ : ∃ q, q = cut % LT := ⟨_, rfl⟩
  obtain ⟨P1, hP1⟩ : ∃ P, P = T.take q := ⟨_, rfl⟩
  have hPl : P.length = LT + M := by rw [hP, List.length_append, ← hLT, ← hM]
  rw [← hT, ← hLT, ← hLH, ← hN] at hbl
  rw [← hLH] at hhl
  have hq2 : q < LT := by rw [hq]; exact Nat.mod_lt _ (by omega)
  have hlT := run_len_S (P := Try.prog) Try.underlying9 3 T
  rw [← hLT] at hlT
  rw [← hN] at hlN
  rw [← hM] at hlM
  have hcv := conv_u32i (P := Try.prog) (tb := 52) (ti := 3) (by kernel_rfl) (by kernel_rfl) cut hcut
  have hcw : N ≤ 70000 → ∀ w', (convert 3 23 (.int .i64 (N : Int))).run Try.prog w' = .ok (.int .u64 (N : Int)) w' := fun h => conv_iu (P := Try.prog) (by kernel_rfl) (by kernel_rfl) N (by omega)
  have hadd : N ≤ 70000 → M ≤ 300 → binOp .add 9 (S T) (S t) = pure (S P) := fun _ _ => by rw [hP]; exact S_add 9 T t (by omega)
  have hsl : ∀ w', (Instr.slice 9 (S T) none (some (.int .i64 (q : Int))) none).run Try.prog w' = .ok (S P1) w' := fun w' => by rw [hP1]; exact slice_take Try.underlying9 T q (by omega) w'
  have hnT : binOp .eql 9 (S T) (.string ⟨#[]⟩) = pure (.bool false) := by
    rw [show (Value.string ⟨#[]⟩) = S [] from rfl, eql_S]
    rw [show (T == []) = false by rw [beq_eq_false_iff_ne]; intro e; rw [e] at hLT; simp at hLT; omega]
  have HY : Hid (∀ W, Below w.heap.size w W → N ≤ 70000 → Calls Try.prog 12 #[frV f] W fun e w' => e = .returned (.tuple #[S T, .int .i64 0]) ∧ Below W.heap.size W w') := Lib.hid fun W hb hl => by
    have := C.bytes f W hb (by omega)
    rw [show bytesV f = .tuple #[S T, .int .i64 0] by unfold bytesV; rw [if_pos hok, if_pos hok, hT]] at this
    exact this
  have HR : Hid (∀ W, Below w.heap.size w W → N ≤ 70000 → M ≤ 300 → Calls Try.prog 14 #[S P] W fun e w' => e = .returned (.tuple #[.agg (frC f), .int .i64 (LT : Int), .int .i64 0]) ∧ Below W.heap.size W w') := Lib.hid fun W hb hl hm => by
    have := C.read P W hb (by omega)
    rw [hP, hT, read_back hok (by omega), ← hT, ← hP, ← hLT] at this
    exact this
  have HH : Hid (∀ W, Below w.heap.size w W → N ≤ 70000 → M ≤ 300 → Calls Try.prog 11 #[S P] W fun e w' => e = .returned (.tuple #[.agg (hdC (hdOf f)), .int .i64 (LH : Int), .bool true]) ∧ Below W.heap.size W w') := Lib.hid fun W hb hl hm => by
    have := C.head P W hb (by omega)
    rw [show P = headB f ++ (maskN f.key 0 f.data ++ t) by rw [hP, hT]; unfold bytesF; rw [List.append_assoc], head_back hok (by omega), ← hLH] at this
    rw [show P = headB f ++ (maskN f.key 0 f.data ++ t) by rw [hP, hT]; unfold bytesF; rw [List.append_assoc]]
    exact this
  have HS : Hid (∀ W, Below w.heap.size w W → N ≤ 70000 → Calls Try.prog 14 #[S P1] W fun e w' => e = .returned (.tuple #[.agg #[.bool false, .int .i64 0, .int .i64 0, .bool false, .int .u8 0, .int .u8 0, .int .u8 0, .int .u8 0, .string ⟨#[]⟩], .int .i64 0, .int .i64 7]) ∧ Below W.heap.size W w') := Lib.hid fun W hb hl => by
    have := C.read P1 W hb (by rw [hP1, List.length_take]; omega)
    rw [hP1, hT, read_short hok (by omega) q (by rw [← hT, ← hLT]; exact hq2), ← hT, ← hP1] at this
    exact this
  have ef := neq_frame f
  have gf := grd_frame .neq f f
  have ez := eql_frame frm0
  have gz := grd_frame .eql frm0 frm0
  have hz : frC frm0 = #[.bool false, .int .i64 0, .int .i64 0, .bool false, .int .u8 0, .int .u8 0, .int .u8 0, .int .u8 0, .string ⟨#[]⟩] := rfl
  rw [hz] at ez gz
  have wr : IntKind.i64.wrap ((LT : Int) - (N : Int)) = (LH : Int) := by rw [IntKind.wrap_i64]; omega
  have wm : Int.tmod (cut : Int) (LT : Int) = (q : Int) := by rw [hq]; rfl
  have z1 : ((LT : Int) == 0) = false := by rw [beq_eq_false_iff_ne]; omega
  have z2 : ((LT : Int) != (LT : Int)) = false := by simp
  have z3 : ((LH : Int) != (LH : Int)) = false := by simp
  have z4 : ((N : Int) != (N : Int)) = false := by simp
  have hlz : LT ≠ 0 := by omega
  clear C hM hok hT hP hLT hLH hP1 hPl hhl hbl hq hq2 hcut hz
  obtain ⟨fin, rsv, op, m, ⟨k0, k1, k2, k3⟩, data⟩ := f
  unfold hdOf hdC at HH
  unfold frV at HY ⊢
  unfold frC at hW1 H1 HY HR ef gf ⊢
  dsimp only at *
  obtain ⟨rs, hrs⟩ : ∃ x, x = rsv.toNat := ⟨_, rfl⟩
  obtain ⟨ps, hps⟩ : ∃ x, x = op.toNat := ⟨_, rfl⟩
  rw [← hrs, ← hps, ← hN] at HH
  clear hrs hps hN
  rw [hW1] at HA
  go_enter Try.func8, Try.ntmps8
  go_wp2_with fail
  refine HA.out.mono ?_
  rintro e W2 ⟨rfl, hB2⟩
  rw [← hW1] at hB2
  clear HA hW1
  have hr2 := H1.out.1.below hB2 H1.out.1.lt
  have H2 := Lib.hid (And.intro hr2 (H1.out.2.trans (hB2.mono H1.out.2.size)))
  have c0 : W2.cell? ⟨w.heap.size, 0, none⟩ = some (.bool fin) := cell_of_row W2 _ 0 _ _ (0, 0) hr2
  have c1 : W2.cell? ⟨w.heap.size, 1, none⟩ = some (.int .i64 rsv) := cell_of_row W2 _ 1 _ _ (0, 0) hr2
  have c2 : W2.cell? ⟨w.heap.size, 2, none⟩ = some (.int .i64 op) := cell_of_row W2 _ 2 _ _ (0, 0) hr2
  have c3 : W2.cell? ⟨w.heap.size, 3, none⟩ = some (.bool m) := cell_of_row W2 _ 3 _ _ (0, 0) hr2
  have c4 : W2.cell? ⟨w.heap.size, 4, none⟩ = some (B k0) := cell_of_row W2 _ 4 _ _ (0, 0) hr2
  have c5 : W2.cell? ⟨w.heap.size, 5, none⟩ = some (B k1) := cell_of_row W2 _ 5 _ _ (0, 0) hr2
  have c6 : W2.cell? ⟨w.heap.size, 6, none⟩ = some (B k2) := cell_of_row W2 _ 6 _ _ (0, 0) hr2
  have c7 : W2.cell? ⟨w.heap.size, 7, none⟩ = some (B k3) := cell_of_row W2 _ 7 _ _ (0, 0) hr2
  have c8 : W2.cell? ⟨w.heap.size, 8, none⟩ = some (S data) := cell_of_row W2 _ 8 _ _ (0, 0) hr2
  clear hr2 hB2 H1
  by_cases hbig : 70000 < N
  · have g1 : decide ((70000 : Int) < (N : Int)) = true := decide_eq_true (by omega)
    have g1' : decide ((N : Int) > 70000) = true := decide_eq_true (by omega)
    go_wp2
    go_ret
    exact ⟨rfl, H2.out.2⟩
  have g1 : decide ((70000 : Int) < (N : Int)) = false := decide_eq_false (by omega)
  have g1' : decide ((N : Int) > 70000) = false := decide_eq_false (by omega)
  by_cases hbig2 : 300 < M
  · have g2 : decide ((300 : Int) < (M : Int)) = true := decide_eq_true (by omega)
    have g2' : decide ((M : Int) > 300) = true := decide_eq_true (by omega)
    go_wp2
    go_ret
    exact ⟨rfl, H2.out.2⟩
  have g2 : decide ((300 : Int) < (M : Int)) = false := decide_eq_false (by omega)
  have g2' : decide ((M : Int) > 300) = false := decide_eq_false (by omega)
  replace hadd := hadd (by omega) (by omega)
  replace hcw := hcw (by omega)
  have HC := Lib.hid (HY.out W2 H2.out.2 (by omega))
  go_wp2_with fail
  refine HC.out.mono ?_
  rintro e W3 ⟨rfl, hB3⟩
  clear HC c0 c1 c2 c3 c4 c5 c6 c7 c8
  have hr3 := H2.out.1.below hB3 H2.out.1.lt
  have H3 := Lib.hid (And.intro hr3 (H2.out.2.trans (hB3.mono H2.out.2.size)))
  clear hr3 hB3 H2
  have HC := Lib.hid (HR.out W3 H3.out.2 (by omega) (by omega))
  go_wp2_with fail
  refine HC.out.mono ?_
  rintro e W4 ⟨rfl, hB4⟩
  clear HC
  have hr4 := H3.out.1.below hB4 H3.out.1.lt
  have hb4 := H3.out.2.trans (hB4.mono H3.out.2.size)
  clear hB4 H3
  obtain ⟨W5, hW5⟩ : ∃ W, W = W4.alloc (.cells #[.bool fin, .int .i64 rsv, .int .i64 op, .bool m, B k0, B k1, B k2, B k3, S data] 34) := ⟨_, rfl⟩
  have H5 : Hid (Row W5 w.heap.size #[.bool fin, .int .i64 rsv, .int .i64 op, .bool m, B k0, B k1, B k2, B k3, S data] 34 ∧ Row W5 W4.heap.size #[.bool fin, .int .i64 rsv, .int .i64 op, .bool m, B k0, B k1, B k2, B k3, S data] 34 ∧ Below w.heap.size w W5) := Lib.hid ⟨by rw [hW5]; exact hr4.alloc _, by rw [hW5]; exact row_new _ _ _, by rw [hW5]; exact hb4.alloc hb4.size _⟩
  have HC := Lib.hid (HH.out W5 H5.out.2.2 (by omega) (by omega))
  rw [hW5] at HC
  clear hr4 hb4
  go_wp2_with fail
  refine HC.out.mono ?_
  rintro e W6 ⟨rfl, hB6⟩
  rw [← hW5] at hB6
  clear HC hW5
  have hr6 := H5.out.1.below hB6 H5.out.1.lt
  have hs6 := H5.out.2.1.below hB6 H5.out.2.1.lt
  have hb6 := H5.out.2.2.trans (hB6.mono H5.out.2.2.size)
  clear hB6 H5
  obtain ⟨W7, hW7⟩ : ∃ W, W = W6.alloc (.cells #[.bool fin, .int .i64 (rs : Int), .int .i64 (ps : Int), .bool m, B k0, B k1, B k2, B k3, .int .u64 (N : Int), .bool true] 25) := ⟨_, rfl⟩
  have hr7 : Row W7 w.heap.size #[.bool fin, .int .i64 rsv, .int .i64 op, .bool m, B k0, B k1, B k2, B k3, S data] 34 := by rw [hW7]; exact hr6.alloc _
  have hs7 : Row W7 W4.heap.size #[.bool fin, .int .i64 rsv, .int .i64 op, .bool m, B k0, B k1, B k2, B k3, S data] 34 := by rw [hW7]; exact hs6.alloc _
  have ht7 : Row W7 W6.heap.size #[.bool fin, .int .i64 (rs : Int), .int .i64 (ps : Int), .bool m, B k0, B k1, B k2, B k3, .int .u64 (N : Int), .bool true] 25 := by rw [hW7]; exact row_new _ _ _
  have H7 : Hid (Below w.heap.size w W7) := Lib.hid (by rw [hW7]; exact hb6.alloc hb6.size _)
  have c0 : W7.cell? ⟨w.heap.size, 0, none⟩ = some (.bool fin) := cell_of_row W7 _ 0 _ _ (0, 0) hr7
  have c1 : W7.cell? ⟨w.heap.size, 1, none⟩ = some (.int .i64 rsv) := cell_of_row W7 _ 1 _ _ (0, 0) hr7
  have c2 : W7.cell? ⟨w.heap.size, 2, none⟩ = some (.int .i64 op) := cell_of_row W7 _ 2 _ _ (0, 0) hr7
  have c3 : W7.cell? ⟨w.heap.size, 3, none⟩ = some (.bool m) := cell_of_row W7 _ 3 _ _ (0, 0) hr7
  have c4 : W7.cell? ⟨w.heap.size, 4, none⟩ = some (B k0) := cell_of_row W7 _ 4 _ _ (0, 0) hr7
  have c5 : W7.cell? ⟨w.heap.size, 5, none⟩ = some (B k1) := cell_of_row W7 _ 5 _ _ (0, 0) hr7
  have c6 : W7.cell? ⟨w.heap.size, 6, none⟩ = some (B k2) := cell_of_row W7 _ 6 _ _ (0, 0) hr7
  have c7 : W7.cell? ⟨w.heap.size, 7, none⟩ = some (B k3) := cell_of_row W7 _ 7 _ _ (0, 0) hr7
  have c8 : W7.cell? ⟨w.heap.size, 8, none⟩ = some (S data) := cell_of_row W7 _ 8 _ _ (0, 0) hr7
  have d0 : W7.cell? ⟨W4.heap.size, 0, none⟩ = some (.bool fin) := cell_of_row W7 _ 0 _ _ (0, 0) hs7
  have d1 : W7.cell? ⟨W4.heap.size, 1, none⟩ = some (.int .i64 rsv) := cell_of_row W7 _ 1 _ _ (0, 0) hs7
  have d2 : W7.cell? ⟨W4.heap.size, 2, none⟩ = some (.int .i64 op) := cell_of_row W7 _ 2 _ _ (0, 0) hs7
  have d3 : W7.cell? ⟨W4.heap.size, 3, none⟩ = some (.bool m) := cell_of_row W7 _ 3 _ _ (0, 0) hs7
  have d4 : W7.cell? ⟨W4.heap.size, 4, none⟩ = some (B k0) := cell_of_row W7 _ 4 _ _ (0, 0) hs7
  have d5 : W7.cell? ⟨W4.heap.size, 5, none⟩ = some (B k1) := cell_of_row W7 _ 5 _ _ (0, 0) hs7
  have d6 : W7.cell? ⟨W4.heap.size, 6, none⟩ = some (B k2) := cell_of_row W7 _ 6 _ _ (0, 0) hs7
  have d7 : W7.cell? ⟨W4.heap.size, 7, none⟩ = some (B k3) := cell_of_row W7 _ 7 _ _ (0, 0) hs7
  have d8 : W7.cell? ⟨W4.heap.size, 8, none⟩ = some (S data) := cell_of_row W7 _ 8 _ _ (0, 0) hs7
  have h0 : W7.cell? ⟨W6.heap.size, 0, none⟩ = some (.bool fin) := cell_of_row W7 _ 0 _ _ (0, 0) ht7
  have h1 : W7.cell? ⟨W6.heap.size, 1, none⟩ = some (.int .i64 (rs : Int)) := cell_of_row W7 _ 1 _ _ (0, 0) ht7
  have h2 : W7.cell? ⟨W6.heap.size, 2, none⟩ = some (.int .i64 (ps : Int)) := cell_of_row W7 _ 2 _ _ (0, 0) ht7
  have h3 : W7.cell? ⟨W6.heap.size, 3, none⟩ = some (.bool m) := cell_of_row W7 _ 3 _ _ (0, 0) ht7
  have h4 : W7.cell? ⟨W6.heap.size, 4, none⟩ = some (B k0) := cell_of_row W7 _ 4 _ _ (0, 0) ht7
  have h5 : W7.cell? ⟨W6.heap.size, 5, none⟩ = some (B k1) := cell_of_row W7 _ 5 _ _ (0, 0) ht7
  have h6 : W7.cell? ⟨W6.heap.size, 6, none⟩ = some (B k2) := cell_of_row W7 _ 6 _ _ (0, 0) ht7
  have h7 : W7.cell? ⟨W6.heap.size, 7, none⟩ = some (B k3) := cell_of_row W7 _ 7 _ _ (0, 0) ht7
  have h8 : W7.cell? ⟨W6.heap.size, 8, none⟩ = some (.int .u64 (N : Int)) := cell_of_row W7 _ 8 _ _ (0, 0) ht7
  have h9 : W7.cell? ⟨W6.heap.size, 9, none⟩ = some (.bool true) := cell_of_row W7 _ 9 _ _ (0, 0) ht7
  clear hr6 hs6 hb6 hr7 hs7 ht7
  have HC := Lib.hid (HS.out W7 H7.out (by omega))
  rw [hW7] at HC c0 c1 c2 c3 c4 c5 c6 c7 c8 d0 d1 d2 d3 d4 d5 d6 d7 d8 h0 h1 h2 h3 h4 h5 h6 h7 h8 h9
  go_wp2_with fail
  refine HC.out.mono ?_
  rintro e W8 ⟨rfl, hB8⟩
  rw [← hW7] at hB8
  clear HC hW7 c0 c1 c2 c3 c4 c5 c6 c7 c8 d0 d1 d2 d3 d4 d5 d6 d7 d8 h0 h1 h2 h3 h4 h5 h6 h7 h8 h9
  have hb8 := H7.out.trans (hB8.mono H7.out.size)
  clear hB8 H7
  obtain ⟨W9, hW9⟩ : ∃ W, W = W8.alloc (.cells #[.bool false, .int .i64 0, .int .i64 0, .bool false, .int .u8 0, .int .u8 0, .int .u8 0, .int .u8 0, .string ⟨#[]⟩] 34) := ⟨_, rfl⟩
  have hr9 : Row W9 W8.heap.size #[.bool false, .int .i64 0, .int .i64 0, .bool false, .int .u8 0, .int .u8 0, .int .u8 0, .int .u8 0, .string ⟨#[]⟩] 34 := by rw [hW9]; exact row_new _ _ _
  have HE : Hid (Below w.heap.size w W9) := Lib.hid (by rw [hW9]; exact hb8.alloc hb8.size _)
  have c0 : W9.cell? ⟨W8.heap.size, 0, none⟩ = some (.bool false) := cell_of_row W9 _ 0 _ _ (0, 0) hr9
  have c1 : W9.cell? ⟨W8.heap.size, 1, none⟩ = some (.int .i64 0) := cell_of_row W9 _ 1 _ _ (0, 0) hr9
  have c2 : W9.cell? ⟨W8.heap.size, 2, none⟩ = some (.int .i64 0) := cell_of_row W9 _ 2 _ _ (0, 0) hr9
  have c3 : W9.cell? ⟨W8.heap.size, 3, none⟩ = some (.bool false) := cell_of_row W9 _ 3 _ _ (0, 0) hr9
  have c4 : W9.cell? ⟨W8.heap.size, 4, none⟩ = some (.int .u8 0) := cell_of_row W9 _ 4 _ _ (0, 0) hr9
  have c5 : W9.cell? ⟨W8.heap.size, 5, none⟩ = some (.int .u8 0) := cell_of_row W9 _ 5 _ _ (0, 0) hr9
  have c6 : W9.cell? ⟨W8.heap.size, 6, none⟩ = some (.int .u8 0) := cell_of_row W9 _ 6 _ _ (0, 0) hr9
  have c7 : W9.cell? ⟨W8.heap.size, 7, none⟩ = some (.int .u8 0) := cell_of_row W9 _ 7 _ _ (0, 0) hr9
  have c8 : W9.cell? ⟨W8.heap.size, 8, none⟩ = some (.string ⟨#[]⟩) := cell_of_row W9 _ 8 _ _ (0, 0) hr9
  clear hb8 hr9
  rw [hW9] at c0 c1 c2 c3 c4 c5 c6 c7 c8
  go_wp2
  rw [← hW9]
  go_ret
  exact ⟨rfl, HE.out⟩
end Go.Proofs.Ytepamoikoinhdaa
