/- FrameOnce (stage 15) walked, over any package of frames. (mkeq.py writes it.) -/
import Derived.Test.YtepamoikoinhdaaEl
import Derived.BigQuiet
namespace Go.Proofs.Ytepamoikoinhdaa
open Go.RowKit
attribute [local go_sem] store_one B_match B_store S_match S_store

theorem read_cases (s : List UInt8) : (∃ e, e ≠ 0 ∧ readF s = (frm0, 0, e)) ∨ ∃ h hn, readHeadF s = some (h, hn) ∧ h.len ≤ 2147483647 ∧ h.len ≤ s.length - hn ∧ readF s = (frOf h ((s.drop hn).take h.len), hn + h.len, 0) := by
  unfold readF
  cases hh : readHeadF s with
  | none => exact .inl ⟨7, by decide, rfl⟩
  | some x =>
    obtain ⟨h, hn⟩ := x
    dsimp only
    by_cases h1 : 2147483647 < h.len
    · rw [if_pos h1]; exact .inl ⟨3, by decide, rfl⟩
    · by_cases h2 : s.length - hn < h.len
      · rw [if_neg h1, if_pos h2]; exact .inl ⟨7, by decide, rfl⟩
      · rw [if_neg h1, if_neg h2]; exact .inr ⟨h, hn, rfl, by omega, by omega, rfl⟩
theorem eql_frame (f : Frm) (w : World) : (binOp .eql 34 (.agg (frC f)) (.agg (frC f))).run Try.prog w = .ok (.bool true) w := by
  have := eqin_frame f w
  unfold frV at this
  rw [run_eql_struct, this]; rfl
theorem grd_frame (op : BinOp) (f g : Frm) (x y : Operand) (w : World) : (eqGuard op 34 x y (.agg (frC f)) (.agg (frC g))).run Try.prog w = .ok () w := run_eqGuard_agg w op 34 x y _ _ (by kernel_rfl)
set_option maxRecDepth 100000 in
set_option maxHeartbeats 2000000 in
theorem once15_any {w : World} (C : FrameI w) (s : List UInt8) : Calls Try.prog 10 #[S s] w fun e w' => e = .returned (.bool true) ∧ Below w.heap.size w w' := by
  have HA := Lib.hid (awake15_any C)
  have hlN := run_len_S (P := Try.prog) Try.underlying9 3 s
  have HR : Hid (∀ W, Below w.heap.size w W → s.length ≤ 5000 → Calls Try.prog 14 #[S s] W fun e w' => e = .returned (readV (readF s)) ∧ Below W.heap.size W w') := Lib.hid fun W hb hl => C.read s W hb (by omega)
  have HC := Lib.hid C
  obtain ⟨N, hN⟩ : ∃ N, N = s.length := ⟨_, rfl⟩
  have HN := Lib.hid hN
  rw [← hN] at hlN HR
  clear C hN
  by_cases hbig : 5000 < N
  · have g1 : decide ((5000 : Int) < (N : Int)) = true := decide_eq_true (by omega)
    have g1' : decide ((N : Int) > 5000) = true := decide_eq_true (by omega)
    go_enter Try.func10, Try.ntmps10
    go_wp2_with fail
    refine HA.out.mono ?_
    rintro e W1 ⟨rfl, hB1⟩
    have HB1 := Lib.hid hB1
    clear hB1
    go_wp2
    go_ret
    exact ⟨rfl, HB1.out⟩
  have g1 : decide ((5000 : Int) < (N : Int)) = false := decide_eq_false (by omega)
  have g1' : decide ((N : Int) > 5000) = false := decide_eq_false (by omega)
  rcases read_cases s with ⟨E, hE, hr⟩ | ⟨h, hn, hh, hl1, hl2, hr⟩
  · rw [hr] at HR
    have z1 : ((E : Int) != 0) = true := by rw [bne_iff_ne]; omega
    have eqf := eqin_frame frm0
    have gf := grd_frame .eql frm0 frm0
    unfold frV at eqf
    have hz : frC frm0 = #[.bool false, .int .i64 0, .int .i64 0, .bool false, .int .u8 0, .int .u8 0, .int .u8 0, .int .u8 0, .string ⟨#[]⟩] := rfl
    unfold readV frV at HR
    rw [hz] at eqf gf HR
    clear hr hE
    dsimp only at HR
    go_enter Try.func10, Try.ntmps10
    go_wp2_with fail
    refine HA.out.mono ?_
    rintro e W1 ⟨rfl, hB1⟩
    have HB1 := Lib.hid hB1
    have HC1 := Lib.hid (HR.out W1 hB1 (by omega))
    clear hB1 HA
    go_wp2_with fail
    refine HC1.out.mono ?_
    rintro e W2 ⟨rfl, hB2⟩
    have hb2 := HB1.out.trans (hB2.mono HB1.out.size)
    have HE := Lib.hid (hb2.alloc hb2.size (.cells #[.bool false, .int .i64 0, .int .i64 0, .bool false, .int .u8 0, .int .u8 0, .int .u8 0, .int .u8 0, .string ⟨#[]⟩] 34))
    clear HC1 hB2 hb2
    go_wp2
    go_ret
    exact ⟨rfl, HE.out⟩
  obtain ⟨o1, o2, o3, o4, o5, o6, o7⟩ := once hh hl1 hl2
  obtain ⟨f, hf⟩ : ∃ f, f = frOf h ((s.drop hn).take h.len) := ⟨_, rfl⟩
  rw [← hf] at hr o1 o2 o5 o6 o7
  obtain ⟨T, hT⟩ : ∃ T, T = bytesF f := ⟨_, rfl⟩
  have hrb := read_back o1 (by omega : f.data.length ≤ 2147483647) []
  rw [List.append_nil] at hrb
  have hbv : bytesV f = .tuple #[S T, .int .i64 0] := by unfold bytesV; rw [if_pos o1, if_pos o1, hT]
  rw [← hT] at hrb o5 o6 o7
  obtain ⟨M, hM⟩ : ∃ M, M = hn + h.len := ⟨_, rfl⟩
  rw [← hM] at hr o3 o5 o6 o7
  obtain ⟨P1, hP1⟩ : ∃ P, P = s.take M := ⟨_, rfl⟩
  have hsl : ∀ w', (Instr.slice 9 (S s) none (some (.int .i64 (M : Int))) none).run Try.prog w' = .ok (S P1) w' := fun w' => by rw [hP1]; exact slice_take Try.underlying9 s M o3 w'
  have htp : (T == P1) = h.least := by
    cases hle : h.least with
    | true => rw [o6 hle, hP1]; simp
    | false =>
      rw [beq_eq_false_iff_ne]
      intro e
      have := o7 hle
      rw [e, hP1, List.length_take] at this
      omega
  have q1 : binOp .eql 9 (S T) (S P1) = pure (.bool h.least) := by rw [eql_S, htp]
  have n1 : ∀ x y, eqGuard .eql 9 x y (S T) (S P1) = pure () := fun _ _ => rfl
  have hTl : T.length ≤ 5000 := by have := HN.out; omega
  obtain ⟨LT, hLT⟩ : ∃ L, L = T.length := ⟨_, rfl⟩
  have hlT := run_len_S (P := Try.prog) Try.underlying9 3 T
  rw [← hLT] at hlT o5 hrb
  rw [hr] at HR
  have H2 : Hid (∀ W, Below w.heap.size w W → Calls Try.prog 11 #[S s] W fun e w' => e = .returned (.tuple #[.agg (hdC h), .int .i64 (hn : Int), .bool true]) ∧ Below W.heap.size W w') := Lib.hid fun W hb => by
    have := HC.out.head s W hb (by rw [← HN.out]; omega)
    rw [hh] at this; exact this
  have H3 : Hid (∀ W, Below w.heap.size w W → Calls Try.prog 12 #[.agg (frC f)] W fun e w' => e = .returned (.tuple #[S T, .int .i64 0]) ∧ Below W.heap.size W w') := Lib.hid fun W hb => by
    have := HC.out.bytes f W hb (by have := HN.out; omega)
    rw [hbv] at this; exact this
  have H4 : Hid (∀ W, Below w.heap.size w W → Calls Try.prog 14 #[S T] W fun e w' => e = .returned (.tuple #[.agg (frC f), .int .i64 (LT : Int), .int .i64 0]) ∧ Below W.heap.size W w') := Lib.hid fun W hb => by
    have := HC.out.read T W hb (by omega)
    rw [hrb] at this; exact this
  have eqf := eqin_frame f
  have gf := grd_frame .eql f f
  unfold frV at eqf
  unfold readV frV at HR
  dsimp only at HR
  have b1 : decide ((M : Int) < 2) = false := decide_eq_false (by omega)
  have b2 : decide ((N : Int) < (M : Int)) = false := decide_eq_false (by have := HN.out; omega)
  have b2' : decide ((M : Int) > (N : Int)) = false := decide_eq_false (by have := HN.out; omega)
  have b3 : decide ((LT : Int) ≤ (M : Int)) = true := decide_eq_true (by omega)
  have b6 : decide (N < M) = false := decide_eq_false (by have := HN.out; omega)
  have b7 : decide (LT ≤ M) = true := decide_eq_true (by omega)
  have b8 : ¬ N < M := by have := HN.out; omega
  have b4 : (h.least == h.least) = true := by simp
  have b5 : ((LT : Int) == (LT : Int)) = true := by simp
  obtain ⟨LE, hLE⟩ : ∃ x, x = h.least := ⟨_, rfl⟩
  rw [← hLE] at q1 b4
  clear hf hh hl1 hl2 hr o1 o2 o3 o4 o5 o6 o7 hrb hbv hT hM hP1 htp hTl hLT HC
  obtain ⟨fin, rsv, op, m, ⟨k0, k1, k2, k3⟩, len, le⟩ := h
  obtain rfl : LE = le := hLE
  obtain ⟨ffin, frsv, fop, fm, ⟨l0, l1, l2, l3⟩, data⟩ := f
  unfold hdC at H2
  unfold frC at HR H3 H4 eqf gf
  dsimp only at *
  go_enter Try.func10, Try.ntmps10
  go_wp2_with fail
  refine HA.out.mono ?_
  rintro e W1 ⟨rfl, hB1⟩
  have HB1 := Lib.hid hB1
  have HC1 := Lib.hid (HR.out W1 hB1 (by omega))
  clear hB1 HA
  go_wp2_with fail
  refine HC1.out.mono ?_
  rintro e W2 ⟨rfl, hB2⟩
  clear HC1
  have hb2 := HB1.out.trans (hB2.mono HB1.out.size)
  obtain ⟨W3, hW3⟩ : ∃ W, W = W2.alloc (.cells #[.bool ffin, .int .i64 frsv, .int .i64 fop, .bool fm, B l0, B l1, B l2, B l3, S data] 34) := ⟨_, rfl⟩
  have hr3 : Row W3 W2.heap.size #[.bool ffin, .int .i64 frsv, .int .i64 fop, .bool fm, B l0, B l1, B l2, B l3, S data] 34 := by rw [hW3]; exact row_new _ _ _
  have H5 : Hid (Row W3 W2.heap.size #[.bool ffin, .int .i64 frsv, .int .i64 fop, .bool fm, B l0, B l1, B l2, B l3, S data] 34 ∧ Below w.heap.size w W3) := Lib.hid ⟨hr3, by rw [hW3]; exact hb2.alloc hb2.size _⟩
  have HC2 := Lib.hid (H2.out W3 H5.out.2)
  rw [hW3] at HC2
  clear hr3 hb2 hB2
  go_wp2_with fail
  refine HC2.out.mono ?_
  rintro e W4 ⟨rfl, hB4⟩
  rw [← hW3] at hB4
  clear HC2 hW3
  have hb4 := H5.out.2.trans (hB4.mono H5.out.2.size)
  obtain ⟨W5, hW5⟩ : ∃ W, W = W4.alloc (.cells #[.bool fin, .int .i64 (rsv : Int), .int .i64 (op : Int), .bool m, B k0, B k1, B k2, B k3, .int .u64 (len : Int), .bool LE] 25) := ⟨_, rfl⟩
  have hr5 : Row W5 W2.heap.size #[.bool ffin, .int .i64 frsv, .int .i64 fop, .bool fm, B l0, B l1, B l2, B l3, S data] 34 := by rw [hW5]; exact (H5.out.1.below hB4 H5.out.1.lt).alloc _
  have hq5 : Row W5 W4.heap.size #[.bool fin, .int .i64 (rsv : Int), .int .i64 (op : Int), .bool m, B k0, B k1, B k2, B k3, .int .u64 (len : Int), .bool LE] 25 := by rw [hW5]; exact row_new _ _ _
  have H6 : Hid (Row W5 W2.heap.size #[.bool ffin, .int .i64 frsv, .int .i64 fop, .bool fm, B l0, B l1, B l2, B l3, S data] 34 ∧ Row W5 W4.heap.size #[.bool fin, .int .i64 (rsv : Int), .int .i64 (op : Int), .bool m, B k0, B k1, B k2, B k3, .int .u64 (len : Int), .bool LE] 25 ∧ Below w.heap.size w W5) := Lib.hid ⟨hr5, hq5, by rw [hW5]; exact hb4.alloc hb4.size _⟩
  have c0 : W5.cell? ⟨W2.heap.size, 0, none⟩ = some (.bool ffin) := cell_of_row W5 _ 0 _ _ (0, 0) hr5
  have c1 : W5.cell? ⟨W2.heap.size, 1, none⟩ = some (.int .i64 frsv) := cell_of_row W5 _ 1 _ _ (0, 0) hr5
  have c2 : W5.cell? ⟨W2.heap.size, 2, none⟩ = some (.int .i64 fop) := cell_of_row W5 _ 2 _ _ (0, 0) hr5
  have c3 : W5.cell? ⟨W2.heap.size, 3, none⟩ = some (.bool fm) := cell_of_row W5 _ 3 _ _ (0, 0) hr5
  have c4 : W5.cell? ⟨W2.heap.size, 4, none⟩ = some (B l0) := cell_of_row W5 _ 4 _ _ (0, 0) hr5
  have c5 : W5.cell? ⟨W2.heap.size, 5, none⟩ = some (B l1) := cell_of_row W5 _ 5 _ _ (0, 0) hr5
  have c6 : W5.cell? ⟨W2.heap.size, 6, none⟩ = some (B l2) := cell_of_row W5 _ 6 _ _ (0, 0) hr5
  have c7 : W5.cell? ⟨W2.heap.size, 7, none⟩ = some (B l3) := cell_of_row W5 _ 7 _ _ (0, 0) hr5
  have c8 : W5.cell? ⟨W2.heap.size, 8, none⟩ = some (S data) := cell_of_row W5 _ 8 _ _ (0, 0) hr5
  rw [hW5] at c0 c1 c2 c3 c4 c5 c6 c7 c8
  have HC3 := Lib.hid (H3.out W5 H6.out.2.2)
  rw [hW5] at HC3
  clear hr5 hq5 hb4 hB4 H5
  go_wp2_with fail
  refine HC3.out.mono ?_
  rintro e W6 ⟨rfl, hB6⟩
  rw [← hW5] at hB6
  clear HC3 hW5 c0 c1 c2 c3 c4 c5 c6 c7 c8
  have H7 := Lib.hid (And.intro (H6.out.1.below hB6 H6.out.1.lt) (And.intro (H6.out.2.1.below hB6 H6.out.2.1.lt) (H6.out.2.2.trans (hB6.mono H6.out.2.2.size))))
  have HC4 := Lib.hid (H4.out W6 H7.out.2.2)
  clear hB6 H6
  go_wp2_with fail
  refine HC4.out.mono ?_
  rintro e W8 ⟨rfl, hB8⟩
  clear HC4
  have hr8 := H7.out.1.below hB8 H7.out.1.lt
  have hq8 := H7.out.2.1.below hB8 H7.out.2.1.lt
  have hb8 := H7.out.2.2.trans (hB8.mono H7.out.2.2.size)
  obtain ⟨W9, hW9⟩ : ∃ W, W = W8.alloc (.cells #[.bool ffin, .int .i64 frsv, .int .i64 fop, .bool fm, B l0, B l1, B l2, B l3, S data] 34) := ⟨_, rfl⟩
  have hr9 : Row W9 W2.heap.size #[.bool ffin, .int .i64 frsv, .int .i64 fop, .bool fm, B l0, B l1, B l2, B l3, S data] 34 := by rw [hW9]; exact hr8.alloc _
  have hq9 : Row W9 W4.heap.size #[.bool fin, .int .i64 (rsv : Int), .int .i64 (op : Int), .bool m, B k0, B k1, B k2, B k3, .int .u64 (len : Int), .bool LE] 25 := by rw [hW9]; exact hq8.alloc _
  have hs9 : Row W9 W8.heap.size #[.bool ffin, .int .i64 frsv, .int .i64 fop, .bool fm, B l0, B l1, B l2, B l3, S data] 34 := by rw [hW9]; exact row_new _ _ _
  have HE : Hid (Below w.heap.size w W9) := Lib.hid (by rw [hW9]; exact hb8.alloc hb8.size _)
  have c0 : W9.cell? ⟨W2.heap.size, 0, none⟩ = some (.bool ffin) := cell_of_row W9 _ 0 _ _ (0, 0) hr9
  have c1 : W9.cell? ⟨W2.heap.size, 1, none⟩ = some (.int .i64 frsv) := cell_of_row W9 _ 1 _ _ (0, 0) hr9
  have c2 : W9.cell? ⟨W2.heap.size, 2, none⟩ = some (.int .i64 fop) := cell_of_row W9 _ 2 _ _ (0, 0) hr9
  have c3 : W9.cell? ⟨W2.heap.size, 3, none⟩ = some (.bool fm) := cell_of_row W9 _ 3 _ _ (0, 0) hr9
  have c4 : W9.cell? ⟨W2.heap.size, 4, none⟩ = some (B l0) := cell_of_row W9 _ 4 _ _ (0, 0) hr9
  have c5 : W9.cell? ⟨W2.heap.size, 5, none⟩ = some (B l1) := cell_of_row W9 _ 5 _ _ (0, 0) hr9
  have c6 : W9.cell? ⟨W2.heap.size, 6, none⟩ = some (B l2) := cell_of_row W9 _ 6 _ _ (0, 0) hr9
  have c7 : W9.cell? ⟨W2.heap.size, 7, none⟩ = some (B l3) := cell_of_row W9 _ 7 _ _ (0, 0) hr9
  have c8 : W9.cell? ⟨W2.heap.size, 8, none⟩ = some (S data) := cell_of_row W9 _ 8 _ _ (0, 0) hr9
  have h0 : W9.cell? ⟨W4.heap.size, 0, none⟩ = some (.bool fin) := cell_of_row W9 _ 0 _ _ (0, 0) hq9
  have h1 : W9.cell? ⟨W4.heap.size, 1, none⟩ = some (.int .i64 (rsv : Int)) := cell_of_row W9 _ 1 _ _ (0, 0) hq9
  have h2 : W9.cell? ⟨W4.heap.size, 2, none⟩ = some (.int .i64 (op : Int)) := cell_of_row W9 _ 2 _ _ (0, 0) hq9
  have h3 : W9.cell? ⟨W4.heap.size, 3, none⟩ = some (.bool m) := cell_of_row W9 _ 3 _ _ (0, 0) hq9
  have h4 : W9.cell? ⟨W4.heap.size, 4, none⟩ = some (B k0) := cell_of_row W9 _ 4 _ _ (0, 0) hq9
  have h5 : W9.cell? ⟨W4.heap.size, 5, none⟩ = some (B k1) := cell_of_row W9 _ 5 _ _ (0, 0) hq9
  have h6 : W9.cell? ⟨W4.heap.size, 6, none⟩ = some (B k2) := cell_of_row W9 _ 6 _ _ (0, 0) hq9
  have h7 : W9.cell? ⟨W4.heap.size, 7, none⟩ = some (B k3) := cell_of_row W9 _ 7 _ _ (0, 0) hq9
  have h8 : W9.cell? ⟨W4.heap.size, 8, none⟩ = some (.int .u64 (len : Int)) := cell_of_row W9 _ 8 _ _ (0, 0) hq9
  have h9 : W9.cell? ⟨W4.heap.size, 9, none⟩ = some (.bool LE) := cell_of_row W9 _ 9 _ _ (0, 0) hq9
  have d0 : W9.cell? ⟨W8.heap.size, 0, none⟩ = some (.bool ffin) := cell_of_row W9 _ 0 _ _ (0, 0) hs9
  have d1 : W9.cell? ⟨W8.heap.size, 1, none⟩ = some (.int .i64 frsv) := cell_of_row W9 _ 1 _ _ (0, 0) hs9
  have d2 : W9.cell? ⟨W8.heap.size, 2, none⟩ = some (.int .i64 fop) := cell_of_row W9 _ 2 _ _ (0, 0) hs9
  have d3 : W9.cell? ⟨W8.heap.size, 3, none⟩ = some (.bool fm) := cell_of_row W9 _ 3 _ _ (0, 0) hs9
  have d4 : W9.cell? ⟨W8.heap.size, 4, none⟩ = some (B l0) := cell_of_row W9 _ 4 _ _ (0, 0) hs9
  have d5 : W9.cell? ⟨W8.heap.size, 5, none⟩ = some (B l1) := cell_of_row W9 _ 5 _ _ (0, 0) hs9
  have d6 : W9.cell? ⟨W8.heap.size, 6, none⟩ = some (B l2) := cell_of_row W9 _ 6 _ _ (0, 0) hs9
  have d7 : W9.cell? ⟨W8.heap.size, 7, none⟩ = some (B l3) := cell_of_row W9 _ 7 _ _ (0, 0) hs9
  have d8 : W9.cell? ⟨W8.heap.size, 8, none⟩ = some (S data) := cell_of_row W9 _ 8 _ _ (0, 0) hs9
  clear hr8 hq8 hb8 hB8 hr9 hq9 hs9 H7
  go_wp2
  rw [← hW9]
  clear hW9
  go_quiet (fail)
  go_wp2
  go_ret
  exact ⟨rfl, HE.out.trans (below_drewN W9 _ |>.mono HE.out.size)⟩
end Go.Proofs.Ytepamoikoinhdaa
