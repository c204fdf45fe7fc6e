/- The document's Read (stage 15) walked. (mkeh.py writes it.) -/
import Derived.Test.YtepamoikoinhdaaEg
import Derived.Shelf.RegionOpen
namespace Go.Proofs.Ytepamoikoinhdaa
open Go.RowKit
attribute [local go_sem] store_one B_match B_store S_match S_store nguard_BN eguard_BN

theorem infoFr : (Try.prog.info? 34).map (·.size) = some 9 := by kernel_rfl
def put9 (W : World) (b : Nat) (v0 v1 v2 v3 v4 v5 v6 v7 v8 : Value) : World := ((((((((W.setCell ⟨b, 0, none⟩ v0).setCell ⟨b, 1, none⟩ v1).setCell ⟨b, 2, none⟩ v2).setCell ⟨b, 3, none⟩ v3).setCell ⟨b, 4, none⟩ v4).setCell ⟨b, 5, none⟩ v5).setCell ⟨b, 6, none⟩ v6).setCell ⟨b, 7, none⟩ v7).setCell ⟨b, 8, none⟩ v8
theorem put9_below {n : Nat} {w W : World} {b : Nat} (h : Below n w W) (hb : n ≤ b) (v0 v1 v2 v3 v4 v5 v6 v7 v8 : Value) : Below n w (put9 W b v0 v1 v2 v3 v4 v5 v6 v7 v8) :=
  below_set (below_set (below_set (below_set (below_set (below_set (below_set (below_set (below_set h hb v0) hb v1) hb v2) hb v3) hb v4) hb v5) hb v6) hb v7) hb v8
theorem put9_other {W : World} {b g : Nat} {t : TypeId} {cs : Array Value} (h : Row W g cs t) (hg : g ≠ b) (v0 v1 v2 v3 v4 v5 v6 v7 v8 : Value) : Row (put9 W b v0 v1 v2 v3 v4 v5 v6 v7 v8) g cs t :=
  ((((((((h.other (a := ⟨b, 0, none⟩) hg).other (a := ⟨b, 1, none⟩) hg).other (a := ⟨b, 2, none⟩) hg).other (a := ⟨b, 3, none⟩) hg).other (a := ⟨b, 4, none⟩) hg).other (a := ⟨b, 5, none⟩) hg).other (a := ⟨b, 6, none⟩) hg).other (a := ⟨b, 7, none⟩) hg).other (a := ⟨b, 8, none⟩) hg
theorem put9_row {W : World} {b : Nat} {t : TypeId} {a0 a1 a2 a3 a4 a5 a6 a7 a8 : Value} (h : Row W b #[a0, a1, a2, a3, a4, a5, a6, a7, a8] t) (v0 v1 v2 v3 v4 v5 v6 v7 v8 : Value) : Row (put9 W b v0 v1 v2 v3 v4 v5 v6 v7 v8) b #[v0, v1, v2, v3, v4, v5, v6, v7, v8] t := by
  unfold put9
  have h0 : Row (W.setCell ⟨b, 0, none⟩ v0) b #[v0, a1, a2, a3, a4, a5, a6, a7, a8] t := h.set 0 v0
  have h1 : Row ((W.setCell ⟨b, 0, none⟩ v0).setCell ⟨b, 1, none⟩ v1) b #[v0, v1, a2, a3, a4, a5, a6, a7, a8] t := h0.set 1 v1
  have h2 : Row (((W.setCell ⟨b, 0, none⟩ v0).setCell ⟨b, 1, none⟩ v1).setCell ⟨b, 2, none⟩ v2) b #[v0, v1, v2, a3, a4, a5, a6, a7, a8] t := h1.set 2 v2
  have h3 : Row ((((W.setCell ⟨b, 0, none⟩ v0).setCell ⟨b, 1, none⟩ v1).setCell ⟨b, 2, none⟩ v2).setCell ⟨b, 3, none⟩ v3) b #[v0, v1, v2, v3, a4, a5, a6, a7, a8] t := h2.set 3 v3
  have h4 : Row (((((W.setCell ⟨b, 0, none⟩ v0).setCell ⟨b, 1, none⟩ v1).setCell ⟨b, 2, none⟩ v2).setCell ⟨b, 3, none⟩ v3).setCell ⟨b, 4, none⟩ v4) b #[v0, v1, v2, v3, v4, a5, a6, a7, a8] t := h3.set 4 v4
  have h5 : Row ((((((W.setCell ⟨b, 0, none⟩ v0).setCell ⟨b, 1, none⟩ v1).setCell ⟨b, 2, none⟩ v2).setCell ⟨b, 3, none⟩ v3).setCell ⟨b, 4, none⟩ v4).setCell ⟨b, 5, none⟩ v5) b #[v0, v1, v2, v3, v4, v5, a6, a7, a8] t := h4.set 5 v5
  have h6 : Row (((((((W.setCell ⟨b, 0, none⟩ v0).setCell ⟨b, 1, none⟩ v1).setCell ⟨b, 2, none⟩ v2).setCell ⟨b, 3, none⟩ v3).setCell ⟨b, 4, none⟩ v4).setCell ⟨b, 5, none⟩ v5).setCell ⟨b, 6, none⟩ v6) b #[v0, v1, v2, v3, v4, v5, v6, a7, a8] t := h5.set 6 v6
  have h7 : Row ((((((((W.setCell ⟨b, 0, none⟩ v0).setCell ⟨b, 1, none⟩ v1).setCell ⟨b, 2, none⟩ v2).setCell ⟨b, 3, none⟩ v3).setCell ⟨b, 4, none⟩ v4).setCell ⟨b, 5, none⟩ v5).setCell ⟨b, 6, none⟩ v6).setCell ⟨b, 7, none⟩ v7) b #[v0, v1, v2, v3, v4, v5, v6, v7, a8] t := h6.set 7 v7
  have h8 : Row (((((((((W.setCell ⟨b, 0, none⟩ v0).setCell ⟨b, 1, none⟩ v1).setCell ⟨b, 2, none⟩ v2).setCell ⟨b, 3, none⟩ v3).setCell ⟨b, 4, none⟩ v4).setCell ⟨b, 5, none⟩ v5).setCell ⟨b, 6, none⟩ v6).setCell ⟨b, 7, none⟩ v7).setCell ⟨b, 8, none⟩ v8) b #[v0, v1, v2, v3, v4, v5, v6, v7, v8] t := h7.set 8 v8
  exact h8
theorem conv_ui {P : Program} {tb ti : TypeId} (h1 : P.underlying tb = some (.int .u64)) (h2 : P.underlying ti = some (.int .i64)) (n : Nat) (hn : n < 2 ^ 63) (w : World) : (convert tb ti (.int .u64 (n : Int))).run P w = .ok (.int .i64 (n : Int)) w := by
  have e : IntKind.i64.wrap (n : Int) = (n : Int) := by rw [IntKind.wrap_i64]; omega
  simp [convert, run_underlying h1, run_underlying h2, e, go_sem]
set_option maxRecDepth 100000 in
set_option maxHeartbeats 1500000 in
theorem rread_any (s : List UInt8) (hs : s.length ≤ 1000000) (w : World) : Calls Try.prog 18 #[S s] w fun e w' => e = .returned (readV (readF s)) ∧ Below w.heap.size w w' := by
  have hlS := run_len_S (P := Try.prog) Try.underlying9 3 s
  obtain ⟨W1, hW1⟩ : ∃ W, W = w.alloc (.cells #[.bool false, .int .i64 0, .int .i64 0, .bool false, .int .u8 0, .int .u8 0, .int .u8 0, .int .u8 0, .string ⟨#[]⟩] 34) := ⟨_, rfl⟩
  have H1 : Hid (Row W1 w.heap.size #[.bool false, .int .i64 0, .int .i64 0, .bool false, .int .u8 0, .int .u8 0, .int .u8 0, .int .u8 0, .string ⟨#[]⟩] 34 ∧ Below w.heap.size w W1) := Lib.hid (by rw [hW1]; exact ⟨row_new _ _ _, (Below.refl _ _).alloc (Nat.le_refl _) _⟩)
  have hC := rhead_any s hs W1
  have hv : readF s = match readHeadF s with
    | none => (frm0, 0, 7)
    | some (h, n) => if 2147483647 < h.len then (frm0, 0, 3) else if s.length - n < h.len then (frm0, 0, 7) else (frOf h ((s.drop n).take h.len), n + h.len, 0) := rfl
  cases hh : readHeadF s with
  | none =>
    rw [hh] at hC hv
    dsimp only at hv
    have HV : Hid (readV (readF s) = .tuple #[.agg #[.bool false, .int .i64 0, .int .i64 0, .bool false, .int .u8 0, .int .u8 0, .int .u8 0, .int .u8 0, .string ⟨#[]⟩], .int .i64 0, .int .i64 7]) := Lib.hid (by rw [hv]; rfl)
    unfold hrV hrC hd0 key0 at hC
    dsimp only at hC
    have HC := Lib.hid hC
    rw [hW1] at HC
    clear hC hv hh
    go_enter Try.func18, Try.ntmps18
    go_wp2_with fail
    refine HC.out.mono ?_
    rintro e W2 ⟨rfl, hB2⟩
    rw [← hW1] at hB2
    have hrz := (H1.out.1.below hB2 H1.out.1.lt).alloc (.cells #[.bool false, .bool false, .bool false, .int .i64 0, .int .i64 0, B 0, B 0, B 0, B 0, .int .u64 0] 42)
    have hb2 := H1.out.2.trans (hB2.mono H1.out.2.size)
    have HB := Lib.hid (hb2.alloc hb2.size (.cells #[.bool false, .bool false, .bool false, .int .i64 0, .int .i64 0, B 0, B 0, B 0, B 0, .int .u64 0] 42))
    have HRZ := Lib.hid hrz
    clear hB2 hb2 HC hW1
    have z0 : (W2.alloc (.cells #[.bool false, .bool false, .bool false, .int .i64 0, .int .i64 0, B 0, B 0, B 0, B 0, .int .u64 0] 42)).cell? ⟨w.heap.size, 0, none⟩ = some (.bool false) := cell_of_row (W2.alloc (.cells #[.bool false, .bool false, .bool false, .int .i64 0, .int .i64 0, B 0, B 0, B 0, B 0, .int .u64 0] 42)) _ 0 _ _ (0, 0) hrz
    have z1 : (W2.alloc (.cells #[.bool false, .bool false, .bool false, .int .i64 0, .int .i64 0, B 0, B 0, B 0, B 0, .int .u64 0] 42)).cell? ⟨w.heap.size, 1, none⟩ = some (.int .i64 0) := cell_of_row (W2.alloc (.cells #[.bool false, .bool false, .bool false, .int .i64 0, .int .i64 0, B 0, B 0, B 0, B 0, .int .u64 0] 42)) _ 1 _ _ (0, 0) hrz
    have z2 : (W2.alloc (.cells #[.bool false, .bool false, .bool false, .int .i64 0, .int .i64 0, B 0, B 0, B 0, B 0, .int .u64 0] 42)).cell? ⟨w.heap.size, 2, none⟩ = some (.int .i64 0) := cell_of_row (W2.alloc (.cells #[.bool false, .bool false, .bool false, .int .i64 0, .int .i64 0, B 0, B 0, B 0, B 0, .int .u64 0] 42)) _ 2 _ _ (0, 0) hrz
    have z3 : (W2.alloc (.cells #[.bool false, .bool false, .bool false, .int .i64 0, .int .i64 0, B 0, B 0, B 0, B 0, .int .u64 0] 42)).cell? ⟨w.heap.size, 3, none⟩ = some (.bool false) := cell_of_row (W2.alloc (.cells #[.bool false, .bool false, .bool false, .int .i64 0, .int .i64 0, B 0, B 0, B 0, B 0, .int .u64 0] 42)) _ 3 _ _ (0, 0) hrz
    have z4 : (W2.alloc (.cells #[.bool false, .bool false, .bool false, .int .i64 0, .int .i64 0, B 0, B 0, B 0, B 0, .int .u64 0] 42)).cell? ⟨w.heap.size, 4, none⟩ = some (.int .u8 0) := cell_of_row (W2.alloc (.cells #[.bool false, .bool false, .bool false, .int .i64 0, .int .i64 0, B 0, B 0, B 0, B 0, .int .u64 0] 42)) _ 4 _ _ (0, 0) hrz
    have z5 : (W2.alloc (.cells #[.bool false, .bool false, .bool false, .int .i64 0, .int .i64 0, B 0, B 0, B 0, B 0, .int .u64 0] 42)).cell? ⟨w.heap.size, 5, none⟩ = some (.int .u8 0) := cell_of_row (W2.alloc (.cells #[.bool false, .bool false, .bool false, .int .i64 0, .int .i64 0, B 0, B 0, B 0, B 0, .int .u64 0] 42)) _ 5 _ _ (0, 0) hrz
    have z6 : (W2.alloc (.cells #[.bool false, .bool false, .bool false, .int .i64 0, .int .i64 0, B 0, B 0, B 0, B 0, .int .u64 0] 42)).cell? ⟨w.heap.size, 6, none⟩ = some (.int .u8 0) := cell_of_row (W2.alloc (.cells #[.bool false, .bool false, .bool false, .int .i64 0, .int .i64 0, B 0, B 0, B 0, B 0, .int .u64 0] 42)) _ 6 _ _ (0, 0) hrz
    have z7 : (W2.alloc (.cells #[.bool false, .bool false, .bool false, .int .i64 0, .int .i64 0, B 0, B 0, B 0, B 0, .int .u64 0] 42)).cell? ⟨w.heap.size, 7, none⟩ = some (.int .u8 0) := cell_of_row (W2.alloc (.cells #[.bool false, .bool false, .bool false, .int .i64 0, .int .i64 0, B 0, B 0, B 0, B 0, .int .u64 0] 42)) _ 7 _ _ (0, 0) hrz
    have z8 : (W2.alloc (.cells #[.bool false, .bool false, .bool false, .int .i64 0, .int .i64 0, B 0, B 0, B 0, B 0, .int .u64 0] 42)).cell? ⟨w.heap.size, 8, none⟩ = some (.string ⟨#[]⟩) := cell_of_row (W2.alloc (.cells #[.bool false, .bool false, .bool false, .int .i64 0, .int .i64 0, B 0, B 0, B 0, B 0, .int .u64 0] 42)) _ 8 _ _ (0, 0) hrz
    have zf0 := hrz.frozen 0
    have zf1 := hrz.frozen 1
    have zf2 := hrz.frozen 2
    have zf3 := hrz.frozen 3
    have zf4 := hrz.frozen 4
    have zf5 := hrz.frozen 5
    have zf6 := hrz.frozen 6
    have zf7 := hrz.frozen 7
    have zf8 := hrz.frozen 8
    clear hrz
    go_wp2
    refine bodyPost_ret (results_row3E rfl _ _ w.heap.size 34 #[.bool false, .int .i64 0, .int .i64 0, .bool false, .int .u8 0, .int .u8 0, .int .u8 0, .int .u8 0, .string ⟨#[]⟩] (0, 0) _ rfl (put9_row HRZ.out (.bool false) (.int .i64 0) (.int .i64 0) (.bool false) (.int .u8 0) (.int .u8 0) (.int .u8 0) (.int .u8 0) (.string ⟨#[]⟩)) Try.underlying34 rfl infoFr) rfl ?_
    exact ⟨by rw [HV.out]; rfl, put9_below HB.out (Nat.le_refl _) _ _ _ _ _ _ _ _ _⟩
  | some x =>
    obtain ⟨⟨fin, rsv, op, m, ⟨k0, k1, k2, k3⟩, len, le⟩, n⟩ := x
    obtain ⟨hn2, hnl, -⟩ := head_app hh
    rw [hh] at hC hv
    dsimp only at hv
    unfold hrV hrC at hC
    dsimp only at hC hn2 hnl
    have HC := Lib.hid hC
    rw [hW1] at HC
    have HVV := Lib.hid hv
    obtain ⟨L, hL⟩ : ∃ L, L = s.length := ⟨_, rfl⟩
    rw [← hL] at hlS hs hnl HVV
    have HLL := Lib.hid hL
    clear hC hv hh hL
    obtain ⟨HB0, hHB0⟩ : ∃ x : Array Value, x = #[.bool fin, .bool m, .bool le, .int .i64 (rsv : Int), .int .i64 (op : Int), B k0, B k1, B k2, B k3, .int .u64 (len : Int)] := ⟨_, rfl⟩
    by_cases hbig : 2147483647 < len
    · have g1 : decide ((2147483647 : Int) < (len : Int)) = true := decide_eq_true (by omega)
      have g1' : decide ((len : Int) > 2147483647) = true := decide_eq_true (by omega)
      have HV : Hid (readV (readF s) = .tuple #[.agg #[.bool false, .int .i64 0, .int .i64 0, .bool false, .int .u8 0, .int .u8 0, .int .u8 0, .int .u8 0, .string ⟨#[]⟩], .int .i64 0, .int .i64 3]) := Lib.hid (by rw [HVV.out, if_pos hbig]; rfl)
      go_enter Try.func18, Try.ntmps18
      go_wp2_with fail
      refine HC.out.mono ?_
      rintro e W2 ⟨rfl, hB2⟩
      rw [← hW1] at hB2
      obtain ⟨W3, hW3⟩ : ∃ W, W = W2.alloc (.cells #[.bool fin, .bool m, .bool le, .int .i64 (rsv : Int), .int .i64 (op : Int), B k0, B k1, B k2, B k3, .int .u64 (len : Int)] 42) := ⟨_, rfl⟩
      have hrz : Row W3 w.heap.size #[.bool false, .int .i64 0, .int .i64 0, .bool false, .int .u8 0, .int .u8 0, .int .u8 0, .int .u8 0, .string ⟨#[]⟩] 34 := by rw [hW3]; exact (H1.out.1.below hB2 H1.out.1.lt).alloc _
      have hrh : Row W3 W2.heap.size #[.bool fin, .bool m, .bool le, .int .i64 (rsv : Int), .int .i64 (op : Int), B k0, B k1, B k2, B k3, .int .u64 (len : Int)] 42 := by rw [hW3]; exact row_new _ _ _
      have hb2 := H1.out.2.trans (hB2.mono H1.out.2.size)
      have HB : Hid (Below w.heap.size w W3) := Lib.hid (by rw [hW3]; exact hb2.alloc hb2.size _)
      have HRZ := Lib.hid hrz
      have HRH := Lib.hid (And.intro hrh (Nat.lt_of_lt_of_le H1.out.1.lt hB2.size))
      clear hb2 HC hW1 hHB0 HB0
      have z0 : W3.cell? ⟨w.heap.size, 0, none⟩ = some (.bool false) := cell_of_row W3 _ 0 _ _ (0, 0) hrz
      have z1 : W3.cell? ⟨w.heap.size, 1, none⟩ = some (.int .i64 0) := cell_of_row W3 _ 1 _ _ (0, 0) hrz
      have z2 : W3.cell? ⟨w.heap.size, 2, none⟩ = some (.int .i64 0) := cell_of_row W3 _ 2 _ _ (0, 0) hrz
      have z3 : W3.cell? ⟨w.heap.size, 3, none⟩ = some (.bool false) := cell_of_row W3 _ 3 _ _ (0, 0) hrz
      have z4 : W3.cell? ⟨w.heap.size, 4, none⟩ = some (.int .u8 0) := cell_of_row W3 _ 4 _ _ (0, 0) hrz
      have z5 : W3.cell? ⟨w.heap.size, 5, none⟩ = some (.int .u8 0) := cell_of_row W3 _ 5 _ _ (0, 0) hrz
      have z6 : W3.cell? ⟨w.heap.size, 6, none⟩ = some (.int .u8 0) := cell_of_row W3 _ 6 _ _ (0, 0) hrz
      have z7 : W3.cell? ⟨w.heap.size, 7, none⟩ = some (.int .u8 0) := cell_of_row W3 _ 7 _ _ (0, 0) hrz
      have z8 : W3.cell? ⟨w.heap.size, 8, none⟩ = some (.string ⟨#[]⟩) := cell_of_row W3 _ 8 _ _ (0, 0) hrz
      have zf0 := hrz.frozen 0
      have zf1 := hrz.frozen 1
      have zf2 := hrz.frozen 2
      have zf3 := hrz.frozen 3
      have zf4 := hrz.frozen 4
      have zf5 := hrz.frozen 5
      have zf6 := hrz.frozen 6
      have zf7 := hrz.frozen 7
      have zf8 := hrz.frozen 8
      have h0 : W3.cell? ⟨W2.heap.size, 0, none⟩ = some (.bool fin) := cell_of_row W3 _ 0 _ _ (0, 0) hrh
      have h1 : W3.cell? ⟨W2.heap.size, 1, none⟩ = some (.bool m) := cell_of_row W3 _ 1 _ _ (0, 0) hrh
      have h2 : W3.cell? ⟨W2.heap.size, 2, none⟩ = some (.bool le) := cell_of_row W3 _ 2 _ _ (0, 0) hrh
      have h3 : W3.cell? ⟨W2.heap.size, 3, none⟩ = some (.int .i64 (rsv : Int)) := cell_of_row W3 _ 3 _ _ (0, 0) hrh
      have h4 : W3.cell? ⟨W2.heap.size, 4, none⟩ = some (.int .i64 (op : Int)) := cell_of_row W3 _ 4 _ _ (0, 0) hrh
      have h5 : W3.cell? ⟨W2.heap.size, 5, none⟩ = some (B k0) := cell_of_row W3 _ 5 _ _ (0, 0) hrh
      have h6 : W3.cell? ⟨W2.heap.size, 6, none⟩ = some (B k1) := cell_of_row W3 _ 6 _ _ (0, 0) hrh
      have h7 : W3.cell? ⟨W2.heap.size, 7, none⟩ = some (B k2) := cell_of_row W3 _ 7 _ _ (0, 0) hrh
      have h8 : W3.cell? ⟨W2.heap.size, 8, none⟩ = some (B k3) := cell_of_row W3 _ 8 _ _ (0, 0) hrh
      have h9 : W3.cell? ⟨W2.heap.size, 9, none⟩ = some (.int .u64 (len : Int)) := cell_of_row W3 _ 9 _ _ (0, 0) hrh
      rw [hW3] at z0 z1 z2 z3 z4 z5 z6 z7 z8 zf0 zf1 zf2 zf3 zf4 zf5 zf6 zf7 zf8 h0 h1 h2 h3 h4 h5 h6 h7 h8 h9
      clear hB2 hrz hrh
      go_wp2
      rw [← hW3]
      refine bodyPost_ret (results_row3E rfl _ _ w.heap.size 34 #[.bool false, .int .i64 0, .int .i64 0, .bool false, .int .u8 0, .int .u8 0, .int .u8 0, .int .u8 0, .string ⟨#[]⟩] (0, 0) _ rfl (put9_row HRZ.out (.bool false) (.int .i64 0) (.int .i64 0) (.bool false) (.int .u8 0) (.int .u8 0) (.int .u8 0) (.int .u8 0) (.string ⟨#[]⟩)) Try.underlying34 rfl infoFr) rfl ?_
      exact ⟨by rw [HV.out]; rfl, put9_below HB.out (Nat.le_refl _) _ _ _ _ _ _ _ _ _⟩
    have g1 : decide ((2147483647 : Int) < (len : Int)) = false := decide_eq_false (by omega)
    have g1' : decide ((len : Int) > 2147483647) = false := decide_eq_false (by omega)
    have cvl : ∀ w', (convert 23 3 (.int .u64 (len : Int))).run Try.prog w' = .ok (.int .i64 (len : Int)) w' := conv_ui Try.underlying23 Try.underlying3 len (by omega)
    obtain ⟨LN, hLN⟩ : ∃ x, x = L - n := ⟨_, rfl⟩
    have w1 : IntKind.i64.wrap ((L : Int) - (n : Int)) = (LN : Int) := by rw [IntKind.wrap_i64]; omega
    by_cases hsh : LN < len
    · have g2 : decide ((LN : Int) < (len : Int)) = true := decide_eq_true (by omega)
      have HV : Hid (readV (readF s) = .tuple #[.agg #[.bool false, .int .i64 0, .int .i64 0, .bool false, .int .u8 0, .int .u8 0, .int .u8 0, .int .u8 0, .string ⟨#[]⟩], .int .i64 0, .int .i64 7]) := Lib.hid (by rw [HVV.out, if_neg hbig, if_pos (by rw [← hLN]; exact hsh)]; rfl)
      clear hLN
      go_enter Try.func18, Try.ntmps18
      go_wp2_with fail
      refine HC.out.mono ?_
      rintro e W2 ⟨rfl, hB2⟩
      rw [← hW1] at hB2
      obtain ⟨W3, hW3⟩ : ∃ W, W = W2.alloc (.cells #[.bool fin, .bool m, .bool le, .int .i64 (rsv : Int), .int .i64 (op : Int), B k0, B k1, B k2, B k3, .int .u64 (len : Int)] 42) := ⟨_, rfl⟩
      have hrz : Row W3 w.heap.size #[.bool false, .int .i64 0, .int .i64 0, .bool false, .int .u8 0, .int .u8 0, .int .u8 0, .int .u8 0, .string ⟨#[]⟩] 34 := by rw [hW3]; exact (H1.out.1.below hB2 H1.out.1.lt).alloc _
      have hrh : Row W3 W2.heap.size #[.bool fin, .bool m, .bool le, .int .i64 (rsv : Int), .int .i64 (op : Int), B k0, B k1, B k2, B k3, .int .u64 (len : Int)] 42 := by rw [hW3]; exact row_new _ _ _
      have hb2 := H1.out.2.trans (hB2.mono H1.out.2.size)
      have HB : Hid (Below w.heap.size w W3) := Lib.hid (by rw [hW3]; exact hb2.alloc hb2.size _)
      have HRZ := Lib.hid hrz
      have HRH := Lib.hid (And.intro hrh (Nat.lt_of_lt_of_le H1.out.1.lt hB2.size))
      clear hb2 HC hW1 hHB0 HB0
      have z0 : W3.cell? ⟨w.heap.size, 0, none⟩ = some (.bool false) := cell_of_row W3 _ 0 _ _ (0, 0) hrz
      have z1 : W3.cell? ⟨w.heap.size, 1, none⟩ = some (.int .i64 0) := cell_of_row W3 _ 1 _ _ (0, 0) hrz
      have z2 : W3.cell? ⟨w.heap.size, 2, none⟩ = some (.int .i64 0) := cell_of_row W3 _ 2 _ _ (0, 0) hrz
      have z3 : W3.cell? ⟨w.heap.size, 3, none⟩ = some (.bool false) := cell_of_row W3 _ 3 _ _ (0, 0) hrz
      have z4 : W3.cell? ⟨w.heap.size, 4, none⟩ = some (.int .u8 0) := cell_of_row W3 _ 4 _ _ (0, 0) hrz
      have z5 : W3.cell? ⟨w.heap.size, 5, none⟩ = some (.int .u8 0) := cell_of_row W3 _ 5 _ _ (0, 0) hrz
      have z6 : W3.cell? ⟨w.heap.size, 6, none⟩ = some (.int .u8 0) := cell_of_row W3 _ 6 _ _ (0, 0) hrz
      have z7 : W3.cell? ⟨w.heap.size, 7, none⟩ = some (.int .u8 0) := cell_of_row W3 _ 7 _ _ (0, 0) hrz
      have z8 : W3.cell? ⟨w.heap.size, 8, none⟩ = some (.string ⟨#[]⟩) := cell_of_row W3 _ 8 _ _ (0, 0) hrz
      have zf0 := hrz.frozen 0
      have zf1 := hrz.frozen 1
      have zf2 := hrz.frozen 2
      have zf3 := hrz.frozen 3
      have zf4 := hrz.frozen 4
      have zf5 := hrz.frozen 5
      have zf6 := hrz.frozen 6
      have zf7 := hrz.frozen 7
      have zf8 := hrz.frozen 8
      have h0 : W3.cell? ⟨W2.heap.size, 0, none⟩ = some (.bool fin) := cell_of_row W3 _ 0 _ _ (0, 0) hrh
      have h1 : W3.cell? ⟨W2.heap.size, 1, none⟩ = some (.bool m) := cell_of_row W3 _ 1 _ _ (0, 0) hrh
      have h2 : W3.cell? ⟨W2.heap.size, 2, none⟩ = some (.bool le) := cell_of_row W3 _ 2 _ _ (0, 0) hrh
      have h3 : W3.cell? ⟨W2.heap.size, 3, none⟩ = some (.int .i64 (rsv : Int)) := cell_of_row W3 _ 3 _ _ (0, 0) hrh
      have h4 : W3.cell? ⟨W2.heap.size, 4, none⟩ = some (.int .i64 (op : Int)) := cell_of_row W3 _ 4 _ _ (0, 0) hrh
      have h5 : W3.cell? ⟨W2.heap.size, 5, none⟩ = some (B k0) := cell_of_row W3 _ 5 _ _ (0, 0) hrh
      have h6 : W3.cell? ⟨W2.heap.size, 6, none⟩ = some (B k1) := cell_of_row W3 _ 6 _ _ (0, 0) hrh
      have h7 : W3.cell? ⟨W2.heap.size, 7, none⟩ = some (B k2) := cell_of_row W3 _ 7 _ _ (0, 0) hrh
      have h8 : W3.cell? ⟨W2.heap.size, 8, none⟩ = some (B k3) := cell_of_row W3 _ 8 _ _ (0, 0) hrh
      have h9 : W3.cell? ⟨W2.heap.size, 9, none⟩ = some (.int .u64 (len : Int)) := cell_of_row W3 _ 9 _ _ (0, 0) hrh
      rw [hW3] at z0 z1 z2 z3 z4 z5 z6 z7 z8 zf0 zf1 zf2 zf3 zf4 zf5 zf6 zf7 zf8 h0 h1 h2 h3 h4 h5 h6 h7 h8 h9
      clear hB2 hrz hrh
      go_wp2
      rw [← hW3]
      refine bodyPost_ret (results_row3E rfl _ _ w.heap.size 34 #[.bool false, .int .i64 0, .int .i64 0, .bool false, .int .u8 0, .int .u8 0, .int .u8 0, .int .u8 0, .string ⟨#[]⟩] (0, 0) _ rfl (put9_row HRZ.out (.bool false) (.int .i64 0) (.int .i64 0) (.bool false) (.int .u8 0) (.int .u8 0) (.int .u8 0) (.int .u8 0) (.string ⟨#[]⟩)) Try.underlying34 rfl infoFr) rfl ?_
      exact ⟨by rw [HV.out]; rfl, put9_below HB.out (Nat.le_refl _) _ _ _ _ _ _ _ _ _⟩
    have g2 : decide ((LN : Int) < (len : Int)) = false := decide_eq_false (by omega)
    obtain ⟨EN, hEN⟩ : ∃ x, x = n + len := ⟨_, rfl⟩
    have w2 : IntKind.i64.wrap ((n : Int) + (len : Int)) = (EN : Int) := by rw [IntKind.wrap_i64]; omega
    obtain ⟨D, hD⟩ : ∃ D, D = (s.drop n).take len := ⟨_, rfl⟩
    have hsl : ∀ w', (Instr.slice 9 (S s) (some (.int .i64 (n : Int))) (some (.int .i64 (EN : Int))) none).run Try.prog w' = .ok (S D) w' := fun w' => by
      have := slice_mid (P := Try.prog) Try.underlying9 s n EN (by omega) (by rw [← HLL.out]; omega) w'
      rw [this, hD, hEN, Nat.add_sub_cancel_left]
    obtain ⟨MK, hMK⟩ : ∃ x, x = maskN ⟨k0, k1, k2, k3⟩ 0 D := ⟨_, rfl⟩
    have HM : Hid (∀ w', Calls Try.prog 20 #[.agg #[B k0, B k1, B k2, B k3], .int .i64 0, S D] w' fun e w'' => e = .returned (S MK) ∧ Below w'.heap.size w' w'') := Lib.hid fun w' => by
      rw [hMK]; exact mask15_any ⟨k0, k1, k2, k3⟩ 0 D w' (by rw [hD, List.length_take, List.length_drop, ← HLL.out]; omega)
    have HV : Hid (readV (readF s) = .tuple #[.agg #[.bool fin, .int .i64 (rsv : Int), .int .i64 (op : Int), .bool m, B k0, B k1, B k2, B k3, S MK], .int .i64 (EN : Int), .int .i64 0]) := Lib.hid (by
      rw [HVV.out, if_neg hbig, if_neg (by rw [← hLN]; exact hsh), hMK, hD, hEN]; rfl)
    clear hLN hEN hD hMK
    go_enter Try.func18, Try.ntmps18
    go_wp2_with fail
    refine HC.out.mono ?_
    rintro e W2 ⟨rfl, hB2⟩
    rw [← hW1] at hB2
    obtain ⟨W3, hW3⟩ : ∃ W, W = W2.alloc (.cells #[.bool fin, .bool m, .bool le, .int .i64 (rsv : Int), .int .i64 (op : Int), B k0, B k1, B k2, B k3, .int .u64 (len : Int)] 42) := ⟨_, rfl⟩
    have hrz : Row W3 w.heap.size #[.bool false, .int .i64 0, .int .i64 0, .bool false, .int .u8 0, .int .u8 0, .int .u8 0, .int .u8 0, .string ⟨#[]⟩] 34 := by rw [hW3]; exact (H1.out.1.below hB2 H1.out.1.lt).alloc _
    have hrh : Row W3 W2.heap.size #[.bool fin, .bool m, .bool le, .int .i64 (rsv : Int), .int .i64 (op : Int), B k0, B k1, B k2, B k3, .int .u64 (len : Int)] 42 := by rw [hW3]; exact row_new _ _ _
    have hb2 := H1.out.2.trans (hB2.mono H1.out.2.size)
    have HB : Hid (Below w.heap.size w W3) := Lib.hid (by rw [hW3]; exact hb2.alloc hb2.size _)
    have HRZ := Lib.hid hrz
    have HRH := Lib.hid (And.intro hrh (Nat.lt_of_lt_of_le H1.out.1.lt hB2.size))
    clear hb2 HC hW1 hHB0 HB0
    have z0 : W3.cell? ⟨w.heap.size, 0, none⟩ = some (.bool false) := cell_of_row W3 _ 0 _ _ (0, 0) hrz
    have z1 : W3.cell? ⟨w.heap.size, 1, none⟩ = some (.int .i64 0) := cell_of_row W3 _ 1 _ _ (0, 0) hrz
    have z2 : W3.cell? ⟨w.heap.size, 2, none⟩ = some (.int .i64 0) := cell_of_row W3 _ 2 _ _ (0, 0) hrz
    have z3 : W3.cell? ⟨w.heap.size, 3, none⟩ = some (.bool false) := cell_of_row W3 _ 3 _ _ (0, 0) hrz
    have z4 : W3.cell? ⟨w.heap.size, 4, none⟩ = some (.int .u8 0) := cell_of_row W3 _ 4 _ _ (0, 0) hrz
    have z5 : W3.cell? ⟨w.heap.size, 5, none⟩ = some (.int .u8 0) := cell_of_row W3 _ 5 _ _ (0, 0) hrz
    have z6 : W3.cell? ⟨w.heap.size, 6, none⟩ = some (.int .u8 0) := cell_of_row W3 _ 6 _ _ (0, 0) hrz
    have z7 : W3.cell? ⟨w.heap.size, 7, none⟩ = some (.int .u8 0) := cell_of_row W3 _ 7 _ _ (0, 0) hrz
    have z8 : W3.cell? ⟨w.heap.size, 8, none⟩ = some (.string ⟨#[]⟩) := cell_of_row W3 _ 8 _ _ (0, 0) hrz
    have zf0 := hrz.frozen 0
    have zf1 := hrz.frozen 1
    have zf2 := hrz.frozen 2
    have zf3 := hrz.frozen 3
    have zf4 := hrz.frozen 4
    have zf5 := hrz.frozen 5
    have zf6 := hrz.frozen 6
    have zf7 := hrz.frozen 7
    have zf8 := hrz.frozen 8
    have h0 : W3.cell? ⟨W2.heap.size, 0, none⟩ = some (.bool fin) := cell_of_row W3 _ 0 _ _ (0, 0) hrh
    have h1 : W3.cell? ⟨W2.heap.size, 1, none⟩ = some (.bool m) := cell_of_row W3 _ 1 _ _ (0, 0) hrh
    have h2 : W3.cell? ⟨W2.heap.size, 2, none⟩ = some (.bool le) := cell_of_row W3 _ 2 _ _ (0, 0) hrh
    have h3 : W3.cell? ⟨W2.heap.size, 3, none⟩ = some (.int .i64 (rsv : Int)) := cell_of_row W3 _ 3 _ _ (0, 0) hrh
    have h4 : W3.cell? ⟨W2.heap.size, 4, none⟩ = some (.int .i64 (op : Int)) := cell_of_row W3 _ 4 _ _ (0, 0) hrh
    have h5 : W3.cell? ⟨W2.heap.size, 5, none⟩ = some (B k0) := cell_of_row W3 _ 5 _ _ (0, 0) hrh
    have h6 : W3.cell? ⟨W2.heap.size, 6, none⟩ = some (B k1) := cell_of_row W3 _ 6 _ _ (0, 0) hrh
    have h7 : W3.cell? ⟨W2.heap.size, 7, none⟩ = some (B k2) := cell_of_row W3 _ 7 _ _ (0, 0) hrh
    have h8 : W3.cell? ⟨W2.heap.size, 8, none⟩ = some (B k3) := cell_of_row W3 _ 8 _ _ (0, 0) hrh
    have h9 : W3.cell? ⟨W2.heap.size, 9, none⟩ = some (.int .u64 (len : Int)) := cell_of_row W3 _ 9 _ _ (0, 0) hrh
    rw [hW3] at z0 z1 z2 z3 z4 z5 z6 z7 z8 zf0 zf1 zf2 zf3 zf4 zf5 zf6 zf7 zf8 h0 h1 h2 h3 h4 h5 h6 h7 h8 h9
    clear hB2 hrz hrh
    go_wp2
    rw [← hW3]
    rw [← hW3] at z0 z1 z2 z3 z4 z5 z6 z7 z8 zf0 zf1 zf2 zf3 zf4 zf5 zf6 zf7 zf8 h0 h1 h2 h3 h4 h5 h6 h7 h8 h9
    have hS : ∀ wx, Row wx W2.heap.size #[.bool fin, .bool m, .bool le, .int .i64 (rsv : Int), .int .i64 (op : Int), B k0, B k1, B k2, B k3, .int .u64 (len : Int)] 42 → wx.cell? ⟨W2.heap.size, 0, none⟩ = some (.bool fin) ∧ wx.cell? ⟨W2.heap.size, 1, none⟩ = some (.bool m) ∧ wx.cell? ⟨W2.heap.size, 2, none⟩ = some (.bool le) ∧ wx.cell? ⟨W2.heap.size, 3, none⟩ = some (.int .i64 (rsv : Int)) ∧ wx.cell? ⟨W2.heap.size, 4, none⟩ = some (.int .i64 (op : Int)) ∧ wx.cell? ⟨W2.heap.size, 5, none⟩ = some (B k0) ∧ wx.cell? ⟨W2.heap.size, 6, none⟩ = some (B k1) ∧ wx.cell? ⟨W2.heap.size, 7, none⟩ = some (B k2) ∧ wx.cell? ⟨W2.heap.size, 8, none⟩ = some (B k3) ∧ wx.cell? ⟨W2.heap.size, 9, none⟩ = some (.int .u64 (len : Int)) := fun wx h => ⟨cell_of_row wx _ 0 _ _ (0, 0) h, cell_of_row wx _ 1 _ _ (0, 0) h, cell_of_row wx _ 2 _ _ (0, 0) h, cell_of_row wx _ 3 _ _ (0, 0) h, cell_of_row wx _ 4 _ _ (0, 0) h, cell_of_row wx _ 5 _ _ (0, 0) h, cell_of_row wx _ 6 _ _ (0, 0) h, cell_of_row wx _ 7 _ _ (0, 0) h, cell_of_row wx _ 8 _ _ (0, 0) h, cell_of_row wx _ 9 _ _ (0, 0) h⟩
    have HS := Lib.hid hS
    obtain ⟨Wq, hWq⟩ : ∃ Wq, Wq = W3.drew := ⟨_, rfl⟩
    have hBq : Below W3.heap.size W3 Wq := by rw [hWq]; exact ⟨rfl, rfl, rfl, Nat.le_refl _, fun _ _ => rfl⟩
    have HBQ := Lib.hid hBq
    have HSQ := Lib.hid (hS Wq (HRH.out.1.below hBq HRH.out.1.lt))
    refine wp_region_noPanic ?_
    refine wp_region_held_drew (S := fun wx => wx.cell? ⟨W2.heap.size, 0, none⟩ = some (.bool fin) ∧ wx.cell? ⟨W2.heap.size, 1, none⟩ = some (.bool m) ∧ wx.cell? ⟨W2.heap.size, 2, none⟩ = some (.bool le) ∧ wx.cell? ⟨W2.heap.size, 3, none⟩ = some (.int .i64 (rsv : Int)) ∧ wx.cell? ⟨W2.heap.size, 4, none⟩ = some (.int .i64 (op : Int)) ∧ wx.cell? ⟨W2.heap.size, 5, none⟩ = some (B k0) ∧ wx.cell? ⟨W2.heap.size, 6, none⟩ = some (B k1) ∧ wx.cell? ⟨W2.heap.size, 7, none⟩ = some (B k2) ∧ wx.cell? ⟨W2.heap.size, 8, none⟩ = some (B k3) ∧ wx.cell? ⟨W2.heap.size, 9, none⟩ = some (.int .u64 (len : Int))) (by kernel_rfl) (hS W3 HRH.out.1) (fun _ => ?_)
    rw [← hWq]
    clear hWq hS hBq
    refine take_at (i := 0) (d := some 36) (v := .pointer (some ⟨W2.heap.size, 0, none⟩)) rfl (by kernel_rfl) (by kernel_rfl) (by kernel_rfl) (fun _ _ _ h => h) (fun oi ho => ?_) HSQ.out ?_
    · obtain rfl := Option.some.inj ho
      exact Or.inl ⟨by rfl, fun wx hSw => by obtain ⟨u0, u1, u2, u3, u4, u5, u6, u7, u8, u9⟩ := hSw; go_simp⟩
    simp only [Act.put, List.setIfInBounds_toArray, List.set_cons_zero, List.set_cons_succ]
    refine take_at (i := 1) (d := some 37) (v := .bool fin) rfl (by kernel_rfl) (by kernel_rfl) (by kernel_rfl) (fun _ _ _ h => h) (fun oi ho => ?_) HSQ.out ?_
    · obtain rfl := Option.some.inj ho
      exact Or.inl ⟨by rfl, fun wx hSw => by obtain ⟨u0, u1, u2, u3, u4, u5, u6, u7, u8, u9⟩ := hSw; go_simp⟩
    simp only [Act.put, List.setIfInBounds_toArray, List.set_cons_zero, List.set_cons_succ]
    refine take_at (i := 2) (d := some 38) (v := .pointer (some ⟨W2.heap.size, 3, none⟩)) rfl (by kernel_rfl) (by kernel_rfl) (by kernel_rfl) (fun _ _ _ h => h) (fun oi ho => ?_) HSQ.out ?_
    · obtain rfl := Option.some.inj ho
      exact Or.inl ⟨by rfl, fun wx hSw => by obtain ⟨u0, u1, u2, u3, u4, u5, u6, u7, u8, u9⟩ := hSw; go_simp⟩
    simp only [Act.put, List.setIfInBounds_toArray, List.set_cons_zero, List.set_cons_succ]
    refine take_at (i := 3) (d := some 39) (v := .int .i64 (rsv : Int)) rfl (by kernel_rfl) (by kernel_rfl) (by kernel_rfl) (fun _ _ _ h => h) (fun oi ho => ?_) HSQ.out ?_
    · obtain rfl := Option.some.inj ho
      exact Or.inl ⟨by rfl, fun wx hSw => by obtain ⟨u0, u1, u2, u3, u4, u5, u6, u7, u8, u9⟩ := hSw; go_simp⟩
    simp only [Act.put, List.setIfInBounds_toArray, List.set_cons_zero, List.set_cons_succ]
    refine take_at (i := 4) (d := some 40) (v := .pointer (some ⟨W2.heap.size, 4, none⟩)) rfl (by kernel_rfl) (by kernel_rfl) (by kernel_rfl) (fun _ _ _ h => h) (fun oi ho => ?_) HSQ.out ?_
    · obtain rfl := Option.some.inj ho
      exact Or.inl ⟨by rfl, fun wx hSw => by obtain ⟨u0, u1, u2, u3, u4, u5, u6, u7, u8, u9⟩ := hSw; go_simp⟩
    simp only [Act.put, List.setIfInBounds_toArray, List.set_cons_zero, List.set_cons_succ]
    refine take_at (i := 5) (d := some 41) (v := .int .i64 (op : Int)) rfl (by kernel_rfl) (by kernel_rfl) (by kernel_rfl) (fun _ _ _ h => h) (fun oi ho => ?_) HSQ.out ?_
    · obtain rfl := Option.some.inj ho
      exact Or.inl ⟨by rfl, fun wx hSw => by obtain ⟨u0, u1, u2, u3, u4, u5, u6, u7, u8, u9⟩ := hSw; go_simp⟩
    simp only [Act.put, List.setIfInBounds_toArray, List.set_cons_zero, List.set_cons_succ]
    refine take_at (i := 6) (d := some 42) (v := .pointer (some ⟨W2.heap.size, 1, none⟩)) rfl (by kernel_rfl) (by kernel_rfl) (by kernel_rfl) (fun _ _ _ h => h) (fun oi ho => ?_) HSQ.out ?_
    · obtain rfl := Option.some.inj ho
      exact Or.inl ⟨by rfl, fun wx hSw => by obtain ⟨u0, u1, u2, u3, u4, u5, u6, u7, u8, u9⟩ := hSw; go_simp⟩
    simp only [Act.put, List.setIfInBounds_toArray, List.set_cons_zero, List.set_cons_succ]
    refine take_at (i := 7) (d := some 43) (v := .bool m) rfl (by kernel_rfl) (by kernel_rfl) (by kernel_rfl) (fun _ _ _ h => h) (fun oi ho => ?_) HSQ.out ?_
    · obtain rfl := Option.some.inj ho
      exact Or.inl ⟨by rfl, fun wx hSw => by obtain ⟨u0, u1, u2, u3, u4, u5, u6, u7, u8, u9⟩ := hSw; go_simp⟩
    simp only [Act.put, List.setIfInBounds_toArray, List.set_cons_zero, List.set_cons_succ]
    refine take_at (i := 8) (d := some 44) (v := .pointer (some ⟨W2.heap.size, 5, none⟩)) rfl (by kernel_rfl) (by kernel_rfl) (by kernel_rfl) (fun _ _ _ h => h) (fun oi ho => ?_) HSQ.out ?_
    · obtain rfl := Option.some.inj ho
      exact Or.inl ⟨by rfl, fun wx hSw => by obtain ⟨u0, u1, u2, u3, u4, u5, u6, u7, u8, u9⟩ := hSw; go_simp⟩
    simp only [Act.put, List.setIfInBounds_toArray, List.set_cons_zero, List.set_cons_succ]
    refine take_at (i := 9) (d := some 45) (v := .agg #[B k0, B k1, B k2, B k3]) rfl (by kernel_rfl) (by kernel_rfl) (by kernel_rfl) (fun _ _ _ h => h) (fun oi ho => ?_) HSQ.out ?_
    · obtain rfl := Option.some.inj ho
      exact Or.inl ⟨by rfl, fun wx hSw => by obtain ⟨u0, u1, u2, u3, u4, u5, u6, u7, u8, u9⟩ := hSw; go_simp⟩
    simp only [Act.put, List.setIfInBounds_toArray, List.set_cons_zero, List.set_cons_succ]
    refine take_at (i := 10) (d := some 46) (v := .pointer (some ⟨W2.heap.size, 5, none⟩)) rfl (by kernel_rfl) (by kernel_rfl) (by kernel_rfl) (fun _ _ _ h => h) (fun oi ho => ?_) HSQ.out ?_
    · obtain rfl := Option.some.inj ho
      exact Or.inl ⟨by rfl, fun wx hSw => by obtain ⟨u0, u1, u2, u3, u4, u5, u6, u7, u8, u9⟩ := hSw; go_simp⟩
    simp only [Act.put, List.setIfInBounds_toArray, List.set_cons_zero, List.set_cons_succ]
    refine take_at (i := 11) (d := some 47) (v := .agg #[B k0, B k1, B k2, B k3]) rfl (by kernel_rfl) (by kernel_rfl) (by kernel_rfl) (fun _ _ _ h => h) (fun oi ho => ?_) HSQ.out ?_
    · obtain rfl := Option.some.inj ho
      exact Or.inl ⟨by rfl, fun wx hSw => by obtain ⟨u0, u1, u2, u3, u4, u5, u6, u7, u8, u9⟩ := hSw; go_simp⟩
    simp only [Act.put, List.setIfInBounds_toArray, List.set_cons_zero, List.set_cons_succ]
    refine take_at (i := 12) (d := some 48) (v := S s) rfl (by kernel_rfl) (by kernel_rfl) (by kernel_rfl) (fun _ _ _ h => h) (fun oi ho => ?_) HSQ.out ?_
    · obtain rfl := Option.some.inj ho
      exact Or.inl ⟨by rfl, fun wx hSw => by obtain ⟨u0, u1, u2, u3, u4, u5, u6, u7, u8, u9⟩ := hSw; go_simp⟩
    simp only [Act.put, List.setIfInBounds_toArray, List.set_cons_zero, List.set_cons_succ]
    refine take_at (i := 13) (d := some 49) (v := .int .i64 (n : Int)) rfl (by kernel_rfl) (by kernel_rfl) (by kernel_rfl) (fun _ _ _ h => h) (fun oi ho => ?_) HSQ.out ?_
    · obtain rfl := Option.some.inj ho
      exact Or.inl ⟨by rfl, fun wx hSw => by obtain ⟨u0, u1, u2, u3, u4, u5, u6, u7, u8, u9⟩ := hSw; go_simp⟩
    simp only [Act.put, List.setIfInBounds_toArray, List.set_cons_zero, List.set_cons_succ]
    refine take_at (i := 14) (d := some 50) (v := .int .i64 (EN : Int)) rfl (by kernel_rfl) (by kernel_rfl) (by kernel_rfl) (fun _ _ _ h => h) (fun oi ho => ?_) HSQ.out ?_
    · obtain rfl := Option.some.inj ho
      exact Or.inl ⟨by rfl, fun wx hSw => by obtain ⟨u0, u1, u2, u3, u4, u5, u6, u7, u8, u9⟩ := hSw; go_simp⟩
    simp only [Act.put, List.setIfInBounds_toArray, List.set_cons_zero, List.set_cons_succ]
    refine take_at (i := 15) (d := some 51) (v := S D) rfl (by kernel_rfl) (by kernel_rfl) (by kernel_rfl) (fun _ _ _ h => h) (fun oi ho => ?_) HSQ.out ?_
    · obtain rfl := Option.some.inj ho
      exact Or.inl ⟨by rfl, fun wx hSw => by obtain ⟨u0, u1, u2, u3, u4, u5, u6, u7, u8, u9⟩ := hSw; go_simp⟩
    simp only [Act.put, List.setIfInBounds_toArray, List.set_cons_zero, List.set_cons_succ]
    refine take_at (i := 18) (d := some 54) (v := .int .i64 (EN : Int)) rfl (by kernel_rfl) (by kernel_rfl) (by kernel_rfl) (fun _ _ _ h => h) (fun oi ho => ?_) HSQ.out ?_
    · obtain rfl := Option.some.inj ho
      exact Or.inl ⟨by rfl, fun wx hSw => by obtain ⟨u0, u1, u2, u3, u4, u5, u6, u7, u8, u9⟩ := hSw; go_simp⟩
    simp only [Act.put, List.setIfInBounds_toArray, List.set_cons_zero, List.set_cons_succ]
    refine ready_call (i := 16) (d := some 52) (f := 20) (args := #[.agg #[B k0, B k1, B k2, B k3], .int .i64 0, S D]) rfl (by kernel_rfl) (fun oi ho => ?_) ?_
    · obtain rfl := Option.some.inj ho
      exact ⟨by rfl, by go_simp⟩
    refine (HM.out Wq).mono ?_
    rintro e Wz ⟨rfl, hBz⟩
    have hBy := HBQ.out.trans (hBz.mono HBQ.out.size)
    have hrh4 := HRH.out.1.below hBy HRH.out.1.lt
    have hrz4 := HRZ.out.below hBy HRZ.out.lt
    have HSZ := Lib.hid (HS.out Wz hrh4)
    have HS5 := Lib.hid (HS.out (put9 Wz w.heap.size (.bool fin) (.int .i64 (rsv : Int)) (.int .i64 (op : Int)) (.bool m) (B k0) (B k1) (B k2) (B k3) (S MK)) (put9_other hrh4 (by have := HRH.out.2; omega) _ _ _ _ _ _ _ _ _))
    have HE := Lib.hid (And.intro hrz4 (HB.out.trans (hBy.mono HB.out.size)))
    clear z0 z1 z2 z3 z4 z5 z6 z7 z8 zf0 zf1 zf2 zf3 zf4 zf5 zf6 zf7 zf8 h0 h1 h2 h3 h4 h5 h6 h7 h8 h9
    have z0 : Wz.cell? ⟨w.heap.size, 0, none⟩ = some (.bool false) := cell_of_row Wz _ 0 _ _ (0, 0) hrz4
    have z1 : Wz.cell? ⟨w.heap.size, 1, none⟩ = some (.int .i64 0) := cell_of_row Wz _ 1 _ _ (0, 0) hrz4
    have z2 : Wz.cell? ⟨w.heap.size, 2, none⟩ = some (.int .i64 0) := cell_of_row Wz _ 2 _ _ (0, 0) hrz4
    have z3 : Wz.cell? ⟨w.heap.size, 3, none⟩ = some (.bool false) := cell_of_row Wz _ 3 _ _ (0, 0) hrz4
    have z4 : Wz.cell? ⟨w.heap.size, 4, none⟩ = some (.int .u8 0) := cell_of_row Wz _ 4 _ _ (0, 0) hrz4
    have z5 : Wz.cell? ⟨w.heap.size, 5, none⟩ = some (.int .u8 0) := cell_of_row Wz _ 5 _ _ (0, 0) hrz4
    have z6 : Wz.cell? ⟨w.heap.size, 6, none⟩ = some (.int .u8 0) := cell_of_row Wz _ 6 _ _ (0, 0) hrz4
    have z7 : Wz.cell? ⟨w.heap.size, 7, none⟩ = some (.int .u8 0) := cell_of_row Wz _ 7 _ _ (0, 0) hrz4
    have z8 : Wz.cell? ⟨w.heap.size, 8, none⟩ = some (.string ⟨#[]⟩) := cell_of_row Wz _ 8 _ _ (0, 0) hrz4
    have zf0 := hrz4.frozen 0
    have zf1 := hrz4.frozen 1
    have zf2 := hrz4.frozen 2
    have zf3 := hrz4.frozen 3
    have zf4 := hrz4.frozen 4
    have zf5 := hrz4.frozen 5
    have zf6 := hrz4.frozen 6
    have zf7 := hrz4.frozen 7
    have zf8 := hrz4.frozen 8
    clear hBz hBy hrh4 hrz4
    refine ⟨_, rfl, HSZ.out, ?_⟩
    simp only [Act.put, List.setIfInBounds_toArray, List.set_cons_zero, List.set_cons_succ]
    refine take_at (i := 17) (d := some 53) (v := .agg #[.bool fin, .int .i64 (rsv : Int), .int .i64 (op : Int), .bool m, B k0, B k1, B k2, B k3, S MK]) rfl (by kernel_rfl) (by kernel_rfl) (by kernel_rfl) (fun _ _ _ h => h) (fun oi ho => ?_) HSZ.out ?_
    · obtain rfl := Option.some.inj ho
      exact Or.inl ⟨by rfl, fun wx hSw => by obtain ⟨u0, u1, u2, u3, u4, u5, u6, u7, u8, u9⟩ := hSw; go_simp⟩
    simp only [Act.put, List.setIfInBounds_toArray, List.set_cons_zero, List.set_cons_succ]
    refine ready_skip (i := 19) (d := none) (w' := put9 Wz w.heap.size (.bool fin) (.int .i64 (rsv : Int)) (.int .i64 (op : Int)) (.bool m) (B k0) (B k1) (B k2) (B k3) (S MK)) rfl (by kernel_rfl) (fun oi ho => ?_) HS5.out ?_
    · obtain rfl := Option.some.inj ho
      exact ⟨by rfl, by unfold put9; go_simp⟩
    refine take_at (i := 20) (d := some 3) (v := .int .i64 (EN : Int)) rfl (by kernel_rfl) (by kernel_rfl) (by kernel_rfl) (fun _ _ _ h => h) (fun oi ho => ?_) HS5.out ?_
    · obtain rfl := Option.some.inj ho
      exact Or.inl ⟨by rfl, fun wx hSw => by obtain ⟨u0, u1, u2, u3, u4, u5, u6, u7, u8, u9⟩ := hSw; go_simp⟩
    simp only [Act.put, List.setIfInBounds_toArray, List.set_cons_zero, List.set_cons_succ]
    refine take_at (i := 21) (d := some 4) (v := .int .i64 0) rfl (by kernel_rfl) (by kernel_rfl) (by kernel_rfl) (fun _ _ _ h => h) (fun oi ho => ?_) HS5.out ?_
    · obtain rfl := Option.some.inj ho
      exact Or.inl ⟨by rfl, fun wx hSw => by obtain ⟨u0, u1, u2, u3, u4, u5, u6, u7, u8, u9⟩ := hSw; go_simp⟩
    simp only [Act.put, List.setIfInBounds_toArray, List.set_cons_zero, List.set_cons_succ]
    refine wpAnyH_done (by kernel_rfl) ?_ _
    refine NoPanic.normal ?_
    try simp only [Act.put]
    go_wp2
    refine bodyPost_ret (results_row3E rfl _ _ w.heap.size 34 #[.bool fin, .int .i64 (rsv : Int), .int .i64 (op : Int), .bool m, B k0, B k1, B k2, B k3, S MK] (0, 0) _ rfl (put9_row HE.out.1 (.bool fin) (.int .i64 (rsv : Int)) (.int .i64 (op : Int)) (.bool m) (B k0) (B k1) (B k2) (B k3) (S MK)) Try.underlying34 rfl infoFr) rfl ?_
    exact ⟨by rw [HV.out]; rfl, put9_below HE.out.2 (Nat.le_refl _) _ _ _ _ _ _ _ _ _⟩
end Go.Proofs.Ytepamoikoinhdaa
