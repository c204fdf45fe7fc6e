/- The landed Read walked. (mkew9.py writes it.) -/
import Derived.Test.YtepamoikoinhdaaEw8
import Derived.Test.YtepamoikoinhdaaEh
namespace Go.Proofs.Ytepamoikoinhdaa
open Go.RowKit
attribute [local go_sem] store_one B_match B_store S_match S_store nguard_BN eguard_BN

set_option maxRecDepth 100000 in
set_option maxHeartbeats 1500000 in
theorem wread_none (s : List UInt8) (hs : s.length ≤ 200000) (hh : readHeadF s = none) (w : World) : Calls Try.prog 14 #[S s] w fun e w' => e = .returned (readV (readF s)) ∧ Below w.heap.size w w' := by
  obtain ⟨W1, hW1⟩ : ∃ W, W = w.alloc (.cells #[.bool false, .int .i64 0, .int .i64 0, .bool false, .int .u8 0, .int .u8 0, .int .u8 0, .int .u8 0, .string ⟨#[]⟩] 34) := ⟨_, rfl⟩
  have H1 : Hid (Row W1 w.heap.size #[.bool false, .int .i64 0, .int .i64 0, .bool false, .int .u8 0, .int .u8 0, .int .u8 0, .int .u8 0, .string ⟨#[]⟩] 34 ∧ Below w.heap.size w W1) := Lib.hid (by rw [hW1]; exact ⟨row_new _ _ _, (Below.refl _ _).alloc (Nat.le_refl _) _⟩)
  have hC := whead_any s hs W1
  rw [hh, hd_none] at hC
  unfold hdZ at hC
  have HV : Hid (readV (readF s) = .tuple #[.agg #[.bool false, .int .i64 0, .int .i64 0, .bool false, .int .u8 0, .int .u8 0, .int .u8 0, .int .u8 0, .string ⟨#[]⟩], .int .i64 0, .int .i64 7]) := Lib.hid (by unfold readF; rw [hh]; rfl)
  rw [hW1] at hC
  have HC := Lib.hid hC
  clear hC hh hs
  go_enter Try.func14, Try.ntmps14
  go_wp2_with fail
  refine HC.out.mono ?_
  rintro e W2 ⟨rfl, hB2⟩
  rw [← hW1] at hB2
  have hrz := (H1.out.1.below hB2 H1.out.1.lt).alloc (.cells #[.bool false, .int .i64 0, .int .i64 0, .bool false, .int .u8 0, .int .u8 0, .int .u8 0, .int .u8 0, .int .u64 0, .bool false] 25)
  have hb2 := H1.out.2.trans (hB2.mono H1.out.2.size)
  obtain ⟨W3, hW3⟩ : ∃ W, W = W2.alloc (.cells #[.bool false, .int .i64 0, .int .i64 0, .bool false, .int .u8 0, .int .u8 0, .int .u8 0, .int .u8 0, .int .u64 0, .bool false] 25) := ⟨_, rfl⟩
  rw [← hW3] at hrz
  have HB : Hid (Below w.heap.size w W3) := Lib.hid (by rw [hW3]; exact hb2.alloc hb2.size _)
  have HRZ := Lib.hid hrz
  clear hB2 hb2 HC hW1
  have z0 : W3.cell? ⟨w.heap.size, 0, none⟩ = some (.bool false) := cell_of_row W3 _ 0 _ _ (0, 0) hrz
  have z1 : W3.cell? ⟨w.heap.size, 1, none⟩ = some (.int .i64 0) := cell_of_row W3 _ 1 _ _ (0, 0) hrz
  have z2 : W3.cell? ⟨w.heap.size, 2, none⟩ = some (.int .i64 0) := cell_of_row W3 _ 2 _ _ (0, 0) hrz
  have z3 : W3.cell? ⟨w.heap.size, 3, none⟩ = some (.bool false) := cell_of_row W3 _ 3 _ _ (0, 0) hrz
  have z4 : W3.cell? ⟨w.heap.size, 4, none⟩ = some (.int .u8 0) := cell_of_row W3 _ 4 _ _ (0, 0) hrz
  have z5 : W3.cell? ⟨w.heap.size, 5, none⟩ = some (.int .u8 0) := cell_of_row W3 _ 5 _ _ (0, 0) hrz
  have z6 : W3.cell? ⟨w.heap.size, 6, none⟩ = some (.int .u8 0) := cell_of_row W3 _ 6 _ _ (0, 0) hrz
  have z7 : W3.cell? ⟨w.heap.size, 7, none⟩ = some (.int .u8 0) := cell_of_row W3 _ 7 _ _ (0, 0) hrz
  have z8 : W3.cell? ⟨w.heap.size, 8, none⟩ = some (.string ⟨#[]⟩) := cell_of_row W3 _ 8 _ _ (0, 0) hrz
  have zf0 := Row.frozen hrz 0
  have zf1 := Row.frozen hrz 1
  have zf2 := Row.frozen hrz 2
  have zf3 := Row.frozen hrz 3
  have zf4 := Row.frozen hrz 4
  have zf5 := Row.frozen hrz 5
  have zf6 := Row.frozen hrz 6
  have zf7 := Row.frozen hrz 7
  have zf8 := Row.frozen hrz 8
  rw [hW3] at z0 z1 z2 z3 z4 z5 z6 z7 z8 zf0 zf1 zf2 zf3 zf4 zf5 zf6 zf7 zf8
  clear hrz
  go_wp2
  rw [← hW3]
  refine bodyPost_ret (results_row3E rfl _ _ w.heap.size 34 #[.bool false, .int .i64 0, .int .i64 0, .bool false, .int .u8 0, .int .u8 0, .int .u8 0, .int .u8 0, .string ⟨#[]⟩] (0, 0) _ rfl (put9_row HRZ.out (.bool false) (.int .i64 0) (.int .i64 0) (.bool false) (.int .u8 0) (.int .u8 0) (.int .u8 0) (.int .u8 0) (.string ⟨#[]⟩)) Try.underlying34 rfl infoFr) rfl ?_
  exact ⟨by rw [HV.out]; rfl, put9_below HB.out (Nat.le_refl _) _ _ _ _ _ _ _ _ _⟩
set_option maxRecDepth 100000 in
set_option maxHeartbeats 3000000 in
theorem wread_some (s : List UInt8) (hs : s.length ≤ 200000) (x : Hd × Nat) (hh : readHeadF s = some x) (w : World) : Calls Try.prog 14 #[S s] w fun e w' => e = .returned (readV (readF s)) ∧ Below w.heap.size w w' := by
  obtain ⟨W1, hW1⟩ : ∃ W, W = w.alloc (.cells #[.bool false, .int .i64 0, .int .i64 0, .bool false, .int .u8 0, .int .u8 0, .int .u8 0, .int .u8 0, .string ⟨#[]⟩] 34) := ⟨_, rfl⟩
  have H1 : Hid (Row W1 w.heap.size #[.bool false, .int .i64 0, .int .i64 0, .bool false, .int .u8 0, .int .u8 0, .int .u8 0, .int .u8 0, .string ⟨#[]⟩] 34 ∧ Below w.heap.size w W1) := Lib.hid (by rw [hW1]; exact ⟨row_new _ _ _, (Below.refl _ _).alloc (Nat.le_refl _) _⟩)
  have hC := whead_any s hs W1
  have hv : readF s = match readHeadF s with
    | none => (frm0, 0, 7)
    | some (h, n) => if 2147483647 < h.len then (frm0, 0, 3) else if s.length - n < h.len then (frm0, 0, 7) else (frOf h ((s.drop n).take h.len), n + h.len, 0) := rfl
  obtain ⟨⟨fin, rsv, op, m, ⟨k0, k1, k2, k3⟩, len, le⟩, n⟩ := x
  obtain ⟨hn2, hnl, -⟩ := head_app hh
  rw [hh] at hC hv
  dsimp only at hv
  unfold headV hdC at hC
  dsimp only at hC hn2 hnl
  rw [hW1] at hC
  have HC := Lib.hid hC
  have HVV := Lib.hid hv
  have HL := Lib.hid (And.intro hs (And.intro hn2 hnl))
  clear hC hv hh hs hn2 hnl
  go_enter Try.func14, Try.ntmps14
  go_wp2_with fail
  refine HC.out.mono ?_
  rintro e W2 ⟨rfl, hB2⟩
  rw [← hW1] at hB2
  obtain ⟨W3, hW3⟩ : ∃ W, W = W2.alloc (.cells #[.bool fin, .int .i64 (rsv : Int), .int .i64 (op : Int), .bool m, B k0, B k1, B k2, B k3, .int .u64 (len : Int), .bool le] 25) := ⟨_, rfl⟩
  have hrz : Row W3 w.heap.size #[.bool false, .int .i64 0, .int .i64 0, .bool false, .int .u8 0, .int .u8 0, .int .u8 0, .int .u8 0, .string ⟨#[]⟩] 34 := by rw [hW3]; exact (H1.out.1.below hB2 H1.out.1.lt).alloc _
  have hrh : Row W3 W2.heap.size #[.bool fin, .int .i64 (rsv : Int), .int .i64 (op : Int), .bool m, B k0, B k1, B k2, B k3, .int .u64 (len : Int), .bool le] 25 := by rw [hW3]; exact row_new _ _ _
  have hb2 := H1.out.2.trans (hB2.mono H1.out.2.size)
  have H3 : Hid (Row W3 w.heap.size #[.bool false, .int .i64 0, .int .i64 0, .bool false, .int .u8 0, .int .u8 0, .int .u8 0, .int .u8 0, .string ⟨#[]⟩] 34 ∧ Row W3 W2.heap.size #[.bool fin, .int .i64 (rsv : Int), .int .i64 (op : Int), .bool m, B k0, B k1, B k2, B k3, .int .u64 (len : Int), .bool le] 25 ∧ Below w.heap.size w W3 ∧ w.heap.size < W2.heap.size) := Lib.hid ⟨hrz, hrh, by rw [hW3]; exact hb2.alloc hb2.size _, Nat.lt_of_lt_of_le H1.out.1.lt hB2.size⟩
  clear hB2 hb2 HC hW1 H1 hrz hrh
  by_cases hbig : 2147483647 < len
  · have g1 : decide ((2147483647 : Int) < (len : Int)) = true := decide_eq_true (by omega)
    have g1' : decide ((len : Int) > 2147483647) = true := decide_eq_true (by omega)
    have HV : Hid (readV (readF s) = .tuple #[.agg #[.bool false, .int .i64 0, .int .i64 0, .bool false, .int .u8 0, .int .u8 0, .int .u8 0, .int .u8 0, .string ⟨#[]⟩], .int .i64 0, .int .i64 3]) := Lib.hid (by rw [HVV.out, if_pos hbig]; rfl)
    have z0 : W3.cell? ⟨w.heap.size, 0, none⟩ = some (.bool false) := cell_of_row W3 _ 0 _ _ (0, 0) H3.out.1
    have z1 : W3.cell? ⟨w.heap.size, 1, none⟩ = some (.int .i64 0) := cell_of_row W3 _ 1 _ _ (0, 0) H3.out.1
    have z2 : W3.cell? ⟨w.heap.size, 2, none⟩ = some (.int .i64 0) := cell_of_row W3 _ 2 _ _ (0, 0) H3.out.1
    have z3 : W3.cell? ⟨w.heap.size, 3, none⟩ = some (.bool false) := cell_of_row W3 _ 3 _ _ (0, 0) H3.out.1
    have z4 : W3.cell? ⟨w.heap.size, 4, none⟩ = some (.int .u8 0) := cell_of_row W3 _ 4 _ _ (0, 0) H3.out.1
    have z5 : W3.cell? ⟨w.heap.size, 5, none⟩ = some (.int .u8 0) := cell_of_row W3 _ 5 _ _ (0, 0) H3.out.1
    have z6 : W3.cell? ⟨w.heap.size, 6, none⟩ = some (.int .u8 0) := cell_of_row W3 _ 6 _ _ (0, 0) H3.out.1
    have z7 : W3.cell? ⟨w.heap.size, 7, none⟩ = some (.int .u8 0) := cell_of_row W3 _ 7 _ _ (0, 0) H3.out.1
    have z8 : W3.cell? ⟨w.heap.size, 8, none⟩ = some (.string ⟨#[]⟩) := cell_of_row W3 _ 8 _ _ (0, 0) H3.out.1
    have zf0 := Row.frozen H3.out.1 0
    have zf1 := Row.frozen H3.out.1 1
    have zf2 := Row.frozen H3.out.1 2
    have zf3 := Row.frozen H3.out.1 3
    have zf4 := Row.frozen H3.out.1 4
    have zf5 := Row.frozen H3.out.1 5
    have zf6 := Row.frozen H3.out.1 6
    have zf7 := Row.frozen H3.out.1 7
    have zf8 := Row.frozen H3.out.1 8
    have h8 : W3.cell? ⟨W2.heap.size, 8, none⟩ = some (.int .u64 (len : Int)) := cell_of_row W3 _ 8 _ _ (0, 0) H3.out.2.1
    rw [hW3] at z0 z1 z2 z3 z4 z5 z6 z7 z8 zf0 zf1 zf2 zf3 zf4 zf5 zf6 zf7 zf8 h8
    clear hbig
    go_wp2
    rw [← hW3]
    refine bodyPost_ret (results_row3E rfl _ _ w.heap.size 34 #[.bool false, .int .i64 0, .int .i64 0, .bool false, .int .u8 0, .int .u8 0, .int .u8 0, .int .u8 0, .string ⟨#[]⟩] (0, 0) _ rfl (put9_row H3.out.1 (.bool false) (.int .i64 0) (.int .i64 0) (.bool false) (.int .u8 0) (.int .u8 0) (.int .u8 0) (.int .u8 0) (.string ⟨#[]⟩)) Try.underlying34 rfl infoFr) rfl ?_
    exact ⟨by rw [HV.out]; rfl, put9_below H3.out.2.2.1 (Nat.le_refl _) _ _ _ _ _ _ _ _ _⟩
  have g1 : decide ((2147483647 : Int) < (len : Int)) = false := decide_eq_false (by omega)
  have g1' : decide ((len : Int) > 2147483647) = false := decide_eq_false (by omega)
  obtain ⟨DT, hDT⟩ : ∃ x, x = s.drop n := ⟨_, rfl⟩
  have hsl : ∀ W, (Instr.slice 9 (S s) (some (.int .i64 (n : Int))) none none).run Try.prog W = .ok (S DT) W := fun W => by rw [hDT]; exact slice_drop (P := Try.prog) Try.underlying9 s n HL.out.2.2 W
  have hcv : ∀ W, (convert 23 3 (.int .u64 (len : Int))).run Try.prog W = .ok (.int .i64 (len : Int)) W := conv_ui Try.underlying23 Try.underlying3 len (by omega)
  obtain ⟨DL, hDL⟩ : ∃ x, x = DT.length := ⟨_, rfl⟩
  have hlD : ∀ w', (Builtin.len_ #[9] 3 #[S DT]).run Try.prog w' = .ok (.int .i64 (DL : Int)) w' := by rw [hDL]; exact run_len_S (P := Try.prog) Try.underlying9 3 DT
  have HDD := Lib.hid (And.intro hDT (And.intro hDL (show DL = s.length - n by rw [hDL, hDT, List.length_drop])))
  clear hDT hDL
  obtain ⟨Wq, hWq⟩ : ∃ W, W = W3.drew := ⟨_, rfl⟩
  have HQ : Hid (Row Wq w.heap.size #[.bool false, .int .i64 0, .int .i64 0, .bool false, .int .u8 0, .int .u8 0, .int .u8 0, .int .u8 0, .string ⟨#[]⟩] 34 ∧ Row Wq W2.heap.size #[.bool fin, .int .i64 (rsv : Int), .int .i64 (op : Int), .bool m, B k0, B k1, B k2, B k3, .int .u64 (len : Int), .bool le] 25 ∧ Below w.heap.size w Wq) := Lib.hid (by rw [hWq]; exact ⟨H3.out.1.drew, H3.out.2.1.drew, H3.out.2.2.1.trans ((below_drewN _ 1).mono H3.out.2.2.1.size)⟩)
  have h8 : W3.cell? ⟨W2.heap.size, 8, none⟩ = some (.int .u64 (len : Int)) := cell_of_row W3 _ 8 _ _ (0, 0) H3.out.2.1
  have q8 : Wq.cell? ⟨W2.heap.size, 8, none⟩ = some (.int .u64 (len : Int)) := cell_of_row Wq _ 8 _ _ (0, 0) HQ.out.2.1
  rw [hW3] at h8
  go_wp2_with fail
  rw [← hW3] at h8 ⊢
  clear hW3
  refine wp_region_noPanic ?_
  refine wp_region_held_drew (S := fun wx => wx.cell? ⟨W2.heap.size, 8, none⟩ = some (.int .u64 (len : Int))) (by kernel_rfl) (by first | exact h8 | (rw [← hWq]; exact q8)) (fun _ => ?_)
  rw [← hWq]
  clear hWq h8
  refine take_at (i := 0) (d := some 22) (v := S s) rfl (by kernel_rfl) (by kernel_rfl) (by kernel_rfl) (fun _ _ _ h => h) (fun oi ho => ?_) q8 ?_
  · obtain rfl := Option.some.inj ho
    exact Or.inl ⟨by rfl, fun wx hSw => by go_simp⟩
  simp only [Act.put, List.setIfInBounds_toArray, List.set_cons_zero, List.set_cons_succ]
  refine take_at (i := 1) (d := some 23) (v := .int .i64 (n : Int)) rfl (by kernel_rfl) (by kernel_rfl) (by kernel_rfl) (fun _ _ _ h => h) (fun oi ho => ?_) q8 ?_
  · obtain rfl := Option.some.inj ho
    exact Or.inl ⟨by rfl, fun wx hSw => by go_simp⟩
  simp only [Act.put, List.setIfInBounds_toArray, List.set_cons_zero, List.set_cons_succ]
  refine take_at (i := 2) (d := some 24) (v := S DT) rfl (by kernel_rfl) (by kernel_rfl) (by kernel_rfl) (fun _ _ _ h => h) (fun oi ho => ?_) q8 ?_
  · obtain rfl := Option.some.inj ho
    exact Or.inl ⟨by rfl, fun wx hSw => by go_simp⟩
  simp only [Act.put, List.setIfInBounds_toArray, List.set_cons_zero, List.set_cons_succ]
  refine take_at (i := 3) (d := some 25) (v := .pointer (some ⟨W2.heap.size, 8, none⟩)) rfl (by kernel_rfl) (by kernel_rfl) (by kernel_rfl) (fun _ _ _ h => h) (fun oi ho => ?_) q8 ?_
  · obtain rfl := Option.some.inj ho
    exact Or.inl ⟨by rfl, fun wx hSw => by go_simp⟩
  simp only [Act.put, List.setIfInBounds_toArray, List.set_cons_zero, List.set_cons_succ]
  refine take_at (i := 4) (d := some 26) (v := .int .u64 (len : Int)) rfl (by kernel_rfl) (by kernel_rfl) (by kernel_rfl) (fun _ _ _ h => h) (fun oi ho => ?_) q8 ?_
  · obtain rfl := Option.some.inj ho
    exact Or.inl ⟨by rfl, fun wx hSw => by go_simp⟩
  simp only [Act.put, List.setIfInBounds_toArray, List.set_cons_zero, List.set_cons_succ]
  refine take_at (i := 5) (d := some 27) (v := .int .i64 (len : Int)) rfl (by kernel_rfl) (by kernel_rfl) (by kernel_rfl) (fun _ _ _ h => h) (fun oi ho => ?_) q8 ?_
  · obtain rfl := Option.some.inj ho
    exact Or.inl ⟨by rfl, fun wx hSw => by go_simp⟩
  simp only [Act.put, List.setIfInBounds_toArray, List.set_cons_zero, List.set_cons_succ]
  refine take_at (i := 6) (d := some 7) (v := S DT) rfl (by kernel_rfl) (by kernel_rfl) (by kernel_rfl) (fun _ _ _ h => h) (fun oi ho => ?_) q8 ?_
  · obtain rfl := Option.some.inj ho
    exact Or.inl ⟨by rfl, fun wx hSw => by go_simp⟩
  simp only [Act.put, List.setIfInBounds_toArray, List.set_cons_zero, List.set_cons_succ]
  refine take_at (i := 7) (d := some 8) (v := .int .i64 (len : Int)) rfl (by kernel_rfl) (by kernel_rfl) (by kernel_rfl) (fun _ _ _ h => h) (fun oi ho => ?_) q8 ?_
  · obtain rfl := Option.some.inj ho
    exact Or.inl ⟨by rfl, fun wx hSw => by go_simp⟩
  simp only [Act.put, List.setIfInBounds_toArray, List.set_cons_zero, List.set_cons_succ]
  refine wpAnyH_done (by kernel_rfl) ?_ _
  refine NoPanic.normal ?_
  try simp only [Act.put]
  clear q8 hcv hsl
  by_cases hsh : DL < len
  · have g2 : decide ((DL : Int) < (len : Int)) = true := decide_eq_true (by omega)
    have HV : Hid (readV (readF s) = .tuple #[.agg #[.bool false, .int .i64 0, .int .i64 0, .bool false, .int .u8 0, .int .u8 0, .int .u8 0, .int .u8 0, .string ⟨#[]⟩], .int .i64 0, .int .i64 7]) := Lib.hid (by rw [HVV.out, if_neg hbig, if_pos (by have := HDD.out; omega)]; rfl)
    have z0 : Wq.cell? ⟨w.heap.size, 0, none⟩ = some (.bool false) := cell_of_row Wq _ 0 _ _ (0, 0) HQ.out.1
    have z1 : Wq.cell? ⟨w.heap.size, 1, none⟩ = some (.int .i64 0) := cell_of_row Wq _ 1 _ _ (0, 0) HQ.out.1
    have z2 : Wq.cell? ⟨w.heap.size, 2, none⟩ = some (.int .i64 0) := cell_of_row Wq _ 2 _ _ (0, 0) HQ.out.1
    have z3 : Wq.cell? ⟨w.heap.size, 3, none⟩ = some (.bool false) := cell_of_row Wq _ 3 _ _ (0, 0) HQ.out.1
    have z4 : Wq.cell? ⟨w.heap.size, 4, none⟩ = some (.int .u8 0) := cell_of_row Wq _ 4 _ _ (0, 0) HQ.out.1
    have z5 : Wq.cell? ⟨w.heap.size, 5, none⟩ = some (.int .u8 0) := cell_of_row Wq _ 5 _ _ (0, 0) HQ.out.1
    have z6 : Wq.cell? ⟨w.heap.size, 6, none⟩ = some (.int .u8 0) := cell_of_row Wq _ 6 _ _ (0, 0) HQ.out.1
    have z7 : Wq.cell? ⟨w.heap.size, 7, none⟩ = some (.int .u8 0) := cell_of_row Wq _ 7 _ _ (0, 0) HQ.out.1
    have z8 : Wq.cell? ⟨w.heap.size, 8, none⟩ = some (.string ⟨#[]⟩) := cell_of_row Wq _ 8 _ _ (0, 0) HQ.out.1
    have zf0 := Row.frozen HQ.out.1 0
    have zf1 := Row.frozen HQ.out.1 1
    have zf2 := Row.frozen HQ.out.1 2
    have zf3 := Row.frozen HQ.out.1 3
    have zf4 := Row.frozen HQ.out.1 4
    have zf5 := Row.frozen HQ.out.1 5
    have zf6 := Row.frozen HQ.out.1 6
    have zf7 := Row.frozen HQ.out.1 7
    have zf8 := Row.frozen HQ.out.1 8
    clear hbig
    go_wp2
    refine bodyPost_ret (results_row3E rfl _ _ w.heap.size 34 #[.bool false, .int .i64 0, .int .i64 0, .bool false, .int .u8 0, .int .u8 0, .int .u8 0, .int .u8 0, .string ⟨#[]⟩] (0, 0) _ rfl (put9_row HQ.out.1 (.bool false) (.int .i64 0) (.int .i64 0) (.bool false) (.int .u8 0) (.int .u8 0) (.int .u8 0) (.int .u8 0) (.string ⟨#[]⟩)) Try.underlying34 rfl infoFr) rfl ?_
    exact ⟨by rw [HV.out]; rfl, put9_below HQ.out.2.2 (Nat.le_refl _) _ _ _ _ _ _ _ _ _⟩
  have g2 : decide ((DL : Int) < (len : Int)) = false := decide_eq_false (by omega)
  obtain ⟨E, hE⟩ : ∃ x, x = DT.take len := ⟨_, rfl⟩
  have hst : ∀ W, (Instr.slice 9 (S DT) none (some (.int .i64 (len : Int))) none).run Try.prog W = .ok (S E) W := fun W => by rw [hE]; exact slice_take (P := Try.prog) Try.underlying9 DT len (by have := HDD.out; omega) W
  obtain ⟨F, hF⟩ : ∃ x, x = maskN ⟨k0, k1, k2, k3⟩ 0 E := ⟨_, rfl⟩
  have HK : Hid (∀ W, Calls Try.prog 19 #[.agg #[B k0, B k1, B k2, B k3], .int .i64 0, S E] W fun e w' => e = .returned (S F) ∧ Below W.heap.size W w') := Lib.hid fun W => by
    rw [hF]
    exact wmask_any ⟨k0, k1, k2, k3⟩ 0 rfl E (by rw [hE, List.length_take]; have := HDD.out; have := HL.out; omega) W
  obtain ⟨NL, hNL⟩ : ∃ x, x = n + len := ⟨_, rfl⟩
  have m1 : IntKind.i64.wrap ((n : Int) + (len : Int)) = (NL : Int) := by have := HDD.out; have := HL.out; rw [IntKind.wrap_i64]; omega
  have HV : Hid (readV (readF s) = .tuple #[.agg #[.bool fin, .int .i64 (rsv : Int), .int .i64 (op : Int), .bool m, B k0, B k1, B k2, B k3, S F], .int .i64 (NL : Int), .int .i64 0]) := Lib.hid (by
    rw [HVV.out, if_neg hbig, if_neg (by have := HDD.out; omega), ← HDD.out.1, ← hE, ← hNL, hF]; rfl)
  clear hbig hE hF hNL
  have HSf : Hid (∀ W, Row W W2.heap.size #[.bool fin, .int .i64 (rsv : Int), .int .i64 (op : Int), .bool m, B k0, B k1, B k2, B k3, .int .u64 (len : Int), .bool le] 25 → W.cell? ⟨W2.heap.size, 0, none⟩ = some (.bool fin) ∧ W.cell? ⟨W2.heap.size, 1, none⟩ = some (.int .i64 (rsv : Int)) ∧ W.cell? ⟨W2.heap.size, 2, none⟩ = some (.int .i64 (op : Int)) ∧ W.cell? ⟨W2.heap.size, 3, none⟩ = some (.bool m) ∧
      W.cell? ⟨W2.heap.size, 4, none⟩ = some (B k0) ∧ W.cell? ⟨W2.heap.size, 5, none⟩ = some (B k1) ∧ W.cell? ⟨W2.heap.size, 6, none⟩ = some (B k2) ∧ W.cell? ⟨W2.heap.size, 7, none⟩ = some (B k3)) := Lib.hid fun W h =>
    ⟨cell_of_row W _ 0 _ _ (0, 0) h, cell_of_row W _ 1 _ _ (0, 0) h, cell_of_row W _ 2 _ _ (0, 0) h, cell_of_row W _ 3 _ _ (0, 0) h, cell_of_row W _ 4 _ _ (0, 0) h, cell_of_row W _ 5 _ _ (0, 0) h, cell_of_row W _ 6 _ _ (0, 0) h, cell_of_row W _ 7 _ _ (0, 0) h⟩
  obtain ⟨Wr, hWr⟩ : ∃ W, W = Wq.drew := ⟨_, rfl⟩
  have HR : Hid (Row Wr w.heap.size #[.bool false, .int .i64 0, .int .i64 0, .bool false, .int .u8 0, .int .u8 0, .int .u8 0, .int .u8 0, .string ⟨#[]⟩] 34 ∧ Row Wr W2.heap.size #[.bool fin, .int .i64 (rsv : Int), .int .i64 (op : Int), .bool m, B k0, B k1, B k2, B k3, .int .u64 (len : Int), .bool le] 25 ∧ Below w.heap.size w Wr) := Lib.hid (by rw [hWr]; exact ⟨HQ.out.1.drew, HQ.out.2.1.drew, HQ.out.2.2.trans ((below_drewN _ 1).mono HQ.out.2.2.size)⟩)
  have HSQ := Lib.hid (HSf.out Wq HQ.out.2.1)
  have HSR := Lib.hid (HSf.out Wr HR.out.2.1)
  go_wp2_with fail
  refine wp_region_noPanic ?_
  refine wp_region_held_drew (S := fun wx => wx.cell? ⟨W2.heap.size, 0, none⟩ = some (.bool fin) ∧ wx.cell? ⟨W2.heap.size, 1, none⟩ = some (.int .i64 (rsv : Int)) ∧ wx.cell? ⟨W2.heap.size, 2, none⟩ = some (.int .i64 (op : Int)) ∧ wx.cell? ⟨W2.heap.size, 3, none⟩ = some (.bool m) ∧
      wx.cell? ⟨W2.heap.size, 4, none⟩ = some (B k0) ∧ wx.cell? ⟨W2.heap.size, 5, none⟩ = some (B k1) ∧ wx.cell? ⟨W2.heap.size, 6, none⟩ = some (B k2) ∧ wx.cell? ⟨W2.heap.size, 7, none⟩ = some (B k3)) (by kernel_rfl) (by first | exact HSQ.out | (rw [← hWr]; exact HSR.out)) (fun _ => ?_)
  rw [← hWr]
  clear hWr HSQ
  refine take_at (i := 0) (d := some 33) (v := .pointer (some ⟨W2.heap.size, 0, none⟩)) rfl (by kernel_rfl) (by kernel_rfl) (by kernel_rfl) (fun _ _ _ h => h) (fun oi ho => ?_) HSR.out ?_
  · obtain rfl := Option.some.inj ho
    exact Or.inl ⟨by rfl, fun wx ⟨u0, u1, u2, u3, u4, u5, u6, u7⟩ => by go_simp⟩
  simp only [Act.put, List.setIfInBounds_toArray, List.set_cons_zero, List.set_cons_succ]
  refine take_at (i := 1) (d := some 34) (v := .bool fin) rfl (by kernel_rfl) (by kernel_rfl) (by kernel_rfl) (fun _ _ _ h => h) (fun oi ho => ?_) HSR.out ?_
  · obtain rfl := Option.some.inj ho
    exact Or.inl ⟨by rfl, fun wx ⟨u0, u1, u2, u3, u4, u5, u6, u7⟩ => by go_simp⟩
  simp only [Act.put, List.setIfInBounds_toArray, List.set_cons_zero, List.set_cons_succ]
  refine take_at (i := 2) (d := some 35) (v := .pointer (some ⟨W2.heap.size, 1, none⟩)) rfl (by kernel_rfl) (by kernel_rfl) (by kernel_rfl) (fun _ _ _ h => h) (fun oi ho => ?_) HSR.out ?_
  · obtain rfl := Option.some.inj ho
    exact Or.inl ⟨by rfl, fun wx ⟨u0, u1, u2, u3, u4, u5, u6, u7⟩ => by go_simp⟩
  simp only [Act.put, List.setIfInBounds_toArray, List.set_cons_zero, List.set_cons_succ]
  refine take_at (i := 3) (d := some 36) (v := .int .i64 (rsv : Int)) rfl (by kernel_rfl) (by kernel_rfl) (by kernel_rfl) (fun _ _ _ h => h) (fun oi ho => ?_) HSR.out ?_
  · obtain rfl := Option.some.inj ho
    exact Or.inl ⟨by rfl, fun wx ⟨u0, u1, u2, u3, u4, u5, u6, u7⟩ => by go_simp⟩
  simp only [Act.put, List.setIfInBounds_toArray, List.set_cons_zero, List.set_cons_succ]
  refine take_at (i := 4) (d := some 37) (v := .pointer (some ⟨W2.heap.size, 2, none⟩)) rfl (by kernel_rfl) (by kernel_rfl) (by kernel_rfl) (fun _ _ _ h => h) (fun oi ho => ?_) HSR.out ?_
  · obtain rfl := Option.some.inj ho
    exact Or.inl ⟨by rfl, fun wx ⟨u0, u1, u2, u3, u4, u5, u6, u7⟩ => by go_simp⟩
  simp only [Act.put, List.setIfInBounds_toArray, List.set_cons_zero, List.set_cons_succ]
  refine take_at (i := 5) (d := some 38) (v := .int .i64 (op : Int)) rfl (by kernel_rfl) (by kernel_rfl) (by kernel_rfl) (fun _ _ _ h => h) (fun oi ho => ?_) HSR.out ?_
  · obtain rfl := Option.some.inj ho
    exact Or.inl ⟨by rfl, fun wx ⟨u0, u1, u2, u3, u4, u5, u6, u7⟩ => by go_simp⟩
  simp only [Act.put, List.setIfInBounds_toArray, List.set_cons_zero, List.set_cons_succ]
  refine take_at (i := 6) (d := some 39) (v := .pointer (some ⟨W2.heap.size, 3, none⟩)) rfl (by kernel_rfl) (by kernel_rfl) (by kernel_rfl) (fun _ _ _ h => h) (fun oi ho => ?_) HSR.out ?_
  · obtain rfl := Option.some.inj ho
    exact Or.inl ⟨by rfl, fun wx ⟨u0, u1, u2, u3, u4, u5, u6, u7⟩ => by go_simp⟩
  simp only [Act.put, List.setIfInBounds_toArray, List.set_cons_zero, List.set_cons_succ]
  refine take_at (i := 7) (d := some 40) (v := .bool m) rfl (by kernel_rfl) (by kernel_rfl) (by kernel_rfl) (fun _ _ _ h => h) (fun oi ho => ?_) HSR.out ?_
  · obtain rfl := Option.some.inj ho
    exact Or.inl ⟨by rfl, fun wx ⟨u0, u1, u2, u3, u4, u5, u6, u7⟩ => by go_simp⟩
  simp only [Act.put, List.setIfInBounds_toArray, List.set_cons_zero, List.set_cons_succ]
  refine take_at (i := 8) (d := some 41) (v := .pointer (some ⟨W2.heap.size, 4, none⟩)) rfl (by kernel_rfl) (by kernel_rfl) (by kernel_rfl) (fun _ _ _ h => h) (fun oi ho => ?_) HSR.out ?_
  · obtain rfl := Option.some.inj ho
    exact Or.inl ⟨by rfl, fun wx ⟨u0, u1, u2, u3, u4, u5, u6, u7⟩ => by go_simp⟩
  simp only [Act.put, List.setIfInBounds_toArray, List.set_cons_zero, List.set_cons_succ]
  refine take_at (i := 9) (d := some 42) (v := .agg #[B k0, B k1, B k2, B k3]) rfl (by kernel_rfl) (by kernel_rfl) (by kernel_rfl) (fun _ _ _ h => h) (fun oi ho => ?_) HSR.out ?_
  · obtain rfl := Option.some.inj ho
    exact Or.inl ⟨by rfl, fun wx ⟨u0, u1, u2, u3, u4, u5, u6, u7⟩ => by go_simp⟩
  simp only [Act.put, List.setIfInBounds_toArray, List.set_cons_zero, List.set_cons_succ]
  refine take_at (i := 10) (d := some 43) (v := .pointer (some ⟨W2.heap.size, 4, none⟩)) rfl (by kernel_rfl) (by kernel_rfl) (by kernel_rfl) (fun _ _ _ h => h) (fun oi ho => ?_) HSR.out ?_
  · obtain rfl := Option.some.inj ho
    exact Or.inl ⟨by rfl, fun wx ⟨u0, u1, u2, u3, u4, u5, u6, u7⟩ => by go_simp⟩
  simp only [Act.put, List.setIfInBounds_toArray, List.set_cons_zero, List.set_cons_succ]
  refine take_at (i := 11) (d := some 44) (v := .agg #[B k0, B k1, B k2, B k3]) rfl (by kernel_rfl) (by kernel_rfl) (by kernel_rfl) (fun _ _ _ h => h) (fun oi ho => ?_) HSR.out ?_
  · obtain rfl := Option.some.inj ho
    exact Or.inl ⟨by rfl, fun wx ⟨u0, u1, u2, u3, u4, u5, u6, u7⟩ => by go_simp⟩
  simp only [Act.put, List.setIfInBounds_toArray, List.set_cons_zero, List.set_cons_succ]
  refine take_at (i := 12) (d := some 45) (v := S DT) rfl (by kernel_rfl) (by kernel_rfl) (by kernel_rfl) (fun _ _ _ h => h) (fun oi ho => ?_) HSR.out ?_
  · obtain rfl := Option.some.inj ho
    exact Or.inl ⟨by rfl, fun wx ⟨u0, u1, u2, u3, u4, u5, u6, u7⟩ => by go_simp⟩
  simp only [Act.put, List.setIfInBounds_toArray, List.set_cons_zero, List.set_cons_succ]
  refine take_at (i := 13) (d := some 46) (v := .int .i64 (len : Int)) rfl (by kernel_rfl) (by kernel_rfl) (by kernel_rfl) (fun _ _ _ h => h) (fun oi ho => ?_) HSR.out ?_
  · obtain rfl := Option.some.inj ho
    exact Or.inl ⟨by rfl, fun wx ⟨u0, u1, u2, u3, u4, u5, u6, u7⟩ => by go_simp⟩
  simp only [Act.put, List.setIfInBounds_toArray, List.set_cons_zero, List.set_cons_succ]
  refine take_at (i := 14) (d := some 47) (v := S E) rfl (by kernel_rfl) (by kernel_rfl) (by kernel_rfl) (fun _ _ _ h => h) (fun oi ho => ?_) HSR.out ?_
  · obtain rfl := Option.some.inj ho
    exact Or.inl ⟨by rfl, fun wx ⟨u0, u1, u2, u3, u4, u5, u6, u7⟩ => by go_simp⟩
  simp only [Act.put, List.setIfInBounds_toArray, List.set_cons_zero, List.set_cons_succ]
  refine ready_call (i := 15) (d := some 48) (f := 19) (args := #[.agg #[B k0, B k1, B k2, B k3], .int .i64 0, S E]) rfl (by kernel_rfl) (fun oi ho => ?_) ?_
  · obtain rfl := Option.some.inj ho
    exact ⟨by rfl, by go_simp⟩
  refine (HK.out Wr).mono ?_
  rintro e W5 ⟨rfl, hB5⟩
  have H5 : Hid (Row W5 w.heap.size #[.bool false, .int .i64 0, .int .i64 0, .bool false, .int .u8 0, .int .u8 0, .int .u8 0, .int .u8 0, .string ⟨#[]⟩] 34 ∧ Row W5 W2.heap.size #[.bool fin, .int .i64 (rsv : Int), .int .i64 (op : Int), .bool m, B k0, B k1, B k2, B k3, .int .u64 (len : Int), .bool le] 25 ∧ Below w.heap.size w W5) := Lib.hid ⟨HR.out.1.below hB5 HR.out.1.lt, HR.out.2.1.below hB5 HR.out.2.1.lt, HR.out.2.2.trans (hB5.mono HR.out.2.2.size)⟩
  have HS5 := Lib.hid (HSf.out W5 H5.out.2.1)
  obtain ⟨W6, hW6⟩ : ∃ W, W = put9 W5 w.heap.size (.bool fin) (.int .i64 (rsv : Int)) (.int .i64 (op : Int)) (.bool m) (B k0) (B k1) (B k2) (B k3) (S F) := ⟨_, rfl⟩
  have H6 : Hid (Row W6 w.heap.size #[.bool fin, .int .i64 (rsv : Int), .int .i64 (op : Int), .bool m, B k0, B k1, B k2, B k3, S F] 34 ∧ Row W6 W2.heap.size #[.bool fin, .int .i64 (rsv : Int), .int .i64 (op : Int), .bool m, B k0, B k1, B k2, B k3, .int .u64 (len : Int), .bool le] 25 ∧ Below w.heap.size w W6) := Lib.hid (by rw [hW6]; exact ⟨put9_row H5.out.1 _ _ _ _ _ _ _ _ _, put9_other H5.out.2.1 (by have := H3.out.2.2.2; omega) _ _ _ _ _ _ _ _ _, put9_below H5.out.2.2 (Nat.le_refl _) _ _ _ _ _ _ _ _ _⟩)
  have HS6 := Lib.hid (HSf.out W6 H6.out.2.1)
  unfold put9 at hW6
  clear hB5
  refine ⟨_, rfl, HS5.out, ?_⟩
  simp only [Act.put, List.setIfInBounds_toArray, List.set_cons_zero, List.set_cons_succ]
  refine take_at (i := 16) (d := some 49) (v := .agg #[.bool fin, .int .i64 (rsv : Int), .int .i64 (op : Int), .bool m, B k0, B k1, B k2, B k3, S F]) rfl (by kernel_rfl) (by kernel_rfl) (by kernel_rfl) (fun _ _ _ h => h) (fun oi ho => ?_) HS5.out ?_
  · obtain rfl := Option.some.inj ho
    exact Or.inl ⟨by rfl, fun wx ⟨u0, u1, u2, u3, u4, u5, u6, u7⟩ => by go_simp⟩
  simp only [Act.put, List.setIfInBounds_toArray, List.set_cons_zero, List.set_cons_succ]
  have z0 : W5.cell? ⟨w.heap.size, 0, none⟩ = some (.bool false) := cell_of_row W5 _ 0 _ _ (0, 0) H5.out.1
  have z1 : W5.cell? ⟨w.heap.size, 1, none⟩ = some (.int .i64 0) := cell_of_row W5 _ 1 _ _ (0, 0) H5.out.1
  have z2 : W5.cell? ⟨w.heap.size, 2, none⟩ = some (.int .i64 0) := cell_of_row W5 _ 2 _ _ (0, 0) H5.out.1
  have z3 : W5.cell? ⟨w.heap.size, 3, none⟩ = some (.bool false) := cell_of_row W5 _ 3 _ _ (0, 0) H5.out.1
  have z4 : W5.cell? ⟨w.heap.size, 4, none⟩ = some (.int .u8 0) := cell_of_row W5 _ 4 _ _ (0, 0) H5.out.1
  have z5 : W5.cell? ⟨w.heap.size, 5, none⟩ = some (.int .u8 0) := cell_of_row W5 _ 5 _ _ (0, 0) H5.out.1
  have z6 : W5.cell? ⟨w.heap.size, 6, none⟩ = some (.int .u8 0) := cell_of_row W5 _ 6 _ _ (0, 0) H5.out.1
  have z7 : W5.cell? ⟨w.heap.size, 7, none⟩ = some (.int .u8 0) := cell_of_row W5 _ 7 _ _ (0, 0) H5.out.1
  have z8 : W5.cell? ⟨w.heap.size, 8, none⟩ = some (.string ⟨#[]⟩) := cell_of_row W5 _ 8 _ _ (0, 0) H5.out.1
  have zf0 := Row.frozen H5.out.1 0
  have zf1 := Row.frozen H5.out.1 1
  have zf2 := Row.frozen H5.out.1 2
  have zf3 := Row.frozen H5.out.1 3
  have zf4 := Row.frozen H5.out.1 4
  have zf5 := Row.frozen H5.out.1 5
  have zf6 := Row.frozen H5.out.1 6
  have zf7 := Row.frozen H5.out.1 7
  have zf8 := Row.frozen H5.out.1 8
  refine ready_skip (i := 17) (d := none) (w' := W6) rfl (by kernel_rfl) (fun oi ho => ?_) HS6.out ?_
  · obtain rfl := Option.some.inj ho
    exact ⟨by rfl, by rw [hW6]; go_simp⟩
  refine wpAnyH_done (by kernel_rfl) ?_ _
  refine NoPanic.normal ?_
  try simp only [Act.put]
  clear z0 z1 z2 z3 z4 z5 z6 z7 z8 zf0 zf1 zf2 zf3 zf4 zf5 zf6 zf7 zf8 hW6 HS5 HS6 HSR HK hst
  have z0 : W6.cell? ⟨w.heap.size, 0, none⟩ = some (.bool fin) := cell_of_row W6 _ 0 _ _ (0, 0) H6.out.1
  have z1 : W6.cell? ⟨w.heap.size, 1, none⟩ = some (.int .i64 (rsv : Int)) := cell_of_row W6 _ 1 _ _ (0, 0) H6.out.1
  have z2 : W6.cell? ⟨w.heap.size, 2, none⟩ = some (.int .i64 (op : Int)) := cell_of_row W6 _ 2 _ _ (0, 0) H6.out.1
  have z3 : W6.cell? ⟨w.heap.size, 3, none⟩ = some (.bool m) := cell_of_row W6 _ 3 _ _ (0, 0) H6.out.1
  have z4 : W6.cell? ⟨w.heap.size, 4, none⟩ = some (B k0) := cell_of_row W6 _ 4 _ _ (0, 0) H6.out.1
  have z5 : W6.cell? ⟨w.heap.size, 5, none⟩ = some (B k1) := cell_of_row W6 _ 5 _ _ (0, 0) H6.out.1
  have z6 : W6.cell? ⟨w.heap.size, 6, none⟩ = some (B k2) := cell_of_row W6 _ 6 _ _ (0, 0) H6.out.1
  have z7 : W6.cell? ⟨w.heap.size, 7, none⟩ = some (B k3) := cell_of_row W6 _ 7 _ _ (0, 0) H6.out.1
  have z8 : W6.cell? ⟨w.heap.size, 8, none⟩ = some (S F) := cell_of_row W6 _ 8 _ _ (0, 0) H6.out.1
  have zf0 := Row.frozen H6.out.1 0
  have zf1 := Row.frozen H6.out.1 1
  have zf2 := Row.frozen H6.out.1 2
  have zf3 := Row.frozen H6.out.1 3
  have zf4 := Row.frozen H6.out.1 4
  have zf5 := Row.frozen H6.out.1 5
  have zf6 := Row.frozen H6.out.1 6
  have zf7 := Row.frozen H6.out.1 7
  have zf8 := Row.frozen H6.out.1 8
  go_wp2
  refine bodyPost_ret (results_row3E rfl _ _ w.heap.size 34 #[.bool fin, .int .i64 (rsv : Int), .int .i64 (op : Int), .bool m, B k0, B k1, B k2, B k3, S F] (0, 0) _ rfl (put9_row H6.out.1 (.bool fin) (.int .i64 (rsv : Int)) (.int .i64 (op : Int)) (.bool m) (B k0) (B k1) (B k2) (B k3) (S F)) Try.underlying34 rfl infoFr) rfl ?_
  exact ⟨by rw [HV.out]; rfl, put9_below H6.out.2.2 (Nat.le_refl _) _ _ _ _ _ _ _ _ _⟩
theorem wread_any (s : List UInt8) (hs : s.length ≤ 200000) (w : World) : Calls Try.prog 14 #[S s] w fun e w' => e = .returned (readV (readF s)) ∧ Below w.heap.size w w' := by
  cases h : readHeadF s with
  | none => exact wread_none s hs h w
  | some x => exact wread_some s hs x h w
end Go.Proofs.Ytepamoikoinhdaa
