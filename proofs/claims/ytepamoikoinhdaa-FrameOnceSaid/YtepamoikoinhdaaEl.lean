/- FrameReads and FrameHeads (stage 15) walked, over any package of frames. (mkel.py writes it.) -/
import Derived.Test.YtepamoikoinhdaaEk
namespace Go.Proofs.Ytepamoikoinhdaa
open Go.RowKit
attribute [local go_sem] store_one B_match B_store S_match S_store

theorem eqin_head (h : Hd) (w : World) : (Op.equalIn 10000 25 (.agg (hdC h)) (.agg (hdC h))).run Try.prog w = .ok true w := by
  rw [run_equalIn_agg w 9999 25 _ _ (by kernel_rfl) (by kernel_rfl)]
  have hfs : (Try.prog.fieldsOf 25).toList.map (fun f => (f.name, f.type, f.offset)) = [("Fin", 4, 0), ("Rsv", 3, 1), ("Op", 3, 2), ("Masked", 4, 3), ("Key", 22, 4), ("Len", 23, 8), ("Least", 4, 9)] := by kernel_rfl
  have b4 : ∀ b : Bool, (Op.equalIn 9999 4 (.bool b) (.bool b)).run Try.prog w = .ok true w := fun b => by rw [run_equalIn_bool' w 9998 4 b b Try.underlying4]; simp
  have b3 : ∀ n : Int, (Op.equalIn 9999 3 (.int .i64 n) (.int .i64 n)).run Try.prog w = .ok true w := fun n => by rw [run_equalIn_int w 9998 3 .i64 .i64 n n Try.underlying3]; simp
  have bu : ∀ n : Int, (Op.equalIn 9999 23 (.int .u64 n) (.int .u64 n)).run Try.prog w = .ok true w := fun n => by rw [run_equalIn_int w 9998 23 .u64 .u64 n n Try.underlying23]; simp
  have bk := eqin_key 9997 h.key h.key w
  simp only [beq_self_eq_true, Bool.and_self] at bk
  have p0 := part_1 Try.isAgg4 (hdC h) 0 (.bool h.fin) rfl w
  have p1 := part_1 Try.isAgg3 (hdC h) 1 (.int .i64 (h.rsv : Int)) rfl w
  have p2 := part_1 Try.isAgg3 (hdC h) 2 (.int .i64 (h.op : Int)) rfl w
  have p3 := part_1 Try.isAgg4 (hdC h) 3 (.bool h.masked) rfl w
  have p4 := part_K (hdC h) 4 h.key rfl w
  have p8 := part_1 Try.isAgg23 (hdC h) 8 (.int .u64 (h.len : Int)) rfl w
  have p9 := part_1 Try.isAgg4 (hdC h) 9 (.bool h.least) rfl w
  obtain ⟨l, hl⟩ : ∃ l, l = (Try.prog.fieldsOf 25).toList := ⟨_, rfl⟩
  rw [← hl] at hfs ⊢
  rcases l with _ | ⟨f0, _ | ⟨f1, _ | ⟨f2, _ | ⟨f3, _ | ⟨f4, _ | ⟨f5, _ | ⟨f6, _ | ⟨f7, l⟩⟩⟩⟩⟩⟩⟩⟩
  all_goals first | (simp at hfs; done) | skip
  simp only [List.map_cons, List.map_nil, List.cons.injEq, Prod.mk.injEq, and_true] at hfs
  obtain ⟨⟨n0, t0, o0⟩, ⟨n1, t1, o1⟩, ⟨n2, t2, o2⟩, ⟨n3, t3, o3⟩, ⟨n4, t4, o4⟩, ⟨n5, t5, o5⟩, ⟨n6, t6, o6⟩⟩ := hfs
  simp only [Op.eqFields, n0, t0, o0, n1, t1, o1, n2, t2, o2, n3, t3, o3, n4, t4, o4, n5, t5, o5, n6, t6, o6, Sem.run_ite, Sem.run_bind, p0, p1, p2, p3, p4, p8, p9, b4, b3, bu, bk, Result.andThen_ok, Sem.run_pure]
  simp
theorem head_vals (o : Option (Hd × Nat)) : ∃ h n ok, headV o = .tuple #[.agg (hdC h), .int .i64 ((n : Nat) : Int), .bool ok] ∧ hrV o = .tuple #[.agg (hrC h), .int .i64 ((n : Nat) : Int), .bool ok] := by
  cases o with
  | none => exact ⟨hd0, 0, false, rfl, rfl⟩
  | some x => exact ⟨x.1, x.2, true, rfl, rfl⟩
set_option maxRecDepth 100000 in
set_option maxHeartbeats 1000000 in
theorem reads15_any {w : World} (C : FrameI w) (s : List UInt8) : Calls Try.prog 5 #[S s] w fun e w' => e = .returned (.bool true) ∧ Below w.heap.size w w' := by
  have HA := Lib.hid (awake15_any C)
  have hlN := run_len_S (P := Try.prog) Try.underlying9 3 s
  obtain ⟨h, n, ok, hv1, hv2⟩ := head_vals (readHeadF s)
  obtain ⟨⟨f, fn, fe⟩, hrf⟩ : ∃ x, x = readF s := ⟨_, rfl⟩
  have H1 : Hid (∀ W, Below w.heap.size w W → s.length ≤ 70000 → Calls Try.prog 11 #[S s] W fun e w' => e = .returned (.tuple #[.agg (hdC h), .int .i64 ((n : Nat) : Int), .bool ok]) ∧ Below W.heap.size W w') := Lib.hid fun W hb hl => by rw [← hv1]; exact C.head s W hb (by omega)
  have H2 : Hid (∀ W, s.length ≤ 70000 → Calls Try.prog 17 #[S s] W fun e w' => e = .returned (.tuple #[.agg (hrC h), .int .i64 ((n : Nat) : Int), .bool ok]) ∧ Below W.heap.size W w') := Lib.hid fun W hl => by rw [← hv2]; exact rhead_any s (by omega) W
  have H3 : Hid (∀ W, Below w.heap.size w W → s.length ≤ 70000 → Calls Try.prog 14 #[S s] W fun e w' => e = .returned (.tuple #[.agg (frC f), .int .i64 (fn : Int), .int .i64 (fe : Int)]) ∧ Below W.heap.size W w') := Lib.hid fun W hb hl => by have := C.read s W hb (by omega); rw [← hrf] at this; exact this
  have H4 : Hid (∀ W, s.length ≤ 70000 → Calls Try.prog 18 #[S s] W fun e w' => e = .returned (.tuple #[.agg (frC f), .int .i64 (fn : Int), .int .i64 (fe : Int)]) ∧ Below W.heap.size W w') := Lib.hid fun W hl => by have := rread_any s (by omega) W; rw [← hrf] at this; exact this
  have eqh := eqin_head h
  have eqf := eqin_frame f
  have gh : ∀ x y w', (eqGuard .neq 25 x y (.agg (hdC h)) (.agg (hdC h))).run Try.prog w' = .ok () w' := fun x y w' => run_eqGuard_agg w' .neq 25 x y _ _ (by kernel_rfl)
  have gf : ∀ x y w', (eqGuard .eql 34 x y (.agg (frC f)) (.agg (frC f))).run Try.prog w' = .ok () w' := fun x y w' => run_eqGuard_agg w' .eql 34 x y _ _ (by kernel_rfl)
  obtain ⟨N, hN⟩ : ∃ N, N = s.length := ⟨_, rfl⟩
  rw [← hN] at hlN H1 H2 H3 H4
  clear hN hv1 hv2 hrf C
  obtain ⟨fin, rsv, op, m, ⟨k0, k1, k2, k3⟩, len, le⟩ := h
  obtain ⟨ffin, frsv, fop, fm, ⟨l0, l1, l2, l3⟩, data⟩ := f
  unfold frV at eqf
  unfold hdC at H1 eqh gh
  unfold hrC at H2
  unfold frC at H3 H4 eqf gf
  dsimp only at *
  have z1 : ((n : Int) != (n : Int)) = false := by simp
  have z2 : (ok != ok) = false := by simp
  have z3 : ((fn : Int) == (fn : Int)) = true := by simp
  have z4 : ((fe : Int) == (fe : Int)) = true := by simp
  go_enter Try.func5, Try.ntmps5
  go_wp2_with fail
  refine HA.out.mono ?_
  rintro e W1 ⟨rfl, hB1⟩
  have HB1 := Lib.hid hB1
  clear hB1 HA
  by_cases hbig : 70000 < N
  · have g1 : decide ((70000 : Int) < (N : Int)) = true := decide_eq_true (by omega)
    have g1' : decide ((N : Int) > 70000) = true := decide_eq_true (by omega)
    go_wp2
    go_ret
    exact ⟨rfl, HB1.out⟩
  have g1 : decide ((70000 : Int) < (N : Int)) = false := decide_eq_false (by omega)
  have g1' : decide ((N : Int) > 70000) = false := decide_eq_false (by omega)
  have HC1 := Lib.hid (H1.out W1 HB1.out (by omega))
  go_wp2_with fail
  refine HC1.out.mono ?_
  rintro e W2 ⟨rfl, hB2⟩
  clear HC1
  obtain ⟨W3, hW3⟩ : ∃ W, W = W2.alloc (.cells #[.bool fin, .int .i64 (rsv : Int), .int .i64 (op : Int), .bool m, B k0, B k1, B k2, B k3, .int .u64 (len : Int), .bool le] 25) := ⟨_, rfl⟩
  have hr3 : Row W3 W2.heap.size #[.bool fin, .int .i64 (rsv : Int), .int .i64 (op : Int), .bool m, B k0, B k1, B k2, B k3, .int .u64 (len : Int), .bool le] 25 := by rw [hW3]; exact row_new _ _ _
  have hb2 := HB1.out.trans (hB2.mono HB1.out.size)
  have H5 := Lib.hid (And.intro hr3 (by rw [hW3]; exact hb2.alloc hb2.size _ : Below w.heap.size w W3))
  have HC2 := Lib.hid (H2.out W3 (by omega))
  rw [hW3] at HC2
  clear hr3 hb2 hB2
  go_wp2_with fail
  refine HC2.out.mono ?_
  rintro e W4 ⟨rfl, hB4⟩
  rw [← hW3] at hB4
  clear HC2 hW3
  have hr4 := H5.out.1.below hB4 H5.out.1.lt
  have hr5 := hr4.alloc (.cells #[.bool fin, .bool m, .bool le, .int .i64 (rsv : Int), .int .i64 (op : Int), B k0, B k1, B k2, B k3, .int .u64 (len : Int)] 42)
  have hb4 := H5.out.2.trans (hB4.mono H5.out.2.size)
  have hb5 := hb4.alloc hb4.size (.cells #[.bool fin, .bool m, .bool le, .int .i64 (rsv : Int), .int .i64 (op : Int), B k0, B k1, B k2, B k3, .int .u64 (len : Int)] 42)
  have HB5 := Lib.hid hb5
  have c0 : (W4.alloc (.cells #[.bool fin, .bool m, .bool le, .int .i64 (rsv : Int), .int .i64 (op : Int), B k0, B k1, B k2, B k3, .int .u64 (len : Int)] 42)).cell? ⟨W2.heap.size, 0, none⟩ = some (.bool fin) := cell_of_row (W4.alloc (.cells #[.bool fin, .bool m, .bool le, .int .i64 (rsv : Int), .int .i64 (op : Int), B k0, B k1, B k2, B k3, .int .u64 (len : Int)] 42)) _ 0 _ _ (0, 0) hr5
  have c1 : (W4.alloc (.cells #[.bool fin, .bool m, .bool le, .int .i64 (rsv : Int), .int .i64 (op : Int), B k0, B k1, B k2, B k3, .int .u64 (len : Int)] 42)).cell? ⟨W2.heap.size, 1, none⟩ = some (.int .i64 (rsv : Int)) := cell_of_row (W4.alloc (.cells #[.bool fin, .bool m, .bool le, .int .i64 (rsv : Int), .int .i64 (op : Int), B k0, B k1, B k2, B k3, .int .u64 (len : Int)] 42)) _ 1 _ _ (0, 0) hr5
  have c2 : (W4.alloc (.cells #[.bool fin, .bool m, .bool le, .int .i64 (rsv : Int), .int .i64 (op : Int), B k0, B k1, B k2, B k3, .int .u64 (len : Int)] 42)).cell? ⟨W2.heap.size, 2, none⟩ = some (.int .i64 (op : Int)) := cell_of_row (W4.alloc (.cells #[.bool fin, .bool m, .bool le, .int .i64 (rsv : Int), .int .i64 (op : Int), B k0, B k1, B k2, B k3, .int .u64 (len : Int)] 42)) _ 2 _ _ (0, 0) hr5
  have c3 : (W4.alloc (.cells #[.bool fin, .bool m, .bool le, .int .i64 (rsv : Int), .int .i64 (op : Int), B k0, B k1, B k2, B k3, .int .u64 (len : Int)] 42)).cell? ⟨W2.heap.size, 3, none⟩ = some (.bool m) := cell_of_row (W4.alloc (.cells #[.bool fin, .bool m, .bool le, .int .i64 (rsv : Int), .int .i64 (op : Int), B k0, B k1, B k2, B k3, .int .u64 (len : Int)] 42)) _ 3 _ _ (0, 0) hr5
  have c4 : (W4.alloc (.cells #[.bool fin, .bool m, .bool le, .int .i64 (rsv : Int), .int .i64 (op : Int), B k0, B k1, B k2, B k3, .int .u64 (len : Int)] 42)).cell? ⟨W2.heap.size, 4, none⟩ = some (B k0) := cell_of_row (W4.alloc (.cells #[.bool fin, .bool m, .bool le, .int .i64 (rsv : Int), .int .i64 (op : Int), B k0, B k1, B k2, B k3, .int .u64 (len : Int)] 42)) _ 4 _ _ (0, 0) hr5
  have c5 : (W4.alloc (.cells #[.bool fin, .bool m, .bool le, .int .i64 (rsv : Int), .int .i64 (op : Int), B k0, B k1, B k2, B k3, .int .u64 (len : Int)] 42)).cell? ⟨W2.heap.size, 5, none⟩ = some (B k1) := cell_of_row (W4.alloc (.cells #[.bool fin, .bool m, .bool le, .int .i64 (rsv : Int), .int .i64 (op : Int), B k0, B k1, B k2, B k3, .int .u64 (len : Int)] 42)) _ 5 _ _ (0, 0) hr5
  have c6 : (W4.alloc (.cells #[.bool fin, .bool m, .bool le, .int .i64 (rsv : Int), .int .i64 (op : Int), B k0, B k1, B k2, B k3, .int .u64 (len : Int)] 42)).cell? ⟨W2.heap.size, 6, none⟩ = some (B k2) := cell_of_row (W4.alloc (.cells #[.bool fin, .bool m, .bool le, .int .i64 (rsv : Int), .int .i64 (op : Int), B k0, B k1, B k2, B k3, .int .u64 (len : Int)] 42)) _ 6 _ _ (0, 0) hr5
  have c7 : (W4.alloc (.cells #[.bool fin, .bool m, .bool le, .int .i64 (rsv : Int), .int .i64 (op : Int), B k0, B k1, B k2, B k3, .int .u64 (len : Int)] 42)).cell? ⟨W2.heap.size, 7, none⟩ = some (B k3) := cell_of_row (W4.alloc (.cells #[.bool fin, .bool m, .bool le, .int .i64 (rsv : Int), .int .i64 (op : Int), B k0, B k1, B k2, B k3, .int .u64 (len : Int)] 42)) _ 7 _ _ (0, 0) hr5
  have c8 : (W4.alloc (.cells #[.bool fin, .bool m, .bool le, .int .i64 (rsv : Int), .int .i64 (op : Int), B k0, B k1, B k2, B k3, .int .u64 (len : Int)] 42)).cell? ⟨W2.heap.size, 8, none⟩ = some (.int .u64 (len : Int)) := cell_of_row (W4.alloc (.cells #[.bool fin, .bool m, .bool le, .int .i64 (rsv : Int), .int .i64 (op : Int), B k0, B k1, B k2, B k3, .int .u64 (len : Int)] 42)) _ 8 _ _ (0, 0) hr5
  have c9 : (W4.alloc (.cells #[.bool fin, .bool m, .bool le, .int .i64 (rsv : Int), .int .i64 (op : Int), B k0, B k1, B k2, B k3, .int .u64 (len : Int)] 42)).cell? ⟨W2.heap.size, 9, none⟩ = some (.bool le) := cell_of_row (W4.alloc (.cells #[.bool fin, .bool m, .bool le, .int .i64 (rsv : Int), .int .i64 (op : Int), B k0, B k1, B k2, B k3, .int .u64 (len : Int)] 42)) _ 9 _ _ (0, 0) hr5
  have HC3 := Lib.hid (H3.out _ hb5 (by omega))
  clear hr4 hr5 hb4 hb5 hB4 H5
  go_wp2_with fail
  refine HC3.out.mono ?_
  rintro e W6 ⟨rfl, hB6⟩
  clear HC3
  have hb6 := HB5.out.trans (hB6.mono HB5.out.size)
  obtain ⟨W7, hW7⟩ : ∃ W, W = W6.alloc (.cells #[.bool ffin, .int .i64 frsv, .int .i64 fop, .bool fm, B l0, B l1, B l2, B l3, S data] 34) := ⟨_, rfl⟩
  have hr7 : Row W7 W6.heap.size #[.bool ffin, .int .i64 frsv, .int .i64 fop, .bool fm, B l0, B l1, B l2, B l3, S data] 34 := by rw [hW7]; exact row_new _ _ _
  have H7 := Lib.hid (And.intro hr7 (by rw [hW7]; exact hb6.alloc hb6.size _ : Below w.heap.size w W7))
  have HC4 := Lib.hid (H4.out W7 (by omega))
  rw [hW7] at HC4
  clear hr7 hb6 hB6
  go_wp2_with fail
  refine HC4.out.mono ?_
  rintro e W8 ⟨rfl, hB8⟩
  rw [← hW7] at hB8
  clear HC4 hW7
  have hr8 := (H7.out.1.below hB8 H7.out.1.lt).alloc (.cells #[.bool ffin, .int .i64 frsv, .int .i64 fop, .bool fm, B l0, B l1, B l2, B l3, S data] 34)
  have hb8 := H7.out.2.trans (hB8.mono H7.out.2.size)
  have HE := Lib.hid (hb8.alloc hb8.size (.cells #[.bool ffin, .int .i64 frsv, .int .i64 fop, .bool fm, B l0, B l1, B l2, B l3, S data] 34))
  have d0 : (W8.alloc (.cells #[.bool ffin, .int .i64 frsv, .int .i64 fop, .bool fm, B l0, B l1, B l2, B l3, S data] 34)).cell? ⟨W6.heap.size, 0, none⟩ = some (.bool ffin) := cell_of_row (W8.alloc (.cells #[.bool ffin, .int .i64 frsv, .int .i64 fop, .bool fm, B l0, B l1, B l2, B l3, S data] 34)) _ 0 _ _ (0, 0) hr8
  have d1 : (W8.alloc (.cells #[.bool ffin, .int .i64 frsv, .int .i64 fop, .bool fm, B l0, B l1, B l2, B l3, S data] 34)).cell? ⟨W6.heap.size, 1, none⟩ = some (.int .i64 frsv) := cell_of_row (W8.alloc (.cells #[.bool ffin, .int .i64 frsv, .int .i64 fop, .bool fm, B l0, B l1, B l2, B l3, S data] 34)) _ 1 _ _ (0, 0) hr8
  have d2 : (W8.alloc (.cells #[.bool ffin, .int .i64 frsv, .int .i64 fop, .bool fm, B l0, B l1, B l2, B l3, S data] 34)).cell? ⟨W6.heap.size, 2, none⟩ = some (.int .i64 fop) := cell_of_row (W8.alloc (.cells #[.bool ffin, .int .i64 frsv, .int .i64 fop, .bool fm, B l0, B l1, B l2, B l3, S data] 34)) _ 2 _ _ (0, 0) hr8
  have d3 : (W8.alloc (.cells #[.bool ffin, .int .i64 frsv, .int .i64 fop, .bool fm, B l0, B l1, B l2, B l3, S data] 34)).cell? ⟨W6.heap.size, 3, none⟩ = some (.bool fm) := cell_of_row (W8.alloc (.cells #[.bool ffin, .int .i64 frsv, .int .i64 fop, .bool fm, B l0, B l1, B l2, B l3, S data] 34)) _ 3 _ _ (0, 0) hr8
  have d4 : (W8.alloc (.cells #[.bool ffin, .int .i64 frsv, .int .i64 fop, .bool fm, B l0, B l1, B l2, B l3, S data] 34)).cell? ⟨W6.heap.size, 4, none⟩ = some (B l0) := cell_of_row (W8.alloc (.cells #[.bool ffin, .int .i64 frsv, .int .i64 fop, .bool fm, B l0, B l1, B l2, B l3, S data] 34)) _ 4 _ _ (0, 0) hr8
  have d5 : (W8.alloc (.cells #[.bool ffin, .int .i64 frsv, .int .i64 fop, .bool fm, B l0, B l1, B l2, B l3, S data] 34)).cell? ⟨W6.heap.size, 5, none⟩ = some (B l1) := cell_of_row (W8.alloc (.cells #[.bool ffin, .int .i64 frsv, .int .i64 fop, .bool fm, B l0, B l1, B l2, B l3, S data] 34)) _ 5 _ _ (0, 0) hr8
  have d6 : (W8.alloc (.cells #[.bool ffin, .int .i64 frsv, .int .i64 fop, .bool fm, B l0, B l1, B l2, B l3, S data] 34)).cell? ⟨W6.heap.size, 6, none⟩ = some (B l2) := cell_of_row (W8.alloc (.cells #[.bool ffin, .int .i64 frsv, .int .i64 fop, .bool fm, B l0, B l1, B l2, B l3, S data] 34)) _ 6 _ _ (0, 0) hr8
  have d7 : (W8.alloc (.cells #[.bool ffin, .int .i64 frsv, .int .i64 fop, .bool fm, B l0, B l1, B l2, B l3, S data] 34)).cell? ⟨W6.heap.size, 7, none⟩ = some (B l3) := cell_of_row (W8.alloc (.cells #[.bool ffin, .int .i64 frsv, .int .i64 fop, .bool fm, B l0, B l1, B l2, B l3, S data] 34)) _ 7 _ _ (0, 0) hr8
  have d8 : (W8.alloc (.cells #[.bool ffin, .int .i64 frsv, .int .i64 fop, .bool fm, B l0, B l1, B l2, B l3, S data] 34)).cell? ⟨W6.heap.size, 8, none⟩ = some (S data) := cell_of_row (W8.alloc (.cells #[.bool ffin, .int .i64 frsv, .int .i64 fop, .bool fm, B l0, B l1, B l2, B l3, S data] 34)) _ 8 _ _ (0, 0) hr8
  clear hr8 hb8 hB8 H7
  go_wp2
  go_ret
  exact ⟨rfl, HE.out⟩
end Go.Proofs.Ytepamoikoinhdaa
