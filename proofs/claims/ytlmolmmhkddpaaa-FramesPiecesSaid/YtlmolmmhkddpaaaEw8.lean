/- The landed ReadHead walked. (mkew8.py writes it.) -/
import Derived.Test.YtlmolmmhkddpaaaEw7
import Derived.Test.YtlmolmmhkddpaaaEf
namespace Go.Proofs.Ytlmolmmhkddpaaa
open Go.RowKit
attribute [local go_sem] store_one B_match B_store S_match S_store nguard_BN eguard_BN

theorem infoHdW : (Try.prog.info? 74).map (·.size) = some 10 := by kernel_rfl
theorem wbyte_all {p : UInt8 → Bool} (h : ∀ n : Fin 256, p (UInt8.ofNat n.1) = true) (c : UInt8) : p c = true := by
  have := h ⟨c.toNat, c.toNat_lt⟩
  simpa using this
theorem wB_and (t : TypeId) (x y : UInt8) : binOp .and t (B x) (B y) = pure (B (x &&& y)) := by
  simp only [B, binOp, Op.intBits, ne_eq, not_true_eq_false, ↓reduceIte]
  show pure (Value.int .u8 (IntKind.u8.wrap ((BitVec.ofInt 8 (x.toNat : Int) &&& BitVec.ofInt 8 (y.toNat : Int)).toNat : Int))) = _
  rw [ofInt_byte, ofInt_byte]
  have h : ((x &&& y).toNat : Int) = ((x.toBitVec &&& y.toBitVec).toNat : Int) := rfl
  rw [← h, IntKind.wrap_u8]
  congr 2
  have := (x &&& y).toNat_lt
  omega
theorem wand128 (x : UInt8) : ∃ y, binOp .and 5 (B x) (.int .u8 128) = pure (B y) ∧ binOp .neq 5 (B y) (.int .u8 0) = pure (.bool (decide (128 ≤ x.toNat))) := by
  refine ⟨x &&& 128, wB_and 5 x 128, ?_⟩
  rw [B_neqN]
  have := wbyte_all (p := fun c => (((c &&& 128).toNat : Int) != 0) == decide (128 ≤ c.toNat)) (by decide +kernel) x
  rw [beq_iff_eq.1 this]
theorem wshr4 (x : UInt8) : ∃ y z, binOp .shr 5 (B x) (.int .u64 4) = pure (B y) ∧ binOp .and 5 (B y) (.int .u8 7) = pure (B z) ∧ z.toNat = x.toNat / 16 % 8 := by
  have h1 := wbyte_all (p := fun c => decide ((UInt8.ofNat (c.toNat / 16)).toNat = c.toNat / 16)) (by decide +kernel) x
  have h2 := wbyte_all (p := fun c => decide ((UInt8.ofNat (c.toNat / 16) &&& 7).toNat = c.toNat / 16 % 8)) (by decide +kernel) x
  refine ⟨UInt8.ofNat (x.toNat / 16), UInt8.ofNat (x.toNat / 16) &&& 7, ?_, wB_and 5 _ 7, of_decide_eq_true h2⟩
  have h3 := of_decide_eq_true h1
  show binOp .shr 5 (.int .u8 (x.toNat : Int)) (.int .u64 4) = pure (.int .u8 ((UInt8.ofNat (x.toNat / 16)).toNat : Int))
  rw [h3]
  simp only [binOp, Op.shift]
  rw [if_neg (by omega)]
  have hm : min (4 : Int).toNat IntKind.u8.bits = 4 := rfl
  rw [hm]
  congr 2
  show (x.toNat : Int).fdiv 16 = _
  rw [Int.fdiv_eq_ediv_of_nonneg _ (by omega)]
  rfl
theorem wand15 (x : UInt8) : ∃ y, binOp .and 5 (B x) (.int .u8 15) = pure (B y) ∧ y.toNat = x.toNat % 16 := by
  have h2 := wbyte_all (p := fun c => decide ((c &&& 15).toNat = c.toNat % 16)) (by decide +kernel) x
  exact ⟨x &&& 15, wB_and 5 x 15, of_decide_eq_true h2⟩
theorem wandNot (x : UInt8) : binOp .andNot 5 (B x) (.int .u8 128) = pure (B (formB x)) := by
  have h2 := wbyte_all (p := fun c => decide (IntKind.u8.wrap ((BitVec.ofInt 8 (c.toNat : Int) &&& ~~~ BitVec.ofInt 8 128).toNat : Int) = ((formB c).toNat : Int))) (by decide +kernel) x
  simp only [B, binOp, Op.intBits, ne_eq, not_true_eq_false, ↓reduceIte]
  show pure (Value.int .u8 (IntKind.u8.wrap ((BitVec.ofInt 8 (x.toNat : Int) &&& ~~~ BitVec.ofInt 8 128).toNat : Int))) = _
  rw [of_decide_eq_true h2]
def hdZ : Array Value := #[.bool false, .int .i64 0, .int .i64 0, .bool false, .int .u8 0, .int .u8 0, .int .u8 0, .int .u8 0, .int .u64 0, .bool false]
theorem hd_none : headV none = .tuple #[.agg hdZ, .int .i64 0, .bool false] := rfl
set_option maxRecDepth 100000 in
set_option maxHeartbeats 1000000 in
theorem whead_short (s : List UInt8) (hs : s.length < 2) (w : World) : Calls Try.prog 35 #[S s] w fun e w' => e = .returned (headV (readHeadF s)) ∧ Below w.heap.size w w' := by
  have hlS := run_len_S (P := Try.prog) Try.underlying9 3 s
  have HV : Hid (readHeadF s = none) := Lib.hid (by
    rcases s with _ | ⟨a, _ | ⟨b, t⟩⟩
    · rfl
    · rfl
    · simp at hs; omega)
  obtain ⟨N, hN⟩ : ∃ N, N = s.length := ⟨_, rfl⟩
  rw [← hN] at hlS hs
  clear hN
  have g1 : decide ((N : Int) < 2) = true := decide_eq_true (by omega)
  go_enter Try.func35, Try.ntmps35
  go_wp2
  refine bodyPost_ret (results_row3E rfl _ _ w.heap.size 74 hdZ (0, 0) _ rfl (row_new w _ _) Try.underlying74 rfl infoHdW) rfl ?_
  exact ⟨by rw [HV.out]; rfl, (Below.refl _ w).alloc (Nat.le_refl _) _⟩
set_option maxRecDepth 100000 in
set_option maxHeartbeats 4000000 in
theorem whead_long (a b : UInt8) (t : List UInt8) (ht : t.length ≤ 300000) (w : World) : Calls Try.prog 35 #[S (a :: b :: t)] w fun e w' => e = .returned (headV (readHeadF (a :: b :: t))) ∧ Below w.heap.size w w' := by
  have hlS := run_len_S (P := Try.prog) Try.underlying9 3 (a :: b :: t)
  have hi0 : ∀ w', (Instr.index 9 (S (a :: b :: t)) (.int .i64 0)).run Try.prog w' = .ok (B a) w' := fun w' => index_S Try.underlying9 (a :: b :: t) 0 a rfl w'
  have hi1 : ∀ w', (Instr.index 9 (S (a :: b :: t)) (.int .i64 1)).run Try.prog w' = .ok (B b) w' := fun w' => index_S Try.underlying9 (a :: b :: t) 1 b rfl w'
  have hs2 : ∀ w', (Instr.slice 9 (S (a :: b :: t)) (some (.int .i64 2)) none none).run Try.prog w' = .ok (S t) w' := fun w' => slice_drop (P := Try.prog) Try.underlying9 (a :: b :: t) 2 (by simp) w'
  obtain ⟨N2, hN2⟩ : ∃ N, N = (a :: b :: t).length := ⟨_, rfl⟩
  rw [← hN2] at hlS
  have hN3 : N2 = t.length + 2 := by rw [hN2]; rfl
  clear hN2
  have g0 : decide ((N2 : Int) < 2) = false := decide_eq_false (by omega)
  obtain ⟨A1, x1, x2⟩ := wand128 a
  obtain ⟨A2, A3, x3, x4, x5⟩ := wshr4 a
  obtain ⟨A4, x6, x7⟩ := wand15 a
  obtain ⟨B1, y1, y2⟩ := wand128 b
  have y3 := wandNot b
  have cv3 : ∀ w', (convert 5 3 (B A3)).run Try.prog w' = .ok (.int .i64 (A3.toNat : Int)) w' := conv_byte Try.underlying5 Try.underlying3 A3
  have cv4 : ∀ w', (convert 5 3 (B A4)).run Try.prog w' = .ok (.int .i64 (A4.toNat : Int)) w' := conv_byte Try.underlying5 Try.underlying3 A4
  obtain ⟨R, hR⟩ : ∃ x, x = A3.toNat := ⟨_, rfl⟩
  obtain ⟨O, hO⟩ : ∃ x, x = A4.toNat := ⟨_, rfl⟩
  obtain ⟨FN, hFN⟩ : ∃ x, x = decide (128 ≤ a.toNat) := ⟨_, rfl⟩
  obtain ⟨MK, hMK⟩ : ∃ x, x = decide (128 ≤ b.toNat) := ⟨_, rfl⟩
  obtain ⟨FORM, hFO⟩ : ∃ x, x = formB b := ⟨_, rfl⟩
  rw [← hR] at cv3
  rw [← hO] at cv4
  rw [← hFN] at x2
  rw [← hMK] at y2
  rw [← hFO] at y3
  obtain ⟨wd, hwd⟩ : ∃ x, x = widN FORM := ⟨_, rfl⟩
  have h3 := wid_three FORM
  rw [← hwd] at h3
  obtain ⟨n, hn⟩ : ∃ x, x = sizeN FORM MK := ⟨_, rfl⟩
  have hnm : n = 2 + moreN b := by rw [hn, hFO, hMK]; unfold sizeN moreN; rw [wid_form, Nat.add_assoc]; congr 2; by_cases h : 128 ≤ b.toNat <;> simp [h]
  have hnw : n = 2 + wd + if MK = true then 4 else 0 := by rw [hn, hwd]; rfl
  have HHs : Hid (∀ W, Calls Try.prog 28 #[B FORM, .bool MK] W fun e w' => e = .returned (.int .i64 (n : Int)) ∧ w' = W) := Lib.hid fun W => by rw [hn]; exact headSize_any FORM MK W
  obtain ⟨X, hX⟩ : ∃ x, x = numL FORM t := ⟨_, rfl⟩
  have hXl : X < 18446744073709551616 := by
    rw [hX]; unfold numL
    split
    · omega
    · have := ofBE_take_lt t (widN FORM)
      have h8 := wid_three FORM
      have := Nat.pow_le_pow_right (n := 256) (by decide) (show widN FORM ≤ 8 by omega)
      omega
  have HNu : Hid (wd ≤ t.length → ∀ W, Calls Try.prog 40 #[B FORM, S t] W fun e w' => e = .returned (.int .u64 (X : Int)) ∧ w' = W) := Lib.hid fun h W => by rw [hX]; exact number_any FORM t (by rw [← hwd]; exact h) (by omega) W
  obtain ⟨LB, hLB⟩ : ∃ x, x = leastB X := ⟨_, rfl⟩
  have HLe : Hid (∀ W, Calls Try.prog 27 #[.int .u64 (X : Int)] W fun e w' => e = .returned (B LB) ∧ w' = W) := Lib.hid fun W => by rw [hLB]; exact least_any X hXl W
  obtain ⟨LE, hLE⟩ : ∃ x, x = (FORM == LB) := ⟨_, rfl⟩
  have z1 : binOp .eql 5 (B FORM) (B LB) = pure (.bool LE) := by rw [hLE]; exact B_eql 5 FORM LB
  have z2 : ∀ x y, eqGuard .eql 5 x y (B FORM) (B LB) = pure () := fun _ _ => rfl
  obtain ⟨s, hs⟩ : ∃ s, s = a :: b :: t := ⟨_, rfl⟩
  have HV : Hid (∀ K : Key4, (MK = true → K = keyOf (t.drop wd)) → (MK = false → K = key0) → moreN b ≤ t.length → headV (readHeadF s) = .tuple #[.agg #[.bool FN, .int .i64 (R : Int), .int .i64 (O : Int), .bool MK, B K.k0, B K.k1, B K.k2, B K.k3, .int .u64 (X : Int), .bool LE], .int .i64 (n : Int), .bool true]) := Lib.hid fun K h1 h2 h4 => by
    rw [hs, head_cons a b t h4, headOf_eq, ← hFO, ← hX, ← hLB, ← hLE, ← hFN, ← hMK, ← x5, ← x7, ← hR, ← hO, ← hnm]
    have hk : (if 128 ≤ b.toNat then keyOf (t.drop (wideN b.toNat)) else key0) = K := by
      have hm : MK = decide (128 ≤ b.toNat) := hMK
      rw [← wid_form, ← hFO, ← hwd]
      by_cases h : 128 ≤ b.toNat
      · rw [if_pos h]; exact (h1 (by rw [hm]; exact decide_eq_true h)).symm
      · rw [if_neg h]; exact (h2 (by rw [hm]; exact decide_eq_false h)).symm
    rw [hk]
    rfl
  have HVN : Hid (t.length < moreN b → headV (readHeadF s) = .tuple #[.agg hdZ, .int .i64 0, .bool false]) := Lib.hid fun h => by rw [hs, readHeadF, if_pos h]; rfl
  have HT := Lib.hid (And.intro hN3 (And.intro ht (And.intro h3 (And.intro hnm (And.intro hnw hs)))))
  rw [← hs] at hlS hi0 hi1 hs2 ⊢
  clear hN3 ht h3 hnm hnw hs hX hXl hLB hLE hFN hMK hFO hwd hn hR hO x5 x7
  obtain ⟨W1, hW1⟩ : ∃ W, W = w.alloc (.cells #[.bool false, .int .i64 0, .int .i64 0, .bool false, .int .u8 0, .int .u8 0, .int .u8 0, .int .u8 0, .int .u64 0, .bool false] 74) := ⟨_, rfl⟩
  obtain ⟨Wd, hWd⟩ : ∃ W, W = W1.drew := ⟨_, rfl⟩
  have HD : Hid (Row Wd w.heap.size #[.bool false, .int .i64 0, .int .i64 0, .bool false, .int .u8 0, .int .u8 0, .int .u8 0, .int .u8 0, .int .u64 0, .bool false] 74 ∧ Below w.heap.size w Wd) := Lib.hid (by rw [hWd, hW1]; exact ⟨(row_new w _ _).drew, ((Below.refl _ _).alloc (Nat.le_refl _) _).trans ((below_drewN _ 1).mono (by rw [alloc_size]; omega))⟩)
  go_enter Try.func35, Try.ntmps35
  go_wp2_with fail
  rw [← hW1]
  refine wp_region_noPanic ?_
  refine wp_region_held_drew (S := fun _ => True) (by kernel_rfl) trivial (fun _ => ?_)
  rw [← hWd]
  clear hWd hW1
  refine take_at (i := 0) (d := some 12) (v := S s) rfl (by kernel_rfl) (by kernel_rfl) (by kernel_rfl) (fun _ _ _ h => h) (fun oi ho => ?_) trivial ?_
  · obtain rfl := Option.some.inj ho
    exact Or.inl ⟨by rfl, fun wx _ => by go_simp⟩
  simp only [Act.put, List.setIfInBounds_toArray, List.set_cons_zero, List.set_cons_succ]
  refine take_at (i := 1) (d := some 13) (v := B a) rfl (by kernel_rfl) (by kernel_rfl) (by kernel_rfl) (fun _ _ _ h => h) (fun oi ho => ?_) trivial ?_
  · obtain rfl := Option.some.inj ho
    exact Or.inl ⟨by rfl, fun wx _ => by go_simp⟩
  simp only [Act.put, List.setIfInBounds_toArray, List.set_cons_zero, List.set_cons_succ]
  refine take_at (i := 2) (d := some 14) (v := S s) rfl (by kernel_rfl) (by kernel_rfl) (by kernel_rfl) (fun _ _ _ h => h) (fun oi ho => ?_) trivial ?_
  · obtain rfl := Option.some.inj ho
    exact Or.inl ⟨by rfl, fun wx _ => by go_simp⟩
  simp only [Act.put, List.setIfInBounds_toArray, List.set_cons_zero, List.set_cons_succ]
  refine take_at (i := 3) (d := some 15) (v := B b) rfl (by kernel_rfl) (by kernel_rfl) (by kernel_rfl) (fun _ _ _ h => h) (fun oi ho => ?_) trivial ?_
  · obtain rfl := Option.some.inj ho
    exact Or.inl ⟨by rfl, fun wx _ => by go_simp⟩
  simp only [Act.put, List.setIfInBounds_toArray, List.set_cons_zero, List.set_cons_succ]
  refine take_at (i := 4) (d := some 5) (v := B a) rfl (by kernel_rfl) (by kernel_rfl) (by kernel_rfl) (fun _ _ _ h => h) (fun oi ho => ?_) trivial ?_
  · obtain rfl := Option.some.inj ho
    exact Or.inl ⟨by rfl, fun wx _ => by go_simp⟩
  simp only [Act.put, List.setIfInBounds_toArray, List.set_cons_zero, List.set_cons_succ]
  refine take_at (i := 5) (d := some 6) (v := B b) rfl (by kernel_rfl) (by kernel_rfl) (by kernel_rfl) (fun _ _ _ h => h) (fun oi ho => ?_) trivial ?_
  · obtain rfl := Option.some.inj ho
    exact Or.inl ⟨by rfl, fun wx _ => by go_simp⟩
  simp only [Act.put, List.setIfInBounds_toArray, List.set_cons_zero, List.set_cons_succ]
  refine wpAnyH_done (by kernel_rfl) ?_ _
  refine NoPanic.normal ?_
  try simp only [Act.put]
  have c0 : Wd.cell? ⟨w.heap.size, 0, none⟩ = some (.bool false) := cell_of_row Wd _ 0 _ _ (0, 0) HD.out.1
  have c1 : Wd.cell? ⟨w.heap.size, 1, none⟩ = some (.int .i64 0) := cell_of_row Wd _ 1 _ _ (0, 0) HD.out.1
  have c2 : Wd.cell? ⟨w.heap.size, 2, none⟩ = some (.int .i64 0) := cell_of_row Wd _ 2 _ _ (0, 0) HD.out.1
  have c3 : Wd.cell? ⟨w.heap.size, 3, none⟩ = some (.bool false) := cell_of_row Wd _ 3 _ _ (0, 0) HD.out.1
  have c4 : Wd.cell? ⟨w.heap.size, 4, none⟩ = some (.int .u8 0) := cell_of_row Wd _ 4 _ _ (0, 0) HD.out.1
  have c5 : Wd.cell? ⟨w.heap.size, 5, none⟩ = some (.int .u8 0) := cell_of_row Wd _ 5 _ _ (0, 0) HD.out.1
  have c6 : Wd.cell? ⟨w.heap.size, 6, none⟩ = some (.int .u8 0) := cell_of_row Wd _ 6 _ _ (0, 0) HD.out.1
  have c7 : Wd.cell? ⟨w.heap.size, 7, none⟩ = some (.int .u8 0) := cell_of_row Wd _ 7 _ _ (0, 0) HD.out.1
  have c8 : Wd.cell? ⟨w.heap.size, 8, none⟩ = some (.int .u64 0) := cell_of_row Wd _ 8 _ _ (0, 0) HD.out.1
  have c9 : Wd.cell? ⟨w.heap.size, 9, none⟩ = some (.bool false) := cell_of_row Wd _ 9 _ _ (0, 0) HD.out.1
  have f0 := Row.frozen HD.out.1 0
  have f1 := Row.frozen HD.out.1 1
  have f2 := Row.frozen HD.out.1 2
  have f3 := Row.frozen HD.out.1 3
  have f4 := Row.frozen HD.out.1 4
  have f5 := Row.frozen HD.out.1 5
  have f6 := Row.frozen HD.out.1 6
  have f7 := Row.frozen HD.out.1 7
  have f8 := Row.frozen HD.out.1 8
  have f9 := Row.frozen HD.out.1 9
  go_wp2_with fail
  clear c0 c1 c2 c3 c4 c5 c6 c7 c8 c9 f0 f1 f2 f3 f4 f5 f6 f7 f8 f9 x1 x2 x3 x4 x6 y1 y2 y3 cv3 cv4 hi0 hi1
  obtain ⟨W4, hW4⟩ : ∃ W, W = put10 Wd w.heap.size (.bool FN) (.int .i64 (R : Int)) (.int .i64 (O : Int)) (.bool MK) (.int .u8 0) (.int .u8 0) (.int .u8 0) (.int .u8 0) (.int .u64 0) (.bool false) := ⟨_, rfl⟩
  have H4 : Hid (Row W4 w.heap.size #[.bool FN, .int .i64 (R : Int), .int .i64 (O : Int), .bool MK, .int .u8 0, .int .u8 0, .int .u8 0, .int .u8 0, .int .u64 0, .bool false] 74 ∧ Below w.heap.size w W4) := Lib.hid (by rw [hW4]; exact ⟨put10_row HD.out.1 _ _ _ _ _ _ _ _ _ _, put10_below HD.out.2 (Nat.le_refl _) _ _ _ _ _ _ _ _ _ _⟩)
  unfold put10 at hW4
  rw [← hW4]
  clear hW4 HD
  refine (HHs.out W4).mono ?_
  rintro e W' ⟨rfl, hw⟩
  rw [hw]; clear hw HHs
  by_cases hsh : N2 < n
  · have g1 : decide ((N2 : Int) < (n : Int)) = true := decide_eq_true (by omega)
    have HE : Hid (headV (readHeadF s) = .tuple #[.agg hdZ, .int .i64 0, .bool false]) := Lib.hid (HVN.out (by have := HT.out; omega))
    clear HV HVN
    have c0 : W4.cell? ⟨w.heap.size, 0, none⟩ = some (.bool FN) := cell_of_row W4 _ 0 _ _ (0, 0) H4.out.1
    have c1 : W4.cell? ⟨w.heap.size, 1, none⟩ = some (.int .i64 (R : Int)) := cell_of_row W4 _ 1 _ _ (0, 0) H4.out.1
    have c2 : W4.cell? ⟨w.heap.size, 2, none⟩ = some (.int .i64 (O : Int)) := cell_of_row W4 _ 2 _ _ (0, 0) H4.out.1
    have c3 : W4.cell? ⟨w.heap.size, 3, none⟩ = some (.bool MK) := cell_of_row W4 _ 3 _ _ (0, 0) H4.out.1
    have c4 : W4.cell? ⟨w.heap.size, 4, none⟩ = some (.int .u8 0) := cell_of_row W4 _ 4 _ _ (0, 0) H4.out.1
    have c5 : W4.cell? ⟨w.heap.size, 5, none⟩ = some (.int .u8 0) := cell_of_row W4 _ 5 _ _ (0, 0) H4.out.1
    have c6 : W4.cell? ⟨w.heap.size, 6, none⟩ = some (.int .u8 0) := cell_of_row W4 _ 6 _ _ (0, 0) H4.out.1
    have c7 : W4.cell? ⟨w.heap.size, 7, none⟩ = some (.int .u8 0) := cell_of_row W4 _ 7 _ _ (0, 0) H4.out.1
    have c8 : W4.cell? ⟨w.heap.size, 8, none⟩ = some (.int .u64 0) := cell_of_row W4 _ 8 _ _ (0, 0) H4.out.1
    have c9 : W4.cell? ⟨w.heap.size, 9, none⟩ = some (.bool false) := cell_of_row W4 _ 9 _ _ (0, 0) H4.out.1
    have f0 := Row.frozen H4.out.1 0
    have f1 := Row.frozen H4.out.1 1
    have f2 := Row.frozen H4.out.1 2
    have f3 := Row.frozen H4.out.1 3
    have f4 := Row.frozen H4.out.1 4
    have f5 := Row.frozen H4.out.1 5
    have f6 := Row.frozen H4.out.1 6
    have f7 := Row.frozen H4.out.1 7
    have f8 := Row.frozen H4.out.1 8
    have f9 := Row.frozen H4.out.1 9
    go_wp2
    refine bodyPost_ret (results_row3E rfl _ _ w.heap.size 74 hdZ (0, 0) _ rfl (put10_row H4.out.1 (.bool false) (.int .i64 0) (.int .i64 0) (.bool false) (.int .u8 0) (.int .u8 0) (.int .u8 0) (.int .u8 0) (.int .u64 0) (.bool false)) Try.underlying74 rfl infoHdW) rfl ?_
    exact ⟨by rw [HE.out]; rfl, put10_below H4.out.2 (Nat.le_refl _) _ _ _ _ _ _ _ _ _ _⟩
  · have g1 : decide ((N2 : Int) < (n : Int)) = false := decide_eq_false (by omega)
    have HM : Hid (moreN b ≤ t.length) := Lib.hid (by have := HT.out; omega)
    have c8 : W4.cell? ⟨w.heap.size, 8, none⟩ = some (.int .u64 0) := cell_of_row W4 _ 8 _ _ (0, 0) H4.out.1
    have f8 := H4.out.1.frozen 8
    go_wp2_with fail
    refine (HNu.out (by have h1 := HM.out; have h2 := HT.out.2.2.2.1; have h3 := HT.out.2.2.2.2.1; have : wd ≤ moreN b := (by split at h3 <;> omega); omega) W4).mono ?_
    rintro e W' ⟨rfl, hw⟩
    rw [hw]; clear hw HNu
    go_wp2_with fail
    clear c8 f8
    obtain ⟨W5, hW5⟩ : ∃ W, W = W4.setCell ⟨w.heap.size, 8, none⟩ (.int .u64 (X : Int)) := ⟨_, rfl⟩
    have H5 : Hid (Row W5 w.heap.size #[.bool FN, .int .i64 (R : Int), .int .i64 (O : Int), .bool MK, .int .u8 0, .int .u8 0, .int .u8 0, .int .u8 0, .int .u64 (X : Int), .bool false] 74 ∧ Below w.heap.size w W5) := Lib.hid (by rw [hW5]; exact ⟨H4.out.1.set 8 _, below_set H4.out.2 (Nat.le_refl _) _⟩)
    rw [← hW5]
    clear hW5 H4
    refine (HLe.out W5).mono ?_
    rintro e W' ⟨rfl, hw⟩
    rw [hw]; clear hw HLe
    have c3 : W5.cell? ⟨w.heap.size, 3, none⟩ = some (.bool MK) := cell_of_row W5 _ 3 _ _ (0, 0) H5.out.1
    have c9 : W5.cell? ⟨w.heap.size, 9, none⟩ = some (.bool false) := cell_of_row W5 _ 9 _ _ (0, 0) H5.out.1
    have f9 := H5.out.1.frozen 9
    obtain ⟨W6, hW6⟩ : ∃ W, W = W5.setCell ⟨w.heap.size, 9, none⟩ (.bool LE) := ⟨_, rfl⟩
    have H6 : Hid (Row W6 w.heap.size #[.bool FN, .int .i64 (R : Int), .int .i64 (O : Int), .bool MK, .int .u8 0, .int .u8 0, .int .u8 0, .int .u8 0, .int .u64 (X : Int), .bool LE] 74 ∧ Below w.heap.size w W6) := Lib.hid (by rw [hW6]; exact ⟨H5.out.1.set 9 _, below_set H5.out.2 (Nat.le_refl _) _⟩)
    cases MK with
    | false =>
      clear c3 c9 f9
      have HE : Hid (headV (readHeadF s) = .tuple #[.agg #[.bool FN, .int .i64 (R : Int), .int .i64 (O : Int), .bool false, .int .u8 0, .int .u8 0, .int .u8 0, .int .u8 0, .int .u64 (X : Int), .bool LE], .int .i64 (n : Int), .bool true]) := Lib.hid (HV.out key0 (fun e => by cases e) (fun _ => rfl) HM.out)
      have c0 : W5.cell? ⟨w.heap.size, 0, none⟩ = some (.bool FN) := cell_of_row W5 _ 0 _ _ (0, 0) H5.out.1
      have c1 : W5.cell? ⟨w.heap.size, 1, none⟩ = some (.int .i64 (R : Int)) := cell_of_row W5 _ 1 _ _ (0, 0) H5.out.1
      have c2 : W5.cell? ⟨w.heap.size, 2, none⟩ = some (.int .i64 (O : Int)) := cell_of_row W5 _ 2 _ _ (0, 0) H5.out.1
      have c3 : W5.cell? ⟨w.heap.size, 3, none⟩ = some (.bool false) := cell_of_row W5 _ 3 _ _ (0, 0) H5.out.1
      have c4 : W5.cell? ⟨w.heap.size, 4, none⟩ = some (.int .u8 0) := cell_of_row W5 _ 4 _ _ (0, 0) H5.out.1
      have c5 : W5.cell? ⟨w.heap.size, 5, none⟩ = some (.int .u8 0) := cell_of_row W5 _ 5 _ _ (0, 0) H5.out.1
      have c6 : W5.cell? ⟨w.heap.size, 6, none⟩ = some (.int .u8 0) := cell_of_row W5 _ 6 _ _ (0, 0) H5.out.1
      have c7 : W5.cell? ⟨w.heap.size, 7, none⟩ = some (.int .u8 0) := cell_of_row W5 _ 7 _ _ (0, 0) H5.out.1
      have c8 : W5.cell? ⟨w.heap.size, 8, none⟩ = some (.int .u64 (X : Int)) := cell_of_row W5 _ 8 _ _ (0, 0) H5.out.1
      have c9 : W5.cell? ⟨w.heap.size, 9, none⟩ = some (.bool false) := cell_of_row W5 _ 9 _ _ (0, 0) H5.out.1
      have f0 := Row.frozen H5.out.1 0
      have f1 := Row.frozen H5.out.1 1
      have f2 := Row.frozen H5.out.1 2
      have f3 := Row.frozen H5.out.1 3
      have f4 := Row.frozen H5.out.1 4
      have f5 := Row.frozen H5.out.1 5
      have f6 := Row.frozen H5.out.1 6
      have f7 := Row.frozen H5.out.1 7
      have f8 := Row.frozen H5.out.1 8
      have f9 := Row.frozen H5.out.1 9
      go_wp2
      rw [← hW6]
      refine bodyPost_ret (results_row3E rfl _ _ w.heap.size 74 #[.bool FN, .int .i64 (R : Int), .int .i64 (O : Int), .bool false, .int .u8 0, .int .u8 0, .int .u8 0, .int .u8 0, .int .u64 (X : Int), .bool LE] (0, 0) _ rfl (put10_row H6.out.1 (.bool FN) (.int .i64 (R : Int)) (.int .i64 (O : Int)) (.bool false) (.int .u8 0) (.int .u8 0) (.int .u8 0) (.int .u8 0) (.int .u64 (X : Int)) (.bool LE)) Try.underlying74 rfl infoHdW) rfl ?_
      exact ⟨by rw [HE.out]; rfl, put10_below H6.out.2 (Nat.le_refl _) _ _ _ _ _ _ _ _ _ _⟩
    | true =>
      clear c3 c9 f9
      have c0 : W5.cell? ⟨w.heap.size, 0, none⟩ = some (.bool FN) := cell_of_row W5 _ 0 _ _ (0, 0) H5.out.1
      have c1 : W5.cell? ⟨w.heap.size, 1, none⟩ = some (.int .i64 (R : Int)) := cell_of_row W5 _ 1 _ _ (0, 0) H5.out.1
      have c2 : W5.cell? ⟨w.heap.size, 2, none⟩ = some (.int .i64 (O : Int)) := cell_of_row W5 _ 2 _ _ (0, 0) H5.out.1
      have c3 : W5.cell? ⟨w.heap.size, 3, none⟩ = some (.bool true) := cell_of_row W5 _ 3 _ _ (0, 0) H5.out.1
      have c4 : W5.cell? ⟨w.heap.size, 4, none⟩ = some (.int .u8 0) := cell_of_row W5 _ 4 _ _ (0, 0) H5.out.1
      have c5 : W5.cell? ⟨w.heap.size, 5, none⟩ = some (.int .u8 0) := cell_of_row W5 _ 5 _ _ (0, 0) H5.out.1
      have c6 : W5.cell? ⟨w.heap.size, 6, none⟩ = some (.int .u8 0) := cell_of_row W5 _ 6 _ _ (0, 0) H5.out.1
      have c7 : W5.cell? ⟨w.heap.size, 7, none⟩ = some (.int .u8 0) := cell_of_row W5 _ 7 _ _ (0, 0) H5.out.1
      have c8 : W5.cell? ⟨w.heap.size, 8, none⟩ = some (.int .u64 (X : Int)) := cell_of_row W5 _ 8 _ _ (0, 0) H5.out.1
      have c9 : W5.cell? ⟨w.heap.size, 9, none⟩ = some (.bool false) := cell_of_row W5 _ 9 _ _ (0, 0) H5.out.1
      have f0 := Row.frozen H5.out.1 0
      have f1 := Row.frozen H5.out.1 1
      have f2 := Row.frozen H5.out.1 2
      have f3 := Row.frozen H5.out.1 3
      have f4 := Row.frozen H5.out.1 4
      have f5 := Row.frozen H5.out.1 5
      have f6 := Row.frozen H5.out.1 6
      have f7 := Row.frozen H5.out.1 7
      have f8 := Row.frozen H5.out.1 8
      have f9 := Row.frozen H5.out.1 9
      go_wp2_with fail
      rw [← hW6]
      clear c0 c1 c2 c3 c4 c5 c6 c7 c8 c9 f0 f1 f2 f3 f4 f5 f6 f7 f8 f9 hW6 H5
      have hwt : wd + 4 ≤ t.length := by
        have h1 := HM.out; have h2 := HT.out.2.2.2.1; have h3 := HT.out.2.2.2.2.1
        rw [if_pos trivial] at h3; omega
      obtain ⟨KT, hKT⟩ : ∃ x, x = t.drop wd := ⟨_, rfl⟩
      obtain ⟨k0, k1, k2, k3, r, hk⟩ : ∃ k0 k1 k2 k3 r, KT = k0 :: k1 :: k2 :: k3 :: r := by
        have hl : 4 ≤ KT.length := by rw [hKT, List.length_drop]; omega
        rcases KT with _ | ⟨a, _ | ⟨b, _ | ⟨c, _ | ⟨d, u⟩⟩⟩⟩
        all_goals first | exact ⟨_, _, _, _, _, rfl⟩ | (simp at hl; done) | (simp at hl; omega)
      have HE : Hid (headV (readHeadF s) = .tuple #[.agg #[.bool FN, .int .i64 (R : Int), .int .i64 (O : Int), .bool true, B k0, B k1, B k2, B k3, .int .u64 (X : Int), .bool LE], .int .i64 (n : Int), .bool true]) := Lib.hid (HV.out ⟨k0, k1, k2, k3⟩ (fun _ => by rw [← hKT, hk]; rfl) (fun e => by cases e) HM.out)
      obtain ⟨n4, hn4⟩ : ∃ x, x = n - 4 := ⟨_, rfl⟩
      have hn5 : n = 2 + wd + 4 := by have h3 := HT.out.2.2.2.2.1; rw [if_pos trivial] at h3; exact h3
      have m4 : IntKind.i64.wrap ((n : Int) - 4) = (n4 : Int) := by have := HT.out; rw [IntKind.wrap_i64]; omega
      have hsk : ∀ W, (Instr.slice 9 (S s) (some (.int .i64 (n4 : Int))) none none).run Try.prog W = .ok (S KT) W := fun W => by
        have hs := HT.out.2.2.2.2.2
        have := slice_drop (P := Try.prog) Try.underlying9 s n4 (by rw [hs, List.length_cons, List.length_cons]; omega) W
        have e : s.drop n4 = KT := by rw [hs, show n4 = wd + 1 + 1 by omega, List.drop_succ_cons, List.drop_succ_cons, hKT]
        rw [e] at this
        exact this
      have hsa := wslice_arr w.heap.size 4
      obtain ⟨Wr, hWr⟩ : ∃ W, W = W6.drew := ⟨_, rfl⟩
      have HR : Hid (Row Wr w.heap.size #[.bool FN, .int .i64 (R : Int), .int .i64 (O : Int), .bool true, .int .u8 0, .int .u8 0, .int .u8 0, .int .u8 0, .int .u64 (X : Int), .bool LE] 74 ∧ Below w.heap.size w Wr) := Lib.hid (by rw [hWr]; exact ⟨H6.out.1.drew, H6.out.2.trans ((below_drewN _ 1).mono H6.out.2.size)⟩)
      have hcp := run_copy_str (P := Try.prog) (td := 38) (e := 5) (ts := 9) Try.underlying38 wsize5 Wr 3 w.heap.size 4 4 4 _ 74 KT 4 (by rw [hk]; show 4 = min (r.length + 1 + 1 + 1 + 1) 4; omega) HR.out.1 (by show 4 + 4 ≤ 10; omega)
      rw [hk] at hcp
      rw [hk] at hsk
      obtain ⟨W7, hW7⟩ : ∃ W, W = Wr.setRow w.heap.size #[.bool FN, .int .i64 (R : Int), .int .i64 (O : Int), .bool true, B k0, B k1, B k2, B k3, .int .u64 (X : Int), .bool LE] := ⟨_, rfl⟩
      have hcp2 : (Builtin.copy_ #[38, 9] 3 #[.slice (some ⟨w.heap.size, 4, none⟩) 4 4, S (k0 :: k1 :: k2 :: k3 :: r)]).run Try.prog Wr = .ok (goInt 4) W7 := by rw [hW7]; exact hcp
      have H7 : Hid (Row W7 w.heap.size #[.bool FN, .int .i64 (R : Int), .int .i64 (O : Int), .bool true, B k0, B k1, B k2, B k3, .int .u64 (X : Int), .bool LE] 74 ∧ Below w.heap.size w W7) := Lib.hid (by rw [hW7]; exact ⟨setRow_heap Wr _ _ _ _ _ HR.out.1, HR.out.2.setRow (Nat.le_refl _) _⟩)
      clear hcp hW7 HR hKT hk hn4 hn5 hwt
      refine wp_region_noPanic ?_
      refine wp_region_held_drew (S := fun _ => True) (by kernel_rfl) trivial (fun _ => ?_)
      rw [← hWr]
      clear hWr H6
      refine take_at (i := 0) (d := some 54) (v := .pointer (some ⟨w.heap.size, 4, none⟩)) rfl (by kernel_rfl) (by kernel_rfl) (by kernel_rfl) (fun _ _ _ h => h) (fun oi ho => ?_) trivial ?_
      · obtain rfl := Option.some.inj ho
        exact Or.inl ⟨by rfl, fun wx _ => by go_simp⟩
      simp only [Act.put, List.setIfInBounds_toArray, List.set_cons_zero, List.set_cons_succ]
      refine take_at (i := 1) (d := some 55) (v := .slice (some ⟨w.heap.size, 4, none⟩) 4 4) rfl (by kernel_rfl) (by kernel_rfl) (by kernel_rfl) (fun _ _ _ h => h) (fun oi ho => ?_) trivial ?_
      · obtain rfl := Option.some.inj ho
        exact Or.inl ⟨by rfl, fun wx _ => by go_simp⟩
      simp only [Act.put, List.setIfInBounds_toArray, List.set_cons_zero, List.set_cons_succ]
      refine take_at (i := 2) (d := some 56) (v := S s) rfl (by kernel_rfl) (by kernel_rfl) (by kernel_rfl) (fun _ _ _ h => h) (fun oi ho => ?_) trivial ?_
      · obtain rfl := Option.some.inj ho
        exact Or.inl ⟨by rfl, fun wx _ => by go_simp⟩
      simp only [Act.put, List.setIfInBounds_toArray, List.set_cons_zero, List.set_cons_succ]
      refine take_at (i := 3) (d := some 57) (v := .int .i64 (n : Int)) rfl (by kernel_rfl) (by kernel_rfl) (by kernel_rfl) (fun _ _ _ h => h) (fun oi ho => ?_) trivial ?_
      · obtain rfl := Option.some.inj ho
        exact Or.inl ⟨by rfl, fun wx _ => by go_simp⟩
      simp only [Act.put, List.setIfInBounds_toArray, List.set_cons_zero, List.set_cons_succ]
      refine take_at (i := 4) (d := some 58) (v := .int .i64 (n4 : Int)) rfl (by kernel_rfl) (by kernel_rfl) (by kernel_rfl) (fun _ _ _ h => h) (fun oi ho => ?_) trivial ?_
      · obtain rfl := Option.some.inj ho
        exact Or.inl ⟨by rfl, fun wx _ => by go_simp⟩
      simp only [Act.put, List.setIfInBounds_toArray, List.set_cons_zero, List.set_cons_succ]
      refine take_at (i := 5) (d := some 59) (v := S (k0 :: k1 :: k2 :: k3 :: r)) rfl (by kernel_rfl) (by kernel_rfl) (by kernel_rfl) (fun _ _ _ h => h) (fun oi ho => ?_) trivial ?_
      · obtain rfl := Option.some.inj ho
        exact Or.inl ⟨by rfl, fun wx _ => by go_simp⟩
      simp only [Act.put, List.setIfInBounds_toArray, List.set_cons_zero, List.set_cons_succ]
      refine ready_value (i := 6) (d := some 60) (v := goInt 4) (w' := W7) rfl (by kernel_rfl) (fun oi ho => ?_) trivial ?_
      · obtain rfl := Option.some.inj ho
        exact ⟨by rfl, by go_simp⟩
      simp only [Act.put, List.setIfInBounds_toArray, List.set_cons_zero, List.set_cons_succ]
      refine wpAnyH_done (by kernel_rfl) ?_ _
      refine NoPanic.normal ?_
      try simp only [Act.put]
      clear hcp2 hsk hsa m4
      have c0 : W7.cell? ⟨w.heap.size, 0, none⟩ = some (.bool FN) := cell_of_row W7 _ 0 _ _ (0, 0) H7.out.1
      have c1 : W7.cell? ⟨w.heap.size, 1, none⟩ = some (.int .i64 (R : Int)) := cell_of_row W7 _ 1 _ _ (0, 0) H7.out.1
      have c2 : W7.cell? ⟨w.heap.size, 2, none⟩ = some (.int .i64 (O : Int)) := cell_of_row W7 _ 2 _ _ (0, 0) H7.out.1
      have c3 : W7.cell? ⟨w.heap.size, 3, none⟩ = some (.bool true) := cell_of_row W7 _ 3 _ _ (0, 0) H7.out.1
      have c4 : W7.cell? ⟨w.heap.size, 4, none⟩ = some (B k0) := cell_of_row W7 _ 4 _ _ (0, 0) H7.out.1
      have c5 : W7.cell? ⟨w.heap.size, 5, none⟩ = some (B k1) := cell_of_row W7 _ 5 _ _ (0, 0) H7.out.1
      have c6 : W7.cell? ⟨w.heap.size, 6, none⟩ = some (B k2) := cell_of_row W7 _ 6 _ _ (0, 0) H7.out.1
      have c7 : W7.cell? ⟨w.heap.size, 7, none⟩ = some (B k3) := cell_of_row W7 _ 7 _ _ (0, 0) H7.out.1
      have c8 : W7.cell? ⟨w.heap.size, 8, none⟩ = some (.int .u64 (X : Int)) := cell_of_row W7 _ 8 _ _ (0, 0) H7.out.1
      have c9 : W7.cell? ⟨w.heap.size, 9, none⟩ = some (.bool LE) := cell_of_row W7 _ 9 _ _ (0, 0) H7.out.1
      have f0 := Row.frozen H7.out.1 0
      have f1 := Row.frozen H7.out.1 1
      have f2 := Row.frozen H7.out.1 2
      have f3 := Row.frozen H7.out.1 3
      have f4 := Row.frozen H7.out.1 4
      have f5 := Row.frozen H7.out.1 5
      have f6 := Row.frozen H7.out.1 6
      have f7 := Row.frozen H7.out.1 7
      have f8 := Row.frozen H7.out.1 8
      have f9 := Row.frozen H7.out.1 9
      go_wp2
      refine bodyPost_ret (results_row3E rfl _ _ w.heap.size 74 #[.bool FN, .int .i64 (R : Int), .int .i64 (O : Int), .bool true, B k0, B k1, B k2, B k3, .int .u64 (X : Int), .bool LE] (0, 0) _ rfl (put10_row H7.out.1 (.bool FN) (.int .i64 (R : Int)) (.int .i64 (O : Int)) (.bool true) (B k0) (B k1) (B k2) (B k3) (.int .u64 (X : Int)) (.bool LE)) Try.underlying74 rfl infoHdW) rfl ?_
      exact ⟨by rw [HE.out]; rfl, put10_below H7.out.2 (Nat.le_refl _) _ _ _ _ _ _ _ _ _ _⟩
theorem whead_any (s : List UInt8) (hs : s.length ≤ 200000) (w : World) : Calls Try.prog 35 #[S s] w fun e w' => e = .returned (headV (readHeadF s)) ∧ Below w.heap.size w w' := by
  rcases s with _ | ⟨a, _ | ⟨b, t⟩⟩
  · exact whead_short [] (by decide) w
  · exact whead_short [a] (by simp) w
  · exact whead_long a b t (by simp only [List.length_cons] at hs; omega) w
end Go.Proofs.Ytlmolmmhkddpaaa
