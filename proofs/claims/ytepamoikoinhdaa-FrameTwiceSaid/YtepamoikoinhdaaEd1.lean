/- The document's Bytes (stage 15) walked: a frame that may be, its number in one byte. (mked.py writes it.) -/
import Derived.Test.YtepamoikoinhdaaEc
import Derived.Shelf.RegionOpen
namespace Go.Proofs.Ytepamoikoinhdaa
open Go.RowKit
attribute [local go_sem] store_one B_match B_store S_match S_store B_xor nguard_BN eguard_BN

set_option maxRecDepth 100000 in
set_option maxHeartbeats 2000000 in
theorem bytes15_1fm (f : Frm) (w : World) (hf : f.fin = true) (hm : f.masked = true) (h : okFr f = true) (hl : f.data.length ≤ 125) : Calls Try.prog 16 #[frV f] w fun e w' => e = .returned (bytesV f) ∧ Below w.heap.size w w' := by
  obtain ⟨h1, h2, h3, h4, h5⟩ := okFr_parts h
  have hv : bytesV f = .tuple #[S (firstB f :: (lenB 128 f.data.length ++ keyB f) ++ maskN f.key 0 f.data), .int .i64 0] := by
    unfold bytesV bytesF headB; rw [if_pos h, if_pos h, hm]; rfl
  obtain ⟨r, hr⟩ : ∃ r : Nat, f.rsv = (r : Int) := ⟨f.rsv.toNat, by omega⟩
  obtain ⟨o, ho⟩ : ∃ o : Nat, f.op = (o : Int) := ⟨f.op.toNat, by omega⟩
  obtain ⟨A0, hA0⟩ : ∃ A : Nat, A = 16 * r + o := ⟨_, rfl⟩
  obtain ⟨A, hA⟩ : ∃ A : Nat, A = A0 + 128 := ⟨_, rfl⟩
  have hfb : firstB f = UInt8.ofNat A := by unfold firstB; rw [hf, hr, ho, Int.toNat_natCast, Int.toNat_natCast, hA, hA0]; congr 1; simp only [finN, if_true]; omega
  have hkb : keyB f = [f.key.k0, f.key.k1, f.key.k2, f.key.k3] := by unfold keyB; rw [hm]; rfl
  rw [hfb, hkb] at hv
  have HC := Lib.hid (fun w => mask15_any f.key 0 f.data w (by omega))
  have w1 : IntKind.i64.wrap (16 * (r : Int)) = 16 * (r : Int) := by rw [IntKind.wrap_i64]; omega
  have w2 : IntKind.i64.wrap (16 * (r : Int) + (o : Int)) = (A0 : Int) := by rw [IntKind.wrap_i64]; omega
  have w3 : IntKind.i64.wrap ((A0 : Int) + 128) = ((A0 + 128 : Nat) : Int) := by rw [IntKind.wrap_i64]; omega
  have hcv : ∀ w, (convert 3 5 (.int .i64 (A : Int))).run Try.prog w = .ok (B (UInt8.ofNat A)) w := conv_num Try.underlying5 Try.underlying3 A
  have hlN := run_len_S (P := Try.prog) Try.underlying9 3 f.data
  obtain ⟨N, hN⟩ : ∃ N, N = f.data.length := ⟨_, rfl⟩
  rw [← hN] at hlN hl hv
  obtain ⟨MN, hMN⟩ : ∃ a, a = 128 + N := ⟨_, rfl⟩
  have w4 : IntKind.i64.wrap (128 + (N : Int)) = (MN : Int) := by rw [IntKind.wrap_i64]; omega
  have hcN : ∀ w, (convert 3 5 (.int .i64 (MN : Int))).run Try.prog w = .ok (B (UInt8.ofNat MN)) w := conv_num Try.underlying5 Try.underlying3 MN
  have g5 : decide ((N : Int) ≤ 125) = true := decide_eq_true (by omega)
  have hlen : lenB 128 N = [UInt8.ofNat MN] := by unfold lenB; rw [if_pos (by omega), hMN]
  rw [hlen] at hv
  clear hlen hMN
  obtain ⟨fin, rsv, op, m, ⟨k0, k1, k2, k3⟩, data⟩ := f
  dsimp only at *
  subst hf hm hr ho
  have e1 : decide ((r : Int) < 0) = false := decide_eq_false (by omega)
  have e2 : decide ((7 : Int) < (r : Int)) = false := decide_eq_false (by omega)
  have e3 : decide ((o : Int) < 0) = false := decide_eq_false (by omega)
  have e4 : decide ((15 : Int) < (o : Int)) = false := decide_eq_false (by omega)
  have e2' : decide ((r : Int) > 7) = false := decide_eq_false (by omega)
  have e4' : decide ((o : Int) > 15) = false := decide_eq_false (by omega)
  rw [← hA] at w3
  clear hA hA0 h1 h2 h3 h4
  clear hfb hkb
  clear h5 h
  obtain ⟨W1, hW1⟩ : ∃ W, W = w.alloc (.cells #[.bool true, .int .i64 (r : Int), .int .i64 (o : Int), .bool true, B k0, B k1, B k2, B k3, S data] 34) := ⟨_, rfl⟩
  obtain ⟨W2, hW2⟩ : ∃ W, W = W1.alloc (.cells #[B (UInt8.ofNat A)] 5) := ⟨_, rfl⟩
  have hs1 : W1.heap.size = w.heap.size + 1 := by rw [hW1, alloc_size]
  have hs2 : W2.heap.size = w.heap.size + 2 := by rw [hW2, alloc_size, hs1]
  have H2 : Hid (OwB (w.heap.size + 1) (.slice (some ⟨w.heap.size + 1, 0, none⟩) 1 1) [UInt8.ofNat A] W2 ∧ w.heap.size + 1 ≤ W2.heap.size) := Lib.hid ⟨by rw [hW2, ← hs1]; exact owb_new rfl rfl (by simp) _ (Nat.le_refl _), by omega⟩
  have R2 : Hid (Row W2 w.heap.size #[.bool true, .int .i64 (r : Int), .int .i64 (o : Int), .bool true, B k0, B k1, B k2, B k3, S data] 34 ∧ Below w.heap.size w W2) := Lib.hid ⟨by rw [hW2, hW1]; exact (row_new _ _ _).alloc _, by rw [hW2, hW1]; exact ((Below.refl _ _).alloc (Nat.le_refl _) _).alloc (by rw [alloc_size]; omega) _⟩
  have HS2 := Lib.hid hs2
  have HV := Lib.hid hv
  have HN := Lib.hid hN
  rw [hW1] at hW2
  clear hW1 hs1 hs2 hv hN W1
  unfold frV frC
  dsimp only at *
  go_enter Try.func16, Try.ntmps16
  go_wp2_with first
    | (at_builtin; refine wpList_addB rfl (.tmp 74) (.tmp 79) rfl (w.heap.size + 1) W2 (.slice (some ⟨w.heap.size + 1, 0, none⟩) 1 1) rfl ([UInt8.ofNat A]) ([UInt8.ofNat MN]) H2.out.1 (#[B (UInt8.ofNat MN)]) rfl (by rw [hW2]) 1 rfl (w.heap.size + 2) (HS2.out) rfl (by simp) H2.out.2 ?_; intro V3 W3 o3 g3
       have hr3 : Row W3 w.heap.size #[.bool true, .int .i64 (r : Int), .int .i64 (o : Int), .bool true, B k0, B k1, B k2, B k3, S data] 34 := row_grown R2.out.1 g3 (fun e => by have := (H2.out.1.lt _ e.symm).1; omega)
       have H3 : Hid (OwB (w.heap.size + 1) V3 ([UInt8.ofNat A] ++ [UInt8.ofNat MN]) W3 ∧ w.heap.size + 1 ≤ W3.heap.size) := Lib.hid ⟨o3, Nat.le_trans H2.out.2 g3.size⟩
       have R3 : Hid (Row W3 w.heap.size #[.bool true, .int .i64 (r : Int), .int .i64 (o : Int), .bool true, B k0, B k1, B k2, B k3, S data] 34 ∧ Below w.heap.size w W3) := Lib.hid ⟨hr3, R2.out.2.grown g3 R2.out.2.size (fun k e => by have := (H2.out.1.lt k e).1; omega)⟩
       have x33 : W3.cell? ⟨w.heap.size, 3, none⟩ = some (.bool true) := cell_of_row W3 _ 3 _ _ (0, 0) hr3
       have x34 : W3.cell? ⟨w.heap.size, 4, none⟩ = some (B k0) := cell_of_row W3 _ 4 _ _ (0, 0) hr3
       have x35 : W3.cell? ⟨w.heap.size, 5, none⟩ = some (B k1) := cell_of_row W3 _ 5 _ _ (0, 0) hr3
       have x36 : W3.cell? ⟨w.heap.size, 6, none⟩ = some (B k2) := cell_of_row W3 _ 6 _ _ (0, 0) hr3
       have x37 : W3.cell? ⟨w.heap.size, 7, none⟩ = some (B k3) := cell_of_row W3 _ 7 _ _ (0, 0) hr3
       have x38 : W3.cell? ⟨w.heap.size, 8, none⟩ = some (S data) := cell_of_row W3 _ 8 _ _ (0, 0) hr3
       clear o3 g3 hr3)
    | (at_builtin; refine wpList_addB rfl (.tmp 118) (.tmp 131) rfl (w.heap.size + 1) W3 (V3) rfl (([UInt8.ofNat A] ++ [UInt8.ofNat MN])) ([k0, k1, k2, k3]) H3.out.1 (#[B k0, B k1, B k2, B k3]) rfl rfl 4 rfl (W3.heap.size) (rfl) rfl (by simp) H3.out.2 ?_; intro V4 W4 o4 g4
       have hr4 : Row W4 w.heap.size #[.bool true, .int .i64 (r : Int), .int .i64 (o : Int), .bool true, B k0, B k1, B k2, B k3, S data] 34 := row_grown R3.out.1 g4 (fun e => by have := (H3.out.1.lt _ e.symm).1; omega)
       have H4 : Hid (OwB (w.heap.size + 1) V4 (([UInt8.ofNat A] ++ [UInt8.ofNat MN]) ++ [k0, k1, k2, k3]) W4 ∧ w.heap.size + 1 ≤ W4.heap.size) := Lib.hid ⟨o4, Nat.le_trans H3.out.2 g4.size⟩
       have R4 : Hid (Row W4 w.heap.size #[.bool true, .int .i64 (r : Int), .int .i64 (o : Int), .bool true, B k0, B k1, B k2, B k3, S data] 34 ∧ Below w.heap.size w W4) := Lib.hid ⟨hr4, R3.out.2.grown g4 R3.out.2.size (fun k e => by have := (H3.out.1.lt k e).1; omega)⟩
       have x43 : W4.cell? ⟨w.heap.size, 3, none⟩ = some (.bool true) := cell_of_row W4 _ 3 _ _ (0, 0) hr4
       have x44 : W4.cell? ⟨w.heap.size, 4, none⟩ = some (B k0) := cell_of_row W4 _ 4 _ _ (0, 0) hr4
       have x45 : W4.cell? ⟨w.heap.size, 5, none⟩ = some (B k1) := cell_of_row W4 _ 5 _ _ (0, 0) hr4
       have x46 : W4.cell? ⟨w.heap.size, 6, none⟩ = some (B k2) := cell_of_row W4 _ 6 _ _ (0, 0) hr4
       have x47 : W4.cell? ⟨w.heap.size, 7, none⟩ = some (B k3) := cell_of_row W4 _ 7 _ _ (0, 0) hr4
       have x48 : W4.cell? ⟨w.heap.size, 8, none⟩ = some (S data) := cell_of_row W4 _ 8 _ _ (0, 0) hr4
       clear o4 g4 hr4)
  obtain ⟨LL, hLL⟩ : ∃ x, x = (([UInt8.ofNat A] ++ [UInt8.ofNat MN]) ++ [k0, k1, k2, k3]) := ⟨_, rfl⟩
  obtain ⟨MK, hMK⟩ : ∃ x, x = maskN ⟨k0, k1, k2, k3⟩ 0 data := ⟨_, rfl⟩
  have HL : Hid (bytesV ⟨true, (r : Int), (o : Int), true, ⟨k0, k1, k2, k3⟩, data⟩ = .tuple #[S (LL ++ MK), .int .i64 0]) := Lib.hid (by rw [HV.out, hLL, hMK]; simp)
  have hadd : binOp .add 9 (S LL) (S MK) = pure (S (LL ++ MK)) := S_add 9 LL MK (by have := HN.out; rw [hLL, hMK, mask_len]; simp only [List.length_append, List.length_cons, List.length_nil]; omega)
  have HM : Hid (∀ w, Calls Try.prog 20 #[.agg #[B k0, B k1, B k2, B k3], .int .i64 0, S data] w fun e w' => e = .returned (S MK) ∧ Below w.heap.size w w') := Lib.hid (by rw [hMK]; exact HC.out)
  have hS : ∀ wx, Below W4.heap.size W4 wx → ((wx.cell? ⟨w.heap.size, 4, none⟩ = some (B k0) ∧ wx.cell? ⟨w.heap.size, 5, none⟩ = some (B k1) ∧ wx.cell? ⟨w.heap.size, 6, none⟩ = some (B k2) ∧ wx.cell? ⟨w.heap.size, 7, none⟩ = some (B k3) ∧ wx.cell? ⟨w.heap.size, 8, none⟩ = some (S data)) ∧ (convert 48 9 V4).run Try.prog wx = .ok (S LL) wx) := fun wx hb => by
    have hrow := R4.out.1.below hb R4.out.1.lt
    exact ⟨⟨cell_of_row wx _ 4 _ _ (0, 0) hrow, cell_of_row wx _ 5 _ _ (0, 0) hrow, cell_of_row wx _ 6 _ _ (0, 0) hrow, cell_of_row wx _ 7 _ _ (0, 0) hrow, cell_of_row wx _ 8 _ _ (0, 0) hrow⟩, by rw [hLL]; exact owb_text (H4.out.1.below hb)⟩
  have HS := Lib.hid hS
  obtain ⟨Wq, hWq⟩ : ∃ Wq, Wq = W4.drew := ⟨_, rfl⟩
  have hBq : Below W4.heap.size W4 Wq := by rw [hWq]; exact ⟨rfl, rfl, rfl, Nat.le_refl _, fun _ _ => rfl⟩
  have HSQ := Lib.hid (hS Wq hBq)
  have HBQ := Lib.hid hBq
  clear hS hBq hLL hMK
  refine wp_region_noPanic ?_
  refine wp_region_held_drew (S := fun wx => ((wx.cell? ⟨w.heap.size, 4, none⟩ = some (B k0) ∧ wx.cell? ⟨w.heap.size, 5, none⟩ = some (B k1) ∧ wx.cell? ⟨w.heap.size, 6, none⟩ = some (B k2) ∧ wx.cell? ⟨w.heap.size, 7, none⟩ = some (B k3) ∧ wx.cell? ⟨w.heap.size, 8, none⟩ = some (S data)) ∧ (convert 48 9 V4).run Try.prog wx = .ok (S LL) wx)) (by kernel_rfl) (by rw [← hWq]; exact HSQ.out) (fun _ => ?_)
  rw [← hWq]
  clear hWq
  refine take_at (i := 0) (d := some 133) (v := V4) rfl (by kernel_rfl) (by kernel_rfl) (by kernel_rfl) (fun _ _ _ h => h) (fun oi ho => ?_) HSQ.out ?_
  · obtain rfl := Option.some.inj ho
    exact Or.inl ⟨by rfl, fun wx hSw => by obtain ⟨⟨hu4, hu5, hu6, hu7, hu8⟩, hcx⟩ := hSw; go_simp⟩
  simp only [Act.put, List.setIfInBounds_toArray, List.set_cons_zero, List.set_cons_succ]
  refine take_at (i := 1) (d := some 134) (v := S LL) rfl (by kernel_rfl) (by kernel_rfl) (by kernel_rfl) (fun _ _ _ h => h) (fun oi ho => ?_) HSQ.out ?_
  · obtain rfl := Option.some.inj ho
    exact Or.inl ⟨by rfl, fun wx hSw => by obtain ⟨⟨hu4, hu5, hu6, hu7, hu8⟩, hcx⟩ := hSw; go_simp⟩
  simp only [Act.put, List.setIfInBounds_toArray, List.set_cons_zero, List.set_cons_succ]
  refine take_at (i := 2) (d := some 135) (v := .pointer (some ⟨w.heap.size, 4, none⟩)) rfl (by kernel_rfl) (by kernel_rfl) (by kernel_rfl) (fun _ _ _ h => h) (fun oi ho => ?_) HSQ.out ?_
  · obtain rfl := Option.some.inj ho
    exact Or.inl ⟨by rfl, fun wx hSw => by obtain ⟨⟨hu4, hu5, hu6, hu7, hu8⟩, hcx⟩ := hSw; go_simp⟩
  simp only [Act.put, List.setIfInBounds_toArray, List.set_cons_zero, List.set_cons_succ]
  refine take_at (i := 3) (d := some 136) (v := .agg #[B k0, B k1, B k2, B k3]) rfl (by kernel_rfl) (by kernel_rfl) (by kernel_rfl) (fun _ _ _ h => h) (fun oi ho => ?_) HSQ.out ?_
  · obtain rfl := Option.some.inj ho
    exact Or.inl ⟨by rfl, fun wx hSw => by obtain ⟨⟨hu4, hu5, hu6, hu7, hu8⟩, hcx⟩ := hSw; go_simp⟩
  simp only [Act.put, List.setIfInBounds_toArray, List.set_cons_zero, List.set_cons_succ]
  refine take_at (i := 4) (d := some 137) (v := .pointer (some ⟨w.heap.size, 8, none⟩)) rfl (by kernel_rfl) (by kernel_rfl) (by kernel_rfl) (fun _ _ _ h => h) (fun oi ho => ?_) HSQ.out ?_
  · obtain rfl := Option.some.inj ho
    exact Or.inl ⟨by rfl, fun wx hSw => by obtain ⟨⟨hu4, hu5, hu6, hu7, hu8⟩, hcx⟩ := hSw; go_simp⟩
  simp only [Act.put, List.setIfInBounds_toArray, List.set_cons_zero, List.set_cons_succ]
  refine take_at (i := 5) (d := some 138) (v := S data) rfl (by kernel_rfl) (by kernel_rfl) (by kernel_rfl) (fun _ _ _ h => h) (fun oi ho => ?_) HSQ.out ?_
  · obtain rfl := Option.some.inj ho
    exact Or.inl ⟨by rfl, fun wx hSw => by obtain ⟨⟨hu4, hu5, hu6, hu7, hu8⟩, hcx⟩ := hSw; go_simp⟩
  simp only [Act.put, List.setIfInBounds_toArray, List.set_cons_zero, List.set_cons_succ]
  refine ready_call (i := 6) (d := some 139) (f := 20) (args := #[.agg #[B k0, B k1, B k2, B k3], .int .i64 0, S data]) rfl (by kernel_rfl) (fun oi ho => ?_) ?_
  · obtain rfl := Option.some.inj ho
    exact ⟨by rfl, by go_simp⟩
  refine (HM.out Wq).mono ?_
  rintro e Wz ⟨rfl, hBz⟩
  have hBy := HBQ.out.trans (hBz.mono HBQ.out.size)
  have HSZ := Lib.hid (HS.out Wz hBy)
  have HE := Lib.hid (R4.out.2.trans (hBy.mono R4.out.2.size))
  clear hBz hBy
  refine ⟨_, rfl, HSZ.out, ?_⟩
  simp only [Act.put, List.setIfInBounds_toArray, List.set_cons_zero, List.set_cons_succ]
  refine take_at (i := 7) (d := some 140) (v := S (LL ++ MK)) rfl (by kernel_rfl) (by kernel_rfl) (by kernel_rfl) (fun _ _ _ h => h) (fun oi ho => ?_) HSZ.out ?_
  · obtain rfl := Option.some.inj ho
    exact Or.inl ⟨by rfl, fun wx hSw => by obtain ⟨⟨hu4, hu5, hu6, hu7, hu8⟩, hcx⟩ := hSw; go_simp⟩
  simp only [Act.put, List.setIfInBounds_toArray, List.set_cons_zero, List.set_cons_succ]
  refine take_at (i := 8) (d := some 2) (v := S (LL ++ MK)) rfl (by kernel_rfl) (by kernel_rfl) (by kernel_rfl) (fun _ _ _ h => h) (fun oi ho => ?_) HSZ.out ?_
  · obtain rfl := Option.some.inj ho
    exact Or.inl ⟨by rfl, fun wx hSw => by obtain ⟨⟨hu4, hu5, hu6, hu7, hu8⟩, hcx⟩ := hSw; go_simp⟩
  simp only [Act.put, List.setIfInBounds_toArray, List.set_cons_zero, List.set_cons_succ]
  refine take_at (i := 9) (d := some 3) (v := .int .i64 0) rfl (by kernel_rfl) (by kernel_rfl) (by kernel_rfl) (fun _ _ _ h => h) (fun oi ho => ?_) HSZ.out ?_
  · obtain rfl := Option.some.inj ho
    exact Or.inl ⟨by rfl, fun wx hSw => by obtain ⟨⟨hu4, hu5, hu6, hu7, hu8⟩, hcx⟩ := hSw; go_simp⟩
  simp only [Act.put, List.setIfInBounds_toArray, List.set_cons_zero, List.set_cons_succ]
  refine wpAnyH_done (by kernel_rfl) ?_ _
  refine NoPanic.normal ?_
  try simp only [Act.put]
  go_wp2
  go_ret2
  exact ⟨by rw [HL.out]; rfl, HE.out⟩
set_option maxRecDepth 100000 in
set_option maxHeartbeats 2000000 in
theorem bytes15_1fu (f : Frm) (w : World) (hf : f.fin = true) (hm : f.masked = false) (h : okFr f = true) (hl : f.data.length ≤ 125) : Calls Try.prog 16 #[frV f] w fun e w' => e = .returned (bytesV f) ∧ Below w.heap.size w w' := by
  obtain ⟨h1, h2, h3, h4, h5⟩ := okFr_parts h
  have hv : bytesV f = .tuple #[S (firstB f :: (lenB 0 f.data.length ++ keyB f) ++ maskN f.key 0 f.data), .int .i64 0] := by
    unfold bytesV bytesF headB; rw [if_pos h, if_pos h, hm]; rfl
  obtain ⟨r, hr⟩ : ∃ r : Nat, f.rsv = (r : Int) := ⟨f.rsv.toNat, by omega⟩
  obtain ⟨o, ho⟩ : ∃ o : Nat, f.op = (o : Int) := ⟨f.op.toNat, by omega⟩
  obtain ⟨A0, hA0⟩ : ∃ A : Nat, A = 16 * r + o := ⟨_, rfl⟩
  obtain ⟨A, hA⟩ : ∃ A : Nat, A = A0 + 128 := ⟨_, rfl⟩
  have hfb : firstB f = UInt8.ofNat A := by unfold firstB; rw [hf, hr, ho, Int.toNat_natCast, Int.toNat_natCast, hA, hA0]; congr 1; simp only [finN, if_true]; omega
  have hkb : keyB f = [] := by unfold keyB; rw [hm]; rfl
  rw [hfb, hkb] at hv
  have HC := Lib.hid (fun w => mask15_any f.key 0 f.data w (by omega))
  have w1 : IntKind.i64.wrap (16 * (r : Int)) = 16 * (r : Int) := by rw [IntKind.wrap_i64]; omega
  have w2 : IntKind.i64.wrap (16 * (r : Int) + (o : Int)) = (A0 : Int) := by rw [IntKind.wrap_i64]; omega
  have w3 : IntKind.i64.wrap ((A0 : Int) + 128) = ((A0 + 128 : Nat) : Int) := by rw [IntKind.wrap_i64]; omega
  have hcv : ∀ w, (convert 3 5 (.int .i64 (A : Int))).run Try.prog w = .ok (B (UInt8.ofNat A)) w := conv_num Try.underlying5 Try.underlying3 A
  have hlN := run_len_S (P := Try.prog) Try.underlying9 3 f.data
  obtain ⟨N, hN⟩ : ∃ N, N = f.data.length := ⟨_, rfl⟩
  rw [← hN] at hlN hl hv
  obtain ⟨MN, hMN⟩ : ∃ a, a = 0 + N := ⟨_, rfl⟩
  have w4 : IntKind.i64.wrap ((N : Int)) = (MN : Int) := by rw [IntKind.wrap_i64]; omega
  have hcN : ∀ w, (convert 3 5 (.int .i64 (MN : Int))).run Try.prog w = .ok (B (UInt8.ofNat MN)) w := conv_num Try.underlying5 Try.underlying3 MN
  have g5 : decide ((N : Int) ≤ 125) = true := decide_eq_true (by omega)
  have hlen : lenB 0 N = [UInt8.ofNat MN] := by unfold lenB; rw [if_pos (by omega), hMN]
  rw [hlen] at hv
  clear hlen hMN
  obtain ⟨fin, rsv, op, m, ⟨k0, k1, k2, k3⟩, data⟩ := f
  dsimp only at *
  subst hf hm hr ho
  have e1 : decide ((r : Int) < 0) = false := decide_eq_false (by omega)
  have e2 : decide ((7 : Int) < (r : Int)) = false := decide_eq_false (by omega)
  have e3 : decide ((o : Int) < 0) = false := decide_eq_false (by omega)
  have e4 : decide ((15 : Int) < (o : Int)) = false := decide_eq_false (by omega)
  have e2' : decide ((r : Int) > 7) = false := decide_eq_false (by omega)
  have e4' : decide ((o : Int) > 15) = false := decide_eq_false (by omega)
  rw [← hA] at w3
  clear hA hA0 h1 h2 h3 h4
  have hk0 := h5 rfl
  obtain ⟨rfl, rfl, rfl, rfl⟩ : k0 = 0 ∧ k1 = 0 ∧ k2 = 0 ∧ k3 = 0 := by injection hk0 with a1 a2 a3 a4; exact ⟨a1, a2, a3, a4⟩
  have z0 : binOp .neq 5 (B 0) (.int .u8 0) = pure (.bool false) := rfl
  clear hk0 hfb hkb
  clear h5 h
  obtain ⟨W1, hW1⟩ : ∃ W, W = w.alloc (.cells #[.bool true, .int .i64 (r : Int), .int .i64 (o : Int), .bool false, B 0, B 0, B 0, B 0, S data] 34) := ⟨_, rfl⟩
  obtain ⟨W2, hW2⟩ : ∃ W, W = W1.alloc (.cells #[B (UInt8.ofNat A)] 5) := ⟨_, rfl⟩
  have hs1 : W1.heap.size = w.heap.size + 1 := by rw [hW1, alloc_size]
  have hs2 : W2.heap.size = w.heap.size + 2 := by rw [hW2, alloc_size, hs1]
  have H2 : Hid (OwB (w.heap.size + 1) (.slice (some ⟨w.heap.size + 1, 0, none⟩) 1 1) [UInt8.ofNat A] W2 ∧ w.heap.size + 1 ≤ W2.heap.size) := Lib.hid ⟨by rw [hW2, ← hs1]; exact owb_new rfl rfl (by simp) _ (Nat.le_refl _), by omega⟩
  have R2 : Hid (Row W2 w.heap.size #[.bool true, .int .i64 (r : Int), .int .i64 (o : Int), .bool false, B 0, B 0, B 0, B 0, S data] 34 ∧ Below w.heap.size w W2) := Lib.hid ⟨by rw [hW2, hW1]; exact (row_new _ _ _).alloc _, by rw [hW2, hW1]; exact ((Below.refl _ _).alloc (Nat.le_refl _) _).alloc (by rw [alloc_size]; omega) _⟩
  have HS2 := Lib.hid hs2
  have HV := Lib.hid hv
  have HN := Lib.hid hN
  rw [hW1] at hW2
  clear hW1 hs1 hs2 hv hN W1
  unfold frV frC
  dsimp only at *
  go_enter Try.func16, Try.ntmps16
  go_wp2_with first
    | (at_builtin; refine wpList_addB rfl (.tmp 74) (.tmp 79) rfl (w.heap.size + 1) W2 (.slice (some ⟨w.heap.size + 1, 0, none⟩) 1 1) rfl ([UInt8.ofNat A]) ([UInt8.ofNat MN]) H2.out.1 (#[B (UInt8.ofNat MN)]) rfl (by rw [hW2]) 1 rfl (w.heap.size + 2) (HS2.out) rfl (by simp) H2.out.2 ?_; intro V3 W3 o3 g3
       have hr3 : Row W3 w.heap.size #[.bool true, .int .i64 (r : Int), .int .i64 (o : Int), .bool false, B 0, B 0, B 0, B 0, S data] 34 := row_grown R2.out.1 g3 (fun e => by have := (H2.out.1.lt _ e.symm).1; omega)
       have H3 : Hid (OwB (w.heap.size + 1) V3 ([UInt8.ofNat A] ++ [UInt8.ofNat MN]) W3 ∧ w.heap.size + 1 ≤ W3.heap.size) := Lib.hid ⟨o3, Nat.le_trans H2.out.2 g3.size⟩
       have R3 : Hid (Row W3 w.heap.size #[.bool true, .int .i64 (r : Int), .int .i64 (o : Int), .bool false, B 0, B 0, B 0, B 0, S data] 34 ∧ Below w.heap.size w W3) := Lib.hid ⟨hr3, R2.out.2.grown g3 R2.out.2.size (fun k e => by have := (H2.out.1.lt k e).1; omega)⟩
       have x33 : W3.cell? ⟨w.heap.size, 3, none⟩ = some (.bool false) := cell_of_row W3 _ 3 _ _ (0, 0) hr3
       have x34 : W3.cell? ⟨w.heap.size, 4, none⟩ = some (B 0) := cell_of_row W3 _ 4 _ _ (0, 0) hr3
       have x35 : W3.cell? ⟨w.heap.size, 5, none⟩ = some (B 0) := cell_of_row W3 _ 5 _ _ (0, 0) hr3
       have x36 : W3.cell? ⟨w.heap.size, 6, none⟩ = some (B 0) := cell_of_row W3 _ 6 _ _ (0, 0) hr3
       have x37 : W3.cell? ⟨w.heap.size, 7, none⟩ = some (B 0) := cell_of_row W3 _ 7 _ _ (0, 0) hr3
       have x38 : W3.cell? ⟨w.heap.size, 8, none⟩ = some (S data) := cell_of_row W3 _ 8 _ _ (0, 0) hr3
       clear o3 g3 hr3)
  obtain ⟨LL, hLL⟩ : ∃ x, x = ([UInt8.ofNat A] ++ [UInt8.ofNat MN]) := ⟨_, rfl⟩
  obtain ⟨MK, hMK⟩ : ∃ x, x = maskN ⟨0, 0, 0, 0⟩ 0 data := ⟨_, rfl⟩
  have HL : Hid (bytesV ⟨true, (r : Int), (o : Int), false, ⟨0, 0, 0, 0⟩, data⟩ = .tuple #[S (LL ++ MK), .int .i64 0]) := Lib.hid (by rw [HV.out, hLL, hMK]; simp)
  have hadd : binOp .add 9 (S LL) (S MK) = pure (S (LL ++ MK)) := S_add 9 LL MK (by have := HN.out; rw [hLL, hMK, mask_len]; simp only [List.length_append, List.length_cons, List.length_nil]; omega)
  have HM : Hid (∀ w, Calls Try.prog 20 #[.agg #[B 0, B 0, B 0, B 0], .int .i64 0, S data] w fun e w' => e = .returned (S MK) ∧ Below w.heap.size w w') := Lib.hid (by rw [hMK]; exact HC.out)
  have hS : ∀ wx, Below W3.heap.size W3 wx → ((wx.cell? ⟨w.heap.size, 4, none⟩ = some (B 0) ∧ wx.cell? ⟨w.heap.size, 5, none⟩ = some (B 0) ∧ wx.cell? ⟨w.heap.size, 6, none⟩ = some (B 0) ∧ wx.cell? ⟨w.heap.size, 7, none⟩ = some (B 0) ∧ wx.cell? ⟨w.heap.size, 8, none⟩ = some (S data)) ∧ (convert 48 9 V3).run Try.prog wx = .ok (S LL) wx) := fun wx hb => by
    have hrow := R3.out.1.below hb R3.out.1.lt
    exact ⟨⟨cell_of_row wx _ 4 _ _ (0, 0) hrow, cell_of_row wx _ 5 _ _ (0, 0) hrow, cell_of_row wx _ 6 _ _ (0, 0) hrow, cell_of_row wx _ 7 _ _ (0, 0) hrow, cell_of_row wx _ 8 _ _ (0, 0) hrow⟩, by rw [hLL]; exact owb_text (H3.out.1.below hb)⟩
  have HS := Lib.hid hS
  obtain ⟨Wq, hWq⟩ : ∃ Wq, Wq = W3.drew := ⟨_, rfl⟩
  have hBq : Below W3.heap.size W3 Wq := by rw [hWq]; exact ⟨rfl, rfl, rfl, Nat.le_refl _, fun _ _ => rfl⟩
  have HSQ := Lib.hid (hS Wq hBq)
  have HBQ := Lib.hid hBq
  clear hS hBq hLL hMK
  refine wp_region_noPanic ?_
  refine wp_region_held_drew (S := fun wx => ((wx.cell? ⟨w.heap.size, 4, none⟩ = some (B 0) ∧ wx.cell? ⟨w.heap.size, 5, none⟩ = some (B 0) ∧ wx.cell? ⟨w.heap.size, 6, none⟩ = some (B 0) ∧ wx.cell? ⟨w.heap.size, 7, none⟩ = some (B 0) ∧ wx.cell? ⟨w.heap.size, 8, none⟩ = some (S data)) ∧ (convert 48 9 V3).run Try.prog wx = .ok (S LL) wx)) (by kernel_rfl) (by rw [← hWq]; exact HSQ.out) (fun _ => ?_)
  rw [← hWq]
  clear hWq
  refine take_at (i := 0) (d := some 133) (v := V3) rfl (by kernel_rfl) (by kernel_rfl) (by kernel_rfl) (fun _ _ _ h => h) (fun oi ho => ?_) HSQ.out ?_
  · obtain rfl := Option.some.inj ho
    exact Or.inl ⟨by rfl, fun wx hSw => by obtain ⟨⟨hu4, hu5, hu6, hu7, hu8⟩, hcx⟩ := hSw; go_simp⟩
  simp only [Act.put, List.setIfInBounds_toArray, List.set_cons_zero, List.set_cons_succ]
  refine take_at (i := 1) (d := some 134) (v := S LL) rfl (by kernel_rfl) (by kernel_rfl) (by kernel_rfl) (fun _ _ _ h => h) (fun oi ho => ?_) HSQ.out ?_
  · obtain rfl := Option.some.inj ho
    exact Or.inl ⟨by rfl, fun wx hSw => by obtain ⟨⟨hu4, hu5, hu6, hu7, hu8⟩, hcx⟩ := hSw; go_simp⟩
  simp only [Act.put, List.setIfInBounds_toArray, List.set_cons_zero, List.set_cons_succ]
  refine take_at (i := 2) (d := some 135) (v := .pointer (some ⟨w.heap.size, 4, none⟩)) rfl (by kernel_rfl) (by kernel_rfl) (by kernel_rfl) (fun _ _ _ h => h) (fun oi ho => ?_) HSQ.out ?_
  · obtain rfl := Option.some.inj ho
    exact Or.inl ⟨by rfl, fun wx hSw => by obtain ⟨⟨hu4, hu5, hu6, hu7, hu8⟩, hcx⟩ := hSw; go_simp⟩
  simp only [Act.put, List.setIfInBounds_toArray, List.set_cons_zero, List.set_cons_succ]
  refine take_at (i := 3) (d := some 136) (v := .agg #[B 0, B 0, B 0, B 0]) rfl (by kernel_rfl) (by kernel_rfl) (by kernel_rfl) (fun _ _ _ h => h) (fun oi ho => ?_) HSQ.out ?_
  · obtain rfl := Option.some.inj ho
    exact Or.inl ⟨by rfl, fun wx hSw => by obtain ⟨⟨hu4, hu5, hu6, hu7, hu8⟩, hcx⟩ := hSw; go_simp⟩
  simp only [Act.put, List.setIfInBounds_toArray, List.set_cons_zero, List.set_cons_succ]
  refine take_at (i := 4) (d := some 137) (v := .pointer (some ⟨w.heap.size, 8, none⟩)) rfl (by kernel_rfl) (by kernel_rfl) (by kernel_rfl) (fun _ _ _ h => h) (fun oi ho => ?_) HSQ.out ?_
  · obtain rfl := Option.some.inj ho
    exact Or.inl ⟨by rfl, fun wx hSw => by obtain ⟨⟨hu4, hu5, hu6, hu7, hu8⟩, hcx⟩ := hSw; go_simp⟩
  simp only [Act.put, List.setIfInBounds_toArray, List.set_cons_zero, List.set_cons_succ]
  refine take_at (i := 5) (d := some 138) (v := S data) rfl (by kernel_rfl) (by kernel_rfl) (by kernel_rfl) (fun _ _ _ h => h) (fun oi ho => ?_) HSQ.out ?_
  · obtain rfl := Option.some.inj ho
    exact Or.inl ⟨by rfl, fun wx hSw => by obtain ⟨⟨hu4, hu5, hu6, hu7, hu8⟩, hcx⟩ := hSw; go_simp⟩
  simp only [Act.put, List.setIfInBounds_toArray, List.set_cons_zero, List.set_cons_succ]
  refine ready_call (i := 6) (d := some 139) (f := 20) (args := #[.agg #[B 0, B 0, B 0, B 0], .int .i64 0, S data]) rfl (by kernel_rfl) (fun oi ho => ?_) ?_
  · obtain rfl := Option.some.inj ho
    exact ⟨by rfl, by go_simp⟩
  refine (HM.out Wq).mono ?_
  rintro e Wz ⟨rfl, hBz⟩
  have hBy := HBQ.out.trans (hBz.mono HBQ.out.size)
  have HSZ := Lib.hid (HS.out Wz hBy)
  have HE := Lib.hid (R3.out.2.trans (hBy.mono R3.out.2.size))
  clear hBz hBy
  refine ⟨_, rfl, HSZ.out, ?_⟩
  simp only [Act.put, List.setIfInBounds_toArray, List.set_cons_zero, List.set_cons_succ]
  refine take_at (i := 7) (d := some 140) (v := S (LL ++ MK)) rfl (by kernel_rfl) (by kernel_rfl) (by kernel_rfl) (fun _ _ _ h => h) (fun oi ho => ?_) HSZ.out ?_
  · obtain rfl := Option.some.inj ho
    exact Or.inl ⟨by rfl, fun wx hSw => by obtain ⟨⟨hu4, hu5, hu6, hu7, hu8⟩, hcx⟩ := hSw; go_simp⟩
  simp only [Act.put, List.setIfInBounds_toArray, List.set_cons_zero, List.set_cons_succ]
  refine take_at (i := 8) (d := some 2) (v := S (LL ++ MK)) rfl (by kernel_rfl) (by kernel_rfl) (by kernel_rfl) (fun _ _ _ h => h) (fun oi ho => ?_) HSZ.out ?_
  · obtain rfl := Option.some.inj ho
    exact Or.inl ⟨by rfl, fun wx hSw => by obtain ⟨⟨hu4, hu5, hu6, hu7, hu8⟩, hcx⟩ := hSw; go_simp⟩
  simp only [Act.put, List.setIfInBounds_toArray, List.set_cons_zero, List.set_cons_succ]
  refine take_at (i := 9) (d := some 3) (v := .int .i64 0) rfl (by kernel_rfl) (by kernel_rfl) (by kernel_rfl) (fun _ _ _ h => h) (fun oi ho => ?_) HSZ.out ?_
  · obtain rfl := Option.some.inj ho
    exact Or.inl ⟨by rfl, fun wx hSw => by obtain ⟨⟨hu4, hu5, hu6, hu7, hu8⟩, hcx⟩ := hSw; go_simp⟩
  simp only [Act.put, List.setIfInBounds_toArray, List.set_cons_zero, List.set_cons_succ]
  refine wpAnyH_done (by kernel_rfl) ?_ _
  refine NoPanic.normal ?_
  try simp only [Act.put]
  go_wp2
  go_ret2
  exact ⟨by rw [HL.out]; rfl, HE.out⟩
set_option maxRecDepth 100000 in
set_option maxHeartbeats 2000000 in
theorem bytes15_1nm (f : Frm) (w : World) (hf : f.fin = false) (hm : f.masked = true) (h : okFr f = true) (hl : f.data.length ≤ 125) : Calls Try.prog 16 #[frV f] w fun e w' => e = .returned (bytesV f) ∧ Below w.heap.size w w' := by
  obtain ⟨h1, h2, h3, h4, h5⟩ := okFr_parts h
  have hv : bytesV f = .tuple #[S (firstB f :: (lenB 128 f.data.length ++ keyB f) ++ maskN f.key 0 f.data), .int .i64 0] := by
    unfold bytesV bytesF headB; rw [if_pos h, if_pos h, hm]; rfl
  obtain ⟨r, hr⟩ : ∃ r : Nat, f.rsv = (r : Int) := ⟨f.rsv.toNat, by omega⟩
  obtain ⟨o, ho⟩ : ∃ o : Nat, f.op = (o : Int) := ⟨f.op.toNat, by omega⟩
  obtain ⟨A0, hA0⟩ : ∃ A : Nat, A = 16 * r + o := ⟨_, rfl⟩
  obtain ⟨A, hA⟩ : ∃ A : Nat, A = A0 + 0 := ⟨_, rfl⟩
  have hfb : firstB f = UInt8.ofNat A := by unfold firstB; rw [hf, hr, ho, Int.toNat_natCast, Int.toNat_natCast, hA, hA0]; congr 1; simp only [finN, Bool.false_eq_true, if_false]; omega
  have hkb : keyB f = [f.key.k0, f.key.k1, f.key.k2, f.key.k3] := by unfold keyB; rw [hm]; rfl
  rw [hfb, hkb] at hv
  have HC := Lib.hid (fun w => mask15_any f.key 0 f.data w (by omega))
  have w1 : IntKind.i64.wrap (16 * (r : Int)) = 16 * (r : Int) := by rw [IntKind.wrap_i64]; omega
  have w2 : IntKind.i64.wrap (16 * (r : Int) + (o : Int)) = (A0 : Int) := by rw [IntKind.wrap_i64]; omega
  have w3 : IntKind.i64.wrap ((A0 : Int) + 128) = ((A0 + 128 : Nat) : Int) := by rw [IntKind.wrap_i64]; omega
  have hcv : ∀ w, (convert 3 5 (.int .i64 (A : Int))).run Try.prog w = .ok (B (UInt8.ofNat A)) w := conv_num Try.underlying5 Try.underlying3 A
  have hlN := run_len_S (P := Try.prog) Try.underlying9 3 f.data
  obtain ⟨N, hN⟩ : ∃ N, N = f.data.length := ⟨_, rfl⟩
  rw [← hN] at hlN hl hv
  obtain ⟨MN, hMN⟩ : ∃ a, a = 128 + N := ⟨_, rfl⟩
  have w4 : IntKind.i64.wrap (128 + (N : Int)) = (MN : Int) := by rw [IntKind.wrap_i64]; omega
  have hcN : ∀ w, (convert 3 5 (.int .i64 (MN : Int))).run Try.prog w = .ok (B (UInt8.ofNat MN)) w := conv_num Try.underlying5 Try.underlying3 MN
  have g5 : decide ((N : Int) ≤ 125) = true := decide_eq_true (by omega)
  have hlen : lenB 128 N = [UInt8.ofNat MN] := by unfold lenB; rw [if_pos (by omega), hMN]
  rw [hlen] at hv
  clear hlen hMN
  obtain ⟨fin, rsv, op, m, ⟨k0, k1, k2, k3⟩, data⟩ := f
  dsimp only at *
  subst hf hm hr ho
  have e1 : decide ((r : Int) < 0) = false := decide_eq_false (by omega)
  have e2 : decide ((7 : Int) < (r : Int)) = false := decide_eq_false (by omega)
  have e3 : decide ((o : Int) < 0) = false := decide_eq_false (by omega)
  have e4 : decide ((15 : Int) < (o : Int)) = false := decide_eq_false (by omega)
  have e2' : decide ((r : Int) > 7) = false := decide_eq_false (by omega)
  have e4' : decide ((o : Int) > 15) = false := decide_eq_false (by omega)
  obtain rfl : A = A0 := hA
  clear w3 hA0 h1 h2 h3 h4
  clear hfb hkb
  clear h5 h
  obtain ⟨W1, hW1⟩ : ∃ W, W = w.alloc (.cells #[.bool false, .int .i64 (r : Int), .int .i64 (o : Int), .bool true, B k0, B k1, B k2, B k3, S data] 34) := ⟨_, rfl⟩
  obtain ⟨W2, hW2⟩ : ∃ W, W = W1.alloc (.cells #[B (UInt8.ofNat A)] 5) := ⟨_, rfl⟩
  have hs1 : W1.heap.size = w.heap.size + 1 := by rw [hW1, alloc_size]
  have hs2 : W2.heap.size = w.heap.size + 2 := by rw [hW2, alloc_size, hs1]
  have H2 : Hid (OwB (w.heap.size + 1) (.slice (some ⟨w.heap.size + 1, 0, none⟩) 1 1) [UInt8.ofNat A] W2 ∧ w.heap.size + 1 ≤ W2.heap.size) := Lib.hid ⟨by rw [hW2, ← hs1]; exact owb_new rfl rfl (by simp) _ (Nat.le_refl _), by omega⟩
  have R2 : Hid (Row W2 w.heap.size #[.bool false, .int .i64 (r : Int), .int .i64 (o : Int), .bool true, B k0, B k1, B k2, B k3, S data] 34 ∧ Below w.heap.size w W2) := Lib.hid ⟨by rw [hW2, hW1]; exact (row_new _ _ _).alloc _, by rw [hW2, hW1]; exact ((Below.refl _ _).alloc (Nat.le_refl _) _).alloc (by rw [alloc_size]; omega) _⟩
  have HS2 := Lib.hid hs2
  have HV := Lib.hid hv
  have HN := Lib.hid hN
  rw [hW1] at hW2
  clear hW1 hs1 hs2 hv hN W1
  unfold frV frC
  dsimp only at *
  go_enter Try.func16, Try.ntmps16
  go_wp2_with first
    | (at_builtin; refine wpList_addB rfl (.tmp 74) (.tmp 79) rfl (w.heap.size + 1) W2 (.slice (some ⟨w.heap.size + 1, 0, none⟩) 1 1) rfl ([UInt8.ofNat A]) ([UInt8.ofNat MN]) H2.out.1 (#[B (UInt8.ofNat MN)]) rfl (by rw [hW2]) 1 rfl (w.heap.size + 2) (HS2.out) rfl (by simp) H2.out.2 ?_; intro V3 W3 o3 g3
       have hr3 : Row W3 w.heap.size #[.bool false, .int .i64 (r : Int), .int .i64 (o : Int), .bool true, B k0, B k1, B k2, B k3, S data] 34 := row_grown R2.out.1 g3 (fun e => by have := (H2.out.1.lt _ e.symm).1; omega)
       have H3 : Hid (OwB (w.heap.size + 1) V3 ([UInt8.ofNat A] ++ [UInt8.ofNat MN]) W3 ∧ w.heap.size + 1 ≤ W3.heap.size) := Lib.hid ⟨o3, Nat.le_trans H2.out.2 g3.size⟩
       have R3 : Hid (Row W3 w.heap.size #[.bool false, .int .i64 (r : Int), .int .i64 (o : Int), .bool true, B k0, B k1, B k2, B k3, S data] 34 ∧ Below w.heap.size w W3) := Lib.hid ⟨hr3, R2.out.2.grown g3 R2.out.2.size (fun k e => by have := (H2.out.1.lt k e).1; omega)⟩
       have x33 : W3.cell? ⟨w.heap.size, 3, none⟩ = some (.bool true) := cell_of_row W3 _ 3 _ _ (0, 0) hr3
       have x34 : W3.cell? ⟨w.heap.size, 4, none⟩ = some (B k0) := cell_of_row W3 _ 4 _ _ (0, 0) hr3
       have x35 : W3.cell? ⟨w.heap.size, 5, none⟩ = some (B k1) := cell_of_row W3 _ 5 _ _ (0, 0) hr3
       have x36 : W3.cell? ⟨w.heap.size, 6, none⟩ = some (B k2) := cell_of_row W3 _ 6 _ _ (0, 0) hr3
       have x37 : W3.cell? ⟨w.heap.size, 7, none⟩ = some (B k3) := cell_of_row W3 _ 7 _ _ (0, 0) hr3
       have x38 : W3.cell? ⟨w.heap.size, 8, none⟩ = some (S data) := cell_of_row W3 _ 8 _ _ (0, 0) hr3
       clear o3 g3 hr3)
    | (at_builtin; refine wpList_addB rfl (.tmp 118) (.tmp 131) rfl (w.heap.size + 1) W3 (V3) rfl (([UInt8.ofNat A] ++ [UInt8.ofNat MN])) ([k0, k1, k2, k3]) H3.out.1 (#[B k0, B k1, B k2, B k3]) rfl rfl 4 rfl (W3.heap.size) (rfl) rfl (by simp) H3.out.2 ?_; intro V4 W4 o4 g4
       have hr4 : Row W4 w.heap.size #[.bool false, .int .i64 (r : Int), .int .i64 (o : Int), .bool true, B k0, B k1, B k2, B k3, S data] 34 := row_grown R3.out.1 g4 (fun e => by have := (H3.out.1.lt _ e.symm).1; omega)
       have H4 : Hid (OwB (w.heap.size + 1) V4 (([UInt8.ofNat A] ++ [UInt8.ofNat MN]) ++ [k0, k1, k2, k3]) W4 ∧ w.heap.size + 1 ≤ W4.heap.size) := Lib.hid ⟨o4, Nat.le_trans H3.out.2 g4.size⟩
       have R4 : Hid (Row W4 w.heap.size #[.bool false, .int .i64 (r : Int), .int .i64 (o : Int), .bool true, B k0, B k1, B k2, B k3, S data] 34 ∧ Below w.heap.size w W4) := Lib.hid ⟨hr4, R3.out.2.grown g4 R3.out.2.size (fun k e => by have := (H3.out.1.lt k e).1; omega)⟩
       have x43 : W4.cell? ⟨w.heap.size, 3, none⟩ = some (.bool true) := cell_of_row W4 _ 3 _ _ (0, 0) hr4
       have x44 : W4.cell? ⟨w.heap.size, 4, none⟩ = some (B k0) := cell_of_row W4 _ 4 _ _ (0, 0) hr4
       have x45 : W4.cell? ⟨w.heap.size, 5, none⟩ = some (B k1) := cell_of_row W4 _ 5 _ _ (0, 0) hr4
       have x46 : W4.cell? ⟨w.heap.size, 6, none⟩ = some (B k2) := cell_of_row W4 _ 6 _ _ (0, 0) hr4
       have x47 : W4.cell? ⟨w.heap.size, 7, none⟩ = some (B k3) := cell_of_row W4 _ 7 _ _ (0, 0) hr4
       have x48 : W4.cell? ⟨w.heap.size, 8, none⟩ = some (S data) := cell_of_row W4 _ 8 _ _ (0, 0) hr4
       clear o4 g4 hr4)
  obtain ⟨LL, hLL⟩ : ∃ x, x = (([UInt8.ofNat A] ++ [UInt8.ofNat MN]) ++ [k0, k1, k2, k3]) := ⟨_, rfl⟩
  obtain ⟨MK, hMK⟩ : ∃ x, x = maskN ⟨k0, k1, k2, k3⟩ 0 data := ⟨_, rfl⟩
  have HL : Hid (bytesV ⟨false, (r : Int), (o : Int), true, ⟨k0, k1, k2, k3⟩, data⟩ = .tuple #[S (LL ++ MK), .int .i64 0]) := Lib.hid (by rw [HV.out, hLL, hMK]; simp)
  have hadd : binOp .add 9 (S LL) (S MK) = pure (S (LL ++ MK)) := S_add 9 LL MK (by have := HN.out; rw [hLL, hMK, mask_len]; simp only [List.length_append, List.length_cons, List.length_nil]; omega)
  have HM : Hid (∀ w, Calls Try.prog 20 #[.agg #[B k0, B k1, B k2, B k3], .int .i64 0, S data] w fun e w' => e = .returned (S MK) ∧ Below w.heap.size w w') := Lib.hid (by rw [hMK]; exact HC.out)
  have hS : ∀ wx, Below W4.heap.size W4 wx → ((wx.cell? ⟨w.heap.size, 4, none⟩ = some (B k0) ∧ wx.cell? ⟨w.heap.size, 5, none⟩ = some (B k1) ∧ wx.cell? ⟨w.heap.size, 6, none⟩ = some (B k2) ∧ wx.cell? ⟨w.heap.size, 7, none⟩ = some (B k3) ∧ wx.cell? ⟨w.heap.size, 8, none⟩ = some (S data)) ∧ (convert 48 9 V4).run Try.prog wx = .ok (S LL) wx) := fun wx hb => by
    have hrow := R4.out.1.below hb R4.out.1.lt
    exact ⟨⟨cell_of_row wx _ 4 _ _ (0, 0) hrow, cell_of_row wx _ 5 _ _ (0, 0) hrow, cell_of_row wx _ 6 _ _ (0, 0) hrow, cell_of_row wx _ 7 _ _ (0, 0) hrow, cell_of_row wx _ 8 _ _ (0, 0) hrow⟩, by rw [hLL]; exact owb_text (H4.out.1.below hb)⟩
  have HS := Lib.hid hS
  obtain ⟨Wq, hWq⟩ : ∃ Wq, Wq = W4.drew := ⟨_, rfl⟩
  have hBq : Below W4.heap.size W4 Wq := by rw [hWq]; exact ⟨rfl, rfl, rfl, Nat.le_refl _, fun _ _ => rfl⟩
  have HSQ := Lib.hid (hS Wq hBq)
  have HBQ := Lib.hid hBq
  clear hS hBq hLL hMK
  refine wp_region_noPanic ?_
  refine wp_region_held_drew (S := fun wx => ((wx.cell? ⟨w.heap.size, 4, none⟩ = some (B k0) ∧ wx.cell? ⟨w.heap.size, 5, none⟩ = some (B k1) ∧ wx.cell? ⟨w.heap.size, 6, none⟩ = some (B k2) ∧ wx.cell? ⟨w.heap.size, 7, none⟩ = some (B k3) ∧ wx.cell? ⟨w.heap.size, 8, none⟩ = some (S data)) ∧ (convert 48 9 V4).run Try.prog wx = .ok (S LL) wx)) (by kernel_rfl) (by rw [← hWq]; exact HSQ.out) (fun _ => ?_)
  rw [← hWq]
  clear hWq
  refine take_at (i := 0) (d := some 133) (v := V4) rfl (by kernel_rfl) (by kernel_rfl) (by kernel_rfl) (fun _ _ _ h => h) (fun oi ho => ?_) HSQ.out ?_
  · obtain rfl := Option.some.inj ho
    exact Or.inl ⟨by rfl, fun wx hSw => by obtain ⟨⟨hu4, hu5, hu6, hu7, hu8⟩, hcx⟩ := hSw; go_simp⟩
  simp only [Act.put, List.setIfInBounds_toArray, List.set_cons_zero, List.set_cons_succ]
  refine take_at (i := 1) (d := some 134) (v := S LL) rfl (by kernel_rfl) (by kernel_rfl) (by kernel_rfl) (fun _ _ _ h => h) (fun oi ho => ?_) HSQ.out ?_
  · obtain rfl := Option.some.inj ho
    exact Or.inl ⟨by rfl, fun wx hSw => by obtain ⟨⟨hu4, hu5, hu6, hu7, hu8⟩, hcx⟩ := hSw; go_simp⟩
  simp only [Act.put, List.setIfInBounds_toArray, List.set_cons_zero, List.set_cons_succ]
  refine take_at (i := 2) (d := some 135) (v := .pointer (some ⟨w.heap.size, 4, none⟩)) rfl (by kernel_rfl) (by kernel_rfl) (by kernel_rfl) (fun _ _ _ h => h) (fun oi ho => ?_) HSQ.out ?_
  · obtain rfl := Option.some.inj ho
    exact Or.inl ⟨by rfl, fun wx hSw => by obtain ⟨⟨hu4, hu5, hu6, hu7, hu8⟩, hcx⟩ := hSw; go_simp⟩
  simp only [Act.put, List.setIfInBounds_toArray, List.set_cons_zero, List.set_cons_succ]
  refine take_at (i := 3) (d := some 136) (v := .agg #[B k0, B k1, B k2, B k3]) rfl (by kernel_rfl) (by kernel_rfl) (by kernel_rfl) (fun _ _ _ h => h) (fun oi ho => ?_) HSQ.out ?_
  · obtain rfl := Option.some.inj ho
    exact Or.inl ⟨by rfl, fun wx hSw => by obtain ⟨⟨hu4, hu5, hu6, hu7, hu8⟩, hcx⟩ := hSw; go_simp⟩
  simp only [Act.put, List.setIfInBounds_toArray, List.set_cons_zero, List.set_cons_succ]
  refine take_at (i := 4) (d := some 137) (v := .pointer (some ⟨w.heap.size, 8, none⟩)) rfl (by kernel_rfl) (by kernel_rfl) (by kernel_rfl) (fun _ _ _ h => h) (fun oi ho => ?_) HSQ.out ?_
  · obtain rfl := Option.some.inj ho
    exact Or.inl ⟨by rfl, fun wx hSw => by obtain ⟨⟨hu4, hu5, hu6, hu7, hu8⟩, hcx⟩ := hSw; go_simp⟩
  simp only [Act.put, List.setIfInBounds_toArray, List.set_cons_zero, List.set_cons_succ]
  refine take_at (i := 5) (d := some 138) (v := S data) rfl (by kernel_rfl) (by kernel_rfl) (by kernel_rfl) (fun _ _ _ h => h) (fun oi ho => ?_) HSQ.out ?_
  · obtain rfl := Option.some.inj ho
    exact Or.inl ⟨by rfl, fun wx hSw => by obtain ⟨⟨hu4, hu5, hu6, hu7, hu8⟩, hcx⟩ := hSw; go_simp⟩
  simp only [Act.put, List.setIfInBounds_toArray, List.set_cons_zero, List.set_cons_succ]
  refine ready_call (i := 6) (d := some 139) (f := 20) (args := #[.agg #[B k0, B k1, B k2, B k3], .int .i64 0, S data]) rfl (by kernel_rfl) (fun oi ho => ?_) ?_
  · obtain rfl := Option.some.inj ho
    exact ⟨by rfl, by go_simp⟩
  refine (HM.out Wq).mono ?_
  rintro e Wz ⟨rfl, hBz⟩
  have hBy := HBQ.out.trans (hBz.mono HBQ.out.size)
  have HSZ := Lib.hid (HS.out Wz hBy)
  have HE := Lib.hid (R4.out.2.trans (hBy.mono R4.out.2.size))
  clear hBz hBy
  refine ⟨_, rfl, HSZ.out, ?_⟩
  simp only [Act.put, List.setIfInBounds_toArray, List.set_cons_zero, List.set_cons_succ]
  refine take_at (i := 7) (d := some 140) (v := S (LL ++ MK)) rfl (by kernel_rfl) (by kernel_rfl) (by kernel_rfl) (fun _ _ _ h => h) (fun oi ho => ?_) HSZ.out ?_
  · obtain rfl := Option.some.inj ho
    exact Or.inl ⟨by rfl, fun wx hSw => by obtain ⟨⟨hu4, hu5, hu6, hu7, hu8⟩, hcx⟩ := hSw; go_simp⟩
  simp only [Act.put, List.setIfInBounds_toArray, List.set_cons_zero, List.set_cons_succ]
  refine take_at (i := 8) (d := some 2) (v := S (LL ++ MK)) rfl (by kernel_rfl) (by kernel_rfl) (by kernel_rfl) (fun _ _ _ h => h) (fun oi ho => ?_) HSZ.out ?_
  · obtain rfl := Option.some.inj ho
    exact Or.inl ⟨by rfl, fun wx hSw => by obtain ⟨⟨hu4, hu5, hu6, hu7, hu8⟩, hcx⟩ := hSw; go_simp⟩
  simp only [Act.put, List.setIfInBounds_toArray, List.set_cons_zero, List.set_cons_succ]
  refine take_at (i := 9) (d := some 3) (v := .int .i64 0) rfl (by kernel_rfl) (by kernel_rfl) (by kernel_rfl) (fun _ _ _ h => h) (fun oi ho => ?_) HSZ.out ?_
  · obtain rfl := Option.some.inj ho
    exact Or.inl ⟨by rfl, fun wx hSw => by obtain ⟨⟨hu4, hu5, hu6, hu7, hu8⟩, hcx⟩ := hSw; go_simp⟩
  simp only [Act.put, List.setIfInBounds_toArray, List.set_cons_zero, List.set_cons_succ]
  refine wpAnyH_done (by kernel_rfl) ?_ _
  refine NoPanic.normal ?_
  try simp only [Act.put]
  go_wp2
  go_ret2
  exact ⟨by rw [HL.out]; rfl, HE.out⟩
set_option maxRecDepth 100000 in
set_option maxHeartbeats 2000000 in
theorem bytes15_1nu (f : Frm) (w : World) (hf : f.fin = false) (hm : f.masked = false) (h : okFr f = true) (hl : f.data.length ≤ 125) : Calls Try.prog 16 #[frV f] w fun e w' => e = .returned (bytesV f) ∧ Below w.heap.size w w' := by
  obtain ⟨h1, h2, h3, h4, h5⟩ := okFr_parts h
  have hv : bytesV f = .tuple #[S (firstB f :: (lenB 0 f.data.length ++ keyB f) ++ maskN f.key 0 f.data), .int .i64 0] := by
    unfold bytesV bytesF headB; rw [if_pos h, if_pos h, hm]; rfl
  obtain ⟨r, hr⟩ : ∃ r : Nat, f.rsv = (r : Int) := ⟨f.rsv.toNat, by omega⟩
  obtain ⟨o, ho⟩ : ∃ o : Nat, f.op = (o : Int) := ⟨f.op.toNat, by omega⟩
  obtain ⟨A0, hA0⟩ : ∃ A : Nat, A = 16 * r + o := ⟨_, rfl⟩
  obtain ⟨A, hA⟩ : ∃ A : Nat, A = A0 + 0 := ⟨_, rfl⟩
  have hfb : firstB f = UInt8.ofNat A := by unfold firstB; rw [hf, hr, ho, Int.toNat_natCast, Int.toNat_natCast, hA, hA0]; congr 1; simp only [finN, Bool.false_eq_true, if_false]; omega
  have hkb : keyB f = [] := by unfold keyB; rw [hm]; rfl
  rw [hfb, hkb] at hv
  have HC := Lib.hid (fun w => mask15_any f.key 0 f.data w (by omega))
  have w1 : IntKind.i64.wrap (16 * (r : Int)) = 16 * (r : Int) := by rw [IntKind.wrap_i64]; omega
  have w2 : IntKind.i64.wrap (16 * (r : Int) + (o : Int)) = (A0 : Int) := by rw [IntKind.wrap_i64]; omega
  have w3 : IntKind.i64.wrap ((A0 : Int) + 128) = ((A0 + 128 : Nat) : Int) := by rw [IntKind.wrap_i64]; omega
  have hcv : ∀ w, (convert 3 5 (.int .i64 (A : Int))).run Try.prog w = .ok (B (UInt8.ofNat A)) w := conv_num Try.underlying5 Try.underlying3 A
  have hlN := run_len_S (P := Try.prog) Try.underlying9 3 f.data
  obtain ⟨N, hN⟩ : ∃ N, N = f.data.length := ⟨_, rfl⟩
  rw [← hN] at hlN hl hv
  obtain ⟨MN, hMN⟩ : ∃ a, a = 0 + N := ⟨_, rfl⟩
  have w4 : IntKind.i64.wrap ((N : Int)) = (MN : Int) := by rw [IntKind.wrap_i64]; omega
  have hcN : ∀ w, (convert 3 5 (.int .i64 (MN : Int))).run Try.prog w = .ok (B (UInt8.ofNat MN)) w := conv_num Try.underlying5 Try.underlying3 MN
  have g5 : decide ((N : Int) ≤ 125) = true := decide_eq_true (by omega)
  have hlen : lenB 0 N = [UInt8.ofNat MN] := by unfold lenB; rw [if_pos (by omega), hMN]
  rw [hlen] at hv
  clear hlen hMN
  obtain ⟨fin, rsv, op, m, ⟨k0, k1, k2, k3⟩, data⟩ := f
  dsimp only at *
  subst hf hm hr ho
  have e1 : decide ((r : Int) < 0) = false := decide_eq_false (by omega)
  have e2 : decide ((7 : Int) < (r : Int)) = false := decide_eq_false (by omega)
  have e3 : decide ((o : Int) < 0) = false := decide_eq_false (by omega)
  have e4 : decide ((15 : Int) < (o : Int)) = false := decide_eq_false (by omega)
  have e2' : decide ((r : Int) > 7) = false := decide_eq_false (by omega)
  have e4' : decide ((o : Int) > 15) = false := decide_eq_false (by omega)
  obtain rfl : A = A0 := hA
  clear w3 hA0 h1 h2 h3 h4
  have hk0 := h5 rfl
  obtain ⟨rfl, rfl, rfl, rfl⟩ : k0 = 0 ∧ k1 = 0 ∧ k2 = 0 ∧ k3 = 0 := by injection hk0 with a1 a2 a3 a4; exact ⟨a1, a2, a3, a4⟩
  have z0 : binOp .neq 5 (B 0) (.int .u8 0) = pure (.bool false) := rfl
  clear hk0 hfb hkb
  clear h5 h
  obtain ⟨W1, hW1⟩ : ∃ W, W = w.alloc (.cells #[.bool false, .int .i64 (r : Int), .int .i64 (o : Int), .bool false, B 0, B 0, B 0, B 0, S data] 34) := ⟨_, rfl⟩
  obtain ⟨W2, hW2⟩ : ∃ W, W = W1.alloc (.cells #[B (UInt8.ofNat A)] 5) := ⟨_, rfl⟩
  have hs1 : W1.heap.size = w.heap.size + 1 := by rw [hW1, alloc_size]
  have hs2 : W2.heap.size = w.heap.size + 2 := by rw [hW2, alloc_size, hs1]
  have H2 : Hid (OwB (w.heap.size + 1) (.slice (some ⟨w.heap.size + 1, 0, none⟩) 1 1) [UInt8.ofNat A] W2 ∧ w.heap.size + 1 ≤ W2.heap.size) := Lib.hid ⟨by rw [hW2, ← hs1]; exact owb_new rfl rfl (by simp) _ (Nat.le_refl _), by omega⟩
  have R2 : Hid (Row W2 w.heap.size #[.bool false, .int .i64 (r : Int), .int .i64 (o : Int), .bool false, B 0, B 0, B 0, B 0, S data] 34 ∧ Below w.heap.size w W2) := Lib.hid ⟨by rw [hW2, hW1]; exact (row_new _ _ _).alloc _, by rw [hW2, hW1]; exact ((Below.refl _ _).alloc (Nat.le_refl _) _).alloc (by rw [alloc_size]; omega) _⟩
  have HS2 := Lib.hid hs2
  have HV := Lib.hid hv
  have HN := Lib.hid hN
  rw [hW1] at hW2
  clear hW1 hs1 hs2 hv hN W1
  unfold frV frC
  dsimp only at *
  go_enter Try.func16, Try.ntmps16
  go_wp2_with first
    | (at_builtin; refine wpList_addB rfl (.tmp 74) (.tmp 79) rfl (w.heap.size + 1) W2 (.slice (some ⟨w.heap.size + 1, 0, none⟩) 1 1) rfl ([UInt8.ofNat A]) ([UInt8.ofNat MN]) H2.out.1 (#[B (UInt8.ofNat MN)]) rfl (by rw [hW2]) 1 rfl (w.heap.size + 2) (HS2.out) rfl (by simp) H2.out.2 ?_; intro V3 W3 o3 g3
       have hr3 : Row W3 w.heap.size #[.bool false, .int .i64 (r : Int), .int .i64 (o : Int), .bool false, B 0, B 0, B 0, B 0, S data] 34 := row_grown R2.out.1 g3 (fun e => by have := (H2.out.1.lt _ e.symm).1; omega)
       have H3 : Hid (OwB (w.heap.size + 1) V3 ([UInt8.ofNat A] ++ [UInt8.ofNat MN]) W3 ∧ w.heap.size + 1 ≤ W3.heap.size) := Lib.hid ⟨o3, Nat.le_trans H2.out.2 g3.size⟩
       have R3 : Hid (Row W3 w.heap.size #[.bool false, .int .i64 (r : Int), .int .i64 (o : Int), .bool false, B 0, B 0, B 0, B 0, S data] 34 ∧ Below w.heap.size w W3) := Lib.hid ⟨hr3, R2.out.2.grown g3 R2.out.2.size (fun k e => by have := (H2.out.1.lt k e).1; omega)⟩
       have x33 : W3.cell? ⟨w.heap.size, 3, none⟩ = some (.bool false) := cell_of_row W3 _ 3 _ _ (0, 0) hr3
       have x34 : W3.cell? ⟨w.heap.size, 4, none⟩ = some (B 0) := cell_of_row W3 _ 4 _ _ (0, 0) hr3
       have x35 : W3.cell? ⟨w.heap.size, 5, none⟩ = some (B 0) := cell_of_row W3 _ 5 _ _ (0, 0) hr3
       have x36 : W3.cell? ⟨w.heap.size, 6, none⟩ = some (B 0) := cell_of_row W3 _ 6 _ _ (0, 0) hr3
       have x37 : W3.cell? ⟨w.heap.size, 7, none⟩ = some (B 0) := cell_of_row W3 _ 7 _ _ (0, 0) hr3
       have x38 : W3.cell? ⟨w.heap.size, 8, none⟩ = some (S data) := cell_of_row W3 _ 8 _ _ (0, 0) hr3
       clear o3 g3 hr3)
  obtain ⟨LL, hLL⟩ : ∃ x, x = ([UInt8.ofNat A] ++ [UInt8.ofNat MN]) := ⟨_, rfl⟩
  obtain ⟨MK, hMK⟩ : ∃ x, x = maskN ⟨0, 0, 0, 0⟩ 0 data := ⟨_, rfl⟩
  have HL : Hid (bytesV ⟨false, (r : Int), (o : Int), false, ⟨0, 0, 0, 0⟩, data⟩ = .tuple #[S (LL ++ MK), .int .i64 0]) := Lib.hid (by rw [HV.out, hLL, hMK]; simp)
  have hadd : binOp .add 9 (S LL) (S MK) = pure (S (LL ++ MK)) := S_add 9 LL MK (by have := HN.out; rw [hLL, hMK, mask_len]; simp only [List.length_append, List.length_cons, List.length_nil]; omega)
  have HM : Hid (∀ w, Calls Try.prog 20 #[.agg #[B 0, B 0, B 0, B 0], .int .i64 0, S data] w fun e w' => e = .returned (S MK) ∧ Below w.heap.size w w') := Lib.hid (by rw [hMK]; exact HC.out)
  have hS : ∀ wx, Below W3.heap.size W3 wx → ((wx.cell? ⟨w.heap.size, 4, none⟩ = some (B 0) ∧ wx.cell? ⟨w.heap.size, 5, none⟩ = some (B 0) ∧ wx.cell? ⟨w.heap.size, 6, none⟩ = some (B 0) ∧ wx.cell? ⟨w.heap.size, 7, none⟩ = some (B 0) ∧ wx.cell? ⟨w.heap.size, 8, none⟩ = some (S data)) ∧ (convert 48 9 V3).run Try.prog wx = .ok (S LL) wx) := fun wx hb => by
    have hrow := R3.out.1.below hb R3.out.1.lt
    exact ⟨⟨cell_of_row wx _ 4 _ _ (0, 0) hrow, cell_of_row wx _ 5 _ _ (0, 0) hrow, cell_of_row wx _ 6 _ _ (0, 0) hrow, cell_of_row wx _ 7 _ _ (0, 0) hrow, cell_of_row wx _ 8 _ _ (0, 0) hrow⟩, by rw [hLL]; exact owb_text (H3.out.1.below hb)⟩
  have HS := Lib.hid hS
  obtain ⟨Wq, hWq⟩ : ∃ Wq, Wq = W3.drew := ⟨_, rfl⟩
  have hBq : Below W3.heap.size W3 Wq := by rw [hWq]; exact ⟨rfl, rfl, rfl, Nat.le_refl _, fun _ _ => rfl⟩
  have HSQ := Lib.hid (hS Wq hBq)
  have HBQ := Lib.hid hBq
  clear hS hBq hLL hMK
  refine wp_region_noPanic ?_
  refine wp_region_held_drew (S := fun wx => ((wx.cell? ⟨w.heap.size, 4, none⟩ = some (B 0) ∧ wx.cell? ⟨w.heap.size, 5, none⟩ = some (B 0) ∧ wx.cell? ⟨w.heap.size, 6, none⟩ = some (B 0) ∧ wx.cell? ⟨w.heap.size, 7, none⟩ = some (B 0) ∧ wx.cell? ⟨w.heap.size, 8, none⟩ = some (S data)) ∧ (convert 48 9 V3).run Try.prog wx = .ok (S LL) wx)) (by kernel_rfl) (by rw [← hWq]; exact HSQ.out) (fun _ => ?_)
  rw [← hWq]
  clear hWq
  refine take_at (i := 0) (d := some 133) (v := V3) rfl (by kernel_rfl) (by kernel_rfl) (by kernel_rfl) (fun _ _ _ h => h) (fun oi ho => ?_) HSQ.out ?_
  · obtain rfl := Option.some.inj ho
    exact Or.inl ⟨by rfl, fun wx hSw => by obtain ⟨⟨hu4, hu5, hu6, hu7, hu8⟩, hcx⟩ := hSw; go_simp⟩
  simp only [Act.put, List.setIfInBounds_toArray, List.set_cons_zero, List.set_cons_succ]
  refine take_at (i := 1) (d := some 134) (v := S LL) rfl (by kernel_rfl) (by kernel_rfl) (by kernel_rfl) (fun _ _ _ h => h) (fun oi ho => ?_) HSQ.out ?_
  · obtain rfl := Option.some.inj ho
    exact Or.inl ⟨by rfl, fun wx hSw => by obtain ⟨⟨hu4, hu5, hu6, hu7, hu8⟩, hcx⟩ := hSw; go_simp⟩
  simp only [Act.put, List.setIfInBounds_toArray, List.set_cons_zero, List.set_cons_succ]
  refine take_at (i := 2) (d := some 135) (v := .pointer (some ⟨w.heap.size, 4, none⟩)) rfl (by kernel_rfl) (by kernel_rfl) (by kernel_rfl) (fun _ _ _ h => h) (fun oi ho => ?_) HSQ.out ?_
  · obtain rfl := Option.some.inj ho
    exact Or.inl ⟨by rfl, fun wx hSw => by obtain ⟨⟨hu4, hu5, hu6, hu7, hu8⟩, hcx⟩ := hSw; go_simp⟩
  simp only [Act.put, List.setIfInBounds_toArray, List.set_cons_zero, List.set_cons_succ]
  refine take_at (i := 3) (d := some 136) (v := .agg #[B 0, B 0, B 0, B 0]) rfl (by kernel_rfl) (by kernel_rfl) (by kernel_rfl) (fun _ _ _ h => h) (fun oi ho => ?_) HSQ.out ?_
  · obtain rfl := Option.some.inj ho
    exact Or.inl ⟨by rfl, fun wx hSw => by obtain ⟨⟨hu4, hu5, hu6, hu7, hu8⟩, hcx⟩ := hSw; go_simp⟩
  simp only [Act.put, List.setIfInBounds_toArray, List.set_cons_zero, List.set_cons_succ]
  refine take_at (i := 4) (d := some 137) (v := .pointer (some ⟨w.heap.size, 8, none⟩)) rfl (by kernel_rfl) (by kernel_rfl) (by kernel_rfl) (fun _ _ _ h => h) (fun oi ho => ?_) HSQ.out ?_
  · obtain rfl := Option.some.inj ho
    exact Or.inl ⟨by rfl, fun wx hSw => by obtain ⟨⟨hu4, hu5, hu6, hu7, hu8⟩, hcx⟩ := hSw; go_simp⟩
  simp only [Act.put, List.setIfInBounds_toArray, List.set_cons_zero, List.set_cons_succ]
  refine take_at (i := 5) (d := some 138) (v := S data) rfl (by kernel_rfl) (by kernel_rfl) (by kernel_rfl) (fun _ _ _ h => h) (fun oi ho => ?_) HSQ.out ?_
  · obtain rfl := Option.some.inj ho
    exact Or.inl ⟨by rfl, fun wx hSw => by obtain ⟨⟨hu4, hu5, hu6, hu7, hu8⟩, hcx⟩ := hSw; go_simp⟩
  simp only [Act.put, List.setIfInBounds_toArray, List.set_cons_zero, List.set_cons_succ]
  refine ready_call (i := 6) (d := some 139) (f := 20) (args := #[.agg #[B 0, B 0, B 0, B 0], .int .i64 0, S data]) rfl (by kernel_rfl) (fun oi ho => ?_) ?_
  · obtain rfl := Option.some.inj ho
    exact ⟨by rfl, by go_simp⟩
  refine (HM.out Wq).mono ?_
  rintro e Wz ⟨rfl, hBz⟩
  have hBy := HBQ.out.trans (hBz.mono HBQ.out.size)
  have HSZ := Lib.hid (HS.out Wz hBy)
  have HE := Lib.hid (R3.out.2.trans (hBy.mono R3.out.2.size))
  clear hBz hBy
  refine ⟨_, rfl, HSZ.out, ?_⟩
  simp only [Act.put, List.setIfInBounds_toArray, List.set_cons_zero, List.set_cons_succ]
  refine take_at (i := 7) (d := some 140) (v := S (LL ++ MK)) rfl (by kernel_rfl) (by kernel_rfl) (by kernel_rfl) (fun _ _ _ h => h) (fun oi ho => ?_) HSZ.out ?_
  · obtain rfl := Option.some.inj ho
    exact Or.inl ⟨by rfl, fun wx hSw => by obtain ⟨⟨hu4, hu5, hu6, hu7, hu8⟩, hcx⟩ := hSw; go_simp⟩
  simp only [Act.put, List.setIfInBounds_toArray, List.set_cons_zero, List.set_cons_succ]
  refine take_at (i := 8) (d := some 2) (v := S (LL ++ MK)) rfl (by kernel_rfl) (by kernel_rfl) (by kernel_rfl) (fun _ _ _ h => h) (fun oi ho => ?_) HSZ.out ?_
  · obtain rfl := Option.some.inj ho
    exact Or.inl ⟨by rfl, fun wx hSw => by obtain ⟨⟨hu4, hu5, hu6, hu7, hu8⟩, hcx⟩ := hSw; go_simp⟩
  simp only [Act.put, List.setIfInBounds_toArray, List.set_cons_zero, List.set_cons_succ]
  refine take_at (i := 9) (d := some 3) (v := .int .i64 0) rfl (by kernel_rfl) (by kernel_rfl) (by kernel_rfl) (fun _ _ _ h => h) (fun oi ho => ?_) HSZ.out ?_
  · obtain rfl := Option.some.inj ho
    exact Or.inl ⟨by rfl, fun wx hSw => by obtain ⟨⟨hu4, hu5, hu6, hu7, hu8⟩, hcx⟩ := hSw; go_simp⟩
  simp only [Act.put, List.setIfInBounds_toArray, List.set_cons_zero, List.set_cons_succ]
  refine wpAnyH_done (by kernel_rfl) ?_ _
  refine NoPanic.normal ?_
  try simp only [Act.put]
  go_wp2
  go_ret2
  exact ⟨by rw [HL.out]; rfl, HE.out⟩
end Go.Proofs.Ytepamoikoinhdaa
