/- The document's Bytes (stage 15) walked: a frame that may be, its number in nine bytes. (mked.py writes it.) -/
import Derived.Test.YtepamoikoinhdaaEc
import Derived.Shelf.RegionOpen
namespace Go.Proofs.Ytepamoikoinhdaa
open Go.RowKit
attribute [local go_sem] store_one B_match B_store S_match S_store B_xor nguard_BN eguard_BN

theorem be_get : ∀ (k n i : Nat), i < k → (be k n)[i]? = some (UInt8.ofNat (n / 256 ^ (k - 1 - i)))
  | 0, _, _, h => absurd h (Nat.not_lt_zero _)
  | k + 1, n, i, h => by
    have hw : ∀ m, UInt8.ofNat (m % 256) = UInt8.ofNat m := fun m => by apply UInt8.toNat_inj.1; rw [UInt8.toNat_ofNat', UInt8.toNat_ofNat']; omega
    rw [be]
    by_cases hi : i < k
    · rw [List.getElem?_append_left (by rw [be_len]; exact hi), be_get k (n / 256) i hi, Nat.div_div_eq_div_mul, ← Nat.pow_succ', show (k - 1 - i).succ = k + 1 - 1 - i by omega]
    · obtain rfl : i = k := by omega
      rw [List.getElem?_append_right (by rw [be_len]; exact Nat.le_refl _), be_len, Nat.sub_self]
      simp [hw]
set_option maxRecDepth 100000 in
set_option maxHeartbeats 2000000 in
theorem bytes15_3fm (f : Frm) (w : World) (hf : f.fin = true) (hm : f.masked = true) (h : okFr f = true) (hl : 65535 < f.data.length) (hl2 : f.data.length ≤ 100000) : Calls Try.prog 16 #[frV f] w fun e w' => e = .returned (bytesV f) ∧ Below w.heap.size w w' := by
  obtain ⟨h1, h2, h3, h4, h5⟩ := okFr_parts h
  have hv : bytesV f = .tuple #[S (firstB f :: (lenB 128 f.data.length ++ keyB f) ++ maskN f.key 0 f.data), .int .i64 0] := by
    unfold bytesV bytesF headB; rw [if_pos h, if_pos h, hm]; rfl
  obtain ⟨r, hr⟩ : ∃ r : Nat, f.rsv = (r : Int) := ⟨f.rsv.toNat, by omega⟩
  obtain ⟨o, ho⟩ : ∃ o : Nat, f.op = (o : Int) := ⟨f.op.toNat, by omega⟩
  obtain ⟨A0, hA0⟩ : ∃ A : Nat, A = 16 * r + o := ⟨_, rfl⟩
  obtain ⟨A, hA⟩ : ∃ A : Nat, A = A0 + 128 := ⟨_, rfl⟩
  have hfb : firstB f = UInt8.ofNat A := by unfold firstB; rw [hf, hr, ho, Int.toNat_natCast, Int.toNat_natCast, hA, hA0]; congr 1; simp only [finN, if_true]; omega
  have hkb : keyB f = [f.key.k0, f.key.k1, f.key.k2, f.key.k3] := by unfold keyB; rw [hm]; rfl
  rw [hfb, hkb] at hv
  have HC := Lib.hid (fun w => mask15_any f.key 0 f.data w (by omega))
  have w1 : IntKind.i64.wrap (16 * (r : Int)) = 16 * (r : Int) := by rw [IntKind.wrap_i64]; omega
  have w2 : IntKind.i64.wrap (16 * (r : Int) + (o : Int)) = (A0 : Int) := by rw [IntKind.wrap_i64]; omega
  have w3 : IntKind.i64.wrap ((A0 : Int) + 128) = ((A0 + 128 : Nat) : Int) := by rw [IntKind.wrap_i64]; omega
  have hcv : ∀ w, (convert 3 5 (.int .i64 (A : Int))).run Try.prog w = .ok (B (UInt8.ofNat A)) w := conv_num Try.underlying5 Try.underlying3 A
  have hlN := run_len_S (P := Try.prog) Try.underlying9 3 f.data
  obtain ⟨N, hN⟩ : ∃ N, N = f.data.length := ⟨_, rfl⟩
  rw [← hN] at hlN hl hv hl2
  have g5 : decide ((N : Int) ≤ 125) = false := decide_eq_false (by omega)
  have g6 : decide ((N : Int) ≤ 65535) = false := decide_eq_false (by omega)
  have hlen : lenB 128 N = 255 :: be 8 N := by
    unfold lenB; rw [if_neg (by omega), if_neg (by omega)]; rfl
  rw [hlen] at hv
  clear hlen
  obtain ⟨fin, rsv, op, m, ⟨k0, k1, k2, k3⟩, data⟩ := f
  dsimp only at *
  subst hf hm hr ho
  have e1 : decide ((r : Int) < 0) = false := decide_eq_false (by omega)
  have e2 : decide ((7 : Int) < (r : Int)) = false := decide_eq_false (by omega)
  have e3 : decide ((o : Int) < 0) = false := decide_eq_false (by omega)
  have e4 : decide ((15 : Int) < (o : Int)) = false := decide_eq_false (by omega)
  have e2' : decide ((r : Int) > 7) = false := decide_eq_false (by omega)
  have e4' : decide ((o : Int) > 15) = false := decide_eq_false (by omega)
  rw [← hA] at w3
  clear hA hA0 h1 h2 h3 h4
  clear hfb hkb
  clear h5 h
  obtain ⟨W1, hW1⟩ : ∃ W, W = w.alloc (.cells #[.bool true, .int .i64 (r : Int), .int .i64 (o : Int), .bool true, B k0, B k1, B k2, B k3, S data] 34) := ⟨_, rfl⟩
  obtain ⟨W2, hW2⟩ : ∃ W, W = W1.alloc (.cells #[B (UInt8.ofNat A)] 5) := ⟨_, rfl⟩
  have hs1 : W1.heap.size = w.heap.size + 1 := by rw [hW1, alloc_size]
  have hs2 : W2.heap.size = w.heap.size + 2 := by rw [hW2, alloc_size, hs1]
  have H2 : Hid (OwB (w.heap.size + 1) (.slice (some ⟨w.heap.size + 1, 0, none⟩) 1 1) [UInt8.ofNat A] W2 ∧ w.heap.size + 1 ≤ W2.heap.size) := Lib.hid ⟨by rw [hW2, ← hs1]; exact owb_new rfl rfl (by simp) _ (Nat.le_refl _), by omega⟩
  have R2 : Hid (Row W2 w.heap.size #[.bool true, .int .i64 (r : Int), .int .i64 (o : Int), .bool true, B k0, B k1, B k2, B k3, S data] 34 ∧ Below w.heap.size w W2) := Lib.hid ⟨by rw [hW2, hW1]; exact (row_new _ _ _).alloc _, by rw [hW2, hW1]; exact ((Below.refl _ _).alloc (Nat.le_refl _) _).alloc (by rw [alloc_size]; omega) _⟩
  have HS2 := Lib.hid hs2
  have HV := Lib.hid hv
  have HN := Lib.hid hN
  rw [hW1] at hW2
  clear hW1 hs1 hs2 hv hN W1
  unfold frV frC
  dsimp only at *
  go_enter Try.func16, Try.ntmps16
  go_wp2_with first
    | (at_builtin; refine wpList_addB rfl (.tmp 95) (.tmp 99) rfl (w.heap.size + 1) W2 (.slice (some ⟨w.heap.size + 1, 0, none⟩) 1 1) rfl ([UInt8.ofNat A]) ([255]) H2.out.1 (#[.int .u8 255]) rfl (by rw [hW2]) 1 rfl (w.heap.size + 2) (HS2.out) rfl (by first | (simp; done) | (simp [be_len]; done)) H2.out.2 ?_; intro V3 W3 o3 g3
       have hr3 : Row W3 w.heap.size #[.bool true, .int .i64 (r : Int), .int .i64 (o : Int), .bool true, B k0, B k1, B k2, B k3, S data] 34 := row_grown R2.out.1 g3 (fun e => by have := (H2.out.1.lt _ e.symm).1; omega)
       have H3 : Hid (OwB (w.heap.size + 1) V3 ([UInt8.ofNat A] ++ [255]) W3 ∧ w.heap.size + 1 ≤ W3.heap.size) := Lib.hid ⟨o3, Nat.le_trans H2.out.2 g3.size⟩
       have R3 : Hid (Row W3 w.heap.size #[.bool true, .int .i64 (r : Int), .int .i64 (o : Int), .bool true, B k0, B k1, B k2, B k3, S data] 34 ∧ Below w.heap.size w W3) := Lib.hid ⟨hr3, R2.out.2.grown g3 R2.out.2.size (fun k e => by have := (H2.out.1.lt k e).1; omega)⟩
       have x33 : W3.cell? ⟨w.heap.size, 3, none⟩ = some (.bool true) := cell_of_row W3 _ 3 _ _ (0, 0) hr3
       have x34 : W3.cell? ⟨w.heap.size, 4, none⟩ = some (B k0) := cell_of_row W3 _ 4 _ _ (0, 0) hr3
       have x35 : W3.cell? ⟨w.heap.size, 5, none⟩ = some (B k1) := cell_of_row W3 _ 5 _ _ (0, 0) hr3
       have x36 : W3.cell? ⟨w.heap.size, 6, none⟩ = some (B k2) := cell_of_row W3 _ 6 _ _ (0, 0) hr3
       have x37 : W3.cell? ⟨w.heap.size, 7, none⟩ = some (B k3) := cell_of_row W3 _ 7 _ _ (0, 0) hr3
       have x38 : W3.cell? ⟨w.heap.size, 8, none⟩ = some (S data) := cell_of_row W3 _ 8 _ _ (0, 0) hr3
       clear o3 g3 hr3)
  go_loopw [7, 8] (fun vv iv wr => ∃ i : Nat, i ≤ 8 ∧ iv = .int .i64 (i : Int) ∧ Hid ((OwB (w.heap.size + 1) vv ([UInt8.ofNat A] ++ [255] ++ (be 8 N).take i) wr ∧ w.heap.size + 1 ≤ wr.heap.size) ∧ Row wr w.heap.size #[.bool true, .int .i64 (r : Int), .int .i64 (o : Int), .bool true, B k0, B k1, B k2, B k3, S data] 34 ∧ Below w.heap.size w wr)) (fun _ iv _ => 8 - (intOf iv).toNat)
  case atStart => exact ⟨0, by omega, rfl, Lib.hid ⟨by rw [List.take_zero, List.append_nil]; exact H3.out, R3.out⟩⟩
  case round =>
    obtain ⟨i, hi, rfl, HI⟩ := hrel
    have H5 := Lib.hid HI.out.1
    have R5 := Lib.hid HI.out.2
    have hrr := HI.out.2.1
    have y3 : wr.cell? ⟨w.heap.size, 3, none⟩ = some (.bool true) := cell_of_row wr _ 3 _ _ (0, 0) hrr
    have y4 : wr.cell? ⟨w.heap.size, 4, none⟩ = some (B k0) := cell_of_row wr _ 4 _ _ (0, 0) hrr
    have y5 : wr.cell? ⟨w.heap.size, 5, none⟩ = some (B k1) := cell_of_row wr _ 5 _ _ (0, 0) hrr
    have y6 : wr.cell? ⟨w.heap.size, 6, none⟩ = some (B k2) := cell_of_row wr _ 6 _ _ (0, 0) hrr
    have y7 : wr.cell? ⟨w.heap.size, 7, none⟩ = some (B k3) := cell_of_row wr _ 7 _ _ (0, 0) hrr
    have y8 : wr.cell? ⟨w.heap.size, 8, none⟩ = some (S data) := cell_of_row wr _ 8 _ _ (0, 0) hrr

    by_cases hlt : i < 8
    · have g7 : decide ((i : Int) < 8) = true := decide_eq_true (by omega)
      obtain ⟨SH, hSH⟩ : ∃ s, s = 56 - 8 * i := ⟨_, rfl⟩
      obtain ⟨D, hD⟩ : ∃ d, d = N / 2 ^ SH := ⟨_, rfl⟩
      have hd : (be 8 N)[i]? = some (UInt8.ofNat D) := by
        rw [be_get 8 N i hlt, hD, hSH, show 56 - 8 * i = 8 * (8 - 1 - i) by omega, Nat.pow_mul]
      have htk : (be 8 N).take (i + 1) = (be 8 N).take i ++ [UInt8.ofNat D] := by rw [List.take_add_one, hd]; rfl
      have v1 : IntKind.i64.wrap (8 * (i : Int)) = 8 * (i : Int) := by rw [IntKind.wrap_i64]; omega
      have v2 : IntKind.i64.wrap (56 - 8 * (i : Int)) = (SH : Int) := by rw [IntKind.wrap_i64]; omega
      have v3 : IntKind.i64.wrap ((i : Int) + 1) = (i : Int) + 1 := by rw [IntKind.wrap_i64]; omega
      have c1 : ∀ w, (convert 3 23 (.int .i64 (N : Int))).run Try.prog w = .ok (.int .u64 (N : Int)) w := conv_iu Try.underlying23 Try.underlying3 N (by omega)
      have c2 : ∀ w, (convert 3 56 (.int .i64 (SH : Int))).run Try.prog w = .ok (.int .u64 (SH : Int)) w := conv_iu Try.underlying56 Try.underlying3 SH (by omega)
      have c3 : ∀ w, (convert 23 5 (.int .u64 (D : Int))).run Try.prog w = .ok (B (UInt8.ofNat D)) w := conv_ub Try.underlying5 Try.underlying23 D
      have c4 : binOp .shr 23 (.int .u64 (N : Int)) (.int .u64 (SH : Int)) = pure (.int .u64 (D : Int)) := by rw [shr64 _ N SH (by omega), hD]
      have HT := Lib.hid htk
      have HQ : Hid (2 + i ≤ 10) := Lib.hid (by omega)
      clear htk hd hD hSH hrr
      go_wp2_with first
        | (at_builtin; refine wpList_addB rfl (.tmp 105) (.tmp 114) rfl (w.heap.size + 1) wr (u7) rfl (([UInt8.ofNat A] ++ [255] ++ (be 8 N).take i)) ([UInt8.ofNat D]) H5.out.1 (#[B (UInt8.ofNat D)]) rfl rfl 1 rfl (wr.heap.size) (rfl) rfl (by simp [be_len]; omega) H5.out.2 ?_; intro V6 W6 o6 g6
           have hr6 : Row W6 w.heap.size #[.bool true, .int .i64 (r : Int), .int .i64 (o : Int), .bool true, B k0, B k1, B k2, B k3, S data] 34 := row_grown R5.out.1 g6 (fun e => by have := (H5.out.1.lt _ e.symm).1; omega)
           have H6 : Hid (OwB (w.heap.size + 1) V6 (([UInt8.ofNat A] ++ [255] ++ (be 8 N).take i) ++ [UInt8.ofNat D]) W6 ∧ w.heap.size + 1 ≤ W6.heap.size) := Lib.hid ⟨o6, Nat.le_trans H5.out.2 g6.size⟩
           have R6 : Hid (Row W6 w.heap.size #[.bool true, .int .i64 (r : Int), .int .i64 (o : Int), .bool true, B k0, B k1, B k2, B k3, S data] 34 ∧ Below w.heap.size w W6) := Lib.hid ⟨hr6, R5.out.2.grown g6 R5.out.2.size (fun k e => by have := (H5.out.1.lt k e).1; omega)⟩
           have x63 : W6.cell? ⟨w.heap.size, 3, none⟩ = some (.bool true) := cell_of_row W6 _ 3 _ _ (0, 0) hr6
           have x64 : W6.cell? ⟨w.heap.size, 4, none⟩ = some (B k0) := cell_of_row W6 _ 4 _ _ (0, 0) hr6
           have x65 : W6.cell? ⟨w.heap.size, 5, none⟩ = some (B k1) := cell_of_row W6 _ 5 _ _ (0, 0) hr6
           have x66 : W6.cell? ⟨w.heap.size, 6, none⟩ = some (B k2) := cell_of_row W6 _ 6 _ _ (0, 0) hr6
           have x67 : W6.cell? ⟨w.heap.size, 7, none⟩ = some (B k3) := cell_of_row W6 _ 7 _ _ (0, 0) hr6
           have x68 : W6.cell? ⟨w.heap.size, 8, none⟩ = some (S data) := cell_of_row W6 _ 8 _ _ (0, 0) hr6
           clear o6 g6 hr6)
      exact ⟨⟨i + 1, by omega, by go_num, Lib.hid ⟨by rw [HT.out, ← List.append_assoc]; exact H6.out, R6.out⟩⟩, by simp [intOf]; omega⟩
    · obtain rfl : i = 8 := by omega
      have g7 : decide (((8 : Nat) : Int) < 8) = false := rfl
      have H5 : Hid (OwB (w.heap.size + 1) u7 ([UInt8.ofNat A] ++ [255] ++ be 8 N) wr ∧ w.heap.size + 1 ≤ wr.heap.size) := Lib.hid ⟨by have := HI.out.1.1; rwa [List.take_of_length_le (by rw [be_len]; exact Nat.le_refl _)] at this, HI.out.1.2⟩
      clear HI hrr
      go_wp2_with first
        | (at_builtin; refine wpList_addB rfl (.tmp 118) (.tmp 131) rfl (w.heap.size + 1) wr (u7) rfl (([UInt8.ofNat A] ++ [255] ++ be 8 N)) ([k0, k1, k2, k3]) H5.out.1 (#[B k0, B k1, B k2, B k3]) rfl rfl 4 rfl (wr.heap.size) (rfl) rfl (by first | (simp; done) | (simp [be_len]; done)) H5.out.2 ?_; intro V6 W6 o6 g6
           have hr6 : Row W6 w.heap.size #[.bool true, .int .i64 (r : Int), .int .i64 (o : Int), .bool true, B k0, B k1, B k2, B k3, S data] 34 := row_grown R5.out.1 g6 (fun e => by have := (H5.out.1.lt _ e.symm).1; omega)
           have H6 : Hid (OwB (w.heap.size + 1) V6 (([UInt8.ofNat A] ++ [255] ++ be 8 N) ++ [k0, k1, k2, k3]) W6 ∧ w.heap.size + 1 ≤ W6.heap.size) := Lib.hid ⟨o6, Nat.le_trans H5.out.2 g6.size⟩
           have R6 : Hid (Row W6 w.heap.size #[.bool true, .int .i64 (r : Int), .int .i64 (o : Int), .bool true, B k0, B k1, B k2, B k3, S data] 34 ∧ Below w.heap.size w W6) := Lib.hid ⟨hr6, R5.out.2.grown g6 R5.out.2.size (fun k e => by have := (H5.out.1.lt k e).1; omega)⟩
           have x63 : W6.cell? ⟨w.heap.size, 3, none⟩ = some (.bool true) := cell_of_row W6 _ 3 _ _ (0, 0) hr6
           have x64 : W6.cell? ⟨w.heap.size, 4, none⟩ = some (B k0) := cell_of_row W6 _ 4 _ _ (0, 0) hr6
           have x65 : W6.cell? ⟨w.heap.size, 5, none⟩ = some (B k1) := cell_of_row W6 _ 5 _ _ (0, 0) hr6
           have x66 : W6.cell? ⟨w.heap.size, 6, none⟩ = some (B k2) := cell_of_row W6 _ 6 _ _ (0, 0) hr6
           have x67 : W6.cell? ⟨w.heap.size, 7, none⟩ = some (B k3) := cell_of_row W6 _ 7 _ _ (0, 0) hr6
           have x68 : W6.cell? ⟨w.heap.size, 8, none⟩ = some (S data) := cell_of_row W6 _ 8 _ _ (0, 0) hr6
           clear o6 g6 hr6)
      obtain ⟨LL, hLL⟩ : ∃ x, x = (([UInt8.ofNat A] ++ [255] ++ be 8 N) ++ [k0, k1, k2, k3]) := ⟨_, rfl⟩
      obtain ⟨MK, hMK⟩ : ∃ x, x = maskN ⟨k0, k1, k2, k3⟩ 0 data := ⟨_, rfl⟩
      have HL : Hid (bytesV ⟨true, (r : Int), (o : Int), true, ⟨k0, k1, k2, k3⟩, data⟩ = .tuple #[S (LL ++ MK), .int .i64 0]) := Lib.hid (by rw [HV.out, hLL, hMK]; simp)
      have hadd : binOp .add 9 (S LL) (S MK) = pure (S (LL ++ MK)) := S_add 9 LL MK (by have := HN.out; rw [hLL, hMK, mask_len]; simp only [List.length_append, List.length_cons, List.length_nil, be_len]; omega)
      have HM : Hid (∀ w, Calls Try.prog 20 #[.agg #[B k0, B k1, B k2, B k3], .int .i64 0, S data] w fun e w' => e = .returned (S MK) ∧ Below w.heap.size w w') := Lib.hid (by rw [hMK]; exact HC.out)
      have hS : ∀ wx, Below W6.heap.size W6 wx → ((wx.cell? ⟨w.heap.size, 4, none⟩ = some (B k0) ∧ wx.cell? ⟨w.heap.size, 5, none⟩ = some (B k1) ∧ wx.cell? ⟨w.heap.size, 6, none⟩ = some (B k2) ∧ wx.cell? ⟨w.heap.size, 7, none⟩ = some (B k3) ∧ wx.cell? ⟨w.heap.size, 8, none⟩ = some (S data)) ∧ (convert 48 9 V6).run Try.prog wx = .ok (S LL) wx) := fun wx hb => by
        have hrow := R6.out.1.below hb R6.out.1.lt
        exact ⟨⟨cell_of_row wx _ 4 _ _ (0, 0) hrow, cell_of_row wx _ 5 _ _ (0, 0) hrow, cell_of_row wx _ 6 _ _ (0, 0) hrow, cell_of_row wx _ 7 _ _ (0, 0) hrow, cell_of_row wx _ 8 _ _ (0, 0) hrow⟩, by rw [hLL]; exact owb_text (H6.out.1.below hb)⟩
      have HS := Lib.hid hS
      obtain ⟨Wq, hWq⟩ : ∃ Wq, Wq = W6.drew := ⟨_, rfl⟩
      have hBq : Below W6.heap.size W6 Wq := by rw [hWq]; exact ⟨rfl, rfl, rfl, Nat.le_refl _, fun _ _ => rfl⟩
      have HSQ := Lib.hid (hS Wq hBq)
      have HBQ := Lib.hid hBq
      clear hS hBq hLL hMK
      refine wp_region_noPanic ?_
      refine wp_region_held_drew (S := fun wx => ((wx.cell? ⟨w.heap.size, 4, none⟩ = some (B k0) ∧ wx.cell? ⟨w.heap.size, 5, none⟩ = some (B k1) ∧ wx.cell? ⟨w.heap.size, 6, none⟩ = some (B k2) ∧ wx.cell? ⟨w.heap.size, 7, none⟩ = some (B k3) ∧ wx.cell? ⟨w.heap.size, 8, none⟩ = some (S data)) ∧ (convert 48 9 V6).run Try.prog wx = .ok (S LL) wx)) (by kernel_rfl) (by rw [← hWq]; exact HSQ.out) (fun _ => ?_)
      rw [← hWq]
      clear hWq
      refine take_at (i := 0) (d := some 133) (v := V6) rfl (by kernel_rfl) (by kernel_rfl) (by kernel_rfl) (fun _ _ _ h => h) (fun oi ho => ?_) HSQ.out ?_
      · obtain rfl := Option.some.inj ho
        exact Or.inl ⟨by rfl, fun wx hSw => by obtain ⟨⟨hu4, hu5, hu6, hu7, hu8⟩, hcx⟩ := hSw; go_simp⟩
      simp only [Act.put, List.setIfInBounds_toArray, List.set_cons_zero, List.set_cons_succ]
      refine take_at (i := 1) (d := some 134) (v := S LL) rfl (by kernel_rfl) (by kernel_rfl) (by kernel_rfl) (fun _ _ _ h => h) (fun oi ho => ?_) HSQ.out ?_
      · obtain rfl := Option.some.inj ho
        exact Or.inl ⟨by rfl, fun wx hSw => by obtain ⟨⟨hu4, hu5, hu6, hu7, hu8⟩, hcx⟩ := hSw; go_simp⟩
      simp only [Act.put, List.setIfInBounds_toArray, List.set_cons_zero, List.set_cons_succ]
      refine take_at (i := 2) (d := some 135) (v := .pointer (some ⟨w.heap.size, 4, none⟩)) rfl (by kernel_rfl) (by kernel_rfl) (by kernel_rfl) (fun _ _ _ h => h) (fun oi ho => ?_) HSQ.out ?_
      · obtain rfl := Option.some.inj ho
        exact Or.inl ⟨by rfl, fun wx hSw => by obtain ⟨⟨hu4, hu5, hu6, hu7, hu8⟩, hcx⟩ := hSw; go_simp⟩
      simp only [Act.put, List.setIfInBounds_toArray, List.set_cons_zero, List.set_cons_succ]
      refine take_at (i := 3) (d := some 136) (v := .agg #[B k0, B k1, B k2, B k3]) rfl (by kernel_rfl) (by kernel_rfl) (by kernel_rfl) (fun _ _ _ h => h) (fun oi ho => ?_) HSQ.out ?_
      · obtain rfl := Option.some.inj ho
        exact Or.inl ⟨by rfl, fun wx hSw => by obtain ⟨⟨hu4, hu5, hu6, hu7, hu8⟩, hcx⟩ := hSw; go_simp⟩
      simp only [Act.put, List.setIfInBounds_toArray, List.set_cons_zero, List.set_cons_succ]
      refine take_at (i := 4) (d := some 137) (v := .pointer (some ⟨w.heap.size, 8, none⟩)) rfl (by kernel_rfl) (by kernel_rfl) (by kernel_rfl) (fun _ _ _ h => h) (fun oi ho => ?_) HSQ.out ?_
      · obtain rfl := Option.some.inj ho
        exact Or.inl ⟨by rfl, fun wx hSw => by obtain ⟨⟨hu4, hu5, hu6, hu7, hu8⟩, hcx⟩ := hSw; go_simp⟩
      simp only [Act.put, List.setIfInBounds_toArray, List.set_cons_zero, List.set_cons_succ]
      refine take_at (i := 5) (d := some 138) (v := S data) rfl (by kernel_rfl) (by kernel_rfl) (by kernel_rfl) (fun _ _ _ h => h) (fun oi ho => ?_) HSQ.out ?_
      · obtain rfl := Option.some.inj ho
        exact Or.inl ⟨by rfl, fun wx hSw => by obtain ⟨⟨hu4, hu5, hu6, hu7, hu8⟩, hcx⟩ := hSw; go_simp⟩
      simp only [Act.put, List.setIfInBounds_toArray, List.set_cons_zero, List.set_cons_succ]
      refine ready_call (i := 6) (d := some 139) (f := 20) (args := #[.agg #[B k0, B k1, B k2, B k3], .int .i64 0, S data]) rfl (by kernel_rfl) (fun oi ho => ?_) ?_
      · obtain rfl := Option.some.inj ho
        exact ⟨by rfl, by go_simp⟩
      refine (HM.out Wq).mono ?_
      rintro e Wz ⟨rfl, hBz⟩
      have hBy := HBQ.out.trans (hBz.mono HBQ.out.size)
      have HSZ := Lib.hid (HS.out Wz hBy)
      have HE := Lib.hid (R6.out.2.trans (hBy.mono R6.out.2.size))
      clear hBz hBy
      refine ⟨_, rfl, HSZ.out, ?_⟩
      simp only [Act.put, List.setIfInBounds_toArray, List.set_cons_zero, List.set_cons_succ]
      refine take_at (i := 7) (d := some 140) (v := S (LL ++ MK)) rfl (by kernel_rfl) (by kernel_rfl) (by kernel_rfl) (fun _ _ _ h => h) (fun oi ho => ?_) HSZ.out ?_
      · obtain rfl := Option.some.inj ho
        exact Or.inl ⟨by rfl, fun wx hSw => by obtain ⟨⟨hu4, hu5, hu6, hu7, hu8⟩, hcx⟩ := hSw; go_simp⟩
      simp only [Act.put, List.setIfInBounds_toArray, List.set_cons_zero, List.set_cons_succ]
      refine take_at (i := 8) (d := some 2) (v := S (LL ++ MK)) rfl (by kernel_rfl) (by kernel_rfl) (by kernel_rfl) (fun _ _ _ h => h) (fun oi ho => ?_) HSZ.out ?_
      · obtain rfl := Option.some.inj ho
        exact Or.inl ⟨by rfl, fun wx hSw => by obtain ⟨⟨hu4, hu5, hu6, hu7, hu8⟩, hcx⟩ := hSw; go_simp⟩
      simp only [Act.put, List.setIfInBounds_toArray, List.set_cons_zero, List.set_cons_succ]
      refine take_at (i := 9) (d := some 3) (v := .int .i64 0) rfl (by kernel_rfl) (by kernel_rfl) (by kernel_rfl) (fun _ _ _ h => h) (fun oi ho => ?_) HSZ.out ?_
      · obtain rfl := Option.some.inj ho
        exact Or.inl ⟨by rfl, fun wx hSw => by obtain ⟨⟨hu4, hu5, hu6, hu7, hu8⟩, hcx⟩ := hSw; go_simp⟩
      simp only [Act.put, List.setIfInBounds_toArray, List.set_cons_zero, List.set_cons_succ]
      refine wpAnyH_done (by kernel_rfl) ?_ _
      refine NoPanic.normal ?_
      try simp only [Act.put]
      go_wp2
      go_ret2
      exact ⟨by rw [HL.out]; rfl, HE.out⟩
set_option maxRecDepth 100000 in
set_option maxHeartbeats 2000000 in
theorem bytes15_3fu (f : Frm) (w : World) (hf : f.fin = true) (hm : f.masked = false) (h : okFr f = true) (hl : 65535 < f.data.length) (hl2 : f.data.length ≤ 100000) : Calls Try.prog 16 #[frV f] w fun e w' => e = .returned (bytesV f) ∧ Below w.heap.size w w' := by
  obtain ⟨h1, h2, h3, h4, h5⟩ := okFr_parts h
  have hv : bytesV f = .tuple #[S (firstB f :: (lenB 0 f.data.length ++ keyB f) ++ maskN f.key 0 f.data), .int .i64 0] := by
    unfold bytesV bytesF headB; rw [if_pos h, if_pos h, hm]; rfl
  obtain ⟨r, hr⟩ : ∃ r : Nat, f.rsv = (r : Int) := ⟨f.rsv.toNat, by omega⟩
  obtain ⟨o, ho⟩ : ∃ o : Nat, f.op = (o : Int) := ⟨f.op.toNat, by omega⟩
  obtain ⟨A0, hA0⟩ : ∃ A : Nat, A = 16 * r + o := ⟨_, rfl⟩
  obtain ⟨A, hA⟩ : ∃ A : Nat, A = A0 + 128 := ⟨_, rfl⟩
  have hfb : firstB f = UInt8.ofNat A := by unfold firstB; rw [hf, hr, ho, Int.toNat_natCast, Int.toNat_natCast, hA, hA0]; congr 1; simp only [finN, if_true]; omega
  have hkb : keyB f = [] := by unfold keyB; rw [hm]; rfl
  rw [hfb, hkb] at hv
  have HC := Lib.hid (fun w => mask15_any f.key 0 f.data w (by omega))
  have w1 : IntKind.i64.wrap (16 * (r : Int)) = 16 * (r : Int) := by rw [IntKind.wrap_i64]; omega
  have w2 : IntKind.i64.wrap (16 * (r : Int) + (o : Int)) = (A0 : Int) := by rw [IntKind.wrap_i64]; omega
  have w3 : IntKind.i64.wrap ((A0 : Int) + 128) = ((A0 + 128 : Nat) : Int) := by rw [IntKind.wrap_i64]; omega
  have hcv : ∀ w, (convert 3 5 (.int .i64 (A : Int))).run Try.prog w = .ok (B (UInt8.ofNat A)) w := conv_num Try.underlying5 Try.underlying3 A
  have hlN := run_len_S (P := Try.prog) Try.underlying9 3 f.data
  obtain ⟨N, hN⟩ : ∃ N, N = f.data.length := ⟨_, rfl⟩
  rw [← hN] at hlN hl hv hl2
  have g5 : decide ((N : Int) ≤ 125) = false := decide_eq_false (by omega)
  have g6 : decide ((N : Int) ≤ 65535) = false := decide_eq_false (by omega)
  have hlen : lenB 0 N = 127 :: be 8 N := by
    unfold lenB; rw [if_neg (by omega), if_neg (by omega)]; rfl
  rw [hlen] at hv
  clear hlen
  obtain ⟨fin, rsv, op, m, ⟨k0, k1, k2, k3⟩, data⟩ := f
  dsimp only at *
  subst hf hm hr ho
  have e1 : decide ((r : Int) < 0) = false := decide_eq_false (by omega)
  have e2 : decide ((7 : Int) < (r : Int)) = false := decide_eq_false (by omega)
  have e3 : decide ((o : Int) < 0) = false := decide_eq_false (by omega)
  have e4 : decide ((15 : Int) < (o : Int)) = false := decide_eq_false (by omega)
  have e2' : decide ((r : Int) > 7) = false := decide_eq_false (by omega)
  have e4' : decide ((o : Int) > 15) = false := decide_eq_false (by omega)
  rw [← hA] at w3
  clear hA hA0 h1 h2 h3 h4
  have hk0 := h5 rfl
  obtain ⟨rfl, rfl, rfl, rfl⟩ : k0 = 0 ∧ k1 = 0 ∧ k2 = 0 ∧ k3 = 0 := by injection hk0 with a1 a2 a3 a4; exact ⟨a1, a2, a3, a4⟩
  have z0 : binOp .neq 5 (B 0) (.int .u8 0) = pure (.bool false) := rfl
  clear hk0 hfb hkb
  clear h5 h
  obtain ⟨W1, hW1⟩ : ∃ W, W = w.alloc (.cells #[.bool true, .int .i64 (r : Int), .int .i64 (o : Int), .bool false, B 0, B 0, B 0, B 0, S data] 34) := ⟨_, rfl⟩
  obtain ⟨W2, hW2⟩ : ∃ W, W = W1.alloc (.cells #[B (UInt8.ofNat A)] 5) := ⟨_, rfl⟩
  have hs1 : W1.heap.size = w.heap.size + 1 := by rw [hW1, alloc_size]
  have hs2 : W2.heap.size = w.heap.size + 2 := by rw [hW2, alloc_size, hs1]
  have H2 : Hid (OwB (w.heap.size + 1) (.slice (some ⟨w.heap.size + 1, 0, none⟩) 1 1) [UInt8.ofNat A] W2 ∧ w.heap.size + 1 ≤ W2.heap.size) := Lib.hid ⟨by rw [hW2, ← hs1]; exact owb_new rfl rfl (by simp) _ (Nat.le_refl _), by omega⟩
  have R2 : Hid (Row W2 w.heap.size #[.bool true, .int .i64 (r : Int), .int .i64 (o : Int), .bool false, B 0, B 0, B 0, B 0, S data] 34 ∧ Below w.heap.size w W2) := Lib.hid ⟨by rw [hW2, hW1]; exact (row_new _ _ _).alloc _, by rw [hW2, hW1]; exact ((Below.refl _ _).alloc (Nat.le_refl _) _).alloc (by rw [alloc_size]; omega) _⟩
  have HS2 := Lib.hid hs2
  have HV := Lib.hid hv
  have HN := Lib.hid hN
  rw [hW1] at hW2
  clear hW1 hs1 hs2 hv hN W1
  unfold frV frC
  dsimp only at *
  go_enter Try.func16, Try.ntmps16
  go_wp2_with first
    | (at_builtin; refine wpList_addB rfl (.tmp 95) (.tmp 99) rfl (w.heap.size + 1) W2 (.slice (some ⟨w.heap.size + 1, 0, none⟩) 1 1) rfl ([UInt8.ofNat A]) ([127]) H2.out.1 (#[.int .u8 127]) rfl (by rw [hW2]) 1 rfl (w.heap.size + 2) (HS2.out) rfl (by first | (simp; done) | (simp [be_len]; done)) H2.out.2 ?_; intro V3 W3 o3 g3
       have hr3 : Row W3 w.heap.size #[.bool true, .int .i64 (r : Int), .int .i64 (o : Int), .bool false, B 0, B 0, B 0, B 0, S data] 34 := row_grown R2.out.1 g3 (fun e => by have := (H2.out.1.lt _ e.symm).1; omega)
       have H3 : Hid (OwB (w.heap.size + 1) V3 ([UInt8.ofNat A] ++ [127]) W3 ∧ w.heap.size + 1 ≤ W3.heap.size) := Lib.hid ⟨o3, Nat.le_trans H2.out.2 g3.size⟩
       have R3 : Hid (Row W3 w.heap.size #[.bool true, .int .i64 (r : Int), .int .i64 (o : Int), .bool false, B 0, B 0, B 0, B 0, S data] 34 ∧ Below w.heap.size w W3) := Lib.hid ⟨hr3, R2.out.2.grown g3 R2.out.2.size (fun k e => by have := (H2.out.1.lt k e).1; omega)⟩
       have x33 : W3.cell? ⟨w.heap.size, 3, none⟩ = some (.bool false) := cell_of_row W3 _ 3 _ _ (0, 0) hr3
       have x34 : W3.cell? ⟨w.heap.size, 4, none⟩ = some (B 0) := cell_of_row W3 _ 4 _ _ (0, 0) hr3
       have x35 : W3.cell? ⟨w.heap.size, 5, none⟩ = some (B 0) := cell_of_row W3 _ 5 _ _ (0, 0) hr3
       have x36 : W3.cell? ⟨w.heap.size, 6, none⟩ = some (B 0) := cell_of_row W3 _ 6 _ _ (0, 0) hr3
       have x37 : W3.cell? ⟨w.heap.size, 7, none⟩ = some (B 0) := cell_of_row W3 _ 7 _ _ (0, 0) hr3
       have x38 : W3.cell? ⟨w.heap.size, 8, none⟩ = some (S data) := cell_of_row W3 _ 8 _ _ (0, 0) hr3
       clear o3 g3 hr3)
  go_loopw [7, 8] (fun vv iv wr => ∃ i : Nat, i ≤ 8 ∧ iv = .int .i64 (i : Int) ∧ Hid ((OwB (w.heap.size + 1) vv ([UInt8.ofNat A] ++ [127] ++ (be 8 N).take i) wr ∧ w.heap.size + 1 ≤ wr.heap.size) ∧ Row wr w.heap.size #[.bool true, .int .i64 (r : Int), .int .i64 (o : Int), .bool false, B 0, B 0, B 0, B 0, S data] 34 ∧ Below w.heap.size w wr)) (fun _ iv _ => 8 - (intOf iv).toNat)
  case atStart => exact ⟨0, by omega, rfl, Lib.hid ⟨by rw [List.take_zero, List.append_nil]; exact H3.out, R3.out⟩⟩
  case round =>
    obtain ⟨i, hi, rfl, HI⟩ := hrel
    have H5 := Lib.hid HI.out.1
    have R5 := Lib.hid HI.out.2
    have hrr := HI.out.2.1
    have y3 : wr.cell? ⟨w.heap.size, 3, none⟩ = some (.bool false) := cell_of_row wr _ 3 _ _ (0, 0) hrr
    have y4 : wr.cell? ⟨w.heap.size, 4, none⟩ = some (B 0) := cell_of_row wr _ 4 _ _ (0, 0) hrr
    have y5 : wr.cell? ⟨w.heap.size, 5, none⟩ = some (B 0) := cell_of_row wr _ 5 _ _ (0, 0) hrr
    have y6 : wr.cell? ⟨w.heap.size, 6, none⟩ = some (B 0) := cell_of_row wr _ 6 _ _ (0, 0) hrr
    have y7 : wr.cell? ⟨w.heap.size, 7, none⟩ = some (B 0) := cell_of_row wr _ 7 _ _ (0, 0) hrr
    have y8 : wr.cell? ⟨w.heap.size, 8, none⟩ = some (S data) := cell_of_row wr _ 8 _ _ (0, 0) hrr

    by_cases hlt : i < 8
    · have g7 : decide ((i : Int) < 8) = true := decide_eq_true (by omega)
      obtain ⟨SH, hSH⟩ : ∃ s, s = 56 - 8 * i := ⟨_, rfl⟩
      obtain ⟨D, hD⟩ : ∃ d, d = N / 2 ^ SH := ⟨_, rfl⟩
      have hd : (be 8 N)[i]? = some (UInt8.ofNat D) := by
        rw [be_get 8 N i hlt, hD, hSH, show 56 - 8 * i = 8 * (8 - 1 - i) by omega, Nat.pow_mul]
      have htk : (be 8 N).take (i + 1) = (be 8 N).take i ++ [UInt8.ofNat D] := by rw [List.take_add_one, hd]; rfl
      have v1 : IntKind.i64.wrap (8 * (i : Int)) = 8 * (i : Int) := by rw [IntKind.wrap_i64]; omega
      have v2 : IntKind.i64.wrap (56 - 8 * (i : Int)) = (SH : Int) := by rw [IntKind.wrap_i64]; omega
      have v3 : IntKind.i64.wrap ((i : Int) + 1) = (i : Int) + 1 := by rw [IntKind.wrap_i64]; omega
      have c1 : ∀ w, (convert 3 23 (.int .i64 (N : Int))).run Try.prog w = .ok (.int .u64 (N : Int)) w := conv_iu Try.underlying23 Try.underlying3 N (by omega)
      have c2 : ∀ w, (convert 3 56 (.int .i64 (SH : Int))).run Try.prog w = .ok (.int .u64 (SH : Int)) w := conv_iu Try.underlying56 Try.underlying3 SH (by omega)
      have c3 : ∀ w, (convert 23 5 (.int .u64 (D : Int))).run Try.prog w = .ok (B (UInt8.ofNat D)) w := conv_ub Try.underlying5 Try.underlying23 D
      have c4 : binOp .shr 23 (.int .u64 (N : Int)) (.int .u64 (SH : Int)) = pure (.int .u64 (D : Int)) := by rw [shr64 _ N SH (by omega), hD]
      have HT := Lib.hid htk
      have HQ : Hid (2 + i ≤ 10) := Lib.hid (by omega)
      clear htk hd hD hSH hrr
      go_wp2_with first
        | (at_builtin; refine wpList_addB rfl (.tmp 105) (.tmp 114) rfl (w.heap.size + 1) wr (u7) rfl (([UInt8.ofNat A] ++ [127] ++ (be 8 N).take i)) ([UInt8.ofNat D]) H5.out.1 (#[B (UInt8.ofNat D)]) rfl rfl 1 rfl (wr.heap.size) (rfl) rfl (by simp [be_len]; omega) H5.out.2 ?_; intro V6 W6 o6 g6
           have hr6 : Row W6 w.heap.size #[.bool true, .int .i64 (r : Int), .int .i64 (o : Int), .bool false, B 0, B 0, B 0, B 0, S data] 34 := row_grown R5.out.1 g6 (fun e => by have := (H5.out.1.lt _ e.symm).1; omega)
           have H6 : Hid (OwB (w.heap.size + 1) V6 (([UInt8.ofNat A] ++ [127] ++ (be 8 N).take i) ++ [UInt8.ofNat D]) W6 ∧ w.heap.size + 1 ≤ W6.heap.size) := Lib.hid ⟨o6, Nat.le_trans H5.out.2 g6.size⟩
           have R6 : Hid (Row W6 w.heap.size #[.bool true, .int .i64 (r : Int), .int .i64 (o : Int), .bool false, B 0, B 0, B 0, B 0, S data] 34 ∧ Below w.heap.size w W6) := Lib.hid ⟨hr6, R5.out.2.grown g6 R5.out.2.size (fun k e => by have := (H5.out.1.lt k e).1; omega)⟩
           have x63 : W6.cell? ⟨w.heap.size, 3, none⟩ = some (.bool false) := cell_of_row W6 _ 3 _ _ (0, 0) hr6
           have x64 : W6.cell? ⟨w.heap.size, 4, none⟩ = some (B 0) := cell_of_row W6 _ 4 _ _ (0, 0) hr6
           have x65 : W6.cell? ⟨w.heap.size, 5, none⟩ = some (B 0) := cell_of_row W6 _ 5 _ _ (0, 0) hr6
           have x66 : W6.cell? ⟨w.heap.size, 6, none⟩ = some (B 0) := cell_of_row W6 _ 6 _ _ (0, 0) hr6
           have x67 : W6.cell? ⟨w.heap.size, 7, none⟩ = some (B 0) := cell_of_row W6 _ 7 _ _ (0, 0) hr6
           have x68 : W6.cell? ⟨w.heap.size, 8, none⟩ = some (S data) := cell_of_row W6 _ 8 _ _ (0, 0) hr6
           clear o6 g6 hr6)
      exact ⟨⟨i + 1, by omega, by go_num, Lib.hid ⟨by rw [HT.out, ← List.append_assoc]; exact H6.out, R6.out⟩⟩, by simp [intOf]; omega⟩
    · obtain rfl : i = 8 := by omega
      have g7 : decide (((8 : Nat) : Int) < 8) = false := rfl
      have H5 : Hid (OwB (w.heap.size + 1) u7 ([UInt8.ofNat A] ++ [127] ++ be 8 N) wr ∧ w.heap.size + 1 ≤ wr.heap.size) := Lib.hid ⟨by have := HI.out.1.1; rwa [List.take_of_length_le (by rw [be_len]; exact Nat.le_refl _)] at this, HI.out.1.2⟩
      clear HI hrr
      go_wp2
      obtain ⟨LL, hLL⟩ : ∃ x, x = ([UInt8.ofNat A] ++ [127] ++ be 8 N) := ⟨_, rfl⟩
      obtain ⟨MK, hMK⟩ : ∃ x, x = maskN ⟨0, 0, 0, 0⟩ 0 data := ⟨_, rfl⟩
      have HL : Hid (bytesV ⟨true, (r : Int), (o : Int), false, ⟨0, 0, 0, 0⟩, data⟩ = .tuple #[S (LL ++ MK), .int .i64 0]) := Lib.hid (by rw [HV.out, hLL, hMK]; simp)
      have hadd : binOp .add 9 (S LL) (S MK) = pure (S (LL ++ MK)) := S_add 9 LL MK (by have := HN.out; rw [hLL, hMK, mask_len]; simp only [List.length_append, List.length_cons, List.length_nil, be_len]; omega)
      have HM : Hid (∀ w, Calls Try.prog 20 #[.agg #[B 0, B 0, B 0, B 0], .int .i64 0, S data] w fun e w' => e = .returned (S MK) ∧ Below w.heap.size w w') := Lib.hid (by rw [hMK]; exact HC.out)
      have hS : ∀ wx, Below wr.heap.size wr wx → ((wx.cell? ⟨w.heap.size, 4, none⟩ = some (B 0) ∧ wx.cell? ⟨w.heap.size, 5, none⟩ = some (B 0) ∧ wx.cell? ⟨w.heap.size, 6, none⟩ = some (B 0) ∧ wx.cell? ⟨w.heap.size, 7, none⟩ = some (B 0) ∧ wx.cell? ⟨w.heap.size, 8, none⟩ = some (S data)) ∧ (convert 48 9 u7).run Try.prog wx = .ok (S LL) wx) := fun wx hb => by
        have hrow := R5.out.1.below hb R5.out.1.lt
        exact ⟨⟨cell_of_row wx _ 4 _ _ (0, 0) hrow, cell_of_row wx _ 5 _ _ (0, 0) hrow, cell_of_row wx _ 6 _ _ (0, 0) hrow, cell_of_row wx _ 7 _ _ (0, 0) hrow, cell_of_row wx _ 8 _ _ (0, 0) hrow⟩, by rw [hLL]; exact owb_text (H5.out.1.below hb)⟩
      have HS := Lib.hid hS
      obtain ⟨Wq, hWq⟩ : ∃ Wq, Wq = wr.drew := ⟨_, rfl⟩
      have hBq : Below wr.heap.size wr Wq := by rw [hWq]; exact ⟨rfl, rfl, rfl, Nat.le_refl _, fun _ _ => rfl⟩
      have HSQ := Lib.hid (hS Wq hBq)
      have HBQ := Lib.hid hBq
      clear hS hBq hLL hMK
      refine wp_region_noPanic ?_
      refine wp_region_held_drew (S := fun wx => ((wx.cell? ⟨w.heap.size, 4, none⟩ = some (B 0) ∧ wx.cell? ⟨w.heap.size, 5, none⟩ = some (B 0) ∧ wx.cell? ⟨w.heap.size, 6, none⟩ = some (B 0) ∧ wx.cell? ⟨w.heap.size, 7, none⟩ = some (B 0) ∧ wx.cell? ⟨w.heap.size, 8, none⟩ = some (S data)) ∧ (convert 48 9 u7).run Try.prog wx = .ok (S LL) wx)) (by kernel_rfl) (by rw [← hWq]; exact HSQ.out) (fun _ => ?_)
      rw [← hWq]
      clear hWq
      refine take_at (i := 0) (d := some 133) (v := u7) rfl (by kernel_rfl) (by kernel_rfl) (by kernel_rfl) (fun _ _ _ h => h) (fun oi ho => ?_) HSQ.out ?_
      · obtain rfl := Option.some.inj ho
        exact Or.inl ⟨by rfl, fun wx hSw => by obtain ⟨⟨hu4, hu5, hu6, hu7, hu8⟩, hcx⟩ := hSw; go_simp⟩
      simp only [Act.put, List.setIfInBounds_toArray, List.set_cons_zero, List.set_cons_succ]
      refine take_at (i := 1) (d := some 134) (v := S LL) rfl (by kernel_rfl) (by kernel_rfl) (by kernel_rfl) (fun _ _ _ h => h) (fun oi ho => ?_) HSQ.out ?_
      · obtain rfl := Option.some.inj ho
        exact Or.inl ⟨by rfl, fun wx hSw => by obtain ⟨⟨hu4, hu5, hu6, hu7, hu8⟩, hcx⟩ := hSw; go_simp⟩
      simp only [Act.put, List.setIfInBounds_toArray, List.set_cons_zero, List.set_cons_succ]
      refine take_at (i := 2) (d := some 135) (v := .pointer (some ⟨w.heap.size, 4, none⟩)) rfl (by kernel_rfl) (by kernel_rfl) (by kernel_rfl) (fun _ _ _ h => h) (fun oi ho => ?_) HSQ.out ?_
      · obtain rfl := Option.some.inj ho
        exact Or.inl ⟨by rfl, fun wx hSw => by obtain ⟨⟨hu4, hu5, hu6, hu7, hu8⟩, hcx⟩ := hSw; go_simp⟩
      simp only [Act.put, List.setIfInBounds_toArray, List.set_cons_zero, List.set_cons_succ]
      refine take_at (i := 3) (d := some 136) (v := .agg #[B 0, B 0, B 0, B 0]) rfl (by kernel_rfl) (by kernel_rfl) (by kernel_rfl) (fun _ _ _ h => h) (fun oi ho => ?_) HSQ.out ?_
      · obtain rfl := Option.some.inj ho
        exact Or.inl ⟨by rfl, fun wx hSw => by obtain ⟨⟨hu4, hu5, hu6, hu7, hu8⟩, hcx⟩ := hSw; go_simp⟩
      simp only [Act.put, List.setIfInBounds_toArray, List.set_cons_zero, List.set_cons_succ]
      refine take_at (i := 4) (d := some 137) (v := .pointer (some ⟨w.heap.size, 8, none⟩)) rfl (by kernel_rfl) (by kernel_rfl) (by kernel_rfl) (fun _ _ _ h => h) (fun oi ho => ?_) HSQ.out ?_
      · obtain rfl := Option.some.inj ho
        exact Or.inl ⟨by rfl, fun wx hSw => by obtain ⟨⟨hu4, hu5, hu6, hu7, hu8⟩, hcx⟩ := hSw; go_simp⟩
      simp only [Act.put, List.setIfInBounds_toArray, List.set_cons_zero, List.set_cons_succ]
      refine take_at (i := 5) (d := some 138) (v := S data) rfl (by kernel_rfl) (by kernel_rfl) (by kernel_rfl) (fun _ _ _ h => h) (fun oi ho => ?_) HSQ.out ?_
      · obtain rfl := Option.some.inj ho
        exact Or.inl ⟨by rfl, fun wx hSw => by obtain ⟨⟨hu4, hu5, hu6, hu7, hu8⟩, hcx⟩ := hSw; go_simp⟩
      simp only [Act.put, List.setIfInBounds_toArray, List.set_cons_zero, List.set_cons_succ]
      refine ready_call (i := 6) (d := some 139) (f := 20) (args := #[.agg #[B 0, B 0, B 0, B 0], .int .i64 0, S data]) rfl (by kernel_rfl) (fun oi ho => ?_) ?_
      · obtain rfl := Option.some.inj ho
        exact ⟨by rfl, by go_simp⟩
      refine (HM.out Wq).mono ?_
      rintro e Wz ⟨rfl, hBz⟩
      have hBy := HBQ.out.trans (hBz.mono HBQ.out.size)
      have HSZ := Lib.hid (HS.out Wz hBy)
      have HE := Lib.hid (R5.out.2.trans (hBy.mono R5.out.2.size))
      clear hBz hBy
      refine ⟨_, rfl, HSZ.out, ?_⟩
      simp only [Act.put, List.setIfInBounds_toArray, List.set_cons_zero, List.set_cons_succ]
      refine take_at (i := 7) (d := some 140) (v := S (LL ++ MK)) rfl (by kernel_rfl) (by kernel_rfl) (by kernel_rfl) (fun _ _ _ h => h) (fun oi ho => ?_) HSZ.out ?_
      · obtain rfl := Option.some.inj ho
        exact Or.inl ⟨by rfl, fun wx hSw => by obtain ⟨⟨hu4, hu5, hu6, hu7, hu8⟩, hcx⟩ := hSw; go_simp⟩
      simp only [Act.put, List.setIfInBounds_toArray, List.set_cons_zero, List.set_cons_succ]
      refine take_at (i := 8) (d := some 2) (v := S (LL ++ MK)) rfl (by kernel_rfl) (by kernel_rfl) (by kernel_rfl) (fun _ _ _ h => h) (fun oi ho => ?_) HSZ.out ?_
      · obtain rfl := Option.some.inj ho
        exact Or.inl ⟨by rfl, fun wx hSw => by obtain ⟨⟨hu4, hu5, hu6, hu7, hu8⟩, hcx⟩ := hSw; go_simp⟩
      simp only [Act.put, List.setIfInBounds_toArray, List.set_cons_zero, List.set_cons_succ]
      refine take_at (i := 9) (d := some 3) (v := .int .i64 0) rfl (by kernel_rfl) (by kernel_rfl) (by kernel_rfl) (fun _ _ _ h => h) (fun oi ho => ?_) HSZ.out ?_
      · obtain rfl := Option.some.inj ho
        exact Or.inl ⟨by rfl, fun wx hSw => by obtain ⟨⟨hu4, hu5, hu6, hu7, hu8⟩, hcx⟩ := hSw; go_simp⟩
      simp only [Act.put, List.setIfInBounds_toArray, List.set_cons_zero, List.set_cons_succ]
      refine wpAnyH_done (by kernel_rfl) ?_ _
      refine NoPanic.normal ?_
      try simp only [Act.put]
      go_wp2
      go_ret2
      exact ⟨by rw [HL.out]; rfl, HE.out⟩
set_option maxRecDepth 100000 in
set_option maxHeartbeats 2000000 in
theorem bytes15_3nm (f : Frm) (w : World) (hf : f.fin = false) (hm : f.masked = true) (h : okFr f = true) (hl : 65535 < f.data.length) (hl2 : f.data.length ≤ 100000) : Calls Try.prog 16 #[frV f] w fun e w' => e = .returned (bytesV f) ∧ Below w.heap.size w w' := by
  obtain ⟨h1, h2, h3, h4, h5⟩ := okFr_parts h
  have hv : bytesV f = .tuple #[S (firstB f :: (lenB 128 f.data.length ++ keyB f) ++ maskN f.key 0 f.data), .int .i64 0] := by
    unfold bytesV bytesF headB; rw [if_pos h, if_pos h, hm]; rfl
  obtain ⟨r, hr⟩ : ∃ r : Nat, f.rsv = (r : Int) := ⟨f.rsv.toNat, by omega⟩
  obtain ⟨o, ho⟩ : ∃ o : Nat, f.op = (o : Int) := ⟨f.op.toNat, by omega⟩
  obtain ⟨A0, hA0⟩ : ∃ A : Nat, A = 16 * r + o := ⟨_, rfl⟩
  obtain ⟨A, hA⟩ : ∃ A : Nat, A = A0 + 0 := ⟨_, rfl⟩
  have hfb : firstB f = UInt8.ofNat A := by unfold firstB; rw [hf, hr, ho, Int.toNat_natCast, Int.toNat_natCast, hA, hA0]; congr 1; simp only [finN, Bool.false_eq_true, if_false]; omega
  have hkb : keyB f = [f.key.k0, f.key.k1, f.key.k2, f.key.k3] := by unfold keyB; rw [hm]; rfl
  rw [hfb, hkb] at hv
  have HC := Lib.hid (fun w => mask15_any f.key 0 f.data w (by omega))
  have w1 : IntKind.i64.wrap (16 * (r : Int)) = 16 * (r : Int) := by rw [IntKind.wrap_i64]; omega
  have w2 : IntKind.i64.wrap (16 * (r : Int) + (o : Int)) = (A0 : Int) := by rw [IntKind.wrap_i64]; omega
  have w3 : IntKind.i64.wrap ((A0 : Int) + 128) = ((A0 + 128 : Nat) : Int) := by rw [IntKind.wrap_i64]; omega
  have hcv : ∀ w, (convert 3 5 (.int .i64 (A : Int))).run Try.prog w = .ok (B (UInt8.ofNat A)) w := conv_num Try.underlying5 Try.underlying3 A
  have hlN := run_len_S (P := Try.prog) Try.underlying9 3 f.data
  obtain ⟨N, hN⟩ : ∃ N, N = f.data.length := ⟨_, rfl⟩
  rw [← hN] at hlN hl hv hl2
  have g5 : decide ((N : Int) ≤ 125) = false := decide_eq_false (by omega)
  have g6 : decide ((N : Int) ≤ 65535) = false := decide_eq_false (by omega)
  have hlen : lenB 128 N = 255 :: be 8 N := by
    unfold lenB; rw [if_neg (by omega), if_neg (by omega)]; rfl
  rw [hlen] at hv
  clear hlen
  obtain ⟨fin, rsv, op, m, ⟨k0, k1, k2, k3⟩, data⟩ := f
  dsimp only at *
  subst hf hm hr ho
  have e1 : decide ((r : Int) < 0) = false := decide_eq_false (by omega)
  have e2 : decide ((7 : Int) < (r : Int)) = false := decide_eq_false (by omega)
  have e3 : decide ((o : Int) < 0) = false := decide_eq_false (by omega)
  have e4 : decide ((15 : Int) < (o : Int)) = false := decide_eq_false (by omega)
  have e2' : decide ((r : Int) > 7) = false := decide_eq_false (by omega)
  have e4' : decide ((o : Int) > 15) = false := decide_eq_false (by omega)
  obtain rfl : A = A0 := hA
  clear w3 hA0 h1 h2 h3 h4
  clear hfb hkb
  clear h5 h
  obtain ⟨W1, hW1⟩ : ∃ W, W = w.alloc (.cells #[.bool false, .int .i64 (r : Int), .int .i64 (o : Int), .bool true, B k0, B k1, B k2, B k3, S data] 34) := ⟨_, rfl⟩
  obtain ⟨W2, hW2⟩ : ∃ W, W = W1.alloc (.cells #[B (UInt8.ofNat A)] 5) := ⟨_, rfl⟩
  have hs1 : W1.heap.size = w.heap.size + 1 := by rw [hW1, alloc_size]
  have hs2 : W2.heap.size = w.heap.size + 2 := by rw [hW2, alloc_size, hs1]
  have H2 : Hid (OwB (w.heap.size + 1) (.slice (some ⟨w.heap.size + 1, 0, none⟩) 1 1) [UInt8.ofNat A] W2 ∧ w.heap.size + 1 ≤ W2.heap.size) := Lib.hid ⟨by rw [hW2, ← hs1]; exact owb_new rfl rfl (by simp) _ (Nat.le_refl _), by omega⟩
  have R2 : Hid (Row W2 w.heap.size #[.bool false, .int .i64 (r : Int), .int .i64 (o : Int), .bool true, B k0, B k1, B k2, B k3, S data] 34 ∧ Below w.heap.size w W2) := Lib.hid ⟨by rw [hW2, hW1]; exact (row_new _ _ _).alloc _, by rw [hW2, hW1]; exact ((Below.refl _ _).alloc (Nat.le_refl _) _).alloc (by rw [alloc_size]; omega) _⟩
  have HS2 := Lib.hid hs2
  have HV := Lib.hid hv
  have HN := Lib.hid hN
  rw [hW1] at hW2
  clear hW1 hs1 hs2 hv hN W1
  unfold frV frC
  dsimp only at *
  go_enter Try.func16, Try.ntmps16
  go_wp2_with first
    | (at_builtin; refine wpList_addB rfl (.tmp 95) (.tmp 99) rfl (w.heap.size + 1) W2 (.slice (some ⟨w.heap.size + 1, 0, none⟩) 1 1) rfl ([UInt8.ofNat A]) ([255]) H2.out.1 (#[.int .u8 255]) rfl (by rw [hW2]) 1 rfl (w.heap.size + 2) (HS2.out) rfl (by first | (simp; done) | (simp [be_len]; done)) H2.out.2 ?_; intro V3 W3 o3 g3
       have hr3 : Row W3 w.heap.size #[.bool false, .int .i64 (r : Int), .int .i64 (o : Int), .bool true, B k0, B k1, B k2, B k3, S data] 34 := row_grown R2.out.1 g3 (fun e => by have := (H2.out.1.lt _ e.symm).1; omega)
       have H3 : Hid (OwB (w.heap.size + 1) V3 ([UInt8.ofNat A] ++ [255]) W3 ∧ w.heap.size + 1 ≤ W3.heap.size) := Lib.hid ⟨o3, Nat.le_trans H2.out.2 g3.size⟩
       have R3 : Hid (Row W3 w.heap.size #[.bool false, .int .i64 (r : Int), .int .i64 (o : Int), .bool true, B k0, B k1, B k2, B k3, S data] 34 ∧ Below w.heap.size w W3) := Lib.hid ⟨hr3, R2.out.2.grown g3 R2.out.2.size (fun k e => by have := (H2.out.1.lt k e).1; omega)⟩
       have x33 : W3.cell? ⟨w.heap.size, 3, none⟩ = some (.bool true) := cell_of_row W3 _ 3 _ _ (0, 0) hr3
       have x34 : W3.cell? ⟨w.heap.size, 4, none⟩ = some (B k0) := cell_of_row W3 _ 4 _ _ (0, 0) hr3
       have x35 : W3.cell? ⟨w.heap.size, 5, none⟩ = some (B k1) := cell_of_row W3 _ 5 _ _ (0, 0) hr3
       have x36 : W3.cell? ⟨w.heap.size, 6, none⟩ = some (B k2) := cell_of_row W3 _ 6 _ _ (0, 0) hr3
       have x37 : W3.cell? ⟨w.heap.size, 7, none⟩ = some (B k3) := cell_of_row W3 _ 7 _ _ (0, 0) hr3
       have x38 : W3.cell? ⟨w.heap.size, 8, none⟩ = some (S data) := cell_of_row W3 _ 8 _ _ (0, 0) hr3
       clear o3 g3 hr3)
  go_loopw [7, 8] (fun vv iv wr => ∃ i : Nat, i ≤ 8 ∧ iv = .int .i64 (i : Int) ∧ Hid ((OwB (w.heap.size + 1) vv ([UInt8.ofNat A] ++ [255] ++ (be 8 N).take i) wr ∧ w.heap.size + 1 ≤ wr.heap.size) ∧ Row wr w.heap.size #[.bool false, .int .i64 (r : Int), .int .i64 (o : Int), .bool true, B k0, B k1, B k2, B k3, S data] 34 ∧ Below w.heap.size w wr)) (fun _ iv _ => 8 - (intOf iv).toNat)
  case atStart => exact ⟨0, by omega, rfl, Lib.hid ⟨by rw [List.take_zero, List.append_nil]; exact H3.out, R3.out⟩⟩
  case round =>
    obtain ⟨i, hi, rfl, HI⟩ := hrel
    have H5 := Lib.hid HI.out.1
    have R5 := Lib.hid HI.out.2
    have hrr := HI.out.2.1
    have y3 : wr.cell? ⟨w.heap.size, 3, none⟩ = some (.bool true) := cell_of_row wr _ 3 _ _ (0, 0) hrr
    have y4 : wr.cell? ⟨w.heap.size, 4, none⟩ = some (B k0) := cell_of_row wr _ 4 _ _ (0, 0) hrr
    have y5 : wr.cell? ⟨w.heap.size, 5, none⟩ = some (B k1) := cell_of_row wr _ 5 _ _ (0, 0) hrr
    have y6 : wr.cell? ⟨w.heap.size, 6, none⟩ = some (B k2) := cell_of_row wr _ 6 _ _ (0, 0) hrr
    have y7 : wr.cell? ⟨w.heap.size, 7, none⟩ = some (B k3) := cell_of_row wr _ 7 _ _ (0, 0) hrr
    have y8 : wr.cell? ⟨w.heap.size, 8, none⟩ = some (S data) := cell_of_row wr _ 8 _ _ (0, 0) hrr

    by_cases hlt : i < 8
    · have g7 : decide ((i : Int) < 8) = true := decide_eq_true (by omega)
      obtain ⟨SH, hSH⟩ : ∃ s, s = 56 - 8 * i := ⟨_, rfl⟩
      obtain ⟨D, hD⟩ : ∃ d, d = N / 2 ^ SH := ⟨_, rfl⟩
      have hd : (be 8 N)[i]? = some (UInt8.ofNat D) := by
        rw [be_get 8 N i hlt, hD, hSH, show 56 - 8 * i = 8 * (8 - 1 - i) by omega, Nat.pow_mul]
      have htk : (be 8 N).take (i + 1) = (be 8 N).take i ++ [UInt8.ofNat D] := by rw [List.take_add_one, hd]; rfl
      have v1 : IntKind.i64.wrap (8 * (i : Int)) = 8 * (i : Int) := by rw [IntKind.wrap_i64]; omega
      have v2 : IntKind.i64.wrap (56 - 8 * (i : Int)) = (SH : Int) := by rw [IntKind.wrap_i64]; omega
      have v3 : IntKind.i64.wrap ((i : Int) + 1) = (i : Int) + 1 := by rw [IntKind.wrap_i64]; omega
      have c1 : ∀ w, (convert 3 23 (.int .i64 (N : Int))).run Try.prog w = .ok (.int .u64 (N : Int)) w := conv_iu Try.underlying23 Try.underlying3 N (by omega)
      have c2 : ∀ w, (convert 3 56 (.int .i64 (SH : Int))).run Try.prog w = .ok (.int .u64 (SH : Int)) w := conv_iu Try.underlying56 Try.underlying3 SH (by omega)
      have c3 : ∀ w, (convert 23 5 (.int .u64 (D : Int))).run Try.prog w = .ok (B (UInt8.ofNat D)) w := conv_ub Try.underlying5 Try.underlying23 D
      have c4 : binOp .shr 23 (.int .u64 (N : Int)) (.int .u64 (SH : Int)) = pure (.int .u64 (D : Int)) := by rw [shr64 _ N SH (by omega), hD]
      have HT := Lib.hid htk
      have HQ : Hid (2 + i ≤ 10) := Lib.hid (by omega)
      clear htk hd hD hSH hrr
      go_wp2_with first
        | (at_builtin; refine wpList_addB rfl (.tmp 105) (.tmp 114) rfl (w.heap.size + 1) wr (u7) rfl (([UInt8.ofNat A] ++ [255] ++ (be 8 N).take i)) ([UInt8.ofNat D]) H5.out.1 (#[B (UInt8.ofNat D)]) rfl rfl 1 rfl (wr.heap.size) (rfl) rfl (by simp [be_len]; omega) H5.out.2 ?_; intro V6 W6 o6 g6
           have hr6 : Row W6 w.heap.size #[.bool false, .int .i64 (r : Int), .int .i64 (o : Int), .bool true, B k0, B k1, B k2, B k3, S data] 34 := row_grown R5.out.1 g6 (fun e => by have := (H5.out.1.lt _ e.symm).1; omega)
           have H6 : Hid (OwB (w.heap.size + 1) V6 (([UInt8.ofNat A] ++ [255] ++ (be 8 N).take i) ++ [UInt8.ofNat D]) W6 ∧ w.heap.size + 1 ≤ W6.heap.size) := Lib.hid ⟨o6, Nat.le_trans H5.out.2 g6.size⟩
           have R6 : Hid (Row W6 w.heap.size #[.bool false, .int .i64 (r : Int), .int .i64 (o : Int), .bool true, B k0, B k1, B k2, B k3, S data] 34 ∧ Below w.heap.size w W6) := Lib.hid ⟨hr6, R5.out.2.grown g6 R5.out.2.size (fun k e => by have := (H5.out.1.lt k e).1; omega)⟩
           have x63 : W6.cell? ⟨w.heap.size, 3, none⟩ = some (.bool true) := cell_of_row W6 _ 3 _ _ (0, 0) hr6
           have x64 : W6.cell? ⟨w.heap.size, 4, none⟩ = some (B k0) := cell_of_row W6 _ 4 _ _ (0, 0) hr6
           have x65 : W6.cell? ⟨w.heap.size, 5, none⟩ = some (B k1) := cell_of_row W6 _ 5 _ _ (0, 0) hr6
           have x66 : W6.cell? ⟨w.heap.size, 6, none⟩ = some (B k2) := cell_of_row W6 _ 6 _ _ (0, 0) hr6
           have x67 : W6.cell? ⟨w.heap.size, 7, none⟩ = some (B k3) := cell_of_row W6 _ 7 _ _ (0, 0) hr6
           have x68 : W6.cell? ⟨w.heap.size, 8, none⟩ = some (S data) := cell_of_row W6 _ 8 _ _ (0, 0) hr6
           clear o6 g6 hr6)
      exact ⟨⟨i + 1, by omega, by go_num, Lib.hid ⟨by rw [HT.out, ← List.append_assoc]; exact H6.out, R6.out⟩⟩, by simp [intOf]; omega⟩
    · obtain rfl : i = 8 := by omega
      have g7 : decide (((8 : Nat) : Int) < 8) = false := rfl
      have H5 : Hid (OwB (w.heap.size + 1) u7 ([UInt8.ofNat A] ++ [255] ++ be 8 N) wr ∧ w.heap.size + 1 ≤ wr.heap.size) := Lib.hid ⟨by have := HI.out.1.1; rwa [List.take_of_length_le (by rw [be_len]; exact Nat.le_refl _)] at this, HI.out.1.2⟩
      clear HI hrr
      go_wp2_with first
        | (at_builtin; refine wpList_addB rfl (.tmp 118) (.tmp 131) rfl (w.heap.size + 1) wr (u7) rfl (([UInt8.ofNat A] ++ [255] ++ be 8 N)) ([k0, k1, k2, k3]) H5.out.1 (#[B k0, B k1, B k2, B k3]) rfl rfl 4 rfl (wr.heap.size) (rfl) rfl (by first | (simp; done) | (simp [be_len]; done)) H5.out.2 ?_; intro V6 W6 o6 g6
           have hr6 : Row W6 w.heap.size #[.bool false, .int .i64 (r : Int), .int .i64 (o : Int), .bool true, B k0, B k1, B k2, B k3, S data] 34 := row_grown R5.out.1 g6 (fun e => by have := (H5.out.1.lt _ e.symm).1; omega)
           have H6 : Hid (OwB (w.heap.size + 1) V6 (([UInt8.ofNat A] ++ [255] ++ be 8 N) ++ [k0, k1, k2, k3]) W6 ∧ w.heap.size + 1 ≤ W6.heap.size) := Lib.hid ⟨o6, Nat.le_trans H5.out.2 g6.size⟩
           have R6 : Hid (Row W6 w.heap.size #[.bool false, .int .i64 (r : Int), .int .i64 (o : Int), .bool true, B k0, B k1, B k2, B k3, S data] 34 ∧ Below w.heap.size w W6) := Lib.hid ⟨hr6, R5.out.2.grown g6 R5.out.2.size (fun k e => by have := (H5.out.1.lt k e).1; omega)⟩
           have x63 : W6.cell? ⟨w.heap.size, 3, none⟩ = some (.bool true) := cell_of_row W6 _ 3 _ _ (0, 0) hr6
           have x64 : W6.cell? ⟨w.heap.size, 4, none⟩ = some (B k0) := cell_of_row W6 _ 4 _ _ (0, 0) hr6
           have x65 : W6.cell? ⟨w.heap.size, 5, none⟩ = some (B k1) := cell_of_row W6 _ 5 _ _ (0, 0) hr6
           have x66 : W6.cell? ⟨w.heap.size, 6, none⟩ = some (B k2) := cell_of_row W6 _ 6 _ _ (0, 0) hr6
           have x67 : W6.cell? ⟨w.heap.size, 7, none⟩ = some (B k3) := cell_of_row W6 _ 7 _ _ (0, 0) hr6
           have x68 : W6.cell? ⟨w.heap.size, 8, none⟩ = some (S data) := cell_of_row W6 _ 8 _ _ (0, 0) hr6
           clear o6 g6 hr6)
      obtain ⟨LL, hLL⟩ : ∃ x, x = (([UInt8.ofNat A] ++ [255] ++ be 8 N) ++ [k0, k1, k2, k3]) := ⟨_, rfl⟩
      obtain ⟨MK, hMK⟩ : ∃ x, x = maskN ⟨k0, k1, k2, k3⟩ 0 data := ⟨_, rfl⟩
      have HL : Hid (bytesV ⟨false, (r : Int), (o : Int), true, ⟨k0, k1, k2, k3⟩, data⟩ = .tuple #[S (LL ++ MK), .int .i64 0]) := Lib.hid (by rw [HV.out, hLL, hMK]; simp)
      have hadd : binOp .add 9 (S LL) (S MK) = pure (S (LL ++ MK)) := S_add 9 LL MK (by have := HN.out; rw [hLL, hMK, mask_len]; simp only [List.length_append, List.length_cons, List.length_nil, be_len]; omega)
      have HM : Hid (∀ w, Calls Try.prog 20 #[.agg #[B k0, B k1, B k2, B k3], .int .i64 0, S data] w fun e w' => e = .returned (S MK) ∧ Below w.heap.size w w') := Lib.hid (by rw [hMK]; exact HC.out)
      have hS : ∀ wx, Below W6.heap.size W6 wx → ((wx.cell? ⟨w.heap.size, 4, none⟩ = some (B k0) ∧ wx.cell? ⟨w.heap.size, 5, none⟩ = some (B k1) ∧ wx.cell? ⟨w.heap.size, 6, none⟩ = some (B k2) ∧ wx.cell? ⟨w.heap.size, 7, none⟩ = some (B k3) ∧ wx.cell? ⟨w.heap.size, 8, none⟩ = some (S data)) ∧ (convert 48 9 V6).run Try.prog wx = .ok (S LL) wx) := fun wx hb => by
        have hrow := R6.out.1.below hb R6.out.1.lt
        exact ⟨⟨cell_of_row wx _ 4 _ _ (0, 0) hrow, cell_of_row wx _ 5 _ _ (0, 0) hrow, cell_of_row wx _ 6 _ _ (0, 0) hrow, cell_of_row wx _ 7 _ _ (0, 0) hrow, cell_of_row wx _ 8 _ _ (0, 0) hrow⟩, by rw [hLL]; exact owb_text (H6.out.1.below hb)⟩
      have HS := Lib.hid hS
      obtain ⟨Wq, hWq⟩ : ∃ Wq, Wq = W6.drew := ⟨_, rfl⟩
      have hBq : Below W6.heap.size W6 Wq := by rw [hWq]; exact ⟨rfl, rfl, rfl, Nat.le_refl _, fun _ _ => rfl⟩
      have HSQ := Lib.hid (hS Wq hBq)
      have HBQ := Lib.hid hBq
      clear hS hBq hLL hMK
      refine wp_region_noPanic ?_
      refine wp_region_held_drew (S := fun wx => ((wx.cell? ⟨w.heap.size, 4, none⟩ = some (B k0) ∧ wx.cell? ⟨w.heap.size, 5, none⟩ = some (B k1) ∧ wx.cell? ⟨w.heap.size, 6, none⟩ = some (B k2) ∧ wx.cell? ⟨w.heap.size, 7, none⟩ = some (B k3) ∧ wx.cell? ⟨w.heap.size, 8, none⟩ = some (S data)) ∧ (convert 48 9 V6).run Try.prog wx = .ok (S LL) wx)) (by kernel_rfl) (by rw [← hWq]; exact HSQ.out) (fun _ => ?_)
      rw [← hWq]
      clear hWq
      refine take_at (i := 0) (d := some 133) (v := V6) rfl (by kernel_rfl) (by kernel_rfl) (by kernel_rfl) (fun _ _ _ h => h) (fun oi ho => ?_) HSQ.out ?_
      · obtain rfl := Option.some.inj ho
        exact Or.inl ⟨by rfl, fun wx hSw => by obtain ⟨⟨hu4, hu5, hu6, hu7, hu8⟩, hcx⟩ := hSw; go_simp⟩
      simp only [Act.put, List.setIfInBounds_toArray, List.set_cons_zero, List.set_cons_succ]
      refine take_at (i := 1) (d := some 134) (v := S LL) rfl (by kernel_rfl) (by kernel_rfl) (by kernel_rfl) (fun _ _ _ h => h) (fun oi ho => ?_) HSQ.out ?_
      · obtain rfl := Option.some.inj ho
        exact Or.inl ⟨by rfl, fun wx hSw => by obtain ⟨⟨hu4, hu5, hu6, hu7, hu8⟩, hcx⟩ := hSw; go_simp⟩
      simp only [Act.put, List.setIfInBounds_toArray, List.set_cons_zero, List.set_cons_succ]
      refine take_at (i := 2) (d := some 135) (v := .pointer (some ⟨w.heap.size, 4, none⟩)) rfl (by kernel_rfl) (by kernel_rfl) (by kernel_rfl) (fun _ _ _ h => h) (fun oi ho => ?_) HSQ.out ?_
      · obtain rfl := Option.some.inj ho
        exact Or.inl ⟨by rfl, fun wx hSw => by obtain ⟨⟨hu4, hu5, hu6, hu7, hu8⟩, hcx⟩ := hSw; go_simp⟩
      simp only [Act.put, List.setIfInBounds_toArray, List.set_cons_zero, List.set_cons_succ]
      refine take_at (i := 3) (d := some 136) (v := .agg #[B k0, B k1, B k2, B k3]) rfl (by kernel_rfl) (by kernel_rfl) (by kernel_rfl) (fun _ _ _ h => h) (fun oi ho => ?_) HSQ.out ?_
      · obtain rfl := Option.some.inj ho
        exact Or.inl ⟨by rfl, fun wx hSw => by obtain ⟨⟨hu4, hu5, hu6, hu7, hu8⟩, hcx⟩ := hSw; go_simp⟩
      simp only [Act.put, List.setIfInBounds_toArray, List.set_cons_zero, List.set_cons_succ]
      refine take_at (i := 4) (d := some 137) (v := .pointer (some ⟨w.heap.size, 8, none⟩)) rfl (by kernel_rfl) (by kernel_rfl) (by kernel_rfl) (fun _ _ _ h => h) (fun oi ho => ?_) HSQ.out ?_
      · obtain rfl := Option.some.inj ho
        exact Or.inl ⟨by rfl, fun wx hSw => by obtain ⟨⟨hu4, hu5, hu6, hu7, hu8⟩, hcx⟩ := hSw; go_simp⟩
      simp only [Act.put, List.setIfInBounds_toArray, List.set_cons_zero, List.set_cons_succ]
      refine take_at (i := 5) (d := some 138) (v := S data) rfl (by kernel_rfl) (by kernel_rfl) (by kernel_rfl) (fun _ _ _ h => h) (fun oi ho => ?_) HSQ.out ?_
      · obtain rfl := Option.some.inj ho
        exact Or.inl ⟨by rfl, fun wx hSw => by obtain ⟨⟨hu4, hu5, hu6, hu7, hu8⟩, hcx⟩ := hSw; go_simp⟩
      simp only [Act.put, List.setIfInBounds_toArray, List.set_cons_zero, List.set_cons_succ]
      refine ready_call (i := 6) (d := some 139) (f := 20) (args := #[.agg #[B k0, B k1, B k2, B k3], .int .i64 0, S data]) rfl (by kernel_rfl) (fun oi ho => ?_) ?_
      · obtain rfl := Option.some.inj ho
        exact ⟨by rfl, by go_simp⟩
      refine (HM.out Wq).mono ?_
      rintro e Wz ⟨rfl, hBz⟩
      have hBy := HBQ.out.trans (hBz.mono HBQ.out.size)
      have HSZ := Lib.hid (HS.out Wz hBy)
      have HE := Lib.hid (R6.out.2.trans (hBy.mono R6.out.2.size))
      clear hBz hBy
      refine ⟨_, rfl, HSZ.out, ?_⟩
      simp only [Act.put, List.setIfInBounds_toArray, List.set_cons_zero, List.set_cons_succ]
      refine take_at (i := 7) (d := some 140) (v := S (LL ++ MK)) rfl (by kernel_rfl) (by kernel_rfl) (by kernel_rfl) (fun _ _ _ h => h) (fun oi ho => ?_) HSZ.out ?_
      · obtain rfl := Option.some.inj ho
        exact Or.inl ⟨by rfl, fun wx hSw => by obtain ⟨⟨hu4, hu5, hu6, hu7, hu8⟩, hcx⟩ := hSw; go_simp⟩
      simp only [Act.put, List.setIfInBounds_toArray, List.set_cons_zero, List.set_cons_succ]
      refine take_at (i := 8) (d := some 2) (v := S (LL ++ MK)) rfl (by kernel_rfl) (by kernel_rfl) (by kernel_rfl) (fun _ _ _ h => h) (fun oi ho => ?_) HSZ.out ?_
      · obtain rfl := Option.some.inj ho
        exact Or.inl ⟨by rfl, fun wx hSw => by obtain ⟨⟨hu4, hu5, hu6, hu7, hu8⟩, hcx⟩ := hSw; go_simp⟩
      simp only [Act.put, List.setIfInBounds_toArray, List.set_cons_zero, List.set_cons_succ]
      refine take_at (i := 9) (d := some 3) (v := .int .i64 0) rfl (by kernel_rfl) (by kernel_rfl) (by kernel_rfl) (fun _ _ _ h => h) (fun oi ho => ?_) HSZ.out ?_
      · obtain rfl := Option.some.inj ho
        exact Or.inl ⟨by rfl, fun wx hSw => by obtain ⟨⟨hu4, hu5, hu6, hu7, hu8⟩, hcx⟩ := hSw; go_simp⟩
      simp only [Act.put, List.setIfInBounds_toArray, List.set_cons_zero, List.set_cons_succ]
      refine wpAnyH_done (by kernel_rfl) ?_ _
      refine NoPanic.normal ?_
      try simp only [Act.put]
      go_wp2
      go_ret2
      exact ⟨by rw [HL.out]; rfl, HE.out⟩
set_option maxRecDepth 100000 in
set_option maxHeartbeats 2000000 in
theorem bytes15_3nu (f : Frm) (w : World) (hf : f.fin = false) (hm : f.masked = false) (h : okFr f = true) (hl : 65535 < f.data.length) (hl2 : f.data.length ≤ 100000) : Calls Try.prog 16 #[frV f] w fun e w' => e = .returned (bytesV f) ∧ Below w.heap.size w w' := by
  obtain ⟨h1, h2, h3, h4, h5⟩ := okFr_parts h
  have hv : bytesV f = .tuple #[S (firstB f :: (lenB 0 f.data.length ++ keyB f) ++ maskN f.key 0 f.data), .int .i64 0] := by
    unfold bytesV bytesF headB; rw [if_pos h, if_pos h, hm]; rfl
  obtain ⟨r, hr⟩ : ∃ r : Nat, f.rsv = (r : Int) := ⟨f.rsv.toNat, by omega⟩
  obtain ⟨o, ho⟩ : ∃ o : Nat, f.op = (o : Int) := ⟨f.op.toNat, by omega⟩
  obtain ⟨A0, hA0⟩ : ∃ A : Nat, A = 16 * r + o := ⟨_, rfl⟩
  obtain ⟨A, hA⟩ : ∃ A : Nat, A = A0 + 0 := ⟨_, rfl⟩
  have hfb : firstB f = UInt8.ofNat A := by unfold firstB; rw [hf, hr, ho, Int.toNat_natCast, Int.toNat_natCast, hA, hA0]; congr 1; simp only [finN, Bool.false_eq_true, if_false]; omega
  have hkb : keyB f = [] := by unfold keyB; rw [hm]; rfl
  rw [hfb, hkb] at hv
  have HC := Lib.hid (fun w => mask15_any f.key 0 f.data w (by omega))
  have w1 : IntKind.i64.wrap (16 * (r : Int)) = 16 * (r : Int) := by rw [IntKind.wrap_i64]; omega
  have w2 : IntKind.i64.wrap (16 * (r : Int) + (o : Int)) = (A0 : Int) := by rw [IntKind.wrap_i64]; omega
  have w3 : IntKind.i64.wrap ((A0 : Int) + 128) = ((A0 + 128 : Nat) : Int) := by rw [IntKind.wrap_i64]; omega
  have hcv : ∀ w, (convert 3 5 (.int .i64 (A : Int))).run Try.prog w = .ok (B (UInt8.ofNat A)) w := conv_num Try.underlying5 Try.underlying3 A
  have hlN := run_len_S (P := Try.prog) Try.underlying9 3 f.data
  obtain ⟨N, hN⟩ : ∃ N, N = f.data.length := ⟨_, rfl⟩
  rw [← hN] at hlN hl hv hl2
  have g5 : decide ((N : Int) ≤ 125) = false := decide_eq_false (by omega)
  have g6 : decide ((N : Int) ≤ 65535) = false := decide_eq_false (by omega)
  have hlen : lenB 0 N = 127 :: be 8 N := by
    unfold lenB; rw [if_neg (by omega), if_neg (by omega)]; rfl
  rw [hlen] at hv
  clear hlen
  obtain ⟨fin, rsv, op, m, ⟨k0, k1, k2, k3⟩, data⟩ := f
  dsimp only at *
  subst hf hm hr ho
  have e1 : decide ((r : Int) < 0) = false := decide_eq_false (by omega)
  have e2 : decide ((7 : Int) < (r : Int)) = false := decide_eq_false (by omega)
  have e3 : decide ((o : Int) < 0) = false := decide_eq_false (by omega)
  have e4 : decide ((15 : Int) < (o : Int)) = false := decide_eq_false (by omega)
  have e2' : decide ((r : Int) > 7) = false := decide_eq_false (by omega)
  have e4' : decide ((o : Int) > 15) = false := decide_eq_false (by omega)
  obtain rfl : A = A0 := hA
  clear w3 hA0 h1 h2 h3 h4
  have hk0 := h5 rfl
  obtain ⟨rfl, rfl, rfl, rfl⟩ : k0 = 0 ∧ k1 = 0 ∧ k2 = 0 ∧ k3 = 0 := by injection hk0 with a1 a2 a3 a4; exact ⟨a1, a2, a3, a4⟩
  have z0 : binOp .neq 5 (B 0) (.int .u8 0) = pure (.bool false) := rfl
  clear hk0 hfb hkb
  clear h5 h
  obtain ⟨W1, hW1⟩ : ∃ W, W = w.alloc (.cells #[.bool false, .int .i64 (r : Int), .int .i64 (o : Int), .bool false, B 0, B 0, B 0, B 0, S data] 34) := ⟨_, rfl⟩
  obtain ⟨W2, hW2⟩ : ∃ W, W = W1.alloc (.cells #[B (UInt8.ofNat A)] 5) := ⟨_, rfl⟩
  have hs1 : W1.heap.size = w.heap.size + 1 := by rw [hW1, alloc_size]
  have hs2 : W2.heap.size = w.heap.size + 2 := by rw [hW2, alloc_size, hs1]
  have H2 : Hid (OwB (w.heap.size + 1) (.slice (some ⟨w.heap.size + 1, 0, none⟩) 1 1) [UInt8.ofNat A] W2 ∧ w.heap.size + 1 ≤ W2.heap.size) := Lib.hid ⟨by rw [hW2, ← hs1]; exact owb_new rfl rfl (by simp) _ (Nat.le_refl _), by omega⟩
  have R2 : Hid (Row W2 w.heap.size #[.bool false, .int .i64 (r : Int), .int .i64 (o : Int), .bool false, B 0, B 0, B 0, B 0, S data] 34 ∧ Below w.heap.size w W2) := Lib.hid ⟨by rw [hW2, hW1]; exact (row_new _ _ _).alloc _, by rw [hW2, hW1]; exact ((Below.refl _ _).alloc (Nat.le_refl _) _).alloc (by rw [alloc_size]; omega) _⟩
  have HS2 := Lib.hid hs2
  have HV := Lib.hid hv
  have HN := Lib.hid hN
  rw [hW1] at hW2
  clear hW1 hs1 hs2 hv hN W1
  unfold frV frC
  dsimp only at *
  go_enter Try.func16, Try.ntmps16
  go_wp2_with first
    | (at_builtin; refine wpList_addB rfl (.tmp 95) (.tmp 99) rfl (w.heap.size + 1) W2 (.slice (some ⟨w.heap.size + 1, 0, none⟩) 1 1) rfl ([UInt8.ofNat A]) ([127]) H2.out.1 (#[.int .u8 127]) rfl (by rw [hW2]) 1 rfl (w.heap.size + 2) (HS2.out) rfl (by first | (simp; done) | (simp [be_len]; done)) H2.out.2 ?_; intro V3 W3 o3 g3
       have hr3 : Row W3 w.heap.size #[.bool false, .int .i64 (r : Int), .int .i64 (o : Int), .bool false, B 0, B 0, B 0, B 0, S data] 34 := row_grown R2.out.1 g3 (fun e => by have := (H2.out.1.lt _ e.symm).1; omega)
       have H3 : Hid (OwB (w.heap.size + 1) V3 ([UInt8.ofNat A] ++ [127]) W3 ∧ w.heap.size + 1 ≤ W3.heap.size) := Lib.hid ⟨o3, Nat.le_trans H2.out.2 g3.size⟩
       have R3 : Hid (Row W3 w.heap.size #[.bool false, .int .i64 (r : Int), .int .i64 (o : Int), .bool false, B 0, B 0, B 0, B 0, S data] 34 ∧ Below w.heap.size w W3) := Lib.hid ⟨hr3, R2.out.2.grown g3 R2.out.2.size (fun k e => by have := (H2.out.1.lt k e).1; omega)⟩
       have x33 : W3.cell? ⟨w.heap.size, 3, none⟩ = some (.bool false) := cell_of_row W3 _ 3 _ _ (0, 0) hr3
       have x34 : W3.cell? ⟨w.heap.size, 4, none⟩ = some (B 0) := cell_of_row W3 _ 4 _ _ (0, 0) hr3
       have x35 : W3.cell? ⟨w.heap.size, 5, none⟩ = some (B 0) := cell_of_row W3 _ 5 _ _ (0, 0) hr3
       have x36 : W3.cell? ⟨w.heap.size, 6, none⟩ = some (B 0) := cell_of_row W3 _ 6 _ _ (0, 0) hr3
       have x37 : W3.cell? ⟨w.heap.size, 7, none⟩ = some (B 0) := cell_of_row W3 _ 7 _ _ (0, 0) hr3
       have x38 : W3.cell? ⟨w.heap.size, 8, none⟩ = some (S data) := cell_of_row W3 _ 8 _ _ (0, 0) hr3
       clear o3 g3 hr3)
  go_loopw [7, 8] (fun vv iv wr => ∃ i : Nat, i ≤ 8 ∧ iv = .int .i64 (i : Int) ∧ Hid ((OwB (w.heap.size + 1) vv ([UInt8.ofNat A] ++ [127] ++ (be 8 N).take i) wr ∧ w.heap.size + 1 ≤ wr.heap.size) ∧ Row wr w.heap.size #[.bool false, .int .i64 (r : Int), .int .i64 (o : Int), .bool false, B 0, B 0, B 0, B 0, S data] 34 ∧ Below w.heap.size w wr)) (fun _ iv _ => 8 - (intOf iv).toNat)
  case atStart => exact ⟨0, by omega, rfl, Lib.hid ⟨by rw [List.take_zero, List.append_nil]; exact H3.out, R3.out⟩⟩
  case round =>
    obtain ⟨i, hi, rfl, HI⟩ := hrel
    have H5 := Lib.hid HI.out.1
    have R5 := Lib.hid HI.out.2
    have hrr := HI.out.2.1
    have y3 : wr.cell? ⟨w.heap.size, 3, none⟩ = some (.bool false) := cell_of_row wr _ 3 _ _ (0, 0) hrr
    have y4 : wr.cell? ⟨w.heap.size, 4, none⟩ = some (B 0) := cell_of_row wr _ 4 _ _ (0, 0) hrr
    have y5 : wr.cell? ⟨w.heap.size, 5, none⟩ = some (B 0) := cell_of_row wr _ 5 _ _ (0, 0) hrr
    have y6 : wr.cell? ⟨w.heap.size, 6, none⟩ = some (B 0) := cell_of_row wr _ 6 _ _ (0, 0) hrr
    have y7 : wr.cell? ⟨w.heap.size, 7, none⟩ = some (B 0) := cell_of_row wr _ 7 _ _ (0, 0) hrr
    have y8 : wr.cell? ⟨w.heap.size, 8, none⟩ = some (S data) := cell_of_row wr _ 8 _ _ (0, 0) hrr

    by_cases hlt : i < 8
    · have g7 : decide ((i : Int) < 8) = true := decide_eq_true (by omega)
      obtain ⟨SH, hSH⟩ : ∃ s, s = 56 - 8 * i := ⟨_, rfl⟩
      obtain ⟨D, hD⟩ : ∃ d, d = N / 2 ^ SH := ⟨_, rfl⟩
      have hd : (be 8 N)[i]? = some (UInt8.ofNat D) := by
        rw [be_get 8 N i hlt, hD, hSH, show 56 - 8 * i = 8 * (8 - 1 - i) by omega, Nat.pow_mul]
      have htk : (be 8 N).take (i + 1) = (be 8 N).take i ++ [UInt8.ofNat D] := by rw [List.take_add_one, hd]; rfl
      have v1 : IntKind.i64.wrap (8 * (i : Int)) = 8 * (i : Int) := by rw [IntKind.wrap_i64]; omega
      have v2 : IntKind.i64.wrap (56 - 8 * (i : Int)) = (SH : Int) := by rw [IntKind.wrap_i64]; omega
      have v3 : IntKind.i64.wrap ((i : Int) + 1) = (i : Int) + 1 := by rw [IntKind.wrap_i64]; omega
      have c1 : ∀ w, (convert 3 23 (.int .i64 (N : Int))).run Try.prog w = .ok (.int .u64 (N : Int)) w := conv_iu Try.underlying23 Try.underlying3 N (by omega)
      have c2 : ∀ w, (convert 3 56 (.int .i64 (SH : Int))).run Try.prog w = .ok (.int .u64 (SH : Int)) w := conv_iu Try.underlying56 Try.underlying3 SH (by omega)
      have c3 : ∀ w, (convert 23 5 (.int .u64 (D : Int))).run Try.prog w = .ok (B (UInt8.ofNat D)) w := conv_ub Try.underlying5 Try.underlying23 D
      have c4 : binOp .shr 23 (.int .u64 (N : Int)) (.int .u64 (SH : Int)) = pure (.int .u64 (D : Int)) := by rw [shr64 _ N SH (by omega), hD]
      have HT := Lib.hid htk
      have HQ : Hid (2 + i ≤ 10) := Lib.hid (by omega)
      clear htk hd hD hSH hrr
      go_wp2_with first
        | (at_builtin; refine wpList_addB rfl (.tmp 105) (.tmp 114) rfl (w.heap.size + 1) wr (u7) rfl (([UInt8.ofNat A] ++ [127] ++ (be 8 N).take i)) ([UInt8.ofNat D]) H5.out.1 (#[B (UInt8.ofNat D)]) rfl rfl 1 rfl (wr.heap.size) (rfl) rfl (by simp [be_len]; omega) H5.out.2 ?_; intro V6 W6 o6 g6
           have hr6 : Row W6 w.heap.size #[.bool false, .int .i64 (r : Int), .int .i64 (o : Int), .bool false, B 0, B 0, B 0, B 0, S data] 34 := row_grown R5.out.1 g6 (fun e => by have := (H5.out.1.lt _ e.symm).1; omega)
           have H6 : Hid (OwB (w.heap.size + 1) V6 (([UInt8.ofNat A] ++ [127] ++ (be 8 N).take i) ++ [UInt8.ofNat D]) W6 ∧ w.heap.size + 1 ≤ W6.heap.size) := Lib.hid ⟨o6, Nat.le_trans H5.out.2 g6.size⟩
           have R6 : Hid (Row W6 w.heap.size #[.bool false, .int .i64 (r : Int), .int .i64 (o : Int), .bool false, B 0, B 0, B 0, B 0, S data] 34 ∧ Below w.heap.size w W6) := Lib.hid ⟨hr6, R5.out.2.grown g6 R5.out.2.size (fun k e => by have := (H5.out.1.lt k e).1; omega)⟩
           have x63 : W6.cell? ⟨w.heap.size, 3, none⟩ = some (.bool false) := cell_of_row W6 _ 3 _ _ (0, 0) hr6
           have x64 : W6.cell? ⟨w.heap.size, 4, none⟩ = some (B 0) := cell_of_row W6 _ 4 _ _ (0, 0) hr6
           have x65 : W6.cell? ⟨w.heap.size, 5, none⟩ = some (B 0) := cell_of_row W6 _ 5 _ _ (0, 0) hr6
           have x66 : W6.cell? ⟨w.heap.size, 6, none⟩ = some (B 0) := cell_of_row W6 _ 6 _ _ (0, 0) hr6
           have x67 : W6.cell? ⟨w.heap.size, 7, none⟩ = some (B 0) := cell_of_row W6 _ 7 _ _ (0, 0) hr6
           have x68 : W6.cell? ⟨w.heap.size, 8, none⟩ = some (S data) := cell_of_row W6 _ 8 _ _ (0, 0) hr6
           clear o6 g6 hr6)
      exact ⟨⟨i + 1, by omega, by go_num, Lib.hid ⟨by rw [HT.out, ← List.append_assoc]; exact H6.out, R6.out⟩⟩, by simp [intOf]; omega⟩
    · obtain rfl : i = 8 := by omega
      have g7 : decide (((8 : Nat) : Int) < 8) = false := rfl
      have H5 : Hid (OwB (w.heap.size + 1) u7 ([UInt8.ofNat A] ++ [127] ++ be 8 N) wr ∧ w.heap.size + 1 ≤ wr.heap.size) := Lib.hid ⟨by have := HI.out.1.1; rwa [List.take_of_length_le (by rw [be_len]; exact Nat.le_refl _)] at this, HI.out.1.2⟩
      clear HI hrr
      go_wp2
      obtain ⟨LL, hLL⟩ : ∃ x, x = ([UInt8.ofNat A] ++ [127] ++ be 8 N) := ⟨_, rfl⟩
      obtain ⟨MK, hMK⟩ : ∃ x, x = maskN ⟨0, 0, 0, 0⟩ 0 data := ⟨_, rfl⟩
      have HL : Hid (bytesV ⟨false, (r : Int), (o : Int), false, ⟨0, 0, 0, 0⟩, data⟩ = .tuple #[S (LL ++ MK), .int .i64 0]) := Lib.hid (by rw [HV.out, hLL, hMK]; simp)
      have hadd : binOp .add 9 (S LL) (S MK) = pure (S (LL ++ MK)) := S_add 9 LL MK (by have := HN.out; rw [hLL, hMK, mask_len]; simp only [List.length_append, List.length_cons, List.length_nil, be_len]; omega)
      have HM : Hid (∀ w, Calls Try.prog 20 #[.agg #[B 0, B 0, B 0, B 0], .int .i64 0, S data] w fun e w' => e = .returned (S MK) ∧ Below w.heap.size w w') := Lib.hid (by rw [hMK]; exact HC.out)
      have hS : ∀ wx, Below wr.heap.size wr wx → ((wx.cell? ⟨w.heap.size, 4, none⟩ = some (B 0) ∧ wx.cell? ⟨w.heap.size, 5, none⟩ = some (B 0) ∧ wx.cell? ⟨w.heap.size, 6, none⟩ = some (B 0) ∧ wx.cell? ⟨w.heap.size, 7, none⟩ = some (B 0) ∧ wx.cell? ⟨w.heap.size, 8, none⟩ = some (S data)) ∧ (convert 48 9 u7).run Try.prog wx = .ok (S LL) wx) := fun wx hb => by
        have hrow := R5.out.1.below hb R5.out.1.lt
        exact ⟨⟨cell_of_row wx _ 4 _ _ (0, 0) hrow, cell_of_row wx _ 5 _ _ (0, 0) hrow, cell_of_row wx _ 6 _ _ (0, 0) hrow, cell_of_row wx _ 7 _ _ (0, 0) hrow, cell_of_row wx _ 8 _ _ (0, 0) hrow⟩, by rw [hLL]; exact owb_text (H5.out.1.below hb)⟩
      have HS := Lib.hid hS
      obtain ⟨Wq, hWq⟩ : ∃ Wq, Wq = wr.drew := ⟨_, rfl⟩
      have hBq : Below wr.heap.size wr Wq := by rw [hWq]; exact ⟨rfl, rfl, rfl, Nat.le_refl _, fun _ _ => rfl⟩
      have HSQ := Lib.hid (hS Wq hBq)
      have HBQ := Lib.hid hBq
      clear hS hBq hLL hMK
      refine wp_region_noPanic ?_
      refine wp_region_held_drew (S := fun wx => ((wx.cell? ⟨w.heap.size, 4, none⟩ = some (B 0) ∧ wx.cell? ⟨w.heap.size, 5, none⟩ = some (B 0) ∧ wx.cell? ⟨w.heap.size, 6, none⟩ = some (B 0) ∧ wx.cell? ⟨w.heap.size, 7, none⟩ = some (B 0) ∧ wx.cell? ⟨w.heap.size, 8, none⟩ = some (S data)) ∧ (convert 48 9 u7).run Try.prog wx = .ok (S LL) wx)) (by kernel_rfl) (by rw [← hWq]; exact HSQ.out) (fun _ => ?_)
      rw [← hWq]
      clear hWq
      refine take_at (i := 0) (d := some 133) (v := u7) rfl (by kernel_rfl) (by kernel_rfl) (by kernel_rfl) (fun _ _ _ h => h) (fun oi ho => ?_) HSQ.out ?_
      · obtain rfl := Option.some.inj ho
        exact Or.inl ⟨by rfl, fun wx hSw => by obtain ⟨⟨hu4, hu5, hu6, hu7, hu8⟩, hcx⟩ := hSw; go_simp⟩
      simp only [Act.put, List.setIfInBounds_toArray, List.set_cons_zero, List.set_cons_succ]
      refine take_at (i := 1) (d := some 134) (v := S LL) rfl (by kernel_rfl) (by kernel_rfl) (by kernel_rfl) (fun _ _ _ h => h) (fun oi ho => ?_) HSQ.out ?_
      · obtain rfl := Option.some.inj ho
        exact Or.inl ⟨by rfl, fun wx hSw => by obtain ⟨⟨hu4, hu5, hu6, hu7, hu8⟩, hcx⟩ := hSw; go_simp⟩
      simp only [Act.put, List.setIfInBounds_toArray, List.set_cons_zero, List.set_cons_succ]
      refine take_at (i := 2) (d := some 135) (v := .pointer (some ⟨w.heap.size, 4, none⟩)) rfl (by kernel_rfl) (by kernel_rfl) (by kernel_rfl) (fun _ _ _ h => h) (fun oi ho => ?_) HSQ.out ?_
      · obtain rfl := Option.some.inj ho
        exact Or.inl ⟨by rfl, fun wx hSw => by obtain ⟨⟨hu4, hu5, hu6, hu7, hu8⟩, hcx⟩ := hSw; go_simp⟩
      simp only [Act.put, List.setIfInBounds_toArray, List.set_cons_zero, List.set_cons_succ]
      refine take_at (i := 3) (d := some 136) (v := .agg #[B 0, B 0, B 0, B 0]) rfl (by kernel_rfl) (by kernel_rfl) (by kernel_rfl) (fun _ _ _ h => h) (fun oi ho => ?_) HSQ.out ?_
      · obtain rfl := Option.some.inj ho
        exact Or.inl ⟨by rfl, fun wx hSw => by obtain ⟨⟨hu4, hu5, hu6, hu7, hu8⟩, hcx⟩ := hSw; go_simp⟩
      simp only [Act.put, List.setIfInBounds_toArray, List.set_cons_zero, List.set_cons_succ]
      refine take_at (i := 4) (d := some 137) (v := .pointer (some ⟨w.heap.size, 8, none⟩)) rfl (by kernel_rfl) (by kernel_rfl) (by kernel_rfl) (fun _ _ _ h => h) (fun oi ho => ?_) HSQ.out ?_
      · obtain rfl := Option.some.inj ho
        exact Or.inl ⟨by rfl, fun wx hSw => by obtain ⟨⟨hu4, hu5, hu6, hu7, hu8⟩, hcx⟩ := hSw; go_simp⟩
      simp only [Act.put, List.setIfInBounds_toArray, List.set_cons_zero, List.set_cons_succ]
      refine take_at (i := 5) (d := some 138) (v := S data) rfl (by kernel_rfl) (by kernel_rfl) (by kernel_rfl) (fun _ _ _ h => h) (fun oi ho => ?_) HSQ.out ?_
      · obtain rfl := Option.some.inj ho
        exact Or.inl ⟨by rfl, fun wx hSw => by obtain ⟨⟨hu4, hu5, hu6, hu7, hu8⟩, hcx⟩ := hSw; go_simp⟩
      simp only [Act.put, List.setIfInBounds_toArray, List.set_cons_zero, List.set_cons_succ]
      refine ready_call (i := 6) (d := some 139) (f := 20) (args := #[.agg #[B 0, B 0, B 0, B 0], .int .i64 0, S data]) rfl (by kernel_rfl) (fun oi ho => ?_) ?_
      · obtain rfl := Option.some.inj ho
        exact ⟨by rfl, by go_simp⟩
      refine (HM.out Wq).mono ?_
      rintro e Wz ⟨rfl, hBz⟩
      have hBy := HBQ.out.trans (hBz.mono HBQ.out.size)
      have HSZ := Lib.hid (HS.out Wz hBy)
      have HE := Lib.hid (R5.out.2.trans (hBy.mono R5.out.2.size))
      clear hBz hBy
      refine ⟨_, rfl, HSZ.out, ?_⟩
      simp only [Act.put, List.setIfInBounds_toArray, List.set_cons_zero, List.set_cons_succ]
      refine take_at (i := 7) (d := some 140) (v := S (LL ++ MK)) rfl (by kernel_rfl) (by kernel_rfl) (by kernel_rfl) (fun _ _ _ h => h) (fun oi ho => ?_) HSZ.out ?_
      · obtain rfl := Option.some.inj ho
        exact Or.inl ⟨by rfl, fun wx hSw => by obtain ⟨⟨hu4, hu5, hu6, hu7, hu8⟩, hcx⟩ := hSw; go_simp⟩
      simp only [Act.put, List.setIfInBounds_toArray, List.set_cons_zero, List.set_cons_succ]
      refine take_at (i := 8) (d := some 2) (v := S (LL ++ MK)) rfl (by kernel_rfl) (by kernel_rfl) (by kernel_rfl) (fun _ _ _ h => h) (fun oi ho => ?_) HSZ.out ?_
      · obtain rfl := Option.some.inj ho
        exact Or.inl ⟨by rfl, fun wx hSw => by obtain ⟨⟨hu4, hu5, hu6, hu7, hu8⟩, hcx⟩ := hSw; go_simp⟩
      simp only [Act.put, List.setIfInBounds_toArray, List.set_cons_zero, List.set_cons_succ]
      refine take_at (i := 9) (d := some 3) (v := .int .i64 0) rfl (by kernel_rfl) (by kernel_rfl) (by kernel_rfl) (fun _ _ _ h => h) (fun oi ho => ?_) HSZ.out ?_
      · obtain rfl := Option.some.inj ho
        exact Or.inl ⟨by rfl, fun wx hSw => by obtain ⟨⟨hu4, hu5, hu6, hu7, hu8⟩, hcx⟩ := hSw; go_simp⟩
      simp only [Act.put, List.setIfInBounds_toArray, List.set_cons_zero, List.set_cons_succ]
      refine wpAnyH_done (by kernel_rfl) ?_ _
      refine NoPanic.normal ?_
      try simp only [Act.put]
      go_wp2
      go_ret2
      exact ⟨by rw [HL.out]; rfl, HE.out⟩
end Go.Proofs.Ytepamoikoinhdaa
