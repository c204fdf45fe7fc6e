/- FrameKnown (stage 15) walked, over any package of frames. (mkex.py writes it.) -/
import Derived.Test.YtepamoikoinhdaaEv
import Derived.Test.YtepamoikoinhdaaRr
namespace Go.Proofs.Ytepamoikoinhdaa
open Go.RowKit
attribute [local go_sem] store_one B_match B_store S_match S_store

theorem idxI (b n c i : Nat) (hi : i < n) (w' : World) : (Instr.indexAt 28 (.slice (some ⟨b, 0, none⟩) n c) (.int .i64 (i : Int))).run Try.prog w' = .ok (.pointer (some ⟨b, i, none⟩)) w' := by
  have := run_index_at (P := Try.prog) Try.underlying28 (fun w => Try.sizeOf3 w) b 0 n c i hi w'
  rwa [Nat.mul_one, Nat.zero_add] at this
theorem kn_key : key0.k0 = 0 ∧ key0.k1 = 0 ∧ key0.k2 = 0 ∧ key0.k3 = 0 := ⟨rfl, rfl, rfl, rfl⟩
set_option maxRecDepth 100000 in
set_option maxHeartbeats 2000000 in
theorem known15_any {w : World} (C : FrameI w) : Calls Try.prog 3 #[] w fun e w' => e = .returned (.bool true) ∧ Below w.heap.size w w' := by
  have HH : Hid (∀ W, Below w.heap.size w W → Calls Try.prog 11 #[.string ⟨#[129, 126, 0, 5]⟩] W fun e w' => e = .returned (.tuple #[.agg #[.bool true, .int .i64 0, .int .i64 1, .bool false, .int .u8 0, .int .u8 0, .int .u8 0, .int .u8 0, .int .u64 5, .bool false], .int .i64 4, .bool true]) ∧ Below W.heap.size W w') := Lib.hid fun W hb => C.head [129, 126, 0, 5] W hb (by decide)
  have HC := Lib.hid (HH.out w (Below.refl _ _))
  have HCC := Lib.hid C
  clear HH C
  go_enter Try.func3, Try.ntmps3
  go_wp2_with fail
  refine HC.out.mono ?_
  rintro e W1 ⟨rfl, hB1⟩
  clear HC
  obtain ⟨b1, hb1⟩ : ∃ b, b = W1.heap.size := ⟨_, rfl⟩
  obtain ⟨W2, hW2⟩ : ∃ W, W = W1.alloc (.cells #[.bool true, .int .i64 0, .int .i64 1, .bool false, .int .u8 0, .int .u8 0, .int .u8 0, .int .u8 0, .int .u64 5, .bool false] 25) := ⟨_, rfl⟩
  obtain ⟨b2, hb2⟩ : ∃ b, b = W1.heap.size + 1 := ⟨_, rfl⟩
  have hs2 : W2.heap.size = b2 := by rw [hW2, alloc_size, hb2]
  obtain ⟨W3, hW3⟩ : ∃ W, W = W2.alloc (.cells #[.int .i64 0, .int .i64 125, .int .i64 126, .int .i64 65535, .int .i64 65536] 3) := ⟨_, rfl⟩
  have hr2 : Row W2 b1 #[.bool true, .int .i64 0, .int .i64 1, .bool false, .int .u8 0, .int .u8 0, .int .u8 0, .int .u8 0, .int .u64 5, .bool false] 25 := by rw [hW2, hb1]; exact row_new _ _ _
  have hB2 : Below w.heap.size w W2 := by rw [hW2]; exact hB1.alloc hB1.size _
  have H3 : Hid (Row W3 b1 #[.bool true, .int .i64 0, .int .i64 1, .bool false, .int .u8 0, .int .u8 0, .int .u8 0, .int .u8 0, .int .u64 5, .bool false] 25 ∧ Row W3 b2 #[.int .i64 0, .int .i64 125, .int .i64 126, .int .i64 65535, .int .i64 65536] 3 ∧ Below w.heap.size w W3) := Lib.hid ⟨by rw [hW3]; exact hr2.alloc _, by rw [hW3, ← hs2]; exact row_new _ _ _, by rw [hW3]; exact hB2.alloc hB2.size _⟩
  clear hr2 hB2 hB1
  go_wp2
  rw [← hW2, ← hW3, ← hb2, ← hb1]
  clear hW2 hW3 hb2 hb1 hs2
  go_loopw [27] (fun iv wr => ∃ i : Nat, i ≤ 5 ∧ iv = .int .i64 (i : Int) ∧ Hid (Row wr b1 #[.bool true, .int .i64 0, .int .i64 1, .bool false, .int .u8 0, .int .u8 0, .int .u8 0, .int .u8 0, .int .u64 5, .bool false] 25 ∧ Row wr b2 #[.int .i64 0, .int .i64 125, .int .i64 126, .int .i64 65535, .int .i64 65536] 3 ∧ Below w.heap.size w wr)) (fun iv _ => 5 - (intOf iv).toNat)
  case atStart => exact ⟨0, Nat.zero_le _, rfl, H3⟩
  case round =>
    obtain ⟨i, hi, rfl, HR⟩ := hrel
    have hw1 : IntKind.i64.wrap ((i : Int) + 1) = (i : Int) + 1 := by rw [IntKind.wrap_i64]; omega
    by_cases hlt : i < 5
    case pos =>
      have g1 : decide ((i : Int) < 5) = true := decide_eq_true (by omega)
      obtain ⟨k, hk, hki⟩ : ∃ k : Nat, k ≤ 65536 ∧ (#[.int .i64 0, .int .i64 125, .int .i64 126, .int .i64 65535, .int .i64 65536] : Array Value)[i]? = some (.int .i64 (k : Int)) := by
        have : i = 0 ∨ i = 1 ∨ i = 2 ∨ i = 3 ∨ i = 4 := by omega
        rcases this with rfl | rfl | rfl | rfl | rfl
        · exact ⟨0, by omega, rfl⟩
        · exact ⟨125, by omega, rfl⟩
        · exact ⟨126, by omega, rfl⟩
        · exact ⟨65535, by omega, rfl⟩
        · exact ⟨65536, by omega, rfl⟩
      have ck : wr.cell? ⟨b2, i, none⟩ = some (.int .i64 (k : Int)) := (cell_of_row wr b2 i _ _ (0, 0) HR.out.2.1).trans hki
      have hix := fun w' => idxI b2 5 5 i hlt w'
      obtain ⟨X, hX⟩ : ∃ X : List UInt8, X = List.replicate k 120 := ⟨_, rfl⟩
      have hXl : X.length = k := by rw [hX, List.length_replicate]
      obtain ⟨f, hf⟩ : ∃ f : Frm, f = ⟨false, 0, 2, false, key0, X⟩ := ⟨_, rfl⟩
      have hok : okFr f = true := by rw [hf]; rfl
      have hfd : f.data.length = k := by rw [hf]; exact hXl
      have hhl := headB_len f
      have hbl := bytesF_len f
      obtain ⟨T, hT⟩ : ∃ T, T = bytesF f := ⟨_, rfl⟩
      obtain ⟨LT, hLT⟩ : ∃ L, L = T.length := ⟨_, rfl⟩
      obtain ⟨LH, hLH⟩ : ∃ L, L = (headB f).length := ⟨_, rfl⟩
      rw [← hT, ← hLT, ← hLH, hfd] at hbl
      rw [← hLH] at hhl
      have hlT := run_len_S (P := Try.prog) Try.underlying9 3 T
      rw [← hLT] at hlT
      have hcw : ∀ w', (convert 3 23 (.int .i64 (k : Int))).run Try.prog w' = .ok (.int .u64 (k : Int)) w' := conv_iu (P := Try.prog) (by kernel_rfl) (by kernel_rfl) k (by omega)
      have wr1 : IntKind.i64.wrap ((LT : Int) - (k : Int)) = (LH : Int) := by rw [IntKind.wrap_i64]; omega
      have z3 : ((LH : Int) != (LH : Int)) = false := by simp
      have z4 : ((k : Int) != (k : Int)) = false := by simp
      have HRP : Hid (∀ W, Calls Try.prog 13 #[.string ⟨#[120]⟩, .int .i64 (k : Int)] W fun e w' => e = .returned (S X) ∧ Below W.heap.size W w') := Lib.hid fun W => by rw [hX]; exact rep_any 120 k (by omega) W
      have HY : Hid (∀ W, Below w.heap.size w W → Calls Try.prog 12 #[.agg #[.bool false, .int .i64 0, .int .i64 2, .bool false, .int .u8 0, .int .u8 0, .int .u8 0, .int .u8 0, S X]] W fun e w' => e = .returned (.tuple #[S T, .int .i64 0]) ∧ Below W.heap.size W w') := Lib.hid fun W hb => by
        have := HCC.out.bytes f W hb (by omega)
        rw [show bytesV f = .tuple #[S T, .int .i64 0] by unfold bytesV; rw [if_pos hok, if_pos hok, hT]] at this
        rw [hf] at this
        exact this
      have HH : Hid (∀ W, Below w.heap.size w W → Calls Try.prog 11 #[S T] W fun e w' => e = .returned (.tuple #[.agg #[.bool false, .int .i64 0, .int .i64 2, .bool false, .int .u8 0, .int .u8 0, .int .u8 0, .int .u8 0, .int .u64 (k : Int), .bool true], .int .i64 (LH : Int), .bool true]) ∧ Below W.heap.size W w') := Lib.hid fun W hb => by
        have := HCC.out.head T W hb (by omega)
        rw [hT, show bytesF f = headB f ++ maskN f.key 0 f.data from rfl, head_back hok (by omega), ← hLH] at this
        rw [hT, show bytesF f = headB f ++ maskN f.key 0 f.data from rfl]
        have he : hdOf f = ⟨false, 0, 2, false, key0, k, true⟩ := by unfold hdOf; rw [hfd, hf]; rfl
        rw [he] at this
        exact this
      clear hX hXl hf hok hfd hhl hbl hT hLT hLH hki hk
      go_wp2_with fail
      refine (HRP.out _).mono ?_
      rintro e V1 ⟨rfl, hv1⟩
      have HV1 := Lib.hid (And.intro (HR.out.1.below hv1 HR.out.1.lt) (And.intro (HR.out.2.1.below hv1 HR.out.2.1.lt) (HR.out.2.2.trans (hv1.mono HR.out.2.2.size))))
      have HC1 := Lib.hid (HY.out V1 HV1.out.2.2)
      clear hv1 HR HRP ck
      go_wp2_with fail
      refine HC1.out.mono ?_
      rintro e V2 ⟨rfl, hv2⟩
      have HV2 := Lib.hid (And.intro (HV1.out.1.below hv2 HV1.out.1.lt) (And.intro (HV1.out.2.1.below hv2 HV1.out.2.1.lt) (HV1.out.2.2.trans (hv2.mono HV1.out.2.2.size))))
      have HC2 := Lib.hid (HH.out V2 HV2.out.2.2)
      clear hv2 HV1 HC1
      go_wp2_with fail
      refine HC2.out.mono ?_
      rintro e V3 ⟨rfl, hv3⟩
      have HV3 := Lib.hid (And.intro (HV2.out.1.below hv3 HV2.out.1.lt) (And.intro (HV2.out.2.1.below hv3 HV2.out.2.1.lt) (HV2.out.2.2.trans (hv3.mono HV2.out.2.2.size))))
      clear hv3 HV2 HC2
      obtain ⟨V4, hV4⟩ : ∃ W, W = V3.alloc (.cells #[.bool false, .int .i64 0, .int .i64 2, .bool false, .int .u8 0, .int .u8 0, .int .u8 0, .int .u8 0, .int .u64 (k : Int), .bool true] 25) := ⟨_, rfl⟩
      have hr4 : Row V4 V3.heap.size #[.bool false, .int .i64 0, .int .i64 2, .bool false, .int .u8 0, .int .u8 0, .int .u8 0, .int .u8 0, .int .u64 (k : Int), .bool true] 25 := by rw [hV4]; exact row_new _ _ _
      have HE : Hid (Row V4 b1 #[.bool true, .int .i64 0, .int .i64 1, .bool false, .int .u8 0, .int .u8 0, .int .u8 0, .int .u8 0, .int .u64 5, .bool false] 25 ∧ Row V4 b2 #[.int .i64 0, .int .i64 125, .int .i64 126, .int .i64 65535, .int .i64 65536] 3 ∧ Below w.heap.size w V4) := Lib.hid ⟨by rw [hV4]; exact HV3.out.1.alloc _, by rw [hV4]; exact HV3.out.2.1.alloc _, by rw [hV4]; exact HV3.out.2.2.alloc HV3.out.2.2.size _⟩
      have d0 : V4.cell? ⟨V3.heap.size, 0, none⟩ = some (.bool false) := cell_of_row V4 _ 0 _ _ (0, 0) hr4
      have d1 : V4.cell? ⟨V3.heap.size, 1, none⟩ = some (.int .i64 0) := cell_of_row V4 _ 1 _ _ (0, 0) hr4
      have d2 : V4.cell? ⟨V3.heap.size, 2, none⟩ = some (.int .i64 2) := cell_of_row V4 _ 2 _ _ (0, 0) hr4
      have d3 : V4.cell? ⟨V3.heap.size, 3, none⟩ = some (.bool false) := cell_of_row V4 _ 3 _ _ (0, 0) hr4
      have d4 : V4.cell? ⟨V3.heap.size, 4, none⟩ = some (.int .u8 0) := cell_of_row V4 _ 4 _ _ (0, 0) hr4
      have d5 : V4.cell? ⟨V3.heap.size, 5, none⟩ = some (.int .u8 0) := cell_of_row V4 _ 5 _ _ (0, 0) hr4
      have d6 : V4.cell? ⟨V3.heap.size, 6, none⟩ = some (.int .u8 0) := cell_of_row V4 _ 6 _ _ (0, 0) hr4
      have d7 : V4.cell? ⟨V3.heap.size, 7, none⟩ = some (.int .u8 0) := cell_of_row V4 _ 7 _ _ (0, 0) hr4
      have d8 : V4.cell? ⟨V3.heap.size, 8, none⟩ = some (.int .u64 (k : Int)) := cell_of_row V4 _ 8 _ _ (0, 0) hr4
      have d9 : V4.cell? ⟨V3.heap.size, 9, none⟩ = some (.bool true) := cell_of_row V4 _ 9 _ _ (0, 0) hr4
      clear hr4 HV3
      rw [hV4] at d0 d1 d2 d3 d4 d5 d6 d7 d8 d9
      go_wp2
      rw [← hV4]
      exact ⟨⟨i + 1, by omega, by go_num, HE⟩, by simp [intOf]; omega⟩
    case neg =>
      obtain rfl : i = 5 := by omega
      have HA1 : Hid (∀ W, Below w.heap.size w W → Calls Try.prog 12 #[.agg #[.bool false, .int .i64 0, .int .i64 16, .bool false, .int .u8 0, .int .u8 0, .int .u8 0, .int .u8 0, .string ⟨#[]⟩]] W fun e w' => e = .returned (.tuple #[.string ⟨#[]⟩, .int .i64 1]) ∧ Below W.heap.size W w') := Lib.hid fun W hb => HCC.out.bytes ⟨false, 0, 16, false, key0, []⟩ W hb (by decide)
      have HA2 : Hid (∀ W, Below w.heap.size w W → Calls Try.prog 12 #[.agg #[.bool false, .int .i64 8, .int .i64 0, .bool false, .int .u8 0, .int .u8 0, .int .u8 0, .int .u8 0, .string ⟨#[]⟩]] W fun e w' => e = .returned (.tuple #[.string ⟨#[]⟩, .int .i64 1]) ∧ Below W.heap.size W w') := Lib.hid fun W hb => HCC.out.bytes ⟨false, 8, 0, false, key0, []⟩ W hb (by decide)
      have HA3 : Hid (∀ W, Below w.heap.size w W → Calls Try.prog 12 #[.agg #[.bool false, .int .i64 0, .int .i64 0, .bool false, .int .u8 1, .int .u8 0, .int .u8 0, .int .u8 0, .string ⟨#[]⟩]] W fun e w' => e = .returned (.tuple #[.string ⟨#[]⟩, .int .i64 1]) ∧ Below W.heap.size W w') := Lib.hid fun W hb => HCC.out.bytes ⟨false, 0, 0, false, ⟨1, 0, 0, 0⟩, []⟩ W hb (by decide)
      have HA4 : Hid (∀ W, Below w.heap.size w W → Calls Try.prog 14 #[.string ⟨#[130, 127, 0, 0, 0, 0, 128, 0, 0, 0]⟩] W fun e w' => e = .returned (.tuple #[.agg #[.bool false, .int .i64 0, .int .i64 0, .bool false, .int .u8 0, .int .u8 0, .int .u8 0, .int .u8 0, .string ⟨#[]⟩], .int .i64 0, .int .i64 3]) ∧ Below W.heap.size W w') := Lib.hid fun W hb => HCC.out.read [130, 127, 0, 0, 0, 0, 128, 0, 0, 0] W hb (by decide)
      have HC1 := Lib.hid (HA1.out wr HR.out.2.2)
      go_wp2_with fail
      refine HC1.out.mono ?_
      rintro e V1 ⟨rfl, hv1⟩
      have HV1 := Lib.hid (And.intro (HR.out.1.below hv1 HR.out.1.lt) (HR.out.2.2.trans (hv1.mono HR.out.2.2.size)))
      have HC2 := Lib.hid (HA2.out V1 HV1.out.2)
      clear hv1 HR HA1 HA2 HC1
      go_wp2_with fail
      refine HC2.out.mono ?_
      rintro e V2 ⟨rfl, hv2⟩
      have HV2 := Lib.hid (And.intro (HV1.out.1.below hv2 HV1.out.1.lt) (HV1.out.2.trans (hv2.mono HV1.out.2.size)))
      have HC3 := Lib.hid (HA3.out V2 HV2.out.2)
      clear hv2 HV1 HA3 HC2
      go_wp2_with fail
      refine HC3.out.mono ?_
      rintro e V3 ⟨rfl, hv3⟩
      have HV3 := Lib.hid (And.intro (HV2.out.1.below hv3 HV2.out.1.lt) (HV2.out.2.trans (hv3.mono HV2.out.2.size)))
      have HC4 := Lib.hid (HA4.out V3 HV3.out.2)
      clear hv3 HV2 HA4 HC3
      go_wp2_with fail
      refine HC4.out.mono ?_
      rintro e V4 ⟨rfl, hv4⟩
      have hrr := HV3.out.1.below hv4 HV3.out.1.lt
      have hbb := HV3.out.2.trans (hv4.mono HV3.out.2.size)
      clear hv4 HV3 HC4
      obtain ⟨V5, hV5⟩ : ∃ W, W = V4.alloc (.cells #[.bool false, .int .i64 0, .int .i64 0, .bool false, .int .u8 0, .int .u8 0, .int .u8 0, .int .u8 0, .string ⟨#[]⟩] 34) := ⟨_, rfl⟩
      have HV5 : Hid (Row V5 b1 #[.bool true, .int .i64 0, .int .i64 1, .bool false, .int .u8 0, .int .u8 0, .int .u8 0, .int .u8 0, .int .u64 5, .bool false] 25 ∧ Below w.heap.size w V5) := Lib.hid ⟨by rw [hV5]; exact hrr.alloc _, by rw [hV5]; exact hbb.alloc hbb.size _⟩
      have HCA := Lib.hid (awake15_any (HCC.out.up HV5.out.2))
      rw [hV5] at HCA
      clear hrr hbb HCC
      go_wp2_with fail
      refine HCA.out.mono ?_
      rintro e V6 ⟨rfl, hv6⟩
      rw [← hV5] at hv6
      clear hV5 HCA
      have hr6 := HV5.out.1.below hv6 HV5.out.1.lt
      have HE := Lib.hid (HV5.out.2.trans (hv6.mono HV5.out.2.size))
      have d0 : V6.cell? ⟨b1, 0, none⟩ = some (.bool true) := cell_of_row V6 _ 0 _ _ (0, 0) hr6
      have d1 : V6.cell? ⟨b1, 1, none⟩ = some (.int .i64 0) := cell_of_row V6 _ 1 _ _ (0, 0) hr6
      have d2 : V6.cell? ⟨b1, 2, none⟩ = some (.int .i64 1) := cell_of_row V6 _ 2 _ _ (0, 0) hr6
      have d3 : V6.cell? ⟨b1, 3, none⟩ = some (.bool false) := cell_of_row V6 _ 3 _ _ (0, 0) hr6
      have d4 : V6.cell? ⟨b1, 4, none⟩ = some (.int .u8 0) := cell_of_row V6 _ 4 _ _ (0, 0) hr6
      have d5 : V6.cell? ⟨b1, 5, none⟩ = some (.int .u8 0) := cell_of_row V6 _ 5 _ _ (0, 0) hr6
      have d6 : V6.cell? ⟨b1, 6, none⟩ = some (.int .u8 0) := cell_of_row V6 _ 6 _ _ (0, 0) hr6
      have d7 : V6.cell? ⟨b1, 7, none⟩ = some (.int .u8 0) := cell_of_row V6 _ 7 _ _ (0, 0) hr6
      have d8 : V6.cell? ⟨b1, 8, none⟩ = some (.int .u64 5) := cell_of_row V6 _ 8 _ _ (0, 0) hr6
      have d9 : V6.cell? ⟨b1, 9, none⟩ = some (.bool false) := cell_of_row V6 _ 9 _ _ (0, 0) hr6
      have eh : ∀ w', (Op.equalIn 10000 25 (.agg #[.bool true, .int .i64 0, .int .i64 1, .bool false, .int .u8 0, .int .u8 0, .int .u8 0, .int .u8 0, .int .u64 5, .bool false]) (.agg #[.bool true, .int .i64 0, .int .i64 1, .bool false, .int .u8 0, .int .u8 0, .int .u8 0, .int .u8 0, .int .u64 5, .bool false])).run Try.prog w' = .ok true w' := fun w' => eqin_head (⟨true, 0, 1, false, key0, 5, false⟩ : Hd) w'
      have gh : ∀ x y w', (eqGuard .eql 25 x y (.agg #[.bool true, .int .i64 0, .int .i64 1, .bool false, .int .u8 0, .int .u8 0, .int .u8 0, .int .u8 0, .int .u64 5, .bool false]) (.agg #[.bool true, .int .i64 0, .int .i64 1, .bool false, .int .u8 0, .int .u8 0, .int .u8 0, .int .u8 0, .int .u64 5, .bool false])).run Try.prog w' = .ok () w' := fun x y w' => run_eqGuard_agg w' .eql 25 x y _ _ (by kernel_rfl)
      go_wp2
      go_ret
      exact ⟨rfl, HE.out⟩
end Go.Proofs.Ytepamoikoinhdaa
