/- The law's PathBytes, PathKnown (stage 11) walked. (mkaf.py writes it.) -/
import Derived.Test.YtmklgjbfdaleiaaDoorAe
namespace Go.Proofs.YtmklgjbfdaleiaaDoor
open Go.RowKit
attribute [local go_sem] store_one B_match B_store S_match S_store eguard_BN nguard_BN

theorem split_yes {w : World} (C : PathI w) (s : List UInt8) (l : List (List UInt8)) (hs : s.length ≤ 100000) (h : splitF s = some l) (W : World) (hW : Below w.heap.size w W) :
    Calls Tryd.prog 9 #[S s] W fun e w' => ∃ V, e = .returned (.tuple #[V, .bool true]) ∧ TxAt W V l w' := split_at C s (some l) hs h W hW
theorem split_no {w : World} (C : PathI w) (s : List UInt8) (hs : s.length ≤ 100000) (h : splitF s = none) (W : World) (hW : Below w.heap.size w W) :
    Calls Tryd.prog 9 #[S s] W fun e w' => ∃ V, e = .returned (.tuple #[V, .bool false]) ∧ TxAt W V [] w' := split_at C s none hs h W hW
theorem conv_two {W : World} {g : Nat} {a b : UInt8} {q : Nat} (h : Row W g #[B a, B b] 5) : (convert 31 9 (.slice (some ⟨g, 0, none⟩) 2 q)).run Tryd.prog W = .ok (S [a, b]) W := by
  refine run_convert_bytes_back (P := Tryd.prog) _ 31 9 5 ⟨g, 0, none⟩ q [a, b] Tryd.underlying31 Tryd.underlying5 Tryd.underlying9 (fun j hj => ?_)
  rw [Addr.add_mid]
  match j, hj with
  | 0, _ => exact cell_of_row _ _ 0 _ 5 (0, 0) h
  | 1, _ => exact cell_of_row _ _ 1 _ 5 (0, 0) h
set_option maxRecDepth 100000 in
set_option maxHeartbeats 1000000 in
theorem bytes11_any {w : World} (C : PathI w) (a b : UInt8) (s : List UInt8) : Calls Tryd.prog 6 #[B a, B b, S s] w fun e w' => e = .returned (.bool true) ∧ Below w.heap.size w w' := by
  have HC := Lib.hid C
  have HAW := Lib.hid (awake11_any C)
  have hlen := run_len_S (P := Tryd.prog) Tryd.underlying9 3 s
  obtain ⟨L, hL⟩ : ∃ L, L = s.length := ⟨_, rfl⟩
  rw [← hL] at hlen
  have HL := Lib.hid hL
  clear C hL
  go_enter Tryd.func6, Tryd.ntmps6
  go_wp2_with fail
  refine HAW.out.mono ?_
  rintro e W1 ⟨rfl, hB⟩
  have H1 := Lib.hid hB
  clear hB HAW
  by_cases h2 : 200 < L
  · have g1 : decide ((200 : Int) < (L : Int)) = true := decide_eq_true (by omega)
    go_wp2
    go_ret
    exact ⟨rfl, H1.out⟩
  have g1 : decide ((200 : Int) < (L : Int)) = false := decide_eq_false (by omega)
  have hs2 : s.length ≤ 200 := by rw [← HL.out]; omega
  have hcv := fun q => conv_two (q := q) (row_new W1 #[B a, B b] 5)
  have z1 : binOp .add 9 (.string ⟨#[47]⟩) (S [a, b]) = pure (S [47, a, b]) := S_add 9 [47] [a, b] (by simp)
  have z2 : binOp .add 9 (S [47, a, b]) (.string ⟨#[47]⟩) = pure (S [47, a, b, 47]) := S_add 9 [47, a, b] [47] (by simp)
  have z3 : binOp .add 9 (S [47, a, b, 47]) (S s) = pure (S ([47, a, b, 47] ++ s)) := S_add 9 [47, a, b, 47] s (by show 4 + _ ≤ _; omega)
  have z4 : binOp .add 9 (.string ⟨#[47, 37]⟩) (S [a, b]) = pure (S [47, 37, a, b]) := S_add 9 [47, 37] [a, b] (by simp)
  have z5 : binOp .add 9 (S [47, 37, a, b]) (S s) = pure (S ([47, 37, a, b] ++ s)) := S_add 9 [47, 37, a, b] s (by show 4 + _ ≤ _; omega)
  have z6 : binOp .add 9 (.string ⟨#[47, 46]⟩) (S [a, b]) = pure (S [47, 46, a, b]) := S_add 9 [47, 46] [a, b] (by simp)
  have hsl : ∀ w, (Instr.slice 9 (S [a, b]) none (some (.int .i64 1)) none).run Tryd.prog w = .ok (S [a]) w := fun w => slice_take (P := Tryd.prog) Tryd.underlying9 [a, b] 1 (by simp) w
  obtain ⟨X1, hX1⟩ : ∃ X, X = [47, a, b] := ⟨_, rfl⟩
  obtain ⟨X2, hX2⟩ : ∃ X, X = [47, a, b, 47] := ⟨_, rfl⟩
  obtain ⟨X3, hX3⟩ : ∃ X, X = [47, a, b, 47] ++ s := ⟨_, rfl⟩
  obtain ⟨X4, hX4⟩ : ∃ X, X = [47, 37, a, b] := ⟨_, rfl⟩
  obtain ⟨X5, hX5⟩ : ∃ X, X = [47, 37, a, b] ++ s := ⟨_, rfl⟩
  obtain ⟨X6, hX6⟩ : ∃ X, X = [47, 46, a, b] := ⟨_, rfl⟩
  rw [← hX1] at z1 z2
  rw [← hX3] at z3
  rw [← hX2] at z2 z3
  rw [← hX5] at z5
  rw [← hX4] at z4 z5
  rw [← hX6] at z6
  clear hX1 hX2 hX3 hX4 hX5 hX6 hs2
  have HB2 : Hid (Below w.heap.size w (W1.alloc (.cells #[B a, B b] 5))) := Lib.hid (H1.out.alloc H1.out.size _)
  have HS1 := Lib.hid (splits11_any (HC.out.up HB2.out) X3)
  go_wp2_with fail
  clear hcv
  refine HS1.out.mono ?_
  rintro e W3 ⟨rfl, hB⟩
  have H3 := Lib.hid (HB2.out.trans (hB.mono HB2.out.size))
  clear hB HS1
  have HS2 := Lib.hid (splits11_any (HC.out.up H3.out) X5)
  go_wp2_with fail
  refine HS2.out.mono ?_
  rintro e W4 ⟨rfl, hB⟩
  have H4 := Lib.hid (H3.out.trans (hB.mono H3.out.size))
  clear hB HS2
  have HS3 := Lib.hid (splits11_any (HC.out.up H4.out) X6)
  go_wp2_with fail
  refine HS3.out.mono ?_
  rintro e W5 ⟨rfl, hB⟩
  have H5 := Lib.hid (H4.out.trans (hB.mono H4.out.size))
  clear hB HS3
  have HB6 : Hid (Below w.heap.size w (W5.alloc (.cells #[S [a, b], S s] 9))) := Lib.hid (H5.out.alloc H5.out.size _)
  have HJ1 := Lib.hid (joins11_any (HC.out.up HB6.out) [[a, b], s] (.slice (some ⟨W5.heap.size, 0, none⟩) 2 2) W5.heap.size 0 (ta_row (row_new W5 #[S [a, b], S s] 9) rfl))
  go_wp2_with fail
  refine HJ1.out.mono ?_
  rintro e W7 ⟨rfl, hB⟩
  have H7 := Lib.hid (HB6.out.trans (hB.mono HB6.out.size))
  clear hB HJ1
  have HB8 : Hid (Below w.heap.size w (W7.alloc (.cells #[S [a]] 9))) := Lib.hid (H7.out.alloc H7.out.size _)
  have HJ2 := Lib.hid (joins11_any (HC.out.up HB8.out) [[a]] (.slice (some ⟨W7.heap.size, 0, none⟩) 1 1) W7.heap.size 0 (ta_row (row_new W7 #[S [a]] 9) rfl))
  go_wp2_with fail
  refine HJ2.out.mono ?_
  rintro e W9 ⟨rfl, hB⟩
  have H9 := Lib.hid (HB8.out.trans (hB.mono HB8.out.size))
  clear hB HJ2
  go_wp2
  go_ret
  exact ⟨rfl, H9.out⟩
set_option maxRecDepth 100000 in
set_option maxHeartbeats 2000000 in
theorem known11_any {w : World} (C : PathI w) : Calls Tryd.prog 3 #[] w fun e w' => e = .returned (.bool true) ∧ Below w.heap.size w w' := by
  have HC := Lib.hid C
  clear C
  go_enter Tryd.func3, Tryd.ntmps3
  have HS0 := Lib.hid (split_yes HC.out [47] [[]] (by decide) (by decide) w (Below.refl _ _))
  go_wp2_with fail
  refine HS0.out.mono ?_
  rintro e W1 ⟨V0, rfl, hX⟩
  have HB1 := Lib.hid hX.2
  have HA := Lib.hid hX
  clear hX HS0
  have HS1 := Lib.hid (split_yes HC.out [47, 37, 52, 49] [[65]] (by decide) (by decide) W1 HB1.out)
  go_wp2_with fail
  refine HS1.out.mono ?_
  rintro e W2 ⟨V1, rfl, hX⟩
  have HB2 := Lib.hid (HB1.out.trans (hX.2.mono HB1.out.size))
  have HA1 := Lib.hid (HA.out.below hX.2)
  have HD1 := Lib.hid hX
  clear hX HS1
  have HS2 := Lib.hid (split_no HC.out [47, 97, 47, 46, 46, 47, 98] (by decide) (by decide) W2 HB2.out)
  go_wp2_with fail
  refine HS2.out.mono ?_
  rintro e W3 ⟨V2, rfl, hX⟩
  have HB3 := Lib.hid (HB2.out.trans (hX.2.mono HB2.out.size))
  have HA2 := Lib.hid (HA1.out.below hX.2)
  have HD2 := Lib.hid (HD1.out.below hX.2)
  clear hX HS2
  have HS3 := Lib.hid (split_no HC.out [47, 37, 50, 101, 37, 50, 69] (by decide) (by decide) W3 HB3.out)
  go_wp2_with fail
  refine HS3.out.mono ?_
  rintro e W4 ⟨V3, rfl, hX⟩
  have HB4 := Lib.hid (HB3.out.trans (hX.2.mono HB3.out.size))
  have HA3 := Lib.hid (HA2.out.below hX.2)
  have HD3 := Lib.hid (HD2.out.below hX.2)
  clear hX HS3
  have HS4 := Lib.hid (split_no HC.out [47, 97, 37, 50, 102, 98] (by decide) (by decide) W4 HB4.out)
  go_wp2_with fail
  refine HS4.out.mono ?_
  rintro e W5 ⟨V4, rfl, hX⟩
  have HB5 := Lib.hid (HB4.out.trans (hX.2.mono HB4.out.size))
  have HA4 := Lib.hid (HA3.out.below hX.2)
  have HD4 := Lib.hid (HD3.out.below hX.2)
  clear hX HS4
  have HS5 := Lib.hid (split_no HC.out [97] (by decide) (by decide) W5 HB5.out)
  go_wp2_with fail
  refine HS5.out.mono ?_
  rintro e W6 ⟨V5, rfl, hX⟩
  have HB6 := Lib.hid (HB5.out.trans (hX.2.mono HB5.out.size))
  have HA5 := Lib.hid (HA4.out.below hX.2)
  have HD5 := Lib.hid (HD4.out.below hX.2)
  clear hX HS5
  have HS6 := Lib.hid (split_no HC.out [47, 97, 63, 98] (by decide) (by decide) W6 HB6.out)
  go_wp2_with fail
  refine HS6.out.mono ?_
  rintro e W7 ⟨V6, rfl, hX⟩
  have HB7 := Lib.hid (HB6.out.trans (hX.2.mono HB6.out.size))
  have HA6 := Lib.hid (HA5.out.below hX.2)
  have HD6 := Lib.hid (HD5.out.below hX.2)
  clear hX HS6
  have hj := HC.out.join [] (.slice none 0 0) 0 0 W7 HB7.out (ta_nil _ none 0) (by decide) (by decide)
  rw [show joinF [] = none by decide] at hj
  have HJ := Lib.hid hj
  clear hj
  go_wp2_with fail
  refine HJ.out.mono ?_
  rintro e W8 ⟨rfl, hB⟩
  unfold joinV
  have H8 := Lib.hid (And.intro (HB7.out.trans (hB.mono HB7.out.size)) (And.intro (HA6.out.below hB) (HD6.out.below hB)))
  clear hB HJ
  have HB9 : Hid (Below W8.heap.size W8 (W8.alloc (.cells #[.string ⟨#[46, 46]⟩] 9))) := Lib.hid ((Below.refl _ W8).alloc (Nat.le_refl _) _)
  have hj := HC.out.join [[46, 46]] (.slice (some ⟨W8.heap.size, 0, none⟩) 1 1) W8.heap.size 0 _ (H8.out.1.trans (HB9.out.mono H8.out.1.size)) (ta_row (row_new W8 #[.string ⟨#[46, 46]⟩] 9) rfl) (by decide) (by decide)
  rw [show joinF [[46, 46]] = none by decide] at hj
  have HJ := Lib.hid hj
  clear hj
  go_wp2_with fail
  refine HJ.out.mono ?_
  rintro e W10 ⟨rfl, hB⟩
  unfold joinV
  have HBB := Lib.hid (HB9.out.trans (hB.mono HB9.out.size))
  have H10 := Lib.hid (And.intro (H8.out.1.trans (HBB.out.mono H8.out.1.size)) (And.intro (H8.out.2.1.below HBB.out) (H8.out.2.2.below HBB.out)))
  clear hB HJ HB9 HBB H8
  have HAW := Lib.hid (awake11_any (HC.out.up H10.out.1))
  go_wp2_with fail
  refine HAW.out.mono ?_
  rintro e W11 ⟨rfl, hB⟩
  have H11 := Lib.hid (And.intro (H10.out.1.trans (hB.mono H10.out.1.size)) (And.intro (H10.out.2.1.below hB) (H10.out.2.2.below hB)))
  clear hB HAW H10
  have HB12 : Hid (Below W11.heap.size W11 (W11.alloc (.cells #[.string ⟨#[]⟩] 9))) := Lib.hid ((Below.refl _ W11).alloc (Nat.le_refl _) _)
  have HSA := Lib.hid (same_at [[]] (by decide) V0 (.slice (some ⟨W11.heap.size, 0, none⟩) 1 1) _ w w (H11.out.2.1.below HB12.out) ⟨_, _, ta_row (row_new W11 #[.string ⟨#[]⟩] 9) rfl⟩)
  go_wp2_with fail
  refine HSA.out.mono ?_
  rintro e W13 ⟨rfl, hB⟩
  have HBB := Lib.hid (HB12.out.trans (hB.mono HB12.out.size))
  have H13 := Lib.hid (And.intro (H11.out.1.trans (HBB.out.mono H11.out.1.size)) (H11.out.2.2.below HBB.out))
  clear hB HSA HBB H11 HB12
  have HB14 : Hid (Below W13.heap.size W13 (W13.alloc (.cells #[.string ⟨#[65]⟩] 9))) := Lib.hid ((Below.refl _ W13).alloc (Nat.le_refl _) _)
  have HSB := Lib.hid (same_at [[65]] (by decide) V1 (.slice (some ⟨W13.heap.size, 0, none⟩) 1 1) _ W1 w (H13.out.2.below HB14.out) ⟨_, _, ta_row (row_new W13 #[.string ⟨#[65]⟩] 9) rfl⟩)
  go_wp2_with fail
  refine HSB.out.mono ?_
  rintro e W15 ⟨rfl, hB⟩
  have H15 := Lib.hid (H13.out.1.trans ((HB14.out.trans (hB.mono HB14.out.size)).mono H13.out.1.size))
  clear hB HSB
  go_wp2
  go_ret
  exact ⟨rfl, H15.out⟩
end Go.Proofs.YtmklgjbfdaleiaaDoor
