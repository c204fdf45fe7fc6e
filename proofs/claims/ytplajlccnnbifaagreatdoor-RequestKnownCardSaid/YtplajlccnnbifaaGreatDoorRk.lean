/- RequestKnown walked, over any package that does what is asked of it. (mkrk.py writes it.) -/
import Derived.Test.YtplajlccnnbifaaGreatDoorRq
import Derived.Test.YtplajlccnnbifaaGreatDoorRr
namespace Go.Proofs.YtplajlccnnbifaaGreatDoor
open Go.RowKit
attribute [local go_sem] store_one S_match S_store

set_option maxRecDepth 100000 in
set_option maxHeartbeats 4000000 in
theorem rknown_any {RA : World → (Nat → Prop) → Nat → PSt → Prop} {w : World} (C : RequestI w RA) : Calls Tryz.prog 3 #[] w fun e w' => e = .returned (.bool true) ∧ Below w.heap.size w w' := by
  have HC := Lib.hid C
  have HBa : Hid (∀ W, Below w.heap.size w W → Calls Tryz.prog 10 #[S k_aL] W fun e w' => e = .returned (.int .i64 400) ∧ Below W.heap.size W w') := Lib.hid fun W hW => code_any (C.up hW) (by decide) (next_bad k_a_step)
  have HBb : Hid (∀ W, Below w.heap.size w W → Calls Tryz.prog 10 #[S k_bL] W fun e w' => e = .returned (.int .i64 413) ∧ Below W.heap.size W w') := Lib.hid fun W hW => code_any (C.up hW) (by decide) (next_bad k_b_step)
  have HBc : Hid (∀ W, Below w.heap.size w W → Calls Tryz.prog 10 #[S k_cL] W fun e w' => e = .returned (.int .i64 400) ∧ Below W.heap.size W w') := Lib.hid fun W hW => code_any (C.up hW) (by decide) (next_bad k_c_step)
  have HBd : Hid (∀ W, Below w.heap.size w W → Calls Tryz.prog 10 #[S k_dL] W fun e w' => e = .returned (.int .i64 400) ∧ Below W.heap.size W w') := Lib.hid fun W hW => code_any (C.up hW) (by decide) (next_bad k_d_step)
  have HBe : Hid (∀ W, Below w.heap.size w W → Calls Tryz.prog 10 #[S k_eL] W fun e w' => e = .returned (.int .i64 400) ∧ Below W.heap.size W w') := Lib.hid fun W hW => code_any (C.up hW) (by decide) (next_bad k_e_step)
  have HBf : Hid (∀ W, Below w.heap.size w W → Calls Tryz.prog 10 #[S k_fL] W fun e w' => e = .returned (.int .i64 400) ∧ Below W.heap.size W w') := Lib.hid fun W hW => code_any (C.up hW) (by decide) (next_bad k_f_step)
  have HBg : Hid (∀ W, Below w.heap.size w W → Calls Tryz.prog 10 #[S k_gL] W fun e w' => e = .returned (.int .i64 400) ∧ Below W.heap.size W w') := Lib.hid fun W hW => code_any (C.up hW) (by decide) (next_bad k_g_step)
  have HBh : Hid (∀ W, Below w.heap.size w W → Calls Tryz.prog 10 #[S k_hL] W fun e w' => e = .returned (.int .i64 400) ∧ Below W.heap.size W w') := Lib.hid fun W hW => code_any (C.up hW) (by decide) (next_bad k_h_step)
  have HBi : Hid (∀ W, Below w.heap.size w W → Calls Tryz.prog 10 #[S k_iL] W fun e w' => e = .returned (.int .i64 413) ∧ Below W.heap.size W w') := Lib.hid fun W hW => code_any (C.up hW) (by decide) (next_bad k_i_step)
  have HBm : Hid (∀ W, Below w.heap.size w W → Calls Tryz.prog 10 #[S k_mL] W fun e w' => e = .returned (.int .i64 400) ∧ Below W.heap.size W w') := Lib.hid fun W hW => code_any (C.up hW) (by decide) (next_bad k_m_step)
  have HR1 : Hid (∀ w, Calls Tryz.prog 11 #[.string ⟨#[120]⟩, .int .i64 2048] w fun e w' => e = .returned (S (List.replicate 2048 120)) ∧ Below w.heap.size w w') := Lib.hid fun w => rep_any 120 2048 (by decide) w
  have HR2 : Hid (∀ w, Calls Tryz.prog 11 #[.string ⟨#[120]⟩, .int .i64 2047] w fun e w' => e = .returned (S (List.replicate 2047 120)) ∧ Below w.heap.size w w') := Lib.hid fun w => rep_any 120 2047 (by decide) w
  have hx1 : stepS (List.replicate 2048 120) = .bad 431 := by rw [xs_step, if_pos (by omega)]
  have hx2 : stepS (List.replicate 2047 120) = .more := by rw [xs_step, if_neg (by omega)]
  have HBj : Hid (∀ W, Below w.heap.size w W → Calls Tryz.prog 10 #[S (List.replicate 2048 120)] W fun e w' => e = .returned (.int .i64 431) ∧ Below W.heap.size W w') := Lib.hid fun W hW => code_any (C.up hW) (by rw [List.length_replicate]; omega) (next_bad hx1)
  have HBk : Hid (∀ W, Below w.heap.size w W → Calls Tryz.prog 10 #[S (List.replicate 2047 120)] W fun e w' => e = .returned (.int .i64 0) ∧ Below W.heap.size W w') := Lib.hid fun W hW => code_any (C.up hW) (by rw [List.length_replicate]; omega) (next_more hx2)
  obtain ⟨X1, hX1⟩ : ∃ X, X = List.replicate 2048 (120 : UInt8) := ⟨_, rfl⟩
  obtain ⟨X2, hX2⟩ : ∃ X, X = List.replicate 2047 (120 : UInt8) := ⟨_, rfl⟩
  rw [← hX1] at HR1 HBj
  rw [← hX2] at HR2 HBk
  have HAW := Lib.hid fun W (hW : Below w.heap.size w W) => awake_request (C.up hW)
  clear C hx1 hx2 hX1 hX2
  go_enter Tryz.func3, Tryz.ntmps3
  go_wp2_with fail
  refine (OneK.make HC.out (Below.refl _ w)).mono ?_
  rintro e W1 ⟨g, rfl, h, _⟩
  have H1 := Lib.hid h
  clear h
  go_wp2_with fail
  refine (H1.out.feed HC.out pstL (by decide)).mono ?_
  rintro e W2 ⟨rfl, h, _⟩
  have h2 : OneK RA w g ⟨pstL, 0⟩ (fun k => k < w.heap.size) W2 := h
  have H2 := Lib.hid h2
  clear h h2 H1
  go_wp2_with fail
  refine (H2.out.nextSome HC.out (by decide) (next_req post_step)).mono ?_
  rintro e W3 ⟨a, c, gf, rfl, _, h, _⟩
  have H3 := Lib.hid h
  clear h H2
  unfold rqCells
  dsimp only [S]
  obtain ⟨W4, hW4⟩ : ∃ W4, W4 = W3.alloc (.cells (rqCells [80, 79, 83, 84] [47] [] 11 (.slice a 2 c) [104, 105] false) 27) := ⟨_, rfl⟩
  have hB4 : Below W3.heap.size W3 W4 := by rw [hW4]; exact (Below.refl _ W3).alloc (Nat.le_refl _) _
  have hr4 : Row W4 W3.heap.size (rqCells [80, 79, 83, 84] [47] [] 11 (.slice a 2 c) [104, 105] false) 27 := by rw [hW4]; exact row_new _ _ _
  have H4 := Lib.hid (And.intro (H3.out.below HC.out hB4) (And.intro hr4 (Below.refl W4.heap.size W4)))
  have HW := Lib.hid hW4
  clear hW4 hB4 hr4 H3
  go_wp2_with fail
  refine (HBa.out _ (by have := H4.out.1.bel; rw [HW.out] at this; exact this)).mono ?_
  rintro e W5 ⟨rfl, h⟩
  replace h : Below W4.heap.size W4 W5 := by rw [HW.out]; exact h
  have H5 := Lib.hid (And.intro (H4.out.1.below HC.out h) (And.intro (H4.out.2.1.below h H4.out.2.1.lt) (Below.refl W5.heap.size W5)))
  clear h H4
  go_wp2_with fail
  refine (HBb.out _ H5.out.1.bel).mono ?_
  rintro e W6 ⟨rfl, h⟩
  have H6 := Lib.hid (And.intro (H5.out.1.below HC.out h) (And.intro (H5.out.2.1.below h H5.out.2.1.lt) (Below.refl W6.heap.size W6)))
  clear h H5
  go_wp2_with fail
  refine (HBc.out _ H6.out.1.bel).mono ?_
  rintro e W7 ⟨rfl, h⟩
  have H7 := Lib.hid (And.intro (H6.out.1.below HC.out h) (And.intro (H6.out.2.1.below h H6.out.2.1.lt) (Below.refl W7.heap.size W7)))
  clear h H6
  go_wp2_with fail
  refine (HBd.out _ H7.out.1.bel).mono ?_
  rintro e W8 ⟨rfl, h⟩
  have H8 := Lib.hid (And.intro (H7.out.1.below HC.out h) (And.intro (H7.out.2.1.below h H7.out.2.1.lt) (Below.refl W8.heap.size W8)))
  clear h H7
  go_wp2_with fail
  refine (HBe.out _ H8.out.1.bel).mono ?_
  rintro e W9 ⟨rfl, h⟩
  have H9 := Lib.hid (And.intro (H8.out.1.below HC.out h) (And.intro (H8.out.2.1.below h H8.out.2.1.lt) (Below.refl W9.heap.size W9)))
  clear h H8
  go_wp2_with fail
  refine (HBf.out _ H9.out.1.bel).mono ?_
  rintro e W10 ⟨rfl, h⟩
  have H10 := Lib.hid (And.intro (H9.out.1.below HC.out h) (And.intro (H9.out.2.1.below h H9.out.2.1.lt) (Below.refl W10.heap.size W10)))
  clear h H9
  go_wp2_with fail
  refine (HBg.out _ H10.out.1.bel).mono ?_
  rintro e W11 ⟨rfl, h⟩
  have H11 := Lib.hid (And.intro (H10.out.1.below HC.out h) (And.intro (H10.out.2.1.below h H10.out.2.1.lt) (Below.refl W11.heap.size W11)))
  clear h H10
  go_wp2_with fail
  refine (HBh.out _ H11.out.1.bel).mono ?_
  rintro e W12 ⟨rfl, h⟩
  have H12 := Lib.hid (And.intro (H11.out.1.below HC.out h) (And.intro (H11.out.2.1.below h H11.out.2.1.lt) (Below.refl W12.heap.size W12)))
  clear h H11
  go_wp2_with fail
  refine (HBi.out _ H12.out.1.bel).mono ?_
  rintro e W13 ⟨rfl, h⟩
  have H13 := Lib.hid (And.intro (H12.out.1.below HC.out h) (And.intro (H12.out.2.1.below h H12.out.2.1.lt) (Below.refl W13.heap.size W13)))
  clear h H12
  go_wp2_with fail
  refine (HR1.out _).mono ?_
  rintro e W14 ⟨rfl, h⟩
  have H14 := Lib.hid (And.intro (H13.out.1.below HC.out h) (And.intro (H13.out.2.1.below h H13.out.2.1.lt) (Below.refl W14.heap.size W14)))
  clear h H13
  go_wp2_with fail
  refine (HBj.out _ H14.out.1.bel).mono ?_
  rintro e W15 ⟨rfl, h⟩
  have H15 := Lib.hid (And.intro (H14.out.1.below HC.out h) (And.intro (H14.out.2.1.below h H14.out.2.1.lt) (Below.refl W15.heap.size W15)))
  clear h H14
  go_wp2_with fail
  refine (HR2.out _).mono ?_
  rintro e W16 ⟨rfl, h⟩
  have H16 := Lib.hid (And.intro (H15.out.1.below HC.out h) (And.intro (H15.out.2.1.below h H15.out.2.1.lt) (Below.refl W16.heap.size W16)))
  clear h H15
  go_wp2_with fail
  refine (HBk.out _ H16.out.1.bel).mono ?_
  rintro e W17 ⟨rfl, h⟩
  have H17 := Lib.hid (And.intro (H16.out.1.below HC.out h) (And.intro (H16.out.2.1.below h H16.out.2.1.lt) (Below.refl W17.heap.size W17)))
  clear h H16
  go_wp2_with fail
  refine (HBm.out _ H17.out.1.bel).mono ?_
  rintro e W18 ⟨rfl, h⟩
  have H18 := Lib.hid (And.intro (H17.out.1.below HC.out h) (And.intro (H17.out.2.1.below h H17.out.2.1.lt) (Below.refl W18.heap.size W18)))
  clear h H17
  go_wp2_with fail
  refine (HAW.out _ H18.out.1.bel).mono ?_
  rintro e W19 ⟨rfl, h⟩
  have hr := H18.out.2.1.below h H18.out.2.1.lt
  have k5 : W19.cell? ⟨W3.heap.size, 5, none⟩ = some (.string ⟨#[104, 105]⟩) := cell_of_row _ _ 5 _ _ (0, 0) hr
  have H19 := Lib.hid (H18.out.1.below HC.out h)
  clear h hr H18
  go_wp2_with fail
  refine (H19.out.idle HC.out).mono ?_
  rintro e W20 ⟨rfl, h, _⟩
  have H20 := Lib.hid h.bel
  clear h
  rw [show (decide ((PSt.bad ⟨[], 0⟩ : Nat) = 0) && (PSt.buf ⟨[], 0⟩ == [])) = true from rfl]
  go_wp2
  go_ret
  exact ⟨rfl, H20.out⟩
end Go.Proofs.YtplajlccnnbifaaGreatDoor
