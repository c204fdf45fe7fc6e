/- The statements' awake (stage 16) walked, over any package of frames as they come. -/
import Derived.Test.YtlmolmmhkddpaaaHg
namespace Go.Proofs.Ytlmolmmhkddpaaa
open Go.RowKit
attribute [local go_sem] store_one B_match B_store S_match S_store

/-- A reader made behind w. -/
def AtR (RA : World → (Nat → Prop) → Nat → Fst → Prop) (w W : World) (F : Nat → Prop) (g : Nat) (st : Fst) : Prop := RA W F g st ∧ Below w.heap.size w W ∧ (∀ k, F k → w.heap.size ≤ k)
/-- A box beside it. -/
def BoxR (W : World) (F : Nat → Prop) (b : Nat) (cs : Array Value) (t : TypeId) : Prop := Row W b cs t ∧ ¬ F b
section
variable {RA : World → (Nat → Prop) → Nat → Fst → Prop} {w0 w W W' : World} {zr : Array Value} {F F' : Nat → Prop} {g : Nat} {st st' : Fst} {b : Nat} {cs : Array Value} {t : TypeId}
theorem AtR.moves (h : AtR RA w W F g st) (hr : RA W' F' g st') (hm : Moves F F' W W') : AtR RA w W' F' g st' :=
  ⟨hr, h.2.1.trans (hm.below h.2.2 h.2.1.size), hm.from h.2.2 h.2.1.size⟩
theorem AtR.below (C : FramesI w0 zr RA) (h : AtR RA w W F g st) (hb : Below W.heap.size W W') : AtR RA w W' F g st := ⟨C.below h.1 hb, h.2.1.trans (hb.mono h.2.1.size), h.2.2⟩
theorem BoxR.moves (h : BoxR W F b cs t) (hm : Moves F F' W W') : BoxR W' F' b cs t :=
  ⟨h.1.moves hm h.2, fun e => by rcases hm.foot b e with h1 | h1; exact h.2 h1; have := h.1.lt; omega⟩
theorem BoxR.below (h : BoxR W F b cs t) (hb : Below W.heap.size W W') : BoxR W' F b cs t := h.moves (Moves.of_below hb)
theorem BoxR.new (C : FramesI w0 zr RA) (h : RA W F g st) (cs : Array Value) (t : TypeId) : BoxR (W.alloc (.cells cs t)) F W.heap.size cs t := ⟨row_new _ _ _, fun e => by have := (C.lt h).2 _ e; omega⟩
end
def first16 : List UInt8 := [129, 130, 0, 0, 0, 0, 104]
def stA1 : Fst := (fresh16 true).feed first16
def stA2 : Fst := nextS stA1
def stA3 : Fst := nextS stA2
def stA4 : Fst := nextS stA3
def stA5 : Fst := stA4.feed [105]
def stA6 : Fst := nextS stA5
def stA7 : Fst := nextS stA6
theorem vA1 : nextV stA1 = .tuple #[.agg #[.int .i64 1, .int .i64 1, .bool true, .int .i64 2, .string ⟨#[]⟩], .bool true] := by kernel_rfl
theorem vA2 : nextV stA2 = .tuple #[.agg #[.int .i64 2, .int .i64 0, .bool false, .int .i64 0, .string ⟨#[104]⟩], .bool true] := by kernel_rfl
theorem vA3 : nextV stA3 = .tuple #[.agg #[.int .i64 0, .int .i64 0, .bool false, .int .i64 0, .string ⟨#[]⟩], .bool false] := by kernel_rfl
theorem vA5 : nextV stA5 = .tuple #[.agg #[.int .i64 2, .int .i64 0, .bool false, .int .i64 0, .string ⟨#[105]⟩], .bool true] := by kernel_rfl
theorem vA6 : nextV stA6 = .tuple #[.agg #[.int .i64 3, .int .i64 0, .bool false, .int .i64 0, .string ⟨#[]⟩], .bool true] := by kernel_rfl
theorem vA7 : stA7.idle = true := by kernel_rfl
set_option maxRecDepth 100000 in
set_option maxHeartbeats 4000000 in
theorem awake16_any {w : World} {zr : Array Value} {RA : World → (Nat → Prop) → Nat → Fst → Prop} (C : FramesI w zr RA) : Calls Try.prog 16 #[] w fun e w' => e = .returned (.bool true) ∧ Below w.heap.size w w' := by
  have HN := Lib.hid (C.new true w (Below.refl _ _))
  go_enter Try.func16, Try.ntmps16
  go_wp2_with fail
  refine HN.out.mono ?_
  rintro e W1 ⟨g, F1, rfl, hR1, hF1, hB1⟩
  have H1 : Hid (AtR RA w W1 F1 g (fresh16 true)) := Lib.hid ⟨hR1, hB1, hF1⟩
  clear hR1 hF1 hB1 HN
  have HC := Lib.hid (C.feed first16 H1.out.1 H1.out.2.1 (by decide))
  go_wp2_with fail
  refine HC.out.mono ?_
  rintro e W2 ⟨rfl, F2, hR2, hm2⟩
  have H2 : Hid (AtR RA w W2 F2 g stA1) := Lib.hid (H1.out.moves hR2 hm2)
  clear hR2 hm2 HC H1
  have HC := Lib.hid (C.next H2.out.1 H2.out.2.1)
  rw [vA1] at HC
  go_wp2_with fail
  refine HC.out.mono ?_
  rintro e W3 ⟨rfl, F3, hR, hm⟩
  have hat := H2.out.moves hR hm
  obtain ⟨W4, hW4⟩ : ∃ W, W = W3.alloc (.cells #[.int .i64 1, .int .i64 1, .bool true, .int .i64 2, .string ⟨#[]⟩] 29) := ⟨_, rfl⟩
  have hal : Below W3.heap.size W3 W4 := by rw [hW4]; exact (Below.refl _ _).alloc (Nat.le_refl _) _
  have X1 : Hid (BoxR W4 F3 W3.heap.size #[.int .i64 1, .int .i64 1, .bool true, .int .i64 2, .string ⟨#[]⟩] 29) := Lib.hid (by rw [hW4]; exact BoxR.new C hat.1 _ _)
  have H4 : Hid (AtR RA w W4 F3 g (nextS stA1)) := Lib.hid (hat.below C hal)
  change Hid (AtR RA w W4 F3 g stA2) at H4
  clear hR hm HC hat hal H2
  have HC := Lib.hid (C.next H4.out.1 H4.out.2.1)
  rw [vA2] at HC
  rw [hW4] at HC
  go_wp2_with fail
  refine HC.out.mono ?_
  rintro e W5 ⟨rfl, F5, hR, hm⟩
  rw [← hW4] at hm
  have hat := H4.out.moves hR hm
  obtain ⟨W6, hW6⟩ : ∃ W, W = W5.alloc (.cells #[.int .i64 2, .int .i64 0, .bool false, .int .i64 0, .string ⟨#[104]⟩] 29) := ⟨_, rfl⟩
  have hal : Below W5.heap.size W5 W6 := by rw [hW6]; exact (Below.refl _ _).alloc (Nat.le_refl _) _
  have X1 := Lib.hid ((X1.out.moves hm).below hal)
  have X2 : Hid (BoxR W6 F5 W5.heap.size #[.int .i64 2, .int .i64 0, .bool false, .int .i64 0, .string ⟨#[104]⟩] 29) := Lib.hid (by rw [hW6]; exact BoxR.new C hat.1 _ _)
  have H6 : Hid (AtR RA w W6 F5 g (nextS stA2)) := Lib.hid (hat.below C hal)
  change Hid (AtR RA w W6 F5 g stA3) at H6
  clear hR hm HC hat hal H4
  have HC := Lib.hid (C.next H6.out.1 H6.out.2.1)
  rw [vA3] at HC
  rw [hW6] at HC
  go_wp2_with fail
  refine HC.out.mono ?_
  rintro e W7 ⟨rfl, F7, hR, hm⟩
  rw [← hW6] at hm
  have hat := H6.out.moves hR hm
  obtain ⟨W8, hW8⟩ : ∃ W, W = W7.alloc (.cells #[.int .i64 0, .int .i64 0, .bool false, .int .i64 0, .string ⟨#[]⟩] 29) := ⟨_, rfl⟩
  have hal : Below W7.heap.size W7 W8 := by rw [hW8]; exact (Below.refl _ _).alloc (Nat.le_refl _) _
  have X1 := Lib.hid ((X1.out.moves hm).below hal)
  have X2 := Lib.hid ((X2.out.moves hm).below hal)
  have H8 : Hid (AtR RA w W8 F7 g (nextS stA3)) := Lib.hid (hat.below C hal)
  change Hid (AtR RA w W8 F7 g stA4) at H8
  clear hR hm HC hat hal H6
  have HC := Lib.hid (C.feed [105] H8.out.1 H8.out.2.1 (by decide))
  rw [hW8] at HC
  go_wp2_with fail
  refine HC.out.mono ?_
  rintro e W9 ⟨rfl, F9, hR, hm⟩
  rw [← hW8] at hm
  have X1 := Lib.hid (X1.out.moves hm)
  have X2 := Lib.hid (X2.out.moves hm)
  have H9 : Hid (AtR RA w W9 F9 g stA5) := Lib.hid (H8.out.moves hR hm)
  clear hR hm HC H8
  have HC := Lib.hid (C.next H9.out.1 H9.out.2.1)
  rw [vA5] at HC
  go_wp2_with fail
  refine HC.out.mono ?_
  rintro e W10 ⟨rfl, F10, hR, hm⟩
  have hat := H9.out.moves hR hm
  obtain ⟨W11, hW11⟩ : ∃ W, W = W10.alloc (.cells #[.int .i64 2, .int .i64 0, .bool false, .int .i64 0, .string ⟨#[105]⟩] 29) := ⟨_, rfl⟩
  have hal : Below W10.heap.size W10 W11 := by rw [hW11]; exact (Below.refl _ _).alloc (Nat.le_refl _) _
  have X1 := Lib.hid ((X1.out.moves hm).below hal)
  have X2 := Lib.hid ((X2.out.moves hm).below hal)
  have X5 : Hid (BoxR W11 F10 W10.heap.size #[.int .i64 2, .int .i64 0, .bool false, .int .i64 0, .string ⟨#[105]⟩] 29) := Lib.hid (by rw [hW11]; exact BoxR.new C hat.1 _ _)
  have H11 : Hid (AtR RA w W11 F10 g (nextS stA5)) := Lib.hid (hat.below C hal)
  change Hid (AtR RA w W11 F10 g stA6) at H11
  clear hR hm HC hat hal H9
  have HC := Lib.hid (C.next H11.out.1 H11.out.2.1)
  rw [vA6] at HC
  rw [hW11] at HC
  go_wp2_with fail
  refine HC.out.mono ?_
  rintro e W12 ⟨rfl, F12, hR, hm⟩
  rw [← hW11] at hm
  have hat := H11.out.moves hR hm
  obtain ⟨W13, hW13⟩ : ∃ W, W = W12.alloc (.cells #[.int .i64 3, .int .i64 0, .bool false, .int .i64 0, .string ⟨#[]⟩] 29) := ⟨_, rfl⟩
  have hal : Below W12.heap.size W12 W13 := by rw [hW13]; exact (Below.refl _ _).alloc (Nat.le_refl _) _
  have X1 := Lib.hid ((X1.out.moves hm).below hal)
  have X2 := Lib.hid ((X2.out.moves hm).below hal)
  have X5 := Lib.hid ((X5.out.moves hm).below hal)
  have X6 : Hid (BoxR W13 F12 W12.heap.size #[.int .i64 3, .int .i64 0, .bool false, .int .i64 0, .string ⟨#[]⟩] 29) := Lib.hid (by rw [hW13]; exact BoxR.new C hat.1 _ _)
  have H13 : Hid (AtR RA w W13 F12 g (nextS stA6)) := Lib.hid (hat.below C hal)
  change Hid (AtR RA w W13 F12 g stA7) at H13
  clear hR hm HC hat hal H11
  have eq1 : ∀ W, (Op.equalIn 10000 29 (.agg #[.int .i64 1, .int .i64 1, .bool true, .int .i64 2, .string ⟨#[]⟩]) (.agg #[.int .i64 1, .int .i64 1, .bool true, .int .i64 2, .string ⟨#[]⟩])).run Try.prog W = .ok true W := fun W => eqin_evF ⟨1, 1, true, 2, []⟩ W
  have gq1 : ∀ x y W, (eqGuard .eql 29 x y (.agg #[.int .i64 1, .int .i64 1, .bool true, .int .i64 2, .string ⟨#[]⟩]) (.agg #[.int .i64 1, .int .i64 1, .bool true, .int .i64 2, .string ⟨#[]⟩])).run Try.prog W = .ok () W := fun x y W => run_eqGuard_agg W .eql 29 x y _ _ (by kernel_rfl)
  have eq2 : ∀ W, (Op.equalIn 10000 29 (.agg #[.int .i64 2, .int .i64 0, .bool false, .int .i64 0, .string ⟨#[104]⟩]) (.agg #[.int .i64 2, .int .i64 0, .bool false, .int .i64 0, .string ⟨#[104]⟩])).run Try.prog W = .ok true W := fun W => eqin_evF ⟨2, 0, false, 0, [104]⟩ W
  have gq2 : ∀ x y W, (eqGuard .eql 29 x y (.agg #[.int .i64 2, .int .i64 0, .bool false, .int .i64 0, .string ⟨#[104]⟩]) (.agg #[.int .i64 2, .int .i64 0, .bool false, .int .i64 0, .string ⟨#[104]⟩])).run Try.prog W = .ok () W := fun x y W => run_eqGuard_agg W .eql 29 x y _ _ (by kernel_rfl)
  have eq6 : ∀ W, (Op.equalIn 10000 29 (.agg #[.int .i64 3, .int .i64 0, .bool false, .int .i64 0, .string ⟨#[]⟩]) (.agg #[.int .i64 3, .int .i64 0, .bool false, .int .i64 0, .string ⟨#[]⟩])).run Try.prog W = .ok true W := fun W => eqin_evF ⟨3, 0, false, 0, []⟩ W
  have gq6 : ∀ x y W, (eqGuard .eql 29 x y (.agg #[.int .i64 3, .int .i64 0, .bool false, .int .i64 0, .string ⟨#[]⟩]) (.agg #[.int .i64 3, .int .i64 0, .bool false, .int .i64 0, .string ⟨#[]⟩])).run Try.prog W = .ok () W := fun x y W => run_eqGuard_agg W .eql 29 x y _ _ (by kernel_rfl)
  have c10 : W13.cell? ⟨W3.heap.size, 0, none⟩ = some (.int .i64 1) := cell_of_row W13 _ 0 _ _ (0, 0) X1.out.1
  have c11 : W13.cell? ⟨W3.heap.size, 1, none⟩ = some (.int .i64 1) := cell_of_row W13 _ 1 _ _ (0, 0) X1.out.1
  have c12 : W13.cell? ⟨W3.heap.size, 2, none⟩ = some (.bool true) := cell_of_row W13 _ 2 _ _ (0, 0) X1.out.1
  have c13 : W13.cell? ⟨W3.heap.size, 3, none⟩ = some (.int .i64 2) := cell_of_row W13 _ 3 _ _ (0, 0) X1.out.1
  have c14 : W13.cell? ⟨W3.heap.size, 4, none⟩ = some (.string ⟨#[]⟩) := cell_of_row W13 _ 4 _ _ (0, 0) X1.out.1
  have c20 : W13.cell? ⟨W5.heap.size, 0, none⟩ = some (.int .i64 2) := cell_of_row W13 _ 0 _ _ (0, 0) X2.out.1
  have c21 : W13.cell? ⟨W5.heap.size, 1, none⟩ = some (.int .i64 0) := cell_of_row W13 _ 1 _ _ (0, 0) X2.out.1
  have c22 : W13.cell? ⟨W5.heap.size, 2, none⟩ = some (.bool false) := cell_of_row W13 _ 2 _ _ (0, 0) X2.out.1
  have c23 : W13.cell? ⟨W5.heap.size, 3, none⟩ = some (.int .i64 0) := cell_of_row W13 _ 3 _ _ (0, 0) X2.out.1
  have c24 : W13.cell? ⟨W5.heap.size, 4, none⟩ = some (.string ⟨#[104]⟩) := cell_of_row W13 _ 4 _ _ (0, 0) X2.out.1
  have c54 : W13.cell? ⟨W10.heap.size, 4, none⟩ = some (.string ⟨#[105]⟩) := cell_of_row W13 _ 4 _ _ (0, 0) X5.out.1
  have c60 : W13.cell? ⟨W12.heap.size, 0, none⟩ = some (.int .i64 3) := cell_of_row W13 _ 0 _ _ (0, 0) X6.out.1
  have c61 : W13.cell? ⟨W12.heap.size, 1, none⟩ = some (.int .i64 0) := cell_of_row W13 _ 1 _ _ (0, 0) X6.out.1
  have c62 : W13.cell? ⟨W12.heap.size, 2, none⟩ = some (.bool false) := cell_of_row W13 _ 2 _ _ (0, 0) X6.out.1
  have c63 : W13.cell? ⟨W12.heap.size, 3, none⟩ = some (.int .i64 0) := cell_of_row W13 _ 3 _ _ (0, 0) X6.out.1
  have c64 : W13.cell? ⟨W12.heap.size, 4, none⟩ = some (.string ⟨#[]⟩) := cell_of_row W13 _ 4 _ _ (0, 0) X6.out.1
  have q5 : binOp .eql 9 (.string ⟨#[105]⟩) (.string ⟨#[105]⟩) = pure (.bool true) := eql_S 9 [105] [105]
  have HC := Lib.hid (C.idle H13.out.1 H13.out.2.1)
  rw [vA7] at HC
  rw [hW13] at c10 c11 c12 c13 c14
  rw [hW13] at c20 c21 c22 c23 c24
  rw [hW13] at c54
  rw [hW13] at c60 c61 c62 c63 c64
  have H13b := Lib.hid H13.out.2.1
  rw [hW13] at HC
  go_wp2_with fail
  refine HC.out.mono ?_
  rintro e W' ⟨rfl, hB⟩
  rw [← hW13] at hB
  clear HC
  go_wp2
  go_ret
  exact ⟨rfl, H13b.out.trans (hB.mono H13b.out.size)⟩
end Go.Proofs.Ytlmolmmhkddpaaa
