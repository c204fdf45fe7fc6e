/- The law's awake, FrameWrites, FrameMasks (stage 15) walked, over any package of frames. -/
import Derived.Test.YtepamoikoinhdaaEh
import Derived.Test.YtepamoikoinhdaaEd1
import Derived.Test.YtepamoikoinhdaaEd2
import Derived.Test.YtepamoikoinhdaaEd3
namespace Go.Proofs.Ytepamoikoinhdaa
open Go.RowKit
attribute [local go_sem] store_one B_match B_store S_match S_store

theorem bytes15_any (f : Frm) (w : World) (hl : f.data.length ≤ 100000) : Calls Try.prog 16 #[frV f] w fun e w' => e = .returned (bytesV f) ∧ Below w.heap.size w w' := by
  cases h : okFr f with
  | false => exact bytes15_no f w h
  | true =>
    cases hf : f.fin <;> cases hm : f.masked <;>
    · by_cases h1 : f.data.length ≤ 125
      · first | exact bytes15_1nu f w hf hm h h1 | exact bytes15_1nm f w hf hm h h1 | exact bytes15_1fu f w hf hm h h1 | exact bytes15_1fm f w hf hm h h1
      · by_cases h2 : f.data.length ≤ 65535
        · first | exact bytes15_2nu f w hf hm h (by omega) h2 | exact bytes15_2nm f w hf hm h (by omega) h2 | exact bytes15_2fu f w hf hm h (by omega) h2 | exact bytes15_2fm f w hf hm h (by omega) h2
        · first | exact bytes15_3nu f w hf hm h (by omega) hl | exact bytes15_3nm f w hf hm h (by omega) hl | exact bytes15_3fu f w hf hm h (by omega) hl | exact bytes15_3fm f w hf hm h (by omega) hl
def helloT : List UInt8 := [72, 101, 108, 108, 111]
def aw1 : Frm := ⟨true, 0, 1, false, key0, helloT⟩
def aw2 : Frm := ⟨true, 0, 1, true, ⟨55, 250, 33, 61⟩, helloT⟩
theorem aw_b1 : bytesV aw1 = .tuple #[.string ⟨#[129, 5, 72, 101, 108, 108, 111]⟩, .int .i64 0] := by kernel_rfl
theorem aw_b2 : bytesV aw2 = .tuple #[.string ⟨#[129, 133, 55, 250, 33, 61, 127, 159, 77, 81, 88]⟩, .int .i64 0] := by kernel_rfl
theorem aw_r : readV (readF [129, 133, 55, 250, 33, 61, 127, 159, 77, 81, 88]) = .tuple #[.agg #[.bool true, .int .i64 0, .int .i64 1, .bool true, .int .u8 55, .int .u8 250, .int .u8 33, .int .u8 61, .string ⟨#[72, 101, 108, 108, 111]⟩], .int .i64 11, .int .i64 0] := by kernel_rfl
set_option maxRecDepth 100000 in
set_option maxHeartbeats 1000000 in
theorem awake15_any {w : World} (C : FrameI w) : Calls Try.prog 15 #[] w fun e w' => e = .returned (.bool true) ∧ Below w.heap.size w w' := by
  have h1 : Calls Try.prog 12 #[.agg #[.bool true, .int .i64 0, .int .i64 1, .bool false, .int .u8 0, .int .u8 0, .int .u8 0, .int .u8 0, .string ⟨#[72, 101, 108, 108, 111]⟩]] w fun e w' => e = .returned (.tuple #[.string ⟨#[129, 5, 72, 101, 108, 108, 111]⟩, .int .i64 0]) ∧ Below w.heap.size w w' := by
    have := C.bytes aw1 w (Below.refl _ _) (by decide)
    rw [aw_b1] at this; exact this
  have h2 : ∀ W, Below w.heap.size w W → Calls Try.prog 12 #[.agg #[.bool true, .int .i64 0, .int .i64 1, .bool true, .int .u8 55, .int .u8 250, .int .u8 33, .int .u8 61, .string ⟨#[72, 101, 108, 108, 111]⟩]] W fun e w' => e = .returned (.tuple #[.string ⟨#[129, 133, 55, 250, 33, 61, 127, 159, 77, 81, 88]⟩, .int .i64 0]) ∧ Below W.heap.size W w' := fun W hb => by
    have := C.bytes aw2 W hb (by decide)
    rw [aw_b2] at this; exact this
  have h3 : ∀ W, Below w.heap.size w W → Calls Try.prog 14 #[.string ⟨#[129, 133, 55, 250, 33, 61, 127, 159, 77, 81, 88]⟩] W fun e w' => e = .returned (.tuple #[.agg #[.bool true, .int .i64 0, .int .i64 1, .bool true, .int .u8 55, .int .u8 250, .int .u8 33, .int .u8 61, .string ⟨#[72, 101, 108, 108, 111]⟩], .int .i64 11, .int .i64 0]) ∧ Below W.heap.size W w' := fun W hb => by
    have := C.read [129, 133, 55, 250, 33, 61, 127, 159, 77, 81, 88] W hb (by decide)
    rw [aw_r] at this; exact this
  have h4 : ∀ W, Below w.heap.size w W → Calls Try.prog 19 #[.agg #[.int .u8 1, .int .u8 0, .int .u8 0, .int .u8 0], .int .i64 0, .string ⟨#[97]⟩] W fun e w' => e = .returned (.string ⟨#[96]⟩) ∧ Below W.heap.size W w' := fun W hb => C.mask ⟨1, 0, 0, 0⟩ 0 [97] W hb (by rw [IntKind.wrap_i64]; rfl) (by decide)
  have H1 := Lib.hid h1
  have H2 := Lib.hid h2
  have H3 := Lib.hid h3
  have H4 := Lib.hid h4
  clear h1 h2 h3 h4 C
  go_enter Try.func15, Try.ntmps15
  go_wp2_with fail
  refine H1.out.mono ?_
  rintro e W1 ⟨rfl, hB1⟩
  have HB1 := Lib.hid hB1
  have HC2 := Lib.hid (H2.out W1 hB1)
  clear hB1
  go_wp2_with fail
  refine HC2.out.mono ?_
  rintro e W2 ⟨rfl, hB2⟩
  have HB2 := Lib.hid (HB1.out.trans (hB2.mono HB1.out.size))
  have HC3 := Lib.hid (H3.out W2 HB2.out)
  clear hB2
  go_wp2_with fail
  refine HC3.out.mono ?_
  rintro e W3 ⟨rfl, hB3⟩
  have hB3' := HB2.out.trans (hB3.mono HB2.out.size)
  have HB3 := Lib.hid (hB3'.alloc hB3'.size (.cells #[.bool true, .int .i64 0, .int .i64 1, .bool true, .int .u8 55, .int .u8 250, .int .u8 33, .int .u8 61, .string ⟨#[72, 101, 108, 108, 111]⟩] 34))
  have HC4 := Lib.hid (H4.out _ HB3.out)
  clear hB3 hB3'
  go_wp2_with fail
  refine HC4.out.mono ?_
  rintro e W4 ⟨rfl, hB4⟩
  have HE := Lib.hid (HB3.out.trans (hB4.mono HB3.out.size))
  clear hB4
  go_wp2
  go_ret
  exact ⟨rfl, HE.out⟩
set_option maxRecDepth 100000 in
set_option maxHeartbeats 1000000 in
theorem writes15_any {w : World} (C : FrameI w) (f : Frm) : Calls Try.prog 4 #[frV f] w fun e w' => e = .returned (.bool true) ∧ Below w.heap.size w w' := by
  obtain ⟨W1, hW1⟩ : ∃ W, W = w.alloc (.cells (frC f) 34) := ⟨_, rfl⟩
  have H1 : Hid (Row W1 w.heap.size (frC f) 34 ∧ Below w.heap.size w W1) := Lib.hid (by rw [hW1]; exact ⟨row_new _ _ _, (Below.refl _ _).alloc (Nat.le_refl _) _⟩)
  have HA := Lib.hid (awake15_any (C.up H1.out.2))
  have hlN := run_len_S (P := Try.prog) Try.underlying9 3 f.data
  have HC := Lib.hid C
  have HR : Hid (∀ W, f.data.length ≤ 70000 → Calls Try.prog 16 #[frV f] W fun e w' => e = .returned (bytesV f) ∧ Below W.heap.size W w') := Lib.hid fun W h => bytes15_any f W (by omega)
  have HM : Hid (∀ W, Below w.heap.size w W → f.data.length ≤ 70000 → Calls Try.prog 12 #[frV f] W fun e w' => e = .returned (bytesV f) ∧ Below W.heap.size W w') := Lib.hid fun W hb h => C.bytes f W hb (by omega)
  obtain ⟨N, hN⟩ : ∃ N, N = f.data.length := ⟨_, rfl⟩
  rw [← hN] at hlN HR HM
  clear hN C HC
  obtain ⟨X, hX⟩ : ∃ X : List UInt8, X = if okFr f = true then bytesF f else [] := ⟨_, rfl⟩
  obtain ⟨E, hE⟩ : ∃ E : Int, E = if okFr f = true then 0 else 1 := ⟨_, rfl⟩
  have hbv : bytesV f = .tuple #[S X, .int .i64 E] := by unfold bytesV; rw [hX, hE]
  rw [hbv] at HR HM
  have q1 : binOp .eql 9 (S X) (S X) = pure (.bool true) := by rw [eql_S]; simp
  have n1 : ∀ x y, eqGuard .eql 9 x y (S X) (S X) = pure () := fun _ _ => rfl
  have q2 : (E == E) = true := by simp
  clear hX hE hbv
  obtain ⟨fin, rsv, op, m, ⟨k0, k1, k2, k3⟩, data⟩ := f
  unfold frV at HR HM ⊢
  unfold frC at hW1 HR HM ⊢
  dsimp only at *
  rw [hW1] at HA
  go_enter Try.func4, Try.ntmps4
  go_wp2_with fail
  refine HA.out.mono ?_
  rintro e W2 ⟨rfl, hB2⟩
  rw [← hW1] at hB2
  clear HA hW1
  have hrow := H1.out.1.below hB2 H1.out.1.lt
  unfold frC at hrow
  dsimp only at hrow
  have c0 : W2.cell? ⟨w.heap.size, 0, none⟩ = some (.bool fin) := cell_of_row W2 _ 0 _ _ (0, 0) hrow
  have c1 : W2.cell? ⟨w.heap.size, 1, none⟩ = some (.int .i64 rsv) := cell_of_row W2 _ 1 _ _ (0, 0) hrow
  have c2 : W2.cell? ⟨w.heap.size, 2, none⟩ = some (.int .i64 op) := cell_of_row W2 _ 2 _ _ (0, 0) hrow
  have c3 : W2.cell? ⟨w.heap.size, 3, none⟩ = some (.bool m) := cell_of_row W2 _ 3 _ _ (0, 0) hrow
  have c4 : W2.cell? ⟨w.heap.size, 4, none⟩ = some (B k0) := cell_of_row W2 _ 4 _ _ (0, 0) hrow
  have c5 : W2.cell? ⟨w.heap.size, 5, none⟩ = some (B k1) := cell_of_row W2 _ 5 _ _ (0, 0) hrow
  have c6 : W2.cell? ⟨w.heap.size, 6, none⟩ = some (B k2) := cell_of_row W2 _ 6 _ _ (0, 0) hrow
  have c7 : W2.cell? ⟨w.heap.size, 7, none⟩ = some (B k3) := cell_of_row W2 _ 7 _ _ (0, 0) hrow
  have c8 : W2.cell? ⟨w.heap.size, 8, none⟩ = some (S data) := cell_of_row W2 _ 8 _ _ (0, 0) hrow
  have HB2 := Lib.hid (And.intro hrow (H1.out.2.trans (hB2.mono H1.out.2.size)))
  clear hrow hB2 H1
  by_cases hbig : 70000 < N
  · have g1 : decide ((70000 : Int) < (N : Int)) = true := decide_eq_true (by omega)
    have g1' : decide ((N : Int) > 70000) = true := decide_eq_true (by omega)
    go_wp2
    go_ret
    exact ⟨rfl, HB2.out.2⟩
  have g1 : decide ((70000 : Int) < (N : Int)) = false := decide_eq_false (by omega)
  have g1' : decide ((N : Int) > 70000) = false := decide_eq_false (by omega)
  have HC2 := Lib.hid (HM.out W2 HB2.out.2 (by omega))
  go_wp2_with fail
  refine HC2.out.mono ?_
  rintro e W3 ⟨rfl, hB3⟩
  have hrow := HB2.out.1.below hB3 HB2.out.1.lt
  have d0 : W3.cell? ⟨w.heap.size, 0, none⟩ = some (.bool fin) := cell_of_row W3 _ 0 _ _ (0, 0) hrow
  have d1 : W3.cell? ⟨w.heap.size, 1, none⟩ = some (.int .i64 rsv) := cell_of_row W3 _ 1 _ _ (0, 0) hrow
  have d2 : W3.cell? ⟨w.heap.size, 2, none⟩ = some (.int .i64 op) := cell_of_row W3 _ 2 _ _ (0, 0) hrow
  have d3 : W3.cell? ⟨w.heap.size, 3, none⟩ = some (.bool m) := cell_of_row W3 _ 3 _ _ (0, 0) hrow
  have d4 : W3.cell? ⟨w.heap.size, 4, none⟩ = some (B k0) := cell_of_row W3 _ 4 _ _ (0, 0) hrow
  have d5 : W3.cell? ⟨w.heap.size, 5, none⟩ = some (B k1) := cell_of_row W3 _ 5 _ _ (0, 0) hrow
  have d6 : W3.cell? ⟨w.heap.size, 6, none⟩ = some (B k2) := cell_of_row W3 _ 6 _ _ (0, 0) hrow
  have d7 : W3.cell? ⟨w.heap.size, 7, none⟩ = some (B k3) := cell_of_row W3 _ 7 _ _ (0, 0) hrow
  have d8 : W3.cell? ⟨w.heap.size, 8, none⟩ = some (S data) := cell_of_row W3 _ 8 _ _ (0, 0) hrow
  have HB3 := Lib.hid (HB2.out.2.trans (hB3.mono HB2.out.2.size))
  have HC3 := Lib.hid (HR.out W3 (by omega))
  clear hrow hB3
  go_wp2_with fail
  refine HC3.out.mono ?_
  rintro e W4 ⟨rfl, hB4⟩
  have HE := Lib.hid (HB3.out.trans (hB4.mono HB3.out.size))
  clear hB4
  go_wp2
  go_ret
  exact ⟨rfl, HE.out⟩
end Go.Proofs.Ytepamoikoinhdaa
