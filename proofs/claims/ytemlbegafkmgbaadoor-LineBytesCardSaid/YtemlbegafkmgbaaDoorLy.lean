/- LineBytes walked, over any package that does what is asked of it. -/
import Derived.Test.YtemlbegafkmgbaaDoorLr
namespace Go.Proofs.YtemlbegafkmgbaaDoor
open Go.RowKit
attribute [local go_sem] store_one S_match S_store

/-- Two bytes as texts, in whatever order they are made. -/
theorem conv_at {W : World} {b : Nat} {c : UInt8} {q : Nat} (h : Row W b #[B c] 5) : (convert 31 9 (.slice (some ⟨b, 0, none⟩) 1 q)).run Tryd.prog W = .ok (S [c]) W := by
  refine run_convert_bytes_back (P := Tryd.prog) _ 31 9 5 ⟨b, 0, none⟩ q [c] Tryd.underlying31 Tryd.underlying5 Tryd.underlying9 (fun j hj => ?_)
  obtain rfl : j = 0 := by simpa using hj
  rw [Addr.add_mid]
  exact cell_of_row _ _ 0 _ 5 (0, 0) h
set_option maxRecDepth 100000 in
set_option maxHeartbeats 2000000 in
theorem lbytes_any (L : LineI) (a b : UInt8) (s : List UInt8) (_hs : s.length ≤ maxLen) (w : World) :
    Calls Tryd.prog 5 #[B a, B b, S s] w fun e w' => e = .returned (.bool true) ∧ Below w.heap.size w w' := by
  have hlen := run_len_S (P := Tryd.prog) Tryd.underlying9 3 s
  have hBa : B a = .int .u8 (a.toNat : Int) := rfl
  have hBb : B b = .int .u8 (b.toNat : Int) := rfl
  obtain ⟨x, hx⟩ : ∃ x : Nat, x = a.toNat := ⟨_, rfl⟩
  obtain ⟨y, hy⟩ : ∃ y : Nat, y = b.toNat := ⟨_, rfl⟩
  rw [← hx] at hBa
  rw [← hy] at hBb
  have hca : ∀ W n q, Row W n #[.int .u8 (x : Int)] 5 → (convert 31 9 (.slice (some ⟨n, 0, none⟩) 1 q)).run Tryd.prog W = .ok (S [a]) W := fun W n q h => conv_at (by rw [hBa]; exact h)
  have hcb : ∀ W n q, Row W n #[.int .u8 (y : Int)] 5 → (convert 31 9 (.slice (some ⟨n, 0, none⟩) 1 q)).run Tryd.prog W = .ok (S [b]) W := fun W n q h => conv_at (by rw [hBb]; exact h)
  rw [hBa, hBb]
  go_enter Tryd.func5, Tryd.ntmps5
  go_wp2_with fail
  refine (awake_line L _).mono ?_
  rintro e W1 ⟨rfl, hB⟩
  have H1 := Lib.hid hB
  clear hB
  by_cases h3 : 300 < s.length
  · have j1 : decide ((300 : Int) < (s.length : Int)) = true := decide_eq_true (by omega)
    clear h3 hca hcb
    go_wp2
    go_ret
    exact ⟨rfl, H1.out⟩
  have j1 : decide ((300 : Int) < (s.length : Int)) = false := decide_eq_false (by omega)
  have hsl : s.length ≤ 300 := by omega
  have r1 : Row (W1.alloc (.cells #[.int .u8 (x : Int)] 5)) W1.heap.size #[.int .u8 (x : Int)] 5 := row_new _ _ _
  have r2 : Row (W1.alloc (.cells #[.int .u8 (y : Int)] 5)) W1.heap.size #[.int .u8 (y : Int)] 5 := row_new _ _ _
  have r12 : Row ((W1.alloc (.cells #[.int .u8 (x : Int)] 5)).alloc (.cells #[.int .u8 (y : Int)] 5)) (W1.heap.size + 1) #[.int .u8 (y : Int)] 5 := by
    have := row_new (W1.alloc (.cells #[.int .u8 (x : Int)] 5)) #[.int .u8 (y : Int)] 5
    rw [alloc_size] at this; exact this
  have r21 : Row ((W1.alloc (.cells #[.int .u8 (y : Int)] 5)).alloc (.cells #[.int .u8 (x : Int)] 5)) (W1.heap.size + 1) #[.int .u8 (x : Int)] 5 := by
    have := row_new (W1.alloc (.cells #[.int .u8 (y : Int)] 5)) #[.int .u8 (x : Int)] 5
    rw [alloc_size] at this; exact this
  have k1 := fun q => hca _ _ q r1.drew
  have k2 := fun q => hcb _ _ q r2.drew
  have k3 := fun q => hcb _ _ q r12.drew
  have k4 := fun q => hca _ _ q r21.drew
  have k5 := fun q => hca _ _ q (r1.alloc (.cells #[.int .u8 (y : Int)] 5)).drew
  have k6 := fun q => hcb _ _ q (r2.alloc (.cells #[.int .u8 (x : Int)] 5)).drew
  have HB1 : Hid (Below w.heap.size w ((W1.alloc (.cells #[.int .u8 (x : Int)] 5)).alloc (.cells #[.int .u8 (y : Int)] 5)).drew ∧ Below w.heap.size w ((W1.alloc (.cells #[.int .u8 (y : Int)] 5)).alloc (.cells #[.int .u8 (x : Int)] 5)).drew) := Lib.hid (by
    have h := H1.out
    have hd : ∀ W, Below w.heap.size w W → Below w.heap.size w W.drew := fun W h => h.trans ⟨rfl, rfl, rfl, Nat.le_refl _, fun _ _ => rfl⟩
    exact ⟨hd _ ((h.alloc h.size _).alloc (by have := h.size; simp; omega) _), hd _ ((h.alloc h.size _).alloc (by have := h.size; simp; omega) _)⟩)
  clear hca hcb r1 r2 r12 r21 H1 h3 hx hy hBa hBb
  go_wp2
  have hmx : Tryd.prog.follows .mixedOrders = true := by kernel_rfl
  go_region
  · obtain ⟨W2, hW2⟩ : ∃ W, W = ((W1.alloc (.cells #[.int .u8 (x : Int)] 5)).alloc (.cells #[.int .u8 (y : Int)] 5)).drew := ⟨_, rfl⟩
    rw [← hW2]
    have H2 : Hid (Below w.heap.size w W2) := Lib.hid (by rw [hW2]; exact HB1.out.1)
    clear hW2
    obtain ⟨XA, hXA⟩ : ∃ X, X = [a] := ⟨_, rfl⟩
    obtain ⟨XB, hXB⟩ : ∃ X, X = [b] := ⟨_, rfl⟩
    have lA : XA.length = 1 := by rw [hXA]; rfl
    have lB : XB.length = 1 := by rw [hXB]; rfl
    rw [← hXA, ← hXB]
    clear hXA hXB k1 k2 k3 k4 k5 k6
    obtain ⟨Y00, hY00⟩ : ∃ Y, Y = (XA : List UInt8) ++ [71, 69, 84, 32, 47, 32, 72, 84, 84, 80, 47, 49, 46, 49] := ⟨_, rfl⟩
    have lY00 : Y00.length = 1 + 14 := by rw [hY00, List.length_append] <;> first | rfl | omega | (simp only [List.length_cons, List.length_nil]; omega)
    have aY00 : binOp .add 9 (S XA) (.string ⟨#[71, 69, 84, 32, 47, 32, 72, 84, 84, 80, 47, 49, 46, 49]⟩) = pure (S Y00) := by rw [hY00]; exact S_add 9 XA [71, 69, 84, 32, 47, 32, 72, 84, 84, 80, 47, 49, 46, 49] (by first | omega | (simp only [List.length_cons, List.length_nil]; omega) | (simp; omega))
    obtain ⟨Y10, hY10⟩ : ∃ Y, Y = ([71] : List UInt8) ++ XA := ⟨_, rfl⟩
    have lY10 : Y10.length = 1 + 1 := by rw [hY10, List.length_append] <;> first | rfl | omega | (simp only [List.length_cons, List.length_nil]; omega)
    have aY10 : binOp .add 9 (.string ⟨#[71]⟩) (S XA) = pure (S Y10) := by rw [hY10]; exact S_add 9 [71] XA (by first | omega | (simp only [List.length_cons, List.length_nil]; omega) | (simp; omega))
    obtain ⟨Y11, hY11⟩ : ∃ Y, Y = (Y10 : List UInt8) ++ [84, 32, 47] := ⟨_, rfl⟩
    have lY11 : Y11.length = Y10.length + 3 := by rw [hY11, List.length_append] <;> first | rfl | omega | (simp only [List.length_cons, List.length_nil]; omega)
    have aY11 : binOp .add 9 (S Y10) (.string ⟨#[84, 32, 47]⟩) = pure (S Y11) := by rw [hY11]; exact S_add 9 Y10 [84, 32, 47] (by first | omega | (simp only [List.length_cons, List.length_nil]; omega) | (simp; omega))
    obtain ⟨Y12, hY12⟩ : ∃ Y, Y = (Y11 : List UInt8) ++ XB := ⟨_, rfl⟩
    have lY12 : Y12.length = Y11.length + 1 := by rw [hY12, List.length_append] <;> first | rfl | omega | (simp only [List.length_cons, List.length_nil]; omega)
    have aY12 : binOp .add 9 (S Y11) (S XB) = pure (S Y12) := by rw [hY12]; exact S_add 9 Y11 XB (by first | omega | (simp only [List.length_cons, List.length_nil]; omega) | (simp; omega))
    obtain ⟨Y13, hY13⟩ : ∃ Y, Y = (Y12 : List UInt8) ++ s := ⟨_, rfl⟩
    have lY13 : Y13.length = Y12.length + s.length := by rw [hY13, List.length_append] <;> first | rfl | omega | (simp only [List.length_cons, List.length_nil]; omega)
    have aY13 : binOp .add 9 (S Y12) (S s) = pure (S Y13) := by rw [hY13]; exact S_add 9 Y12 s (by first | omega | (simp only [List.length_cons, List.length_nil]; omega) | (simp; omega))
    obtain ⟨Y14, hY14⟩ : ∃ Y, Y = (Y13 : List UInt8) ++ [32, 72, 84, 84, 80, 47, 49, 46, 49] := ⟨_, rfl⟩
    have lY14 : Y14.length = Y13.length + 9 := by rw [hY14, List.length_append] <;> first | rfl | omega | (simp only [List.length_cons, List.length_nil]; omega)
    have aY14 : binOp .add 9 (S Y13) (.string ⟨#[32, 72, 84, 84, 80, 47, 49, 46, 49]⟩) = pure (S Y14) := by rw [hY14]; exact S_add 9 Y13 [32, 72, 84, 84, 80, 47, 49, 46, 49] (by first | omega | (simp only [List.length_cons, List.length_nil]; omega) | (simp; omega))
    obtain ⟨Y20, hY20⟩ : ∃ Y, Y = ([71, 69, 84, 32, 47] : List UInt8) ++ XA := ⟨_, rfl⟩
    have lY20 : Y20.length = 5 + 1 := by rw [hY20, List.length_append] <;> first | rfl | omega | (simp only [List.length_cons, List.length_nil]; omega)
    have aY20 : binOp .add 9 (.string ⟨#[71, 69, 84, 32, 47]⟩) (S XA) = pure (S Y20) := by rw [hY20]; exact S_add 9 [71, 69, 84, 32, 47] XA (by first | omega | (simp only [List.length_cons, List.length_nil]; omega) | (simp; omega))
    obtain ⟨Y21, hY21⟩ : ∃ Y, Y = (Y20 : List UInt8) ++ [32, 72, 84, 84, 80, 47, 49, 46] := ⟨_, rfl⟩
    have lY21 : Y21.length = Y20.length + 8 := by rw [hY21, List.length_append] <;> first | rfl | omega | (simp only [List.length_cons, List.length_nil]; omega)
    have aY21 : binOp .add 9 (S Y20) (.string ⟨#[32, 72, 84, 84, 80, 47, 49, 46]⟩) = pure (S Y21) := by rw [hY21]; exact S_add 9 Y20 [32, 72, 84, 84, 80, 47, 49, 46] (by first | omega | (simp only [List.length_cons, List.length_nil]; omega) | (simp; omega))
    obtain ⟨Y22, hY22⟩ : ∃ Y, Y = (Y21 : List UInt8) ++ XB := ⟨_, rfl⟩
    have lY22 : Y22.length = Y21.length + 1 := by rw [hY22, List.length_append] <;> first | rfl | omega | (simp only [List.length_cons, List.length_nil]; omega)
    have aY22 : binOp .add 9 (S Y21) (S XB) = pure (S Y22) := by rw [hY22]; exact S_add 9 Y21 XB (by first | omega | (simp only [List.length_cons, List.length_nil]; omega) | (simp; omega))
    obtain ⟨Y30, hY30⟩ : ∃ Y, Y = ([47] : List UInt8) ++ XA := ⟨_, rfl⟩
    have lY30 : Y30.length = 1 + 1 := by rw [hY30, List.length_append] <;> first | rfl | omega | (simp only [List.length_cons, List.length_nil]; omega)
    have aY30 : binOp .add 9 (.string ⟨#[47]⟩) (S XA) = pure (S Y30) := by rw [hY30]; exact S_add 9 [47] XA (by first | omega | (simp only [List.length_cons, List.length_nil]; omega) | (simp; omega))
    obtain ⟨Y31, hY31⟩ : ∃ Y, Y = (Y30 : List UInt8) ++ XB := ⟨_, rfl⟩
    have lY31 : Y31.length = Y30.length + 1 := by rw [hY31, List.length_append] <;> first | rfl | omega | (simp only [List.length_cons, List.length_nil]; omega)
    have aY31 : binOp .add 9 (S Y30) (S XB) = pure (S Y31) := by rw [hY31]; exact S_add 9 Y30 XB (by first | omega | (simp only [List.length_cons, List.length_nil]; omega) | (simp; omega))
    obtain ⟨Y32, hY32⟩ : ∃ Y, Y = (Y31 : List UInt8) ++ s := ⟨_, rfl⟩
    have lY32 : Y32.length = Y31.length + s.length := by rw [hY32, List.length_append] <;> first | rfl | omega | (simp only [List.length_cons, List.length_nil]; omega)
    have aY32 : binOp .add 9 (S Y31) (S s) = pure (S Y32) := by rw [hY32]; exact S_add 9 Y31 s (by first | omega | (simp only [List.length_cons, List.length_nil]; omega) | (simp; omega))
    obtain ⟨Y40, hY40⟩ : ∃ Y, Y = ([47, 97, 37] : List UInt8) ++ XA := ⟨_, rfl⟩
    have lY40 : Y40.length = 3 + 1 := by rw [hY40, List.length_append] <;> first | rfl | omega | (simp only [List.length_cons, List.length_nil]; omega)
    have aY40 : binOp .add 9 (.string ⟨#[47, 97, 37]⟩) (S XA) = pure (S Y40) := by rw [hY40]; exact S_add 9 [47, 97, 37] XA (by first | omega | (simp only [List.length_cons, List.length_nil]; omega) | (simp; omega))
    obtain ⟨Y41, hY41⟩ : ∃ Y, Y = (Y40 : List UInt8) ++ XB := ⟨_, rfl⟩
    have lY41 : Y41.length = Y40.length + 1 := by rw [hY41, List.length_append] <;> first | rfl | omega | (simp only [List.length_cons, List.length_nil]; omega)
    have aY41 : binOp .add 9 (S Y40) (S XB) = pure (S Y41) := by rw [hY41]; exact S_add 9 Y40 XB (by first | omega | (simp only [List.length_cons, List.length_nil]; omega) | (simp; omega))
    obtain ⟨Y50, hY50⟩ : ∃ Y, Y = ([72, 84, 84, 80, 47, 49, 46, 49, 32, 50] : List UInt8) ++ XA := ⟨_, rfl⟩
    have lY50 : Y50.length = 10 + 1 := by rw [hY50, List.length_append] <;> first | rfl | omega | (simp only [List.length_cons, List.length_nil]; omega)
    have aY50 : binOp .add 9 (.string ⟨#[72, 84, 84, 80, 47, 49, 46, 49, 32, 50]⟩) (S XA) = pure (S Y50) := by rw [hY50]; exact S_add 9 [72, 84, 84, 80, 47, 49, 46, 49, 32, 50] XA (by first | omega | (simp only [List.length_cons, List.length_nil]; omega) | (simp; omega))
    obtain ⟨Y51, hY51⟩ : ∃ Y, Y = (Y50 : List UInt8) ++ XB := ⟨_, rfl⟩
    have lY51 : Y51.length = Y50.length + 1 := by rw [hY51, List.length_append] <;> first | rfl | omega | (simp only [List.length_cons, List.length_nil]; omega)
    have aY51 : binOp .add 9 (S Y50) (S XB) = pure (S Y51) := by rw [hY51]; exact S_add 9 Y50 XB (by first | omega | (simp only [List.length_cons, List.length_nil]; omega) | (simp; omega))
    obtain ⟨Y52, hY52⟩ : ∃ Y, Y = (Y51 : List UInt8) ++ [32] := ⟨_, rfl⟩
    have lY52 : Y52.length = Y51.length + 1 := by rw [hY52, List.length_append] <;> first | rfl | omega | (simp only [List.length_cons, List.length_nil]; omega)
    have aY52 : binOp .add 9 (S Y51) (.string ⟨#[32]⟩) = pure (S Y52) := by rw [hY52]; exact S_add 9 Y51 [32] (by first | omega | (simp only [List.length_cons, List.length_nil]; omega) | (simp; omega))
    obtain ⟨Y53, hY53⟩ : ∃ Y, Y = (Y52 : List UInt8) ++ s := ⟨_, rfl⟩
    have lY53 : Y53.length = Y52.length + s.length := by rw [hY53, List.length_append] <;> first | rfl | omega | (simp only [List.length_cons, List.length_nil]; omega)
    have aY53 : binOp .add 9 (S Y52) (S s) = pure (S Y53) := by rw [hY53]; exact S_add 9 Y52 s (by first | omega | (simp only [List.length_cons, List.length_nil]; omega) | (simp; omega))
    obtain ⟨Y60, hY60⟩ : ∃ Y, Y = ([72, 84, 84, 80, 47, 49, 46, 49, 32, 50, 48, 48] : List UInt8) ++ XA := ⟨_, rfl⟩
    have lY60 : Y60.length = 12 + 1 := by rw [hY60, List.length_append] <;> first | rfl | omega | (simp only [List.length_cons, List.length_nil]; omega)
    have aY60 : binOp .add 9 (.string ⟨#[72, 84, 84, 80, 47, 49, 46, 49, 32, 50, 48, 48]⟩) (S XA) = pure (S Y60) := by rw [hY60]; exact S_add 9 [72, 84, 84, 80, 47, 49, 46, 49, 32, 50, 48, 48] XA (by first | omega | (simp only [List.length_cons, List.length_nil]; omega) | (simp; omega))
    obtain ⟨Y61, hY61⟩ : ∃ Y, Y = (Y60 : List UInt8) ++ s := ⟨_, rfl⟩
    have lY61 : Y61.length = Y60.length + s.length := by rw [hY61, List.length_append] <;> first | rfl | omega | (simp only [List.length_cons, List.length_nil]; omega)
    have aY61 : binOp .add 9 (S Y60) (S s) = pure (S Y61) := by rw [hY61]; exact S_add 9 Y60 s (by first | omega | (simp only [List.length_cons, List.length_nil]; omega) | (simp; omega))
    obtain ⟨Y62, hY62⟩ : ∃ Y, Y = (Y61 : List UInt8) ++ XB := ⟨_, rfl⟩
    have lY62 : Y62.length = Y61.length + 1 := by rw [hY62, List.length_append] <;> first | rfl | omega | (simp only [List.length_cons, List.length_nil]; omega)
    have aY62 : binOp .add 9 (S Y61) (S XB) = pure (S Y62) := by rw [hY62]; exact S_add 9 Y61 XB (by first | omega | (simp only [List.length_cons, List.length_nil]; omega) | (simp; omega))
    have HR : Hid (∀ (Y : List UInt8) W, Y.length ≤ 1000 → Calls Tryd.prog 4 #[S Y] W fun e w' => e = .returned (.bool true) ∧ Below W.heap.size W w') := Lib.hid fun Y W h => lreads_any L Y (by simp only [maxLen]; omega) W
    have HY : Hid (Y00.length ≤ 1000 ∧ Y14.length ≤ 1000 ∧ Y22.length ≤ 1000 ∧ Y32.length ≤ 1000 ∧ Y41.length ≤ 1000 ∧ Y53.length ≤ 1000 ∧ Y62.length ≤ 1000) := Lib.hid (by omega)
    clear lA lB hsl hY00 lY00 hY10 lY10 hY11 lY11 hY12 lY12 hY13 lY13 hY14 lY14 hY20 lY20 hY21 lY21 hY22 lY22 hY30 lY30 hY31 lY31 hY32 lY32 hY40 lY40 hY41 lY41 hY50 lY50 hY51 lY51 hY52 lY52 hY53 lY53 hY60 lY60 hY61 lY61 hY62 lY62 hmx
    go_wp2_with fail
    refine (HR.out Y00 _ HY.out.1).mono ?_
    rintro e W3 ⟨rfl, hB⟩
    have H3 := Lib.hid (H2.out.trans (hB.mono H2.out.size))
    clear hB
    go_wp2_with fail
    refine (HR.out Y14 _ HY.out.2.1).mono ?_
    rintro e W4 ⟨rfl, hB⟩
    have H4 := Lib.hid (H3.out.trans (hB.mono H3.out.size))
    clear hB
    go_wp2_with fail
    refine (HR.out Y22 _ HY.out.2.2.1).mono ?_
    rintro e W5 ⟨rfl, hB⟩
    have H5 := Lib.hid (H4.out.trans (hB.mono H4.out.size))
    clear hB
    go_wp2_with fail
    refine (HR.out Y32 _ HY.out.2.2.2.1).mono ?_
    rintro e W6 ⟨rfl, hB⟩
    have H6 := Lib.hid (H5.out.trans (hB.mono H5.out.size))
    clear hB
    go_wp2_with fail
    refine (HR.out Y41 _ HY.out.2.2.2.2.1).mono ?_
    rintro e W7 ⟨rfl, hB⟩
    have H7 := Lib.hid (H6.out.trans (hB.mono H6.out.size))
    clear hB
    go_wp2_with fail
    refine (HR.out Y53 _ HY.out.2.2.2.2.2.1).mono ?_
    rintro e W8 ⟨rfl, hB⟩
    have H8 := Lib.hid (H7.out.trans (hB.mono H7.out.size))
    clear hB
    go_wp2_with fail
    refine (HR.out Y62 _ HY.out.2.2.2.2.2.2).mono ?_
    rintro e W9 ⟨rfl, hB⟩
    have H9 := Lib.hid (H8.out.trans (hB.mono H8.out.size))
    clear hB
    go_wp2
    go_ret
    exact ⟨rfl, H9.out⟩
  · obtain ⟨W2, hW2⟩ : ∃ W, W = ((W1.alloc (.cells #[.int .u8 (y : Int)] 5)).alloc (.cells #[.int .u8 (x : Int)] 5)).drew := ⟨_, rfl⟩
    rw [← hW2]
    have H2 : Hid (Below w.heap.size w W2) := Lib.hid (by rw [hW2]; exact HB1.out.2)
    clear hW2
    obtain ⟨XA, hXA⟩ : ∃ X, X = [a] := ⟨_, rfl⟩
    obtain ⟨XB, hXB⟩ : ∃ X, X = [b] := ⟨_, rfl⟩
    have lA : XA.length = 1 := by rw [hXA]; rfl
    have lB : XB.length = 1 := by rw [hXB]; rfl
    rw [← hXA, ← hXB]
    clear hXA hXB k1 k2 k3 k4 k5 k6
    obtain ⟨Y00, hY00⟩ : ∃ Y, Y = (XA : List UInt8) ++ [71, 69, 84, 32, 47, 32, 72, 84, 84, 80, 47, 49, 46, 49] := ⟨_, rfl⟩
    have lY00 : Y00.length = 1 + 14 := by rw [hY00, List.length_append] <;> first | rfl | omega | (simp only [List.length_cons, List.length_nil]; omega)
    have aY00 : binOp .add 9 (S XA) (.string ⟨#[71, 69, 84, 32, 47, 32, 72, 84, 84, 80, 47, 49, 46, 49]⟩) = pure (S Y00) := by rw [hY00]; exact S_add 9 XA [71, 69, 84, 32, 47, 32, 72, 84, 84, 80, 47, 49, 46, 49] (by first | omega | (simp only [List.length_cons, List.length_nil]; omega) | (simp; omega))
    obtain ⟨Y10, hY10⟩ : ∃ Y, Y = ([71] : List UInt8) ++ XA := ⟨_, rfl⟩
    have lY10 : Y10.length = 1 + 1 := by rw [hY10, List.length_append] <;> first | rfl | omega | (simp only [List.length_cons, List.length_nil]; omega)
    have aY10 : binOp .add 9 (.string ⟨#[71]⟩) (S XA) = pure (S Y10) := by rw [hY10]; exact S_add 9 [71] XA (by first | omega | (simp only [List.length_cons, List.length_nil]; omega) | (simp; omega))
    obtain ⟨Y11, hY11⟩ : ∃ Y, Y = (Y10 : List UInt8) ++ [84, 32, 47] := ⟨_, rfl⟩
    have lY11 : Y11.length = Y10.length + 3 := by rw [hY11, List.length_append] <;> first | rfl | omega | (simp only [List.length_cons, List.length_nil]; omega)
    have aY11 : binOp .add 9 (S Y10) (.string ⟨#[84, 32, 47]⟩) = pure (S Y11) := by rw [hY11]; exact S_add 9 Y10 [84, 32, 47] (by first | omega | (simp only [List.length_cons, List.length_nil]; omega) | (simp; omega))
    obtain ⟨Y12, hY12⟩ : ∃ Y, Y = (Y11 : List UInt8) ++ XB := ⟨_, rfl⟩
    have lY12 : Y12.length = Y11.length + 1 := by rw [hY12, List.length_append] <;> first | rfl | omega | (simp only [List.length_cons, List.length_nil]; omega)
    have aY12 : binOp .add 9 (S Y11) (S XB) = pure (S Y12) := by rw [hY12]; exact S_add 9 Y11 XB (by first | omega | (simp only [List.length_cons, List.length_nil]; omega) | (simp; omega))
    obtain ⟨Y13, hY13⟩ : ∃ Y, Y = (Y12 : List UInt8) ++ s := ⟨_, rfl⟩
    have lY13 : Y13.length = Y12.length + s.length := by rw [hY13, List.length_append] <;> first | rfl | omega | (simp only [List.length_cons, List.length_nil]; omega)
    have aY13 : binOp .add 9 (S Y12) (S s) = pure (S Y13) := by rw [hY13]; exact S_add 9 Y12 s (by first | omega | (simp only [List.length_cons, List.length_nil]; omega) | (simp; omega))
    obtain ⟨Y14, hY14⟩ : ∃ Y, Y = (Y13 : List UInt8) ++ [32, 72, 84, 84, 80, 47, 49, 46, 49] := ⟨_, rfl⟩
    have lY14 : Y14.length = Y13.length + 9 := by rw [hY14, List.length_append] <;> first | rfl | omega | (simp only [List.length_cons, List.length_nil]; omega)
    have aY14 : binOp .add 9 (S Y13) (.string ⟨#[32, 72, 84, 84, 80, 47, 49, 46, 49]⟩) = pure (S Y14) := by rw [hY14]; exact S_add 9 Y13 [32, 72, 84, 84, 80, 47, 49, 46, 49] (by first | omega | (simp only [List.length_cons, List.length_nil]; omega) | (simp; omega))
    obtain ⟨Y20, hY20⟩ : ∃ Y, Y = ([71, 69, 84, 32, 47] : List UInt8) ++ XA := ⟨_, rfl⟩
    have lY20 : Y20.length = 5 + 1 := by rw [hY20, List.length_append] <;> first | rfl | omega | (simp only [List.length_cons, List.length_nil]; omega)
    have aY20 : binOp .add 9 (.string ⟨#[71, 69, 84, 32, 47]⟩) (S XA) = pure (S Y20) := by rw [hY20]; exact S_add 9 [71, 69, 84, 32, 47] XA (by first | omega | (simp only [List.length_cons, List.length_nil]; omega) | (simp; omega))
    obtain ⟨Y21, hY21⟩ : ∃ Y, Y = (Y20 : List UInt8) ++ [32, 72, 84, 84, 80, 47, 49, 46] := ⟨_, rfl⟩
    have lY21 : Y21.length = Y20.length + 8 := by rw [hY21, List.length_append] <;> first | rfl | omega | (simp only [List.length_cons, List.length_nil]; omega)
    have aY21 : binOp .add 9 (S Y20) (.string ⟨#[32, 72, 84, 84, 80, 47, 49, 46]⟩) = pure (S Y21) := by rw [hY21]; exact S_add 9 Y20 [32, 72, 84, 84, 80, 47, 49, 46] (by first | omega | (simp only [List.length_cons, List.length_nil]; omega) | (simp; omega))
    obtain ⟨Y22, hY22⟩ : ∃ Y, Y = (Y21 : List UInt8) ++ XB := ⟨_, rfl⟩
    have lY22 : Y22.length = Y21.length + 1 := by rw [hY22, List.length_append] <;> first | rfl | omega | (simp only [List.length_cons, List.length_nil]; omega)
    have aY22 : binOp .add 9 (S Y21) (S XB) = pure (S Y22) := by rw [hY22]; exact S_add 9 Y21 XB (by first | omega | (simp only [List.length_cons, List.length_nil]; omega) | (simp; omega))
    obtain ⟨Y30, hY30⟩ : ∃ Y, Y = ([47] : List UInt8) ++ XA := ⟨_, rfl⟩
    have lY30 : Y30.length = 1 + 1 := by rw [hY30, List.length_append] <;> first | rfl | omega | (simp only [List.length_cons, List.length_nil]; omega)
    have aY30 : binOp .add 9 (.string ⟨#[47]⟩) (S XA) = pure (S Y30) := by rw [hY30]; exact S_add 9 [47] XA (by first | omega | (simp only [List.length_cons, List.length_nil]; omega) | (simp; omega))
    obtain ⟨Y31, hY31⟩ : ∃ Y, Y = (Y30 : List UInt8) ++ XB := ⟨_, rfl⟩
    have lY31 : Y31.length = Y30.length + 1 := by rw [hY31, List.length_append] <;> first | rfl | omega | (simp only [List.length_cons, List.length_nil]; omega)
    have aY31 : binOp .add 9 (S Y30) (S XB) = pure (S Y31) := by rw [hY31]; exact S_add 9 Y30 XB (by first | omega | (simp only [List.length_cons, List.length_nil]; omega) | (simp; omega))
    obtain ⟨Y32, hY32⟩ : ∃ Y, Y = (Y31 : List UInt8) ++ s := ⟨_, rfl⟩
    have lY32 : Y32.length = Y31.length + s.length := by rw [hY32, List.length_append] <;> first | rfl | omega | (simp only [List.length_cons, List.length_nil]; omega)
    have aY32 : binOp .add 9 (S Y31) (S s) = pure (S Y32) := by rw [hY32]; exact S_add 9 Y31 s (by first | omega | (simp only [List.length_cons, List.length_nil]; omega) | (simp; omega))
    obtain ⟨Y40, hY40⟩ : ∃ Y, Y = ([47, 97, 37] : List UInt8) ++ XA := ⟨_, rfl⟩
    have lY40 : Y40.length = 3 + 1 := by rw [hY40, List.length_append] <;> first | rfl | omega | (simp only [List.length_cons, List.length_nil]; omega)
    have aY40 : binOp .add 9 (.string ⟨#[47, 97, 37]⟩) (S XA) = pure (S Y40) := by rw [hY40]; exact S_add 9 [47, 97, 37] XA (by first | omega | (simp only [List.length_cons, List.length_nil]; omega) | (simp; omega))
    obtain ⟨Y41, hY41⟩ : ∃ Y, Y = (Y40 : List UInt8) ++ XB := ⟨_, rfl⟩
    have lY41 : Y41.length = Y40.length + 1 := by rw [hY41, List.length_append] <;> first | rfl | omega | (simp only [List.length_cons, List.length_nil]; omega)
    have aY41 : binOp .add 9 (S Y40) (S XB) = pure (S Y41) := by rw [hY41]; exact S_add 9 Y40 XB (by first | omega | (simp only [List.length_cons, List.length_nil]; omega) | (simp; omega))
    obtain ⟨Y50, hY50⟩ : ∃ Y, Y = ([72, 84, 84, 80, 47, 49, 46, 49, 32, 50] : List UInt8) ++ XA := ⟨_, rfl⟩
    have lY50 : Y50.length = 10 + 1 := by rw [hY50, List.length_append] <;> first | rfl | omega | (simp only [List.length_cons, List.length_nil]; omega)
    have aY50 : binOp .add 9 (.string ⟨#[72, 84, 84, 80, 47, 49, 46, 49, 32, 50]⟩) (S XA) = pure (S Y50) := by rw [hY50]; exact S_add 9 [72, 84, 84, 80, 47, 49, 46, 49, 32, 50] XA (by first | omega | (simp only [List.length_cons, List.length_nil]; omega) | (simp; omega))
    obtain ⟨Y51, hY51⟩ : ∃ Y, Y = (Y50 : List UInt8) ++ XB := ⟨_, rfl⟩
    have lY51 : Y51.length = Y50.length + 1 := by rw [hY51, List.length_append] <;> first | rfl | omega | (simp only [List.length_cons, List.length_nil]; omega)
    have aY51 : binOp .add 9 (S Y50) (S XB) = pure (S Y51) := by rw [hY51]; exact S_add 9 Y50 XB (by first | omega | (simp only [List.length_cons, List.length_nil]; omega) | (simp; omega))
    obtain ⟨Y52, hY52⟩ : ∃ Y, Y = (Y51 : List UInt8) ++ [32] := ⟨_, rfl⟩
    have lY52 : Y52.length = Y51.length + 1 := by rw [hY52, List.length_append] <;> first | rfl | omega | (simp only [List.length_cons, List.length_nil]; omega)
    have aY52 : binOp .add 9 (S Y51) (.string ⟨#[32]⟩) = pure (S Y52) := by rw [hY52]; exact S_add 9 Y51 [32] (by first | omega | (simp only [List.length_cons, List.length_nil]; omega) | (simp; omega))
    obtain ⟨Y53, hY53⟩ : ∃ Y, Y = (Y52 : List UInt8) ++ s := ⟨_, rfl⟩
    have lY53 : Y53.length = Y52.length + s.length := by rw [hY53, List.length_append] <;> first | rfl | omega | (simp only [List.length_cons, List.length_nil]; omega)
    have aY53 : binOp .add 9 (S Y52) (S s) = pure (S Y53) := by rw [hY53]; exact S_add 9 Y52 s (by first | omega | (simp only [List.length_cons, List.length_nil]; omega) | (simp; omega))
    obtain ⟨Y60, hY60⟩ : ∃ Y, Y = ([72, 84, 84, 80, 47, 49, 46, 49, 32, 50, 48, 48] : List UInt8) ++ XA := ⟨_, rfl⟩
    have lY60 : Y60.length = 12 + 1 := by rw [hY60, List.length_append] <;> first | rfl | omega | (simp only [List.length_cons, List.length_nil]; omega)
    have aY60 : binOp .add 9 (.string ⟨#[72, 84, 84, 80, 47, 49, 46, 49, 32, 50, 48, 48]⟩) (S XA) = pure (S Y60) := by rw [hY60]; exact S_add 9 [72, 84, 84, 80, 47, 49, 46, 49, 32, 50, 48, 48] XA (by first | omega | (simp only [List.length_cons, List.length_nil]; omega) | (simp; omega))
    obtain ⟨Y61, hY61⟩ : ∃ Y, Y = (Y60 : List UInt8) ++ s := ⟨_, rfl⟩
    have lY61 : Y61.length = Y60.length + s.length := by rw [hY61, List.length_append] <;> first | rfl | omega | (simp only [List.length_cons, List.length_nil]; omega)
    have aY61 : binOp .add 9 (S Y60) (S s) = pure (S Y61) := by rw [hY61]; exact S_add 9 Y60 s (by first | omega | (simp only [List.length_cons, List.length_nil]; omega) | (simp; omega))
    obtain ⟨Y62, hY62⟩ : ∃ Y, Y = (Y61 : List UInt8) ++ XB := ⟨_, rfl⟩
    have lY62 : Y62.length = Y61.length + 1 := by rw [hY62, List.length_append] <;> first | rfl | omega | (simp only [List.length_cons, List.length_nil]; omega)
    have aY62 : binOp .add 9 (S Y61) (S XB) = pure (S Y62) := by rw [hY62]; exact S_add 9 Y61 XB (by first | omega | (simp only [List.length_cons, List.length_nil]; omega) | (simp; omega))
    have HR : Hid (∀ (Y : List UInt8) W, Y.length ≤ 1000 → Calls Tryd.prog 4 #[S Y] W fun e w' => e = .returned (.bool true) ∧ Below W.heap.size W w') := Lib.hid fun Y W h => lreads_any L Y (by simp only [maxLen]; omega) W
    have HY : Hid (Y00.length ≤ 1000 ∧ Y14.length ≤ 1000 ∧ Y22.length ≤ 1000 ∧ Y32.length ≤ 1000 ∧ Y41.length ≤ 1000 ∧ Y53.length ≤ 1000 ∧ Y62.length ≤ 1000) := Lib.hid (by omega)
    clear lA lB hsl hY00 lY00 hY10 lY10 hY11 lY11 hY12 lY12 hY13 lY13 hY14 lY14 hY20 lY20 hY21 lY21 hY22 lY22 hY30 lY30 hY31 lY31 hY32 lY32 hY40 lY40 hY41 lY41 hY50 lY50 hY51 lY51 hY52 lY52 hY53 lY53 hY60 lY60 hY61 lY61 hY62 lY62 hmx
    go_wp2_with fail
    refine (HR.out Y00 _ HY.out.1).mono ?_
    rintro e W3 ⟨rfl, hB⟩
    have H3 := Lib.hid (H2.out.trans (hB.mono H2.out.size))
    clear hB
    go_wp2_with fail
    refine (HR.out Y14 _ HY.out.2.1).mono ?_
    rintro e W4 ⟨rfl, hB⟩
    have H4 := Lib.hid (H3.out.trans (hB.mono H3.out.size))
    clear hB
    go_wp2_with fail
    refine (HR.out Y22 _ HY.out.2.2.1).mono ?_
    rintro e W5 ⟨rfl, hB⟩
    have H5 := Lib.hid (H4.out.trans (hB.mono H4.out.size))
    clear hB
    go_wp2_with fail
    refine (HR.out Y32 _ HY.out.2.2.2.1).mono ?_
    rintro e W6 ⟨rfl, hB⟩
    have H6 := Lib.hid (H5.out.trans (hB.mono H5.out.size))
    clear hB
    go_wp2_with fail
    refine (HR.out Y41 _ HY.out.2.2.2.2.1).mono ?_
    rintro e W7 ⟨rfl, hB⟩
    have H7 := Lib.hid (H6.out.trans (hB.mono H6.out.size))
    clear hB
    go_wp2_with fail
    refine (HR.out Y53 _ HY.out.2.2.2.2.2.1).mono ?_
    rintro e W8 ⟨rfl, hB⟩
    have H8 := Lib.hid (H7.out.trans (hB.mono H7.out.size))
    clear hB
    go_wp2_with fail
    refine (HR.out Y62 _ HY.out.2.2.2.2.2.2).mono ?_
    rintro e W9 ⟨rfl, hB⟩
    have H9 := Lib.hid (H8.out.trans (hB.mono H8.out.size))
    clear hB
    go_wp2
    go_ret
    exact ⟨rfl, H9.out⟩
end Go.Proofs.YtemlbegafkmgbaaDoor
