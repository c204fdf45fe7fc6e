/- FieldBytes walked, over any package that does what is asked of it. -/
import Derived.Test.YtccccpbaolegcaaDoorF9
namespace Go.Proofs.YtccccpbaolegcaaDoor
open Go.RowKit
attribute [local go_sem] store_one S_match S_store

set_option maxRecDepth 100000 in
set_option maxHeartbeats 2000000 in
theorem bytes_any (F : FieldI) (c : UInt8) (s : List UInt8) (_hs : s.length ≤ maxLen) (w : World) :
    Calls Tryd.prog 6 #[B c, S s] w fun e w' => e = .returned (.bool true) ∧ Below w.heap.size w w' := by
  have hlenS := run_len_S (P := Tryd.prog) Tryd.underlying9 3 s
  obtain ⟨x, hx⟩ : ∃ x : Nat, x = c.toNat := ⟨_, rfl⟩
  have hBx : B c = .int .u8 (x : Int) := by rw [hx]; rfl
  rw [hBx]
  go_enter Tryd.func6, Tryd.ntmps6
  go_wp2_with fail
  refine (awake_any F w).mono ?_
  rintro e W1 ⟨rfl, hB1⟩
  have H1 := Lib.hid hB1
  clear hB1
  by_cases h200 : 200 < s.length
  · have j1 : decide ((200 : Int) < (s.length : Int)) = true := decide_eq_true (by omega)
    clear h200
    go_wp2
    go_ret
    exact ⟨rfl, H1.out⟩
  have j1 : decide ((200 : Int) < (s.length : Int)) = false := decide_eq_false (by omega)
  obtain ⟨X, hX⟩ : ∃ X, X = [c] := ⟨_, rfl⟩
  obtain ⟨b, hb⟩ : ∃ b, b = W1.heap.size := ⟨_, rfl⟩
  obtain ⟨W2, hW2⟩ : ∃ W2, W2 = W1.alloc (.cells #[.int .u8 (x : Int)] 5) := ⟨_, rfl⟩
  have hcv : ∀ q, (convert 38 9 (.slice (some ⟨W1.heap.size, 0, none⟩) 1 q)).run Tryd.prog (W1.alloc (.cells #[.int .u8 (x : Int)] 5)) = .ok (S X) (W1.alloc (.cells #[.int .u8 (x : Int)] 5)) := fun q => by
    rw [hX, ← hBx]
    refine run_convert_bytes_back (P := Tryd.prog) _ 38 9 5 ⟨W1.heap.size, 0, none⟩ q [c] Tryd.underlying38 Tryd.underlying5 Tryd.underlying9 (fun j hj => ?_)
    obtain rfl : j = 0 := by simpa using hj
    rw [Addr.add_mid]
    exact cell_of_row _ _ 0 _ 5 (0, 0) (row_new W1 #[B c] 5)
  have hB2 : Hid (Below w.heap.size w W2) := Lib.hid (by rw [hW2]; exact H1.out.alloc H1.out.size _)
  have hlx : X.length = 1 := by rw [hX]; rfl
  have a1 : binOp .add 9 (.string ⟨#[110]⟩) (S X) = pure (S ([110] ++ X)) := S_add 9 [110] X (by simp; omega)
  have a2 : binOp .add 9 (S ([110] ++ X)) (.string ⟨#[58, 118]⟩) = pure (S (([110] ++ X) ++ [58, 118])) := S_add 9 ([110] ++ X) [58, 118] (by simp; omega)
  have a3 : binOp .add 9 (.string ⟨#[110, 58, 118]⟩) (S X) = pure (S ([110, 58, 118] ++ X)) := S_add 9 [110, 58, 118] X (by simp; omega)
  have a4 : binOp .add 9 (S ([110, 58, 118] ++ X)) (.string ⟨#[118]⟩) = pure (S (([110, 58, 118] ++ X) ++ [118])) := S_add 9 ([110, 58, 118] ++ X) [118] (by simp; omega)
  have a5 : binOp .add 9 (.string ⟨#[97, 44]⟩) (S X) = pure (S ([97, 44] ++ X)) := S_add 9 [97, 44] X (by simp; omega)
  have a6 : binOp .add 9 (S X) (S s) = pure (S (X ++ s)) := S_add 9 X s (by omega)
  have a7 : binOp .add 9 (S s) (S X) = pure (S (s ++ X)) := S_add 9 s X (by omega)
  have HR : Hid (∀ (p q : List UInt8) W, p.length ≤ 1000 → q.length ≤ 1000 → Calls Tryd.prog 4 #[S p, S q] W fun e w' => e = .returned (.bool true) ∧ Below W.heap.size W w') := Lib.hid fun p q W hp hq => reads_any F p q (by simp only [maxLen]; omega) (by simp only [maxLen]; omega) W
  have HL : Hid (s.length ≤ 200 ∧ X.length = 1) := Lib.hid ⟨by omega, hlx⟩
  clear hX h200 _hs hlx hBx hx
  obtain ⟨Y1, hY1⟩ : ∃ Y, [110] ++ X = Y := ⟨_, rfl⟩
  rw [hY1] at a1 a2
  obtain ⟨Y2, hY2⟩ : ∃ Y, Y1 ++ [58, 118] = Y := ⟨_, rfl⟩
  rw [hY2] at a2
  obtain ⟨Y3, hY3⟩ : ∃ Y, [110, 58, 118] ++ X = Y := ⟨_, rfl⟩
  rw [hY3] at a3 a4
  obtain ⟨Y4, hY4⟩ : ∃ Y, Y3 ++ [118] = Y := ⟨_, rfl⟩
  rw [hY4] at a4
  obtain ⟨Y5, hY5⟩ : ∃ Y, [97, 44] ++ X = Y := ⟨_, rfl⟩
  rw [hY5] at a5
  obtain ⟨Y6, hY6⟩ : ∃ Y, X ++ s = Y := ⟨_, rfl⟩
  rw [hY6] at a6
  obtain ⟨Y7, hY7⟩ : ∃ Y, s ++ X = Y := ⟨_, rfl⟩
  rw [hY7] at a7
  have hx1 := HL.out.2
  have hx2 := HL.out.1
  have HY : Hid (Y2.length ≤ 1000 ∧ Y4.length ≤ 1000 ∧ Y5.length ≤ 1000 ∧ Y6.length ≤ 1000 ∧ Y7.length ≤ 1000 ∧ X.length ≤ 1000 ∧ s.length ≤ 1000) := Lib.hid (by
    rw [← hY2, ← hY1, ← hY4, ← hY3, ← hY5, ← hY6, ← hY7]
    simp only [List.length_append, List.length_cons, List.length_nil]
    omega)
  clear hY1 hY2 hY3 hY4 hY5 hY6 hY7 hx1 hx2
  go_wp2_with fail
  rw [← hW2]
  clear hW2 hcv hb
  refine (HR.out X s W2 HY.out.2.2.2.2.2.1 HY.out.2.2.2.2.2.2).mono ?_
  rintro e W3 ⟨rfl, hb⟩
  have H3 := Lib.hid (hB2.out.trans (hb.mono hB2.out.size))
  clear hb
  go_wp2_with fail
  refine (HR.out Y2 X W3 HY.out.1 HY.out.2.2.2.2.2.1).mono ?_
  rintro e W4 ⟨rfl, hb⟩
  have H4 := Lib.hid (H3.out.trans (hb.mono H3.out.size))
  clear hb
  go_wp2_with fail
  have h5 : Calls Tryd.prog 4 #[S Y4, .string ⟨#[78]⟩] W4 fun e w' => e = .returned (.bool true) ∧ Below W4.heap.size W4 w' := HR.out Y4 [78] W4 HY.out.2.1 (by decide)
  refine h5.mono ?_
  rintro e W5 ⟨rfl, hb⟩
  have H5 := Lib.hid (H4.out.trans (hb.mono H4.out.size))
  clear hb h5
  go_wp2_with fail
  refine (HR.out Y5 X W5 HY.out.2.2.1 HY.out.2.2.2.2.2.1).mono ?_
  rintro e W6 ⟨rfl, hb⟩
  have H6 := Lib.hid (H5.out.trans (hb.mono H5.out.size))
  clear hb
  go_wp2_with fail
  refine (HR.out Y6 Y7 W6 HY.out.2.2.2.1 HY.out.2.2.2.2.1).mono ?_
  rintro e W7 ⟨rfl, hb⟩
  have H7 := Lib.hid (H6.out.trans (hb.mono H6.out.size))
  clear hb
  go_wp2
  go_ret
  exact ⟨rfl, H7.out⟩
end Go.Proofs.YtccccpbaolegcaaDoor
