/- The walk of UtfFew. -/
import Derived.Test.YtmamklahnpmgjaaW10
namespace Go.Proofs.Ytmamklahnpmgjaa
open Go.RowKit
attribute [local go_sem] store_one B_match B_store

set_option maxRecDepth 100000 in
set_option maxHeartbeats 1000000 in
theorem few_any (a b c : UInt8) (s : List UInt8) (w : World) : Calls Try.prog 5 #[B a, B b, B c, S s] w fun e w' => e = .returned (.bool true) ∧ Below w.heap.size w w' := by
  have hlenS := run_len_S (P := Try.prog) Try.underlying9 3 s
  by_cases hs : s.length ≤ 200
  · have hgt : decide (200 < (s.length : Int)) = false := decide_eq_false (by omega)
    have ha1 : binOp .add 9 (S [a, b, c]) (S s) = pure (S ([a, b, c] ++ s)) := S_add 9 _ _ (by simp; omega)
    have ha2 : binOp .add 9 (S s) (S [a, b, c]) = pure (S (s ++ [a, b, c])) := S_add 9 _ _ (by simp; omega)
    have hs1 : ∀ w, (Instr.slice 9 (S [a, b, c]) none (some (.int .i64 1)) none).run Try.prog w = .ok (S [a]) w := fun w => slice_take (P := Try.prog) Try.underlying9 [a, b, c] 1 (by simp) w
    have hs2 : ∀ w, (Instr.slice 9 (S [a, b, c]) none (some (.int .i64 2)) none).run Try.prog w = .ok (S [a, b]) w := fun w => slice_take (P := Try.prog) Try.underlying9 [a, b, c] 2 (by simp) w
    go_enter Try.func5, Try.ntmps5
    go_wp2_with fail
    refine (awake_any _).mono ?_
    rintro e W1 ⟨rfl, hB1⟩
    have HB1 := Lib.hid hB1
    clear hB1
    obtain ⟨g, hg⟩ : ∃ g, g = W1.heap.size := ⟨_, rfl⟩
    have hr : Row (W1.alloc (.cells #[B a, B b, B c] 5)) g #[B a, B b, B c] 5 := by rw [hg]; exact row_new _ _ _
    have hcv : (convert 35 9 (.slice (some ⟨g, 0, none⟩) 3 3)).run Try.prog (W1.alloc (.cells #[B a, B b, B c] 5)) = .ok (S [a, b, c]) (W1.alloc (.cells #[B a, B b, B c] 5)) := by
      refine run_convert_bytes_back _ 35 9 5 ⟨g, 0, none⟩ 3 [a, b, c] Try.underlying35 Try.underlying5 Try.underlying9 fun j hj => ?_
      rw [Addr.add_mid]
      match j, hj with
      | 0, _ => exact cell_of_row _ g 0 _ 5 (0, 0) hr
      | 1, _ => exact cell_of_row _ g 1 _ 5 (0, 0) hr
      | 2, _ => exact cell_of_row _ g 2 _ 5 (0, 0) hr
      | k + 3, h => simp at h; omega
    rw [hg] at hcv
    clear hr hg
    go_wp2_with fail
    refine (reads_law _ _).mono ?_
    rintro e W2 ⟨rfl, hB2⟩
    have HB2 := Lib.hid (HB1.out.trans (((Below.refl _ W1).alloc (Nat.le_refl _) (.cells #[B a, B b, B c] 5)).trans (hB2.mono (by simp)) |>.mono HB1.out.size))
    clear hB2 hcv
    go_wp2_with fail
    refine (reads_law _ _).mono ?_
    rintro e W3 ⟨rfl, hB3⟩
    have HB3 := Lib.hid (HB2.out.trans (hB3.mono HB2.out.size))
    clear hB3
    go_wp2_with fail
    refine (reads_law [a, b] _).mono ?_
    rintro e W4 ⟨rfl, hB4⟩
    have HB4 := Lib.hid (HB3.out.trans (hB4.mono HB3.out.size))
    clear hB4
    go_wp2_with fail
    refine (reads_law [a] _).mono ?_
    rintro e W5 ⟨rfl, hB5⟩
    have HB5 := Lib.hid (HB4.out.trans (hB5.mono HB4.out.size))
    clear hB5
    go_wp2
    go_ret
    exact ⟨rfl, HB5.out⟩
  · have hgt : decide (200 < (s.length : Int)) = true := decide_eq_true (by omega)
    go_enter Try.func5, Try.ntmps5
    go_wp2_with fail
    refine (awake_any _).mono ?_
    rintro e W1 ⟨rfl, hB1⟩
    go_wp2
    go_ret
    exact ⟨rfl, hB1⟩
end Go.Proofs.Ytmamklahnpmgjaa
