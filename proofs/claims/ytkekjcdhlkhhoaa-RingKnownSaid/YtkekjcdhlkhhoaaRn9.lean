/- Clear, New and Set walked; of none: Push. -/
import Derived.Test.YtkekjcdhlkhhoaaRn8
namespace Go.Proofs.Ytkekjcdhlkhhoaa
namespace Rn
open Go.RowKit
attribute [local go_sem] store_one S_match S_store

set_option maxRecDepth 100000 in
set_option maxHeartbeats 400000 in
theorem clear_none_of {p : Option Addr} {w : World} (hl : Calls Try.prog 28 #[.pointer p] w fun e w' => e = .returned (.int .i64 0) ∧ w' = w) :
    Calls Try.prog 27 #[.pointer p] w fun e w' => e = .returned (.int .i64 0) ∧ w' = w := by
  go_enter Try.func27, Try.ntmps27
  go_wp2_with fail
  refine hl.mono ?_
  rintro e w1 ⟨rfl, hw1⟩
  obtain rfl := hw1.symm
  go_wp2
  go_loopw [7] (fun iv wr => iv = .int .i64 0 ∧ wr = w) (fun _ _ => 0)
  case atStart => exact ⟨rfl, rfl⟩
  case round =>
    obtain ⟨rfl, rfl⟩ := hrel
    go_wp2
    go_ret
    exact ⟨rfl, rfl⟩
set_option maxRecDepth 100000 in
set_option maxHeartbeats 400000 in
theorem clear_core {g m f : Nat} {v : Value} {cs xs : List (Int)} {w : World} (h : Core w g m v f cs xs) :
    Calls Try.prog 27 #[.pointer (some ⟨g, 0, none⟩)] w fun e w' => e = .returned (.int .i64 (xs.length : Int)) ∧ ∃ v' f' cs', Core w' g m v' f' cs' [] ∧ Moves (Foot g v) (Foot g v') w w' := by
  have hl := len_core h
  have hfew := h.few
  obtain ⟨N, hN⟩ : ∃ N, N = xs.length := ⟨_, rfl⟩
  rw [← hN] at hl hfew ⊢
  have H0 := Lib.hid (And.intro h hN)
  clear h hN
  go_enter Try.func27, Try.ntmps27
  go_wp2_with fail
  refine hl.mono ?_
  rintro e w1 ⟨rfl, hw1⟩
  obtain rfl := hw1.symm
  go_wp2
  go_loopw [7] (fun iv wr => ∃ (i : Nat) (ys : List (Int)) (v' : Value) (f' : Nat) (cs' : List (Int)), ys.length + i = N ∧ iv = .int .i64 (i : Int) ∧ Core wr g m v' f' cs' ys ∧ Moves (Foot g v) (Foot g v') w wr) (fun iv _ => N - (intOf iv).toNat)
  case atStart => exact ⟨0, xs, v, f, cs, by rw [H0.out.2]; omega, rfl, H0.out.1, Moves.refl _ _⟩
  case round =>
    obtain ⟨i, ys, v', f', cs', hn, rfl, hC, hM⟩ := hrel
    cases ys with
    | cons y r =>
      rw [List.length_cons] at hn
      have hlt : i < N := by omega
      have H1 := Lib.hid hM
      have HP := Lib.hid (pop_core hC)
      clear hC hM
      go_wp2_with fail
      refine HP.out.mono ?_
      rintro e W2 ⟨rfl, v2, f2, cs2, hC2, hm2⟩
      have H2 := Lib.hid (And.intro hC2 (H1.out.trans hm2))
      clear hC2 hm2
      go_wp2
      exact ⟨⟨i + 1, r, v2, f2, cs2, by omega, by go_num, H2.out⟩, by simp [intOf]; omega⟩
    | nil =>
      rw [List.length_nil, Nat.zero_add] at hn
      subst hn
      have H1 := Lib.hid (And.intro hC hM)
      clear hC hM
      go_wp2
      go_ret
      exact ⟨rfl, _, _, _, H1.out⟩

set_option maxRecDepth 100000 in
set_option maxHeartbeats 400000 in
theorem new_bad (n : Int) (w : World) (h : n < 1 ∨ 65536 < n) :
    Calls Try.prog 13 #[.int .i64 n] w fun e w' => e = .returned (.tuple #[.pointer none, .int .i64 1]) ∧ w' = w := by
  rcases h with h | h
  · have hb : decide (n < 1) = true := decide_eq_true h
    go_enter Try.func13, Try.ntmps13
    go_wp2
    go_ret2
    exact ⟨rfl, rfl⟩
  · have hb : decide (n < 1) = false := decide_eq_false (by omega)
    have hb2 : decide (n > 65536) = true := decide_eq_true (by omega)
    have hb3 : decide (65536 < n) = true := decide_eq_true (by omega)
    go_enter Try.func13, Try.ntmps13
    go_wp2
    go_ret2
    exact ⟨rfl, rfl⟩
set_option maxRecDepth 100000 in
set_option maxHeartbeats 400000 in
theorem new_int (n : Int) (w : World) (h1 : 1 ≤ n) (h2 : n ≤ 65536) :
    Calls Try.prog 13 #[.int .i64 n] w fun e w' => e = .returned (.tuple #[.pointer (some ⟨w.heap.size, 0, none⟩), .int .i64 0]) ∧ w' = w.alloc (.cells #[.int .i64 n, .slice none 0 0, .int .i64 0, .int .i64 0] 57) := by
  have hb : decide (n < 1) = false := decide_eq_false (by omega)
  have hb2 : decide (n > 65536) = false := decide_eq_false (by omega)
  have hb3 : decide (65536 < n) = false := decide_eq_false (by omega)
  clear h1 h2
  go_enter Try.func13, Try.ntmps13
  go_wp2
  go_ret2
  exact ⟨rfl, rfl⟩
/-- A ring of nothing, of whatever room. -/
theorem core_new (m : Nat) (w : World) (h2 : m ≤ 65536) : Core (w.alloc (.cells #[.int .i64 (m : Int), .slice none 0 0, .int .i64 0, .int .i64 0] 57)) w.heap.size m (.slice none 0 0) 0 [] [] :=
  ⟨row_new w _ _, liesK_nil K _, fun k hk => (by cases hk), turned_nil, Nat.zero_le _, h2⟩
theorem new_core (m : Nat) (w : World) (h1 : 1 ≤ m) (h2 : m ≤ 65536) :
    Calls Try.prog 13 #[.int .i64 (m : Int)] w fun e w' => e = .returned (.tuple #[.pointer (some ⟨w.heap.size, 0, none⟩), .int .i64 0]) ∧ Core w' w.heap.size m (.slice none 0 0) 0 [] [] ∧ Below w.heap.size w w' :=
  (new_int (m : Int) w (by omega) (by omega)).mono (by
    rintro e w' ⟨he, rfl⟩
    exact ⟨he, core_new m w h2, (Below.refl _ w).alloc (Nat.le_refl _) _⟩)
set_option maxRecDepth 100000 in
set_option maxHeartbeats 400000 in
theorem push_nil (x : Int) (w : World) :
    Calls Try.prog 25 #[.pointer none, (Value.int .i64 x)] w fun e w' => e = .returned (.bool false) ∧ Below w.heap.size w w' := by
  go_enter Try.func25, Try.ntmps25
  go_wp2
  go_quiet (fail)
  go_wp2
  go_ret
  exact ⟨rfl, below_drewN _ _⟩
set_option maxRecDepth 100000 in
set_option maxHeartbeats 400000 in
theorem set_none_of {p : Option Addr} {w : World} (i : Int) (y : Int) (hh : Calls Try.prog 52 #[.pointer p, .int .i64 i] w fun e w' => e = .returned (.bool false) ∧ w' = w) :
    Calls Try.prog 26 #[.pointer p, .int .i64 i, (Value.int .i64 y)] w fun e w' => e = .returned (.bool false) ∧ w' = w := by
  go_enter Try.func26, Try.ntmps26
  go_wp2_with fail
  refine hh.mono ?_
  rintro e w1 ⟨rfl, hw1⟩
  obtain rfl := hw1.symm
  go_wp2
  go_ret
  exact ⟨rfl, rfl⟩
end Rn
end Go.Proofs.Ytkekjcdhlkhhoaa
