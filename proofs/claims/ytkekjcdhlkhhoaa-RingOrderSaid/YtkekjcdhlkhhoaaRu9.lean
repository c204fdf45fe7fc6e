/- Clear, New and Set walked; of none: Push. -/
import Derived.Test.YtkekjcdhlkhhoaaRu8
namespace Go.Proofs.Ytkekjcdhlkhhoaa
namespace Ru
open Go.RowKit
attribute [local go_sem] store_one S_match S_store

set_option maxRecDepth 100000 in
set_option maxHeartbeats 400000 in
theorem new_bad (n : Int) (w : World) (h : n < 1 ∨ 65536 < n) :
    Calls Try.prog 29 #[.int .i64 n] w fun e w' => e = .returned (.tuple #[.pointer none, .int .i64 1]) ∧ w' = w := by
  rcases h with h | h
  · have hb : decide (n < 1) = true := decide_eq_true h
    go_enter Try.func29, Try.ntmps29
    go_wp2
    go_ret2
    exact ⟨rfl, rfl⟩
  · have hb : decide (n < 1) = false := decide_eq_false (by omega)
    have hb2 : decide (n > 65536) = true := decide_eq_true (by omega)
    have hb3 : decide (65536 < n) = true := decide_eq_true (by omega)
    go_enter Try.func29, Try.ntmps29
    go_wp2
    go_ret2
    exact ⟨rfl, rfl⟩
set_option maxRecDepth 100000 in
set_option maxHeartbeats 400000 in
theorem new_int (n : Int) (w : World) (h1 : 1 ≤ n) (h2 : n ≤ 65536) :
    Calls Try.prog 29 #[.int .i64 n] w fun e w' => e = .returned (.tuple #[.pointer (some ⟨w.heap.size, 0, none⟩), .int .i64 0]) ∧ w' = w.alloc (.cells #[.int .i64 n, .slice none 0 0, .int .i64 0, .int .i64 0] 96) := by
  have hb : decide (n < 1) = false := decide_eq_false (by omega)
  have hb2 : decide (n > 65536) = false := decide_eq_false (by omega)
  have hb3 : decide (65536 < n) = false := decide_eq_false (by omega)
  clear h1 h2
  go_enter Try.func29, Try.ntmps29
  go_wp2
  go_ret2
  exact ⟨rfl, rfl⟩
/-- A ring of nothing, of whatever room. -/
theorem core_new (m : Nat) (w : World) (h2 : m ≤ 65536) : Core (w.alloc (.cells #[.int .i64 (m : Int), .slice none 0 0, .int .i64 0, .int .i64 0] 96)) w.heap.size m (.slice none 0 0) 0 [] [] :=
  ⟨row_new w _ _, liesK_nil K _, fun k hk => (by cases hk), turned_nil, Nat.zero_le _, h2⟩
theorem new_core (m : Nat) (w : World) (h1 : 1 ≤ m) (h2 : m ≤ 65536) :
    Calls Try.prog 29 #[.int .i64 (m : Int)] w fun e w' => e = .returned (.tuple #[.pointer (some ⟨w.heap.size, 0, none⟩), .int .i64 0]) ∧ Core w' w.heap.size m (.slice none 0 0) 0 [] [] ∧ Below w.heap.size w w' :=
  (new_int (m : Int) w (by omega) (by omega)).mono (by
    rintro e w' ⟨he, rfl⟩
    exact ⟨he, core_new m w h2, (Below.refl _ w).alloc (Nat.le_refl _) _⟩)
set_option maxRecDepth 100000 in
set_option maxHeartbeats 400000 in
theorem push_nil (x : Nat) (w : World) :
    Calls Try.prog 30 #[.pointer none, (Value.int .u16 (x : Int))] w fun e w' => e = .returned (.bool false) ∧ Below w.heap.size w w' := by
  go_enter Try.func30, Try.ntmps30
  go_wp2
  go_quiet (fail)
  go_wp2
  go_ret
  exact ⟨rfl, below_drewN _ _⟩
end Ru
end Go.Proofs.Ytkekjcdhlkhhoaa
