/- LineReads walked, over any package that does what is asked of it. -/
import Derived.Test.YtemlbegafkmgbaaDoorLg
namespace Go.Proofs.YtemlbegafkmgbaaDoor
open Go.RowKit
attribute [local go_sem] store_one S_match S_store

set_option maxRecDepth 100000 in
set_option maxHeartbeats 1000000 in
theorem lreads_any (L : LineI) (s : List UInt8) (_hs : s.length ≤ maxLen) (w : World) :
    Calls Tryd.prog 4 #[S s] w fun e w' => e = .returned (.bool true) ∧ Below w.heap.size w w' := by
  have hlen := run_len_S (P := Tryd.prog) Tryd.underlying9 3 s
  by_cases h : 3000 < s.length
  · have j1 : decide ((3000 : Int) < (s.length : Int)) = true := decide_eq_true (by omega)
    go_enter Tryd.func4, Tryd.ntmps4
    go_wp2_with fail
    refine (awake_line L _).mono ?_
    rintro e W1 ⟨rfl, hB⟩
    have HB := Lib.hid hB
    clear hB
    go_wp2
    go_ret
    exact ⟨rfl, HB.out⟩
  have j1 : decide ((3000 : Int) < (s.length : Int)) = false := decide_eq_false (by omega)
  have hs : s.length ≤ 100000 := by omega
  obtain ⟨m, t, n, k, hP⟩ : ∃ m t n k, lineF s = (m, t, n, k) := ⟨_, _, _, _, rfl⟩
  obtain ⟨p, q, k2, hT⟩ : ∃ p q k, targetF s = (p, q, k) := ⟨_, _, _, rfl⟩
  obtain ⟨c, r, k3, hS⟩ : ∃ c r k, statusF s = (c, r, k) := ⟨_, _, _, rfl⟩
  have HA : Hid (∀ W, (Calls Tryd.prog 9 #[S s] W fun e w' => e = .returned (.tuple #[S m, S t, .int .i64 (n : Int), .bool k]) ∧ Below W.heap.size W w') ∧ (Calls Tryd.prog 14 #[S s] W fun e w' => e = .returned (.tuple #[S m, S t, .int .i64 (n : Int), .bool k]) ∧ Below W.heap.size W w')) := Lib.hid fun W => by
    have h1 := L.parse s W hs
    have h2 : Calls Tryd.prog 14 #[S s] W fun e w' => e = .returned (lineV (lineF s)) ∧ Below W.heap.size W w' := (dparse_any s hs W).mono (by rintro e w' ⟨he, hd⟩; exact ⟨he, hd.below⟩)
    rw [hP] at h1 h2
    exact ⟨h1, h2⟩
  have HB : Hid (∀ W, (Calls Tryd.prog 10 #[S s] W fun e w' => e = .returned (.tuple #[S p, S q, .bool k2]) ∧ Below W.heap.size W w') ∧ (Calls Tryd.prog 15 #[S s] W fun e w' => e = .returned (.tuple #[S p, S q, .bool k2]) ∧ Below W.heap.size W w')) := Lib.hid fun W => by
    have h1 := L.target s W hs
    have h2 : Calls Tryd.prog 15 #[S s] W fun e w' => e = .returned (targetV (targetF s)) ∧ Below W.heap.size W w' := (dtarget_any s hs W).mono (by rintro e w' ⟨he, hd⟩; exact ⟨he, hd.below⟩)
    rw [hT] at h1 h2
    exact ⟨h1, h2⟩
  have HC : Hid (∀ W, (Calls Tryd.prog 11 #[S s] W fun e w' => e = .returned (.tuple #[.int .i64 (c : Int), S r, .bool k3]) ∧ Below W.heap.size W w') ∧ (Calls Tryd.prog 16 #[S s] W fun e w' => e = .returned (.tuple #[.int .i64 (c : Int), S r, .bool k3]) ∧ Below W.heap.size W w')) := Lib.hid fun W => by
    have h1 := L.status s W hs
    have h2 : Calls Tryd.prog 16 #[S s] W fun e w' => e = .returned (statusV (statusF s)) ∧ Below W.heap.size W w' := (dstatus_any s hs W).mono (by rintro e w' ⟨he, hd⟩; exact ⟨he, hd.below⟩)
    rw [hS] at h1 h2
    exact ⟨h1, h2⟩
  have e0 : ∀ x, binOp .eql 9 (S x) (S x) = pure (.bool true) := fun x => by rw [eql_S]; simp
  have g0 := guard_S 9
  have b0 : ∀ (x : Bool) w, (binOp .eql 4 (.bool x) (.bool x)).run Tryd.prog w = .ok (.bool true) w := fun x w => by cases x <;> rfl
  have n1 : ((n : Int) == (n : Int)) = true := by simp
  have n2 : ((c : Int) == (c : Int)) = true := by simp
  clear hP hT hS h _hs hs
  go_enter Tryd.func4, Tryd.ntmps4
  go_wp2_with fail
  refine (awake_line L _).mono ?_
  rintro e W1 ⟨rfl, hB⟩
  have H1 := Lib.hid hB
  clear hB
  go_wp2_with fail
  refine (HA.out _).1.mono ?_
  rintro e W2 ⟨rfl, hB⟩
  have H2 := Lib.hid (H1.out.trans (hB.mono H1.out.size))
  clear hB H1
  go_wp2_with fail
  refine (HA.out _).2.mono ?_
  rintro e W3 ⟨rfl, hB⟩
  have H3 := Lib.hid (H2.out.trans (hB.mono H2.out.size))
  clear hB H2
  go_wp2_with fail
  refine (HB.out _).1.mono ?_
  rintro e W4 ⟨rfl, hB⟩
  have H4 := Lib.hid (H3.out.trans (hB.mono H3.out.size))
  clear hB H3
  go_wp2_with fail
  refine (HB.out _).2.mono ?_
  rintro e W5 ⟨rfl, hB⟩
  have H5 := Lib.hid (H4.out.trans (hB.mono H4.out.size))
  clear hB H4
  go_wp2_with fail
  refine (HC.out _).1.mono ?_
  rintro e W6 ⟨rfl, hB⟩
  have H6 := Lib.hid (H5.out.trans (hB.mono H5.out.size))
  clear hB H5
  go_wp2_with fail
  refine (HC.out _).2.mono ?_
  rintro e W7 ⟨rfl, hB⟩
  have H7 := Lib.hid (H6.out.trans (hB.mono H6.out.size))
  clear hB H6
  go_wp2
  go_ret
  exact ⟨rfl, H7.out⟩
end Go.Proofs.YtemlbegafkmgbaaDoor
