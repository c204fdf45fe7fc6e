/- The wake walked. -/
import Derived.Test.YtkekjcdhlkhhoaaL7
namespace Go.Proofs.Ytkekjcdhlkhhoaa
open Go.RowKit
attribute [local go_sem] store_one S_match S_store

/-- One ring made since w0. -/
def One (RA : World → (Nat → Prop) → Nat → Nat → List (List UInt8) → Prop) (w0 : World) (g m : Nat) (xs : List (List UInt8)) (W : World) : Prop :=
  ∃ F, RA W F g m xs ∧ (∀ k, F k → w0.heap.size ≤ k) ∧ Below w0.heap.size w0 W
section
variable {RA : World → (Nat → Prop) → Nat → Nat → List (List UInt8) → Prop} {w0 W W' : World} {g m : Nat} {xs ys : List (List UInt8)}
theorem One.moves {F F' : Nat → Prop} (h0 : ∀ k, F k → w0.heap.size ≤ k) (hb : Below w0.heap.size w0 W) (h : RA W' F' g m ys) (hm : Moves F F' W W') : One RA w0 g m ys W' :=
  ⟨F', h, fun k hk => by
    rcases hm.foot k hk with h1 | h1
    · exact h0 k h1
    · have := hb.size; omega, hb.trans (hm.below h0 hb.size)⟩
theorem One.below (R : RingS RA) (H : One RA w0 g m xs W) (hb : Below W.heap.size W W') : One RA w0 g m xs W' := by
  obtain ⟨F, h, h0, h1⟩ := H
  exact ⟨F, R.same h hb.size (fun k hk => hb.block k ((R.lt h).2 k hk)), h0, h1.trans (hb.mono h1.size)⟩

set_option maxRecDepth 100000 in
set_option maxHeartbeats 1000000 in
theorem awake_any (R : RingS RA) (w : World) : Calls Try.prog 14 #[] w fun e w' => e = .returned (.bool true) ∧ Below w.heap.size w w' := by
  go_enter Try.func14, Try.ntmps14
  go_wp2_with fail
  refine (R.new_good 2 w (by decide) (by decide)).mono ?_
  rintro e W1 ⟨g, F1, rfl, h1, f1, b1⟩
  have H1 : Hid (One RA w g 2 [] W1) := Lib.hid ⟨F1, h1, f1, b1⟩
  clear h1 f1 b1
  obtain ⟨F2, r2, f2, b2⟩ := H1.out
  have h2 : Calls Try.prog 35 #[.pointer (some ⟨g, 0, none⟩), .string ⟨#[97]⟩] W1 fun e w' => e = .returned (.bool true) ∧ ∃ F', RA w' F' g 2 [[97]] ∧ Moves F2 F' W1 w' := R.push [97] r2 (by decide)
  go_wp2_with fail
  refine h2.mono ?_
  rintro e W2 ⟨rfl, G2, q2, m2⟩
  have H2 := Lib.hid (One.moves f2 b2 q2 m2)
  clear r2 f2 b2 h2 q2 m2
  obtain ⟨F3, r3, f3, b3⟩ := H2.out
  have h3 : Calls Try.prog 35 #[.pointer (some ⟨g, 0, none⟩), .string ⟨#[98]⟩] W2 fun e w' => e = .returned (.bool true) ∧ ∃ F', RA w' F' g 2 [[97], [98]] ∧ Moves F3 F' W2 w' := R.push [98] r3 (by decide)
  go_wp2_with fail
  refine h3.mono ?_
  rintro e W3 ⟨rfl, G3, q3, m3⟩
  have H3 := Lib.hid (One.moves f3 b3 q3 m3)
  clear r3 f3 b3 h3 q3 m3
  obtain ⟨F4, r4, f4, b4⟩ := H3.out
  have h4 : Calls Try.prog 35 #[.pointer (some ⟨g, 0, none⟩), .string ⟨#[99]⟩] W3 fun e w' => e = .returned (.bool false) ∧ ∃ F', RA w' F' g 2 [[97], [98]] ∧ Moves F4 F' W3 w' := R.push [99] r4 (by decide)
  go_wp2_with fail
  refine h4.mono ?_
  rintro e W4 ⟨rfl, G4, q4, m4⟩
  have H4 := Lib.hid (One.moves f4 b4 q4 m4)
  clear r4 f4 b4 h4 q4 m4
  have h5 : Calls Try.prog 21 #[.pointer (some ⟨g, 0, none⟩), .int .i64 1] W4 fun e w' => e = .returned (.tuple #[.string ⟨#[98]⟩, .bool true]) ∧ Below W4.heap.size W4 w' := by
    obtain ⟨F5, r5, _, _⟩ := H4.out
    exact R.at_some 1 [98] r5 rfl
  go_wp2_with fail
  refine h5.mono ?_
  rintro e W5 ⟨rfl, b5⟩
  have H5 := Lib.hid (H4.out.below R b5)
  clear h5 b5
  obtain ⟨F6, r6, f6, b6⟩ := H5.out
  have h6 : Calls Try.prog 36 #[.pointer (some ⟨g, 0, none⟩)] W5 fun e w' => e = .returned (.tuple #[.string ⟨#[97]⟩, .bool true]) ∧ ∃ F', RA w' F' g 2 [[98]] ∧ Moves F6 F' W5 w' := R.pop_some r6
  go_wp2_with fail
  refine h6.mono ?_
  rintro e W6 ⟨rfl, G6, q6, m6⟩
  have H6 := Lib.hid (One.moves f6 b6 q6 m6)
  clear r6 f6 b6 h6 q6 m6
  have h7 : Calls Try.prog 20 #[.pointer (some ⟨g, 0, none⟩)] W6 fun e w' => e = .returned (.int .i64 1) ∧ Below W6.heap.size W6 w' := by
    obtain ⟨F5, r5, _, _⟩ := H6.out
    exact R.len r5
  go_wp2_with fail
  refine h7.mono ?_
  rintro e W7 ⟨rfl, b7⟩
  have H7 := Lib.hid (H6.out.below R b7)
  clear h7 b7
  go_wp2
  go_ret
  obtain ⟨_, _, _, hb⟩ := H7.out
  exact ⟨rfl, hb⟩
end
end Go.Proofs.Ytkekjcdhlkhhoaa
