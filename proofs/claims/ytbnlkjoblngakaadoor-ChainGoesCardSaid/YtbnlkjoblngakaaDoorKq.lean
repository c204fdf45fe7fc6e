/- The document's own (stage 13) walked. (mkkq.py writes it.) -/
import Derived.Test.YtbnlkjoblngakaaDoorKo
namespace Go.Proofs.YtbnlkjoblngakaaDoor
open Go.RowKit Go.Shelf
attribute [local go_sem] store_one S_match S_store eguard_BN nguard_BN

set_option maxRecDepth 100000 in
set_option maxHeartbeats 2000000 in
theorem own13_any (s : List UInt8) (hs : s.length ≤ 100000) (w : World) : Calls Tryd.prog 29 #[S s] w fun e w' => e = .returned (.bool (ownN s)) ∧ Below w.heap.size w w' := by
  have HL := Lib.hid (low13_any s hs w)
  have HX : Hid (ownN s = ownNames.contains (s.map lowB)) := Lib.hid rfl
  generalize s.map lowB = x at *
  have q0 : binOp .eql 9 (S x) (.string ⟨#[97, 108, 108, 111, 119]⟩) = pure (.bool (x == [97, 108, 108, 111, 119])) := by rw [show Value.string ⟨#[97, 108, 108, 111, 119]⟩ = S [97, 108, 108, 111, 119] from rfl, eql_S]
  have n0 : ∀ a b, eqGuard .eql 9 a b (S x) (.string ⟨#[97, 108, 108, 111, 119]⟩) = pure () := fun a b => guard_S 9 a b x [97, 108, 108, 111, 119]
  have q1 : binOp .eql 9 (S x) (.string ⟨#[99, 111, 110, 110, 101, 99, 116, 105, 111, 110]⟩) = pure (.bool (x == [99, 111, 110, 110, 101, 99, 116, 105, 111, 110])) := by rw [show Value.string ⟨#[99, 111, 110, 110, 101, 99, 116, 105, 111, 110]⟩ = S [99, 111, 110, 110, 101, 99, 116, 105, 111, 110] from rfl, eql_S]
  have n1 : ∀ a b, eqGuard .eql 9 a b (S x) (.string ⟨#[99, 111, 110, 110, 101, 99, 116, 105, 111, 110]⟩) = pure () := fun a b => guard_S 9 a b x [99, 111, 110, 110, 101, 99, 116, 105, 111, 110]
  have q2 : binOp .eql 9 (S x) (.string ⟨#[99, 111, 110, 116, 101, 110, 116, 45, 108, 101, 110, 103, 116, 104]⟩) = pure (.bool (x == [99, 111, 110, 116, 101, 110, 116, 45, 108, 101, 110, 103, 116, 104])) := by rw [show Value.string ⟨#[99, 111, 110, 116, 101, 110, 116, 45, 108, 101, 110, 103, 116, 104]⟩ = S [99, 111, 110, 116, 101, 110, 116, 45, 108, 101, 110, 103, 116, 104] from rfl, eql_S]
  have n2 : ∀ a b, eqGuard .eql 9 a b (S x) (.string ⟨#[99, 111, 110, 116, 101, 110, 116, 45, 108, 101, 110, 103, 116, 104]⟩) = pure () := fun a b => guard_S 9 a b x [99, 111, 110, 116, 101, 110, 116, 45, 108, 101, 110, 103, 116, 104]
  have q3 : binOp .eql 9 (S x) (.string ⟨#[115, 101, 99, 45, 119, 101, 98, 115, 111, 99, 107, 101, 116, 45, 97, 99, 99, 101, 112, 116]⟩) = pure (.bool (x == [115, 101, 99, 45, 119, 101, 98, 115, 111, 99, 107, 101, 116, 45, 97, 99, 99, 101, 112, 116])) := by rw [show Value.string ⟨#[115, 101, 99, 45, 119, 101, 98, 115, 111, 99, 107, 101, 116, 45, 97, 99, 99, 101, 112, 116]⟩ = S [115, 101, 99, 45, 119, 101, 98, 115, 111, 99, 107, 101, 116, 45, 97, 99, 99, 101, 112, 116] from rfl, eql_S]
  have n3 : ∀ a b, eqGuard .eql 9 a b (S x) (.string ⟨#[115, 101, 99, 45, 119, 101, 98, 115, 111, 99, 107, 101, 116, 45, 97, 99, 99, 101, 112, 116]⟩) = pure () := fun a b => guard_S 9 a b x [115, 101, 99, 45, 119, 101, 98, 115, 111, 99, 107, 101, 116, 45, 97, 99, 99, 101, 112, 116]
  have q4 : binOp .eql 9 (S x) (.string ⟨#[115, 101, 99, 45, 119, 101, 98, 115, 111, 99, 107, 101, 116, 45, 118, 101, 114, 115, 105, 111, 110]⟩) = pure (.bool (x == [115, 101, 99, 45, 119, 101, 98, 115, 111, 99, 107, 101, 116, 45, 118, 101, 114, 115, 105, 111, 110])) := by rw [show Value.string ⟨#[115, 101, 99, 45, 119, 101, 98, 115, 111, 99, 107, 101, 116, 45, 118, 101, 114, 115, 105, 111, 110]⟩ = S [115, 101, 99, 45, 119, 101, 98, 115, 111, 99, 107, 101, 116, 45, 118, 101, 114, 115, 105, 111, 110] from rfl, eql_S]
  have n4 : ∀ a b, eqGuard .eql 9 a b (S x) (.string ⟨#[115, 101, 99, 45, 119, 101, 98, 115, 111, 99, 107, 101, 116, 45, 118, 101, 114, 115, 105, 111, 110]⟩) = pure () := fun a b => guard_S 9 a b x [115, 101, 99, 45, 119, 101, 98, 115, 111, 99, 107, 101, 116, 45, 118, 101, 114, 115, 105, 111, 110]
  have q5 : binOp .eql 9 (S x) (.string ⟨#[116, 114, 97, 110, 115, 102, 101, 114, 45, 101, 110, 99, 111, 100, 105, 110, 103]⟩) = pure (.bool (x == [116, 114, 97, 110, 115, 102, 101, 114, 45, 101, 110, 99, 111, 100, 105, 110, 103])) := by rw [show Value.string ⟨#[116, 114, 97, 110, 115, 102, 101, 114, 45, 101, 110, 99, 111, 100, 105, 110, 103]⟩ = S [116, 114, 97, 110, 115, 102, 101, 114, 45, 101, 110, 99, 111, 100, 105, 110, 103] from rfl, eql_S]
  have n5 : ∀ a b, eqGuard .eql 9 a b (S x) (.string ⟨#[116, 114, 97, 110, 115, 102, 101, 114, 45, 101, 110, 99, 111, 100, 105, 110, 103]⟩) = pure () := fun a b => guard_S 9 a b x [116, 114, 97, 110, 115, 102, 101, 114, 45, 101, 110, 99, 111, 100, 105, 110, 103]
  have q6 : binOp .eql 9 (S x) (.string ⟨#[117, 112, 103, 114, 97, 100, 101]⟩) = pure (.bool (x == [117, 112, 103, 114, 97, 100, 101])) := by rw [show Value.string ⟨#[117, 112, 103, 114, 97, 100, 101]⟩ = S [117, 112, 103, 114, 97, 100, 101] from rfl, eql_S]
  have n6 : ∀ a b, eqGuard .eql 9 a b (S x) (.string ⟨#[117, 112, 103, 114, 97, 100, 101]⟩) = pure () := fun a b => guard_S 9 a b x [117, 112, 103, 114, 97, 100, 101]
  by_cases h0 : x = [97, 108, 108, 111, 119]
  · rw [beq_iff_eq.2 h0] at q0
    have HT : Hid (ownN s = true) := Lib.hid (by rw [HX.out, h0]; decide)
    clear HX h0 q1 n1 q2 n2 q3 n3 q4 n4 q5 n5 q6 n6
    go_enter Tryd.func29, Tryd.ntmps29
    go_wp2_with fail
    refine HL.out.mono ?_
    rintro e W2 ⟨rfl, hB⟩
    have HB := Lib.hid hB
    clear hB
    go_wp2
    go_ret
    exact ⟨by rw [HT.out]; rfl, HB.out⟩
  by_cases h1 : x = [99, 111, 110, 110, 101, 99, 116, 105, 111, 110]
  · rw [beq_eq_false_iff_ne.2 h0] at q0
    rw [beq_iff_eq.2 h1] at q1
    have HT : Hid (ownN s = true) := Lib.hid (by rw [HX.out, h1]; decide)
    clear HX h0 h1 q2 n2 q3 n3 q4 n4 q5 n5 q6 n6
    go_enter Tryd.func29, Tryd.ntmps29
    go_wp2_with fail
    refine HL.out.mono ?_
    rintro e W2 ⟨rfl, hB⟩
    have HB := Lib.hid hB
    clear hB
    go_wp2
    go_ret
    exact ⟨by rw [HT.out]; rfl, HB.out⟩
  by_cases h2 : x = [99, 111, 110, 116, 101, 110, 116, 45, 108, 101, 110, 103, 116, 104]
  · rw [beq_eq_false_iff_ne.2 h0] at q0
    rw [beq_eq_false_iff_ne.2 h1] at q1
    rw [beq_iff_eq.2 h2] at q2
    have HT : Hid (ownN s = true) := Lib.hid (by rw [HX.out, h2]; decide)
    clear HX h0 h1 h2 q3 n3 q4 n4 q5 n5 q6 n6
    go_enter Tryd.func29, Tryd.ntmps29
    go_wp2_with fail
    refine HL.out.mono ?_
    rintro e W2 ⟨rfl, hB⟩
    have HB := Lib.hid hB
    clear hB
    go_wp2
    go_ret
    exact ⟨by rw [HT.out]; rfl, HB.out⟩
  by_cases h3 : x = [115, 101, 99, 45, 119, 101, 98, 115, 111, 99, 107, 101, 116, 45, 97, 99, 99, 101, 112, 116]
  · rw [beq_eq_false_iff_ne.2 h0] at q0
    rw [beq_eq_false_iff_ne.2 h1] at q1
    rw [beq_eq_false_iff_ne.2 h2] at q2
    rw [beq_iff_eq.2 h3] at q3
    have HT : Hid (ownN s = true) := Lib.hid (by rw [HX.out, h3]; decide)
    clear HX h0 h1 h2 h3 q4 n4 q5 n5 q6 n6
    go_enter Tryd.func29, Tryd.ntmps29
    go_wp2_with fail
    refine HL.out.mono ?_
    rintro e W2 ⟨rfl, hB⟩
    have HB := Lib.hid hB
    clear hB
    go_wp2
    go_ret
    exact ⟨by rw [HT.out]; rfl, HB.out⟩
  by_cases h4 : x = [115, 101, 99, 45, 119, 101, 98, 115, 111, 99, 107, 101, 116, 45, 118, 101, 114, 115, 105, 111, 110]
  · rw [beq_eq_false_iff_ne.2 h0] at q0
    rw [beq_eq_false_iff_ne.2 h1] at q1
    rw [beq_eq_false_iff_ne.2 h2] at q2
    rw [beq_eq_false_iff_ne.2 h3] at q3
    rw [beq_iff_eq.2 h4] at q4
    have HT : Hid (ownN s = true) := Lib.hid (by rw [HX.out, h4]; decide)
    clear HX h0 h1 h2 h3 h4 q5 n5 q6 n6
    go_enter Tryd.func29, Tryd.ntmps29
    go_wp2_with fail
    refine HL.out.mono ?_
    rintro e W2 ⟨rfl, hB⟩
    have HB := Lib.hid hB
    clear hB
    go_wp2
    go_ret
    exact ⟨by rw [HT.out]; rfl, HB.out⟩
  by_cases h5 : x = [116, 114, 97, 110, 115, 102, 101, 114, 45, 101, 110, 99, 111, 100, 105, 110, 103]
  · rw [beq_eq_false_iff_ne.2 h0] at q0
    rw [beq_eq_false_iff_ne.2 h1] at q1
    rw [beq_eq_false_iff_ne.2 h2] at q2
    rw [beq_eq_false_iff_ne.2 h3] at q3
    rw [beq_eq_false_iff_ne.2 h4] at q4
    rw [beq_iff_eq.2 h5] at q5
    have HT : Hid (ownN s = true) := Lib.hid (by rw [HX.out, h5]; decide)
    clear HX h0 h1 h2 h3 h4 h5 q6 n6
    go_enter Tryd.func29, Tryd.ntmps29
    go_wp2_with fail
    refine HL.out.mono ?_
    rintro e W2 ⟨rfl, hB⟩
    have HB := Lib.hid hB
    clear hB
    go_wp2
    go_ret
    exact ⟨by rw [HT.out]; rfl, HB.out⟩
  by_cases h6 : x = [117, 112, 103, 114, 97, 100, 101]
  · rw [beq_eq_false_iff_ne.2 h0] at q0
    rw [beq_eq_false_iff_ne.2 h1] at q1
    rw [beq_eq_false_iff_ne.2 h2] at q2
    rw [beq_eq_false_iff_ne.2 h3] at q3
    rw [beq_eq_false_iff_ne.2 h4] at q4
    rw [beq_eq_false_iff_ne.2 h5] at q5
    rw [beq_iff_eq.2 h6] at q6
    have HT : Hid (ownN s = true) := Lib.hid (by rw [HX.out, h6]; decide)
    clear HX h0 h1 h2 h3 h4 h5 h6
    go_enter Tryd.func29, Tryd.ntmps29
    go_wp2_with fail
    refine HL.out.mono ?_
    rintro e W2 ⟨rfl, hB⟩
    have HB := Lib.hid hB
    clear hB
    go_wp2
    go_ret
    exact ⟨by rw [HT.out]; rfl, HB.out⟩
  have HT : Hid (ownN s = false) := Lib.hid (by rw [HX.out]; unfold ownNames; simp [h0, h1, h2, h3, h4, h5, h6])
  rw [beq_eq_false_iff_ne.2 h0] at q0
  rw [beq_eq_false_iff_ne.2 h1] at q1
  rw [beq_eq_false_iff_ne.2 h2] at q2
  rw [beq_eq_false_iff_ne.2 h3] at q3
  rw [beq_eq_false_iff_ne.2 h4] at q4
  rw [beq_eq_false_iff_ne.2 h5] at q5
  rw [beq_eq_false_iff_ne.2 h6] at q6
  clear HX h0 h1 h2 h3 h4 h5 h6
  go_enter Tryd.func29, Tryd.ntmps29
  go_wp2_with fail
  refine HL.out.mono ?_
  rintro e W2 ⟨rfl, hB⟩
  have HB := Lib.hid hB
  clear hB
  go_wp2
  go_ret
  exact ⟨by rw [HT.out]; rfl, HB.out⟩
end Go.Proofs.YtbnlkjoblngakaaDoor
