/- FramesHeads (stage 16) walked, over any package of frames as they come. (mkhj.py writes it.) -/
import Derived.Test.YtlmolmmhkddpaaaHi
namespace Go.Proofs.Ytlmolmmhkddpaaa
open Go.RowKit
attribute [local go_sem] store_one B_match B_store S_match S_store

set_option maxRecDepth 100000 in
set_option maxHeartbeats 1000000 in
theorem heads16_any {w : World} {zr : Array Value} {RA : World → (Nat → Prop) → Nat → Fst → Prop} (C : FramesI w zr RA) (a b : UInt8) (s : List UInt8) (m : Bool) : Calls Try.prog 5 #[B a, B b, S s, .bool m] w fun e w' => e = .returned (.bool true) ∧ Below w.heap.size w w' := by
  have HA := Lib.hid (awake16_any C)
  have hlN := run_len_S (P := Try.prog) Try.underlying9 3 s
  obtain ⟨N, hN⟩ : ∃ N, N = s.length := ⟨_, rfl⟩
  rw [← hN] at hlN
  have HC := Lib.hid (fun (W : World) (hb : Below w.heap.size w W) (t : List UInt8) => tell16_any (C.up hb) t m)
  have HN := Lib.hid hN
  clear C hN
  go_enter Try.func5, Try.ntmps5
  go_wp2_with fail
  refine HA.out.mono ?_
  rintro e W1 ⟨rfl, hB1⟩
  have HB1 := Lib.hid hB1
  clear HA
  by_cases hbig : 300 < N
  · have g1 : decide ((300 : Int) < (N : Int)) = true := decide_eq_true (by omega)
    have g1' : decide ((N : Int) > 300) = true := decide_eq_true (by omega)
    clear hB1
    go_wp2
    go_ret
    exact ⟨rfl, HB1.out⟩
  have g1 : decide ((300 : Int) < (N : Int)) = false := decide_eq_false (by omega)
  have g1' : decide ((N : Int) > 300) = false := decide_eq_false (by omega)
  obtain ⟨X, hX⟩ : ∃ X, X = [a, b] := ⟨_, rfl⟩
  have hcv : (convert 38 9 (.slice (some ⟨W1.heap.size, 0, none⟩) 2 2)).run Try.prog (W1.alloc (.cells #[B a, B b] 5)) = .ok (S X) (W1.alloc (.cells #[B a, B b] 5)) := by
    rw [hX]; exact owb_text (owb_new (W := W1) (cs := #[B a, B b]) (ys := [a, b]) rfl rfl (by simp) 0 (Nat.zero_le _))
  have HV1 := Lib.hid (hB1.alloc hB1.size (.cells #[B a, B b] 5))
  have hXl : X.length = 2 := by rw [hX]; rfl
  obtain ⟨T0, hT0⟩ : ∃ T, T = X ++ s := ⟨_, rfl⟩
  have a0 : binOp .add 9 (S X) (S s) = pure (S T0) := by rw [hT0]; exact S_add 9 X s (by rw [hXl, ← HN.out]; omega)
  obtain ⟨U3, hU3⟩ : ∃ T, T = X ++ [0, 126] := ⟨_, rfl⟩
  obtain ⟨T3, hT3⟩ : ∃ T, T = U3 ++ s := ⟨_, rfl⟩
  have a3 : binOp .add 9 (S X) (.string ⟨#[0, 126]⟩) = pure (S U3) := by rw [hU3]; exact S_add 9 X [0, 126] (by rw [hXl]; simp)
  have b3 : binOp .add 9 (S U3) (S s) = pure (S T3) := by rw [hT3]; exact S_add 9 U3 s (by rw [hU3, List.length_append, hXl, ← HN.out]; simp; omega)
  obtain ⟨U4, hU4⟩ : ∃ T, T = X ++ [128, 0, 0, 0, 0, 0, 0, 0] := ⟨_, rfl⟩
  obtain ⟨T4, hT4⟩ : ∃ T, T = U4 ++ s := ⟨_, rfl⟩
  have a4 : binOp .add 9 (S X) (.string ⟨#[128, 0, 0, 0, 0, 0, 0, 0]⟩) = pure (S U4) := by rw [hU4]; exact S_add 9 X [128, 0, 0, 0, 0, 0, 0, 0] (by rw [hXl]; simp)
  have b4 : binOp .add 9 (S U4) (S s) = pure (S T4) := by rw [hT4]; exact S_add 9 U4 s (by rw [hU4, List.length_append, hXl, ← HN.out]; simp; omega)
  obtain ⟨U5, hU5⟩ : ∃ T, T = X ++ [127, 255, 255, 255, 255, 255, 255, 255] := ⟨_, rfl⟩
  obtain ⟨T5, hT5⟩ : ∃ T, T = U5 ++ s := ⟨_, rfl⟩
  have a5 : binOp .add 9 (S X) (.string ⟨#[127, 255, 255, 255, 255, 255, 255, 255]⟩) = pure (S U5) := by rw [hU5]; exact S_add 9 X [127, 255, 255, 255, 255, 255, 255, 255] (by rw [hXl]; simp)
  have b5 : binOp .add 9 (S U5) (S s) = pure (S T5) := by rw [hT5]; exact S_add 9 U5 s (by rw [hU5, List.length_append, hXl, ← HN.out]; simp; omega)
  clear hB1 hX hXl hT0 hU3 hT3 hU4 hT4 hU5 hT5
  have HC0 := Lib.hid (HC.out _ HV1.out T0)
  go_wp2_with fail
  refine HC0.out.mono ?_
  rintro e V2 ⟨rfl, hB⟩
  have HV2 := Lib.hid (HV1.out.trans (hB.mono HV1.out.size))
  clear hB HC0
  have HC1 := Lib.hid (HC.out _ HV2.out T3)
  go_wp2_with fail
  refine HC1.out.mono ?_
  rintro e V3 ⟨rfl, hB⟩
  have HV3 := Lib.hid (HV2.out.trans (hB.mono HV2.out.size))
  clear hB HC1
  have HC2 := Lib.hid (HC.out _ HV3.out T4)
  go_wp2_with fail
  refine HC2.out.mono ?_
  rintro e V4 ⟨rfl, hB⟩
  have HV4 := Lib.hid (HV3.out.trans (hB.mono HV3.out.size))
  clear hB HC2
  have HC3 := Lib.hid (HC.out _ HV4.out T5)
  go_wp2_with fail
  refine HC3.out.mono ?_
  rintro e V5 ⟨rfl, hB⟩
  have HV5 := Lib.hid (HV4.out.trans (hB.mono HV4.out.size))
  clear hB HC3
  have HC4 := Lib.hid (HC.out _ HV5.out X)
  go_wp2_with fail
  refine HC4.out.mono ?_
  rintro e V6 ⟨rfl, hB⟩
  have HV6 := Lib.hid (HV5.out.trans (hB.mono HV5.out.size))
  clear hB HC4
  go_wp2
  go_ret
  exact ⟨rfl, HV6.out⟩
end Go.Proofs.Ytlmolmmhkddpaaa
