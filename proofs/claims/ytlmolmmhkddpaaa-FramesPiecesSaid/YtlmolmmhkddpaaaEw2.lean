/- The landed numbers of frames walked: least, width, flagIf, headSize, number. -/
import Derived.Test.YtlmolmmhkddpaaaEw1
import Derived.Shelf.RegionOpen
namespace Go.Proofs.Ytlmolmmhkddpaaa
open Go.RowKit
attribute [local go_sem] store_one B_match B_store S_match S_store nguard_BN eguard_BN

theorem wconv_ub (n : Nat) (w : World) : (convert 56 5 (.int .u64 (n : Int))).run Try.prog w = .ok (B (UInt8.ofNat n)) w := by
  have e : IntKind.u8.wrap (n : Int) = ((UInt8.ofNat n).toNat : Int) := by rw [IntKind.wrap_u8, UInt8.toNat_ofNat']; omega
  simp [convert, B, run_underlying Try.underlying56, run_underlying Try.underlying5, e, go_sem]
theorem wconv_bu (c : UInt8) (w : World) : (convert 5 56 (B c)).run Try.prog w = .ok (.int .u64 (c.toNat : Int)) w := by
  have := c.toNat_lt
  have e : IntKind.u64.wrap (c.toNat : Int) = (c.toNat : Int) := by simp [IntKind.wrap, IntKind.bits, IntKind.signed]; omega
  simp [convert, B, run_underlying Try.underlying56, run_underlying Try.underlying5, e, go_sem]
theorem wwraps_u64 (n : Int) (h₀ : 0 ≤ n) (h₁ : n < 2 ^ 64) : IntKind.u64.wrap n = n := by simp [IntKind.wrap, IntKind.bits, IntKind.signed]; omega
theorem wor_bits (t : TypeId) (k : IntKind) (x y : Int) : binOp .or t (.int k x) (.int k y) = pure (.int k (bits .or k x y)) := by
  simp only [binOp, Op.intBits, ne_eq, not_true_eq_false, ↓reduceIte]
  rfl
theorem wor_u64 (t : TypeId) (x c : Nat) (hx : x * 256 < 18446744073709551616) (hc : c < 256) : binOp .or t (.int .u64 ((x * 256 : Nat) : Int)) (.int .u64 (c : Int)) = pure (.int .u64 ((x * 256 + c : Nat) : Int)) := by
  rw [wor_bits, bits_join .u64 64 (by decide) wwraps_u64 8 _ _ (by omega) (by omega) (by omega) (by omega) (by omega) (by omega)]
  rfl
theorem wshl_u64 (t : TypeId) (x : Nat) (hx : x * 256 < 18446744073709551616) : binOp .shl t (.int .u64 (x : Int)) (.int .u64 8) = pure (.int .u64 ((x * 256 : Nat) : Int)) := by
  simp only [binOp, Op.shift]
  rw [if_neg (by omega)]
  have hm : min (8 : Int).toNat IntKind.u64.bits = 8 := rfl
  rw [hm]
  show pure (Value.int .u64 (IntKind.u64.wrap ((x : Int) * 256))) = _
  rw [wwraps_u64 _ (by omega) (by omega)]
  rfl
set_option maxRecDepth 100000 in
set_option maxHeartbeats 400000 in
theorem least_any (n : Nat) (hn : n < 18446744073709551616) (w : World) : Calls Try.prog 27 #[.int .u64 (n : Int)] w fun e w' => e = .returned (B (leastB n)) ∧ w' = w := by
  have hc := wconv_ub n
  by_cases h1 : n < 126
  · have g1 : decide ((n : Int) < 126) = true := decide_eq_true (by omega)
    have HV : Hid (leastB n = UInt8.ofNat n) := Lib.hid (by unfold leastB; rw [if_pos h1])
    clear h1 hn
    go_enter Try.func27, Try.ntmps27
    go_wp2
    go_ret
    exact ⟨by rw [HV.out]; rfl, rfl⟩
  · have g1 : decide ((n : Int) < 126) = false := decide_eq_false (by omega)
    by_cases h2 : n < 65536
    · have g2 : decide ((n : Int) < 65536) = true := decide_eq_true (by omega)
      have HV : Hid (leastB n = 126) := Lib.hid (by unfold leastB; rw [if_neg h1, if_pos h2])
      clear h1 h2 hn hc
      go_enter Try.func27, Try.ntmps27
      go_wp2
      go_ret
      exact ⟨by rw [HV.out]; rfl, rfl⟩
    · have g2 : decide ((n : Int) < 65536) = false := decide_eq_false (by omega)
      have HV : Hid (leastB n = 127) := Lib.hid (by unfold leastB; rw [if_neg h1, if_neg h2])
      clear h1 h2 hn hc
      go_enter Try.func27, Try.ntmps27
      go_wp2
      go_ret
      exact ⟨by rw [HV.out]; rfl, rfl⟩
set_option maxRecDepth 100000 in
set_option maxHeartbeats 400000 in
theorem width_any (c : UInt8) (w : World) : Calls Try.prog 31 #[B c] w fun e w' => e = .returned (.int .i64 (widN c : Int)) ∧ w' = w := by
  have q1 := B_eqlN 5 c 126
  have q2 := B_eqlN 5 c 127
  by_cases h1 : c.toNat = 126
  · rw [show ((c.toNat : Int) == 126) = true by rw [beq_iff_eq]; omega] at q1
    have HV : Hid (widN c = 2) := Lib.hid (by unfold widN; rw [if_pos h1])
    clear h1 q2
    go_enter Try.func31, Try.ntmps31
    go_wp2
    go_ret
    exact ⟨by rw [HV.out]; rfl, rfl⟩
  · rw [show ((c.toNat : Int) == 126) = false by rw [beq_eq_false_iff_ne]; omega] at q1
    by_cases h2 : c.toNat = 127
    · rw [show ((c.toNat : Int) == 127) = true by rw [beq_iff_eq]; omega] at q2
      have HV : Hid (widN c = 8) := Lib.hid (by unfold widN; rw [if_neg h1, if_pos h2])
      clear h1 h2
      go_enter Try.func31, Try.ntmps31
      go_wp2
      go_ret
      exact ⟨by rw [HV.out]; rfl, rfl⟩
    · rw [show ((c.toNat : Int) == 127) = false by rw [beq_eq_false_iff_ne]; omega] at q2
      have HV : Hid (widN c = 0) := Lib.hid (by unfold widN; rw [if_neg h1, if_neg h2])
      clear h1 h2
      go_enter Try.func31, Try.ntmps31
      go_wp2
      go_ret
      exact ⟨by rw [HV.out]; rfl, rfl⟩
def flagB (b : Bool) : UInt8 := if b then 128 else 0
theorem flagB_fin (b : Bool) : flagB b = UInt8.ofNat (finN b) := by cases b <;> rfl
set_option maxRecDepth 100000 in
set_option maxHeartbeats 400000 in
theorem flagIf_any (b : Bool) (w : World) : Calls Try.prog 29 #[.bool b] w fun e w' => e = .returned (B (flagB b)) ∧ w' = w := by
  cases b
  · go_enter Try.func29, Try.ntmps29
    go_wp2
    go_ret
    exact ⟨rfl, rfl⟩
  · go_enter Try.func29, Try.ntmps29
    go_wp2
    go_ret
    exact ⟨rfl, rfl⟩
/-- How many bytes stand ahead of the data. -/
def sizeN (c : UInt8) (m : Bool) : Nat := 2 + widN c + if m then 4 else 0
set_option maxRecDepth 100000 in
set_option maxHeartbeats 400000 in
theorem headSize_any (c : UInt8) (m : Bool) (w : World) : Calls Try.prog 28 #[B c, .bool m] w fun e w' => e = .returned (.int .i64 (sizeN c m : Int)) ∧ w' = w := by
  have HC := Lib.hid (width_any c)
  have h3 := wid_three c
  obtain ⟨W, hW⟩ : ∃ x, x = widN c := ⟨_, rfl⟩
  have HV : Hid (∀ m, sizeN c m = 2 + W + if m then 4 else 0) := Lib.hid fun m => by unfold sizeN; rw [hW]
  rw [← hW] at h3 HC
  clear hW
  have m1 : IntKind.i64.wrap (2 + (W : Int)) = ((2 + W : Nat) : Int) := by rw [IntKind.wrap_i64]; omega
  have m2 : IntKind.i64.wrap (((2 + W : Nat) : Int) + 4) = ((2 + W + 4 : Nat) : Int) := by rw [IntKind.wrap_i64]; omega
  obtain ⟨V, hV⟩ : ∃ x, x = 2 + W := ⟨_, rfl⟩
  rw [← hV] at m1 m2
  have HW := Lib.hid hV
  clear h3 hV
  cases m
  · go_enter Try.func28, Try.ntmps28
    go_wp2_with fail
    refine (HC.out w).mono ?_
    rintro e W2 ⟨rfl, rfl⟩
    go_wp2
    go_ret
    exact ⟨by rw [HV.out, ← HW.out]; rfl, rfl⟩
  · go_enter Try.func28, Try.ntmps28
    go_wp2_with fail
    refine (HC.out w).mono ?_
    rintro e W2 ⟨rfl, rfl⟩
    go_wp2
    go_ret
    exact ⟨by rw [HV.out, ← HW.out]; rfl, rfl⟩
theorem numL_next {t : List UInt8} {i : Nat} {c : UInt8} (hc : t[i]? = some c) : ofBE (t.take (i + 1)) = ofBE (t.take i) * 256 + c.toNat := by
  rw [List.take_add_one, hc, Option.toList_some, ofBE_snoc]
set_option maxRecDepth 100000 in
set_option maxHeartbeats 400000 in
theorem number_any (c : UInt8) (s : List UInt8) (hs : widN c ≤ s.length) (hl : s.length ≤ 1000000) (w : World) : Calls Try.prog 40 #[B c, S s] w fun e w' => e = .returned (.int .u64 (numL c s : Int)) ∧ w' = w := by
  have q1 : ∀ k, binOp .lss 5 (B c) (.int .u8 k) = pure (.bool (decide ((c.toNat : Int) < k))) := fun _ => rfl
  have hcv := wconv_bu c
  by_cases h1 : c.toNat < 126
  · have g1 : binOp .lss 5 (B c) (.int .u8 126) = pure (.bool true) := by rw [q1, decide_eq_true (by omega)]
    have HV : Hid (numL c s = c.toNat) := Lib.hid (by unfold numL; rw [if_pos h1])
    clear h1 hs hl q1
    go_enter Try.func40, Try.ntmps40
    go_wp2
    go_ret
    exact ⟨by rw [HV.out]; rfl, rfl⟩
  · have g1 : binOp .lss 5 (B c) (.int .u8 126) = pure (.bool false) := by rw [q1, decide_eq_false (by omega)]
    have HV : Hid (numL c s = ofBE (s.take (widN c))) := Lib.hid (by unfold numL; rw [if_neg h1])
    have HC := Lib.hid (width_any c)
    have h3 := wid_three c
    obtain ⟨W, hW⟩ : ∃ x, x = widN c := ⟨_, rfl⟩
    rw [← hW] at h3 HC HV hs
    clear hW q1 h1 hcv
    have HS := Lib.hid (And.intro hs (And.intro h3 hl))
    clear hs h3 hl
    go_enter Try.func40, Try.ntmps40
    go_wp2_with fail
    refine (HC.out w).mono ?_
    rintro e W2 ⟨rfl, rfl⟩
    go_wp2
    go_loopw [5, 13] (fun xv iv wr => ∃ i : Nat, i ≤ W ∧ xv = .int .u64 ((ofBE (s.take i) : Nat) : Int) ∧ iv = .int .i64 (i : Int) ∧ wr = W2) (fun _ iv _ => W - (intOf iv).toNat)
    case atStart => exact ⟨0, by omega, rfl, rfl, rfl⟩
    case round =>
      obtain ⟨i, hi, rfl, rfl, rfl⟩ := hrel
      by_cases hlt : i < W
      · have l1 : decide ((i : Int) < (W : Int)) = true := decide_eq_true (by omega)
        obtain ⟨d, hd⟩ : ∃ d, s[i]? = some d := ⟨s[i]'(by have := HS.out; omega), List.getElem?_eq_getElem _⟩
        have hix : ∀ w', (Instr.index 9 (S s) (.int .i64 (i : Int))).run Try.prog w' = .ok (B d) w' := fun w' => index_S Try.underlying9 s i d hd w'
        have hcv := wconv_bu d
        have hnx := numL_next hd
        have hlx := ofBE_take_lt s i
        have hpw := Nat.pow_le_pow_right (n := 256) (by decide) (show i ≤ 7 by have := HS.out; omega)
        obtain ⟨Y, hY⟩ : ∃ Y, Y = ofBE (s.take i) := ⟨_, rfl⟩
        obtain ⟨Y2, hY2⟩ : ∃ Y, Y = ofBE (s.take (i + 1)) := ⟨_, rfl⟩
        rw [← hY, ← hY2] at hnx
        rw [← hY] at hlx ⊢
        have o1 := wshl_u64 56 Y (by omega)
        have o2 := wor_u64 56 Y d.toNat (by omega) d.toNat_lt
        rw [← hnx] at o2
        obtain ⟨Z, hZ⟩ : ∃ Z, Z = Y * 256 := ⟨_, rfl⟩
        rw [← hZ] at o1 o2
        have m4 : IntKind.i64.wrap ((i : Int) + 1) = (i : Int) + 1 := by have := HS.out; rw [IntKind.wrap_i64]; omega
        have HY := Lib.hid hY2
        clear hd hnx hlx hpw hY hY2 hZ
        go_wp2
        exact ⟨⟨i + 1, by omega, by rw [HY.out], by go_num, by trivial⟩, by simp [intOf]; omega⟩
      · obtain rfl : i = W := by omega
        have l1 : decide ((i : Int) < (i : Int)) = false := decide_eq_false (by omega)
        rw [← HV.out]
        go_wp2
        go_ret
        exact ⟨rfl, rfl⟩
end Go.Proofs.Ytlmolmmhkddpaaa
