/- The walks of the document's letter and number. -/
import Derived.Test.YtnaekjmlikhglaaDoorNbW2
import Derived.Test.YtnaekjmlikhglaaDoorNbMath4
namespace Go.Proofs.YtnaekjmlikhglaaDoor.bb
open Go.RowKit
attribute [local go_sem] store_one B_match B_store

theorem neql_S (t : TypeId) (a b : List UInt8) : binOp .neq t (S a) (S b) = pure (.bool (a != b)) := by
  have e : ((⟨a.toArray⟩ : ByteArray).toList == (⟨b.toArray⟩ : ByteArray).toList) = (a == b) := by
    simp
  simp only [S, binOp, Op.stringOp]
  rw [e]
  rfl
theorem nguard_S (t : TypeId) (x y : Operand) (a b : List UInt8) : eqGuard .neq t x y (S a) (S b) = pure () := rfl
theorem B_eql (t : TypeId) (x y : UInt8) : binOp .eql t (B x) (B y) = pure (.bool (x == y)) := by
  have e : ((x.toNat : Int) == (y.toNat : Int)) = (x == y) := by
    rw [Bool.eq_iff_iff, beq_iff_eq, beq_iff_eq]
    exact ⟨fun h => UInt8.toNat_inj.1 (by omega), fun h => by rw [h]⟩
  simp [B, binOp, Op.intCmp]
  exact congrArg (fun b => (pure (Value.bool b) : Sem Value)) e
theorem eguard_B (t : TypeId) (a b : Operand) (x y : UInt8) : eqGuard .eql t a b (B x) (B y) = pure () := rfl
theorem ltr_vals : ∀ n : Fin 64, ((ltr n.val).toNat : Int) = if n.val < 26 then (65 : Int) + n.val else if n.val < 52 then (97 : Int) + n.val - 26 else if n.val < 62 then (48 : Int) + n.val - 52 else if n.val = 62 then 43 else 47 := by decide +kernel

theorem letter_any (n : Nat) (h : n < 64) (w : World) : Calls Tryd.prog 55 #[.int .i64 (n : Int)] w fun e w' => e = .returned (B (ltr n)) ∧ w = w' := by
  have hv := ltr_vals ⟨n, h⟩
  simp only at hv
  by_cases h1 : n < 26
  · rw [if_pos h1] at hv
    have HV := Lib.hid hv
    clear hv
    go_enter Tryd.func55, Tryd.ntmps55
    go_wp2
    go_ret
    exact ⟨congrArg Ending.returned (show Value.int .u8 (65 + (n : Int)) = B (ltr n) from by rw [B, HV.out]), rfl⟩
  rw [if_neg h1] at hv
  by_cases h2 : n < 52
  · rw [if_pos h2] at hv
    have HV := Lib.hid hv
    clear hv
    go_enter Tryd.func55, Tryd.ntmps55
    go_wp2
    go_ret
    exact ⟨congrArg Ending.returned (show Value.int .u8 (97 + (n : Int) - 26) = B (ltr n) from by rw [B, HV.out]), rfl⟩
  rw [if_neg h2] at hv
  by_cases h3 : n < 62
  · rw [if_pos h3] at hv
    have HV := Lib.hid hv
    clear hv
    go_enter Tryd.func55, Tryd.ntmps55
    go_wp2
    go_ret
    exact ⟨congrArg Ending.returned (show Value.int .u8 (48 + (n : Int) - 52) = B (ltr n) from by rw [B, HV.out]), rfl⟩
  rw [if_neg h3] at hv
  by_cases h4 : n = 62
  · rw [if_pos h4] at hv
    have HV := Lib.hid hv
    subst h4
    clear hv
    go_enter Tryd.func55, Tryd.ntmps55
    go_wp2
    go_ret
    exact ⟨congrArg Ending.returned (show Value.int .u8 (43) = B (ltr 62) from by rw [B, HV.out]), rfl⟩
  · obtain rfl : n = 63 := by omega
    rw [if_neg h4] at hv
    have HV := Lib.hid hv
    clear hv h4
    go_enter Tryd.func55, Tryd.ntmps55
    go_wp2
    go_ret
    exact ⟨congrArg Ending.returned (show Value.int .u8 (47) = B (ltr 63) from by rw [B, HV.out]), rfl⟩

/-- The number of a letter, below nought if it is none. -/
def numZ (c : UInt8) : Int := match numO c with | some x => (x : Int) | none => -1
set_option maxRecDepth 100000 in
set_option maxHeartbeats 2000000 in
theorem number_any (c : UInt8) (w : World) : Calls Tryd.prog 51 #[B c] w fun e w' => e = .returned (.int .i64 (numZ c)) ∧ w = w' := by
  have hgB := eguard_B 5
  go_enter Tryd.func51, Tryd.ntmps51
  go_wp2
  go_loop [3] (fun iv => ∃ k : Nat, k ≤ 64 ∧ iv = .int .i64 k ∧ ∀ m, m < k → ltr m ≠ c) (fun iv => 64 - (intOf iv).toNat)
  case atStart => exact ⟨0, by omega, rfl, fun m h => absurd h (by omega)⟩
  case round =>
    obtain ⟨k, hk, rfl, hall⟩ := hrel
    have HA := Lib.hid hall
    clear hall
    by_cases hlt : k < 64
    · have heq := B_eql 5 (ltr k) c
      have HL := Lib.hid (fun W => letter_any k hlt W)
      have HN := Lib.hid (num_ltr k hlt)
      by_cases hc : ltr k = c
      · have hcb : (ltr k == c) = true := by rw [hc]; exact beq_self_eq_true c
        rw [hcb] at heq
        have HZ : Hid (numZ c = (k : Int)) := Lib.hid (by rw [numZ, ← hc, HN.out])
        clear hc hcb
        generalize ltr k = L at *
        go_wp2_with (first
          | (go_at_call 55; refine (HL.out _).mono ?_; rintro e w' ⟨rfl, rfl⟩)
          | fail)
        go_ret
        exact ⟨congrArg Ending.returned (show Value.int .i64 (k : Int) = .int .i64 (numZ c) from by rw [HZ.out]), rfl⟩
      · have hcb : (ltr k == c) = false := by rw [beq_eq_false_iff_ne]; exact hc
        rw [hcb] at heq
        have HC := Lib.hid hc
        clear hcb
        generalize hL : ltr k = L at *
        have HLL := Lib.hid hL
        clear hL hc
        go_wp2_with (first
          | (go_at_call 55; refine (HL.out _).mono ?_; rintro e w' ⟨rfl, rfl⟩)
          | fail)
        go_round
        case rel => exact ⟨k + 1, by omega, by go_num, fun m hm => by
          by_cases e : m = k
          · rw [e, HLL.out]; exact HC.out
          · exact HA.out m (by omega)⟩
        case measure => simp [intOf]; omega
    · obtain rfl : k = 64 := by omega
      have HZ : Hid (numZ c = -1) := Lib.hid (by
        rw [numZ]
        cases hn : numO c with
        | none => rfl
        | some x => obtain ⟨h1, h2⟩ := num_some hn; exact absurd h2 (HA.out x h1))
      go_wp2
      go_ret
      exact ⟨congrArg Ending.returned (show Value.int .i64 (-1) = .int .i64 (numZ c) from by rw [HZ.out]), rfl⟩
end Go.Proofs.YtnaekjmlikhglaaDoor.bb
