/- The landed digit, isValue and sizeOf walked. -/
import Derived.Test.YtocekbfnefajhaaDoorCv3
import Derived.Test.YtocekbfnefajhaaDoorQp
namespace Go.Proofs.YtocekbfnefajhaaDoor
open Go.RowKit
attribute [local go_sem] store_one S_match S_store eguard_BN nguard_BN

theorem ofNat_toNat (n : Nat) (h : n < 256) : (UInt8.ofNat n).toNat = n := by rw [UInt8.toNat_ofNat']; exact Nat.mod_eq_of_lt h
theorem B_subN (t : TypeId) (x : UInt8) (k : Nat) (h : k ≤ x.toNat) : binOp .sub t (B x) (.int .u8 (k : Int)) = pure (B (UInt8.ofNat (x.toNat - k))) := by
  have hx := x.toNat_lt
  have e : IntKind.u8.wrap ((x.toNat : Int) - (k : Int)) = ((UInt8.ofNat (x.toNat - k)).toNat : Int) := by
    rw [ofNat_toNat (x.toNat - k) (by omega), IntKind.wrap_u8]; omega
  show pure (Value.int .u8 (IntKind.u8.wrap ((x.toNat : Int) - (k : Int)))) = _
  rw [e]; rfl
/-- What digit hands back. -/
def dgT (c : UInt8) : Value := match hexN c with
  | none => .tuple #[.int .i64 0, .bool false]
  | some d => .tuple #[.int .i64 (d : Int), .bool true]
set_option maxRecDepth 100000 in
set_option maxHeartbeats 1000000 in
theorem digit_any (c : UInt8) (w : World) : Calls Tryd.prog 62 #[B c] w fun e w' => e = .returned (dgT c) ∧ w' = w := by
  have h1 := B_geq 5 c 48
  have h2 := B_leq 5 c 57
  have h3 := B_geq 5 c 97
  have h4 := B_leq 5 c 102
  have h5 := B_geq 5 c 65
  have h6 := B_leq 5 c 70
  have hE : hexN c = if 48 ≤ c.toNat ∧ c.toNat ≤ 57 then some (c.toNat - 48) else if 97 ≤ c.toNat ∧ c.toNat ≤ 102 then some (c.toNat - 87) else if 65 ≤ c.toNat ∧ c.toNat ≤ 70 then some (c.toNat - 55) else none := rfl
  have hcv : ∀ (n : Nat) (w : World), n < 256 → (convert 5 2 (B (UInt8.ofNat n))).run Tryd.prog w = .ok (.int .i64 (n : Int)) w := fun n w hn => by
    have := conv_byte (P := Tryd.prog) Tryd.underlying5 Tryd.underlying2 (UInt8.ofNat n) w
    rw [ofNat_toNat n hn] at this
    exact this
  have hl := c.toNat_lt
  have hcs : c.toNat < 48 ∨ (48 ≤ c.toNat ∧ c.toNat ≤ 57) ∨ (57 < c.toNat ∧ c.toNat < 65) ∨ (65 ≤ c.toNat ∧ c.toNat ≤ 70) ∨ (70 < c.toNat ∧ c.toNat < 97) ∨ (97 ≤ c.toNat ∧ c.toNat ≤ 102) ∨ 102 < c.toNat := by omega
  rcases hcs with a | a | a | a | a | a | a
  · have hT : dgT c = .tuple #[.int .i64 0, .bool false] := by unfold dgT; rw [hE, if_neg (by omega), if_neg (by omega), if_neg (by omega)]
    rw [hT]
    rw [decide_eq_false (by omega)] at h1 h3 h5
    clear h2 h4 h6 a hE hcv hT hl
    go_enter Tryd.func62, Tryd.ntmps62
    go_wp2
    go_ret2
    exact ⟨rfl, rfl⟩
  · have hT : dgT c = .tuple #[.int .i64 ((c.toNat - 48 : Nat) : Int), .bool true] := by unfold dgT; rw [hE, if_pos a]
    rw [hT]
    rw [decide_eq_true (by omega)] at h1 h2
    have hs : binOp .sub 5 (B c) (.int .u8 48) = pure (B (UInt8.ofNat (c.toNat - 48))) := B_subN 5 c 48 (by omega)
    have hc := fun w => hcv (c.toNat - 48) w (by omega)
    clear h3 h4 h5 h6 a hE hcv hT hl
    go_enter Tryd.func62, Tryd.ntmps62
    go_wp2
    go_ret2
    exact ⟨rfl, rfl⟩
  · have hT : dgT c = .tuple #[.int .i64 0, .bool false] := by unfold dgT; rw [hE, if_neg (by omega), if_neg (by omega), if_neg (by omega)]
    rw [hT]
    rw [decide_eq_false (by omega)] at h2 h3 h5
    rw [decide_eq_true (by omega)] at h1
    clear h4 h6 a hE hcv hT hl
    go_enter Tryd.func62, Tryd.ntmps62
    go_wp2
    go_ret2
    exact ⟨rfl, rfl⟩
  · have hT : dgT c = .tuple #[.int .i64 (((c.toNat - 65 : Nat) : Int) + 10), .bool true] := by
      unfold dgT; rw [hE, if_neg (by omega), if_neg (by omega), if_pos a]
      show Value.tuple #[.int .i64 ((c.toNat - 55 : Nat) : Int), .bool true] = _
      rw [show ((c.toNat - 55 : Nat) : Int) = ((c.toNat - 65 : Nat) : Int) + 10 by omega]
    rw [hT]
    rw [decide_eq_true (by omega)] at h1 h5 h6
    rw [decide_eq_false (by omega)] at h2 h3
    have hs : binOp .sub 5 (B c) (.int .u8 65) = pure (B (UInt8.ofNat (c.toNat - 65))) := B_subN 5 c 65 (by omega)
    have hc := fun w => hcv (c.toNat - 65) w (by omega)
    obtain ⟨y, hy⟩ : ∃ y, y = c.toNat - 65 := ⟨_, rfl⟩
    have hw : IntKind.i64.wrap ((y : Int) + 10) = (y : Int) + 10 := by rw [IntKind.wrap_i64]; omega
    rw [← hy] at hs hc
    rw [← hy]
    clear h4 a hE hcv hT hl hy
    go_enter Tryd.func62, Tryd.ntmps62
    go_wp2
    go_ret2
    exact ⟨rfl, rfl⟩
  · have hT : dgT c = .tuple #[.int .i64 0, .bool false] := by unfold dgT; rw [hE, if_neg (by omega), if_neg (by omega), if_neg (by omega)]
    rw [hT]
    rw [decide_eq_true (by omega)] at h1 h5
    rw [decide_eq_false (by omega)] at h2 h3 h6
    clear h4 a hE hcv hT hl
    go_enter Tryd.func62, Tryd.ntmps62
    go_wp2
    go_ret2
    exact ⟨rfl, rfl⟩
  · have hT : dgT c = .tuple #[.int .i64 (((c.toNat - 97 : Nat) : Int) + 10), .bool true] := by
      unfold dgT; rw [hE, if_neg (by omega), if_pos a]
      show Value.tuple #[.int .i64 ((c.toNat - 87 : Nat) : Int), .bool true] = _
      rw [show ((c.toNat - 87 : Nat) : Int) = ((c.toNat - 97 : Nat) : Int) + 10 by omega]
    rw [hT]
    rw [decide_eq_true (by omega)] at h1 h3 h4
    rw [decide_eq_false (by omega)] at h2
    have hs : binOp .sub 5 (B c) (.int .u8 97) = pure (B (UInt8.ofNat (c.toNat - 97))) := B_subN 5 c 97 (by omega)
    have hc := fun w => hcv (c.toNat - 97) w (by omega)
    obtain ⟨y, hy⟩ : ∃ y, y = c.toNat - 97 := ⟨_, rfl⟩
    have hw : IntKind.i64.wrap ((y : Int) + 10) = (y : Int) + 10 := by rw [IntKind.wrap_i64]; omega
    rw [← hy] at hs hc
    rw [← hy]
    clear h5 h6 a hE hcv hT hl hy
    go_enter Tryd.func62, Tryd.ntmps62
    go_wp2
    go_ret2
    exact ⟨rfl, rfl⟩
  · have hT : dgT c = .tuple #[.int .i64 0, .bool false] := by unfold dgT; rw [hE, if_neg (by omega), if_neg (by omega), if_neg (by omega)]
    rw [hT]
    rw [decide_eq_true (by omega)] at h1 h3 h5
    rw [decide_eq_false (by omega)] at h2 h4 h6
    clear a hE hcv hT hl
    go_enter Tryd.func62, Tryd.ntmps62
    go_wp2
    go_ret2
    exact ⟨rfl, rfl⟩

theorem x58 (s : List UInt8) : parseF (120 :: 58 :: s) = if s.any badB = true then ([], [], false) else ([120], bareF s, true) := by
  have h := parse_cut [120] s (by decide)
  rw [show ([120] : List UInt8) ++ 58 :: s = 120 :: 58 :: s from rfl, show tokF [120] = true by decide, Bool.true_and, val_bad] at h
  rw [h]
  cases s.any badB <;> rfl
set_option maxRecDepth 100000 in
set_option maxHeartbeats 400000 in
theorem isvalue_any (s : List UInt8) (hs : s.length ≤ 90000) (w : World) : Calls Tryd.prog 61 #[S s] w fun e w' => e = .returned (.bool (!(s.any badB))) ∧ Below w.heap.size w w' := by
  have hadd : binOp .add 9 (.string ⟨#[120, 58]⟩) (S s) = pure (S (120 :: 58 :: s)) := S_add 9 [120, 58] s (by simp; omega)
  have hp := parse10_any (120 :: 58 :: s) (by simp; omega)
  have hr : (parseF (120 :: 58 :: s)).2.2 = !(s.any badB) := by rw [x58]; cases s.any badB <;> rfl
  obtain ⟨p, hpd⟩ : ∃ p, p = parseF (120 :: 58 :: s) := ⟨_, rfl⟩
  rw [← hpd] at hp hr
  clear hpd
  obtain ⟨n, v, b⟩ := p
  dsimp only at hr
  rw [← hr]
  generalize 120 :: 58 :: s = T at *
  have HP := Lib.hid hp
  clear hp hr
  go_enter Tryd.func61, Tryd.ntmps61
  go_wp2_with fail
  refine (HP.out _).mono ?_
  rintro e W1 ⟨rfl, hB⟩
  unfold parseV
  go_wp2
  go_ret
  exact ⟨rfl, hB.alloc hB.size _⟩
end Go.Proofs.YtocekbfnefajhaaDoor
