/- The landed right walked. (mkew5.py writes it.) -/
import Derived.Test.YtlmolmmhkddpaaaEw4
import Derived.Test.YtlmolmmhkddpaaaEk
namespace Go.Proofs.Ytlmolmmhkddpaaa
open Go.RowKit
attribute [local go_sem] store_one B_match B_store S_match S_store

theorem weql_key (K L : Key4) (w : World) : (binOp .eql 43 (.agg (kC K)) (.agg (kC L))).run Try.prog w = .ok (.bool (K.k0 == L.k0 && (K.k1 == L.k1 && (K.k2 == L.k2 && K.k3 == L.k3)))) w := by
  have := eqin_key 9998 K L w
  unfold kV at this
  rw [run_eql_struct, this]; rfl
theorem wgrd_key (op : BinOp) (f g : Key4) (x y : Operand) (w : World) : (eqGuard op 43 x y (.agg (kC f)) (.agg (kC g))).run Try.prog w = .ok () w := run_eqGuard_agg w op 43 x y _ _ (by kernel_rfl)
theorem wkey_dec (K L : Key4) : (K.k0 == L.k0 && (K.k1 == L.k1 && (K.k2 == L.k2 && K.k3 == L.k3))) = decide (K = L) := by
  obtain ⟨a, b, c, d⟩ := K
  obtain ⟨a', b', c', d'⟩ := L
  rw [Bool.eq_iff_iff]
  simp
set_option maxRecDepth 100000 in
set_option maxHeartbeats 1000000 in
theorem right_any (f : Frm) (w : World) : Calls Try.prog 26 #[frV f] w fun e w' => e = .returned (.bool (okFr f)) ∧ Below w.heap.size w w' := by
  obtain ⟨W1, hW1⟩ : ∃ W, W = w.alloc (.cells (frC f) 51) := ⟨_, rfl⟩
  have H1 : Hid (Below w.heap.size w W1) := Lib.hid (by rw [hW1]; exact (Below.refl _ _).alloc (Nat.le_refl _) _)
  have nk := fun x y w' => wgrd_key .eql f.key key0 x y w'
  have ek := fun w' => weql_key f.key key0 w'
  have eqk : ∀ w', (Op.equalIn 10000 43 (kV f.key) (kV key0)).run Try.prog w' = .ok (decide (f.key = key0)) w' := fun w' => by rw [← wkey_dec]; exact eqin_key 9998 f.key key0 w'
  rw [wkey_dec] at ek
  have hz : kC key0 = #[.int .u8 0, .int .u8 0, .int .u8 0, .int .u8 0] := rfl
  unfold kV at eqk
  rw [hz] at ek eqk nk
  unfold kC at ek eqk nk
  have hv : okFr f = (decide (0 ≤ f.rsv ∧ f.rsv ≤ 7 ∧ 0 ≤ f.op ∧ f.op ≤ 15) && (f.masked || decide (f.key = key0))) := rfl
  obtain ⟨bq, hbq⟩ : ∃ b, b = decide (f.key = key0) := ⟨_, rfl⟩
  rw [← hbq] at ek eqk hv
  clear hbq hz
  obtain ⟨fin, rsv, op, m, ⟨k0, k1, k2, k3⟩, d⟩ := f
  unfold frV
  unfold frC at hW1 ⊢
  dsimp only at *
  by_cases c0 : 0 ≤ rsv
  case neg =>
    have g0 : decide (0 ≤ rsv) = false := decide_eq_false (by omega)
    have h0 : decide (rsv ≥ 0) = false := decide_eq_false (by omega)
    have HV : Hid (okFr ⟨fin, rsv, op, m, ⟨k0, k1, k2, k3⟩, d⟩ = false) := Lib.hid (by rw [hv, decide_eq_false (by omega)]; rfl)
    clear hv nk ek eqk c0
    go_enter Try.func26, Try.ntmps26
    go_wp2
    go_ret
    rw [← hW1]
    exact ⟨by rw [HV.out]; rfl, H1.out⟩
  by_cases c1 : rsv ≤ 7
  case neg =>
    have g0 : decide (0 ≤ rsv) = true := decide_eq_true (by omega)
    have h0 : decide (rsv ≥ 0) = true := decide_eq_true (by omega)
    have g1 : decide (rsv ≤ 7) = false := decide_eq_false (by omega)
    have HV : Hid (okFr ⟨fin, rsv, op, m, ⟨k0, k1, k2, k3⟩, d⟩ = false) := Lib.hid (by rw [hv, decide_eq_false (by omega)]; rfl)
    clear hv nk ek eqk c0 c1
    go_enter Try.func26, Try.ntmps26
    go_wp2
    go_ret
    rw [← hW1]
    exact ⟨by rw [HV.out]; rfl, H1.out⟩
  by_cases c2 : 0 ≤ op
  case neg =>
    have g0 : decide (0 ≤ rsv) = true := decide_eq_true (by omega)
    have h0 : decide (rsv ≥ 0) = true := decide_eq_true (by omega)
    have g1 : decide (rsv ≤ 7) = true := decide_eq_true (by omega)
    have g2 : decide (0 ≤ op) = false := decide_eq_false (by omega)
    have h2 : decide (op ≥ 0) = false := decide_eq_false (by omega)
    have HV : Hid (okFr ⟨fin, rsv, op, m, ⟨k0, k1, k2, k3⟩, d⟩ = false) := Lib.hid (by rw [hv, decide_eq_false (by omega)]; rfl)
    clear hv nk ek eqk c0 c1 c2
    go_enter Try.func26, Try.ntmps26
    go_wp2
    go_ret
    rw [← hW1]
    exact ⟨by rw [HV.out]; rfl, H1.out⟩
  by_cases c3 : op ≤ 15
  case neg =>
    have g0 : decide (0 ≤ rsv) = true := decide_eq_true (by omega)
    have h0 : decide (rsv ≥ 0) = true := decide_eq_true (by omega)
    have g1 : decide (rsv ≤ 7) = true := decide_eq_true (by omega)
    have g2 : decide (0 ≤ op) = true := decide_eq_true (by omega)
    have h2 : decide (op ≥ 0) = true := decide_eq_true (by omega)
    have g3 : decide (op ≤ 15) = false := decide_eq_false (by omega)
    have HV : Hid (okFr ⟨fin, rsv, op, m, ⟨k0, k1, k2, k3⟩, d⟩ = false) := Lib.hid (by rw [hv, decide_eq_false (by omega)]; rfl)
    clear hv nk ek eqk c0 c1 c2 c3
    go_enter Try.func26, Try.ntmps26
    go_wp2
    go_ret
    rw [← hW1]
    exact ⟨by rw [HV.out]; rfl, H1.out⟩
  have g0 : decide (0 ≤ rsv) = true := decide_eq_true (by omega)
  have h0 : decide (rsv ≥ 0) = true := decide_eq_true (by omega)
  have g1 : decide (rsv ≤ 7) = true := decide_eq_true (by omega)
  have g2 : decide (0 ≤ op) = true := decide_eq_true (by omega)
  have h2 : decide (op ≥ 0) = true := decide_eq_true (by omega)
  have g3 : decide (op ≤ 15) = true := decide_eq_true (by omega)
  have hv2 : okFr ⟨fin, rsv, op, m, ⟨k0, k1, k2, k3⟩, d⟩ = (m || bq) := by rw [hv, decide_eq_true (by omega)]; rfl
  have HV := Lib.hid hv2
  clear hv hv2 c0 c1 c2 c3
  cases m
  · cases bq
    · go_enter Try.func26, Try.ntmps26
      go_wp2
      go_ret
      rw [← hW1]
      exact ⟨by rw [HV.out]; rfl, H1.out⟩
    · go_enter Try.func26, Try.ntmps26
      go_wp2
      go_ret
      rw [← hW1]
      exact ⟨by rw [HV.out]; rfl, H1.out⟩
  · clear nk ek eqk
    go_enter Try.func26, Try.ntmps26
    go_wp2
    go_ret
    rw [← hW1]
    exact ⟨by rw [HV.out]; rfl, H1.out⟩
end Go.Proofs.Ytlmolmmhkddpaaa
