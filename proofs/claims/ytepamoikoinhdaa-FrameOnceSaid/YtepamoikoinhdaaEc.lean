/- The document's Bytes (stage 15) walked. (mkec.py writes it.) -/
import Derived.Test.YtepamoikoinhdaaEb
import Derived.Test.YtepamoikoinhdaaEo
namespace Go.Proofs.Ytepamoikoinhdaa
open Go.RowKit
attribute [local go_sem] store_one B_match B_store S_match S_store B_xor nguard_BN eguard_BN

theorem ok_no {f : Frm} (h : f.rsv < 0 ∨ 7 < f.rsv ∨ f.op < 0 ∨ 15 < f.op ∨ (f.masked = false ∧ f.key ≠ key0)) : okFr f = false := by
  cases hk : okFr f with
  | false => rfl
  | true =>
    obtain ⟨h1, h2, h3, h4, h5⟩ := okFr_parts hk
    rcases h with h | h | h | h | ⟨h, h6⟩
    · omega
    · omega
    · omega
    · omega
    · exact absurd (h5 h) h6
theorem ok_yes {f : Frm} (h1 : ¬ f.rsv < 0) (h2 : ¬ 7 < f.rsv) (h3 : ¬ f.op < 0) (h4 : ¬ 15 < f.op) (h5 : f.masked = true ∨ f.key = key0) : okFr f = true := by
  unfold okFr
  rw [decide_eq_true (by omega), Bool.true_and]
  rcases h5 with h | h
  · rw [h]; rfl
  · rw [decide_eq_true h, Bool.or_true]
theorem key_ne {K : Key4} (h : K ≠ key0) : K.k0 ≠ 0 ∨ K.k1 ≠ 0 ∨ K.k2 ≠ 0 ∨ K.k3 ≠ 0 := by
  obtain ⟨a, b, c, d⟩ := K
  by_cases h1 : a = 0
  · by_cases h2 : b = 0
    · by_cases h3 : c = 0
      · by_cases h4 : d = 0
        · subst h1 h2 h3 h4; exact absurd rfl h
        · exact .inr (.inr (.inr h4))
      · exact .inr (.inr (.inl h3))
    · exact .inr (.inl h2)
  · exact .inl h1
theorem neB (x : UInt8) (h : x ≠ 0) : binOp .neq 5 (B x) (.int .u8 0) = pure (.bool true) := by
  have h1 : x.toNat ≠ 0 := fun e => h (UInt8.toNat_inj.1 (by rw [e]; rfl))
  have : ((x.toNat : Int) != 0) = true := by rw [bne_iff_ne]; omega
  simp [B, binOp, Op.intCmp, this]
theorem eqB0 (x : UInt8) (h : x = 0) : binOp .neq 5 (B x) (.int .u8 0) = pure (.bool false) := by subst h; rfl
set_option maxRecDepth 100000 in
set_option maxHeartbeats 2000000 in
theorem bytes15_no (f : Frm) (w : World) (h : okFr f = false) : Calls Try.prog 16 #[frV f] w fun e w' => e = .returned (bytesV f) ∧ Below w.heap.size w w' := by
  obtain ⟨W1, hW1⟩ : ∃ W, W = w.alloc (.cells (frC f) 34) := ⟨_, rfl⟩
  have hB : Hid (Below w.heap.size w W1) := Lib.hid (by rw [hW1]; exact (Below.refl _ _).alloc (Nat.le_refl _) _)
  have HV : Hid (bytesV f = .tuple #[.string ⟨#[]⟩, .int .i64 1]) := Lib.hid (by unfold bytesV; rw [if_neg (by rw [h]; decide), if_neg (by rw [h]; decide)]; rfl)
  have hcase : f.rsv < 0 ∨ 7 < f.rsv ∨ f.op < 0 ∨ 15 < f.op ∨ (f.masked = false ∧ f.key ≠ key0) := by
    rcases Classical.em (f.rsv < 0 ∨ 7 < f.rsv ∨ f.op < 0 ∨ 15 < f.op ∨ (f.masked = false ∧ f.key ≠ key0)) with h1 | h1
    · exact h1
    · rw [ok_yes (fun e => h1 (.inl e)) (fun e => h1 (.inr (.inl e))) (fun e => h1 (.inr (.inr (.inl e)))) (fun e => h1 (.inr (.inr (.inr (.inl e))))) (by
        cases hm : f.masked with
        | true => exact .inl rfl
        | false => exact .inr (Classical.byContradiction fun hk => h1 (.inr (.inr (.inr (.inr ⟨hm, hk⟩))))))] at h
      cases h
  clear h
  obtain ⟨fin, rsv, op, m, ⟨k0, k1, k2, k3⟩, data⟩ := f
  unfold frV
  unfold frC at hW1 ⊢
  dsimp only at *
  by_cases h0 : rsv < 0
  · have g0 : decide (rsv < 0) = true := decide_eq_true h0
    have e0 : decide (rsv < 0) = true := decide_eq_true h0
    clear hcase
    go_enter Try.func16, Try.ntmps16
    go_wp2
    go_ret2
    rw [← hW1]
    exact ⟨by rw [HV.out]; rfl, hB.out⟩
  have g0 : decide (rsv < 0) = false := decide_eq_false h0
  have e0 : decide (rsv < 0) = false := decide_eq_false h0
  by_cases h1 : 7 < rsv
  · have g1 : decide (7 < rsv) = true := decide_eq_true h1
    have e1 : decide (rsv > 7) = true := decide_eq_true h1
    clear hcase
    go_enter Try.func16, Try.ntmps16
    go_wp2
    go_ret2
    rw [← hW1]
    exact ⟨by rw [HV.out]; rfl, hB.out⟩
  have g1 : decide (7 < rsv) = false := decide_eq_false h1
  have e1 : decide (rsv > 7) = false := decide_eq_false h1
  by_cases h2 : op < 0
  · have g2 : decide (op < 0) = true := decide_eq_true h2
    have e2 : decide (op < 0) = true := decide_eq_true h2
    clear hcase
    go_enter Try.func16, Try.ntmps16
    go_wp2
    go_ret2
    rw [← hW1]
    exact ⟨by rw [HV.out]; rfl, hB.out⟩
  have g2 : decide (op < 0) = false := decide_eq_false h2
  have e2 : decide (op < 0) = false := decide_eq_false h2
  by_cases h3 : 15 < op
  · have g3 : decide (15 < op) = true := decide_eq_true h3
    have e3 : decide (op > 15) = true := decide_eq_true h3
    clear hcase
    go_enter Try.func16, Try.ntmps16
    go_wp2
    go_ret2
    rw [← hW1]
    exact ⟨by rw [HV.out]; rfl, hB.out⟩
  have g3 : decide (15 < op) = false := decide_eq_false h3
  have e3 : decide (op > 15) = false := decide_eq_false h3
  have hK : m = false ∧ (⟨k0, k1, k2, k3⟩ : Key4) ≠ key0 := by
    rcases hcase with h | h | h | h | h
    · exact absurd h h0
    · exact absurd h h1
    · exact absurd h h2
    · exact absurd h h3
    · exact h
  obtain ⟨rfl, hK⟩ := hK
  have hk := key_ne hK
  dsimp only at hk
  clear hcase hK
  by_cases z0 : k0 = 0
  · have q0 := eqB0 k0 z0
    by_cases z1 : k1 = 0
    · have q1 := eqB0 k1 z1
      by_cases z2 : k2 = 0
      · have q2 := eqB0 k2 z2
        have q3 := neB k3 (by
          rcases hk with h | h | h | h
          · exact absurd z0 h
          · exact absurd z1 h
          · exact absurd z2 h
          · exact h)
        clear hk z0 z1 z2
        go_enter Try.func16, Try.ntmps16
        go_wp2
        go_ret2
        rw [← hW1]
        exact ⟨by rw [HV.out]; rfl, hB.out⟩
      · have q2 := neB k2 z2
        clear hk z0 z1 z2
        go_enter Try.func16, Try.ntmps16
        go_wp2
        go_ret2
        rw [← hW1]
        exact ⟨by rw [HV.out]; rfl, hB.out⟩
    · have q1 := neB k1 z1
      clear hk z0 z1
      go_enter Try.func16, Try.ntmps16
      go_wp2
      go_ret2
      rw [← hW1]
      exact ⟨by rw [HV.out]; rfl, hB.out⟩
  · have q0 := neB k0 z0
    clear hk z0
    go_enter Try.func16, Try.ntmps16
    go_wp2
    go_ret2
    rw [← hW1]
    exact ⟨by rw [HV.out]; rfl, hB.out⟩
theorem shr64 (t : TypeId) (n k : Nat) (hk : k ≤ 64) (yk : IntKind) : binOp .shr t (.int .u64 (n : Int)) (.int yk (k : Int)) = pure (.int .u64 ((n / 2 ^ k : Nat) : Int)) := by
  simp only [binOp, Op.shift]
  rw [if_neg (by omega)]
  have hm : min (k : Int).toNat IntKind.u64.bits = k := by simp [IntKind.bits]; omega
  rw [hm]
  congr 2
  have e : (2 : Int) ^ k = ((2 ^ k : Nat) : Int) := by push_cast; rfl
  rw [e, Int.fdiv_eq_ediv_of_nonneg _ (Int.natCast_nonneg _)]
  rfl
theorem conv_iu {P : Program} {tb ti : TypeId} (h1 : P.underlying tb = some (.int .u64)) (h2 : P.underlying ti = some (.int .i64)) (n : Nat) (hn : n < 2 ^ 63) (w : World) : (convert ti tb (.int .i64 (n : Int))).run P w = .ok (.int .u64 (n : Int)) w := by
  have e : IntKind.u64.wrap (n : Int) = (n : Int) := by simp [IntKind.wrap, IntKind.bits, IntKind.signed]; omega
  simp [convert, run_underlying h1, run_underlying h2, e, go_sem]
theorem conv_ub {P : Program} {tb ti : TypeId} (h1 : P.underlying tb = some (.int .u8)) (h2 : P.underlying ti = some (.int .u64)) (n : Nat) (w : World) : (convert ti tb (.int .u64 (n : Int))).run P w = .ok (B (UInt8.ofNat n)) w := by
  have e : IntKind.u8.wrap (n : Int) = ((UInt8.ofNat n).toNat : Int) := by rw [IntKind.wrap_u8, UInt8.toNat_ofNat']; omega
  simp [convert, B, run_underlying h1, run_underlying h2, e, go_sem]
end Go.Proofs.Ytepamoikoinhdaa
