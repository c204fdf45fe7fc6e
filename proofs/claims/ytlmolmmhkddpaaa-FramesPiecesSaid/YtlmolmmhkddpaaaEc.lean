/- The document's Bytes (stage 15) walked. (mkec.py writes it.) -/
import Derived.Test.YtlmolmmhkddpaaaEb
import Derived.Test.YtlmolmmhkddpaaaEo
namespace Go.Proofs.Ytlmolmmhkddpaaa
open Go.RowKit
attribute [local go_sem] store_one B_match B_store S_match S_store B_xor nguard_BN eguard_BN

theorem ok_no {f : Frm} (h : f.rsv < 0 ∨ 7 < f.rsv ∨ f.op < 0 ∨ 15 < f.op ∨ (f.masked = false ∧ f.key ≠ key0)) : okFr f = false := by
  cases hk : okFr f with
  | false => rfl
  | true =>
    obtain ⟨h1, h2, h3, h4, h5⟩ := okFr_parts hk
    rcases h with h | h | h | h | ⟨h, h6⟩
    · omega
    · omega
    · omega
    · omega
    · exact absurd (h5 h) h6
theorem ok_yes {f : Frm} (h1 : ¬ f.rsv < 0) (h2 : ¬ 7 < f.rsv) (h3 : ¬ f.op < 0) (h4 : ¬ 15 < f.op) (h5 : f.masked = true ∨ f.key = key0) : okFr f = true := by
  unfold okFr
  rw [decide_eq_true (by omega), Bool.true_and]
  rcases h5 with h | h
  · rw [h]; rfl
  · rw [decide_eq_true h, Bool.or_true]
theorem key_ne {K : Key4} (h : K ≠ key0) : K.k0 ≠ 0 ∨ K.k1 ≠ 0 ∨ K.k2 ≠ 0 ∨ K.k3 ≠ 0 := by
  obtain ⟨a, b, c, d⟩ := K
  by_cases h1 : a = 0
  · by_cases h2 : b = 0
    · by_cases h3 : c = 0
      · by_cases h4 : d = 0
        · subst h1 h2 h3 h4; exact absurd rfl h
        · exact .inr (.inr (.inr h4))
      · exact .inr (.inr (.inl h3))
    · exact .inr (.inl h2)
  · exact .inl h1
theorem neB (x : UInt8) (h : x ≠ 0) : binOp .neq 5 (B x) (.int .u8 0) = pure (.bool true) := by
  have h1 : x.toNat ≠ 0 := fun e => h (UInt8.toNat_inj.1 (by rw [e]; rfl))
  have : ((x.toNat : Int) != 0) = true := by rw [bne_iff_ne]; omega
  simp [B, binOp, Op.intCmp, this]
theorem eqB0 (x : UInt8) (h : x = 0) : binOp .neq 5 (B x) (.int .u8 0) = pure (.bool false) := by subst h; rfl
theorem shr64 (t : TypeId) (n k : Nat) (hk : k ≤ 64) (yk : IntKind) : binOp .shr t (.int .u64 (n : Int)) (.int yk (k : Int)) = pure (.int .u64 ((n / 2 ^ k : Nat) : Int)) := by
  simp only [binOp, Op.shift]
  rw [if_neg (by omega)]
  have hm : min (k : Int).toNat IntKind.u64.bits = k := by simp [IntKind.bits]; omega
  rw [hm]
  congr 2
  have e : (2 : Int) ^ k = ((2 ^ k : Nat) : Int) := by push_cast; rfl
  rw [e, Int.fdiv_eq_ediv_of_nonneg _ (Int.natCast_nonneg _)]
  rfl
theorem conv_iu {P : Program} {tb ti : TypeId} (h1 : P.underlying tb = some (.int .u64)) (h2 : P.underlying ti = some (.int .i64)) (n : Nat) (hn : n < 2 ^ 63) (w : World) : (convert ti tb (.int .i64 (n : Int))).run P w = .ok (.int .u64 (n : Int)) w := by
  have e : IntKind.u64.wrap (n : Int) = (n : Int) := by simp [IntKind.wrap, IntKind.bits, IntKind.signed]; omega
  simp [convert, run_underlying h1, run_underlying h2, e, go_sem]
theorem conv_ub {P : Program} {tb ti : TypeId} (h1 : P.underlying tb = some (.int .u8)) (h2 : P.underlying ti = some (.int .u64)) (n : Nat) (w : World) : (convert ti tb (.int .u64 (n : Int))).run P w = .ok (B (UInt8.ofNat n)) w := by
  have e : IntKind.u8.wrap (n : Int) = ((UInt8.ofNat n).toNat : Int) := by rw [IntKind.wrap_u8, UInt8.toNat_ofNat']; omega
  simp [convert, B, run_underlying h1, run_underlying h2, e, go_sem]
end Go.Proofs.Ytlmolmmhkddpaaa
