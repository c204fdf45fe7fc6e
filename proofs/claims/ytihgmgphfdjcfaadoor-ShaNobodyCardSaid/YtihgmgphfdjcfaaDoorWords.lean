/- The words of 32 bits as values of the model, and what Go's operators make of them. -/
import Derived.Test.YtihgmgphfdjcfaaDoorRows
import Derived.Test.YtihgmgphfdjcfaaDoorMath
import Derived.WalkKit
import Derived.WalkSpells
import Derived.WalkLawsBesides
namespace Go.Proofs.YtihgmgphfdjcfaaDoor
open Go.RowKit

/-- A word as a value. -/
def U (x : UInt32) : Value := .int .u32 (x.toNat : Int)

theorem U_lt (x : UInt32) : x.toNat < 4294967296 := x.toNat_lt

theorem ofInt_word (x : UInt32) : BitVec.ofInt 32 (x.toNat : Int) = x.toBitVec := by
  apply BitVec.eq_of_toNat_eq
  have := x.toNat_lt
  rw [BitVec.toNat_ofInt]
  show _ = x.toNat
  omega

theorem wrap_word (n : Int) : IntKind.u32.wrap n = n % 4294967296 := by
  simp [IntKind.wrap, IntKind.bits, IntKind.signed]

theorem wrap_back (r : BitVec 32) : IntKind.u32.wrap (r.toNat : Int) = ((UInt32.ofBitVec r).toNat : Int) := by
  rw [wrap_word]
  have := r.isLt
  show _ = (r.toNat : Int)
  omega

theorem U_add (t : TypeId) (x y : UInt32) : binOp .add t (U x) (U y) = pure (U (x + y)) := by
  have e : IntKind.u32.wrap ((x.toNat : Int) + (y.toNat : Int)) = ((x + y).toNat : Int) := by
    rw [wrap_word, UInt32.toNat_add]; omega
  simp only [U, binOp, Op.intArith, ne_eq, not_true_eq_false, ↓reduceIte, e]
theorem U_xor (t : TypeId) (x y : UInt32) : binOp .xor t (U x) (U y) = pure (U (x ^^^ y)) := by
  simp only [U, binOp, Op.intBits, ne_eq, not_true_eq_false, ↓reduceIte]
  show pure (Value.int .u32 (IntKind.u32.wrap ((BitVec.ofInt 32 (x.toNat : Int) ^^^ BitVec.ofInt 32 (y.toNat : Int)).toNat : Int))) = _
  rw [ofInt_word, ofInt_word, wrap_back]; rfl
theorem U_and (t : TypeId) (x y : UInt32) : binOp .and t (U x) (U y) = pure (U (x &&& y)) := by
  simp only [U, binOp, Op.intBits, ne_eq, not_true_eq_false, ↓reduceIte]
  show pure (Value.int .u32 (IntKind.u32.wrap ((BitVec.ofInt 32 (x.toNat : Int) &&& BitVec.ofInt 32 (y.toNat : Int)).toNat : Int))) = _
  rw [ofInt_word, ofInt_word, wrap_back]; rfl
theorem U_or (t : TypeId) (x y : UInt32) : binOp .or t (U x) (U y) = pure (U (x ||| y)) := by
  simp only [U, binOp, Op.intBits, ne_eq, not_true_eq_false, ↓reduceIte]
  show pure (Value.int .u32 (IntKind.u32.wrap ((BitVec.ofInt 32 (x.toNat : Int) ||| BitVec.ofInt 32 (y.toNat : Int)).toNat : Int))) = _
  rw [ofInt_word, ofInt_word, wrap_back]; rfl
theorem U_not (x : UInt32) : Op.unary .xor (U x) = pure (U (~~~x)) := by
  simp only [U, Op.unary, Op.intBits]
  show pure (Value.int .u32 (IntKind.u32.wrap ((BitVec.ofInt 32 (4294967295 : Int) ^^^ BitVec.ofInt 32 (x.toNat : Int)).toNat : Int))) = _
  rw [ofInt_word, wrap_back]
  rfl

theorem U_shl (t : TypeId) (x : UInt32) (yk : IntKind) (n : Int) (n0 : 0 ≤ n) (n1 : n < 32) : binOp .shl t (U x) (.int yk n) = pure (U (x <<< UInt32.ofNat n.toNat)) := by
  obtain ⟨m, rfl⟩ := Int.eq_ofNat_of_zero_le n0
  simp only [U, binOp, Op.shift]
  rw [if_neg (by omega)]
  have hm : min (m : Int).toNat IntKind.u32.bits = m := by simp [IntKind.bits]; omega
  rw [hm]
  congr 2
  rw [wrap_word, UInt32.toNat_shiftLeft]
  have : (UInt32.ofNat (m : Int).toNat).toNat % 32 = m := by
    rw [UInt32.toNat_ofNat']; omega
  rw [this, Nat.shiftLeft_eq]
  have e : (x.toNat : Int) * 2 ^ m = ((x.toNat * 2 ^ m : Nat) : Int) := by push_cast; rfl
  rw [e]; omega
theorem U_shr (t : TypeId) (x : UInt32) (yk : IntKind) (n : Int) (n0 : 0 ≤ n) (n1 : n < 32) : binOp .shr t (U x) (.int yk n) = pure (U (x >>> UInt32.ofNat n.toNat)) := by
  obtain ⟨m, rfl⟩ := Int.eq_ofNat_of_zero_le n0
  simp only [U, binOp, Op.shift]
  rw [if_neg (by omega)]
  have hm : min (m : Int).toNat IntKind.u32.bits = m := by simp [IntKind.bits]; omega
  rw [hm]
  congr 2
  rw [UInt32.toNat_shiftRight]
  have : (UInt32.ofNat (m : Int).toNat).toNat % 32 = m := by
    rw [UInt32.toNat_ofNat']; omega
  rw [this, Nat.shiftRight_eq_div_pow]
  have e : (2 : Int) ^ m = ((2 ^ m : Nat) : Int) := by push_cast; rfl
  rw [e, Int.fdiv_eq_ediv_of_nonneg _ (Int.natCast_nonneg _)]
  rfl

end Go.Proofs.YtihgmgphfdjcfaaDoor
