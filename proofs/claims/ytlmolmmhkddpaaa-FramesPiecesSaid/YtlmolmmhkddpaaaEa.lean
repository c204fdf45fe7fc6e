/- Frames and heads as values; what is asked of the package of frames. -/
import Derived.Test.YtlmolmmhkddpaaaEm1
import Derived.Test.YtlmolmmhkddpaaaGen9
import Derived.Test.YtlmolmmhkddpaaaQb
import Derived.Test.YtlmolmmhkddpaaaMv
import Derived.Test.YtlmolmmhkddpaaaProg
namespace Go.Proofs.Ytlmolmmhkddpaaa
open Go.RowKit

theorem ofInt_byte (x : UInt8) : BitVec.ofInt 8 (x.toNat : Int) = x.toBitVec := by
  rw [BitVec.ofInt_natCast]
  apply BitVec.eq_of_toNat_eq
  simp
theorem B_xor (t : TypeId) (x y : UInt8) : binOp .xor t (B x) (B y) = pure (B (x ^^^ y)) := by
  simp only [B, binOp, Op.intBits, ne_eq, not_true_eq_false, ↓reduceIte]
  show pure (Value.int .u8 (IntKind.u8.wrap ((BitVec.ofInt 8 (x.toNat : Int) ^^^ BitVec.ofInt 8 (y.toNat : Int)).toNat : Int))) = _
  rw [ofInt_byte, ofInt_byte]
  have h : ((x ^^^ y).toNat : Int) = ((x.toBitVec ^^^ y.toBitVec).toNat : Int) := rfl
  rw [← h, IntKind.wrap_u8]
  congr 2
  have := (x ^^^ y).toNat_lt
  omega
def kC (K : Key4) : Array Value := #[B K.k0, B K.k1, B K.k2, B K.k3]
def kV (K : Key4) : Value := .agg (kC K)
def frC (f : Frm) : Array Value := #[.bool f.fin, .int .i64 f.rsv, .int .i64 f.op, .bool f.masked, B f.key.k0, B f.key.k1, B f.key.k2, B f.key.k3, S f.data]
def frV (f : Frm) : Value := .agg (frC f)
def hdC (h : Hd) : Array Value := #[.bool h.fin, .int .i64 (h.rsv : Int), .int .i64 (h.op : Int), .bool h.masked, B h.key.k0, B h.key.k1, B h.key.k2, B h.key.k3, .int .u64 (h.len : Int), .bool h.least]
def hd0 : Hd := ⟨false, 0, 0, false, key0, 0, false⟩
def headV (o : Option (Hd × Nat)) : Value := match o with
  | some x => .tuple #[.agg (hdC x.1), .int .i64 (x.2 : Int), .bool true]
  | none => .tuple #[.agg (hdC hd0), .int .i64 0, .bool false]
def readV (x : Frm × Nat × Nat) : Value := .tuple #[frV x.1, .int .i64 (x.2.1 : Int), .int .i64 (x.2.2 : Int)]
def bytesV (f : Frm) : Value := .tuple #[S (if okFr f = true then bytesF f else []), .int .i64 (if okFr f = true then 0 else 1)]
theorem kC_get (K : Key4) (i : Nat) (h : i < 4) : (kC K)[i]? = some (B (K.at i)) := by
  have : i = 0 ∨ i = 1 ∨ i = 2 ∨ i = 3 := by omega
  rcases this with rfl | rfl | rfl | rfl <;> rfl
theorem mask_snoc {K : Key4} {s : List UInt8} {n i : Nat} {c : UInt8} (hc : s[i]? = some c) : maskN K n (s.take (i + 1)) = maskN K n (s.take i) ++ [c ^^^ K.at (n + i)] := by
  have hi : i < s.length := (List.getElem?_eq_some_iff.1 hc).1
  rw [List.take_add_one, hc, Option.toList_some, mask_app, List.length_take, Nat.min_eq_left (by omega)]
  rfl
end Go.Proofs.Ytlmolmmhkddpaaa
