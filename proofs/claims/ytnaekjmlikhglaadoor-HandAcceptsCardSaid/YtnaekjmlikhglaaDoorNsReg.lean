/- Texts of this proof, one behind the other. -/
import Derived.Test.YtnaekjmlikhglaaDoorGen9
import Derived.Test.YtnaekjmlikhglaaDoorRows
import Derived.Test.YtnaekjmlikhglaaDoorNsMath2
import Derived.WalkKit
import Derived.WalkSpells
import Derived.WalkLawsBesides
import Derived.Deep.WholeRow
import Derived.Deep.MidRow
import Derived.Laws.CopyRow
import Derived.Still
import Derived.Lib.Hide
import Derived.Deep.RegionHeld3
/- The words of 32 bits as values of the model, and what Go's operators make of them. -/
namespace Go.Proofs.YtnaekjmlikhglaaDoor.sa
open Go.RowKit

/-- A word as a value. -/
def U (x : UInt32) : Value := .int .u32 (x.toNat : Int)

theorem U_lt (x : UInt32) : x.toNat < 4294967296 := x.toNat_lt

theorem ofInt_word (x : UInt32) : BitVec.ofInt 32 (x.toNat : Int) = x.toBitVec := by
  apply BitVec.eq_of_toNat_eq
  have := x.toNat_lt
  rw [BitVec.toNat_ofInt]
  show _ = x.toNat
  omega

theorem wrap_word (n : Int) : IntKind.u32.wrap n = n % 4294967296 := by
  simp [IntKind.wrap, IntKind.bits, IntKind.signed]

theorem wrap_back (r : BitVec 32) : IntKind.u32.wrap (r.toNat : Int) = ((UInt32.ofBitVec r).toNat : Int) := by
  rw [wrap_word]
  have := r.isLt
  show _ = (r.toNat : Int)
  omega

theorem U_add (t : TypeId) (x y : UInt32) : binOp .add t (U x) (U y) = pure (U (x + y)) := by
  have e : IntKind.u32.wrap ((x.toNat : Int) + (y.toNat : Int)) = ((x + y).toNat : Int) := by
    rw [wrap_word, UInt32.toNat_add]; omega
  simp only [U, binOp, Op.intArith, ne_eq, not_true_eq_false, ↓reduceIte, e]
theorem U_xor (t : TypeId) (x y : UInt32) : binOp .xor t (U x) (U y) = pure (U (x ^^^ y)) := by
  simp only [U, binOp, Op.intBits, ne_eq, not_true_eq_false, ↓reduceIte]
  show pure (Value.int .u32 (IntKind.u32.wrap ((BitVec.ofInt 32 (x.toNat : Int) ^^^ BitVec.ofInt 32 (y.toNat : Int)).toNat : Int))) = _
  rw [ofInt_word, ofInt_word, wrap_back]; rfl
theorem U_and (t : TypeId) (x y : UInt32) : binOp .and t (U x) (U y) = pure (U (x &&& y)) := by
  simp only [U, binOp, Op.intBits, ne_eq, not_true_eq_false, ↓reduceIte]
  show pure (Value.int .u32 (IntKind.u32.wrap ((BitVec.ofInt 32 (x.toNat : Int) &&& BitVec.ofInt 32 (y.toNat : Int)).toNat : Int))) = _
  rw [ofInt_word, ofInt_word, wrap_back]; rfl
theorem U_or (t : TypeId) (x y : UInt32) : binOp .or t (U x) (U y) = pure (U (x ||| y)) := by
  simp only [U, binOp, Op.intBits, ne_eq, not_true_eq_false, ↓reduceIte]
  show pure (Value.int .u32 (IntKind.u32.wrap ((BitVec.ofInt 32 (x.toNat : Int) ||| BitVec.ofInt 32 (y.toNat : Int)).toNat : Int))) = _
  rw [ofInt_word, ofInt_word, wrap_back]; rfl
theorem U_not (x : UInt32) : Op.unary .xor (U x) = pure (U (~~~x)) := by
  simp only [U, Op.unary, Op.intBits]
  show pure (Value.int .u32 (IntKind.u32.wrap ((BitVec.ofInt 32 (4294967295 : Int) ^^^ BitVec.ofInt 32 (x.toNat : Int)).toNat : Int))) = _
  rw [ofInt_word, wrap_back]
  rfl

theorem U_shl (t : TypeId) (x : UInt32) (yk : IntKind) (n : Int) (n0 : 0 ≤ n) (n1 : n < 32) : binOp .shl t (U x) (.int yk n) = pure (U (x <<< UInt32.ofNat n.toNat)) := by
  obtain ⟨m, rfl⟩ := Int.eq_ofNat_of_zero_le n0
  simp only [U, binOp, Op.shift]
  rw [if_neg (by omega)]
  have hm : min (m : Int).toNat IntKind.u32.bits = m := by simp [IntKind.bits]; omega
  rw [hm]
  congr 2
  rw [wrap_word, UInt32.toNat_shiftLeft]
  have : (UInt32.ofNat (m : Int).toNat).toNat % 32 = m := by
    rw [UInt32.toNat_ofNat']; omega
  rw [this, Nat.shiftLeft_eq]
  have e : (x.toNat : Int) * 2 ^ m = ((x.toNat * 2 ^ m : Nat) : Int) := by push_cast; rfl
  rw [e]; omega
theorem U_shr (t : TypeId) (x : UInt32) (yk : IntKind) (n : Int) (n0 : 0 ≤ n) (n1 : n < 32) : binOp .shr t (U x) (.int yk n) = pure (U (x >>> UInt32.ofNat n.toNat)) := by
  obtain ⟨m, rfl⟩ := Int.eq_ofNat_of_zero_le n0
  simp only [U, binOp, Op.shift]
  rw [if_neg (by omega)]
  have hm : min (m : Int).toNat IntKind.u32.bits = m := by simp [IntKind.bits]; omega
  rw [hm]
  congr 2
  rw [UInt32.toNat_shiftRight]
  have : (UInt32.ofNat (m : Int).toNat).toNat % 32 = m := by
    rw [UInt32.toNat_ofNat']; omega
  rw [this, Nat.shiftRight_eq_div_pow]
  have e : (2 : Int) ^ m = ((2 ^ m : Nat) : Int) := by push_cast; rfl
  rw [e, Int.fdiv_eq_ediv_of_nonneg _ (Int.natCast_nonneg _)]
  rfl

end Go.Proofs.YtnaekjmlikhglaaDoor.sa
/- The walks of the leaves. -/
namespace Go.Proofs.YtnaekjmlikhglaaDoor.sa
open Go.RowKit
attribute [local go_sem] U_add U_xor U_and U_or U_not U_shl U_shr

theorem mask1 : bits .and .u64 1 31 = 1 := by decide
theorem mask5 : bits .and .u64 5 31 = 5 := by decide
theorem mask30 : bits .and .u64 30 31 = 30 := by decide

set_option maxHeartbeats 400000 in
theorem rotl1 (x : UInt32) (w : World) : Calls Tryd.prog 74 #[U x, .int .i64 1] w fun e w' => e = .returned (U (rot x 1)) ∧ w = w' := by
  have h := mask1
  go_enter Tryd.func74, Tryd.ntmps74
  go_wp2
  go_ret
  exact ⟨rfl, rfl⟩
set_option maxHeartbeats 400000 in
theorem rotl5 (x : UInt32) (w : World) : Calls Tryd.prog 74 #[U x, .int .i64 5] w fun e w' => e = .returned (U (rot x 5)) ∧ w = w' := by
  have h := mask5
  go_enter Tryd.func74, Tryd.ntmps74
  go_wp2
  go_ret
  exact ⟨rfl, rfl⟩
set_option maxHeartbeats 400000 in
theorem rotl30 (x : UInt32) (w : World) : Calls Tryd.prog 74 #[U x, .int .i64 30] w fun e w' => e = .returned (U (rot x 30)) ∧ w = w' := by
  have h := mask30
  go_enter Tryd.func74, Tryd.ntmps74
  go_wp2
  go_ret
  exact ⟨rfl, rfl⟩

set_option maxHeartbeats 400000 in
theorem rot1 (x : UInt32) (w : World) : Calls Tryd.prog 54 #[U x, .int .u64 1] w fun e w' => e = .returned (U (rot x 1)) ∧ w = w' := by
  go_enter Tryd.func54, Tryd.ntmps54
  go_wp2
  go_ret
  exact ⟨rfl, rfl⟩
set_option maxHeartbeats 400000 in
theorem rot5 (x : UInt32) (w : World) : Calls Tryd.prog 54 #[U x, .int .u64 5] w fun e w' => e = .returned (U (rot x 5)) ∧ w = w' := by
  go_enter Tryd.func54, Tryd.ntmps54
  go_wp2
  go_ret
  exact ⟨rfl, rfl⟩
set_option maxHeartbeats 400000 in
theorem rot30 (x : UInt32) (w : World) : Calls Tryd.prog 54 #[U x, .int .u64 30] w fun e w' => e = .returned (U (rot x 30)) ∧ w = w' := by
  go_enter Tryd.func54, Tryd.ntmps54
  go_wp2
  go_ret
  exact ⟨rfl, rfl⟩

theorem K1 : (Value.int .u32 1518500249) = U 0x5a827999 := rfl
theorem K2 : (Value.int .u32 1859775393) = U 0x6ed9eba1 := rfl
theorem K3 : (Value.int .u32 2400959708) = U 0x8f1bbcdc := rfl
theorem K4 : (Value.int .u32 3395469782) = U 0xca62c1d6 := rfl

set_option maxHeartbeats 400000 in
theorem mix_any (t : Nat) (b c d : UInt32) (ht : t < 80) (w : World) :
    Calls Tryd.prog 73 #[.int .i64 (t : Int), U b, U c, U d] w fun e w' => e = .returned (.tuple #[U (fF t b c d), U (kK t)]) ∧ w = w' := by
  by_cases h1 : t < 20
  · go_enter Tryd.func73, Tryd.ntmps73
    go_wp2
    go_ret2
    exact ⟨by rw [fF, kK, if_pos h1, if_pos h1]; rfl, rfl⟩
  by_cases h2 : t < 40
  · go_enter Tryd.func73, Tryd.ntmps73
    go_wp2
    go_ret2
    exact ⟨by rw [fF, kK, if_neg h1, if_neg h1, if_pos h2, if_pos h2]; rfl, rfl⟩
  by_cases h3 : t < 60
  · go_enter Tryd.func73, Tryd.ntmps73
    go_wp2
    go_ret2
    exact ⟨by rw [fF, kK, if_neg h1, if_neg h1, if_neg h2, if_neg h2, if_pos h3, if_pos h3]; rfl, rfl⟩
  · go_enter Tryd.func73, Tryd.ntmps73
    go_wp2
    go_ret2
    exact ⟨by rw [fF, kK, if_neg h1, if_neg h1, if_neg h2, if_neg h2, if_neg h3, if_neg h3]; rfl, rfl⟩
end Go.Proofs.YtnaekjmlikhglaaDoor.sa
/- Laws on arrays by value and on a world whose blocks are written out. -/
namespace Go.Proofs.YtnaekjmlikhglaaDoor.sa
open Go.RowKit

/-- A byte as a value. -/
def B (x : UInt8) : Value := .int .u8 (x.toNat : Int)

theorem U_cells (x : UInt32) : (U x).cells = #[U x] := rfl
theorem B_cells (x : UInt8) : (B x).cells = #[B x] := rfl
theorem U_match (x : UInt32) : (@Value.cells.match_1 (fun _ => Array Value) (U x) (fun cs => cs) (fun v => #[v])) = #[U x] := rfl
theorem B_match (x : UInt8) : (@Value.cells.match_1 (fun _ => Array Value) (B x) (fun cs => cs) (fun v => #[v])) = #[B x] := rfl
theorem run_store_ok (P : Program) (w : World) (a : Addr) (v : Value) (m : Mode) (hv : v.oneCell' = true) (hc : (w.cell? a).isSome = true) (hf : w.frozen? a = false) : (store a v m).run P w = .ok () (w.setCell a v) := by
  obtain ⟨v0, h0⟩ := Option.isSome_iff_exists.1 hc
  rw [run_store P w a v m hv, h0]; simp [hf]
theorem U_store (P : Program) (w : World) (a : Addr) (x : UInt32) (m : Mode) (hc : (w.cell? a).isSome = true) (hf : w.frozen? a = false) : (store a (U x) m).run P w = .ok () (w.setCell a (U x)) :=
  run_store_ok P w a (U x) m rfl hc hf
theorem B_store (P : Program) (w : World) (a : Addr) (x : UInt8) (m : Mode) (hc : (w.cell? a).isSome = true) (hf : w.frozen? a = false) : (store a (B x) m).run P w = .ok () (w.setCell a (B x)) :=
  run_store_ok P w a (B x) m rfl hc hf
theorem store_one (a : Addr) (v : Value) : storeCells a [v] = store a v := by
  have : a.add 0 = a := by unfold Addr.add; rw [if_pos rfl]
  simp [storeCells, this]
theorem U_one (x : UInt32) : (U x).oneCell' = true := rfl
theorem B_one (x : UInt8) : (B x).oneCell' = true := rfl

/-- The word list as cells. -/
def ucells (l : List UInt32) : Array Value := (l.map U).toArray
def bcells (l : List UInt8) : Array Value := (l.map B).toArray
theorem ucells_size (l : List UInt32) : (ucells l).size = l.length := by simp [ucells]
theorem bcells_size (l : List UInt8) : (bcells l).size = l.length := by simp [bcells]
theorem ucells_get (l : List UInt32) (k : Nat) (h : k < l.length) : (ucells l)[k]? = some (U (l[k]?.getD 0)) := by
  simp [ucells, h]
theorem bcells_get (l : List UInt8) (k : Nat) (h : k < l.length) : (bcells l)[k]? = some (B (l[k]?.getD 0)) := by
  simp [bcells, h]
theorem ucells_set (l : List UInt32) (k : Nat) (x : UInt32) : (ucells l).setIfInBounds k (U x) = ucells (l.set k x) := by
  simp [ucells, List.map_set]
theorem bcells_set (l : List UInt8) (k : Nat) (x : UInt8) : (bcells l).setIfInBounds k (B x) = bcells (l.set k x) := by
  simp [bcells, List.map_set]
theorem ucells_one (l : List UInt32) : (ucells l).all (·.oneCell') = true := by
  simp [ucells]; intro x _; rfl
theorem bcells_one (l : List UInt8) : (bcells l).all (·.oneCell') = true := by
  simp [bcells]; intro x _; rfl

theorem run_index_cells {t e : TypeId} {n : Nat} (cs : Array Value) (v : Value) (i : Int) (w : World) (hu : Tryd.prog.underlying t = some (.array n e))
    (hz : ∀ w, (sizeOf e).run Tryd.prog w = .ok 1 w) (ha : ∀ w, (isAgg e).run Tryd.prog w = .ok false w)
    (h0 : 0 ≤ i) (h1 : i < n) (hv : cs[i.toNat]? = some v) : (Instr.index t (.agg cs) (.int .i64 i)).run Tryd.prog w = .ok v w := by
  have hin : 0 ≤ i ∧ i < (n : Int) := ⟨h0, h1⟩
  simp [Instr.index, run_underlying hu, asIntOf, hin, part, hz, ha, hv, go_sem]

theorem wrap_byte (b : UInt8) : IntKind.u32.wrap (b.toNat : Int) = ((b.toUInt32).toNat : Int) := by
  rw [wrap_word]
  have := b.toNat_lt
  have e : b.toUInt32.toNat = b.toNat := by simp
  rw [e]; omega
theorem convB (b : UInt8) (w : World) : (convert 5 64 (B b)).run Tryd.prog w = .ok (U b.toUInt32) w := by
  have h1 := Tryd.underlying5
  have h2 := Tryd.underlying64
  simp [convert, B, U, run_underlying h1, run_underlying h2, wrap_byte, go_sem]

theorem wrap_u8 (n : Int) : IntKind.u8.wrap n = n % 256 := by simp [IntKind.wrap, IntKind.bits, IntKind.signed]
theorem convU (x : UInt32) (w : World) : (convert 64 5 (U x)).run Tryd.prog w = .ok (B x.toUInt8) w := by
  have h1 := Tryd.underlying5
  have h2 := Tryd.underlying64
  have e : IntKind.u8.wrap (x.toNat : Int) = (x.toUInt8.toNat : Int) := by rw [wrap_u8, UInt32.toNat_toUInt8]; omega
  simp [convert, B, U, run_underlying h1, run_underlying h2, e, go_sem]
theorem convN (n : Nat) (w : World) : (convert 71 5 (.int .u64 (n : Int))).run Tryd.prog w = .ok (B (UInt8.ofNat n)) w := by
  have h1 := Tryd.underlying5
  have h2 := Tryd.underlying71
  have e : IntKind.u8.wrap (n : Int) = ((UInt8.ofNat n).toNat : Int) := by rw [wrap_u8, UInt8.toNat_ofNat']; omega
  simp [convert, B, run_underlying h1, run_underlying h2, e, go_sem]

/-- A text as a value. -/
def S (l : List UInt8) : Value := .string ⟨l.toArray⟩
theorem S_add (t : TypeId) (a b : List UInt8) (h : a.length + b.length ≤ 9223372036854775807) : binOp .add t (S a) (S b) = pure (S (a ++ b)) := by
  have e : Op.stringOp .add ⟨a.toArray⟩ ⟨b.toArray⟩ = pure (Value.string (⟨a.toArray⟩ ++ ⟨b.toArray⟩)) := by
    have hs : ((⟨a.toArray⟩ : ByteArray).size + (⟨b.toArray⟩ : ByteArray).size : Nat) = a.length + b.length := by simp [ByteArray.size]
    simp only [Op.stringOp]
    rw [if_neg (by rw [hs]; show ¬ ((a.length + b.length : Nat) : Int) > 9223372036854775807; omega)]
  simp only [S, binOp, e]
  congr 2

/-! Three blocks behind a world. -/
theorem alloc_size (w : World) (o : Obj) : (w.alloc o).heap.size = w.heap.size + 1 := by simp
theorem heap3_0 (w : World) (A B' D : Obj) : (((w.alloc A).alloc B').alloc D).heap[w.heap.size]? = some A := by
  rw [heap_alloc_old _ _ (by rw [alloc_size, alloc_size]; omega), heap_alloc_old _ _ (by rw [alloc_size]; omega), heap_alloc_last]
theorem heap3_1 (w : World) (A B' D : Obj) : (((w.alloc A).alloc B').alloc D).heap[w.heap.size + 1]? = some B' := by
  rw [heap_alloc_old _ _ (by rw [alloc_size, alloc_size]; omega), ← alloc_size w A, heap_alloc_last]
theorem heap3_2 (w : World) (A B' D : Obj) : (((w.alloc A).alloc B').alloc D).heap[w.heap.size + 1 + 1]? = some D := by
  rw [← alloc_size w A, ← alloc_size (w.alloc A) B', heap_alloc_last]

/-- Block g of the world holds these cells, and may be written. -/
def Row (w : World) (g : Nat) (cs : Array Value) (t : TypeId) : Prop := w.heap[g]? = some (.cells cs t (0, 0))
section
variable {w : World} {g : Nat} {cs : Array Value} {t : TypeId}
theorem Row.row (h : Row w g cs t) : w.heap[g]? = some (.cells cs t (0, 0)) := h
theorem Row.word (h : Row w g cs t) (l : List UInt32) (e : cs = ucells l) (k : Nat) (hk : k < l.length) : w.cell? ⟨g, k, none⟩ = some (U (l[k]?.getD 0)) := by
  rw [cell_of_row w g k cs t (0, 0) h, e]; exact ucells_get l k hk
theorem Row.byte (h : Row w g cs t) (l : List UInt8) (e : cs = bcells l) (k : Nat) (hk : k < l.length) : w.cell? ⟨g, k, none⟩ = some (B (l[k]?.getD 0)) := by
  rw [cell_of_row w g k cs t (0, 0) h, e]; exact bcells_get l k hk
theorem Row.frozen (h : Row w g cs t) (k : Nat) : w.frozen? ⟨g, k, none⟩ = false := frozen_of_row w g k cs t h
theorem Row.drew (h : Row w g cs t) : Row w.drew g cs t := h
theorem Row.other (h : Row w g cs t) {a : Addr} {v : Value} (hn : g ≠ a.block) : Row (w.setCell a v) g cs t := by
  unfold Row; rw [heap_setCell_other w a g v hn]; exact h
theorem Row.set (h : Row w g cs t) (i : Nat) (v : Value) : Row (w.setCell ⟨g, i, none⟩ v) g (cs.setIfInBounds i v) t := heap_setCell_same w g i cs t v h
theorem Row.set_word {l : List UInt32} (h : Row w g (ucells l) t) (i : Nat) (x : UInt32) {l' : List UInt32} (e : l' = l.set i x) : Row (w.setCell ⟨g, i, none⟩ (U x)) g (ucells l') t := by
  rw [e, ← ucells_set]; exact h.set i _
theorem Row.set_byte {l : List UInt8} (h : Row w g (bcells l) t) (i : Nat) (x : UInt8) {l' : List UInt8} (e : l' = l.set i x) : Row (w.setCell ⟨g, i, none⟩ (B x)) g (bcells l') t := by
  rw [e, ← bcells_set]; exact h.set i _
theorem Row.lt (h : Row w g cs t) : g < w.heap.size := (Array.getElem?_eq_some_iff.1 h).1
theorem Row.alloc (h : Row w g cs t) (o : Obj) : Row (w.alloc o) g cs t := by
  unfold Row; rw [Below.heap_alloc _ _ _ h.lt]; exact h
theorem Row.below {w' : World} {b : Nat} (h : Row w g cs t) (hb : Below b w w') (hg : g < b) : Row w' g cs t := by
  unfold Row; rw [hb.block g hg]; exact h
end
theorem row_new (w : World) (cs : Array Value) (t : TypeId) : Row (w.alloc (.cells cs t)) w.heap.size cs t := heap_alloc_last w _

end Go.Proofs.YtnaekjmlikhglaaDoor.sa
/- Laws for a hash in memory: many cells in the midst of a block; copy of a text into them. -/
namespace Go.Proofs.YtnaekjmlikhglaaDoor.sa
open Go.RowKit

section
variable {P : Program}
theorem run_storeVar_at (w : World) (g o : Nat) (t ty : TypeId) (cells cur : Array Value) (hg : w.heap[g]? = some (.cells cur t (0, 0))) (hi : (P.info? ty).map (·.size) = some cells.size)
    (hfit : o + cells.size ≤ cur.size) (h1 : ∀ v ∈ cells.toList, v.oneCell' = true) :
    (storeVar ty ⟨g, o, none⟩ (.agg cells)).run P w = .ok () (w.setRow g (cur.toList.take o ++ cells.toList ++ cur.toList.drop (o + cells.size)).toArray) := by
  have := run_storeCells_at P g o t cells.toList 0 cur w hg (by simpa using hfit) h1
  cases hq : P.info? ty with
  | none => simp [hq] at hi
  | some i =>
    have hs : cells.size = i.size := by simp [hq] at hi; omega
    simp only [Nat.add_zero, Array.length_toList] at this
    simp [storeVar, sizeOf, typeInfo, hq, Value.cells, hs, this]

theorem wpList_store_at {ops : Array Oper} {rest : List Oper} {op : Oper} {a : Act} {w : World} {Q : Exit → Act → World → Prop} (hgd : op.guard = none) (ty : TypeId) (x y : Operand) (ho : op.op = .store ty x y)
    (g o : Nat) (cells cur : Array Value) (t : TypeId) (hx : a.eval x = .pointer (some ⟨g, o, none⟩)) (hy : a.eval y = .agg cells)
    (hg : w.heap[g]? = some (.cells cur t (0, 0))) (hi : (P.info? ty).map (·.size) = some cells.size)
    (hfit : o + cells.size ≤ cur.size) (h1 : ∀ v ∈ cells.toList, v.oneCell' = true)
    (h : wpList P ops Q rest (a.put op.dst undef) (w.setRow g (cur.toList.take o ++ cells.toList ++ cur.toList.drop (o + cells.size)).toArray)) : wpList P ops Q (op :: rest) a w :=
  wpList_plain hgd fun _ hK => by
    unfold Oper.wp execOp
    simp only [ho, hx, hy, Instr.storeAt, Instr.sureAddr, Sem.run_bind, Sem.run_pure, Result.andThen_ok, run_storeVar_at w g o t ty cells cur hg hi hfit h1]
    exact hK _ _ h

theorem wpStill_load_mid {ops : Array Oper} {w : World} {Q : Act → Prop} {op : Oper} {rest : List Oper} {a : Act} (hgd : op.guard = none) (ty : TypeId) (x : Operand) (ho : op.op = .load ty x)
    (b o : Nat) (hx : a.eval x = .pointer (some ⟨b, o, none⟩)) (cs : List Value) (d : TypeDesc) (hc : w.rangeAt b o cs)
    (hu : P.underlying ty = some d) (hd : d.isRow = true) (hi : (P.info? ty).map (·.size) = some cs.length)
    (h : wpStill P ops w Q rest (a.put op.dst (.agg cs.toArray))) : wpStill P ops w Q (op :: rest) a := by
  unfold wpStill
  simp only [Region.wanted, hgd, if_true]
  unfold Oper.still execOp
  simp only [ho, hx, Instr.loadAt, Instr.sureAddr, Sem.run_bind, Sem.run_pure, Result.andThen_ok, run_loadVar_mid w b o ty cs d hc hu hd hi]
  exact ⟨rfl, h⟩
end

/-- A text copied into a row of bytes. -/
theorem run_copy_str (w : World) (ty : TypeId) (g o dLen dCap : Nat) (cur : Array Value) (t : TypeId) (s : List UInt8) (m : Nat) (hm : m = Nat.min s.length dLen)
    (hg : w.heap[g]? = some (.cells cur t (0, 0))) (hfit : o + m ≤ cur.size) :
    (Builtin.copy_ #[42, 9] ty #[.slice (some ⟨g, o, none⟩) dLen dCap, S s]).run Tryd.prog w =
      .ok (goInt m) (w.setRow g (cur.toList.take o ++ (s.take m).map B ++ cur.toList.drop (o + m)).toArray) := by
  have hl : ((s.take m).map B).length = m := by
    rw [List.length_map, List.length_take, hm]; exact Nat.min_eq_left (Nat.min_le_left _ _)
  have hst := run_storeCells_at Tryd.prog g o t ((s.take m).map B) 0 cur w hg (by rw [hl]; simpa using hfit) (fun v hv => by
    obtain ⟨b, _, rfl⟩ := List.mem_map.1 hv; rfl)
  rw [hl, Nat.add_zero] at hst
  have hu := Tryd.underlying42
  have hz := Tryd.sizeOf5
  have hlen : (⟨s.toArray⟩ : ByteArray).size = s.length := by simp [ByteArray.size]
  have hext : (((⟨s.toArray⟩ : ByteArray).extract 0 m).data.map fun b => Value.int .u8 (b.toNat : Int)).toList = (s.take m).map B := by
    rw [ByteArray.data_extract]
    simp
    rfl
  simp only [Builtin.copy_, S, Builtin.lenOf, Builtin.firstCells]
  simp only [List.getElem?_toArray, List.getElem?_cons_zero, List.getElem?_cons_succ, run_underlying hu, Sem.run_bind, Result.andThen_ok, Sem.run_pure, hz, hlen, ← hm, hext, hst]

/-- A hash's cells: five words, the begun block, how many bytes there were. -/
def hcl (ws : S5) (bg : List UInt8) (n : Nat) : List Value := ws.l.map U ++ (bg.map B ++ [.int .i64 n])
theorem hcl_length (ws : S5) (bg : List UInt8) (n : Nat) (h : bg.length = 64) : (hcl ws bg n).length = 70 := by
  simp [hcl, S5.l, h]

theorem hcl_word (ws : S5) (bg : List UInt8) (n : Nat) : (hcl ws bg n).take 5 = ws.l.map U := rfl
theorem hcl_n (ws : S5) (bg : List UInt8) (n : Nat) (h : bg.length = 64) : (hcl ws bg n)[69]? = some (.int .i64 n) := by
  rw [hcl, List.getElem?_append_right (by simp [S5.l]), List.getElem?_append_right (by simp [S5.l, h])]
  simp [S5.l, h]
theorem hcl_set (ws : S5) (bg : List UInt8) (n m : Nat) (h : bg.length = 64) : (hcl ws bg n).set 69 (.int .i64 m) = hcl ws bg m := by
  rw [hcl, List.set_append_right _ _ (by simp [S5.l]), List.set_append_right _ _ (by simp [S5.l, h])]
  simp [S5.l, h, hcl]
theorem hcl_ws (ws ws' : S5) (bg : List UInt8) (n : Nat) : (hcl ws bg n).take 0 ++ ws'.l.map U ++ (hcl ws bg n).drop 5 = hcl ws' bg n := rfl
theorem hcl_put (ws : S5) (bg r : List UInt8) (n i m : Nat) (h : bg.length = 64) (hi : i + m ≤ 64) :
    (hcl ws bg n).take (5 + i) ++ (r.take m).map B ++ (hcl ws bg n).drop (5 + i + m) = hcl ws (put bg r i m) n := by
  have e1 : (hcl ws bg n).take (5 + i) = ws.l.map U ++ (bg.take i).map B := by
    rw [hcl, List.take_append, List.take_of_length_le (by simp [S5.l]), List.take_append_of_le_length (by simp [S5.l, h]; omega)]
    simp [S5.l, List.map_take]
  have e2 : (hcl ws bg n).drop (5 + i + m) = (bg.drop (i + m)).map B ++ [.int .i64 n] := by
    rw [hcl, List.drop_append, List.drop_of_length_le (by simp [S5.l]; omega), List.drop_append_of_le_length (by simp [S5.l, h]; omega)]
    have : 5 + i + m - (List.map U ws.l).length = i + m := by simp [S5.l]; omega
    rw [this]; simp [List.map_drop]
  rw [e1, e2, hcl, put]; simp

/-- Block b is a hash with these parts. -/
def HRow (w : World) (b : Nat) (ws : S5) (bg : List UInt8) (n : Nat) : Prop := Row w b (hcl ws bg n).toArray 68
section
variable {w : World} {b : Nat} {ws : S5} {bg : List UInt8} {n : Nat}
theorem HRow.cells (h : HRow w b ws bg n) : Row w b (hcl ws bg n).toArray 68 := h
theorem HRow.num (h : HRow w b ws bg n) (hb : bg.length = 64) : w.cell? ⟨b, 69, none⟩ = some (.int .i64 n) := by
  rw [cell_of_row w b 69 _ 68 (0, 0) h.cells]; simpa using hcl_n ws bg n hb
theorem HRow.set (h : HRow w b ws bg n) (hb : bg.length = 64) (m : Nat) : HRow (w.setCell ⟨b, 69, none⟩ (.int .i64 m)) b ws bg m := by
  have := Row.set h.cells 69 (.int .i64 m)
  rw [List.setIfInBounds_toArray, hcl_set ws bg n m hb] at this; exact this
theorem HRow.range (h : HRow w b ws bg n) : w.rangeAt b 0 (ws.l.map U) := fun j v hv => by
  rw [Nat.zero_add, cell_of_row w b j _ 68 (0, 0) h.cells, List.getElem?_toArray, hcl]
  rw [List.getElem?_append_left (List.getElem?_eq_some_iff.1 hv).1]; exact hv
theorem HRow.range2 (h : HRow w b ws bg n) : w.rangeAt b 5 (bg.map B) := fun j v hv => by
  rw [cell_of_row w b (5 + j) _ 68 (0, 0) h.cells, List.getElem?_toArray, hcl, List.getElem?_append_right (by simp [S5.l])]
  have : 5 + j - (List.map U ws.l).length = j := by simp [S5.l]
  rw [this, List.getElem?_append_left (List.getElem?_eq_some_iff.1 hv).1]; exact hv
theorem HRow.drew (h : HRow w b ws bg n) : HRow w.drew b ws bg n := h
theorem HRow.lt (h : HRow w b ws bg n) : b < w.heap.size := Row.lt h
theorem HRow.below {w' : World} {k : Nat} (h : HRow w b ws bg n) (hb : Below k w w') (hg : b < k) : HRow w' b ws bg n := Row.below h hb hg
theorem HRow.setRow (h : HRow w b ws bg n) {ws' : S5} {bg' : List UInt8} {n' : Nat} {cs : List Value} (e : cs = hcl ws' bg' n') : HRow (w.setRow b cs.toArray) b ws' bg' n' := by
  rw [e]; exact setRow_heap w b _ _ 68 (0, 0) h.cells
end

end Go.Proofs.YtnaekjmlikhglaaDoor.sa
/- Laws for texts that the walk doesn't look into: their length, what is left behind some bytes, their bytes copied. -/
namespace Go.Proofs.YtnaekjmlikhglaaDoor.sa
open Go.RowKit

/-- The variable 'start' holds the first words. -/
def Start (w : World) : Prop := w.rangeAt 0 0 (start5.l.map U)
/-- Only block b, and what was made since, may have turned. -/
structure Keeps (b : Nat) (w w' : World) : Prop where
  os : w'.os = w.os
  tape : w'.tape = w.tape
  output : w'.output = w.output
  size : w.heap.size ≤ w'.heap.size
  block : ∀ k, k < w.heap.size → k ≠ b → w'.heap[k]? = w.heap[k]?
section
variable {b : Nat} {w w' w'' : World}
theorem Keeps.refl (b : Nat) (w : World) : Keeps b w w := ⟨rfl, rfl, rfl, Nat.le_refl _, fun _ _ _ => rfl⟩
theorem Keeps.trans (h : Keeps b w w') (k : Keeps b w' w'') : Keeps b w w'' :=
  ⟨k.os.trans h.os, k.tape.trans h.tape, k.output.trans h.output, Nat.le_trans h.size k.size, fun i hi hn => (k.block i (Nat.lt_of_lt_of_le hi h.size) hn).trans (h.block i hi hn)⟩
theorem Keeps.of_below (h : Below w.heap.size w w') : Keeps b w w' := ⟨h.os, h.tape, h.output, h.size, fun k hk _ => h.block k hk⟩
theorem Keeps.drew (w : World) : Keeps b w w.drew := ⟨rfl, rfl, rfl, Nat.le_refl _, fun _ _ _ => rfl⟩
theorem Keeps.setRow (w : World) (cs : Array Value) : Keeps b w (w.setRow b cs) := ⟨rfl, rfl, rfl, by simp, fun k _ hn => setRow_other w b k cs hn⟩
theorem Keeps.setCell (w : World) (o : Nat) (v : Value) : Keeps b w (w.setCell ⟨b, o, none⟩ v) :=
  ⟨rfl, rfl, rfl, by simp [World.setCell], fun k _ hn => Below.heap_setCell _ _ _ _ hn⟩
theorem Keeps.below {k : Nat} (h : Keeps b w w') (hk : k ≤ w.heap.size) (hb : k ≤ b) : Below k w w' :=
  ⟨h.os, h.tape, h.output, h.size, fun i hi => h.block i (by omega) (by omega)⟩
theorem start_of_block (h : Start w) (e : w'.heap[0]? = w.heap[0]?) : Start w' := fun j v hv => by
  rw [World.cell?_of_block (w := w) e]; exact h j v hv
theorem Start.lt (h : Start w) : 0 < w.heap.size := World.block_lt_of_cell? w _ (h 0 _ rfl)
theorem Start.keeps (h : Start w) (k : Keeps b w w') (hb : b ≠ 0) : Start w' := start_of_block h (k.block 0 h.lt (fun e => hb e.symm))
theorem Start.below {k : Nat} (h : Start w) (hb : Below k w w') (hk : 0 < k) : Start w' := start_of_block h (hb.block 0 hk)
end

/-- Block b is a hash of the text t, and it may be gone on with at once. -/
def Mid (b : Nat) (t : List UInt8) (w : World) : Prop := ∃ ws bg, HRow w b ws bg t.length ∧ Inv t ws bg
/-- Block b is a hash of the text t. -/
def IsHash (b : Nat) (t : List UInt8) (w : World) : Prop := ∃ ws bg, HRow w b ws bg t.length ∧ bg.length = 64 ∧ (t ≠ [] → Inv t ws bg)
theorem Mid.isHash {b : Nat} {t : List UInt8} {w : World} (h : Mid b t w) : IsHash b t w := by
  obtain ⟨ws, bg, h1, h2⟩ := h; exact ⟨ws, bg, h1, h2.len, fun _ => h2⟩

section
variable {ops : Array Oper} {rest : List Oper} {o : Oper} {a : Act} {w : World} {Q : Exit → Act → World → Prop}

theorem wpList_exec (hgd : o.guard = none) (v : Value) (w' : World) (hrun : (execOp a.eval o).run Tryd.prog w = .ok (.value v) w')
    (h : wpList Tryd.prog ops Q rest (a.put o.dst v) w') : wpList Tryd.prog ops Q (o :: rest) a w :=
  wpList_plain hgd fun _ hK => by
    unfold Oper.wp
    rw [hrun]
    exact hK _ _ h

theorem S_size (r : List UInt8) : (⟨r.toArray⟩ : ByteArray).size = r.length := by simp [ByteArray.size]

theorem run_len_S (t : TypeId) (r : List UInt8) (w : World) : (Builtin.len_ #[9] t #[S r]).run Tryd.prog w = .ok (.int .i64 r.length) w := by
  have hu := Tryd.underlying9
  simp [Builtin.len_, S, run_underlying hu, S_size, Result.andThen, goInt]
theorem run_slice_S (r : List UInt8) (m : Nat) (hm : m ≤ r.length) (w : World) : (Instr.sliceAt 9 (S r) (some (.int .i64 m)) none none).run Tryd.prog w = .ok (S (r.drop m)) w := by
  have hu := Tryd.underlying9
  rw [run_sliceAt_string w 9 _ _ _ _ hu]
  have e : (⟨r.toArray⟩ : ByteArray).extract m r.length = ⟨(r.drop m).toArray⟩ := by
    apply ByteArray.ext
    rw [ByteArray.data_extract]; simp [List.take_of_length_le]
  simp [Instr.slice, S, run_underlying hu, Instr.sliceBounds, run_sliceBound, S_size, Result.andThen, hm, e]
theorem wpList_len_str (hgd : o.guard = none) (x : Operand) (ho : o.op = .call { callee := .builtin .len, args := #[x], argTypes := #[9] }) (r : List UInt8) (hx : a.eval x = S r)
    (h : wpList Tryd.prog ops Q rest (a.put o.dst (.int .i64 r.length)) w) : wpList Tryd.prog ops Q (o :: rest) a w := by
  refine wpList_exec hgd _ w ?_ h
  simp [execOp, ho, resolve, invoke, builtin, hx, run_len_S, Result.andThen]

theorem wpList_drop_str (hgd : o.guard = none) (x y : Operand) (ho : o.op = .slice 9 x (some y) none none) (r : List UInt8) (hx : a.eval x = S r) (m : Nat) (hy : a.eval y = .int .i64 m) (hm : m ≤ r.length)
    (h : wpList Tryd.prog ops Q rest (a.put o.dst (S (r.drop m))) w) : wpList Tryd.prog ops Q (o :: rest) a w := by
  refine wpList_exec hgd _ w ?_ h
  simp [execOp, ho, hx, hy, run_slice_S r m hm, Result.andThen]

/-- How long a text is, as a measure. -/
def slen : Value → Nat
  | .string s => s.size
  | _ => 0
theorem slen_S (r : List UInt8) : slen (S r) = r.length := S_size r

theorem wpList_copy_str (hgd : o.guard = none) (d s : Operand) (ho : o.op = .call { callee := .builtin .copy, args := #[d, s], argTypes := #[42, 9] })
    (g off dLen dCap : Nat) (r : List UInt8) (hd : a.eval d = .slice (some ⟨g, off, none⟩) dLen dCap) (hs : a.eval s = S r)
    (cur : Array Value) (t : TypeId) (hg : w.heap[g]? = some (.cells cur t (0, 0))) (m : Nat) (hm : m = Nat.min r.length dLen) (hfit : off + m ≤ cur.size)
    (h : wpList Tryd.prog ops Q rest (a.put o.dst (.int .i64 m)) (w.setRow g (cur.toList.take off ++ (r.take m).map B ++ cur.toList.drop (off + m)).toArray)) : wpList Tryd.prog ops Q (o :: rest) a w := by
  refine wpList_exec hgd _ _ ?_ h
  have hrun := run_copy_str w o.type g off dLen dCap cur t r m hm hg hfit
  simp [execOp, ho, resolve, invoke, builtin, hd, hs, hrun, Result.andThen, goInt]

/-- The begun block from byte i on. -/
theorem wpList_slice_begun (hgd : o.guard = none) (x y : Operand) (ho : o.op = .slice 66 x (some y) none none) (b : Nat) (hx : a.eval x = .pointer (some ⟨b, 5, none⟩)) (i : Int) (k : Nat)
    (hy : a.eval y = .int .i64 i) (hi : i = (k : Int)) (hk : k < 64)
    (h : wpList Tryd.prog ops Q rest (a.put o.dst (.slice (some ⟨b, 5 + k, none⟩) (64 - k) (64 - k))) w) : wpList Tryd.prog ops Q (o :: rest) a w := by
  refine wpList_exec hgd _ w ?_ h
  have hu := Tryd.underlying66
  have hz := Tryd.sizeOf5
  have hrun : (Instr.sliceAt 66 (.pointer (some ⟨b, 5, none⟩)) (some (.int .i64 (k : Int))) none none).run Tryd.prog w = .ok (.slice (some ⟨b, 5 + k, none⟩) (64 - k) (64 - k)) w := by
    have hn : ¬ 64 = k := by omega
    have hle : (0 : Int) ≤ (k : Int) ∧ (k : Int) ≤ 64 := by omega
    have hsb : (Instr.sliceBound (.int .i64 (k : Int)) 64 .sliceB).run Tryd.prog w = .ok k w := by
      simp [Instr.sliceBound, asIntOf, hle, go_sem]
    simp [Instr.sliceAt, Instr.sureAddr, run_underlying hu, Instr.sliceBounds, hsb, Result.andThen, hn, hz, Addr.add_mid]
  subst hi
  simp [execOp, ho, hx, hy, hrun, Result.andThen]

/-- A text copied into the begun block. -/
theorem wpList_copy_hash (hgd : o.guard = none) (d s : Operand) (ho : o.op = .call { callee := .builtin .copy, args := #[d, s], argTypes := #[42, 9] })
    (b i : Nat) (dCap : Nat) (r : List UInt8) (hd : a.eval d = .slice (some ⟨b, 5 + i, none⟩) (64 - i) dCap) (hs : a.eval s = S r)
    {ws : S5} {bg : List UInt8} {n : Nat} (hr : HRow w b ws bg n) (hb : bg.length = 64) (m : Nat) (hm : m = Nat.min r.length (64 - i)) (hi : i + m ≤ 64)
    (h : ∀ w', HRow w' b ws (put bg r i m) n → Keeps b w w' → wpList Tryd.prog ops Q rest (a.put o.dst (.int .i64 m)) w') : wpList Tryd.prog ops Q (o :: rest) a w := by
  refine wpList_copy_str hgd d s ho b (5 + i) (64 - i) dCap r hd hs (hcl ws bg n).toArray 68 hr.cells m hm (by rw [List.size_toArray, hcl_length _ _ _ hb]; omega) ?_
  exact h _ (hr.setRow (hcl_put ws bg r n i m hb hi)) (Keeps.setRow _ _)

/-- How many bytes there were, stored anew. -/
theorem wpList_store_n (hgd : o.guard = none) (hdst : o.dst = none) (x y : Operand) (ho : o.op = .store 3 x y) (b : Nat) (hx : a.eval x = .pointer (some ⟨b, 69, none⟩)) (i : Int) (k : Nat)
    (hy : a.eval y = .int .i64 i) (hi : i = (k : Int)) {ws : S5} {bg : List UInt8} {n : Nat} (hr : HRow w b ws bg n) (hb : bg.length = 64)
    (h : ∀ w', HRow w' b ws bg k → Keeps b w w' → wpList Tryd.prog ops Q rest a w') : wpList Tryd.prog ops Q (o :: rest) a w := by
  subst hi
  have hz := Tryd.sizeOf3
  have hc := hr.num hb
  have hrun : (storeVar 3 ⟨b, 69, none⟩ (.int .i64 (k : Int))).run Tryd.prog w = .ok () (w.setCell ⟨b, 69, none⟩ (.int .i64 (k : Int))) := by
    have hcells : (Value.int .i64 (k : Int)).cells = #[.int .i64 (k : Int)] := rfl
    have hst := run_store_ok Tryd.prog w ⟨b, 69, none⟩ (.int .i64 (k : Int)) .plain rfl (by rw [hc]; rfl) (Row.frozen hr.cells 69)
    simp only [storeVar, hcells, Sem.run_bind, hz, Result.andThen_ok]
    simp [store_one, hst]
  refine wpList_plain hgd fun _ hK => ?_
  unfold Oper.wp execOp
  simp only [ho, hx, hy, Instr.storeAt, Instr.sureAddr, Sem.run_bind, Sem.run_pure, Result.andThen_ok, hrun]
  have e : a.put o.dst undef = a := by rw [hdst]; rfl
  have := hK _ _ (h _ (hr.set hb k) (Keeps.setCell _ _ _))
  rw [← e] at this; exact this

/-- The five words, stored anew. -/
theorem wpList_store_ws (hgd : o.guard = none) (hdst : o.dst = none) (x y : Operand) (ho : o.op = .store 65 x y) (b : Nat) (hx : a.eval x = .pointer (some ⟨b, 0, none⟩)) (ws' : S5)
    (hy : a.eval y = .agg (ucells ws'.l)) {ws : S5} {bg : List UInt8} {n : Nat} (hr : HRow w b ws bg n) (hb : bg.length = 64)
    (h : ∀ w', HRow w' b ws' bg n → Keeps b w w' → wpList Tryd.prog ops Q rest a w') : wpList Tryd.prog ops Q (o :: rest) a w := by
  have i35 : (Tryd.prog.info? 65).map (·.size) = some (ucells ws'.l).size := by kernel_rfl
  refine wpList_store_at hgd 65 x y ho b 0 (ucells ws'.l) (hcl ws bg n).toArray 68 hx hy hr.cells i35 ?_ (fun v hv => ?_) (by rw [hdst]; exact h _ (hr.setRow rfl) (Keeps.setRow _ _))
  · have e : (hcl ws bg n).toArray.size = 70 := by rw [List.size_toArray, hcl_length _ _ _ hb]
    have e2 : (ucells ws'.l).size = 5 := by rw [ucells_size]; rfl
    omega
  · simp only [ucells, List.mem_map] at hv
    obtain ⟨x, _, rfl⟩ := hv; rfl

theorem HRow.store5 {ws : S5} {bg : List UInt8} {n : Nat} {b : Nat} (hr : HRow w b ws bg n) (hb : bg.length = 64) (ws' : S5) :
    (storeCells ⟨b, 0, none⟩ (ucells ws'.l).toList).run Tryd.prog w = .ok () (w.setRow b (hcl ws' bg n).toArray) := by
  have h := run_storeCells_at Tryd.prog b 0 68 (ws'.l.map U) 0 (hcl ws bg n).toArray w hr.cells (by
    rw [List.length_map, List.size_toArray, hcl_length _ _ _ hb]; simp [S5.l]) (fun v hv => by
      obtain ⟨x, _, rfl⟩ := List.mem_map.1 hv; rfl)
  exact h

/-- What a hash's cells hold, one by one. -/
theorem HRow.all {ws : S5} {bg : List UInt8} {n : Nat} {b : Nat} (hr : HRow w b ws bg n) :
    w.rangeAt b 5 (bg.map B) ∧ w.cell? ⟨b, 0, none⟩ = some (U ws.a) ∧ w.cell? ⟨b, 1, none⟩ = some (U ws.b) ∧ w.cell? ⟨b, 2, none⟩ = some (U ws.c) ∧ w.cell? ⟨b, 3, none⟩ = some (U ws.d) ∧
      w.cell? ⟨b, 4, none⟩ = some (U ws.e) ∧ w.frozen? ⟨b, 0, none⟩ = false ∧ w.frozen? ⟨b, 1, none⟩ = false ∧ w.frozen? ⟨b, 2, none⟩ = false ∧ w.frozen? ⟨b, 3, none⟩ = false ∧ w.frozen? ⟨b, 4, none⟩ = false :=
  ⟨hr.range2, hr.range 0 _ rfl, hr.range 1 _ rfl, hr.range 2 _ rfl, hr.range 3 _ rfl, hr.range 4 _ rfl,
    Row.frozen hr.cells 0, Row.frozen hr.cells 1, Row.frozen hr.cells 2, Row.frozen hr.cells 3, Row.frozen hr.cells 4⟩

/-- The five words, loaded, in a region that only reads. -/
theorem wpStill_load_ws {Q : Act → Prop} (hgd : o.guard = none) (x : Operand) (ho : o.op = .load 65 x) (b : Nat) (hx : a.eval x = .pointer (some ⟨b, 0, none⟩))
    {ws : S5} {bg : List UInt8} {n : Nat} (hr : HRow w b ws bg n) (h : wpStill Tryd.prog ops w Q rest (a.put o.dst (.agg (ucells ws.l)))) : wpStill Tryd.prog ops w Q (o :: rest) a :=
  wpStill_load_mid hgd 65 x ho b 0 hx (ws.l.map U) _ hr.range Tryd.underlying65 rfl (by kernel_rfl) h
/-- The begun block, loaded, in a region that only reads. -/
theorem wpStill_load_bg {Q : Act → Prop} (hgd : o.guard = none) (x : Operand) (ho : o.op = .load 66 x) (b : Nat) (hx : a.eval x = .pointer (some ⟨b, 5, none⟩))
    {ws : S5} {bg : List UInt8} {n : Nat} (hr : HRow w b ws bg n) (hb : bg.length = 64) (h : wpStill Tryd.prog ops w Q rest (a.put o.dst (.agg (bcells bg)))) : wpStill Tryd.prog ops w Q (o :: rest) a :=
  wpStill_load_mid hgd 66 x ho b 5 hx (bg.map B) _ hr.range2 Tryd.underlying66 rfl (by rw [List.length_map, hb]; kernel_rfl) h
/-- The five words, loaded. -/
theorem wpList_load_ws (hgd : o.guard = none) (x : Operand) (ho : o.op = .load 65 x) (b : Nat) (hx : a.eval x = .pointer (some ⟨b, 0, none⟩))
    {ws : S5} {bg : List UInt8} {n : Nat} (hr : HRow w b ws bg n) (h : wpList Tryd.prog ops Q rest (a.put o.dst (.agg (ucells ws.l))) w) : wpList Tryd.prog ops Q (o :: rest) a w :=
  wpList_load_mid hgd 65 x ho b 0 hx (ws.l.map U) _ hr.range Tryd.underlying65 rfl (by kernel_rfl) h
/-- The first words, loaded. -/
theorem wpList_load_start (hgd : o.guard = none) (ho : o.op = .load 65 (.global 0)) (hs : Start w)
    (h : wpList Tryd.prog ops Q rest (a.put o.dst (.agg (ucells start5.l))) w) : wpList Tryd.prog ops Q (o :: rest) a w :=
  wpList_load_mid hgd 65 (.global 0) ho 0 0 rfl (start5.l.map U) _ hs Tryd.underlying65 rfl (by kernel_rfl) h
end
end Go.Proofs.YtnaekjmlikhglaaDoor.sa
/- Steps of a region that draws its order, one by one: an operation named by its number and by the slot that it writes. -/
namespace Go.Proofs.YtnaekjmlikhglaaDoor.sa
open Go.RowKit
section
variable {P : Program} {md : Region.Mode} {ops : Array Oper} {Q : Exit → Act → World → Prop} {S : World → Prop} {fuel : Nat} {listed : Array Bool} {a : Act} {w : World} {i : Nat} {d : Option Tmp} {v : Value}

/-- What yields one value wherever S holds is taken first. -/
theorem take_at (hd : (ops[i]?).map (·.dst) = some d) (hs : Region.noSelect ops = true) (hf : Region.free md ops listed i = true) (hr : (Region.ready md ops listed).contains i = true)
    (hQ : ∀ c a w, Q (.panic c) (a.put d v) w → Q (.panic c) a w) (hy : ∀ oi, ops[i]? = some oi → YieldsIf P ops S oi v a) (hS : S w)
    (h : wpAnyH P md ops Q S fuel (listed.setIfInBounds i true) (a.put d v) w) : wpAnyH P md ops Q S (fuel + 1) listed a w := by
  cases hi : ops[i]? with
  | none => simp [hi] at hd
  | some oi =>
    have e : oi.dst = d := by simpa [hi] using hd
    subst e
    exact wpAnyH_take hi hs hf hr hQ (hy oi hi) hS h

/-- The one that may come up next hands back a value. -/
theorem ready_value {w' : World} (hd : (ops[i]?).map (·.dst) = some d) (hr : Region.ready md ops listed = [i])
    (hx : ∀ oi, ops[i]? = some oi → Region.wanted oi (yielded ops a.tmps) = true ∧ (execOp a.eval oi).run P w = .ok (.value v) w') (hS : S w')
    (h : wpAnyH P md ops Q S fuel (listed.setIfInBounds i true) (a.put d v) w') : wpAnyH P md ops Q S (fuel + 1) listed a w := by
  cases hi : ops[i]? with
  | none => simp [hi] at hd
  | some oi =>
    have e : oi.dst = d := by simpa [hi] using hd
    subst e
    refine wpAnyH_ready hr (by simp) (AllReadyH.cons hi (fun K hK => ?_) AllReadyH.nil)
    obtain ⟨hw, hx⟩ := hx oi hi
    rw [if_pos hw]
    unfold Oper.wp
    rw [hx]
    exact hK.out _ _ hS (fun _ => h)

/-- The one that may come up next stores something. -/
theorem ready_skip {w' : World} (hd : (ops[i]?).map (·.dst) = some d) (hr : Region.ready md ops listed = [i])
    (hx : ∀ oi, ops[i]? = some oi → Region.wanted oi (yielded ops a.tmps) = true ∧ (execOp a.eval oi).run P w = .ok .skip w') (hS : S w')
    (h : wpAnyH P md ops Q S fuel (listed.setIfInBounds i true) (a.put d undef) w') : wpAnyH P md ops Q S (fuel + 1) listed a w := by
  cases hi : ops[i]? with
  | none => simp [hi] at hd
  | some oi =>
    have e : oi.dst = d := by simpa [hi] using hd
    subst e
    refine wpAnyH_ready hr (by simp) (AllReadyH.cons hi (fun K hK => ?_) AllReadyH.nil)
    obtain ⟨hw, hx⟩ := hx oi hi
    rw [if_pos hw]
    unfold Oper.wp
    rw [hx]
    exact hK.out _ _ hS (fun _ => h)

/-- The one that may come up next calls a function. -/
theorem ready_call {f : FuncId} {args : Array Value} (hd : (ops[i]?).map (·.dst) = some d) (hr : Region.ready md ops listed = [i])
    (hx : ∀ oi, ops[i]? = some oi → Region.wanted oi (yielded ops a.tmps) = true ∧ (execOp a.eval oi).run P w = .ok (.enter f args) w)
    (hc : Calls P f args w fun e w' => ∃ v, e = .returned v ∧ S w' ∧ wpAnyH P md ops Q S fuel (listed.setIfInBounds i true) (a.put d v) w') : wpAnyH P md ops Q S (fuel + 1) listed a w := by
  cases hi : ops[i]? with
  | none => simp [hi] at hd
  | some oi =>
    have e : oi.dst = d := by simpa [hi] using hd
    subst e
    refine wpAnyH_ready hr (by simp) (AllReadyH.cons hi (fun K hK => ?_) AllReadyH.nil)
    obtain ⟨hw, hx⟩ := hx oi hi
    rw [if_pos hw]
    unfold Oper.wp
    rw [hx]
    refine hc.mono ?_
    rintro e w' ⟨v, rfl, hS, h⟩
    exact hK.out _ _ hS (fun _ => h)

theorem exec_load_mid {o : Oper} (ty : TypeId) (x : Operand) (ho : o.op = .load ty x) (b off : Nat) (hx : a.eval x = .pointer (some ⟨b, off, none⟩)) (cs : List Value) (t : TypeDesc) (hc : w.rangeAt b off cs)
    (hu : P.underlying ty = some t) (hd : t.isRow = true) (hi : (P.info? ty).map (·.size) = some cs.length) : (execOp a.eval o).run P w = .ok (.value (.agg cs.toArray)) w := by
  unfold execOp
  simp only [ho, hx, Instr.loadAt, Instr.sureAddr, Sem.run_bind, Sem.run_pure, Result.andThen_ok, run_loadVar_mid w b off ty cs t hc hu hd hi]
end

theorem exec_store_ws {o : Oper} {a : Act} {w : World} (x y : Operand) (ho : o.op = .store 65 x y) (b : Nat) (hx : a.eval x = .pointer (some ⟨b, 0, none⟩)) (ws' : S5)
    (hy : a.eval y = .agg (ucells ws'.l)) {ws : S5} {bg : List UInt8} {n : Nat} (hr : HRow w b ws bg n) (hb : bg.length = 64) :
    (execOp a.eval o).run Tryd.prog w = .ok .skip (w.setRow b (hcl ws' bg n).toArray) := by
  have i35 : (Tryd.prog.info? 65).map (·.size) = some (ucells ws'.l).size := by kernel_rfl
  have e : (hcl ws bg n).toArray.size = 70 := by rw [List.size_toArray, hcl_length _ _ _ hb]
  have e2 : (ucells ws'.l).size = 5 := by rw [ucells_size]; rfl
  have h1 : ∀ v ∈ (ucells ws'.l).toList, v.oneCell' = true := fun v hv => by
    simp only [ucells, List.mem_map] at hv
    obtain ⟨x, _, rfl⟩ := hv; rfl
  have hrun := run_storeVar_at w b 0 68 65 (ucells ws'.l) (hcl ws bg n).toArray hr.cells i35 (by omega) h1
  unfold execOp
  simp only [ho, hx, hy, Instr.storeAt, Instr.sureAddr, Sem.run_bind, Sem.run_pure, Result.andThen_ok, hrun]
  rfl

/-- A whole variable, stored. -/
theorem wpList_store_var {ops : Array Oper} {rest : List Oper} {o : Oper} {a : Act} {w : World} {Q : Exit → Act → World → Prop} (hgd : o.guard = none) (hdst : o.dst = none) (ty : TypeId) (x y : Operand)
    (ho : o.op = .store ty x y) (g : Nat) (cells : Array Value) (hx : a.eval x = .pointer (some ⟨g, 0, none⟩)) (hy : a.eval y = .agg cells) {t : TypeId} {old : Array Value} (hr : Row w g old t)
    (hi : (Tryd.prog.info? ty).map (·.size) = some cells.size) (hold : old.size = cells.size) (h1 : cells.all (·.oneCell') = true)
    (h : ∀ w', Row w' g cells t → Keeps g w w' → wpList Tryd.prog ops Q rest a w') : wpList Tryd.prog ops Q (o :: rest) a w := by
  refine wpList_store_row hgd ty x y ho g cells hx hy t old hr hi hold h1 ?_
  rw [hdst]
  exact h _ (setRow_heap w g _ _ t _ hr) (Keeps.setRow _ _)
/-- A whole variable, loaded. -/
theorem wpList_load_var {ops : Array Oper} {rest : List Oper} {o : Oper} {a : Act} {w : World} {Q : Exit → Act → World → Prop} (hgd : o.guard = none) (ty : TypeId) (x : Operand)
    (ho : o.op = .load ty x) (g : Nat) (hx : a.eval x = .pointer (some ⟨g, 0, none⟩)) {t : TypeId} {cells : Array Value} (hr : Row w g cells t) (d : TypeDesc)
    (hu : Tryd.prog.underlying ty = some d) (hd : d.isRow = true) (hi : (Tryd.prog.info? ty).map (·.size) = some cells.size)
    (h : wpList Tryd.prog ops Q rest (a.put o.dst (.agg cells)) w) : wpList Tryd.prog ops Q (o :: rest) a w :=
  wpList_load_row hgd ty x ho g hx t cells (0, 0) d hr hu (by cases d <;> first | rfl | cases hd) hi h

theorem Row.keeps {w w' : World} {g b : Nat} {cs : Array Value} {t : TypeId} (h : Row w g cs t) (k : Keeps b w w') (hn : g ≠ b) : Row w' g cs t := by
  unfold Row; rw [k.block g h.lt hn]; exact h
theorem IsHash.lt {w : World} {b : Nat} {t : List UInt8} (h : IsHash b t w) : b < w.heap.size := by
  obtain ⟨_, _, hr, _⟩ := h; exact HRow.lt hr
theorem IsHash.of_block {w w' : World} {b : Nat} {t : List UInt8} (h : IsHash b t w) (e : w'.heap[b]? = w.heap[b]?) : IsHash b t w' := by
  obtain ⟨ws, bg, hr, h2⟩ := h
  refine ⟨ws, bg, ?_, h2⟩
  unfold HRow Row; rw [e]; exact hr
theorem IsHash.below {w w' : World} {b k : Nat} {t : List UInt8} (h : IsHash b t w) (hb : Below k w w') (hk : b < k) : IsHash b t w' := h.of_block (hb.block b hk)
theorem IsHash.keeps {w w' : World} {b g : Nat} {t : List UInt8} (h : IsHash b t w) (k : Keeps g w w') (hn : b ≠ g) : IsHash b t w' := h.of_block (k.block b h.lt hn)
theorem IsHash.alloc {w : World} {b : Nat} {t : List UInt8} (h : IsHash b t w) (o : Obj) : IsHash b t (w.alloc o) := h.of_block (Below.heap_alloc _ _ _ h.lt)
theorem Start.alloc {w : World} (h : Start w) (o : Obj) : Start (w.alloc o) := start_of_block h (Below.heap_alloc _ _ _ h.lt)

end Go.Proofs.YtnaekjmlikhglaaDoor.sa
