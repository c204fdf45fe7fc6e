/- Laws on arrays by value and on a world whose blocks are written out. -/
import Derived.Test.YtihgmgphfdjcfaaDoorW1
import Derived.Deep.WholeRow
import Derived.Deep.MidRow
namespace Go.Proofs.YtihgmgphfdjcfaaDoor
open Go.RowKit

/-- A byte as a value. -/
def B (x : UInt8) : Value := .int .u8 (x.toNat : Int)

theorem U_cells (x : UInt32) : (U x).cells = #[U x] := rfl
theorem B_cells (x : UInt8) : (B x).cells = #[B x] := rfl
theorem U_match (x : UInt32) : (@Value.cells.match_1 (fun _ => Array Value) (U x) (fun cs => cs) (fun v => #[v])) = #[U x] := rfl
theorem B_match (x : UInt8) : (@Value.cells.match_1 (fun _ => Array Value) (B x) (fun cs => cs) (fun v => #[v])) = #[B x] := rfl
theorem run_store_ok (P : Program) (w : World) (a : Addr) (v : Value) (m : Mode) (hv : v.oneCell' = true) (hc : (w.cell? a).isSome = true) (hf : w.frozen? a = false) : (store a v m).run P w = .ok () (w.setCell a v) := by
  obtain ⟨v0, h0⟩ := Option.isSome_iff_exists.1 hc
  rw [run_store P w a v m hv, h0]; simp [hf]
theorem U_store (P : Program) (w : World) (a : Addr) (x : UInt32) (m : Mode) (hc : (w.cell? a).isSome = true) (hf : w.frozen? a = false) : (store a (U x) m).run P w = .ok () (w.setCell a (U x)) :=
  run_store_ok P w a (U x) m rfl hc hf
theorem B_store (P : Program) (w : World) (a : Addr) (x : UInt8) (m : Mode) (hc : (w.cell? a).isSome = true) (hf : w.frozen? a = false) : (store a (B x) m).run P w = .ok () (w.setCell a (B x)) :=
  run_store_ok P w a (B x) m rfl hc hf
theorem store_one (a : Addr) (v : Value) : storeCells a [v] = store a v := by
  have : a.add 0 = a := by unfold Addr.add; rw [if_pos rfl]
  simp [storeCells, this]
theorem U_one (x : UInt32) : (U x).oneCell' = true := rfl
theorem B_one (x : UInt8) : (B x).oneCell' = true := rfl

/-- The word list as cells. -/
def ucells (l : List UInt32) : Array Value := (l.map U).toArray
def bcells (l : List UInt8) : Array Value := (l.map B).toArray
theorem ucells_size (l : List UInt32) : (ucells l).size = l.length := by simp [ucells]
theorem bcells_size (l : List UInt8) : (bcells l).size = l.length := by simp [bcells]
theorem ucells_get (l : List UInt32) (k : Nat) (h : k < l.length) : (ucells l)[k]? = some (U (l[k]?.getD 0)) := by
  simp [ucells, h]
theorem bcells_get (l : List UInt8) (k : Nat) (h : k < l.length) : (bcells l)[k]? = some (B (l[k]?.getD 0)) := by
  simp [bcells, h]
theorem ucells_set (l : List UInt32) (k : Nat) (x : UInt32) : (ucells l).setIfInBounds k (U x) = ucells (l.set k x) := by
  simp [ucells, List.map_set]
theorem bcells_set (l : List UInt8) (k : Nat) (x : UInt8) : (bcells l).setIfInBounds k (B x) = bcells (l.set k x) := by
  simp [bcells, List.map_set]
theorem ucells_one (l : List UInt32) : (ucells l).all (·.oneCell') = true := by
  simp [ucells]; intro x _; rfl
theorem bcells_one (l : List UInt8) : (bcells l).all (·.oneCell') = true := by
  simp [bcells]; intro x _; rfl

theorem run_index_cells {t e : TypeId} {n : Nat} (cs : Array Value) (v : Value) (i : Int) (w : World) (hu : Tryd.prog.underlying t = some (.array n e))
    (hz : ∀ w, (sizeOf e).run Tryd.prog w = .ok 1 w) (ha : ∀ w, (isAgg e).run Tryd.prog w = .ok false w)
    (h0 : 0 ≤ i) (h1 : i < n) (hv : cs[i.toNat]? = some v) : (Instr.index t (.agg cs) (.int .i64 i)).run Tryd.prog w = .ok v w := by
  have hin : 0 ≤ i ∧ i < (n : Int) := ⟨h0, h1⟩
  simp [Instr.index, run_underlying hu, asIntOf, hin, part, hz, ha, hv, go_sem]

theorem wrap_byte (b : UInt8) : IntKind.u32.wrap (b.toNat : Int) = ((b.toUInt32).toNat : Int) := by
  rw [wrap_word]
  have := b.toNat_lt
  have e : b.toUInt32.toNat = b.toNat := by simp
  rw [e]; omega
theorem convB (b : UInt8) (w : World) : (convert 5 34 (B b)).run Tryd.prog w = .ok (U b.toUInt32) w := by
  have h1 := Tryd.underlying5
  have h2 := Tryd.underlying34
  simp [convert, B, U, run_underlying h1, run_underlying h2, wrap_byte, go_sem]

theorem wrap_u8 (n : Int) : IntKind.u8.wrap n = n % 256 := by simp [IntKind.wrap, IntKind.bits, IntKind.signed]
theorem convU (x : UInt32) (w : World) : (convert 34 5 (U x)).run Tryd.prog w = .ok (B x.toUInt8) w := by
  have h1 := Tryd.underlying5
  have h2 := Tryd.underlying34
  have e : IntKind.u8.wrap (x.toNat : Int) = (x.toUInt8.toNat : Int) := by rw [wrap_u8, UInt32.toNat_toUInt8]; omega
  simp [convert, B, U, run_underlying h1, run_underlying h2, e, go_sem]
theorem convN (n : Nat) (w : World) : (convert 43 5 (.int .u64 (n : Int))).run Tryd.prog w = .ok (B (UInt8.ofNat n)) w := by
  have h1 := Tryd.underlying5
  have h2 := Tryd.underlying43
  have e : IntKind.u8.wrap (n : Int) = ((UInt8.ofNat n).toNat : Int) := by rw [wrap_u8, UInt8.toNat_ofNat']; omega
  simp [convert, B, run_underlying h1, run_underlying h2, e, go_sem]

/-- A text as a value. -/
def S (l : List UInt8) : Value := .string ⟨l.toArray⟩
theorem S_add (t : TypeId) (a b : List UInt8) (h : a.length + b.length ≤ 9223372036854775807) : binOp .add t (S a) (S b) = pure (S (a ++ b)) := by
  have e : Op.stringOp .add ⟨a.toArray⟩ ⟨b.toArray⟩ = pure (Value.string (⟨a.toArray⟩ ++ ⟨b.toArray⟩)) := by
    have hs : ((⟨a.toArray⟩ : ByteArray).size + (⟨b.toArray⟩ : ByteArray).size : Nat) = a.length + b.length := by simp [ByteArray.size]
    simp only [Op.stringOp]
    rw [if_neg (by rw [hs]; show ¬ ((a.length + b.length : Nat) : Int) > 9223372036854775807; omega)]
  simp only [S, binOp, e]
  congr 2

/-! Three blocks behind a world. -/
theorem alloc_size (w : World) (o : Obj) : (w.alloc o).heap.size = w.heap.size + 1 := by simp
theorem heap3_0 (w : World) (A B' D : Obj) : (((w.alloc A).alloc B').alloc D).heap[w.heap.size]? = some A := by
  rw [heap_alloc_old _ _ (by rw [alloc_size, alloc_size]; omega), heap_alloc_old _ _ (by rw [alloc_size]; omega), heap_alloc_last]
theorem heap3_1 (w : World) (A B' D : Obj) : (((w.alloc A).alloc B').alloc D).heap[w.heap.size + 1]? = some B' := by
  rw [heap_alloc_old _ _ (by rw [alloc_size, alloc_size]; omega), ← alloc_size w A, heap_alloc_last]
theorem heap3_2 (w : World) (A B' D : Obj) : (((w.alloc A).alloc B').alloc D).heap[w.heap.size + 1 + 1]? = some D := by
  rw [← alloc_size w A, ← alloc_size (w.alloc A) B', heap_alloc_last]

/-- Block g of the world holds these cells, and may be written. -/
def Row (w : World) (g : Nat) (cs : Array Value) (t : TypeId) : Prop := w.heap[g]? = some (.cells cs t (0, 0))
section
variable {w : World} {g : Nat} {cs : Array Value} {t : TypeId}
theorem Row.row (h : Row w g cs t) : w.heap[g]? = some (.cells cs t (0, 0)) := h
theorem Row.word (h : Row w g cs t) (l : List UInt32) (e : cs = ucells l) (k : Nat) (hk : k < l.length) : w.cell? ⟨g, k, none⟩ = some (U (l[k]?.getD 0)) := by
  rw [cell_of_row w g k cs t (0, 0) h, e]; exact ucells_get l k hk
theorem Row.byte (h : Row w g cs t) (l : List UInt8) (e : cs = bcells l) (k : Nat) (hk : k < l.length) : w.cell? ⟨g, k, none⟩ = some (B (l[k]?.getD 0)) := by
  rw [cell_of_row w g k cs t (0, 0) h, e]; exact bcells_get l k hk
theorem Row.frozen (h : Row w g cs t) (k : Nat) : w.frozen? ⟨g, k, none⟩ = false := frozen_of_row w g k cs t h
theorem Row.drew (h : Row w g cs t) : Row w.drew g cs t := h
theorem Row.other (h : Row w g cs t) {a : Addr} {v : Value} (hn : g ≠ a.block) : Row (w.setCell a v) g cs t := by
  unfold Row; rw [heap_setCell_other w a g v hn]; exact h
theorem Row.set (h : Row w g cs t) (i : Nat) (v : Value) : Row (w.setCell ⟨g, i, none⟩ v) g (cs.setIfInBounds i v) t := heap_setCell_same w g i cs t v h
theorem Row.set_word {l : List UInt32} (h : Row w g (ucells l) t) (i : Nat) (x : UInt32) {l' : List UInt32} (e : l' = l.set i x) : Row (w.setCell ⟨g, i, none⟩ (U x)) g (ucells l') t := by
  rw [e, ← ucells_set]; exact h.set i _
theorem Row.set_byte {l : List UInt8} (h : Row w g (bcells l) t) (i : Nat) (x : UInt8) {l' : List UInt8} (e : l' = l.set i x) : Row (w.setCell ⟨g, i, none⟩ (B x)) g (bcells l') t := by
  rw [e, ← bcells_set]; exact h.set i _
theorem Row.lt (h : Row w g cs t) : g < w.heap.size := (Array.getElem?_eq_some_iff.1 h).1
theorem Row.alloc (h : Row w g cs t) (o : Obj) : Row (w.alloc o) g cs t := by
  unfold Row; rw [Below.heap_alloc _ _ _ h.lt]; exact h
theorem Row.below {w' : World} {b : Nat} (h : Row w g cs t) (hb : Below b w w') (hg : g < b) : Row w' g cs t := by
  unfold Row; rw [hb.block g hg]; exact h
end
theorem row_new (w : World) (cs : Array Value) (t : TypeId) : Row (w.alloc (.cells cs t)) w.heap.size cs t := heap_alloc_last w _
theorem _root_.Go.RowKit.Below.setRow {b : Nat} {a w : World} (h : Below b a w) {g : Nat} (hg : b ≤ g) (cs : Array Value) : Below b a (w.setRow g cs) :=
  h.trans ⟨rfl, rfl, rfl, by simp, fun k hk => setRow_other w g k cs (by omega)⟩

end Go.Proofs.YtihgmgphfdjcfaaDoor
