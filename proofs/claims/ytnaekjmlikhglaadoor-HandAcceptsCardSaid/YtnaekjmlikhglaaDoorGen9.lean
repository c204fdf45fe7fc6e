/- Texts of this proof, one behind the other. -/
import Derived.WalkKit
import Derived.WalkSpells
import Derived.WalkLawsBesides
import Derived.Lib.Hide
import Derived.Lib.ConvBytes
import Derived.Lib.AppendStr
import Derived.Lib.OthersKept
import Derived.Laws.AppendOwn
import Derived.Laws.MakeOwn
import Derived.Outline
import Derived.Deep.WholeRow
import Derived.Deep.MidRow
import Derived.Deep.RegionHeld3
import Derived.Laws.CopyRow
import Derived.Still
import Derived.RangeFuncNested
import Derived.RangeFuncBound
import Derived.RangeFuncCalls
import Derived.RangeFuncLeaves
import Derived.OwnWalkIn
import Derived.TacticsInMore
import Derived.LoopNIn
import Derived.LoopIn
import Derived.OrdersIn
import Derived.Deep.AppendSrc
import Derived.Deep.Upon
import Derived.Room.AppendOwn
import Derived.Laws.IdiomCopy
import Derived.Lib.SliceRun
import Derived.ProofKit
import Derived.Handed
import Derived.OpenShut
import Derived.SliceStrings
import Derived.Deep.Fields
/- Laws for walks, over any program: bytes and texts as opaque values; a slice of one's own, one element appended; blocks that were made since; steps of a region that draws its order; a slice that came in. -/
namespace Go.Proofs.YtnaekjmlikhglaaDoor
open Go.RowKit
variable {P : Program}

/-- A byte as a value. -/
def B (x : UInt8) : Value := .int .u8 (x.toNat : Int)
theorem B_cells (x : UInt8) : (B x).cells = #[B x] := rfl
theorem B_match (x : UInt8) : (@Value.cells.match_1 (fun _ => Array Value) (B x) (fun cs => cs) (fun v => #[v])) = #[B x] := rfl
theorem run_store_ok (P : Program) (w : World) (a : Addr) (v : Value) (m : Mode) (hv : v.oneCell' = true) (hc : (w.cell? a).isSome = true) (hf : w.frozen? a = false) : (store a v m).run P w = .ok () (w.setCell a v) := by
  obtain ⟨v0, h0⟩ := Option.isSome_iff_exists.1 hc
  rw [run_store P w a v m hv, h0]; simp [hf]
theorem B_store (P : Program) (w : World) (a : Addr) (x : UInt8) (m : Mode) (hc : (w.cell? a).isSome = true) (hf : w.frozen? a = false) : (store a (B x) m).run P w = .ok () (w.setCell a (B x)) :=
  run_store_ok P w a (B x) m rfl hc hf
theorem store_one (a : Addr) (v : Value) : storeCells a [v] = store a v := by
  have : a.add 0 = a := by unfold Addr.add; rw [if_pos rfl]
  simp [storeCells, this]
theorem B_one (x : UInt8) : (B x).oneCell' = true := rfl
/-- A list of bytes as cells. -/
def bcells (l : List UInt8) : Array Value := (l.map B).toArray
theorem bcells_size (l : List UInt8) : (bcells l).size = l.length := by simp [bcells]
theorem bcells_get (l : List UInt8) (k : Nat) (h : k < l.length) : (bcells l)[k]? = some (B (l[k]?.getD 0)) := by
  simp [bcells, h]
theorem bcells_set (l : List UInt8) (k : Nat) (x : UInt8) : (bcells l).setIfInBounds k (B x) = bcells (l.set k x) := by
  simp [bcells, List.map_set]
theorem bcells_one (l : List UInt8) : (bcells l).all (·.oneCell') = true := by
  simp [bcells]; intro x _; rfl

/-- A text as a value. -/
def S (l : List UInt8) : Value := .string ⟨l.toArray⟩
theorem S_add (t : TypeId) (a b : List UInt8) (h : a.length + b.length ≤ 9223372036854775807) : binOp .add t (S a) (S b) = pure (S (a ++ b)) := by
  have e : Op.stringOp .add ⟨a.toArray⟩ ⟨b.toArray⟩ = pure (Value.string (⟨a.toArray⟩ ++ ⟨b.toArray⟩)) := by
    have hs : ((⟨a.toArray⟩ : ByteArray).size + (⟨b.toArray⟩ : ByteArray).size : Nat) = a.length + b.length := by simp [ByteArray.size]
    simp only [Op.stringOp]
    rw [if_neg (by rw [hs]; show ¬ ((a.length + b.length : Nat) : Int) > 9223372036854775807; omega)]
  simp only [S, binOp, e]
  congr 2

theorem alloc_size (w : World) (o : Obj) : (w.alloc o).heap.size = w.heap.size + 1 := by simp
/-- Block g of the world holds these cells, and may be written. -/
def Row (w : World) (g : Nat) (cs : Array Value) (t : TypeId) : Prop := w.heap[g]? = some (.cells cs t (0, 0))
section
variable {w : World} {g : Nat} {cs : Array Value} {t : TypeId}
theorem Row.row (h : Row w g cs t) : w.heap[g]? = some (.cells cs t (0, 0)) := h
theorem Row.byte (h : Row w g cs t) (l : List UInt8) (e : cs = bcells l) (k : Nat) (hk : k < l.length) : w.cell? ⟨g, k, none⟩ = some (B (l[k]?.getD 0)) := by
  rw [cell_of_row w g k cs t (0, 0) h, e]; exact bcells_get l k hk
theorem Row.frozen (h : Row w g cs t) (k : Nat) : w.frozen? ⟨g, k, none⟩ = false := frozen_of_row w g k cs t h
theorem Row.drew (h : Row w g cs t) : Row w.drew g cs t := h
theorem Row.other (h : Row w g cs t) {a : Addr} {v : Value} (hn : g ≠ a.block) : Row (w.setCell a v) g cs t := by
  unfold Row; rw [heap_setCell_other w a g v hn]; exact h
theorem Row.set (h : Row w g cs t) (i : Nat) (v : Value) : Row (w.setCell ⟨g, i, none⟩ v) g (cs.setIfInBounds i v) t := heap_setCell_same w g i cs t v h
theorem Row.set_byte {l : List UInt8} (h : Row w g (bcells l) t) (i : Nat) (x : UInt8) {l' : List UInt8} (e : l' = l.set i x) : Row (w.setCell ⟨g, i, none⟩ (B x)) g (bcells l') t := by
  rw [e, ← bcells_set]; exact h.set i _
theorem Row.lt (h : Row w g cs t) : g < w.heap.size := (Array.getElem?_eq_some_iff.1 h).1
theorem Row.alloc (h : Row w g cs t) (o : Obj) : Row (w.alloc o) g cs t := by
  unfold Row; rw [Below.heap_alloc _ _ _ h.lt]; exact h
theorem Row.below {w' : World} {b : Nat} (h : Row w g cs t) (hb : Below b w w') (hg : g < b) : Row w' g cs t := by
  unfold Row; rw [hb.block g hg]; exact h
end
theorem row_new (w : World) (cs : Array Value) (t : TypeId) : Row (w.alloc (.cells cs t)) w.heap.size cs t := heap_alloc_last w _
theorem _root_.Go.RowKit.Below.setRow {b : Nat} {a w : World} (h : Below b a w) {g : Nat} (hg : b ≤ g) (cs : Array Value) : Below b a (w.setRow g cs) :=
  h.trans ⟨rfl, rfl, rfl, by simp, fun k hk => setRow_other w g k cs (by omega)⟩


/-- A type of one cell. -/
def Elem (P : Program) (e : TypeId) : Prop := ∃ i z, P.info? e = some i ∧ i.zero = some z ∧ i.size = 1 ∧ i.bytes ≤ 64 ∧ z.cells.size = 1
theorem elem_of {e : TypeId} {z : Value} {n : Nat} (h : (P.info? e).map (fun i => (i.zero, i.size, i.bytes)) = some (some z, 1, n)) (hn : n ≤ 64) (hz : z.cells.size = 1) : Elem P e := by
  cases hi : P.info? e with
  | none => simp [hi] at h
  | some i =>
    simp only [hi, Option.map_some, Option.some.injEq, Prod.mk.injEq] at h
    exact ⟨i, z, hi, h.1, h.2.1, by omega, hz⟩

section
variable {ops : Array Oper} {rest : List Oper} {o : Oper} {a : Act} {w : World} {Q : Exit → Act → World → Prop} {ts : TypeId}
theorem wpList_exec (hgd : o.guard = none) (v : Value) (w' : World) (hrun : (execOp a.eval o).run P w = .ok (.value v) w')
    (h : wpList P ops Q rest (a.put o.dst v) w') : wpList P ops Q (o :: rest) a w :=
  wpList_plain hgd fun _ hK => by
    unfold Oper.wp
    rw [hrun]
    exact hK _ _ h

theorem S_size (r : List UInt8) : (⟨r.toArray⟩ : ByteArray).size = r.length := by simp [ByteArray.size]

theorem run_len_S (hu : P.underlying ts = some .string) (t : TypeId) (r : List UInt8) (w : World) : (Builtin.len_ #[ts] t #[S r]).run P w = .ok (.int .i64 r.length) w := by
  simp [Builtin.len_, S, run_underlying hu, S_size, Result.andThen, goInt]
theorem run_slice_S (hu : P.underlying ts = some .string) (r : List UInt8) (m : Nat) (hm : m ≤ r.length) (w : World) : (Instr.sliceAt ts (S r) (some (.int .i64 m)) none none).run P w = .ok (S (r.drop m)) w := by
  rw [run_sliceAt_string w ts _ _ _ _ hu]
  have e : (⟨r.toArray⟩ : ByteArray).extract m r.length = ⟨(r.drop m).toArray⟩ := by
    apply ByteArray.ext
    rw [ByteArray.data_extract]; simp [List.take_of_length_le]
  simp [Instr.slice, S, run_underlying hu, Instr.sliceBounds, run_sliceBound, S_size, Result.andThen, hm, e]
theorem wpList_len_str (hu : P.underlying ts = some .string) (hgd : o.guard = none) (x : Operand) (ho : o.op = .call { callee := .builtin .len, args := #[x], argTypes := #[ts] }) (r : List UInt8) (hx : a.eval x = S r)
    (h : wpList P ops Q rest (a.put o.dst (.int .i64 r.length)) w) : wpList P ops Q (o :: rest) a w := by
  refine wpList_exec hgd _ w ?_ h
  simp [execOp, ho, resolve, invoke, builtin, hx, run_len_S hu, Result.andThen]

theorem wpList_drop_str (hu : P.underlying ts = some .string) (hgd : o.guard = none) (x y : Operand) (ho : o.op = .slice ts x (some y) none none) (r : List UInt8) (hx : a.eval x = S r) (m : Nat) (hy : a.eval y = .int .i64 m) (hm : m ≤ r.length)
    (h : wpList P ops Q rest (a.put o.dst (S (r.drop m))) w) : wpList P ops Q (o :: rest) a w := by
  refine wpList_exec hgd _ w ?_ h
  simp [execOp, ho, hx, hy, run_slice_S hu r m hm, Result.andThen]

/-- How long a text is, as a measure. -/
def slen : Value → Nat
  | .string s => s.size
  | _ => 0
theorem slen_S (r : List UInt8) : slen (S r) = r.length := S_size r

theorem run_take_S (hu : P.underlying ts = some .string) (r : List UInt8) (m : Nat) (hm : m ≤ r.length) (w : World) : (Instr.sliceAt ts (S r) none (some (.int .i64 m)) none).run P w = .ok (S (r.take m)) w := by
  rw [run_sliceAt_string w ts _ _ _ _ hu]
  have e : (⟨r.toArray⟩ : ByteArray).extract 0 m = ⟨(r.take m).toArray⟩ := by
    apply ByteArray.ext
    rw [ByteArray.data_extract]; simp
  simp [Instr.slice, S, run_underlying hu, Instr.sliceBounds, run_sliceBound, S_size, Result.andThen, hm, e]
theorem wpList_take_str (hu : P.underlying ts = some .string) (hgd : o.guard = none) (x y : Operand) (ho : o.op = .slice ts x none (some y) none) (r : List UInt8) (hx : a.eval x = S r) (k : Int) (m : Nat) (hy : a.eval y = .int .i64 k) (hk : k = (m : Int)) (hm : m ≤ r.length)
    (h : wpList P ops Q rest (a.put o.dst (S (r.take m))) w) : wpList P ops Q (o :: rest) a w := by
  refine wpList_exec hgd _ w ?_ h
  subst hk
  simp [execOp, ho, hx, hy, run_take_S hu r m hm, Result.andThen]
theorem wpList_drop_str' (hu : P.underlying ts = some .string) (hgd : o.guard = none) (x y : Operand) (ho : o.op = .slice ts x (some y) none none) (r : List UInt8) (hx : a.eval x = S r) (k : Int) (m : Nat) (hy : a.eval y = .int .i64 k) (hk : k = (m : Int)) (hm : m ≤ r.length)
    (h : wpList P ops Q rest (a.put o.dst (S (r.drop m))) w) : wpList P ops Q (o :: rest) a w := by
  subst hk
  exact wpList_drop_str hu hgd x y ho r hx m hy hm h
theorem wpList_len_slice (hgd : o.guard = none) (x : Operand) (t : TypeId) (ho : o.op = .call { callee := .builtin .len, args := #[x], argTypes := #[t] }) (V : Value) (hx : a.eval x = V) (n : Int)
    (hV : ∀ w', (Builtin.len_ #[t] o.type #[V]).run P w' = .ok (.int .i64 n) w')
    (h : wpList P ops Q rest (a.put o.dst (.int .i64 n)) w) : wpList P ops Q (o :: rest) a w := by
  refine wpList_exec hgd _ w ?_ h
  simp [execOp, ho, resolve, invoke, builtin, hx, hV, Result.andThen]
theorem wpList_index_slice (hgd : o.guard = none) (t : TypeId) (x y : Operand) (ho : o.op = .indexAddr t x y) (V I : Value) (hx : a.eval x = V) (hy : a.eval y = I) (ad : Addr)
    (hV : ∀ w', (Instr.indexAt t V I).run P w' = .ok (.pointer (some ad)) w')
    (h : wpList P ops Q rest (a.put o.dst (.pointer (some ad))) w) : wpList P ops Q (o :: rest) a w := by
  refine wpList_exec hgd _ w ?_ h
  simp [execOp, ho, hx, hy, hV, Result.andThen]
end
section
variable {ts : TypeId}
/-! A text's parts, where the operation is 'slice' itself. -/
theorem slice_mid (hu : P.underlying ts = some .string) (r : List UInt8) (m n : Nat) (hmn : m ≤ n) (hn : n ≤ r.length) (w : World) : (Instr.slice ts (S r) (some (.int .i64 m)) (some (.int .i64 n)) none).run P w = .ok (S ((r.drop m).take (n - m))) w := by
  have e : (⟨r.toArray⟩ : ByteArray).extract m n = ⟨((r.drop m).take (n - m)).toArray⟩ := by
    apply ByteArray.ext
    rw [ByteArray.data_extract]; simp
  simp [Instr.slice, S, run_underlying hu, Instr.sliceBounds, run_sliceBound, S_size, Result.andThen, hn, hmn, e]
theorem slice_take (hu : P.underlying ts = some .string) (r : List UInt8) (m : Nat) (hm : m ≤ r.length) (w : World) : (Instr.slice ts (S r) none (some (.int .i64 (m : Int))) none).run P w = .ok (S (r.take m)) w := by
  have h := run_take_S hu r m hm w
  rw [run_sliceAt_string w ts _ _ _ _ hu] at h
  exact h
theorem slice_drop (hu : P.underlying ts = some .string) (r : List UInt8) (m : Nat) (hm : m ≤ r.length) (w : World) : (Instr.slice ts (S r) (some (.int .i64 (m : Int))) none none).run P w = .ok (S (r.drop m)) w := by
  have h := run_slice_S hu r m hm w
  rw [run_sliceAt_string w ts _ _ _ _ hu] at h
  exact h
theorem index_text (hu : P.underlying ts = some .string) (s : ByteArray) (l : List UInt8) (hl : s.data.toList = l) (n : Nat) (x : UInt8) (hx : l[n]? = some x) (w : World) : (Instr.index ts (.string s) (.int .i64 (n : Int))).run P w = .ok (B x) w := by
  subst hl
  obtain ⟨hlt, rfl⟩ := List.getElem?_eq_some_iff.1 hx
  have hs : n < s.size := by
    have := hlt
    rw [Array.length_toList] at this
    exact this
  rw [run_index_string (w := w) ts s .i64 n hu, dif_pos ⟨Int.natCast_nonneg _, by omega⟩]
  simp [B]
  rfl
theorem index_S (hu : P.underlying ts = some .string) (l : List UInt8) (n : Nat) (x : UInt8) (hx : l[n]? = some x) (w : World) : (Instr.index ts (S l) (.int .i64 (n : Int))).run P w = .ok (B x) w := index_text hu ⟨l.toArray⟩ l rfl n x hx w

/-! Texts and bytes held against each other. -/
/-- Texts are held against each other. -/
theorem eql_S (t : TypeId) (a b : List UInt8) : binOp .eql t (S a) (S b) = pure (.bool (a == b)) := by
  have e : ((⟨a.toArray⟩ : ByteArray).toList == (⟨b.toArray⟩ : ByteArray).toList) = (a == b) := by
    simp
  simp only [S, binOp, Op.stringOp]
  rw [e]

theorem guard_S (t : TypeId) (x y : Operand) (a b : List UInt8) : eqGuard .eql t x y (S a) (S b) = pure () := rfl

theorem neql_S (t : TypeId) (a b : List UInt8) : binOp .neq t (S a) (S b) = pure (.bool (a != b)) := by
  have e : ((⟨a.toArray⟩ : ByteArray).toList == (⟨b.toArray⟩ : ByteArray).toList) = (a == b) := by
    simp
  simp only [S, binOp, Op.stringOp]
  rw [e]
  rfl
theorem nguard_S (t : TypeId) (x y : Operand) (a b : List UInt8) : eqGuard .neq t x y (S a) (S b) = pure () := rfl
theorem B_eql (t : TypeId) (x y : UInt8) : binOp .eql t (B x) (B y) = pure (.bool (x == y)) := by
  have e : ((x.toNat : Int) == (y.toNat : Int)) = (x == y) := by
    rw [Bool.eq_iff_iff, beq_iff_eq, beq_iff_eq]
    exact ⟨fun h => UInt8.toNat_inj.1 (by omega), fun h => by rw [h]⟩
  simp [B, binOp, Op.intCmp]
  exact congrArg (fun b => (pure (Value.bool b) : Sem Value)) e
theorem eguard_B (t : TypeId) (a b : Operand) (x y : UInt8) : eqGuard .eql t a b (B x) (B y) = pure () := rfl
theorem B_neq (t : TypeId) (x y : UInt8) (h : x ≠ y) : binOp .neq t (B x) (B y) = pure (.bool true) := by
  have e : (x.toNat : Int) ≠ (y.toNat : Int) := fun e => h (UInt8.toNat_inj.1 (by omega))
  simp [B, binOp, Op.intCmp]
  exact congrArg (fun b => (pure (Value.bool b) : Sem Value)) (bne_iff_ne.2 e)
theorem nguard_B (t : TypeId) (a b : Operand) (x y : UInt8) : eqGuard .neq t a b (B x) (B y) = pure () := rfl
theorem below_drewN (w : World) (n : Nat) : Below w.heap.size w (w.drewN n) := ⟨rfl, rfl, rfl, Nat.le_refl _, fun _ _ => rfl⟩
theorem mem_text (s : ByteArray) (n : Nat) (h : n < s.size) : s[n] ∈ s.data.toList := Array.getElem_mem_toList (xs := s.data) h
theorem get_text (s : ByteArray) (n : Nat) (h : n < s.size) : s.data.toList[n]? = some s[n] := by
  rw [Array.getElem?_toList]
  exact Array.getElem?_eq_getElem h

end
/-- The slice v holds just these values, in a block made behind 'base', and its room may be written. -/
def Own (base : Nat) (v : Value) (xs : List Value) (w : World) : Prop :=
  (v = .slice none 0 0 ∧ xs = []) ∨
    ∃ g cap, v = .slice (some ⟨g, 0, none⟩) xs.length cap ∧ base ≤ g ∧ g < w.heap.size ∧ xs.length ≤ cap ∧ cap ≤ maxLen ∧ w.rangeAt g 0 xs ∧ w.there g 0 cap

section
variable {w w' : World} {base g n cap : Nat} {v y : Value} {xs : List Value} {e : TypeId}
theorem Own.of_block (h : Own base v xs w) (hs : w.heap.size ≤ w'.heap.size) (hb : ∀ k, v.ownBlock = some k → w'.heap[k]? = w.heap[k]?) : Own base v xs w' := by
  rcases h with h | ⟨g, cap, rfl, h1, h2, h3, h4, h5, h6⟩
  · exact .inl h
  · have e := hb g rfl
    refine .inr ⟨g, cap, rfl, h1, by omega, h3, h4, fun j u hu => ?_, fun j hj => ?_⟩
    · rw [World.cell?_of_block (w := w) e]; exact h5 j u hu
    · rw [World.cell?_of_block (w := w) e, World.frozen?_of_block (w := w) e]; exact h6 j hj
theorem Own.lt (h : Own base v xs w) : ∀ k, v.ownBlock = some k → base ≤ k ∧ k < w.heap.size := by
  intro k hk
  rcases h with ⟨rfl, _⟩ | ⟨g, cap, rfl, h1, h2, _⟩
  · cases hk
  · cases hk; exact ⟨h1, h2⟩
theorem Own.alloc (h : Own base v xs w) (o : Obj) : Own base v xs (w.alloc o) :=
  h.of_block (by simp) (fun k hk => heap_alloc_old w o (h.lt k hk).2)
theorem Own.drew (h : Own base v xs w) : Own base v xs w.drew := h
theorem Own.grown (h : Own base v xs w) {row : Option Nat} (hg : w.grownBy w' row) (hne : ∀ k, v.ownBlock = some k → some k ≠ row) : Own base v xs w' :=
  h.of_block hg.size (fun k hk => hg.block k (h.lt k hk).2 (hne k hk))
theorem Own.below {b : Nat} (h : Own base v xs w) (hb : Below b w w') (hlt : ∀ k, v.ownBlock = some k → k < b) : Own base v xs w' :=
  h.of_block hb.size (fun k hk => hb.block k (hlt k hk))
theorem Own.form (h : Own base v xs w) (hx : xs ≠ []) : ∃ g cap, v = .slice (some ⟨g, 0, none⟩) xs.length cap ∧ base ≤ g ∧ g < w.heap.size ∧ w.rangeAt g 0 xs := by
  rcases h with ⟨_, h⟩ | ⟨g, cap, rfl, h1, h2, _, _, h5, _⟩
  · exact absurd h hx
  · exact ⟨g, cap, rfl, h1, h2, h5⟩
theorem Own.shape (h : Own base v xs w) {n : Nat} (hn : xs.length = n) (h0 : 0 < n) : ∃ g cap, v = .slice (some ⟨g, 0, none⟩) n cap ∧ base ≤ g ∧ g < w.heap.size ∧ w.rangeAt g 0 xs := by
  subst hn
  exact h.form (fun e => by rw [e] at h0; exact absurd h0 (Nat.lt_irrefl 0))
/-- How long a slice is, as a measure. -/
def vlen : Value → Nat
  | .slice _ n _ => n
  | _ => 0
theorem Own.vlen (h : Own base v xs w) : vlen v = xs.length := by
  rcases h with ⟨rfl, rfl⟩ | ⟨g, cap, rfl, _⟩ <;> rfl
theorem row_grown {cs : Array Value} {t : TypeId} (h : Row w g cs t) {row : Option Nat} (hg : w.grownBy w' row) (hne : some g ≠ row) : Row w' g cs t := by
  unfold Row; rw [hg.block g h.lt hne]; exact h
theorem row_kept {b : Nat} {cs : Array Value} {t : TypeId} (h : Row w g cs t) (ho : Own b v xs w) (hg : w.grownBy w' v.ownBlock) (hlt : g < b) : Row w' g cs t :=
  row_grown h hg (fun e => by have := (ho.lt g e.symm).1; omega)
theorem below_own {b b' : Nat} {w0 : World} (h : Below b w0 w) (ho : Own b' v xs w) (hg : w.grownBy w' v.ownBlock) (hle : b ≤ b') (hb : b ≤ w.heap.size) : Below b w0 w' :=
  h.trans ⟨hg.os, hg.tape, hg.output, hg.size, fun k hk => hg.block k (by omega) (fun e => by have := (ho.lt k e.symm).1; omega)⟩
theorem below_grown {b : Nat} {w0 : World} (h : Below b w0 w) {row : Option Nat} (hg : w.grownBy w' row) (hr : ∀ k, row = some k → b ≤ k) (hb : b ≤ w.heap.size) : Below b w0 w' :=
  h.trans ⟨hg.os, hg.tape, hg.output, hg.size, fun k hk => hg.block k (by omega) (fun e => by have := hr k e.symm; omega)⟩

theorem own_new (w : World) (xs : List Value) (Z : Array Value) (cap : Nat) (hc : xs.length ≤ cap) (hm : cap ≤ maxLen) (hz : Z.size = cap - xs.length) (hb : base ≤ w.heap.size) :
    Own base (.slice (some ⟨w.heap.size, 0, none⟩) xs.length cap) xs (w.drew.alloc (.cells (xs.toArray ++ Z) e)) := by
  have hr : Row (w.drew.alloc (.cells (xs.toArray ++ Z) e)) w.heap.size (xs.toArray ++ Z) e := row_new w.drew _ _
  refine .inr ⟨w.heap.size, cap, rfl, hb, hr.lt, hc, hm, fun j u hu => ?_, fun j hj => ?_⟩
  · rw [Nat.zero_add, cell_of_row _ _ j _ _ _ hr]
    have hl : j < xs.length := (List.getElem?_eq_some_iff.1 hu).1
    rw [Array.getElem?_append_left (by simpa using hl)]
    simpa using hu
  · rw [Nat.zero_add]
    refine ⟨?_, hr.frozen j⟩
    rw [cell_of_row _ _ j _ _ _ hr]
    have : j < (xs.toArray ++ Z).size := by rw [Array.size_append, hz, List.size_toArray]; omega
    rw [Array.getElem?_eq_getElem this]; rfl

theorem run_push (w : World) (base : Nat) (t ty e : TypeId) (i : TypeInfo) (z : Value) (ht : P.underlying t = some (.slice e)) (hi : P.info? e = some i) (hz : i.zero = some z) (hs : i.size = 1) (hby : i.bytes ≤ 64) (hzs : z.cells.size = 1)
    (v : Value) (xs : List Value) (hown : Own base v xs w) (ad : Addr) (y : Value) (hy : w.cell? ad = some y) (h1 : y.oneCell' = true) (hlen : xs.length < 1000000000000) (hbase : base ≤ w.heap.size) :
    ∃ v' w', (Builtin.append_ #[t, t] ty #[v, .slice (some ad) 1 1]).run P w = .ok v' w' ∧ Own base v' (xs ++ [y]) w' ∧ w.grownBy w' v.ownBlock ∧ (v'.ownBlock = v.ownBlock ∨ v'.ownBlock = some w.heap.size) := by
  have hl : ([y] : List Value).length = 1 * i.size := by rw [hs]; rfl
  have hnews : ∀ j u, ([y] : List Value)[j]? = some u → w.cell? (ad.add j) = some u := by
    intro j u hu
    cases j with
    | zero => simp only [List.getElem?_cons_zero, Option.some.injEq] at hu; subst hu; rw [show ad.add 0 = ad from by unfold Addr.add; rw [if_pos rfl]]; exact hy
    | succ j => simp at hu
  have hlen' : (xs ++ [y]).length = xs.length + 1 := by simp
  have hmul : ∀ k, k * i.bytes ≤ k * 64 := fun k => Nat.mul_le_mul_left k hby
  rcases hown with ⟨rfl, rfl⟩ | ⟨g, cap, rfl, hbg, hgl, hnc, hcm, hcells, hthere⟩
  · have hr := run_append_nil (P := P) w t ty e i z ht hi hz ad 1 1 [y] hl hnews (by omega) (by omega) (by have := hmul 1; omega)
    refine ⟨_, _, hr, ?_, ⟨rfl, rfl, rfl, by simp, fun k hk _ => heap_alloc_old w.drew _ hk⟩, .inr rfl⟩
    exact own_new w [y] _ _ (grownCap_ge w 1 0 e) (grownCap_le_maxLen w 1 0 e (by simp [maxLen])) (by rw [size_zeroCells, hzs, Nat.mul_one]; rfl) hbase
  · by_cases hroom : xs.length + 1 ≤ cap
    · obtain ⟨hc, hf⟩ := hthere xs.length (by omega)
      rw [Nat.zero_add] at hc hf
      have hfc := run_firstCells_some (P := P) w i.size 1 ad 1 1 [y] hl hnews
      have hst : (storeCells ⟨g, xs.length, none⟩ [y]).run P w = .ok () (w.setCell ⟨g, xs.length, none⟩ y) := by
        rw [store_one]; exact run_store_ok P w _ y _ h1 hc hf
      refine ⟨.slice (some ⟨g, 0, none⟩) (xs.length + 1) cap, w.setCell ⟨g, xs.length, none⟩ y, ?_, ?_, ?_, ?_⟩
      · rw [hs] at hfc
        simp [Builtin.append_, run_underlying ht, sizeOf, typeInfo, hi, Builtin.lenOf, hroom, hfc, hs, Addr.add_lit, hst]
      · refine .inr ⟨g, cap, by rw [hlen'], hbg, by simpa [World.setCell] using hgl, by omega, hcm, fun j u hu => ?_, fun j hj => ?_⟩
        · rw [Nat.zero_add]
          rcases Nat.lt_trichotomy j xs.length with hlt | rfl | hgt
          · rw [World.cell?_setCell_other (h := show (⟨g, xs.length, none⟩ : Addr) ≠ ⟨g, j, none⟩ by intro h; simp only [Addr.mk.injEq] at h; omega)]
            have := hcells j u (by rwa [List.getElem?_append_left hlt] at hu)
            rwa [Nat.zero_add] at this
          · rw [List.getElem?_append_right (Nat.le_refl _), Nat.sub_self] at hu
            simp only [List.getElem?_cons_zero, Option.some.injEq] at hu
            subst hu
            obtain ⟨u0, hu0⟩ := Option.isSome_iff_exists.1 hc
            exact World.cell?_setCell_same _ _ _ hu0
          · rw [List.getElem?_eq_none (by omega)] at hu; cases hu
        · obtain ⟨hc2, hf2⟩ := hthere j hj
          refine ⟨?_, by simpa using hf2⟩
          obtain ⟨u0, hu0⟩ := Option.isSome_iff_exists.1 hc2
          obtain ⟨v', hv'⟩ := cell?_setCell_some (p := ⟨g, xs.length, none⟩) (x := y) hu0
          rw [hv']; rfl
      · exact ⟨rfl, rfl, rfl, by simp [World.setCell], fun k _ hn => Below.heap_setCell _ _ _ _ (fun h => hn (by simp [Value.ownBlock, h]))⟩
      · exact .inl rfl
    · have holds : ∀ j u, xs[j]? = some u → w.cell? ((⟨g, 0, none⟩ : Addr).add j) = some u := fun j u hu => by
        rw [Addr.add_mid]; exact hcells j u hu
      have hr := run_append_grow (P := P) w t ty e i z ht hi hz ⟨g, 0, none⟩ xs.length cap xs (by rw [hs, Nat.mul_one]) holds ad 1 1 [y] hl hnews (by omega) (by omega)
        (growslice_fits (by omega) (by have := hmul (xs.length + 1); omega))
      refine ⟨_, _, hr, ?_, ⟨rfl, rfl, rfl, by simp, fun k hk _ => heap_alloc_old w.drew _ hk⟩, .inr rfl⟩
      have := own_new (base := base) (e := e) w (xs ++ [y]) (Builtin.zeroCells z.cells (grownCap w (xs.length + 1) cap e - (xs.length + 1))) (grownCap w (xs.length + 1) cap e)
        (by rw [hlen']; exact grownCap_ge w _ _ _) (grownCap_le_maxLen w _ _ _ (by simp only [maxLen]; omega)) (by rw [size_zeroCells, hzs, Nat.mul_one, hlen']) hbase
      simpa using this

theorem own_len (h : Own base v xs w) (t e T : TypeId) (ht : P.underlying t = some (.slice e)) (w' : World) : (Builtin.len_ #[t] T #[v]).run P w' = .ok (.int .i64 xs.length) w' := by
  rcases h with ⟨rfl, rfl⟩ | ⟨g, cap, rfl, _⟩ <;> simp [Builtin.len_, run_underlying ht, Result.andThen, goInt]
/-- The cells of a slice of one's own, one by one. -/
theorem own_cells (h : Own base v xs w) {t e : TypeId} (hu : P.underlying t = some (.slice e)) (hz : ∀ w, (sizeOf e).run P w = .ok 1 w) :
    ∃ ad : Nat → Addr, (∀ i, i < xs.length → ∀ w', (Instr.indexAt t v (.int .i64 (i : Int))).run P w' = .ok (.pointer (some (ad i))) w') ∧
      ∀ i, i < xs.length → (ad i).block < w.heap.size ∧ v.ownBlock = some (ad i).block ∧ w.cell? (ad i) = xs[i]? ∧ w.frozen? (ad i) = false := by
  rcases h with ⟨rfl, rfl⟩ | ⟨g, cap, rfl, _, hg, hcap, _, hc, hth⟩
  · exact ⟨fun _ => ⟨0, 0, none⟩, fun i hi => absurd hi (Nat.not_lt_zero _), fun i hi => absurd hi (Nat.not_lt_zero _)⟩
  · refine ⟨fun i => ⟨g, i, none⟩, fun i hi w' => ?_, fun i hi => ⟨hg, rfl, ?_, ?_⟩⟩
    · have h1 : (0 : Int) ≤ (i : Int) ∧ (i : Int) < (xs.length : Int) := by omega
      simp [Instr.indexAt, run_underlying hu, asIntOf, hz, h1, go_sem, Addr.add_lit]
      intro hge; omega
    · have := hc i xs[i] (List.getElem?_eq_getElem hi)
      rw [Nat.zero_add] at this
      rw [this, List.getElem?_eq_getElem hi]
    · have := (hth i (by omega)).2
      rw [Nat.zero_add] at this
      exact this
/-- A slice with something in it doesn't lie where a string's iterator does. -/
theorem own_iter {K : Nat} {s : ByteArray} {p : Nat} (h : Own base v xs w) (hx : xs ≠ []) (hk : w.heap[K]? = some (.stringIter s p)) : v.ownBlock ≠ some K := by
  obtain ⟨g, cap, rfl, _, _, hc⟩ := h.form hx
  intro e
  obtain rfl : g = K := Option.some.inj e
  cases xs with
  | nil => exact hx rfl
  | cons y r =>
    have := hc 0 y rfl
    rw [World.cell?, Nat.zero_add] at this
    simp only [hk] at this
    cases this
end

section
variable {ops : Array Oper} {rest : List Oper} {o : Oper} {a : Act} {w : World} {Q : Exit → Act → World → Prop}
/-- One element, laid in a block of its own and appended. -/
theorem wpList_add (hgd : o.guard = none) (t e : TypeId) (s x : Operand) (ho : o.op = .call { callee := .builtin .append, args := #[s, x], argTypes := #[t, t] }) (ht : P.underlying t = some (.slice e)) (he : Elem P e) (base : Nat) (W : World)
    (v : Value) (hs : a.eval s = v) (xs : List Value) (hown : Own base v xs W) (y : Value) (hy1 : y.oneCell' = true) (cs : Array Value) (hcs : cs = #[y]) (hw : w = W.alloc (.cells cs e)) (hx : a.eval x = .slice (some ⟨W.heap.size, 0, none⟩) 1 1)
    (hlen : xs.length < 1000000000000) (hbase : base ≤ W.heap.size)
    (h : ∀ v' w', Own base v' (xs ++ [y]) w' → W.grownBy w' v.ownBlock → (v'.ownBlock = v.ownBlock ∨ ∃ g, v'.ownBlock = some g ∧ W.heap.size ≤ g) → wpList P ops Q rest (a.put o.dst v') w') : wpList P ops Q (o :: rest) a w := by
  subst hw hcs hs
  obtain ⟨i, z, hi, hz, hs, hby, hzs⟩ := he
  have hy : (W.alloc (.cells #[y] e)).cell? ⟨W.heap.size, 0, none⟩ = some y := by
    have hr := row_new W #[y] e
    rw [cell_of_row _ _ 0 _ _ _ hr]; rfl
  obtain ⟨v', w', hr, h2, h3, h4⟩ := run_push (P := P) _ base t o.type e i z ht hi hz hs hby hzs (a.eval s) xs (hown.alloc _) ⟨W.heap.size, 0, none⟩ y hy hy1 hlen (by rw [alloc_size]; omega)
  refine wpList_exec hgd v' w' ?_ (h v' w' h2 ⟨h3.os, h3.tape, h3.output, Nat.le_trans (by simp) h3.size, fun k hk hn => (h3.block k (by rw [alloc_size]; omega) hn).trans (heap_alloc_old W _ hk)⟩ (h4.imp id fun h => ⟨_, h, by rw [alloc_size]; omega⟩))
  simp only [execOp, ho, resolve, invoke, builtin, Sem.run_bind, Sem.run_pure, Result.andThen_ok, List.map_toArray, List.map_cons, List.map_nil, hx, hr]
/-- A number as a value. -/
def IC (n : Nat) : Value := .int .i64 (n : Int)
/-- One number, laid in a block of its own and appended. -/
theorem wpList_add_num (hgd : o.guard = none) (t e : TypeId) (s x : Operand) (ho : o.op = .call { callee := .builtin .append, args := #[s, x], argTypes := #[t, t] }) (ht : P.underlying t = some (.slice e)) (he : Elem P e) (base : Nat) (W : World)
    (v : Value) (hs : a.eval s = v) (l : List Nat) (hown : Own base v (l.map IC) W) (y : Nat) (cs : Array Value) (hcs : cs = #[IC y]) (hw : w = W.alloc (.cells cs e)) (hx : a.eval x = .slice (some ⟨W.heap.size, 0, none⟩) 1 1)
    (hlen : l.length < 1000000000000) (hbase : base ≤ W.heap.size)
    (h : ∀ v' w', Own base v' ((l ++ [y]).map IC) w' → W.grownBy w' v.ownBlock → (v'.ownBlock = v.ownBlock ∨ ∃ g, v'.ownBlock = some g ∧ W.heap.size ≤ g) → wpList P ops Q rest (a.put o.dst v') w') : wpList P ops Q (o :: rest) a w :=
  wpList_add hgd t e s x ho ht he base W v hs (l.map IC) hown (IC y) rfl cs hcs hw hx (by rw [List.length_map]; exact hlen) hbase fun v' w' h1 h2 h3 => h v' w' (by simpa using h1) h2 h3
/-- One byte, laid in a block of its own and appended. -/
theorem wpList_add_byte (hgd : o.guard = none) (t e : TypeId) (s x : Operand) (ho : o.op = .call { callee := .builtin .append, args := #[s, x], argTypes := #[t, t] }) (ht : P.underlying t = some (.slice e)) (he : Elem P e) (base : Nat) (W : World)
    (v : Value) (hs : a.eval s = v) (l : List UInt8) (hown : Own base v (l.map B) W) (y : UInt8) (cs : Array Value) (hcs : cs = #[B y]) (hw : w = W.alloc (.cells cs e)) (hx : a.eval x = .slice (some ⟨W.heap.size, 0, none⟩) 1 1)
    (hlen : l.length < 1000000000000) (hbase : base ≤ W.heap.size)
    (h : ∀ v' w', Own base v' ((l ++ [y]).map B) w' → W.grownBy w' v.ownBlock → (v'.ownBlock = v.ownBlock ∨ ∃ g, v'.ownBlock = some g ∧ W.heap.size ≤ g) → wpList P ops Q rest (a.put o.dst v') w') : wpList P ops Q (o :: rest) a w :=
  wpList_add hgd t e s x ho ht he base W v hs (l.map B) hown (B y) rfl cs hcs hw hx (by rw [List.length_map]; exact hlen) hbase fun v' w' h1 h2 h3 => h v' w' (by simpa using h1) h2 h3
end
theorem run_push_text {t e ts : TypeId} (ht : P.underlying t = some (.slice e)) (hu : P.underlying ts = some .string) (he : Elem P e) (w : World) (base : Nat) (ty : TypeId) (v : Value) (xs : List Value) (hown : Own base v xs w) (c : UInt8) (hlen : xs.length < 1000000000000) (hbase : base ≤ w.heap.size) :
    ∃ v' w', (Builtin.append_ #[t, ts] ty #[v, .string ⟨#[c]⟩]).run P w = .ok v' w' ∧ Own base v' (xs ++ [B c]) w' ∧ w.grownBy w' v.ownBlock := by
  obtain ⟨i, z, hi, hz, hs, hby, hzs⟩ := he
  have hsz : (⟨#[c]⟩ : ByteArray).size = 1 := rfl
  have hdat : ((⟨#[c]⟩ : ByteArray).data.map fun b => Value.int .u8 b.toNat) = #[B c] := by simp [B]
  have hlen' : (xs ++ [B c]).length = xs.length + 1 := by simp
  have hmul : ∀ k, k * i.bytes ≤ k * 64 := fun k => Nat.mul_le_mul_left k hby
  rcases hown with ⟨rfl, rfl⟩ | ⟨g, cap, rfl, hbg, hgl, hnc, hcm, hcells, hthere⟩
  · have hr := run_append_nil_string (P := P) w t ts ty e i z ht hu hi hz ⟨#[c]⟩ (by rw [hsz]; omega) (by rw [hsz]; omega) (by rw [hsz]; have := hmul 1; omega)
    rw [hsz, hdat] at hr
    refine ⟨_, _, hr, ?_, ⟨rfl, rfl, rfl, by simp, fun k hk _ => heap_alloc_old w.drew _ hk⟩⟩
    exact own_new w [B c] _ _ (grownCap_ge w 1 0 e) (grownCap_le_maxLen w 1 0 e (by simp [maxLen])) (by rw [size_zeroCells, hzs, Nat.mul_one]; rfl) hbase
  · by_cases hroom : xs.length + 1 ≤ cap
    · obtain ⟨hc, hf⟩ := hthere xs.length (by omega)
      rw [Nat.zero_add] at hc hf
      have hfc := Lib.run_firstCells_string (P := P) w i.size ⟨#[c]⟩
      rw [hsz] at hfc
      have hst : (storeCells ⟨g, xs.length, none⟩ [B c]).run P w = .ok () (w.setCell ⟨g, xs.length, none⟩ (B c)) := by
        rw [store_one]; exact run_store_ok P w _ (B c) _ rfl hc hf
      have hsc : Lib.strCells (⟨#[c]⟩ : ByteArray) = [B c] := rfl
      refine ⟨.slice (some ⟨g, 0, none⟩) (xs.length + 1) cap, w.setCell ⟨g, xs.length, none⟩ (B c), ?_, ?_, ?_⟩
      · rw [hs] at hfc
        simp [Builtin.append_, run_underlying ht, run_underlying hu, sizeOf, typeInfo, hi, Builtin.lenOf, hroom, hfc, hs, hsz, hsc, Addr.add_lit, hst]
      · refine .inr ⟨g, cap, by rw [hlen'], hbg, by simpa [World.setCell] using hgl, by omega, hcm, fun j u hu => ?_, fun j hj => ?_⟩
        · rw [Nat.zero_add]
          rcases Nat.lt_trichotomy j xs.length with hlt | rfl | hgt
          · rw [World.cell?_setCell_other (h := show (⟨g, xs.length, none⟩ : Addr) ≠ ⟨g, j, none⟩ by intro h; simp only [Addr.mk.injEq] at h; omega)]
            have := hcells j u (by rwa [List.getElem?_append_left hlt] at hu)
            rwa [Nat.zero_add] at this
          · rw [List.getElem?_append_right (Nat.le_refl _), Nat.sub_self] at hu
            simp only [List.getElem?_cons_zero, Option.some.injEq] at hu
            subst hu
            obtain ⟨u0, hu0⟩ := Option.isSome_iff_exists.1 hc
            exact World.cell?_setCell_same _ _ _ hu0
          · rw [List.getElem?_eq_none (by omega)] at hu; cases hu
        · obtain ⟨hc2, hf2⟩ := hthere j hj
          refine ⟨?_, by simpa using hf2⟩
          obtain ⟨u0, hu0⟩ := Option.isSome_iff_exists.1 hc2
          obtain ⟨v', hv'⟩ := cell?_setCell_some (p := ⟨g, xs.length, none⟩) (x := B c) hu0
          rw [hv']; rfl
      · exact ⟨rfl, rfl, rfl, by simp [World.setCell], fun k _ hn => Below.heap_setCell _ _ _ _ (fun h => hn (by simp [Value.ownBlock, h]))⟩
    · have holds : ∀ j u, xs[j]? = some u → w.cell? ((⟨g, 0, none⟩ : Addr).add j) = some u := fun j u hu => by
        rw [Addr.add_mid]; exact hcells j u hu
      have hr := Lib.run_append_grow_string (P := P) w t ts ty e i z ht hu hi hz ⟨g, 0, none⟩ xs.length cap xs (by rw [hs, Nat.mul_one]) holds ⟨#[c]⟩ (by rw [hsz]; omega) (by rw [hsz]; omega)
        (by rw [hsz]; exact growslice_fits (by omega) (by have := hmul (xs.length + 1); omega))
      rw [hsz] at hr
      refine ⟨_, _, hr, ?_, ⟨rfl, rfl, rfl, by simp, fun k hk _ => heap_alloc_old w.drew _ hk⟩⟩
      have := own_new (base := base) (e := e) w (xs ++ [B c]) (Builtin.zeroCells z.cells (grownCap w (xs.length + 1) cap e - (xs.length + 1))) (grownCap w (xs.length + 1) cap e)
        (by rw [hlen']; exact grownCap_ge w _ _ _) (grownCap_le_maxLen w _ _ _ (by simp only [maxLen]; omega)) (by rw [size_zeroCells, hzs, Nat.mul_one, hlen']) hbase
      simpa [Lib.strCells, B] using this

section
variable {ops : Array Oper} {rest : List Oper} {o : Oper} {a : Act} {w : World} {Q : Exit → Act → World → Prop}
/-- A text of one byte appended. -/
theorem wpList_push_text {t e ts : TypeId} (ht : P.underlying t = some (.slice e)) (hu : P.underlying ts = some .string) (he : Elem P e) (hgd : o.guard = none) (s x : Operand) (ho : o.op = .call { callee := .builtin .append, args := #[s, x], argTypes := #[t, ts] }) (base : Nat)
    (v : Value) (hs : a.eval s = v) (l : List UInt8) (hown : Own base v (l.map B) w) (c : UInt8) (hx : a.eval x = .string ⟨#[c]⟩) (hlen : l.length < 1000000000000) (hbase : base ≤ w.heap.size)
    (h : ∀ v' w', Own base v' ((l ++ [c]).map B) w' → w.grownBy w' v.ownBlock → wpList P ops Q rest (a.put o.dst v') w') : wpList P ops Q (o :: rest) a w := by
  subst hs
  obtain ⟨v', w', hr, h2, h3⟩ := run_push_text ht hu he w base o.type (a.eval s) (l.map B) hown c (by rw [List.length_map]; exact hlen) hbase
  refine wpList_exec hgd v' w' ?_ (h v' w' (by simpa using h2) h3)
  simp only [execOp, ho, resolve, invoke, builtin, Sem.run_bind, Sem.run_pure, Result.andThen_ok, List.map_toArray, List.map_cons, List.map_nil, hx, hr]

theorem own_made (w : World) (Z : Array Value) (cap base : Nat) (e : TypeId) (hm : cap ≤ maxLen) (hz : Z.size = cap) (hb : base ≤ w.heap.size) :
    Own base (.slice (some ⟨w.heap.size, 0, none⟩) 0 cap) [] (w.alloc (.cells Z e)) := by
  have hr : Row (w.alloc (.cells Z e)) w.heap.size Z e := row_new w _ _
  refine .inr ⟨w.heap.size, cap, rfl, hb, hr.lt, Nat.zero_le _, hm, fun j u hu => by simp at hu, fun j hj => ?_⟩
  rw [Nat.zero_add]
  refine ⟨?_, hr.frozen j⟩
  rw [cell_of_row _ _ j _ _ _ hr, Array.getElem?_eq_getElem (by omega)]; rfl
/-- A slice of bytes made, of none yet. -/
theorem wpList_make {t e : TypeId} (ht : P.underlying t = some (.slice e)) (he : Elem P e) (hgd : o.guard = none) (x : Operand) (ho : o.op = .makeSlice t (.const (.int .i64 0)) x) (c : Nat) (hx : a.eval x = .int .i64 c) (hc : c < 1000000000000) (base : Nat) (hbase : base ≤ w.heap.size)
    (h : ∀ v' w', Own base v' [] w' → w.grownBy w' none → wpList P ops Q rest (a.put o.dst v') w') : wpList P ops Q (o :: rest) a w := by
  obtain ⟨i, z, hi, hz, hs, hby, hzs⟩ := he
  have hr := run_make (P := P) w t e i z ht hi hz .i64 .i64 0 c (Int.le_refl _) (by omega) (by
    have h1 : i.bytes * c ≤ 64 * c := Nat.mul_le_mul_right c hby
    have h2 : ((i.bytes * c : Nat) : Int) ≤ 281474976710656 := by omega
    rwa [Int.natCast_mul] at h2) (by omega)
  simp only [Int.toNat_zero, Int.toNat_natCast] at hr
  refine wpList_exec hgd _ _ ?_ (h _ _ (own_made w (madeCells z.cells (c * i.size)) c base e (by simp only [maxLen]; omega) (by rw [size_madeCells, hs, Nat.mul_one]) hbase) (World.grownBy_alloc w _ none))
  have hev : a.eval (.const (.int .i64 0)) = .int .i64 0 := rfl
  simp only [execOp, ho, hx, hev, Sem.run_bind, Sem.run_pure, Result.andThen_ok, hr]
end
theorem run_copy_str {td e ts : TypeId} (hu : P.underlying td = some (.slice e)) (hz : ∀ w, (sizeOf e).run P w = .ok 1 w) (w : World) (ty : TypeId) (g o dLen dCap : Nat) (cur : Array Value) (t : TypeId) (s : List UInt8) (m : Nat) (hm : m = Nat.min s.length dLen)
    (hg : w.heap[g]? = some (.cells cur t (0, 0))) (hfit : o + m ≤ cur.size) :
    (Builtin.copy_ #[td, ts] ty #[.slice (some ⟨g, o, none⟩) dLen dCap, S s]).run P w =
      .ok (goInt m) (w.setRow g (cur.toList.take o ++ (s.take m).map B ++ cur.toList.drop (o + m)).toArray) := by
  have hl : ((s.take m).map B).length = m := by
    rw [List.length_map, List.length_take, hm]; exact Nat.min_eq_left (Nat.min_le_left _ _)
  have hst := run_storeCells_at P g o t ((s.take m).map B) 0 cur w hg (by rw [hl]; simpa using hfit) (fun v hv => by
    obtain ⟨b, _, rfl⟩ := List.mem_map.1 hv; rfl)
  rw [hl, Nat.add_zero] at hst
  have hlen : (⟨s.toArray⟩ : ByteArray).size = s.length := by simp [ByteArray.size]
  have hext : (((⟨s.toArray⟩ : ByteArray).extract 0 m).data.map fun b => Value.int .u8 (b.toNat : Int)).toList = (s.take m).map B := by
    rw [ByteArray.data_extract]
    simp
    rfl
  simp only [Builtin.copy_, S, Builtin.lenOf, Builtin.firstCells]
  simp only [List.getElem?_toArray, List.getElem?_cons_zero, List.getElem?_cons_succ, run_underlying hu, Sem.run_bind, Result.andThen_ok, Sem.run_pure, hz, hlen, ← hm, hext, hst]

/-- A byte as a number, and a number's lowest byte. -/
theorem conv_byte {tb ti : TypeId} (h1 : P.underlying tb = some (.int .u8)) (h2 : P.underlying ti = some (.int .i64)) (b : UInt8) (w : World) : (convert tb ti (B b)).run P w = .ok (.int .i64 (b.toNat : Int)) w := by
  have := b.toNat_lt
  have e : IntKind.i64.wrap (b.toNat : Int) = (b.toNat : Int) := by rw [IntKind.wrap_i64]; omega
  simp [convert, B, run_underlying h1, run_underlying h2, e, go_sem]
theorem conv_num {tb ti : TypeId} (h1 : P.underlying tb = some (.int .u8)) (h2 : P.underlying ti = some (.int .i64)) (n : Nat) (w : World) : (convert ti tb (.int .i64 (n : Int))).run P w = .ok (B (UInt8.ofNat n)) w := by
  have e : IntKind.u8.wrap (n : Int) = ((UInt8.ofNat n).toNat : Int) := by rw [IntKind.wrap_u8, UInt8.toNat_ofNat']; omega
  simp [convert, B, run_underlying h1, run_underlying h2, e, go_sem]
theorem byte_cell1 (q : Nat) : (#[Value.int .u8 ((q : Int) % 256)] : Array Value) = #[B (UInt8.ofNat q)] := by
  have e : ((UInt8.ofNat q).toNat : Int) = (q : Int) % 256 := by rw [UInt8.toNat_ofNat']; omega
  rw [B, e]
theorem byte_cell2 (q : Nat) (h : q < 256) : (#[Value.int .u8 (q : Int)] : Array Value) = #[B (UInt8.ofNat q)] := by
  have e : ((UInt8.ofNat q).toNat : Int) = (q : Int) := by rw [UInt8.toNat_ofNat']; omega
  rw [B, e]

section
variable {w : World} {e : TypeId}
theorem own_bytes (l : List UInt8) (hl : l.length < 1000000000000) : Own w.heap.size (.slice (some ⟨w.heap.size, 0, none⟩) l.length (grownCap w l.length 0 e)) (l.map B) (Lib.bytesWorld w e ⟨l.toArray⟩) := by
  have hsz : (⟨l.toArray⟩ : ByteArray).size = l.length := S_size l
  have hg := Lib.bytesWorld_at_new w e ⟨l.toArray⟩
  have hge := grownCap_ge w l.length 0 e
  have hcs : (Lib.bytesCells w e ⟨l.toArray⟩).size = grownCap w l.length 0 e := by
    simp [Lib.bytesCells, hsz]; omega
  refine .inr ⟨w.heap.size, grownCap w l.length 0 e, by rw [List.length_map], Nat.le_refl _, by rw [Lib.bytesWorld_size]; omega, by rw [List.length_map]; exact hge, grownCap_le_maxLen w _ _ _ (by simp only [maxLen]; omega), fun j u hu => ?_, fun j hj => ?_⟩
  · have hj : j < l.length := by have := (List.getElem?_eq_some_iff.1 hu).1; simpa using this
    rw [Nat.zero_add, Lib.bytesWorld_cell w e _ j (by rw [hsz]; exact hj)]
    rw [List.getElem?_map, List.getElem?_eq_getElem hj] at hu
    simp only [Option.map_some, Option.some.injEq] at hu
    rw [← hu]
    simp [B, List.getD, hj]
  · rw [Nat.zero_add]
    refine ⟨?_, ?_⟩
    · rw [World.cell?, hg]
      simp [hcs, hj]
    · rw [World.frozen?, hg]
      simp [hcs]
      omega
theorem grown_bytes (s : ByteArray) (row : Option Nat) : w.grownBy (Lib.bytesWorld w e s) row :=
  ⟨rfl, rfl, rfl, by rw [Lib.bytesWorld_size]; omega, fun k hk _ => Lib.bytesWorld_at_old w e s k hk⟩
theorem run_bytes {ts t : TypeId} (h1 : P.underlying ts = some .string) (h2 : P.underlying t = some (.slice e)) (h3 : P.underlying e = some (.int .u8)) (l : List UInt8) (w : World) :
    (convert ts t (S l)).run P w = .ok (.slice (some ⟨w.heap.size, 0, none⟩) l.length (grownCap w l.length 0 e)) (Lib.bytesWorld w e ⟨l.toArray⟩) := by
  have hr := Lib.run_convert_string_bytes w ts t e ⟨l.toArray⟩ h1 h2 h3
  rw [S_size] at hr; exact hr
/-- The text of a slice of one's own. -/
theorem own_text {ts t : TypeId} (h1 : P.underlying ts = some .string) (h2 : P.underlying t = some (.slice e)) (h3 : P.underlying e = some (.int .u8)) {base : Nat} {v : Value} {l : List UInt8} (h : Own base v (l.map B) w) : (convert t ts v).run P w = .ok (S l) w := by
  rcases h with ⟨rfl, h⟩ | ⟨g, cap, rfl, _, _, _, _, hc, _⟩
  · obtain rfl : l = [] := List.map_eq_nil_iff.1 h
    exact run_convert_bytes_nil (w := w) t e h2 h3 0 0 ts h1
  · rw [List.length_map]
    refine run_convert_bytes_back w t ts e ⟨g, 0, none⟩ cap l h2 h3 h1 fun j hj => ?_
    have := hc j (B l[j]) (by rw [List.getElem?_map, List.getElem?_eq_getElem hj]; rfl)
    rw [Addr.add_mid]
    exact this
/-- One cell of a slice of one's own turned. -/
theorem own_set {base g cap : Nat} {xs : List Value} (h : Own base (.slice (some ⟨g, 0, none⟩) xs.length cap) xs w) (i : Nat) (y : Value) (hi : i < xs.length) :
    Own base (.slice (some ⟨g, 0, none⟩) xs.length cap) (xs.set i y) (w.setCell ⟨g, i, none⟩ y) ∧ w.cell? ⟨g, i, none⟩ = xs[i]? ∧ w.frozen? ⟨g, i, none⟩ = false := by
  rcases h with ⟨h, _⟩ | ⟨g', cap', he, h1, h2, h3, h4, h5, h6⟩
  · cases h
  · simp only [Value.slice.injEq, Option.some.injEq, Addr.mk.injEq] at he
    obtain ⟨⟨rfl, _⟩, _, rfl⟩ := he
    have hc := h5 i xs[i] (List.getElem?_eq_getElem hi)
    rw [Nat.zero_add] at hc
    have hf := (h6 i (by omega)).2
    rw [Nat.zero_add] at hf
    refine ⟨.inr ⟨g, cap, by rw [List.length_set], h1, by simpa [World.setCell] using h2, by rw [List.length_set]; exact h3, h4, fun j u hu => ?_, fun j hj => ?_⟩, by rw [hc, List.getElem?_eq_getElem hi], hf⟩
    · rw [Nat.zero_add]
      by_cases hj : i = j
      · subst hj
        rw [List.getElem?_set_self hi] at hu
        obtain rfl := Option.some.inj hu
        exact World.cell?_setCell_same _ _ _ hc
      · rw [World.cell?_setCell_other (h := show (⟨g, i, none⟩ : Addr) ≠ ⟨g, j, none⟩ by intro h; simp only [Addr.mk.injEq] at h; omega)]
        rw [List.getElem?_set_ne hj] at hu
        have := h5 j u hu
        rwa [Nat.zero_add] at this
    · obtain ⟨hc2, hf2⟩ := h6 j hj
      refine ⟨?_, by simpa using hf2⟩
      obtain ⟨u0, hu0⟩ := Option.isSome_iff_exists.1 hc2
      obtain ⟨v', hv'⟩ := cell?_setCell_some (p := ⟨g, i, none⟩) (x := y) hu0
      rw [hv']; rfl
theorem iter_pos {W : World} {K : Nat} {s : ByteArray} {p : Nat} (h : W.heap[K]? = some (.stringIter s p)) : W.iterPos K = p := by
  simp only [World.iterPos, h]
end

/-! Words of 62 bits joined and masked. -/
theorem wraps_i64 (n : Int) (h₀ : 0 ≤ n) (h₁ : n < 2 ^ 62) : IntKind.i64.wrap n = n := by rw [IntKind.wrap_i64]; omega
theorem i64_or16 (x y : Int) (hx0 : 0 ≤ x) (hx1 : x < 4611686018427387904) (hm : x % 65536 = 0) (hy0 : 0 ≤ y) (hy : y < 65536) : bits .or .i64 x y = x + y :=
  bits_join .i64 62 (by decide) wraps_i64 16 x y hx0 hm hx1 hy0 hy (by omega)
theorem i64_or8 (x y : Int) (hx0 : 0 ≤ x) (hx1 : x < 4611686018427387904) (hm : x % 256 = 0) (hy0 : 0 ≤ y) (hy : y < 256) : bits .or .i64 x y = x + y :=
  bits_join .i64 62 (by decide) wraps_i64 8 x y hx0 hm hx1 hy0 hy (by omega)
theorem i64_or6 (x y : Int) (hx0 : 0 ≤ x) (hx1 : x < 4611686018427387904) (hm : x % 64 = 0) (hy0 : 0 ≤ y) (hy : y < 64) : bits .or .i64 x y = x + y :=
  bits_join .i64 62 (by decide) wraps_i64 6 x y hx0 hm hx1 hy0 hy (by omega)
theorem i64_and63 (x : Int) (hx0 : 0 ≤ x) (hx1 : x < 4611686018427387904) : bits .and .i64 x 63 = x % 64 :=
  bits_mask .i64 62 (by decide) wraps_i64 6 (by decide) x hx0 hx1

/-- Only block b, and what was made since, may have turned. -/
structure Keeps (b : Nat) (w w' : World) : Prop where
  os : w'.os = w.os
  tape : w'.tape = w.tape
  output : w'.output = w.output
  size : w.heap.size ≤ w'.heap.size
  block : ∀ k, k < w.heap.size → k ≠ b → w'.heap[k]? = w.heap[k]?
section
variable {b : Nat} {w w' w'' : World}
theorem Keeps.refl (b : Nat) (w : World) : Keeps b w w := ⟨rfl, rfl, rfl, Nat.le_refl _, fun _ _ _ => rfl⟩
theorem Keeps.trans (h : Keeps b w w') (k : Keeps b w' w'') : Keeps b w w'' :=
  ⟨k.os.trans h.os, k.tape.trans h.tape, k.output.trans h.output, Nat.le_trans h.size k.size, fun i hi hn => (k.block i (Nat.lt_of_lt_of_le hi h.size) hn).trans (h.block i hi hn)⟩
theorem Keeps.of_below (h : Below w.heap.size w w') : Keeps b w w' := ⟨h.os, h.tape, h.output, h.size, fun k hk _ => h.block k hk⟩
theorem Keeps.drew (w : World) : Keeps b w w.drew := ⟨rfl, rfl, rfl, Nat.le_refl _, fun _ _ _ => rfl⟩
theorem Keeps.setRow (w : World) (cs : Array Value) : Keeps b w (w.setRow b cs) := ⟨rfl, rfl, rfl, by simp, fun k _ hn => setRow_other w b k cs hn⟩
theorem Keeps.setCell (w : World) (o : Nat) (v : Value) : Keeps b w (w.setCell ⟨b, o, none⟩ v) :=
  ⟨rfl, rfl, rfl, by simp [World.setCell], fun k _ hn => Below.heap_setCell _ _ _ _ hn⟩
theorem Keeps.below {k : Nat} (h : Keeps b w w') (hk : k ≤ w.heap.size) (hb : k ≤ b) : Below k w w' :=
  ⟨h.os, h.tape, h.output, h.size, fun i hi => h.block i (by omega) (by omega)⟩
end
theorem Row.keeps {w w' : World} {g b : Nat} {cs : Array Value} {t : TypeId} (h : Row w g cs t) (k : Keeps b w w') (hn : g ≠ b) : Row w' g cs t := by
  unfold Row; rw [k.block g h.lt hn]; exact h

section
theorem run_storeVar_at (w : World) (g o : Nat) (t ty : TypeId) (cells cur : Array Value) (hg : w.heap[g]? = some (.cells cur t (0, 0))) (hi : (P.info? ty).map (·.size) = some cells.size)
    (hfit : o + cells.size ≤ cur.size) (h1 : ∀ v ∈ cells.toList, v.oneCell' = true) :
    (storeVar ty ⟨g, o, none⟩ (.agg cells)).run P w = .ok () (w.setRow g (cur.toList.take o ++ cells.toList ++ cur.toList.drop (o + cells.size)).toArray) := by
  have := run_storeCells_at P g o t cells.toList 0 cur w hg (by simpa using hfit) h1
  cases hq : P.info? ty with
  | none => simp [hq] at hi
  | some i =>
    have hs : cells.size = i.size := by simp [hq] at hi; omega
    simp only [Nat.add_zero, Array.length_toList] at this
    simp [storeVar, sizeOf, typeInfo, hq, Value.cells, hs, this]

theorem wpList_store_at {ops : Array Oper} {rest : List Oper} {op : Oper} {a : Act} {w : World} {Q : Exit → Act → World → Prop} (hgd : op.guard = none) (ty : TypeId) (x y : Operand) (ho : op.op = .store ty x y)
    (g o : Nat) (cells cur : Array Value) (t : TypeId) (hx : a.eval x = .pointer (some ⟨g, o, none⟩)) (hy : a.eval y = .agg cells)
    (hg : w.heap[g]? = some (.cells cur t (0, 0))) (hi : (P.info? ty).map (·.size) = some cells.size)
    (hfit : o + cells.size ≤ cur.size) (h1 : ∀ v ∈ cells.toList, v.oneCell' = true)
    (h : wpList P ops Q rest (a.put op.dst undef) (w.setRow g (cur.toList.take o ++ cells.toList ++ cur.toList.drop (o + cells.size)).toArray)) : wpList P ops Q (op :: rest) a w :=
  wpList_plain hgd fun _ hK => by
    unfold Oper.wp execOp
    simp only [ho, hx, hy, Instr.storeAt, Instr.sureAddr, Sem.run_bind, Sem.run_pure, Result.andThen_ok, run_storeVar_at w g o t ty cells cur hg hi hfit h1]
    exact hK _ _ h

theorem wpStill_load_mid {ops : Array Oper} {w : World} {Q : Act → Prop} {op : Oper} {rest : List Oper} {a : Act} (hgd : op.guard = none) (ty : TypeId) (x : Operand) (ho : op.op = .load ty x)
    (b o : Nat) (hx : a.eval x = .pointer (some ⟨b, o, none⟩)) (cs : List Value) (d : TypeDesc) (hc : w.rangeAt b o cs)
    (hu : P.underlying ty = some d) (hd : d.isRow = true) (hi : (P.info? ty).map (·.size) = some cs.length)
    (h : wpStill P ops w Q rest (a.put op.dst (.agg cs.toArray))) : wpStill P ops w Q (op :: rest) a := by
  unfold wpStill
  simp only [Region.wanted, hgd, if_true]
  unfold Oper.still execOp
  simp only [ho, hx, Instr.loadAt, Instr.sureAddr, Sem.run_bind, Sem.run_pure, Result.andThen_ok, run_loadVar_mid w b o ty cs d hc hu hd hi]
  exact ⟨rfl, h⟩
end

section
variable {md : Region.Mode} {ops : Array Oper} {Q : Exit → Act → World → Prop} {S : World → Prop} {fuel : Nat} {listed : Array Bool} {a : Act} {w : World} {i : Nat} {d : Option Tmp} {v : Value}

/-- What yields one value wherever S holds is taken first. -/
theorem take_at (hd : (ops[i]?).map (·.dst) = some d) (hs : Region.noSelect ops = true) (hf : Region.free md ops listed i = true) (hr : (Region.ready md ops listed).contains i = true)
    (hQ : ∀ c a w, Q (.panic c) (a.put d v) w → Q (.panic c) a w) (hy : ∀ oi, ops[i]? = some oi → YieldsIf P ops S oi v a) (hS : S w)
    (h : wpAnyH P md ops Q S fuel (listed.setIfInBounds i true) (a.put d v) w) : wpAnyH P md ops Q S (fuel + 1) listed a w := by
  cases hi : ops[i]? with
  | none => simp [hi] at hd
  | some oi =>
    have e : oi.dst = d := by simpa [hi] using hd
    subst e
    exact wpAnyH_take hi hs hf hr hQ (hy oi hi) hS h

/-- The one that may come up next hands back a value. -/
theorem ready_value {w' : World} (hd : (ops[i]?).map (·.dst) = some d) (hr : Region.ready md ops listed = [i])
    (hx : ∀ oi, ops[i]? = some oi → Region.wanted oi (yielded ops a.tmps) = true ∧ (execOp a.eval oi).run P w = .ok (.value v) w') (hS : S w')
    (h : wpAnyH P md ops Q S fuel (listed.setIfInBounds i true) (a.put d v) w') : wpAnyH P md ops Q S (fuel + 1) listed a w := by
  cases hi : ops[i]? with
  | none => simp [hi] at hd
  | some oi =>
    have e : oi.dst = d := by simpa [hi] using hd
    subst e
    refine wpAnyH_ready hr (by simp) (AllReadyH.cons hi (fun K hK => ?_) AllReadyH.nil)
    obtain ⟨hw, hx⟩ := hx oi hi
    rw [if_pos hw]
    unfold Oper.wp
    rw [hx]
    exact hK.out _ _ hS (fun _ => h)

/-- The one that may come up next stores something. -/
theorem ready_skip {w' : World} (hd : (ops[i]?).map (·.dst) = some d) (hr : Region.ready md ops listed = [i])
    (hx : ∀ oi, ops[i]? = some oi → Region.wanted oi (yielded ops a.tmps) = true ∧ (execOp a.eval oi).run P w = .ok .skip w') (hS : S w')
    (h : wpAnyH P md ops Q S fuel (listed.setIfInBounds i true) (a.put d undef) w') : wpAnyH P md ops Q S (fuel + 1) listed a w := by
  cases hi : ops[i]? with
  | none => simp [hi] at hd
  | some oi =>
    have e : oi.dst = d := by simpa [hi] using hd
    subst e
    refine wpAnyH_ready hr (by simp) (AllReadyH.cons hi (fun K hK => ?_) AllReadyH.nil)
    obtain ⟨hw, hx⟩ := hx oi hi
    rw [if_pos hw]
    unfold Oper.wp
    rw [hx]
    exact hK.out _ _ hS (fun _ => h)

/-- The one that may come up next calls a function. -/
theorem ready_call {f : FuncId} {args : Array Value} (hd : (ops[i]?).map (·.dst) = some d) (hr : Region.ready md ops listed = [i])
    (hx : ∀ oi, ops[i]? = some oi → Region.wanted oi (yielded ops a.tmps) = true ∧ (execOp a.eval oi).run P w = .ok (.enter f args) w)
    (hc : Calls P f args w fun e w' => ∃ v, e = .returned v ∧ S w' ∧ wpAnyH P md ops Q S fuel (listed.setIfInBounds i true) (a.put d v) w') : wpAnyH P md ops Q S (fuel + 1) listed a w := by
  cases hi : ops[i]? with
  | none => simp [hi] at hd
  | some oi =>
    have e : oi.dst = d := by simpa [hi] using hd
    subst e
    refine wpAnyH_ready hr (by simp) (AllReadyH.cons hi (fun K hK => ?_) AllReadyH.nil)
    obtain ⟨hw, hx⟩ := hx oi hi
    rw [if_pos hw]
    unfold Oper.wp
    rw [hx]
    refine hc.mono ?_
    rintro e w' ⟨v, rfl, hS, h⟩
    exact hK.out _ _ hS (fun _ => h)

theorem exec_load_mid {o : Oper} (ty : TypeId) (x : Operand) (ho : o.op = .load ty x) (b off : Nat) (hx : a.eval x = .pointer (some ⟨b, off, none⟩)) (cs : List Value) (t : TypeDesc) (hc : w.rangeAt b off cs)
    (hu : P.underlying ty = some t) (hd : t.isRow = true) (hi : (P.info? ty).map (·.size) = some cs.length) : (execOp a.eval o).run P w = .ok (.value (.agg cs.toArray)) w := by
  unfold execOp
  simp only [ho, hx, Instr.loadAt, Instr.sureAddr, Sem.run_bind, Sem.run_pure, Result.andThen_ok, run_loadVar_mid w b off ty cs t hc hu hd hi]
end

/-- A whole variable, stored. -/
theorem wpList_store_var {ops : Array Oper} {rest : List Oper} {o : Oper} {a : Act} {w : World} {Q : Exit → Act → World → Prop} (hgd : o.guard = none) (hdst : o.dst = none) (ty : TypeId) (x y : Operand)
    (ho : o.op = .store ty x y) (g : Nat) (cells : Array Value) (hx : a.eval x = .pointer (some ⟨g, 0, none⟩)) (hy : a.eval y = .agg cells) {t : TypeId} {old : Array Value} (hr : Row w g old t)
    (hi : (P.info? ty).map (·.size) = some cells.size) (hold : old.size = cells.size) (h1 : cells.all (·.oneCell') = true)
    (h : ∀ w', Row w' g cells t → Keeps g w w' → wpList P ops Q rest a w') : wpList P ops Q (o :: rest) a w := by
  refine wpList_store_row hgd ty x y ho g cells hx hy t old hr hi hold h1 ?_
  rw [hdst]
  exact h _ (setRow_heap w g _ _ t _ hr) (Keeps.setRow _ _)
/-- A whole variable, loaded. -/
theorem wpList_load_var {ops : Array Oper} {rest : List Oper} {o : Oper} {a : Act} {w : World} {Q : Exit → Act → World → Prop} (hgd : o.guard = none) (ty : TypeId) (x : Operand)
    (ho : o.op = .load ty x) (g : Nat) (hx : a.eval x = .pointer (some ⟨g, 0, none⟩)) {t : TypeId} {cells : Array Value} (hr : Row w g cells t) (d : TypeDesc)
    (hu : P.underlying ty = some d) (hd : d.isRow = true) (hi : (P.info? ty).map (·.size) = some cells.size)
    (h : wpList P ops Q rest (a.put o.dst (.agg cells)) w) : wpList P ops Q (o :: rest) a w :=
  wpList_load_row hgd ty x ho g hx t cells (0, 0) d hr hu (by cases d <;> first | rfl | cases hd) hi h

/-- A slice of n numbers that came in: number i lies at 'ad i' and is 'z i'. -/
structure Came (P : Program) (w : World) (t : TypeId) (V : Value) (n : Nat) (ad : Nat → Addr) (enc : Nat → Value) : Prop where
  len : ∀ T w', (Builtin.len_ #[t] T #[V]).run P w' = .ok (.int .i64 (n : Int)) w'
  index : ∀ i, i < n → ∀ w', (Instr.indexAt t V (.int .i64 (i : Int))).run P w' = .ok (.pointer (some (ad i))) w'
  cell : ∀ i, i < n → w.cell? (ad i) = some (enc i)
theorem Came.below {w w' : World} {t : TypeId} {V : Value} {n : Nat} {ad : Nat → Addr} {enc : Nat → Value} (h : Came P w t V n ad enc) (hb : Below w.heap.size w w') : Came P w' t V n ad enc :=
  ⟨h.len, h.index, fun i hi => by rw [hb.cell (World.block_lt_of_cell? w _ (h.cell i hi))]; exact h.cell i hi⟩
end Go.Proofs.YtnaekjmlikhglaaDoor
/- A range over a function whose iterator keeps cells of its own: the iterator's contract over a fixed list of what comes, and the statement's law. Over any program. -/
namespace Go.Proofs.YtnaekjmlikhglaaDoor
open Go.RowKit

/-- Two results, the first one in a variable of its own. -/
theorem results_row_tmp {P : Program} {fn : Func} {p u : Tmp} {ty : TypeId} (h : fn.results = #[.cell p ty, .tmp u]) (tmps : Array Value) (w : World) (g : Nat) (t : TypeId) (cs : Array Value) (fr : Nat × Nat) (d : TypeDesc)
    (hp : tmps.getD p undef = .pointer (some ⟨g, 0, none⟩)) (hg : w.heap[g]? = some (.cells cs t fr))
    (hu : P.underlying ty = some d) (hd : (match d with | .struct _ | .array _ _ => true | _ => false) = true) (hi : (P.info? ty).map (·.size) = some cs.size) :
    (results fn tmps).run P w = .ok (.tuple #[.agg cs, tmps.getD u undef]) w := by
  have hp' : tmps[p]?.getD undef = .pointer (some ⟨g, 0, none⟩) := by simpa using hp
  simp [results, h, hp', asAddr, run_loadVar_row w g t ty cs fr d hg hu hd hi]

/-- A function that is one is not nil. -/
theorem eql_nilFunc {P : Program} {t : TypeId} {ps rs : Array TypeId} {v : Bool} (hu : P.underlying t = some (.func ps rs v)) (f : Fn) (a b : Array Value) (w : World) : (binOp .eql t (.func f a b) .nilFunc).run P w = .ok (.bool false) w := by
  have e : (Op.equal t (.func f a b) .nilFunc).run P w = .ok false w := by
    unfold Op.equal
    rw [show Op.maxDepth = 9999 + 1 from rfl]
    unfold Op.equalIn
    simp [Sem.run_bind, run_underlying hu, Result.andThen]
  simp [binOp, e, Result.andThen]
/-- The same world but for orders that were drawn. -/
def Drawn (w w' : World) : Prop := ∃ m, w' = w.drewN m
theorem Drawn.refl (w : World) : Drawn w w := ⟨0, rfl⟩
theorem Drawn.heap {w w' : World} (h : Drawn w w') : w'.heap = w.heap := by obtain ⟨m, rfl⟩ := h; rfl
theorem Drawn.cell {w w' : World} (h : Drawn w w') (a : Addr) : w'.cell? a = w.cell? a := by obtain ⟨m, rfl⟩ := h; rfl
theorem Drawn.grown {w w' : World} (h : Drawn w w') (row : Option Nat) : w.grownBy w' row := by obtain ⟨m, rfl⟩ := h; exact ⟨rfl, rfl, rfl, Nat.le_refl _, fun _ _ _ => rfl⟩
theorem Drawn.below {w w' : World} (h : Drawn w w') : Below w.heap.size w w' := by obtain ⟨m, rfl⟩ := h; exact below_drewN w m
theorem Drawn.trans {a b c : World} (h : Drawn a b) (k : Drawn b c) : Drawn a c := by
  obtain ⟨m, rfl⟩ := h
  obtain ⟨n, rfl⟩ := k
  exact ⟨m + n, World.drewN_drewN _ _ _⟩
/-- J abides new blocks, and turns of the blocks B, .., B + k - 1. -/
def AbidesIn {β : Type} (B k : Nat) (J : β → World → Prop) : Prop :=
  ∀ s W W' row, J s W → W.grownBy W' row → (∀ r, row = some r → B ≤ r ∧ r < B + k) → J s W'
theorem AbidesIn.mono {β : Type} {B k B' k' : Nat} {J : β → World → Prop} (h : AbidesIn B k J) (h1 : B ≤ B') (h2 : B' + k' ≤ B + k) : AbidesIn B' k' J :=
  fun s W W' row hs hg hr => h s W W' row hs hg (fun r e => by have := hr r e; omega)
theorem AbidesIn.and {β : Type} {B k : Nat} {J J' : β → World → Prop} (h : AbidesIn B k J) (h' : AbidesIn B k J') : AbidesIn B k (fun s W => J s W ∧ J' s W) :=
  fun s W W' row hs hg hr => ⟨h s W W' row hs.1 hg hr, h' s W W' row hs.2 hg hr⟩
theorem AbidesIn.alloc {β : Type} {B k : Nat} {J : β → World → Prop} (h : AbidesIn B k J) {s : β} {W : World} (o : Obj) (hs : J s W) : J s (W.alloc o) :=
  h s W _ none hs (World.grownBy_alloc W o none) (fun r e => by cases e)
theorem AbidesIn.put {β : Type} {B k : Nat} {J : β → World → Prop} (h : AbidesIn B k J) {s : β} {W : World} {l : Nat} (o' : Obj) (hs : J s W) (h1 : B ≤ l) (h2 : l < B + k) : J s (W.putObj l o') :=
  h s W _ (some l) hs (grownBy_putObj' W l o') (fun r e => by cases e; exact ⟨h1, h2⟩)
/-- What speaks of a block beyond these abides. -/
theorem abidesIn_block {β : Type} {B k g : Nat} (o : β → Obj) (hg : g < B ∨ B + k ≤ g) : AbidesIn B k (fun (s : β) W => W.heap[g]? = some (o s)) :=
  fun s W W' row hs hg' hr => (hg'.block g (Array.getElem?_eq_some_iff.1 hs).1 (fun e => by have := hr g e.symm; omega)).trans hs
theorem abidesIn_pure {β : Type} {B k : Nat} (p : β → Prop) : AbidesIn B k (fun s (_ : World) => p s) := fun _ _ _ _ hs _ _ => hs
theorem abidesIn_below {β : Type} {B k : Nat} {w₀ : World} (hB : w₀.heap.size ≤ B) : AbidesIn B k (fun (_ : β) W => Below w₀.heap.size w₀ W) :=
  fun _ _ _ _ hs hg hr => hs.grown hg hs.size (fun r e => by have := hr r e; omega)

/-- The blocks of bs lie as they lay. -/
structure Kept (bs : Nat → Prop) (W W' : World) : Prop where
  size : W.heap.size ≤ W'.heap.size
  same : ∀ r, bs r → W'.heap[r]? = W.heap[r]?
theorem Kept.refl (bs : Nat → Prop) (W : World) : Kept bs W W := ⟨Nat.le_refl _, fun _ _ => rfl⟩
theorem Kept.trans {bs : Nat → Prop} {A B C : World} (h : Kept bs A B) (k : Kept bs B C) : Kept bs A C := ⟨Nat.le_trans h.size k.size, fun r hr => (k.same r hr).trans (h.same r hr)⟩
theorem Kept.mono {bs cs : Nat → Prop} {A B : World} (h : Kept bs A B) (hc : ∀ r, cs r → bs r) : Kept cs A B := ⟨h.size, fun r hr => h.same r (hc r hr)⟩
theorem Kept.of_grown {bs : Nat → Prop} {A B : World} {row : Option Nat} (hg : A.grownBy B row) (hb : ∀ r, bs r → r < A.heap.size ∧ some r ≠ row) : Kept bs A B :=
  ⟨hg.size, fun r hr => hg.block r (hb r hr).1 (hb r hr).2⟩
theorem Kept.of_below {bs : Nat → Prop} {A B : World} {b : Nat} (hg : Below b A B) (hb : ∀ r, bs r → r < b) : Kept bs A B :=
  ⟨hg.size, fun r hr => hg.block r (hb r hr)⟩

/-- An iterator's contract: it tells the things of L, in order; k blocks from its call on are its own to turn; the blocks Kb are not to be turned between two rounds. -/
def SeqL {α : Type} (P : Program) (n g : Nat) (lb : Array Value) (encs : α → Array Value) (k : Nat) (Kb : Nat → Prop) (L : List α) (Ok : World → Prop) : Prop :=
  ∀ (l : Nat) (J Jx : List α → World → Prop) (W : World), Ok W → AbidesIn W.heap.size k J → AbidesIn W.heap.size k Jx →
    (∀ pre x W1, pre ++ [x] <+: L → J pre W1 → W.heap.size + k ≤ W1.heap.size → YieldAt Fence.wide (n - 1) P l (encs x) W1 fun e W' =>
      (e = .returned (.bool true) ∧ J (pre ++ [x]) W' ∧ Kept (fun r => Kb r ∨ (W.heap.size ≤ r ∧ r < W.heap.size + k)) W1 W') ∨ (e = .returned (.bool false) ∧ Jx (pre ++ [x]) W' ∧ Kept (fun r => Kb r ∨ (W.heap.size ≤ r ∧ r < W.heap.size + k)) W1 W')) →
    J [] W →
    CallsIn Fence.wide n P g (#[.func (.yield l) #[] #[]] ++ lb) W fun e W' => (∃ v, e = .returned v) ∧ (J L W' ∨ (∃ pre, pre <+: L ∧ Jx pre W'))

/-- A round within another one, at whatever depth. -/
theorem roundIn_wide {P : Program} {n : Nat} {l : Nat} {f : FuncId} {tmps : Array Value} {assign body : Code} {w : World} {R : Ending → World → Prop} (l₀ m : Nat) (h : RoundIn Fence.wide n P l f tmps assign body w R) :
    RoundIn (Fence.wide.inRound l₀) m P l f tmps assign body w R := ⟨trivial, fun c cs _ => h.2 c cs (room_wide _)⟩
theorem roundIn_wide0 {P : Program} {n : Nat} {l : Nat} {f : FuncId} {tmps : Array Value} {assign body : Code} {w : World} {R : Ending → World → Prop} (m : Nat) (h : RoundIn Fence.wide n P l f tmps assign body w R) :
    RoundIn Fence.wide m P l f tmps assign body w R := ⟨trivial, fun c cs _ => h.2 c cs (room_wide _)⟩
/-! A region that draws its order, within a round: as outside of one. -/
def noDefer (ops : Array Oper) : Bool := ops.toList.all fun o => match o.op with | .defer _ => false | _ => true
theorem noDefer_spec {ops : Array Oper} (h : noDefer ops = true) (i : Nat) (o : Oper) (hi : ops[i]? = some o) (c : Call) : o.op ≠ .defer c := fun e => by
  have hm : o ∈ ops.toList := by rw [← Array.getElem?_toList] at hi; exact List.mem_of_getElem? hi
  have := List.all_eq_true.1 h o hm
  rw [e] at this
  cases this
theorem wpOpIn_inRound {F : Fence} {n : Nat} {P : Program} {ops : Array Oper} {Q : Exit → Act → World → Prop} {K : Act → World → Prop} {a : Act} {w : World} {i l : Nat} (_hro : F.round = none) (hd : noDefer ops = true)
    (h : wpOpIn F n P ops Q i K a w) : wpOpIn (F.inRound l) n P ops Q i K a w := by
  unfold wpOpIn at *
  split
  · simpa [*] using h
  · rename_i o ho
    simp only [ho] at h
    split
    · rename_i hw
      simp only [hw, if_true] at h
      unfold Oper.wpIn at *
      refine ⟨h.1, ?_⟩
      have h2 := h.2
      rw [Oper.semAt_eq _ _ _ (noDefer_spec hd i o ho)] at h2 ⊢
      generalize (execOp a.eval o).run P w = r at *
      cases r with
      | ok x w' => cases x <;> exact h2
      | halt x w' => cases x <;> exact h2
    · rename_i hw
      simp only [hw] at h
      exact h
theorem wpAnyIn_inRound {F : Fence} {n : Nat} {P : Program} {md : Region.Mode} {ops : Array Oper} {Q : Exit → Act → World → Prop} {l : Nat} (hro : F.round = none) (hd : noDefer ops = true) : ∀ (fuel : Nat) (listed : Array Bool) (a : Act) (w : World),
    wpAnyIn F n P md ops Q fuel listed a w → wpAnyIn (F.inRound l) n P md ops Q fuel listed a w
  | 0, _, _, _, h => h
  | fuel + 1, _listed, _, _, h => ⟨h.1, fun i hi => wpOpIn_inRound hro hd (wpOpIn_mono (fun a' w' => wpAnyIn_inRound hro hd fuel _ a' w') (h.2 i hi))⟩
theorem wpIn_region_inRound {F : Fence} {n : Nat} {P : Program} {ops : Array Oper} {Q : Exit → Act → World → Prop} {id l : Nat} {a : Act} {w : World} (hro : F.round = none) (hm : P.follows .mixedOrders = true) (hd : noDefer ops = true)
    (h : wpAnyIn F n P .any ops Q ops.size (Array.replicate ops.size false) a w.drew) : (Code.region id ops true).wpIn (F.inRound l) n P Q a w :=
  wpIn_region_any hm (wpAnyIn_inRound hro hd _ _ _ _ h)

/-- How the body of a round may be left. -/
def postL {α : Type} (bs : Nat → Prop) (I : List α → World → Prop) (Ix : Code → List α → World → Prop) (xs : List α) (W : World) : Exit → Act → World → Prop
  | .normal, _, W' => Kept bs W W' ∧ I xs W'
  | .ret, _, W' => Kept bs W W' ∧ Ix .ret xs W'
  | .exit id, _, W' => Kept bs W W' ∧ Ix (.exit id) xs W'
  | .goto t, _, W' => Kept bs W W' ∧ Ix (.goto t) xs W'
  | .panic _, _, _ => False
  | .outgrown, _, _ => False

theorem wpIn_rangeFunc_L2 {α : Type} {P : Program} {n : Nat} {g : Operand} {ps : Array Tmp} {assign body : Code} {Q : Exit → Act → World → Prop} {a : Act} {w : World}
    {gf : Nat} {lb : Array Value} (hg : a.eval g = .func (.func gf) #[] lb) (eg : ∀ args w, (callFunc gf args).run P w = .ok (.enter gf args) w)
    {encs : α → Array Value} {k : Nat} {Kb : Nat → Prop} {L : List α} {Ok : World → Prop} (hseq : ∀ m, SeqL P m gf lb encs k Kb L Ok) (hKb : ∀ r, Kb r → r < w.heap.size)
    (hOk : ∀ W, Below w.heap.size w W → Ok W) (hps : ∀ x, (encs x).size = ps.size)
    (I : List α → World → Prop) (Ix : Code → List α → World → Prop) (hI : AbidesIn w.heap.size (k + 2) I) (hIx : ∀ c, AbidesIn w.heap.size (k + 2) (Ix c)) (h0 : I [] w) 
    (hround : ∀ (l : Nat) (pre : List α) (x : α) (W : World) (K : Act → World → Prop), pre ++ [x] <+: L →
      (∀ a', (∀ W2, I pre W2 → w.heap.size + (k + 2) ≤ W2.heap.size → body.wpIn (Fence.wide.inRound l) (n - 1 - 1) P (postL (fun r => Kb r ∨ (w.heap.size ≤ r ∧ r < w.heap.size + (k + 2))) I Ix (pre ++ [x]) W2) a' W2) → K a' W) →
      assign.wpIn (Fence.wide.inRound l) (n - 1 - 1) P (Exit.then K (fun _ _ _ => False)) { tmps := (ps.zip (encs x)).foldl (fun t (p, v) => t.setIfInBounds p v) a.tmps, defers := [] } W)
    (hdone : ∀ (W : World), I L W → W.heap[w.heap.size]? = some (.deferred (some [])) → Q .normal { a with defers := { target := .collected w.heap.size, args := #[] } :: a.defers } W)
    (hstop : ∀ (c : Code) (pre : List α) (W : World), pre <+: L → Ix c pre W → W.heap[w.heap.size]? = some (.deferred (some [])) → c.wpIn Fence.wide n P Q { a with defers := { target := .collected w.heap.size, args := #[] } :: a.defers } W) :
    (Code.rangeFunc g ps assign body).wpIn Fence.wide n P Q a w := by
  refine wpIn_rangeFunc ?_
  intro fn hfn
  rw [show Fence.wide.round = none from rfl]
  obtain ⟨rec, hrec⟩ : ∃ rec : LoopState → Option Code → Loop, rec = fun st pe => { state := st, pending := pe, fn, tmps := a.tmps, params := ps, assign, body, defers := w.heap.size } := ⟨_, rfl⟩
  obtain ⟨W1, hW1⟩ : ∃ W1, (w.alloc (.deferred (some []))).alloc (.loop (rec .ready none)) = W1 := ⟨_, rfl⟩
  have hs1 : W1.heap.size = w.heap.size + 2 := by rw [← hW1]; simp
  have hL1 : W1.heap[w.heap.size + 1]? = some (.loop (rec .ready none)) := by
    rw [← hW1]; have := World.alloc_heap_new (w.alloc (.deferred (some []))) (.loop (rec .ready none)); rwa [World.size_alloc] at this
  have hK1 : W1.heap[w.heap.size]? = some (.deferred (some [])) := by
    rw [← hW1]; exact (Below.heap_alloc _ _ _ (by simp)).trans (World.alloc_heap_new w _)
  have hI1 : I [] W1 := by rw [← hW1]; exact hI.alloc _ (hI.alloc _ h0)
  have hb1 : Below w.heap.size w W1 := by
    rw [← hW1]; exact ((Below.refl _ w).alloc (Nat.le_refl _) _).alloc (by simp) _
  refine ⟨w.heap.size + 1, [{ target := .collected w.heap.size, args := #[] }], W1, { target := .fn (.func gf) lb, args := #[.func (.yield (w.heap.size + 1)) #[] #[]] }, W1, gf,
    #[.func (.yield (w.heap.size + 1)) #[] #[]] ++ lb, W1, ?_, ?_, fun _ _ => trivial, ?_, fun h => by simp [Fence.wide] at h, ?_⟩
  · rw [← hW1, hrec]; exact run_enterLoop_outer _ _ _ _ _
  · simp only [resolve, hg]
    simp [go_sem]
  · simp [invoke, go_sem, eg]
  · refine (hseq (n - 1) (w.heap.size + 1)
      (fun pre W => I pre W ∧ W.heap[w.heap.size + 1]? = some (.loop (rec .ready none)) ∧ W.heap[w.heap.size]? = some (.deferred (some [])))
      (fun pre W => ∃ c, Ix c pre W ∧ W.heap[w.heap.size + 1]? = some (.loop (rec .done (some c))) ∧ W.heap[w.heap.size]? = some (.deferred (some [])))
      W1 (hOk _ hb1)
      ((hI.mono (by omega) (by omega)).and ((abidesIn_block (fun _ => _) (.inl (by omega))).and (abidesIn_block (fun _ => _) (.inl (by omega)))))
      (fun s A B row hs hg' hr => by
        obtain ⟨c, hc, hl, hk⟩ := hs
        exact ⟨c, (hIx c).mono (by omega) (by omega) s A B row hc hg' hr, abidesIn_block (β := Unit) (k := k) (fun _ => _) (.inl (by omega)) () A B row hl hg' hr, abidesIn_block (β := Unit) (k := k) (fun _ => _) (.inl (by omega)) () A B row hk hg' hr⟩)
      ?_ ⟨hI1, hL1, hK1⟩).mono ?_
    · rintro pre x W hpx ⟨hi, hl, hk⟩ hks
      have hlt : w.heap.size + 1 < W.heap.size := (Array.getElem?_eq_some_iff.1 hl).1
      have hy := run_yield (P := P) (args := encs x) hl (by rw [hrec]; exact hps x)
      rw [hrec] at hy
      refine ⟨fn, _, assign, body, hy, roundIn_of_wpIn hfn (hround _ pre x W _ hpx (fun a' hbd => ⟨_, run_beginRound hl (by rw [hrec]), ?_⟩))⟩
      have hl2 : (W.putObj (w.heap.size + 1) (.loop { rec .ready none with state := .busy })).heap[w.heap.size + 1]? = some (.loop { rec .ready none with state := .busy }) := World.putObj_heap_same hlt
      have hk2 : (W.putObj (w.heap.size + 1) (.loop { rec .ready none with state := .busy })).heap[w.heap.size]? = some (.deferred (some [])) := (World.putObj_heap_other (by omega)).trans hk
      refine wpIn_mono (hbd _ (hI.put _ hi (by omega) (by omega)) (by simp; omega)) ?_
      have fin : ∀ (jump : Option Code) (W3 : World), Kept (fun r => Kb r ∨ (w.heap.size ≤ r ∧ r < w.heap.size + (k + 2))) (W.putObj (w.heap.size + 1) (.loop { rec .ready none with state := .busy })) W3 →
          (Instr.endRound (w.heap.size + 1) jump).run P W3 = .ok (.bool jump.isNone) (W3.putObj (w.heap.size + 1) (.loop (rec (if jump.isNone then .ready else .done) jump))) ∧
          (W3.putObj (w.heap.size + 1) (.loop (rec (if jump.isNone then .ready else .done) jump))).heap[w.heap.size + 1]? = some (.loop (rec (if jump.isNone then .ready else .done) jump)) ∧
          (W3.putObj (w.heap.size + 1) (.loop (rec (if jump.isNone then .ready else .done) jump))).heap[w.heap.size]? = some (.deferred (some [])) := fun jump W3 hk3 => by
        have hl3 := (hk3.same (w.heap.size + 1) (.inr (by omega))).trans hl2
        have hk4 := (hk3.same w.heap.size (.inr (by omega))).trans hk2
        have := run_endRound (P := P) jump hl3
        rw [hrec] at this ⊢
        exact ⟨this, World.putObj_heap_same (Array.getElem?_eq_some_iff.1 hl3).1, (World.putObj_heap_other (by omega)).trans hk4⟩
      have kp : ∀ (o3 : Obj) (W3 : World), Kept (fun r => Kb r ∨ (w.heap.size ≤ r ∧ r < w.heap.size + (k + 2))) (W.putObj (w.heap.size + 1) (.loop { rec .ready none with state := .busy })) W3 →
          Kept (fun r => Kb r ∨ (W1.heap.size ≤ r ∧ r < W1.heap.size + k)) W (W3.putObj (w.heap.size + 1) o3) := fun o3 W3 hk3 =>
        ⟨by have := hk3.size; simp at this ⊢; omega, fun r hr => by
          have hne : r ≠ w.heap.size + 1 := by
            rcases hr with hr | hr
            · have := hKb r hr; omega
            · omega
          rw [World.putObj_heap_other hne, hk3.same r (by rcases hr with hr | hr; exact .inl hr; exact .inr (by omega)), World.putObj_heap_other hne]⟩
      rintro e a3 W3 hp
      cases e with
      | normal =>
        obtain ⟨hk3, hi3⟩ := hp
        obtain ⟨hr, hl4, hk4⟩ := fin none W3 hk3
        exact ⟨_, _, hr, .inl ⟨rfl, ⟨hI.put _ hi3 (by omega) (by omega), hl4, hk4⟩, kp _ _ hk3⟩⟩
      | ret =>
        obtain ⟨hk3, hi3⟩ := hp
        obtain ⟨hr, hl4, hk4⟩ := fin (some .ret) W3 hk3
        exact ⟨_, _, hr, .inr ⟨rfl, ⟨.ret, (hIx _).put _ hi3 (by omega) (by omega), hl4, hk4⟩, kp _ _ hk3⟩⟩
      | exit id =>
        obtain ⟨hk3, hi3⟩ := hp
        obtain ⟨hr, hl4, hk4⟩ := fin (some (.exit id)) W3 hk3
        exact ⟨_, _, hr, .inr ⟨rfl, ⟨.exit id, (hIx _).put _ hi3 (by omega) (by omega), hl4, hk4⟩, kp _ _ hk3⟩⟩
      | goto t =>
        obtain ⟨hk3, hi3⟩ := hp
        obtain ⟨hr, hl4, hk4⟩ := fin (some (.goto t)) W3 hk3
        exact ⟨_, _, hr, .inr ⟨rfl, ⟨.goto t, (hIx _).put _ hi3 (by omega) (by omega), hl4, hk4⟩, kp _ _ hk3⟩⟩
      | panic ch => exact hp.elim
      | outgrown => exact hp.elim
    · rintro e W2 ⟨⟨v, rfl⟩, (⟨hi, hl, hk⟩ | ⟨pre, hpl, c, hi, hl, hk⟩)⟩
      · exact ⟨none, _, by have := run_endLoop (P := P) hl (by rw [hrec]; simp); rw [hrec] at this; exact this, hdone _ (hI.put _ hi (by omega) (by omega)) ((World.putObj_heap_other (by omega)).trans hk)⟩
      · exact ⟨some c, _, by have := run_endLoop (P := P) hl (by rw [hrec]; simp); rw [hrec] at this; exact this, hstop c pre _ hpl ((hIx c).put _ hi (by omega) (by omega)) ((World.putObj_heap_other (by omega)).trans hk)⟩
theorem wpIn_rangeFunc_L {α : Type} {P : Program} {n : Nat} {g : Operand} {ps : Array Tmp} {assign body : Code} {Q : Exit → Act → World → Prop} {a : Act} {w : World}
    {gf : Nat} {lb : Array Value} (hg : a.eval g = .func (.func gf) #[] lb) (eg : ∀ args w, (callFunc gf args).run P w = .ok (.enter gf args) w)
    {encs : α → Array Value} {k : Nat} {Kb : Nat → Prop} {L : List α} {Ok : World → Prop} (hseq : ∀ m, SeqL P m gf lb encs k Kb L Ok) (hKb : ∀ r, Kb r → r < w.heap.size)
    (hOk : ∀ W, Below w.heap.size w W → Ok W) (hps : ∀ x, (encs x).size = ps.size)
    (I : List α → World → Prop) (Ix : Code → List α → World → Prop) (hI : AbidesIn w.heap.size (k + 2) I) (hIx : ∀ c, AbidesIn w.heap.size (k + 2) (Ix c)) (h0 : I [] w) (a₁ : α → Act)
    (hassign : ∀ (l : Nat) (x : α) (W : World) (K : Act → World → Prop), K (a₁ x) W →
      assign.wpIn (Fence.wide.inRound l) (n - 1 - 1) P (Exit.then K (fun _ _ _ => False)) { tmps := (ps.zip (encs x)).foldl (fun t (p, v) => t.setIfInBounds p v) a.tmps, defers := [] } W)
    (hbody : ∀ (l : Nat) (pre : List α) (x : α) (W : World), pre ++ [x] <+: L → I pre W → w.heap.size + (k + 2) ≤ W.heap.size →
      body.wpIn (Fence.wide.inRound l) (n - 1 - 1) P (postL (fun r => Kb r ∨ (w.heap.size ≤ r ∧ r < w.heap.size + (k + 2))) I Ix (pre ++ [x]) W) (a₁ x) W)
    (hdone : ∀ (W : World), I L W → W.heap[w.heap.size]? = some (.deferred (some [])) → Q .normal { a with defers := { target := .collected w.heap.size, args := #[] } :: a.defers } W)
    (hstop : ∀ (c : Code) (pre : List α) (W : World), pre <+: L → Ix c pre W → W.heap[w.heap.size]? = some (.deferred (some [])) → c.wpIn Fence.wide n P Q { a with defers := { target := .collected w.heap.size, args := #[] } :: a.defers } W) :
    (Code.rangeFunc g ps assign body).wpIn Fence.wide n P Q a w :=
  wpIn_rangeFunc_L2 hg eg hseq hKb hOk hps I Ix hI hIx h0 (fun l pre x W K hpx hK => hassign l x W K (hK _ (fun W2 hi hs => hbody l pre x W2 hpx hi hs))) hdone hstop
/-- An append, by its run. -/
theorem wpListIn_append_run {F : Fence} {n : Nat} {P : Program} {w : World} {ops : Array Oper} {rest : List Oper} {o : Oper} {a : Act} {Q : Exit → Act → World → Prop} (hgd : o.guard = none) (s x : Operand) (t : TypeId)
    (ho : o.op = .call { callee := .builtin .append, args := #[s, x], argTypes := #[t, t] }) (v u : Value) (hs : a.eval s = v) (hx : a.eval x = u) (v' : Value) (w' : World)
    (hrun : (Builtin.append_ #[t, t] o.type #[v, u]).run P w = .ok v' w') (h : wpListIn F n P ops Q rest (a.put o.dst v') w') : wpListIn F n P ops Q (o :: rest) a w := by
  refine wpListIn_plain hgd fun K hK' => ?_
  unfold Oper.wpIn
  refine ⟨?_, ?_⟩
  · simp [Oper.about, ho, resolve, Target.leads, Sem.run_pure]
  · rw [Oper.semAt_plain F _ _ (by rw [ho]; intro c hc'; cases hc')]
    simp [execOp, ho, resolve, invoke, builtin, hs, hx, hrun, Result.andThen]
    exact hK' _ _ h
end Go.Proofs.YtnaekjmlikhglaaDoor
/- A slice at an offset, with room of its own: elements of several cells, told one behind the other. Append, parts, one element turned, cleared. Over any program. -/
namespace Go.Proofs.YtnaekjmlikhglaaDoor
open Go.RowKit
variable {P : Program}

/-- A type of sz cells. -/
def ElemS (P : Program) (e : TypeId) (sz : Nat) : Prop := ∃ i z, P.info? e = some i ∧ i.zero = some z ∧ i.size = sz ∧ i.bytes ≤ 1024 ∧ z.cells.size = sz ∧ 0 < sz
theorem elemS_of {e : TypeId} {z : Value} {n sz : Nat} (h : (P.info? e).map (fun i => (i.zero, i.size, i.bytes)) = some (some z, sz, n)) (hn : n ≤ 1024) (hz : z.cells.size = sz) (h0 : 0 < sz) : ElemS P e sz := by
  cases hi : P.info? e with
  | none => simp [hi] at h
  | some i =>
    simp only [hi, Option.map_some, Option.some.injEq, Prod.mk.injEq] at h
    exact ⟨i, z, hi, h.1, h.2.1, by omega, hz, h0⟩

/-- The slice v has n elements, whose cells, one behind the other, are xs; all its room is there and may be written. -/
def Lies (w : World) (sz : Nat) (v : Value) (n : Nat) (xs : List Value) : Prop :=
  xs.length = n * sz ∧
  ((v = .slice none 0 0 ∧ n = 0) ∨
   ∃ g o c, v = .slice (some ⟨g, o, none⟩) n c ∧ n ≤ c ∧ c ≤ maxLen ∧ g < w.heap.size ∧ w.rangeAt g o xs ∧ w.there g o (c * sz))

section
variable {w w' : World} {sz n : Nat} {v : Value} {xs : List Value}
theorem lies_nil (w : World) (sz : Nat) : Lies w sz (.slice none 0 0) 0 [] := ⟨by simp, .inl ⟨rfl, rfl⟩⟩
theorem Lies.lt (h : Lies w sz v n xs) : ∀ k, v.ownBlock = some k → k < w.heap.size := by
  intro k hk
  rcases h.2 with ⟨rfl, _⟩ | ⟨g, o, c, rfl, _, _, hg, _⟩
  · cases hk
  · cases hk; exact hg
/-- The block where it lies is as it was. -/
theorem Lies.same (h : Lies w sz v n xs) (hs : w.heap.size ≤ w'.heap.size) (hb : ∀ k, v.ownBlock = some k → w'.heap[k]? = w.heap[k]?) : Lies w' sz v n xs := by
  refine ⟨h.1, ?_⟩
  rcases h.2 with h2 | ⟨g, o, c, rfl, hn, hc, hg, hr, ht⟩
  · exact .inl h2
  · have e := hb g rfl
    refine .inr ⟨g, o, c, rfl, hn, hc, by omega, fun j u hu => ?_, fun j hj => ?_⟩
    · rw [World.cell?_of_block (w := w) e]; exact hr j u hu
    · rw [World.cell?_of_block (w := w) e, World.frozen?_of_block (w := w) e]; exact ht j hj
theorem Lies.grown (h : Lies w sz v n xs) {row : Option Nat} (hg : w.grownBy w' row) (hne : ∀ k, v.ownBlock = some k → some k ≠ row) : Lies w' sz v n xs :=
  h.same hg.size (fun k hk => hg.block k (h.lt k hk) (hne k hk))
theorem Lies.alloc (h : Lies w sz v n xs) (o : Obj) : Lies (w.alloc o) sz v n xs :=
  h.same (by simp) (fun k hk => heap_alloc_old w o (h.lt k hk))
theorem Lies.below (h : Lies w sz v n xs) (hb : Below w.heap.size w w') : Lies w' sz v n xs := h.same hb.size (fun k hk => hb.block k (h.lt k hk))
/-- It is a slice's value. -/
theorem Lies.form (h : Lies w sz v n xs) : ∃ a c, v = .slice a n c := by
  rcases h.2 with ⟨rfl, rfl⟩ | ⟨g, o, c, rfl, _⟩
  · exact ⟨_, _, rfl⟩
  · exact ⟨_, _, rfl⟩
theorem Lies.len (h : Lies w sz v n xs) {t e : TypeId} (ht : P.underlying t = some (.slice e)) (T : TypeId) (W : World) : (Builtin.len_ #[t] T #[v]).run P W = .ok (.int .i64 (n : Int)) W := by
  obtain ⟨a, c, rfl⟩ := h.form
  simp [Builtin.len_, run_underlying ht, Result.andThen, goInt]
/-- Its elements' addresses: one block, one place, and what stands there. -/
theorem Lies.index (h : Lies w sz v n xs) {t e : TypeId} (ht : P.underlying t = some (.slice e)) (hz : ∀ w, (sizeOf e).run P w = .ok sz w) :
    ∃ g o, (0 < n → v.ownBlock = some g ∧ g < w.heap.size) ∧ (∀ i, i < n → ∀ W, (Instr.indexAt t v (.int .i64 (i : Int))).run P W = .ok (.pointer (some ⟨g, o + i * sz, none⟩)) W) ∧
      ∀ i j, i < n → j < sz → w.cell? ⟨g, o + i * sz + j, none⟩ = xs[i * sz + j]? ∧ w.frozen? ⟨g, o + i * sz + j, none⟩ = false := by
  rcases h.2 with ⟨rfl, rfl⟩ | ⟨g, o, c, rfl, hn, hc, hg, hr, hth⟩
  · exact ⟨0, 0, fun h0 => absurd h0 (Nat.lt_irrefl 0), fun i hi => absurd hi (Nat.not_lt_zero i), fun i j hi => absurd hi (Nat.not_lt_zero i)⟩
  · refine ⟨g, o, fun _ => ⟨rfl, hg⟩, fun i hi W => ?_, fun i j hi hj => ?_⟩
    · have h1 : (0 : Int) ≤ (i : Int) ∧ (i : Int) < (n : Int) := by omega
      have hadd : (⟨g, o, none⟩ : Addr).add (i * sz) = ⟨g, o + i * sz, none⟩ := Addr.add_mid ..
      simp [Instr.indexAt, run_underlying ht, asIntOf, hz, h1, go_sem]
      intro hge; omega
    · have hlt : i * sz + j < n * sz := by
        have : (i + 1) * sz ≤ n * sz := Nat.mul_le_mul_right sz hi
        rw [Nat.add_mul, Nat.one_mul] at this; omega
      have hcl : n * sz ≤ c * sz := Nat.mul_le_mul_right sz hn
      refine ⟨?_, by rw [Nat.add_assoc]; exact (hth (i * sz + j) (by omega)).2⟩
      have hix : i * sz + j < xs.length := by rw [h.1]; exact hlt
      rw [Nat.add_assoc, hr (i * sz + j) (xs[i * sz + j]'hix) (List.getElem?_eq_getElem hix), List.getElem?_eq_getElem hix]
/-- What stands behind the first m. -/
theorem Lies.from (h : Lies w sz v n xs) {t e : TypeId} (ht : P.underlying t = some (.slice e)) (hz : ∀ w, (sizeOf e).run P w = .ok sz w) (m : Nat) (hm : m ≤ n) :
    ∃ V, (∀ W, (Instr.slice t v (some (.int .i64 (m : Int))) none none).run P W = .ok V W) ∧ Lies w sz V (n - m) (xs.drop (m * sz)) ∧ V.ownBlock = v.ownBlock := by
  have hlen : (xs.drop (m * sz)).length = (n - m) * sz := by rw [List.length_drop, h.1, Nat.sub_mul]
  rcases h.2 with ⟨rfl, rfl⟩ | ⟨g, o, c, rfl, hn, hc, hg, hr, hth⟩
  · obtain rfl : m = 0 := by omega
    refine ⟨.slice none 0 0, fun W => ?_, ⟨hlen, .inl ⟨rfl, rfl⟩⟩, rfl⟩
    simp [Instr.slice, run_underlying ht, Instr.sliceBounds, run_sliceBound, Result.andThen, hz]
  · by_cases hcm : c = m
    · subst hcm
      refine ⟨.slice (some ⟨g, o, none⟩) (n - c) 0, fun W => ?_, ⟨hlen, .inr ⟨g, o, 0, rfl, by omega, Nat.zero_le _, hg, fun j u hu => ?_, fun j hj => ?_⟩⟩, rfl⟩
      · simp [Instr.slice, run_underlying ht, Instr.sliceBounds, run_sliceBound, Result.andThen, hz, hm]
      · have : j < (n - c) * sz := by rw [← hlen]; exact (List.getElem?_eq_some_iff.1 hu).1
        rw [show n - c = 0 by omega, Nat.zero_mul] at this; omega
      · rw [Nat.zero_mul] at hj; omega
    · have hadd : (⟨g, o, none⟩ : Addr).add (m * sz) = ⟨g, o + m * sz, none⟩ := Addr.add_mid ..
      have hmul : m * sz + (c - m) * sz = c * sz := by rw [← Nat.add_mul]; congr 1; omega
      refine ⟨.slice (some ⟨g, o + m * sz, none⟩) (n - m) (c - m), fun W => ?_, ⟨hlen, .inr ⟨g, o + m * sz, c - m, rfl, by omega, by omega, hg, fun j u hu => ?_, fun j hj => ?_⟩⟩, rfl⟩
      · simp [Instr.slice, run_underlying ht, Instr.sliceBounds, run_sliceBound, Result.andThen, hz, hm, hcm, hadd]
      · rw [Nat.add_assoc]
        rw [List.getElem?_drop] at hu
        exact hr _ u hu
      · rw [Nat.add_assoc]
        exact hth (m * sz + j) (by omega)
/-- The first m. -/
theorem Lies.upto (h : Lies w sz v n xs) {t e : TypeId} (ht : P.underlying t = some (.slice e)) (hz : ∀ w, (sizeOf e).run P w = .ok sz w) (m : Nat) (hm : m ≤ n) :
    ∃ V, (∀ W, (Instr.slice t v none (some (.int .i64 (m : Int))) none).run P W = .ok V W) ∧ Lies w sz V m (xs.take (m * sz)) ∧ V.ownBlock = v.ownBlock := by
  have hmul : m * sz ≤ n * sz := Nat.mul_le_mul_right sz hm
  have hlen : (xs.take (m * sz)).length = m * sz := by rw [List.length_take, h.1]; omega
  rcases h.2 with ⟨rfl, rfl⟩ | ⟨g, o, c, rfl, hn, hc, hg, hr, hth⟩
  · obtain rfl : m = 0 := by omega
    refine ⟨.slice none 0 0, fun W => ?_, ⟨hlen, .inl ⟨rfl, rfl⟩⟩, rfl⟩
    simp [Instr.slice, run_underlying ht, Instr.sliceBounds, run_sliceBound, Result.andThen, hz]
  · have hmc : m ≤ c := by omega
    refine ⟨.slice (some ⟨g, o, none⟩) m c, fun W => ?_, ⟨hlen, .inr ⟨g, o, c, rfl, hmc, hc, hg, fun j u hu => ?_, hth⟩⟩, rfl⟩
    · simp [Instr.slice, run_underlying ht, Instr.sliceBounds, run_sliceBound, Result.andThen, hz, hmc, Addr.add]
    · have hj : j < m * sz := by rw [← hlen]; exact (List.getElem?_eq_some_iff.1 hu).1
      rw [List.getElem?_take_of_lt hj] at hu
      exact hr j u hu
/-- What stands from a on, up to b. -/
theorem Lies.mid (h : Lies w sz v n xs) {t e : TypeId} (ht : P.underlying t = some (.slice e)) (hz : ∀ w, (sizeOf e).run P w = .ok sz w) (a b : Nat) (hab : a ≤ b) (hb : b ≤ n) :
    ∃ V, (∀ W, (Instr.slice t v (some (.int .i64 (a : Int))) (some (.int .i64 (b : Int))) none).run P W = .ok V W) ∧ Lies w sz V (b - a) ((xs.drop (a * sz)).take ((b - a) * sz)) ∧ V.ownBlock = v.ownBlock := by
  have hmul : a * sz + (b - a) * sz = b * sz := by rw [← Nat.add_mul]; congr 1; omega
  have hbn : b * sz ≤ n * sz := Nat.mul_le_mul_right sz hb
  have hlen : ((xs.drop (a * sz)).take ((b - a) * sz)).length = (b - a) * sz := by rw [List.length_take, List.length_drop, h.1]; omega
  rcases h.2 with ⟨rfl, rfl⟩ | ⟨g, o, c, rfl, hn, hc, hg, hr, hth⟩
  · obtain rfl : b = 0 := by omega
    obtain rfl : a = 0 := by omega
    refine ⟨.slice none 0 0, fun W => ?_, ⟨by simp, .inl ⟨rfl, rfl⟩⟩, rfl⟩
    simp [Instr.slice, run_underlying ht, Instr.sliceBounds, run_sliceBound, Result.andThen, hz]
  · have hbc : b ≤ c := by omega
    by_cases hca : c = a
    · refine ⟨.slice (some ⟨g, o, none⟩) (b - a) 0, fun W => ?_, ⟨hlen, .inr ⟨g, o, 0, rfl, by omega, Nat.zero_le _, hg, fun j u hu => ?_, fun j hj => ?_⟩⟩, rfl⟩
      · have hbc' : b ≤ a := by omega
        simp [Instr.slice, run_underlying ht, Instr.sliceBounds, run_sliceBound, Result.andThen, hz, hab, hca, hbc']
      · have : j < (b - a) * sz := by rw [← hlen]; exact (List.getElem?_eq_some_iff.1 hu).1
        rw [show b - a = 0 by omega, Nat.zero_mul] at this; omega
      · rw [Nat.zero_mul] at hj; omega
    · have hadd : (⟨g, o, none⟩ : Addr).add (a * sz) = ⟨g, o + a * sz, none⟩ := Addr.add_mid ..
      have hmc : a * sz + (c - a) * sz = c * sz := by rw [← Nat.add_mul]; congr 1; omega
      refine ⟨.slice (some ⟨g, o + a * sz, none⟩) (b - a) (c - a), fun W => ?_, ⟨hlen, .inr ⟨g, o + a * sz, c - a, rfl, by omega, by omega, hg, fun j u hu => ?_, fun j hj => ?_⟩⟩, rfl⟩
      · simp [Instr.slice, run_underlying ht, Instr.sliceBounds, run_sliceBound, Result.andThen, hz, hab, hbc, hca, hadd]
      · have hj : j < (b - a) * sz := by rw [← hlen]; exact (List.getElem?_eq_some_iff.1 hu).1
        rw [List.getElem?_take_of_lt hj, List.getElem?_drop] at hu
        rw [Nat.add_assoc]
        exact hr _ u hu
      · rw [Nat.add_assoc]
        exact hth (a * sz + j) (by omega)
/-- One cell turned. -/
theorem Lies.set {g o c : Nat} (h : Lies w sz (.slice (some ⟨g, o, none⟩) n c) n xs) (k : Nat) (y : Value) (hk : k < n * sz) :
    Lies (w.setCell ⟨g, o + k, none⟩ y) sz (.slice (some ⟨g, o, none⟩) n c) n (xs.set k y) ∧ (w.cell? ⟨g, o + k, none⟩).isSome = true ∧ w.frozen? ⟨g, o + k, none⟩ = false := by
  rcases h.2 with ⟨h0, _⟩ | ⟨g', o', c', he, hn, hc, hg, hr, hth⟩
  · cases h0
  · simp only [Value.slice.injEq, Option.some.injEq, Addr.mk.injEq, and_true, true_and] at he
    obtain ⟨⟨rfl, rfl⟩, rfl⟩ := he
    have hcl : n * sz ≤ c * sz := Nat.mul_le_mul_right sz hn
    obtain ⟨hs, hf⟩ := hth k (by omega)
    obtain ⟨u0, hu0⟩ := Option.isSome_iff_exists.1 hs
    refine ⟨⟨by rw [List.length_set]; exact h.1, .inr ⟨g, o, c, rfl, hn, hc, by simpa [World.setCell] using hg, fun j u hu => ?_, fun j hj => ?_⟩⟩, hs, hf⟩
    · by_cases hj : k = j
      · subst hj
        rw [List.getElem?_set_self (by rw [h.1]; exact hk)] at hu
        obtain rfl := Option.some.inj hu
        exact World.cell?_setCell_same _ _ _ hu0
      · rw [List.getElem?_set_ne hj] at hu
        rw [World.cell?_setCell_other (h := show (⟨g, o + k, none⟩ : Addr) ≠ ⟨g, o + j, none⟩ by intro h; simp only [Addr.mk.injEq] at h; omega)]
        exact hr j u hu
    · obtain ⟨h1, h2⟩ := hth j hj
      refine ⟨?_, by simpa using h2⟩
      obtain ⟨u1, hu1⟩ := Option.isSome_iff_exists.1 h1
      obtain ⟨v', hv'⟩ := cell?_setCell_some (p := ⟨g, o + k, none⟩) (x := y) hu1
      rw [hv']; rfl

/-- What it hands to an append as the second one. -/
theorem Lies.src (h : Lies w sz v n xs) {t e : TypeId} (ht : P.underlying t = some (.slice e)) (h1 : ∀ u ∈ xs, u.oneCell' = true) : Src P sz t v n xs w := by
  rcases h.2 with ⟨rfl, rfl⟩ | ⟨g, o, c, rfl, _, _, _, hr, _⟩
  · obtain rfl : xs = [] := List.length_eq_zero_iff.1 (by rw [h.1, Nat.zero_mul])
    exact Src.ofNil w ht 0
  · exact Src.ofSlice w ht ⟨g, o, none⟩ n c xs h.1 (fun j u hu => by rw [Addr.add_mid]; exact hr j u hu) h1
/-- A block just laid holds them. -/
theorem lies_new (w : World) (e : TypeId) (xs : List Value) (Z : Array Value) (cap : Nat) (hx : xs.length = n * sz) (hc : n ≤ cap) (hm : cap ≤ maxLen) (hz : Z.size = (cap - n) * sz) :
    Lies (w.alloc (.cells (xs.toArray ++ Z) e)) sz (.slice (some ⟨w.heap.size, 0, none⟩) n cap) n xs := by
  have hr : Row (w.alloc (.cells (xs.toArray ++ Z) e)) w.heap.size (xs.toArray ++ Z) e := row_new w _ _
  have hmul : n * sz + (cap - n) * sz = cap * sz := by rw [← Nat.add_mul]; congr 1; omega
  refine ⟨hx, .inr ⟨w.heap.size, 0, cap, rfl, hc, hm, hr.lt, fun j u hu => ?_, fun j hj => ?_⟩⟩
  · rw [Nat.zero_add, cell_of_row _ _ j _ _ _ hr]
    have hl : j < xs.length := (List.getElem?_eq_some_iff.1 hu).1
    rw [Array.getElem?_append_left (by simpa using hl)]
    simpa using hu
  · rw [Nat.zero_add]
    refine ⟨?_, hr.frozen j⟩
    rw [cell_of_row _ _ j _ _ _ hr]
    have : j < (xs.toArray ++ Z).size := by rw [Array.size_append, hz, List.size_toArray, hx]; omega
    rw [Array.getElem?_eq_getElem this]; rfl

/-- Append, whatever is appended: where the new one lies, what it holds, what has turned. -/
theorem Lies.append (h : Lies w sz v n xs) {t tx e : TypeId} (ht : P.underlying t = some (.slice e)) (he : ElemS P e sz) (h1 : ∀ u ∈ xs, u.oneCell' = true) (ty : TypeId) (x : Value) (m : Nat) (news : List Value) (hs : Src P sz tx x m news w) (hb : n + m ≤ 1000000000) :
    ∃ v' w', (Builtin.append_ #[t, tx] ty #[v, x]).run P w = .ok v' w' ∧ Lies w' sz v' (n + m) (xs ++ news) ∧ w.grownBy w' v.ownBlock ∧ (v'.ownBlock = v.ownBlock ∨ v'.ownBlock = some w.heap.size) := by
  obtain ⟨i, z, hi, hz, hsz, hby, hzc, hpos⟩ := he
  subst hsz
  have hnl := hs.newsLen
  have hxl := h.1
  have hfit : ∀ old, old < n + m → Builtin.nextslicecap (n + m) old * i.bytes ≤ 281474976710656 := fun old ho => growslice_fits ho (by
    have : (n + m) * i.bytes ≤ 1000000000 * 1024 := Nat.mul_le_mul hb hby
    omega)
  -- a new block
  have grow : ∀ (bs : Option Addr) (sc : Nat), v = .slice bs n sc → sc < n + m → (Builtin.firstCells i.size n (.slice bs n sc)).run P w.drew = .ok xs.toArray w.drew →
      ∃ v' w', (Builtin.append_ #[t, tx] ty #[v, x]).run P w = .ok v' w' ∧ Lies w' i.size v' (n + m) (xs ++ news) ∧ w.grownBy w' v.ownBlock ∧ (v'.ownBlock = v.ownBlock ∨ v'.ownBlock = some w.heap.size) := by
    rintro bs sc rfl hg hold
    have hrun := run_append_grow_src (P := P) w t tx ty e i z ht hi hz bs n sc xs hold x m news hs hg (by omega) (hfit sc hg)
    have hge := grownCap_ge w (n + m) sc e
    have hcm := grownCap_le_maxLen w (n + m) sc e (by simp only [maxLen]; omega)
    refine ⟨_, _, hrun, ?_, ⟨rfl, rfl, rfl, by simp, fun k hk _ => heap_alloc_old w.drew _ hk⟩, .inr rfl⟩
    exact lies_new w.drew e (xs ++ news) _ _ (by rw [List.length_append, hxl, hnl, Nat.add_mul]) hge hcm (by rw [size_zeroCells, hzc])
  rcases h.2 with ⟨rfl, rfl⟩ | ⟨g, o, c, rfl, hnc, hc, hg, hr, hth⟩
  · obtain rfl : xs = [] := List.length_eq_zero_iff.1 (by rw [hxl, Nat.zero_mul])
    by_cases hm : m = 0
    · subst hm
      obtain rfl : news = [] := List.length_eq_zero_iff.1 (by rw [hnl, Nat.zero_mul])
      exact ⟨_, w, run_append_nothing w t tx ty e i ht hi none 0 0 (Nat.le_refl _) x hs, lies_nil w i.size, ⟨rfl, rfl, rfl, Nat.le_refl _, fun _ _ _ => rfl⟩, .inl rfl⟩
    · exact grow none 0 rfl (by omega) (run_firstCells_none w.drew i.size 0 0 0)
  · by_cases hroom : n + m ≤ c
    · have hcl : n * i.size + m * i.size ≤ c * i.size := by rw [← Nat.add_mul]; exact Nat.mul_le_mul_right _ hroom
      have hc1 : ∀ j, j < news.length → (w.cell? ⟨g, o + n * i.size + j, none⟩).isSome = true := fun j hj => by rw [Nat.add_assoc]; exact (hth _ (by omega)).1
      have hf1 : ∀ j, j < news.length → w.frozen? ⟨g, o + n * i.size + j, none⟩ = false := fun j hj => by rw [Nat.add_assoc]; exact (hth _ (by omega)).2
      have hrun := run_append_room_src (P := P) w t tx ty e i ht hi g o n c x m news hs hroom hc1 hf1
      have hkb := World.keptBut_setCells g (may := fun _ => True) news (o + n * i.size) w (fun _ _ => trivial)
      have hsize : w.heap.size ≤ (w.setCells g (o + n * i.size) news).heap.size := by
        have : ∀ (vs : List Value) (o : Nat) (w : World), (w.setCells g o vs).heap.size = w.heap.size := by
          intro vs
          induction vs with
          | nil => intro o w; rfl
          | cons y r ih => intro o w; rw [World.setCells, ih]; simp [World.setCell]
        rw [this]; exact Nat.le_refl _
      refine ⟨_, _, hrun, ⟨by rw [List.length_append, hxl, hnl, Nat.add_mul], .inr ⟨g, o, c, rfl, hroom, hc, by omega, fun j u hu => ?_, fun j hj => ⟨?_, ?_⟩⟩⟩, ⟨World.os_setCells w g _ news, ?_, World.output_setCells w g _ news, hsize, fun k hk hne => World.heap_setCells_other w g _ news hk (fun e => hne (by rw [e]; rfl))⟩, .inl rfl⟩
      · by_cases hj : j < n * i.size
        · rw [List.getElem?_append_left (by omega)] at hu
          rw [World.cell?_setCells_out g news (o + n * i.size) w ⟨g, o + j, none⟩ (fun _ _ => .inl (by show o + j < _; omega))]
          exact hr j u hu
        · rw [List.getElem?_append_right (by omega), hxl] at hu
          have hlt : j - n * i.size < news.length := (List.getElem?_eq_some_iff.1 hu).1
          have := World.cell?_setCells_in g news (o + n * i.size) w hc1 (j - n * i.size) hlt
          rw [show o + n * i.size + (j - n * i.size) = o + j by omega] at this
          rw [this]
          rw [← (List.getElem?_eq_some_iff.1 hu).2]
      · exact World.isSome_setCells g news _ w _ (hth j hj).1
      · rw [World.frozen?_setCells]; exact (hth j hj).2
      · have : ∀ (vs : List Value) (o : Nat) (w : World), (w.setCells g o vs).tape = w.tape := by
          intro vs
          induction vs with
          | nil => intro o w; rfl
          | cons y r ih => intro o w; rw [World.setCells, ih]; rfl
        exact this _ _ _
    · refine grow _ c rfl (by omega) ?_
      exact run_firstCells_some w.drew i.size n ⟨g, o, none⟩ n c xs hxl (fun j u hu => by rw [Addr.add_mid]; exact hr j u hu)
/-- The room behind the slice v has none of the cells o0 .. o0 + n0 - 1 of block k. -/
def SpareOut (sz : Nat) (v : Value) (k o0 n0 : Nat) : Prop := ∀ g o n c, v = .slice (some ⟨g, o, none⟩) n c → g = k → ∀ j, n * sz ≤ j → j < c * sz → o + j < o0 ∨ o0 + n0 ≤ o + j
/-- What an append leaves alone: cells that are not in the room behind the slice. -/
theorem Lies.append_keeps (h : Lies w sz v n xs) {t tx e : TypeId} (ht : P.underlying t = some (.slice e)) (he : ElemS P e sz) (ty : TypeId) (x : Value) (m : Nat) (news : List Value) (hs : Src P sz tx x m news w) (hb : n + m ≤ 1000000000) {v' : Value} {w' : World}
    (hrun : (Builtin.append_ #[t, tx] ty #[v, x]).run P w = .ok v' w') (k o0 n0 : Nat) (hk : k < w.heap.size) (hsp : SpareOut sz v k o0 n0) :
    (∀ j, o0 ≤ j → j < o0 + n0 → w'.cell? ⟨k, j, none⟩ = w.cell? ⟨k, j, none⟩) ∧ SpareOut sz v' k o0 n0 := by
  obtain ⟨i, z, hi, hz, hsz, hby, hzc, hpos⟩ := he
  subst hsz
  have hnl := hs.newsLen
  have hxl := h.1
  have hfit : ∀ old, old < n + m → Builtin.nextslicecap (n + m) old * i.bytes ≤ 281474976710656 := fun old ho => growslice_fits ho (by
    have : (n + m) * i.bytes ≤ 1000000000 * 1024 := Nat.mul_le_mul hb hby
    omega)
  have grow : ∀ (bs : Option Addr) (sc : Nat), v = .slice bs n sc → sc < n + m → (Builtin.firstCells i.size n (.slice bs n sc)).run P w.drew = .ok xs.toArray w.drew →
      (∀ j, o0 ≤ j → j < o0 + n0 → w'.cell? ⟨k, j, none⟩ = w.cell? ⟨k, j, none⟩) ∧ SpareOut i.size v' k o0 n0 := by
    rintro bs sc rfl hg hold
    have h2 := run_append_grow_src (P := P) w t tx ty e i z ht hi hz bs n sc xs hold x m news hs hg (by omega) (hfit sc hg)
    have e1 := hrun.symm.trans h2
    injection e1 with e1 e2
    subst e1 e2
    refine ⟨fun j _ _ => World.cell?_of_block (w := w) (a := ⟨k, j, none⟩) (heap_alloc_old w.drew _ hk), fun g o n' c he hgk => ?_⟩
    simp only [Value.slice.injEq, Option.some.injEq, Addr.mk.injEq] at he
    obtain ⟨⟨h1, _⟩, _⟩ := he
    omega
  rcases h.2 with ⟨rfl, rfl⟩ | ⟨g, o, c, rfl, hnc, hc, hg, hr, hth⟩
  · obtain rfl : xs = [] := List.length_eq_zero_iff.1 (by rw [hxl, Nat.zero_mul])
    by_cases hm : m = 0
    · subst hm
      obtain rfl : news = [] := List.length_eq_zero_iff.1 (by rw [hnl, Nat.zero_mul])
      have e1 := hrun.symm.trans (run_append_nothing w t tx ty e i ht hi none 0 0 (Nat.le_refl _) x hs)
      injection e1 with e1 e2
      subst e1 e2
      exact ⟨fun _ _ _ => rfl, hsp⟩
    · exact grow none 0 rfl (by omega) (run_firstCells_none w.drew i.size 0 0 0)
  · by_cases hroom : n + m ≤ c
    · have hcl : n * i.size + m * i.size ≤ c * i.size := by rw [← Nat.add_mul]; exact Nat.mul_le_mul_right _ hroom
      have hc1 : ∀ j, j < news.length → (w.cell? ⟨g, o + n * i.size + j, none⟩).isSome = true := fun j hj => by rw [Nat.add_assoc]; exact (hth _ (by omega)).1
      have hf1 : ∀ j, j < news.length → w.frozen? ⟨g, o + n * i.size + j, none⟩ = false := fun j hj => by rw [Nat.add_assoc]; exact (hth _ (by omega)).2
      have e1 := hrun.symm.trans (run_append_room_src (P := P) w t tx ty e i ht hi g o n c x m news hs hroom hc1 hf1)
      injection e1 with e1 e2
      subst e1 e2
      refine ⟨fun j h1 h2 => World.cell?_setCells_out g news (o + n * i.size) w ⟨k, j, none⟩ (fun hb _ => ?_), fun g' o' n' c' he hgk j h1 h2 => ?_⟩
      · have hgk : g = k := hb.symm
        show j < o + n * i.size ∨ o + n * i.size + news.length ≤ j
        rcases Nat.lt_or_ge j (o + n * i.size) with h3 | h3
        · exact .inl h3
        · rcases Nat.lt_or_ge j (o + n * i.size + news.length) with h4 | h4
          · have := hsp g o n c rfl hgk (j - o) (by omega) (by omega)
            omega
          · exact .inr h4
      · simp only [Value.slice.injEq, Option.some.injEq, Addr.mk.injEq, and_true] at he
        obtain ⟨⟨rfl, rfl⟩, rfl, rfl⟩ := he
        have hmul : n * i.size ≤ (n + m) * i.size := Nat.mul_le_mul_right _ (Nat.le_add_right _ _)
        exact hsp g o n c rfl hgk j (by omega) h2
    · refine grow _ c rfl (by omega) ?_
      exact run_firstCells_some w.drew i.size n ⟨g, o, none⟩ n c xs hxl (fun j u hu => by rw [Addr.add_mid]; exact hr j u hu)
/-- What stands behind the first m has the same room behind it. -/
theorem Lies.from_keeps (h : Lies w sz v n xs) {t e : TypeId} (ht : P.underlying t = some (.slice e)) (hz : ∀ w, (sizeOf e).run P w = .ok sz w) (m : Nat) (hm : m ≤ n) {V : Value} (hrun : (Instr.slice t v (some (.int .i64 (m : Int))) none none).run P w = .ok V w) (k o0 n0 : Nat)
    (hsp : SpareOut sz v k o0 n0) : SpareOut sz V k o0 n0 := by
  rcases h.2 with ⟨rfl, rfl⟩ | ⟨g, o, c, rfl, hn, hc, hg, hr, hth⟩
  · obtain rfl : m = 0 := by omega
    have h2 : (Instr.slice t (.slice none 0 0) (some (.int .i64 ((0 : Nat) : Int))) none none).run P w = .ok (.slice none 0 0) w := by
      simp [Instr.slice, run_underlying ht, Instr.sliceBounds, run_sliceBound, Result.andThen, hz]
    have e1 := hrun.symm.trans h2
    injection e1 with e1 _
    subst e1
    exact hsp
  · by_cases hcm : c = m
    · subst hcm
      have h2 : (Instr.slice t (.slice (some ⟨g, o, none⟩) n c) (some (.int .i64 (c : Int))) none none).run P w = .ok (.slice (some ⟨g, o, none⟩) (n - c) 0) w := by
        simp [Instr.slice, run_underlying ht, Instr.sliceBounds, run_sliceBound, Result.andThen, hz, hm]
      have e1 := hrun.symm.trans h2
      injection e1 with e1 _
      subst e1
      intro g' o' n' c' he hgk j h1 h3
      simp only [Value.slice.injEq, Option.some.injEq, Addr.mk.injEq, and_true] at he
      obtain ⟨_, _, rfl⟩ := he
      omega
    · have hadd : (⟨g, o, none⟩ : Addr).add (m * sz) = ⟨g, o + m * sz, none⟩ := Addr.add_mid ..
      have h2 : (Instr.slice t (.slice (some ⟨g, o, none⟩) n c) (some (.int .i64 (m : Int))) none none).run P w = .ok (.slice (some ⟨g, o + m * sz, none⟩) (n - m) (c - m)) w := by
        simp [Instr.slice, run_underlying ht, Instr.sliceBounds, run_sliceBound, Result.andThen, hz, hm, hcm, hadd]
      have e1 := hrun.symm.trans h2
      injection e1 with e1 _
      subst e1
      intro g' o' n' c' he hgk j h1 h3
      simp only [Value.slice.injEq, Option.some.injEq, Addr.mk.injEq, and_true] at he
      obtain ⟨⟨rfl, rfl⟩, rfl, rfl⟩ := he
      have hmul : m * sz + (n - m) * sz = n * sz := by rw [← Nat.add_mul]; congr 1; omega
      have hmul2 : m * sz + (c - m) * sz = c * sz := by rw [← Nat.add_mul]; congr 1; omega
      have := hsp g o n c rfl hgk (m * sz + j) (by omega) (by omega)
      omega
/-- Where there is an element there is an address. -/
theorem Lies.shape (h : Lies w sz v n xs) (h0 : 0 < n) : ∃ g o c, v = .slice (some ⟨g, o, none⟩) n c ∧ n ≤ c ∧ g < w.heap.size := by
  rcases h.2 with ⟨_, rfl⟩ | ⟨g, o, c, rfl, hn, _, hg, _⟩
  · exact absurd h0 (Nat.lt_irrefl 0)
  · exact ⟨g, o, c, rfl, hn, hg⟩
theorem run_index_at {t e : TypeId} (ht : P.underlying t = some (.slice e)) (hz : ∀ w, (sizeOf e).run P w = .ok sz w) (g o n c i : Nat) (hi : i < n) (W : World) :
    (Instr.indexAt t (.slice (some ⟨g, o, none⟩) n c) (.int .i64 (i : Int))).run P W = .ok (.pointer (some ⟨g, o + i * sz, none⟩)) W := by
  have h1 : (0 : Int) ≤ (i : Int) ∧ (i : Int) < (n : Int) := by omega
  have hadd : (⟨g, o, none⟩ : Addr).add (i * sz) = ⟨g, o + i * sz, none⟩ := Addr.add_mid ..
  simp [Instr.indexAt, run_underlying ht, asIntOf, hz, h1, go_sem]
  intro hge; omega
theorem run_mid_at {t e : TypeId} (ht : P.underlying t = some (.slice e)) (hz : ∀ w, (sizeOf e).run P w = .ok sz w) (g o n c a b : Nat) (hab : a ≤ b) (hb : b ≤ c) (hac : a < c) (W : World) :
    (Instr.slice t (.slice (some ⟨g, o, none⟩) n c) (some (.int .i64 (a : Int))) (some (.int .i64 (b : Int))) none).run P W = .ok (.slice (some ⟨g, o + a * sz, none⟩) (b - a) (c - a)) W := by
  have hadd : (⟨g, o, none⟩ : Addr).add (a * sz) = ⟨g, o + a * sz, none⟩ := Addr.add_mid ..
  have hca : ¬ c = a := by omega
  simp [Instr.slice, run_underlying ht, Instr.sliceBounds, run_sliceBound, Result.andThen, hz, hab, hb, hca, hadd]
theorem setCells_size (g : Nat) : ∀ (vs : List Value) (o : Nat) (w : World), (w.setCells g o vs).heap.size = w.heap.size
  | [], _, _ => rfl
  | y :: r, o, w => by rw [World.setCells, setCells_size g r]; simp [World.setCell]
theorem setCells_tape (g : Nat) : ∀ (vs : List Value) (o : Nat) (w : World), (w.setCells g o vs).tape = w.tape
  | [], _, _ => rfl
  | y :: r, o, w => by rw [World.setCells, setCells_tape g r]; rfl
theorem grown_setCells (w : World) (g o : Nat) (vs : List Value) : w.grownBy (w.setCells g o vs) (some g) :=
  ⟨World.os_setCells w g o vs, setCells_tape g vs o w, World.output_setCells w g o vs, by rw [setCells_size]; exact Nat.le_refl _, fun _ hk hne => World.heap_setCells_other w g o vs hk (fun e => hne (by rw [e]))⟩
/-- Cells in its midst turned. -/
theorem Lies.setMid {g o c : Nat} (h : Lies w sz (.slice (some ⟨g, o, none⟩) n c) n xs) (k : Nat) (ys : List Value) (hk : k + ys.length ≤ n * sz) :
    Lies (w.setCells g (o + k) ys) sz (.slice (some ⟨g, o, none⟩) n c) n (xs.take k ++ ys ++ xs.drop (k + ys.length)) ∧
      (∀ j, j < ys.length → (w.cell? ⟨g, o + k + j, none⟩).isSome = true) ∧ ∀ j, j < ys.length → w.frozen? ⟨g, o + k + j, none⟩ = false := by
  rcases h.2 with ⟨h0, _⟩ | ⟨g', o', c', he, hn, hc, hg, hr, hth⟩
  · cases h0
  · simp only [Value.slice.injEq, Option.some.injEq, Addr.mk.injEq, and_true, true_and] at he
    obtain ⟨⟨rfl, rfl⟩, rfl⟩ := he
    have hxl := h.1
    have hcl : n * sz ≤ c * sz := Nat.mul_le_mul_right sz hn
    have hc1 : ∀ j, j < ys.length → (w.cell? ⟨g, o + k + j, none⟩).isSome = true := fun j hj => by rw [Nat.add_assoc]; exact (hth _ (by omega)).1
    have htk : (xs.take k).length = k := by rw [List.length_take]; omega
    refine ⟨⟨by rw [List.length_append, List.length_append, htk, List.length_drop]; omega, .inr ⟨g, o, c, rfl, hn, hc, by rw [setCells_size]; exact hg, fun j u hu => ?_, fun j hj => ⟨World.isSome_setCells g ys _ w _ (hth j hj).1, by rw [World.frozen?_setCells]; exact (hth j hj).2⟩⟩⟩, hc1, fun j hj => by rw [Nat.add_assoc]; exact (hth _ (by omega)).2⟩
    by_cases h1 : j < k
    · rw [List.append_assoc, List.getElem?_append_left (by omega), List.getElem?_take_of_lt h1] at hu
      rw [World.cell?_setCells_out g ys (o + k) w ⟨g, o + j, none⟩ (fun _ _ => .inl (by show o + j < _; omega))]
      exact hr j u hu
    · by_cases h2 : j < k + ys.length
      · rw [List.append_assoc, List.getElem?_append_right (by omega), htk, List.getElem?_append_left (by omega)] at hu
        have := World.cell?_setCells_in g ys (o + k) w hc1 (j - k) (by omega)
        rw [show o + k + (j - k) = o + j by omega] at this
        rw [this, ← (List.getElem?_eq_some_iff.1 hu).2]
      · rw [List.getElem?_append_right (by rw [List.length_append]; omega), List.length_append, htk, List.getElem?_drop] at hu
        rw [World.cell?_setCells_out g ys (o + k) w ⟨g, o + j, none⟩ (fun _ _ => .inr (by show o + k + ys.length ≤ o + j; omega))]
        rw [show k + ys.length + (j - (k + ys.length)) = j by omega] at hu
        exact hr j u hu
/-- clear of a slice with something in it. -/
theorem run_clear {t e : TypeId} (ht : P.underlying t = some (.slice e)) (z : Value) (hv : ∀ w, (zeroValue e).run P w = .ok z w) (h1 : ∀ u ∈ (Builtin.zeroCells z.cells n).toList, u.oneCell' = true) (ty : TypeId) (g o c : Nat) (h0 : 0 < n)
    (hc : ∀ j, j < (Builtin.zeroCells z.cells n).toList.length → (w.cell? ⟨g, o + j, none⟩).isSome = true) (hf : ∀ j, j < (Builtin.zeroCells z.cells n).toList.length → w.frozen? ⟨g, o + j, none⟩ = false) :
    (Builtin.clear_ #[t] ty #[.slice (some ⟨g, o, none⟩) n c]).run P w = .ok (.tuple #[]) (w.setCells g o (Builtin.zeroCells z.cells n).toList) := by
  have hst := run_storeCells_cells (P := P) g o (Builtin.zeroCells z.cells n).toList 0 w (by simpa using hc) (by simpa using hf) h1
  simp only [Nat.add_zero] at hst
  cases n with
  | zero => exact absurd h0 (Nat.lt_irrefl 0)
  | succ n => simp [Builtin.clear_, run_underlying ht, hv, hst]
theorem lies_of_owns {base : Nat} {e : TypeId} (h : w.ownsRow base e sz v n xs) : Lies w sz v n xs := by
  refine ⟨h.1, ?_⟩
  rcases h.2 with h2 | ⟨g, c, cur, rfl, _, hg, hn, hc, hcs, ht⟩
  · exact .inl h2
  · have hlt : g < w.heap.size := (Array.getElem?_eq_some_iff.1 hg).1
    refine .inr ⟨g, 0, c, rfl, hn, hc, hlt, fun j u hu => ?_, fun j hj => ?_⟩
    · have := h.cells (g := g) rfl j u hu
      rwa [Addr.add_mid] at this
    · rw [Nat.zero_add, cell_of_row w g j cur e (0, 0) hg]
      exact ⟨by rw [Array.getElem?_eq_getElem (by omega)]; rfl, frozen_of_row w g j cur e hg⟩
end
end Go.Proofs.YtnaekjmlikhglaaDoor
/- What a call leaves alone: the blocks that its caller names. Two loads in either order. Over any program. -/
namespace Go.Proofs.YtnaekjmlikhglaaDoor
open Go.RowKit

theorem S_match (x : List UInt8) : (@Value.cells.match_1 (fun _ => Array Value) (S x) (fun cs => cs) (fun v => #[v])) = #[S x] := rfl
theorem S_store (P : Program) (w : World) (a : Addr) (x : List UInt8) (m : Mode) (hc : (w.cell? a).isSome = true) (hf : w.frozen? a = false) : (store a (S x) m).run P w = .ok () (w.setCell a (S x)) :=
  run_store_ok P w a (S x) m rfl hc hf
/-- The blocks of A, but g, are as they were. -/
structure Spare (g : Nat) (A : Nat → Prop) (w w' : World) : Prop where
  os : w'.os = w.os
  tape : w'.tape = w.tape
  output : w'.output = w.output
  size : w.heap.size ≤ w'.heap.size
  block : ∀ k, A k → k ≠ g → w'.heap[k]? = w.heap[k]?
section
variable {g h n f : Nat} {A : Nat → Prop} {w w' w'' : World}
theorem Spare.refl (g : Nat) (A : Nat → Prop) (w : World) : Spare g A w w := ⟨rfl, rfl, rfl, Nat.le_refl _, fun _ _ _ => rfl⟩
theorem Spare.trans (h : Spare g A w w') (k : Spare g A w' w'') : Spare g A w w'' :=
  ⟨k.os.trans h.os, k.tape.trans h.tape, k.output.trans h.output, Nat.le_trans h.size k.size, fun i hi hn => (k.block i hi hn).trans (h.block i hi hn)⟩
theorem Spare.of_drawn (h : Drawn w w') : Spare g A w w' := by
  obtain ⟨n, rfl⟩ := h; exact ⟨rfl, rfl, rfl, Nat.le_refl _, fun _ _ _ => rfl⟩
theorem Spare.of_keeps (h : Keeps g w w') (old : ∀ k, A k → k < w.heap.size) : Spare g A w w' :=
  ⟨h.os, h.tape, h.output, h.size, fun k hk hn => h.block k (old k hk) hn⟩
theorem Spare.of_below (h : Below w.heap.size w w') (old : ∀ k, A k → k < w.heap.size) : Spare g A w w' :=
  ⟨h.os, h.tape, h.output, h.size, fun k hk _ => h.block k (old k hk)⟩
/-- What grew in a row of its own. -/
theorem Spare.of_grown {row : Option Nat} (h : w.grownBy w' row) (old : ∀ k, A k → k < w.heap.size) (hr : ∀ k, row = some k → ¬ A k) : Spare g A w w' :=
  ⟨h.os, h.tape, h.output, h.size, fun k hk _ => h.block k (old k hk) (fun e => hr k e.symm hk)⟩
theorem Keeps.of_drawn (h : Drawn w w') : Keeps g w w' := by obtain ⟨n, rfl⟩ := h; exact ⟨rfl, rfl, rfl, Nat.le_refl _, fun _ _ _ => rfl⟩
/-- The blocks below n. -/
def Under (n : Nat) : Nat → Prop := fun k => k < n
/-- What is below n, and f. -/
def With (n f : Nat) : Nat → Prop := fun k => k < n ∨ k = f
theorem Spare.below (h : Spare g (Under n) w w') (hg : n ≤ g) : Below n w w' :=
  ⟨h.os, h.tape, h.output, h.size, fun k hk => h.block k hk (by omega)⟩
theorem Spare.belowW (h : Spare g (With n f) w w') (hg : n ≤ g) : Below n w w' :=
  ⟨h.os, h.tape, h.output, h.size, fun k hk => h.block k (.inl hk) (by omega)⟩
theorem Row.spare {b : Nat} {cs : Array Value} {t : TypeId} (h : Row w b cs t) (hs : Spare g A w w') (hA : A b) (hn : b ≠ g) : Row w' b cs t := by
  unfold Row; rw [hs.block b hA hn]; exact h
theorem grown_cell (w : World) (g o : Nat) (v : Value) : w.grownBy (w.setCell ⟨g, o, none⟩ v) (some g) :=
  ⟨rfl, rfl, rfl, by simp [World.setCell], fun k _ hk => Below.heap_setCell _ _ _ _ (fun e => hk (by rw [e]))⟩
theorem not_some {o : Option Nat} {g : Nat} (h : ∀ k, o = some k → k ≠ g) : ∀ k, o = some k → some k ≠ some g := fun k hk e => h k hk (Option.some.inj e)
end

section
variable {P : Program} {md : Region.Mode} {ops : Array Oper} {Q : Exit → Act → World → Prop} {S : World → Prop} {fuel : Nat} {listed : Array Bool} {a : Act} {w : World} {i j : Nat} {di dj : Option Tmp} {vi vj : Value}
/-- Two that may come up next hand back their values: whichever comes first. -/
theorem ready_two (hdi : (ops[i]?).map (·.dst) = some di) (hdj : (ops[j]?).map (·.dst) = some dj) (hr : Region.ready md ops listed = [i, j])
    (hri : Region.ready md ops (listed.setIfInBounds i true) = [j]) (hrj : Region.ready md ops (listed.setIfInBounds j true) = [i]) (hij : i ≠ j) (hd : ∀ d, di = some d → dj ≠ some d)
    (hxi : ∀ oi, ops[i]? = some oi → ∀ a', (a' = a ∨ a' = a.put dj vj) → Region.wanted oi (yielded ops a'.tmps) = true ∧ (execOp a'.eval oi).run P w = .ok (.value vi) w)
    (hxj : ∀ oj, ops[j]? = some oj → ∀ a', (a' = a ∨ a' = a.put di vi) → Region.wanted oj (yielded ops a'.tmps) = true ∧ (execOp a'.eval oj).run P w = .ok (.value vj) w) (hS : S w)
    (h : wpAnyH P md ops Q S fuel ((listed.setIfInBounds i true).setIfInBounds j true) ((a.put di vi).put dj vj) w) : wpAnyH P md ops Q S (fuel + 2) listed a w := by
  have h1 : wpAnyH P md ops Q S (fuel + 1) (listed.setIfInBounds i true) (a.put di vi) w :=
    ready_value hdj hri (fun oj hj => hxj oj hj _ (.inr rfl)) hS h
  have h2 : wpAnyH P md ops Q S (fuel + 1) (listed.setIfInBounds j true) (a.put dj vj) w := by
    refine ready_value hdi hrj (fun oi hi => hxi oi hi _ (.inr rfl)) hS ?_
    rw [Array.setIfInBounds_comm _ _ (Ne.symm hij)]
    rw [← Act.put_comm a vi vj hd]
    exact h
  cases hi : ops[i]? with
  | none => simp [hi] at hdi
  | some oi =>
    cases hj : ops[j]? with
    | none => simp [hj] at hdj
    | some oj =>
      have e1 : oi.dst = di := by simpa [hi] using hdi
      have e2 : oj.dst = dj := by simpa [hj] using hdj
      subst e1 e2
      refine wpAnyH_ready hr (by simp) (AllReadyH.cons hi (fun K hK => ?_) (AllReadyH.cons hj (fun K hK => ?_) AllReadyH.nil))
      · obtain ⟨hw, hx⟩ := hxi oi hi a (.inl rfl)
        rw [if_pos hw]
        unfold Oper.wp
        rw [hx]
        exact hK.out _ _ hS (fun _ => h1)
      · obtain ⟨hw, hx⟩ := hxj oj hj a (.inl rfl)
        rw [if_pos hw]
        unfold Oper.wp
        rw [hx]
        exact hK.out _ _ hS (fun _ => h2)
/-- A call and a value that may come up next: each may be the first. -/
theorem ready_call_or_value {f : FuncId} {args : Array Value} (hdi : (ops[i]?).map (·.dst) = some di) (hdj : (ops[j]?).map (·.dst) = some dj) (hr : Region.ready md ops listed = [i, j])
    (hxi : ∀ oi, ops[i]? = some oi → Region.wanted oi (yielded ops a.tmps) = true ∧ (execOp a.eval oi).run P w = .ok (.enter f args) w)
    (hxj : ∀ oj, ops[j]? = some oj → Region.wanted oj (yielded ops a.tmps) = true ∧ (execOp a.eval oj).run P w = .ok (.value vj) w) (hS : S w)
    (hc : Calls P f args w fun e w' => ∃ v, e = .returned v ∧ S w' ∧ wpAnyH P md ops Q S fuel (listed.setIfInBounds i true) (a.put di v) w')
    (hv : wpAnyH P md ops Q S fuel (listed.setIfInBounds j true) (a.put dj vj) w) : wpAnyH P md ops Q S (fuel + 1) listed a w := by
  cases hi : ops[i]? with
  | none => simp [hi] at hdi
  | some oi =>
    cases hj : ops[j]? with
    | none => simp [hj] at hdj
    | some oj =>
      have e1 : oi.dst = di := by simpa [hi] using hdi
      have e2 : oj.dst = dj := by simpa [hj] using hdj
      subst e1 e2
      refine wpAnyH_ready hr (by simp) (AllReadyH.cons hi (fun K hK => ?_) (AllReadyH.cons hj (fun K hK => ?_) AllReadyH.nil))
      · obtain ⟨hw, hx⟩ := hxi oi hi
        rw [if_pos hw]
        unfold Oper.wp
        rw [hx]
        refine hc.mono ?_
        rintro e w' ⟨v, rfl, hS', h⟩
        exact hK.out _ _ hS' (fun _ => h)
      · obtain ⟨hw, hx⟩ := hxj oj hj
        rw [if_pos hw]
        unfold Oper.wp
        rw [hx]
        exact hK.out _ _ hS (fun _ => hv)
/-- A load, and what makes a block, that may come up next, whichever comes first. -/
theorem ready_load_make {w1 : World} (hdi : (ops[i]?).map (·.dst) = some di) (hdj : (ops[j]?).map (·.dst) = some dj) (hr : Region.ready md ops listed = [i, j])
    (hri : Region.ready md ops (listed.setIfInBounds i true) = [j]) (hrj : Region.ready md ops (listed.setIfInBounds j true) = [i]) (hij : i ≠ j) (hd : ∀ d, di = some d → dj ≠ some d)
    (hxi : ∀ oi, ops[i]? = some oi → (Region.wanted oi (yielded ops a.tmps) = true ∧ (execOp a.eval oi).run P w = .ok (.value vi) w) ∧ (Region.wanted oi (yielded ops (a.put dj vj).tmps) = true ∧ (execOp (a.put dj vj).eval oi).run P w1 = .ok (.value vi) w1))
    (hxj : ∀ oj, ops[j]? = some oj → ∀ a', (a' = a ∨ a' = a.put di vi) → Region.wanted oj (yielded ops a'.tmps) = true ∧ (execOp a'.eval oj).run P w = .ok (.value vj) w1) (hS : S w) (hS1 : S w1)
    (h : wpAnyH P md ops Q S fuel ((listed.setIfInBounds i true).setIfInBounds j true) ((a.put di vi).put dj vj) w1) : wpAnyH P md ops Q S (fuel + 2) listed a w := by
  have h1 : wpAnyH P md ops Q S (fuel + 1) (listed.setIfInBounds i true) (a.put di vi) w :=
    ready_value hdj hri (fun oj hj => hxj oj hj _ (.inr rfl)) hS1 h
  have h2 : wpAnyH P md ops Q S (fuel + 1) (listed.setIfInBounds j true) (a.put dj vj) w1 := by
    refine ready_value hdi hrj (fun oi hi => (hxi oi hi).2) hS1 ?_
    rw [Array.setIfInBounds_comm _ _ (Ne.symm hij)]
    rw [← Act.put_comm a vi vj hd]
    exact h
  cases hi : ops[i]? with
  | none => simp [hi] at hdi
  | some oi =>
    cases hj : ops[j]? with
    | none => simp [hj] at hdj
    | some oj =>
      have e1 : oi.dst = di := by simpa [hi] using hdi
      have e2 : oj.dst = dj := by simpa [hj] using hdj
      subst e1 e2
      refine wpAnyH_ready hr (by simp) (AllReadyH.cons hi (fun K hK => ?_) (AllReadyH.cons hj (fun K hK => ?_) AllReadyH.nil))
      · obtain ⟨hw, hx⟩ := (hxi oi hi).1
        rw [if_pos hw]
        unfold Oper.wp
        rw [hx]
        exact hK.out _ _ hS (fun _ => h1)
      · obtain ⟨hw, hx⟩ := hxj oj hj a (.inl rfl)
        rw [if_pos hw]
        unfold Oper.wp
        rw [hx]
        exact hK.out _ _ hS1 (fun _ => h2)
end
/-- A builtin append, as an operation. -/
theorem exec_append {P : Program} {a : Act} {o : Oper} (t1 t2 : TypeId) (x y : Operand) (X Y : Value) {w : World} (ho : o.op = .call { callee := .builtin .append, args := #[x, y], argTypes := #[t1, t2] }) (hx : a.eval x = X) (hy : a.eval y = Y) {v' : Value} {w' : World}
    (hr : (Builtin.append_ #[t1, t2] o.type #[X, Y]).run P w = .ok v' w') : (execOp a.eval o).run P w = .ok (.value v') w' := by
  simp only [execOp, ho, resolve, invoke, builtin, Sem.run_bind, Sem.run_pure, Result.andThen_ok, List.map_toArray, List.map_cons, List.map_nil, hx, hy, hr]
/-- An append in a walk, by its run. -/
theorem wpList_append_by {P : Program} {ops : Array Oper} {rest : List Oper} {o : Oper} {a : Act} {w : World} {Q : Exit → Act → World → Prop} (hgd : o.guard = none) (t1 t2 : TypeId) (x y : Operand) (ho : o.op = .call { callee := .builtin .append, args := #[x, y], argTypes := #[t1, t2] })
    (X Y : Value) (hx : a.eval x = X) (hy : a.eval y = Y) (v' : Value) (w' : World) (hr : (Builtin.append_ #[t1, t2] o.type #[X, Y]).run P w = .ok v' w') (h : wpList P ops Q rest (a.put o.dst v') w') : wpList P ops Q (o :: rest) a w :=
  wpList_exec hgd v' w' (exec_append t1 t2 x y X Y ho hx hy hr) h
/-- A slice's value in a cell. -/
theorem slice_one (a : Option Addr) (n c : Nat) : (Value.slice a n c).oneCell' = true := rfl
end Go.Proofs.YtnaekjmlikhglaaDoor
/- A region that draws its order, in the wide fence, with one condition held: what yields one value wherever it holds is taken first; a round of a range is one of the steps. Over any program. -/
namespace Go.Proofs.YtnaekjmlikhglaaDoor
open Go.RowKit
section
variable {P : Program} {n : Nat} {ops : Array Oper} {Q : Exit → Act → World → Prop} {md : Region.Mode} {S : World → Prop}

theorem yieldsIf_wideOp {i : Nat} {o : Oper} {v : Value} {a : Act} (hi : ops[i]? = some o) (hy : YieldsIf P ops S o v a)
    {K : Act → World → Prop} {w : World} (hS : S w) (h : K (a.put o.dst v) w) : wpOpIn Fence.wide n P ops Q i K a w := by
  unfold Go.wpOpIn
  simp only [hi]
  rcases hy with ⟨hw, hv⟩ | ⟨hw, rfl⟩
  · simp only [hw, if_true, Oper.wpIn, show Fence.wide.round = none from rfl, Oper.semAt_none, hv w hS, Oper.uponIn]; exact ⟨fun _ _ => trivial, h⟩
  · simp only [hw, Bool.false_eq_true, if_false]; exact ⟨fun _ _ => trivial, h⟩

theorem wideOp_put {j : Nat} {oi oj : Oper} {v : Value} (hj : ops[j]? = some oj) (hap : oi.apart ops oj = true)
    (hsi : ∀ cs b, oi.op ≠ .select cs b) (hsj : ∀ cs b, oj.op ≠ .select cs b)
    (hQ : ∀ c a w, Q (.panic c) (a.put oi.dst v) w → Q (.panic c) a w) {K : Act → World → Prop} {a : Act} {w : World}
    (hy : YieldsIf P ops S oi v a) (h : wpOpIn Fence.wide n P ops Q j K (a.put oi.dst v) w) :
    wpOpIn Fence.wide n P ops Q j (fun a' w' => YieldsIf P ops S oi v a' ∧ K (a'.put oi.dst v) w') a w := by
  obtain ⟨h1, h2, h3⟩ := Oper.apart_spec hap
  have keep : ∀ (a : Act), YieldsIf P ops S oi v a → ∀ u, YieldsIf P ops S oi v (a.put oj.dst u) := fun a hy u =>
    hy.of_same (execOp_put oi hsi a oj.dst u h3) (wanted_put oi a oj.dst u h3)
  have keepD : ∀ d, YieldsIf P ops S oi v { a with defers := d :: a.defers } := fun d => hy.of_same rfl rfl
  unfold wpOpIn at *
  simp only [hj] at *
  rw [wanted_put oj a oi.dst v h1] at h
  split
  · rename_i hw
    simp only [hw, if_true] at h
    unfold Oper.wpIn at *
    refine ⟨fun _ _ => trivial, ?_⟩
    have h := h.2
    rw [show Fence.wide.round = none from rfl, Oper.semAt_none, execOp_put oj hsj a oi.dst v h1] at h
    rw [show Fence.wide.round = none from rfl, Oper.semAt_none]
    generalize (execOp a.eval oj).run P w = r at *
    cases r with
    | ok x w' =>
      cases x <;> simp only [Oper.uponIn] at h ⊢
      case value u => exact ⟨keep a hy u, by rw [← Act.put_comm a v u h2]; exact h⟩
      case skip => exact ⟨keep a hy _, by rw [← Act.put_comm a v undef h2]; exact h⟩
      case defer d =>
        refine ⟨keep _ (keepD d) _, ?_⟩
        rw [← Act.put_comm _ v undef h2, ← Act.put_defers]
        exact h
      case enter f args =>
        refine ⟨h.1, CallsIn.mono h.2 fun e w'' he => ?_⟩
        cases e with
        | returned u => exact ⟨keep a hy u, by rw [← Act.put_comm a v u h2]; exact he⟩
        | panicked c => exact hQ _ _ _ he
        | outgrown => exact he
      case row row args => exact ⟨h.1, RowsIn.mono h.2 fun u w'' he => ⟨keep a hy u, by rw [← Act.put_comm a v u h2]; exact he⟩⟩
      case round l f tmps assign body =>
        refine ⟨h.1, RoundIn.mono h.2 fun e w'' he => ?_⟩
        cases e with
        | returned u => exact ⟨keep a hy u, by rw [← Act.put_comm a v u h2]; exact he⟩
        | panicked c => exact hQ _ _ _ he
        | outgrown => exact he
    | halt x w' =>
      cases x <;> simp only [Oper.uponIn] at h ⊢
      case panic u => exact hQ _ _ _ h
  · rename_i hw
    simp only [hw] at h
    exact ⟨fun _ _ => trivial, keep a hy _, by rw [← Act.put_comm a v undef h2]; exact h.2⟩

/-- Whatever order is picked, and S holds behind each operation. -/
def wpAnyW (n : Nat) (P : Program) (md : Region.Mode) (ops : Array Oper) (Q : Exit → Act → World → Prop) (S : World → Prop) : Nat → Array Bool → Act → World → Prop
  | 0, listed, a, w => Region.ready md ops listed = [] ∧ Q .normal a w
  | fuel + 1, listed, a, w =>
    (Region.ready md ops listed = [] → Q .normal a w) ∧
    ∀ i ∈ Region.ready md ops listed, wpOpIn Fence.wide n P ops Q i (fun a' w' => S w' ∧ wpAnyW n P md ops Q S fuel (listed.setIfInBounds i true) a' w') a w
theorem wpAnyIn_of_W : ∀ (fuel : Nat) (listed : Array Bool) (a : Act) (w : World), wpAnyW n P md ops Q S fuel listed a w → wpAnyIn Fence.wide n P md ops Q fuel listed a w
  | 0, _, _, _, h => h
  | fuel + 1, _, _, _, h => ⟨h.1, fun i hi => wpOpIn_mono (fun a' w' h' => wpAnyIn_of_W fuel _ a' w' h'.2) (h.2 i hi)⟩
theorem wpAnyW_first {i : Nat} {oi : Oper} {v : Value} (hi : ops[i]? = some oi) (hsel : ∀ (j : Nat) (o : Oper) cs b, ops[j]? = some o → o.op ≠ .select cs b)
    (hQ : ∀ c a w, Q (.panic c) (a.put oi.dst v) w → Q (.panic c) a w) :
    ∀ (fuel : Nat) (listed : Array Bool) (a : Act) (w : World),
      (∀ j oj, ops[j]? = some oj → j ≠ i → listed.getD j true = false → (∀ e ∈ oj.after, Region.binds md e = true → e.on ≠ i) → oi.apart ops oj = true) →
      i ∈ Region.ready md ops listed → YieldsIf P ops S oi v a → S w →
      wpAnyW n P md ops Q S fuel (listed.setIfInBounds i true) (a.put oi.dst v) w → wpAnyW n P md ops Q S (fuel + 1) listed a w := by
  intro fuel
  induction fuel with
  | zero =>
    intro listed a w _ hr hy hS H
    refine ⟨fun h => (by rw [h] at hr; cases hr), fun j hj => ?_⟩
    by_cases hji : j = i
    · subst hji; exact yieldsIf_wideOp hi hy hS ⟨hS, H⟩
    · have := ready_mono hj hji
      rw [H.1] at this
      cases this
  | succ fuel ih =>
    intro listed a w hfree hr hy hS H
    refine ⟨fun h => (by rw [h] at hr; cases hr), fun j hj => ?_⟩
    by_cases hji : j = i
    · subst hji; exact yieldsIf_wideOp hi hy hS ⟨hS, H⟩
    · have h1 := H.2 j (ready_mono hj hji)
      obtain ⟨hjun, oj, hoj, hall⟩ := mem_ready.1 hj
      have hnot : ∀ e ∈ oj.after, Region.binds md e = true → e.on ≠ i := fun e he hb heq => by
        have h1 := hall e he hb
        have h0 := (mem_ready.1 hr).1
        rw [heq] at h1
        rcases Nat.lt_or_ge i listed.size with h' | h'
        · simp [h'] at h0 h1; rw [h0] at h1; cases h1
        · simp [Array.getElem?_eq_none h'] at h1
      have h2 := wideOp_put hoj (hfree j oj hoj hji hjun hnot) (fun cs b => hsel i oi cs b hi) (fun cs b => hsel j oj cs b hoj) hQ hy h1
      have hfree' : ∀ k ok, ops[k]? = some ok → k ≠ i → (listed.setIfInBounds j true).getD k true = false →
          (∀ e ∈ ok.after, Region.binds md e = true → e.on ≠ i) → oi.apart ops ok = true := fun k ok hk hki hun hno => by
        refine hfree k ok hk hki ?_ hno
        by_cases hjk : j = k
        · subst hjk; exact hjun
        · rw [getD_set_ne true hjk] at hun; exact hun
      refine wpOpIn_mono (fun a' w' h3 => ⟨h3.2.1, ih (listed.setIfInBounds j true) a' w' hfree' (ready_mono hr (Ne.symm hji)) h3.1 h3.2.1 ?_⟩) h2
      rw [Array.setIfInBounds_comm _ _ hji]
      exact h3.2.2
theorem wideW_done {listed : Array Bool} {a : Act} {w : World} (hr : Region.ready md ops listed = []) (h : Q .normal a w) : ∀ fuel, wpAnyW n P md ops Q S fuel listed a w
  | 0 => ⟨hr, h⟩
  | _ + 1 => ⟨fun _ => h, by rw [hr]; simp⟩
/-- The beginning. -/
theorem wide_region {id : Nat} {a : Act} {w : World} (S : World → Prop) (hm : P.follows .mixedOrders = true) (h : wpAnyW n P .any ops Q S ops.size (Array.replicate ops.size false) a w.drew) : (Code.region id ops true).wpIn Fence.wide n P Q a w :=
  wpIn_region_any hm (wpAnyIn_of_W _ _ _ _ h)
end
section
variable {P : Program} {n : Nat} {md : Region.Mode} {ops : Array Oper} {Q : Exit → Act → World → Prop} {S : World → Prop} {fuel : Nat} {listed : Array Bool} {a : Act} {w : World} {i : Nat} {d : Option Tmp} {v : Value}
/-- What yields one value wherever S holds is taken first. -/
theorem takeW (hd : (ops[i]?).map (·.dst) = some d) (hs : Region.noSelect ops = true) (hf : Region.free md ops listed i = true) (hr : (Region.ready md ops listed).contains i = true)
    (hQ : ∀ c a w, Q (.panic c) (a.put d v) w → Q (.panic c) a w) (hy : ∀ oi, ops[i]? = some oi → YieldsIf P ops S oi v a) (hS : S w)
    (h : wpAnyW n P md ops Q S fuel (listed.setIfInBounds i true) (a.put d v) w) : wpAnyW n P md ops Q S (fuel + 1) listed a w := by
  cases hi : ops[i]? with
  | none => simp [hi] at hd
  | some oi =>
    have e : oi.dst = d := by simpa [hi] using hd
    subst e
    exact wpAnyW_first hi (Region.noSelect_spec hs) hQ fuel listed a w (Region.free_spec hi hf) (by simpa using hr) (hy oi hi) hS h
/-- The one that may come up next. -/
theorem readyW (hr : Region.ready md ops listed = [i]) (hx : ∀ oi, ops[i]? = some oi → Region.wanted oi (yielded ops a.tmps) = true ∧ oi.uponIn Fence.wide n P a (fun a' w' => S w' ∧ wpAnyW n P md ops Q S fuel (listed.setIfInBounds i true) a' w') Q ((execOp a.eval oi).run P w)) :
    wpAnyW n P md ops Q S (fuel + 1) listed a w := by
  refine ⟨fun h0 => (by rw [hr] at h0; cases h0), fun j hj => ?_⟩
  rw [hr, List.mem_singleton] at hj
  subst hj
  unfold wpOpIn
  cases hi : ops[j]? with
  | none =>
    obtain ⟨_, oj, hoj, _⟩ := mem_ready.1 (show j ∈ Region.ready md ops listed by rw [hr]; exact List.mem_singleton.2 rfl)
    rw [hi] at hoj; cases hoj
  | some oi =>
    obtain ⟨hw, h⟩ := hx oi hi
    simp only [hw, if_true]
    exact ⟨fun _ _ => trivial, h⟩
theorem ready_valueW {w' : World} (hd : (ops[i]?).map (·.dst) = some d) (hr : Region.ready md ops listed = [i])
    (hx : ∀ oi, ops[i]? = some oi → Region.wanted oi (yielded ops a.tmps) = true ∧ (execOp a.eval oi).run P w = .ok (.value v) w') (hS : S w')
    (h : wpAnyW n P md ops Q S fuel (listed.setIfInBounds i true) (a.put d v) w') : wpAnyW n P md ops Q S (fuel + 1) listed a w :=
  readyW hr fun oi hi => by
    have e : oi.dst = d := by simpa [hi] using hd
    subst e
    obtain ⟨hw, hx⟩ := hx oi hi
    rw [hx]
    exact ⟨hw, hS, h⟩
theorem ready_callW {f : FuncId} {args : Array Value} (hd : (ops[i]?).map (·.dst) = some d) (hr : Region.ready md ops listed = [i])
    (hx : ∀ oi, ops[i]? = some oi → Region.wanted oi (yielded ops a.tmps) = true ∧ (execOp a.eval oi).run P w = .ok (.enter f args) w)
    (hc : Calls P f args w fun e w' => ∃ v, e = .returned v ∧ S w' ∧ wpAnyW n P md ops Q S fuel (listed.setIfInBounds i true) (a.put d v) w') : wpAnyW n P md ops Q S (fuel + 1) listed a w :=
  readyW hr fun oi hi => by
    have e : oi.dst = d := by simpa [hi] using hd
    subst e
    obtain ⟨hw, hx⟩ := hx oi hi
    rw [hx]
    refine ⟨hw, fun h => (by simp [Fence.wide] at h), (callsIn_wide.2 hc).mono ?_⟩
    rintro e w' ⟨v, rfl, h⟩
    exact h
theorem ready_roundW {l : Nat} {f : FuncId} {tmps : Array Value} {assign body : Code} (hd : (ops[i]?).map (·.dst) = some d) (hr : Region.ready md ops listed = [i])
    (hx : ∀ oi, ops[i]? = some oi → Region.wanted oi (yielded ops a.tmps) = true ∧ (execOp a.eval oi).run P w = .ok (.round l f tmps assign body) w)
    (hc : RoundIn Fence.wide (n - 1) P l f tmps assign body w fun e w' => ∃ v, e = .returned v ∧ S w' ∧ wpAnyW n P md ops Q S fuel (listed.setIfInBounds i true) (a.put d v) w') : wpAnyW n P md ops Q S (fuel + 1) listed a w :=
  readyW hr fun oi hi => by
    have e : oi.dst = d := by simpa [hi] using hd
    subst e
    obtain ⟨hw, hx⟩ := hx oi hi
    rw [hx]
    refine ⟨hw, fun h => (by simp [Fence.wide] at h), hc.mono ?_⟩
    rintro e w' ⟨v, rfl, h⟩
    exact h
end
end Go.Proofs.YtnaekjmlikhglaaDoor
/- Things of one kind in a slice: where each lies; one loaded, stored, cleared; a slice made. A circle of things. Over any program. -/
namespace Go.Proofs.YtnaekjmlikhglaaDoor
open Go.RowKit
variable {P : Program} {α : Type}

/-- Things of one kind: each as a value, and as cells; the one that is nothing. -/
structure Kind (P : Program) (α : Type) where
  sl : TypeId
  el : TypeId
  sz : Nat
  val : α → Value
  cells : α → List Value
  zero : α
  under : P.underlying sl = some (.slice el)
  size : ∀ w, (sizeOf el).run P w = .ok sz w
  info : ∃ i z, P.info? el = some i ∧ i.zero = some z ∧ i.size = sz ∧ i.bytes ≤ 1024 ∧ z.cells.toList = cells zero
  pos : 0 < sz
  len : ∀ x, (cells x).length = sz
  one : ∀ x, ∀ u ∈ cells x, u.oneCell' = true
  load : ∀ x w k o, w.rangeAt k o (cells x) → (loadVar el ⟨k, o, none⟩).run P w = .ok (val x) w
  store : ∀ x w k o, w.there k o sz → (storeVar el ⟨k, o, none⟩ (val x)).run P w = .ok () (w.setCells k o (cells x))

/-- A kind of one cell. -/
def kind1 (sl el : TypeId) (val : α → Value) (zero : α) (under : P.underlying sl = some (.slice el)) (size : ∀ w, (sizeOf el).run P w = .ok 1 w)
    (info : ∃ i z, P.info? el = some i ∧ i.zero = some z ∧ i.size = 1 ∧ i.bytes ≤ 1024 ∧ z.cells.toList = [val zero]) (d : TypeDesc) (hd : P.underlying el = some d) (hr : d.isRow = false) (one : ∀ x, (val x).oneCell' = true)
    (hc : ∀ x, (val x).cells = #[val x]) : Kind P α where
  sl := sl
  el := el
  sz := 1
  val := val
  cells := fun x => [val x]
  zero := zero
  under := under
  size := size
  info := info
  pos := by decide
  len := fun _ => rfl
  one := fun x u hu => by rw [List.mem_singleton.1 hu]; exact one x
  load := fun x w k o hw => by
    have h0 := hw 0 (val x) rfl
    rw [Nat.add_zero] at h0
    have hagg : (isAgg el).run P w = .ok false w := by
      unfold isAgg
      rw [Sem.run_bind, run_underlying hd w]
      cases d <;> simp_all [Result.andThen]
    simp [loadVar, hagg, Result.andThen, run_load, h0]
  store := fun x w k o hw => by
    obtain ⟨h1, h2⟩ := hw 0 (by omega)
    rw [Nat.add_zero] at h1 h2
    have := run_store_ok P w ⟨k, o, none⟩ (val x) .plain (one x) h1 h2
    simp [storeVar, hc, size, Result.andThen, store_one, this, World.setCells]
/-- A kind of several cells. -/
def kindA (sl el : TypeId) (sz : Nat) (cells : α → List Value) (zero : α) (under : P.underlying sl = some (.slice el)) (size : ∀ w, (sizeOf el).run P w = .ok sz w)
    (info : ∃ i z, P.info? el = some i ∧ i.zero = some z ∧ i.size = sz ∧ i.bytes ≤ 1024 ∧ z.cells.toList = cells zero) (pos : 0 < sz) (d : TypeDesc) (hd : P.underlying el = some d) (hr : d.isRow = true) (len : ∀ x, (cells x).length = sz) (one : ∀ x, ∀ u ∈ cells x, u.oneCell' = true) : Kind P α where
  sl := sl
  el := el
  sz := sz
  val := fun x => .agg (cells x).toArray
  cells := cells
  zero := zero
  under := under
  size := size
  info := info
  pos := pos
  len := len
  one := one
  load := fun x w k o hw => by
    obtain ⟨i, z, hi, _, hs, _⟩ := info
    exact run_loadVar_mid w k o el (cells x) d hw hd hr (by rw [hi, Option.map_some, hs, len])
  store := fun x w k o hw => by
    obtain ⟨i, z, hi, _, hs, _⟩ := info
    exact run_storeVar_mid w k o el (cells x).toArray (by rw [List.size_toArray, len]; exact hw) (by rw [hi, Option.map_some, hs, List.size_toArray, len]) (by simpa using one x)

/-! Cells, one thing's behind the other's. -/
theorem flat_len {c : α → List Value} {sz : Nat} (h : ∀ x, (c x).length = sz) : ∀ l : List α, (l.flatMap c).length = l.length * sz
  | [] => by simp
  | x :: r => by rw [List.flatMap_cons, List.length_append, h, flat_len h r, List.length_cons, Nat.add_mul]; omega
theorem flat_take {c : α → List Value} {sz : Nat} (h : ∀ x, (c x).length = sz) : ∀ (l : List α) (i : Nat), (l.flatMap c).take (i * sz) = (l.take i).flatMap c
  | [], i => by simp
  | x :: r, 0 => by simp
  | x :: r, i + 1 => by
    rw [List.flatMap_cons, List.take_succ_cons, List.flatMap_cons, ← flat_take h r i, List.take_append, List.take_of_length_le (by rw [h, Nat.add_mul]; omega)]
    rw [h, show (i + 1) * sz - sz = i * sz by rw [Nat.add_mul]; omega]
theorem flat_drop {c : α → List Value} {sz : Nat} (h : ∀ x, (c x).length = sz) : ∀ (l : List α) (i : Nat), (l.flatMap c).drop (i * sz) = (l.drop i).flatMap c
  | [], i => by simp
  | x :: r, 0 => by simp
  | x :: r, i + 1 => by
    rw [List.flatMap_cons, List.drop_succ_cons, ← flat_drop h r i, List.drop_append, List.drop_of_length_le (by rw [h, Nat.add_mul]; omega), List.nil_append]
    rw [h, show (i + 1) * sz - sz = i * sz by rw [Nat.add_mul]; omega]
theorem flat_set {c : α → List Value} {sz : Nat} (h : ∀ x, (c x).length = sz) (l : List α) (i : Nat) (y : α) (hi : i < l.length) : (l.flatMap c).take (i * sz) ++ c y ++ (l.flatMap c).drop (i * sz + (c y).length) = (l.set i y).flatMap c := by
  rw [h, show i * sz + sz = (i + 1) * sz by rw [Nat.add_mul]; omega, flat_take h, flat_drop h, List.set_eq_take_append_cons_drop, if_pos hi, List.flatMap_append, List.flatMap_cons, List.append_assoc]
theorem flat_get {c : α → List Value} {sz : Nat} (h : ∀ x, (c x).length = sz) (l : List α) (i j : Nat) (x : α) (hx : l[i]? = some x) (hj : j < sz) : (l.flatMap c)[i * sz + j]? = (c x)[j]? := by
  have h1 : (l.flatMap c)[i * sz + j]? = ((l.flatMap c).drop (i * sz))[j]? := by rw [List.getElem?_drop]
  obtain ⟨hlt, rfl⟩ := List.getElem?_eq_some_iff.1 hx
  rw [h1, flat_drop h, List.drop_eq_getElem_cons hlt, List.flatMap_cons, List.getElem?_append_left (by rw [h]; exact hj)]
theorem rep_get {c : α → List Value} {sz : Nat} (h : ∀ x, (c x).length = sz) (h0 : 0 < sz) (a : α) (n j : Nat) (u : Value) (hu : ((List.replicate n a).flatMap c)[j]? = some u) : (c a)[j % sz]? = some u := by
  have hl := (List.getElem?_eq_some_iff.1 hu).1
  rw [flat_len h, List.length_replicate] at hl
  have hd : j / sz < n := (Nat.div_lt_iff_lt_mul h0).2 hl
  have e : j / sz * sz + j % sz = j := by rw [Nat.mul_comm]; exact Nat.div_add_mod j sz
  rw [← e, flat_get h _ _ _ a (by rw [List.getElem?_replicate, if_pos hd]) (Nat.mod_lt _ h0)] at hu
  exact hu

/-- The slice v holds these things. -/
def LiesK (K : Kind P α) (w : World) (v : Value) (cs : List α) : Prop := Lies w K.sz v cs.length (cs.flatMap K.cells)
section
variable {K : Kind P α} {w w' : World} {v : Value} {cs : List α} {k o c : Nat}
theorem liesK_nil (K : Kind P α) (w : World) : LiesK K w (.slice none 0 0) [] := lies_nil w K.sz
theorem LiesK.lt (h : LiesK K w v cs) : ∀ k, v.ownBlock = some k → k < w.heap.size := Lies.lt h
theorem LiesK.same (h : LiesK K w v cs) (hs : w.heap.size ≤ w'.heap.size) (hb : ∀ k, v.ownBlock = some k → w'.heap[k]? = w.heap[k]?) : LiesK K w' v cs := Lies.same h hs hb
theorem LiesK.len (h : LiesK K w v cs) (T : TypeId) (W : World) : (Builtin.len_ #[K.sl] T #[v]).run P W = .ok (.int .i64 (cs.length : Int)) W := Lies.len h K.under T W
theorem LiesK.shape (h : LiesK K w v cs) (h0 : 0 < cs.length) : ∃ k o c, v = .slice (some ⟨k, o, none⟩) cs.length c ∧ cs.length ≤ c ∧ k < w.heap.size := Lies.shape h h0
theorem LiesK.form (h : LiesK K w v cs) : ∃ a c, v = .slice a cs.length c := Lies.form h
theorem LiesK.idx (K : Kind P α) (k o n c i : Nat) (hi : i < n) (W : World) : (Instr.indexAt K.sl (.slice (some ⟨k, o, none⟩) n c) (.int .i64 (i : Int))).run P W = .ok (.pointer (some ⟨k, o + i * K.sz, none⟩)) W :=
  run_index_at K.under K.size k o n c i hi W
theorem LiesK.cut (K : Kind P α) (k o n c i : Nat) (hi : i + 1 ≤ c) (W : World) : (Instr.slice K.sl (.slice (some ⟨k, o, none⟩) n c) (some (.int .i64 (i : Int))) (some (.int .i64 ((i : Int) + 1))) none).run P W = .ok (.slice (some ⟨k, o + i * K.sz, none⟩) 1 (c - i)) W := by
  have := run_mid_at K.under K.size k o n c i (i + 1) (by omega) hi (by omega) W
  rw [show i + 1 - i = 1 by omega, Int.natCast_add] at this
  exact this
theorem LiesK.there (h : LiesK K w (.slice (some ⟨k, o, none⟩) cs.length c) cs) (i : Nat) (hi : i < cs.length) : w.there k (o + i * K.sz) K.sz := by
  intro j hj
  rcases h.2 with ⟨h0, _⟩ | ⟨g', o', c', he, hn, _, _, _, hth⟩
  · cases h0
  · simp only [Value.slice.injEq, Option.some.injEq, Addr.mk.injEq, and_true, true_and] at he
    obtain ⟨⟨rfl, rfl⟩, rfl⟩ := he
    rw [Nat.add_assoc]
    have h1 : (i + 1) * K.sz ≤ c * K.sz := Nat.mul_le_mul_right _ (by omega)
    rw [Nat.add_mul] at h1
    exact hth _ (by omega)
theorem LiesK.rng (h : LiesK K w (.slice (some ⟨k, o, none⟩) cs.length c) cs) (i : Nat) (x : α) (hx : cs[i]? = some x) : w.rangeAt k (o + i * K.sz) (K.cells x) := by
  intro j u hu
  rcases h.2 with ⟨h0, _⟩ | ⟨g', o', c', he, hn, _, _, hr, _⟩
  · cases h0
  · simp only [Value.slice.injEq, Option.some.injEq, Addr.mk.injEq, and_true, true_and] at he
    obtain ⟨⟨rfl, rfl⟩, rfl⟩ := he
    rw [Nat.add_assoc]
    have hj := (List.getElem?_eq_some_iff.1 hu).1
    rw [K.len] at hj
    exact hr _ u (by rw [flat_get K.len cs i j x hx hj]; exact hu)
/-- One thing turned. -/
theorem LiesK.set (h : LiesK K w (.slice (some ⟨k, o, none⟩) cs.length c) cs) (i : Nat) (y : α) (hi : i < cs.length) :
    LiesK K (w.setCells k (o + i * K.sz) (K.cells y)) (.slice (some ⟨k, o, none⟩) cs.length c) (cs.set i y) := by
  have h1 : (i + 1) * K.sz ≤ cs.length * K.sz := Nat.mul_le_mul_right _ hi
  rw [Nat.add_mul] at h1
  have := (Lies.setMid h (i * K.sz) (K.cells y) (by rw [K.len]; omega)).1
  rw [flat_set K.len cs i y hi] at this
  unfold LiesK
  rw [List.length_set]
  exact this
/-- One thing cleared. -/
theorem LiesK.clear (h : LiesK K w (.slice (some ⟨k, o, none⟩) cs.length c) cs) (i : Nat) (hi : i < cs.length) (ty : TypeId) (m : Nat) :
    (Builtin.clear_ #[K.sl] ty #[.slice (some ⟨k, o + i * K.sz, none⟩) 1 m]).run P w = .ok (.tuple #[]) (w.setCells k (o + i * K.sz) (K.cells K.zero)) := by
  obtain ⟨t, z, hti, hz, hs, _, hzc⟩ := K.info
  have hzs : z.cells.size = K.sz := by rw [← K.len K.zero, ← hzc, Array.length_toList]
  have hone : (Builtin.zeroCells z.cells 1).toList = K.cells K.zero := by
    rw [← hzc]
    unfold Builtin.zeroCells
    apply List.ext_getElem
    · simp
    · intro j h1 h2
      have hj : j < z.cells.size := by simpa using h1
      simp [Nat.mod_eq_of_lt hj, hj]
  have hth := h.there i hi
  have := run_clear (P := P) (w := w) (n := 1) K.under z (fun w => by simp [zeroValue, typeInfo, hti, hz]) (by rw [hone]; exact K.one _) ty k (o + i * K.sz) m (by decide)
    (by rw [hone, K.len]; exact fun j hj => (hth j hj).1) (by rw [hone, K.len]; exact fun j hj => (hth j hj).2)
  rw [hone] at this
  exact this
/-- A slice made. -/
theorem LiesK.make (K : Kind P α) (n : Nat) (hn : n ≤ 1000000000) (w : World) :
    ∃ w', (Instr.makeSlice K.sl (.int .i64 (n : Int)) (.int .i64 (n : Int))).run P w = .ok (.slice (some ⟨w.heap.size, 0, none⟩) n n) w' ∧ LiesK K w' (.slice (some ⟨w.heap.size, 0, none⟩) n n) (List.replicate n K.zero) ∧ w'.heap.size = w.heap.size + 1 ∧ Below w.heap.size w w' := by
  obtain ⟨t, z, hti, hz, hs, hby, hzc⟩ := K.info
  have hzs : z.cells.size = K.sz := by rw [← K.len K.zero, ← hzc, Array.length_toList]
  have hb : t.bytes * n ≤ 1024 * 1000000000 := Nat.mul_le_mul hby hn
  have hr := run_make (P := P) w K.sl K.el t z K.under hti hz .i64 .i64 n n (by omega) (by omega) (by
    have : ((t.bytes * n : Nat) : Int) ≤ 281474976710656 := by omega
    rwa [Int.natCast_mul] at this) (by omega)
  simp only [Int.toNat_natCast] at hr
  refine ⟨_, hr, ?_, alloc_size _ _, (Below.refl _ w).alloc (Nat.le_refl _) _⟩
  have hrow := row_new w (madeCells z.cells (n * t.size)) K.el
  refine ⟨by rw [flat_len K.len], .inr ⟨w.heap.size, 0, n, by rw [List.length_replicate], by rw [List.length_replicate]; exact Nat.le_refl _, by simp only [maxLen]; omega, hrow.lt, fun j u hu => ?_, fun j hj => ?_⟩⟩
  · have hj := (List.getElem?_eq_some_iff.1 hu).1
    rw [flat_len K.len, List.length_replicate] at hj
    have h1 := rep_get K.len K.pos K.zero n j u hu
    rw [Nat.zero_add, cell_of_row _ _ j _ _ _ hrow, hs]
    rw [← hzc, Array.getElem?_toList] at h1
    have hm : j % K.sz < z.cells.size := by rw [hzs]; exact Nat.mod_lt _ K.pos
    rw [Array.getElem?_eq_getElem hm] at h1
    simp [madeCells, hj, hzs]
    rw [getElem!_pos z.cells _ hm]
    exact Option.some.inj h1
  · rw [Nat.zero_add]
    exact ⟨by rw [cell_of_row _ _ j _ _ _ hrow, hs, Array.getElem?_eq_getElem (by rw [size_madeCells]; exact hj)]; rfl, hrow.frozen j⟩
end

/-! A circle of things: from place f on they stand, one behind the other. -/
theorem mod_twice {a C : Nat} (h : a < 2 * C) : a % C = if a < C then a else a - C := by
  split
  · exact Nat.mod_eq_of_lt ‹_›
  · rw [Nat.mod_eq_sub_mod (by omega), Nat.mod_eq_of_lt (by omega)]
def Turned (f : Nat) (cs xs : List α) : Prop := xs.length ≤ cs.length ∧ (f < cs.length ∨ f = 0 ∧ cs.length = 0) ∧ ∀ i x, xs[i]? = some x → cs[(f + i) % cs.length]? = some x
theorem turned_nil : Turned (α := α) 0 [] [] := ⟨Nat.le_refl _, .inr ⟨rfl, rfl⟩, fun i x h => by simp at h⟩
theorem Turned.set {f : Nat} {cs xs : List α} (h : Turned f cs xs) (i : Nat) (y : α) (hi : i < xs.length) : Turned f (cs.set ((f + i) % cs.length) y) (xs.set i y) := by
  obtain ⟨h1, h2, h3⟩ := h
  refine ⟨by rw [List.length_set, List.length_set]; exact h1, by rw [List.length_set]; exact h2, fun j x hx => ?_⟩
  have hf : f < cs.length := by omega
  rw [List.length_set]
  by_cases hj : i = j
  · subst hj
    rw [List.getElem?_set_self hi] at hx
    rw [List.getElem?_set_self (Nat.mod_lt _ (by omega))]; exact hx
  · have hjl : j < xs.length := by
      have := (List.getElem?_eq_some_iff.1 hx).1
      rwa [List.length_set] at this
    rw [List.getElem?_set_ne hj] at hx
    rw [List.getElem?_set_ne]
    · exact h3 j x hx
    · rw [mod_twice (by omega), mod_twice (by omega)]; split <;> split <;> omega
theorem Turned.push {f : Nat} {cs xs : List α} (h : Turned f cs xs) (y : α) (hl : xs.length < cs.length) : Turned f (cs.set ((f + xs.length) % cs.length) y) (xs ++ [y]) := by
  obtain ⟨h1, h2, h3⟩ := h
  refine ⟨by rw [List.length_set, List.length_append, List.length_singleton]; exact hl, by rw [List.length_set]; exact h2, fun j x hx => ?_⟩
  have hf : f < cs.length := by omega
  rw [List.length_set]
  by_cases hj : j < xs.length
  · rw [List.getElem?_append_left hj] at hx
    rw [List.getElem?_set_ne]
    · exact h3 j x hx
    · rw [mod_twice (by omega), mod_twice (by omega)]; split <;> split <;> omega
  · have hjl := (List.getElem?_eq_some_iff.1 hx).1
    rw [List.length_append, List.length_singleton] at hjl
    obtain rfl : j = xs.length := by omega
    rw [List.getElem?_append_right (Nat.le_refl _), Nat.sub_self] at hx
    rw [List.getElem?_set_self (Nat.mod_lt _ (by omega))]; exact hx
theorem Turned.pop {f : Nat} {cs r : List α} {x : α} (h : Turned f cs (x :: r)) (z : α) : Turned ((f + 1) % cs.length) (cs.set f z) r ∧ f < cs.length := by
  obtain ⟨h1, h2, h3⟩ := h
  rw [List.length_cons] at h1
  have hf : f < cs.length := by omega
  refine ⟨⟨by rw [List.length_set]; omega, by rw [List.length_set]; exact .inl (Nat.mod_lt _ (by omega)), fun j y hy => ?_⟩, hf⟩
  have hjl := (List.getElem?_eq_some_iff.1 hy).1
  have h4 := h3 (j + 1) y (by rw [List.getElem?_cons_succ]; exact hy)
  have e : ((f + 1) % cs.length + j) % cs.length = (f + (j + 1)) % cs.length := by rw [Nat.mod_add_mod]; congr 1; omega
  rw [List.length_set, e, List.getElem?_set_ne]
  · exact h4
  · rw [mod_twice (by omega)]; split <;> omega
theorem Turned.head {f : Nat} {cs r : List α} {x : α} (h : Turned f cs (x :: r)) : cs[f]? = some x := by
  have h1 := h.2.2 0 x rfl
  have h2 := h.1
  rw [List.length_cons] at h2
  have hf : f < cs.length := by have := h.2.1; omega
  rw [Nat.add_zero, Nat.mod_eq_of_lt hf] at h1
  exact h1
theorem turned_wide (xs : List α) (z : α) (m : Nat) (h : xs.length ≤ m) : Turned 0 (xs ++ List.replicate (m - xs.length) z) xs := by
  have e : (xs ++ List.replicate (m - xs.length) z).length = m := by rw [List.length_append, List.length_replicate]; omega
  refine ⟨by rw [e]; exact h, by rw [e]; omega, fun j x hx => ?_⟩
  have hj := (List.getElem?_eq_some_iff.1 hx).1
  rw [e, Nat.zero_add, Nat.mod_eq_of_lt (by omega), List.getElem?_append_left hj]
  exact hx
/-- What was copied so far, and nothing behind it. -/
def copied (xs : List α) (z : α) (m i : Nat) : List α := xs.take i ++ List.replicate (m - i) z
theorem copied_len (xs : List α) (z : α) (m i : Nat) (h : i ≤ xs.length) (hm : xs.length ≤ m) : (copied xs z m i).length = m := by
  unfold copied
  rw [List.length_append, List.length_take, List.length_replicate]; omega
theorem copied_next (xs : List α) (z : α) (m i : Nat) (x : α) (hx : xs[i]? = some x) (hm : xs.length ≤ m) : (copied xs z m i).set i x = copied xs z m (i + 1) := by
  obtain ⟨hi, rfl⟩ := List.getElem?_eq_some_iff.1 hx
  have htl : (xs.take i).length = i := by rw [List.length_take]; omega
  unfold copied
  rw [List.set_append_right _ _ (by omega), htl, Nat.sub_self, show m - i = m - (i + 1) + 1 by omega, List.replicate_succ, List.set_cons_zero, List.take_succ_eq_append_getElem hi, List.append_assoc]
  rfl
theorem copied_all (xs : List α) (z : α) (m : Nat) : copied xs z m xs.length = xs ++ List.replicate (m - xs.length) z := by
  unfold copied; rw [List.take_length]
/-- The things with their places. -/
def plc (z : α) (xs : List α) : List (Nat × α) := (List.range xs.length).map fun i => (i, xs.getD i z)
theorem plc_len (z : α) (xs : List α) : (plc z xs).length = xs.length := by simp [plc]
theorem plc_get (z : α) (xs : List α) (i : Nat) (x : α) (hx : xs[i]? = some x) : (plc z xs)[i]? = some (i, x) := by
  obtain ⟨hi, rfl⟩ := List.getElem?_eq_some_iff.1 hx
  simp [plc, hi]
theorem plc_next (z : α) (xs : List α) (i : Nat) (x : α) (hx : xs[i]? = some x) : (plc z xs).take i ++ [(i, x)] = (plc z xs).take (i + 1) := by
  have h := plc_get z xs i x hx
  obtain ⟨hi, he⟩ := List.getElem?_eq_some_iff.1 h
  rw [List.take_succ_eq_append_getElem hi, he]
theorem plc_pre {z : α} {xs : List α} {pre : List (Nat × α)} {y : Nat × α} (h : pre ++ [y] <+: plc z xs) : y.1 = pre.length ∧ xs[pre.length]? = some y.2 := by
  obtain ⟨t, ht⟩ := h
  have hl : pre.length < (plc z xs).length := by rw [← ht, List.length_append, List.length_append, List.length_singleton]; omega
  have hg : (plc z xs)[pre.length]? = some y := by rw [← ht, List.append_assoc, List.getElem?_append_right (Nat.le_refl _), Nat.sub_self]; rfl
  rw [plc_len] at hl
  rw [plc_get z xs pre.length _ (List.getElem?_eq_getElem hl)] at hg
  obtain rfl := Option.some.inj hg
  exact ⟨rfl, List.getElem?_eq_getElem hl⟩
/-! A load, a store, as operations. -/
theorem exec_load_by {P : Program} {a : Act} {o : Oper} {w : World} (ty : TypeId) (x : Operand) (ho : o.op = .load ty x) (ad : Addr) (hx : a.eval x = .pointer (some ad)) {v : Value} (h : (loadVar ty ad).run P w = .ok v w) : (execOp a.eval o).run P w = .ok (.value v) w := by
  unfold execOp
  simp only [ho, hx, Instr.loadAt, Instr.sureAddr, Sem.run_bind, Sem.run_pure, Result.andThen_ok, h]
theorem exec_index_by {P : Program} {a : Act} {o : Oper} {w : World} (t : TypeId) (x y : Operand) (ho : o.op = .indexAddr t x y) (V I : Value) (hx : a.eval x = V) (hy : a.eval y = I) (ad : Addr) (h : (Instr.indexAt t V I).run P w = .ok (.pointer (some ad)) w) : (execOp a.eval o).run P w = .ok (.value (.pointer (some ad))) w := by
  simp [execOp, ho, hx, hy, h, Result.andThen]
theorem exec_slice_by {P : Program} {a : Act} {o : Oper} {w : World} (t : TypeId) (x y z : Operand) (ho : o.op = .slice t x (some y) (some z) none) {e : TypeId} (ht : P.underlying t = some (.slice e)) (V I J : Value) (hx : a.eval x = V) (hy : a.eval y = I) (hz : a.eval z = J) {R : Value} (h : (Instr.slice t V (some I) (some J) none).run P w = .ok R w) : (execOp a.eval o).run P w = .ok (.value R) w := by
  have hs : (Instr.sliceAt t V (some I) (some J) none).run P w = .ok R w := by
    unfold Instr.sliceAt
    rw [Sem.run_bind, run_underlying ht]
    exact h
  simp only [execOp, ho, hx, hy, hz, Option.map_some, Option.map_none, Sem.run_bind, hs, Sem.run_pure, Result.andThen_ok]
theorem exec_clear_by {P : Program} {a : Act} {o : Oper} {w w' : World} (t : TypeId) (x : Operand) (ho : o.op = .call { callee := .builtin .clear, args := #[x], argTypes := #[t] }) (V : Value) (hx : a.eval x = V) {R : Value} (h : (Builtin.clear_ #[t] o.type #[V]).run P w = .ok R w') : (execOp a.eval o).run P w = .ok (.value R) w' := by
  simp only [execOp, ho, resolve, invoke, builtin, Sem.run_bind, Sem.run_pure, Result.andThen_ok, List.map_toArray, List.map_cons, List.map_nil, hx, h]
theorem exec_store_by {P : Program} {a : Act} {o : Oper} {w w' : World} (ty : TypeId) (x y : Operand) (ho : o.op = .store ty x y) (ad : Addr) (hx : a.eval x = .pointer (some ad)) {v : Value} (hy : a.eval y = v) (h : (storeVar ty ad v).run P w = .ok () w') : (execOp a.eval o).run P w = .ok .skip w' := by
  unfold execOp
  simp only [ho, hx, hy, Instr.storeAt, Instr.sureAddr, Sem.run_bind, Sem.run_pure, Result.andThen_ok, h]
end Go.Proofs.YtnaekjmlikhglaaDoor
/- Slices that came in, opened: of numbers, of texts. Over any program. -/
namespace Go.Proofs.YtnaekjmlikhglaaDoor
open Go.ChangeShapes Go.WideShapes Go.ChangeAt Go.RowKit
open Go.WideMaps Go.WideElems
variable {P : Program}

theorem S_of (s : ByteArray) : Value.string s = S s.data.toList := by rw [S]
theorem B_of (n : Int) (h0 : 0 ≤ n) (h1 : n ≤ 255) : Value.int .u8 n = B (UInt8.ofNat n.toNat) := by
  have e : ((UInt8.ofNat n.toNat).toNat : Int) = n := by rw [UInt8.toNat_ofNat']; omega
  rw [B, e]

theorem came_nums {t e : TypeId} {k : IntKind} (hu : P.underlying t = some (.slice e)) (he : P.underlying e = some (.int k)) (hcs : P.cellsOf e = 1) (hz : ∀ w, (sizeOf e).run P w = .ok 1 w)
    {H : Type} {enc : TypeId × Value → H} {W : World} {a0 : Option Addr} {len cap fuel : Nat} {x : DataW H × List MemPlace}
    (hf : DataW.trod enc P W 0 (fun _ => true) true fuel t [.slice a0 len cap] = some x) :
    ∃ (ad : Nat → Addr) (z : Nat → Int), Came P W t (.slice a0 len cap) len ad (fun i => .int k (z i)) ∧ ∀ i, i < len → (Lit.int k (z i)).wf = true := by
  have hlen : ∀ T w', (Builtin.len_ #[t] T #[.slice a0 len cap]).run P w' = .ok (.int .i64 (len : Int)) w' := fun T w' => by
    simp [Builtin.len_, run_underlying hu, Result.andThen, goInt]
  rcases open_ints hu he hcs hf with ⟨hcs, _⟩ | ⟨a, len', cap', zs, hcs, _, hl, _, hzs, _, hcell, hwz⟩
  · simp only [List.cons.injEq, Value.slice.injEq, and_true] at hcs
    obtain ⟨rfl, rfl, rfl⟩ := hcs
    exact ⟨fun _ => ⟨0, 0, none⟩, fun _ => 0, ⟨hlen, fun i h => absurd h (by omega), fun i h => absurd h (by omega)⟩, fun i h => absurd h (by omega)⟩
  · simp only [List.cons.injEq, Value.slice.injEq, and_true] at hcs
    obtain ⟨rfl, rfl, rfl⟩ := hcs
    simp only [if_true] at hzs
    refine ⟨fun i => a.add i, fun i => zs.getD i 0, ⟨hlen, fun i hi w' => ?_, fun i hi => hcell i (by omega)⟩, fun i hi => ?_⟩
    · have h1 : (0 : Int) ≤ (i : Int) ∧ (i : Int) < (len : Int) := by omega
      simp [Instr.indexAt, run_underlying hu, asIntOf, hz, h1, go_sem]
      intro hge; omega
    · refine hwz _ ?_
      show zs.getD i 0 ∈ zs
      rw [List.getD_eq_getElem?_getD, List.getElem?_eq_getElem (by omega)]
      exact List.getElem_mem _
theorem came_texts {t e : TypeId} (hu : P.underlying t = some (.slice e)) (he : P.underlying e = some .string) (hcs : P.cellsOf e = 1) (hz : ∀ w, (sizeOf e).run P w = .ok 1 w)
    {H : Type} {enc : TypeId × Value → H} {W : World} {a0 : Option Addr} {len cap fuel : Nat} {x : DataW H × List MemPlace}
    (hf : DataW.trod enc P W 0 (fun _ => true) true fuel t [.slice a0 len cap] = some x) :
    ∃ (ad : Nat → Addr) (z : Nat → List UInt8), Came P W t (.slice a0 len cap) len ad (fun i => S (z i)) := by
  have hlen : ∀ T w', (Builtin.len_ #[t] T #[.slice a0 len cap]).run P w' = .ok (.int .i64 (len : Int)) w' := fun T w' => by
    simp [Builtin.len_, run_underlying hu, Result.andThen, goInt]
  rcases open_strings hu he hcs hf with ⟨hcs, _⟩ | ⟨a, len', cap', ss, hcs, _, hl, _, hss, _, hcell, _⟩
  · simp only [List.cons.injEq, Value.slice.injEq, and_true] at hcs
    obtain ⟨rfl, rfl, rfl⟩ := hcs
    exact ⟨fun _ => ⟨0, 0, none⟩, fun _ => [], ⟨hlen, fun i h => absurd h (by omega), fun i h => absurd h (by omega)⟩⟩
  · simp only [List.cons.injEq, Value.slice.injEq, and_true] at hcs
    obtain ⟨rfl, rfl, rfl⟩ := hcs
    simp only [if_true] at hss
    refine ⟨fun i => a.add i, fun i => (ss.getD i ByteArray.empty).data.toList, ⟨hlen, fun i hi w' => ?_, fun i hi => ?_⟩⟩
    · have h1 : (0 : Int) ≤ (i : Int) ∧ (i : Int) < (len : Int) := by omega
      simp [Instr.indexAt, run_underlying hu, asIntOf, hz, h1, go_sem]
      intro hge; omega
    · rw [hcell i (by omega), S_of]
end Go.Proofs.YtnaekjmlikhglaaDoor
/- A slice of structs that came in, opened: each field one cell. Over any program. -/
namespace Go.Proofs.YtnaekjmlikhglaaDoor
open Go.ChangeShapes Go.WideShapes Go.ChangeAt Go.RowKit Go.Deep
variable {P : Program}

/-- A slice of n structs of sz cells that came in: cell j of struct i holds 'v i j'. -/
structure CameS (P : Program) (w : World) (t : TypeId) (V : Value) (n b o sz : Nat) (v : Nat → Nat → Value) : Prop where
  len : ∀ T w', (Builtin.len_ #[t] T #[V]).run P w' = .ok (.int .i64 (n : Int)) w'
  index : ∀ i, i < n → ∀ w', (Instr.indexAt t V (.int .i64 (i : Int))).run P w' = .ok (.pointer (some ⟨b, o + i * sz, none⟩)) w'
  cell : ∀ i j, i < n → j < sz → w.cell? ⟨b, o + i * sz + j, none⟩ = some (v i j)
theorem CameS.below {w w' : World} {t : TypeId} {V : Value} {n b o sz : Nat} {v : Nat → Nat → Value} (h : CameS P w t V n b o sz v) (hb : Below w.heap.size w w') : CameS P w' t V n b o sz v :=
  ⟨h.len, h.index, fun i j hi hj => by rw [hb.cell (World.block_lt_of_cell? w _ (h.cell i j hi hj))]; exact h.cell i j hi hj⟩

theorem came_structs {t e : TypeId} {fs : Array Field} (hu : P.underlying t = some (.slice e)) (he : P.underlying e = some (.struct fs)) (hone : oneCellFields P fs = true) (hC : P.cellsOf e = fs.size) (hpos : 0 < fs.size)
    (hz : ∀ w, (sizeOf e).run P w = .ok fs.size w)
    {H : Type} {enc : TypeId × Value → H} {W : World} {a0 : Option Addr} {len cap fuel : Nat} {x : DataW H × List MemPlace}
    (hf : DataW.trod enc P W 0 (fun _ => true) true fuel t [.slice a0 len cap] = some x) :
    ∃ b o v, CameS P W t (.slice a0 len cap) len b o fs.size v ∧ ∃ n, ∀ i j f, i < len → fs[j]? = some f → ∃ y, DataW.trod enc P W 0 (fun _ => true) true n f.type [v i j] = some y := by
  have hlen : ∀ T w', (Builtin.len_ #[t] T #[.slice a0 len cap]).run P w' = .ok (.int .i64 (len : Int)) w' := fun T w' => by
    simp [Builtin.len_, run_underlying hu, Result.andThen, goInt]
  have h1 := hone_of hone
  rcases Nat.eq_zero_or_pos len with rfl | hlp
  · exact ⟨0, 0, fun _ _ => undef, ⟨hlen, fun i h => absurd h (by omega), fun i j h => absurd h (by omega)⟩, 0, fun i j f h => absurd h (by omega)⟩
  rcases open_slice hu hf with ⟨hcs, _⟩ | ⟨a, len', cap', m, n, D, Pl, hcs, _, hl, _, hm, _, hx⟩
  · simp only [List.cons.injEq, Value.slice.injEq, and_true] at hcs
    omega
  · simp only [List.cons.injEq, Value.slice.injEq, and_true] at hcs
    obtain ⟨rfl, rfl, rfl⟩ := hcs
    simp only [if_true] at hm
    subst hm
    rw [hC] at hx
    have hel : ∀ i, i < len → ∃ cs', cs'.length = fs.size ∧ (∀ j, j < fs.size → W.cell? ((a.add (i * fs.size)).add j) = some (cs'.getD j undef)) ∧ DataW.trod enc P W 0 (fun _ => true) true n e cs' = some (D i, Pl i) := fun i hi => by
      obtain ⟨cs', hc, ht⟩ := hx i (by omega)
      obtain ⟨_, hl', hcell⟩ := World.cells?_some hc
      refine ⟨cs', hl', fun j hj => ?_, ht⟩
      rw [hcell j hj]
      simp [List.getD, List.getElem?_eq_getElem (show j < cs'.length by omega)]
    obtain ⟨F, hF⟩ := choose_lt (α := List Value) (p := fun i cs' => cs'.length = fs.size ∧ (∀ j, j < fs.size → W.cell? ((a.add (i * fs.size)).add j) = some (cs'.getD j undef)) ∧ DataW.trod enc P W 0 (fun _ => true) true n e cs' = some (D i, Pl i)) hel
    obtain ⟨b, o, spot⟩ := a
    have hspot : spot = none := by
      have h0 := (hF 0 hlp).2.1 0 hpos
      have := World.cell?_spot h0
      simpa [Addr.add] using this
    subst hspot
    have hadd : ∀ k, (⟨b, o, none⟩ : Addr).add k = ⟨b, o + k, none⟩ := fun k => add_plain b o k
    refine ⟨b, o, fun i j => (F i).getD j undef, ⟨hlen, fun i hi w' => ?_, fun i j hi hj => ?_⟩, n, fun i j f hi hfj => ?_⟩
    · have h1 : (0 : Int) ≤ (i : Int) ∧ (i : Int) < (len : Int) := by omega
      have := hadd (i * fs.size)
      simp [Instr.indexAt, run_underlying hu, asIntOf, hz, h1, go_sem]
      intro hge; omega
    · have := (hF i hi).2.1 j hj
      rw [hadd, add_plain] at this
      exact this
    · obtain ⟨hl', _, ht⟩ := hF i hi
      obtain ⟨xs, n', rfl, _, _, hxl, hff⟩ := DataW.trod_struct he ht
      have hlt : j < fs.size := (Array.getElem?_eq_some_iff.1 hfj).1
      obtain ⟨ho, hc1⟩ := h1 j f hfj
      have g := hff j f hfj
      rw [ho, hc1, take1_drop (F i) j undef (by omega), List.getElem?_eq_getElem (by omega)] at g
      exact ⟨_, DataW.trod_succ n' _ _ _ g⟩
/-- A field that is a number, a text, a bool: what its cell holds. -/
theorem field_num {H : Type} {enc : TypeId × Value → H} {W : World} {n : Nat} {t : TypeId} {k : IntKind} {v : Value} {y : DataW H × List MemPlace} (ht : P.underlying t = some (.int k)) (h : DataW.trod enc P W 0 (fun _ => true) true n t [v] = some y) : ∃ z, v = .int k z ∧ (Lit.int k z).wf = true := by
  obtain ⟨z, hz, _, hw⟩ := DataW.trod_int ht h
  exact ⟨z, by simpa using hz, hw⟩
theorem field_text {H : Type} {enc : TypeId × Value → H} {W : World} {n : Nat} {t : TypeId} {v : Value} {y : DataW H × List MemPlace} (ht : P.underlying t = some .string) (h : DataW.trod enc P W 0 (fun _ => true) true n t [v] = some y) : ∃ s, v = S s ∧ s.length ≤ maxLen := by
  obtain ⟨s, hs, _, hl⟩ := DataW.trod_string ht h
  refine ⟨s.data.toList, by rw [← S_of]; simpa using hs, ?_⟩
  have : s.data.toList.length = s.size := by rw [Array.length_toList]; rfl
  omega
theorem field_bool {H : Type} {enc : TypeId × Value → H} {W : World} {n : Nat} {t : TypeId} {v : Value} {y : DataW H × List MemPlace} (ht : P.underlying t = some .bool) (h : DataW.trod enc P W 0 (fun _ => true) true n t [v] = some y) : ∃ b, v = .bool b := by
  obtain ⟨b, hb, _⟩ := DataW.trod_bool ht h
  exact ⟨b, by simpa using hb⟩
/-- One function for a family. -/
theorem choose_lt' {α : Type} [Inhabited α] {n : Nat} {p : Nat → α → Prop} (h : ∀ i, i < n → ∃ x, p i x) : ∃ f : Nat → α, ∀ i, i < n → p i (f i) := choose_lt h
end Go.Proofs.YtnaekjmlikhglaaDoor
