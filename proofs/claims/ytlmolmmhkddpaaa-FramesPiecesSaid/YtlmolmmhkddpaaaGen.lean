/- Laws for walks, over any program: bytes and texts as opaque values; a slice of one's own, one element appended; blocks that were made since; steps of a region that draws its order; a slice that came in. -/
import Derived.WalkKit
import Derived.WalkSpells
import Derived.WalkLawsBesides
import Derived.Lib.Hide
import Derived.Lib.ConvBytes
import Derived.Lib.AppendStr
import Derived.Lib.OthersKept
import Derived.Laws.AppendOwn
import Derived.Laws.MakeOwn
import Derived.Outline
import Derived.Deep.WholeRow
import Derived.Deep.MidRow
import Derived.Deep.RegionHeld3
import Derived.Laws.CopyRow
import Derived.Still
namespace Go.Proofs.Ytlmolmmhkddpaaa
open Go.RowKit
variable {P : Program}

/-- A byte as a value. -/
def B (x : UInt8) : Value := .int .u8 (x.toNat : Int)
theorem B_cells (x : UInt8) : (B x).cells = #[B x] := rfl
theorem B_match (x : UInt8) : (@Value.cells.match_1 (fun _ => Array Value) (B x) (fun cs => cs) (fun v => #[v])) = #[B x] := rfl
theorem run_store_ok (P : Program) (w : World) (a : Addr) (v : Value) (m : Mode) (hv : v.oneCell' = true) (hc : (w.cell? a).isSome = true) (hf : w.frozen? a = false) : (store a v m).run P w = .ok () (w.setCell a v) := by
  obtain ⟨v0, h0⟩ := Option.isSome_iff_exists.1 hc
  rw [run_store P w a v m hv, h0]; simp [hf]
theorem B_store (P : Program) (w : World) (a : Addr) (x : UInt8) (m : Mode) (hc : (w.cell? a).isSome = true) (hf : w.frozen? a = false) : (store a (B x) m).run P w = .ok () (w.setCell a (B x)) :=
  run_store_ok P w a (B x) m rfl hc hf
theorem store_one (a : Addr) (v : Value) : storeCells a [v] = store a v := by
  have : a.add 0 = a := by unfold Addr.add; rw [if_pos rfl]
  simp [storeCells, this]
theorem B_one (x : UInt8) : (B x).oneCell' = true := rfl
/-- A list of bytes as cells. -/
def bcells (l : List UInt8) : Array Value := (l.map B).toArray
theorem bcells_size (l : List UInt8) : (bcells l).size = l.length := by simp [bcells]
theorem bcells_get (l : List UInt8) (k : Nat) (h : k < l.length) : (bcells l)[k]? = some (B (l[k]?.getD 0)) := by
  simp [bcells, h]
theorem bcells_set (l : List UInt8) (k : Nat) (x : UInt8) : (bcells l).setIfInBounds k (B x) = bcells (l.set k x) := by
  simp [bcells, List.map_set]
theorem bcells_one (l : List UInt8) : (bcells l).all (·.oneCell') = true := by
  simp [bcells]; intro x _; rfl

/-- A text as a value. -/
def S (l : List UInt8) : Value := .string ⟨l.toArray⟩
theorem S_add (t : TypeId) (a b : List UInt8) (h : a.length + b.length ≤ 9223372036854775807) : binOp .add t (S a) (S b) = pure (S (a ++ b)) := by
  have e : Op.stringOp .add ⟨a.toArray⟩ ⟨b.toArray⟩ = pure (Value.string (⟨a.toArray⟩ ++ ⟨b.toArray⟩)) := by
    have hs : ((⟨a.toArray⟩ : ByteArray).size + (⟨b.toArray⟩ : ByteArray).size : Nat) = a.length + b.length := by simp [ByteArray.size]
    simp only [Op.stringOp]
    rw [if_neg (by rw [hs]; show ¬ ((a.length + b.length : Nat) : Int) > 9223372036854775807; omega)]
  simp only [S, binOp, e]
  congr 2

theorem alloc_size (w : World) (o : Obj) : (w.alloc o).heap.size = w.heap.size + 1 := by simp
/-- Block g of the world holds these cells, and may be written. -/
def Row (w : World) (g : Nat) (cs : Array Value) (t : TypeId) : Prop := w.heap[g]? = some (.cells cs t (0, 0))
section
variable {w : World} {g : Nat} {cs : Array Value} {t : TypeId}
theorem Row.row (h : Row w g cs t) : w.heap[g]? = some (.cells cs t (0, 0)) := h
theorem Row.byte (h : Row w g cs t) (l : List UInt8) (e : cs = bcells l) (k : Nat) (hk : k < l.length) : w.cell? ⟨g, k, none⟩ = some (B (l[k]?.getD 0)) := by
  rw [cell_of_row w g k cs t (0, 0) h, e]; exact bcells_get l k hk
theorem Row.frozen (h : Row w g cs t) (k : Nat) : w.frozen? ⟨g, k, none⟩ = false := frozen_of_row w g k cs t h
theorem Row.drew (h : Row w g cs t) : Row w.drew g cs t := h
theorem Row.other (h : Row w g cs t) {a : Addr} {v : Value} (hn : g ≠ a.block) : Row (w.setCell a v) g cs t := by
  unfold Row; rw [heap_setCell_other w a g v hn]; exact h
theorem Row.set (h : Row w g cs t) (i : Nat) (v : Value) : Row (w.setCell ⟨g, i, none⟩ v) g (cs.setIfInBounds i v) t := heap_setCell_same w g i cs t v h
theorem Row.set_byte {l : List UInt8} (h : Row w g (bcells l) t) (i : Nat) (x : UInt8) {l' : List UInt8} (e : l' = l.set i x) : Row (w.setCell ⟨g, i, none⟩ (B x)) g (bcells l') t := by
  rw [e, ← bcells_set]; exact h.set i _
theorem Row.lt (h : Row w g cs t) : g < w.heap.size := (Array.getElem?_eq_some_iff.1 h).1
theorem Row.alloc (h : Row w g cs t) (o : Obj) : Row (w.alloc o) g cs t := by
  unfold Row; rw [Below.heap_alloc _ _ _ h.lt]; exact h
theorem Row.below {w' : World} {b : Nat} (h : Row w g cs t) (hb : Below b w w') (hg : g < b) : Row w' g cs t := by
  unfold Row; rw [hb.block g hg]; exact h
end
theorem row_new (w : World) (cs : Array Value) (t : TypeId) : Row (w.alloc (.cells cs t)) w.heap.size cs t := heap_alloc_last w _
theorem _root_.Go.RowKit.Below.setRow {b : Nat} {a w : World} (h : Below b a w) {g : Nat} (hg : b ≤ g) (cs : Array Value) : Below b a (w.setRow g cs) :=
  h.trans ⟨rfl, rfl, rfl, by simp, fun k hk => setRow_other w g k cs (by omega)⟩


/-- A type of one cell. -/
def Elem (P : Program) (e : TypeId) : Prop := ∃ i z, P.info? e = some i ∧ i.zero = some z ∧ i.size = 1 ∧ i.bytes ≤ 64 ∧ z.cells.size = 1
theorem elem_of {e : TypeId} {z : Value} {n : Nat} (h : (P.info? e).map (fun i => (i.zero, i.size, i.bytes)) = some (some z, 1, n)) (hn : n ≤ 64) (hz : z.cells.size = 1) : Elem P e := by
  cases hi : P.info? e with
  | none => simp [hi] at h
  | some i =>
    simp only [hi, Option.map_some, Option.some.injEq, Prod.mk.injEq] at h
    exact ⟨i, z, hi, h.1, h.2.1, by omega, hz⟩

section
variable {ops : Array Oper} {rest : List Oper} {o : Oper} {a : Act} {w : World} {Q : Exit → Act → World → Prop} {ts : TypeId}
theorem wpList_exec (hgd : o.guard = none) (v : Value) (w' : World) (hrun : (execOp a.eval o).run P w = .ok (.value v) w')
    (h : wpList P ops Q rest (a.put o.dst v) w') : wpList P ops Q (o :: rest) a w :=
  wpList_plain hgd fun _ hK => by
    unfold Oper.wp
    rw [hrun]
    exact hK _ _ h

theorem S_size (r : List UInt8) : (⟨r.toArray⟩ : ByteArray).size = r.length := by simp [ByteArray.size]

theorem run_len_S (hu : P.underlying ts = some .string) (t : TypeId) (r : List UInt8) (w : World) : (Builtin.len_ #[ts] t #[S r]).run P w = .ok (.int .i64 r.length) w := by
  simp [Builtin.len_, S, run_underlying hu, S_size, Result.andThen, goInt]
theorem run_slice_S (hu : P.underlying ts = some .string) (r : List UInt8) (m : Nat) (hm : m ≤ r.length) (w : World) : (Instr.sliceAt ts (S r) (some (.int .i64 m)) none none).run P w = .ok (S (r.drop m)) w := by
  rw [run_sliceAt_string w ts _ _ _ _ hu]
  have e : (⟨r.toArray⟩ : ByteArray).extract m r.length = ⟨(r.drop m).toArray⟩ := by
    apply ByteArray.ext
    rw [ByteArray.data_extract]; simp [List.take_of_length_le]
  simp [Instr.slice, S, run_underlying hu, Instr.sliceBounds, run_sliceBound, S_size, Result.andThen, hm, e]
theorem wpList_len_str (hu : P.underlying ts = some .string) (hgd : o.guard = none) (x : Operand) (ho : o.op = .call { callee := .builtin .len, args := #[x], argTypes := #[ts] }) (r : List UInt8) (hx : a.eval x = S r)
    (h : wpList P ops Q rest (a.put o.dst (.int .i64 r.length)) w) : wpList P ops Q (o :: rest) a w := by
  refine wpList_exec hgd _ w ?_ h
  simp [execOp, ho, resolve, invoke, builtin, hx, run_len_S hu, Result.andThen]

theorem wpList_drop_str (hu : P.underlying ts = some .string) (hgd : o.guard = none) (x y : Operand) (ho : o.op = .slice ts x (some y) none none) (r : List UInt8) (hx : a.eval x = S r) (m : Nat) (hy : a.eval y = .int .i64 m) (hm : m ≤ r.length)
    (h : wpList P ops Q rest (a.put o.dst (S (r.drop m))) w) : wpList P ops Q (o :: rest) a w := by
  refine wpList_exec hgd _ w ?_ h
  simp [execOp, ho, hx, hy, run_slice_S hu r m hm, Result.andThen]

/-- How long a text is, as a measure. -/
def slen : Value → Nat
  | .string s => s.size
  | _ => 0
theorem slen_S (r : List UInt8) : slen (S r) = r.length := S_size r

theorem run_take_S (hu : P.underlying ts = some .string) (r : List UInt8) (m : Nat) (hm : m ≤ r.length) (w : World) : (Instr.sliceAt ts (S r) none (some (.int .i64 m)) none).run P w = .ok (S (r.take m)) w := by
  rw [run_sliceAt_string w ts _ _ _ _ hu]
  have e : (⟨r.toArray⟩ : ByteArray).extract 0 m = ⟨(r.take m).toArray⟩ := by
    apply ByteArray.ext
    rw [ByteArray.data_extract]; simp
  simp [Instr.slice, S, run_underlying hu, Instr.sliceBounds, run_sliceBound, S_size, Result.andThen, hm, e]
theorem wpList_take_str (hu : P.underlying ts = some .string) (hgd : o.guard = none) (x y : Operand) (ho : o.op = .slice ts x none (some y) none) (r : List UInt8) (hx : a.eval x = S r) (k : Int) (m : Nat) (hy : a.eval y = .int .i64 k) (hk : k = (m : Int)) (hm : m ≤ r.length)
    (h : wpList P ops Q rest (a.put o.dst (S (r.take m))) w) : wpList P ops Q (o :: rest) a w := by
  refine wpList_exec hgd _ w ?_ h
  subst hk
  simp [execOp, ho, hx, hy, run_take_S hu r m hm, Result.andThen]
theorem wpList_drop_str' (hu : P.underlying ts = some .string) (hgd : o.guard = none) (x y : Operand) (ho : o.op = .slice ts x (some y) none none) (r : List UInt8) (hx : a.eval x = S r) (k : Int) (m : Nat) (hy : a.eval y = .int .i64 k) (hk : k = (m : Int)) (hm : m ≤ r.length)
    (h : wpList P ops Q rest (a.put o.dst (S (r.drop m))) w) : wpList P ops Q (o :: rest) a w := by
  subst hk
  exact wpList_drop_str hu hgd x y ho r hx m hy hm h
theorem wpList_len_slice (hgd : o.guard = none) (x : Operand) (t : TypeId) (ho : o.op = .call { callee := .builtin .len, args := #[x], argTypes := #[t] }) (V : Value) (hx : a.eval x = V) (n : Int)
    (hV : ∀ w', (Builtin.len_ #[t] o.type #[V]).run P w' = .ok (.int .i64 n) w')
    (h : wpList P ops Q rest (a.put o.dst (.int .i64 n)) w) : wpList P ops Q (o :: rest) a w := by
  refine wpList_exec hgd _ w ?_ h
  simp [execOp, ho, resolve, invoke, builtin, hx, hV, Result.andThen]
theorem wpList_index_slice (hgd : o.guard = none) (t : TypeId) (x y : Operand) (ho : o.op = .indexAddr t x y) (V I : Value) (hx : a.eval x = V) (hy : a.eval y = I) (ad : Addr)
    (hV : ∀ w', (Instr.indexAt t V I).run P w' = .ok (.pointer (some ad)) w')
    (h : wpList P ops Q rest (a.put o.dst (.pointer (some ad))) w) : wpList P ops Q (o :: rest) a w := by
  refine wpList_exec hgd _ w ?_ h
  simp [execOp, ho, hx, hy, hV, Result.andThen]
end
section
variable {ts : TypeId}
/-! A text's parts, where the operation is 'slice' itself. -/
theorem slice_mid (hu : P.underlying ts = some .string) (r : List UInt8) (m n : Nat) (hmn : m ≤ n) (hn : n ≤ r.length) (w : World) : (Instr.slice ts (S r) (some (.int .i64 m)) (some (.int .i64 n)) none).run P w = .ok (S ((r.drop m).take (n - m))) w := by
  have e : (⟨r.toArray⟩ : ByteArray).extract m n = ⟨((r.drop m).take (n - m)).toArray⟩ := by
    apply ByteArray.ext
    rw [ByteArray.data_extract]; simp
  simp [Instr.slice, S, run_underlying hu, Instr.sliceBounds, run_sliceBound, S_size, Result.andThen, hn, hmn, e]
theorem slice_take (hu : P.underlying ts = some .string) (r : List UInt8) (m : Nat) (hm : m ≤ r.length) (w : World) : (Instr.slice ts (S r) none (some (.int .i64 (m : Int))) none).run P w = .ok (S (r.take m)) w := by
  have h := run_take_S hu r m hm w
  rw [run_sliceAt_string w ts _ _ _ _ hu] at h
  exact h
theorem slice_drop (hu : P.underlying ts = some .string) (r : List UInt8) (m : Nat) (hm : m ≤ r.length) (w : World) : (Instr.slice ts (S r) (some (.int .i64 (m : Int))) none none).run P w = .ok (S (r.drop m)) w := by
  have h := run_slice_S hu r m hm w
  rw [run_sliceAt_string w ts _ _ _ _ hu] at h
  exact h
theorem index_text (hu : P.underlying ts = some .string) (s : ByteArray) (l : List UInt8) (hl : s.data.toList = l) (n : Nat) (x : UInt8) (hx : l[n]? = some x) (w : World) : (Instr.index ts (.string s) (.int .i64 (n : Int))).run P w = .ok (B x) w := by
  subst hl
  obtain ⟨hlt, rfl⟩ := List.getElem?_eq_some_iff.1 hx
  have hs : n < s.size := by
    have := hlt
    rw [Array.length_toList] at this
    exact this
  rw [run_index_string (w := w) ts s .i64 n hu, dif_pos ⟨Int.natCast_nonneg _, by omega⟩]
  simp [B]
  rfl
theorem index_S (hu : P.underlying ts = some .string) (l : List UInt8) (n : Nat) (x : UInt8) (hx : l[n]? = some x) (w : World) : (Instr.index ts (S l) (.int .i64 (n : Int))).run P w = .ok (B x) w := index_text hu ⟨l.toArray⟩ l rfl n x hx w

/-! Texts and bytes held against each other. -/
/-- Texts are held against each other. -/
theorem eql_S (t : TypeId) (a b : List UInt8) : binOp .eql t (S a) (S b) = pure (.bool (a == b)) := by
  have e : ((⟨a.toArray⟩ : ByteArray).toList == (⟨b.toArray⟩ : ByteArray).toList) = (a == b) := by
    simp
  simp only [S, binOp, Op.stringOp]
  rw [e]

theorem guard_S (t : TypeId) (x y : Operand) (a b : List UInt8) : eqGuard .eql t x y (S a) (S b) = pure () := rfl

theorem neql_S (t : TypeId) (a b : List UInt8) : binOp .neq t (S a) (S b) = pure (.bool (a != b)) := by
  have e : ((⟨a.toArray⟩ : ByteArray).toList == (⟨b.toArray⟩ : ByteArray).toList) = (a == b) := by
    simp
  simp only [S, binOp, Op.stringOp]
  rw [e]
  rfl
theorem nguard_S (t : TypeId) (x y : Operand) (a b : List UInt8) : eqGuard .neq t x y (S a) (S b) = pure () := rfl
theorem B_eql (t : TypeId) (x y : UInt8) : binOp .eql t (B x) (B y) = pure (.bool (x == y)) := by
  have e : ((x.toNat : Int) == (y.toNat : Int)) = (x == y) := by
    rw [Bool.eq_iff_iff, beq_iff_eq, beq_iff_eq]
    exact ⟨fun h => UInt8.toNat_inj.1 (by omega), fun h => by rw [h]⟩
  simp [B, binOp, Op.intCmp]
  exact congrArg (fun b => (pure (Value.bool b) : Sem Value)) e
theorem eguard_B (t : TypeId) (a b : Operand) (x y : UInt8) : eqGuard .eql t a b (B x) (B y) = pure () := rfl
theorem B_neq (t : TypeId) (x y : UInt8) (h : x ≠ y) : binOp .neq t (B x) (B y) = pure (.bool true) := by
  have e : (x.toNat : Int) ≠ (y.toNat : Int) := fun e => h (UInt8.toNat_inj.1 (by omega))
  simp [B, binOp, Op.intCmp]
  exact congrArg (fun b => (pure (Value.bool b) : Sem Value)) (bne_iff_ne.2 e)
theorem nguard_B (t : TypeId) (a b : Operand) (x y : UInt8) : eqGuard .neq t a b (B x) (B y) = pure () := rfl
theorem below_drewN (w : World) (n : Nat) : Below w.heap.size w (w.drewN n) := ⟨rfl, rfl, rfl, Nat.le_refl _, fun _ _ => rfl⟩
theorem mem_text (s : ByteArray) (n : Nat) (h : n < s.size) : s[n] ∈ s.data.toList := Array.getElem_mem_toList (xs := s.data) h
theorem get_text (s : ByteArray) (n : Nat) (h : n < s.size) : s.data.toList[n]? = some s[n] := by
  rw [Array.getElem?_toList]
  exact Array.getElem?_eq_getElem h

end
/-- The slice v holds just these values, in a block made behind 'base', and its room may be written. -/
def Own (base : Nat) (v : Value) (xs : List Value) (w : World) : Prop :=
  (v = .slice none 0 0 ∧ xs = []) ∨
    ∃ g cap, v = .slice (some ⟨g, 0, none⟩) xs.length cap ∧ base ≤ g ∧ g < w.heap.size ∧ xs.length ≤ cap ∧ cap ≤ maxLen ∧ w.rangeAt g 0 xs ∧ w.there g 0 cap

section
variable {w w' : World} {base g n cap : Nat} {v y : Value} {xs : List Value} {e : TypeId}
theorem Own.of_block (h : Own base v xs w) (hs : w.heap.size ≤ w'.heap.size) (hb : ∀ k, v.ownBlock = some k → w'.heap[k]? = w.heap[k]?) : Own base v xs w' := by
  rcases h with h | ⟨g, cap, rfl, h1, h2, h3, h4, h5, h6⟩
  · exact .inl h
  · have e := hb g rfl
    refine .inr ⟨g, cap, rfl, h1, by omega, h3, h4, fun j u hu => ?_, fun j hj => ?_⟩
    · rw [World.cell?_of_block (w := w) e]; exact h5 j u hu
    · rw [World.cell?_of_block (w := w) e, World.frozen?_of_block (w := w) e]; exact h6 j hj
theorem Own.lt (h : Own base v xs w) : ∀ k, v.ownBlock = some k → base ≤ k ∧ k < w.heap.size := by
  intro k hk
  rcases h with ⟨rfl, _⟩ | ⟨g, cap, rfl, h1, h2, _⟩
  · cases hk
  · cases hk; exact ⟨h1, h2⟩
theorem Own.alloc (h : Own base v xs w) (o : Obj) : Own base v xs (w.alloc o) :=
  h.of_block (by simp) (fun k hk => heap_alloc_old w o (h.lt k hk).2)
theorem Own.drew (h : Own base v xs w) : Own base v xs w.drew := h
theorem Own.grown (h : Own base v xs w) {row : Option Nat} (hg : w.grownBy w' row) (hne : ∀ k, v.ownBlock = some k → some k ≠ row) : Own base v xs w' :=
  h.of_block hg.size (fun k hk => hg.block k (h.lt k hk).2 (hne k hk))
theorem Own.below {b : Nat} (h : Own base v xs w) (hb : Below b w w') (hlt : ∀ k, v.ownBlock = some k → k < b) : Own base v xs w' :=
  h.of_block hb.size (fun k hk => hb.block k (hlt k hk))
theorem Own.form (h : Own base v xs w) (hx : xs ≠ []) : ∃ g cap, v = .slice (some ⟨g, 0, none⟩) xs.length cap ∧ base ≤ g ∧ g < w.heap.size ∧ w.rangeAt g 0 xs := by
  rcases h with ⟨_, h⟩ | ⟨g, cap, rfl, h1, h2, _, _, h5, _⟩
  · exact absurd h hx
  · exact ⟨g, cap, rfl, h1, h2, h5⟩
theorem Own.shape (h : Own base v xs w) {n : Nat} (hn : xs.length = n) (h0 : 0 < n) : ∃ g cap, v = .slice (some ⟨g, 0, none⟩) n cap ∧ base ≤ g ∧ g < w.heap.size ∧ w.rangeAt g 0 xs := by
  subst hn
  exact h.form (fun e => by rw [e] at h0; exact absurd h0 (Nat.lt_irrefl 0))
/-- How long a slice is, as a measure. -/
def vlen : Value → Nat
  | .slice _ n _ => n
  | _ => 0
theorem Own.vlen (h : Own base v xs w) : vlen v = xs.length := by
  rcases h with ⟨rfl, rfl⟩ | ⟨g, cap, rfl, _⟩ <;> rfl
theorem row_grown {cs : Array Value} {t : TypeId} (h : Row w g cs t) {row : Option Nat} (hg : w.grownBy w' row) (hne : some g ≠ row) : Row w' g cs t := by
  unfold Row; rw [hg.block g h.lt hne]; exact h
theorem row_kept {b : Nat} {cs : Array Value} {t : TypeId} (h : Row w g cs t) (ho : Own b v xs w) (hg : w.grownBy w' v.ownBlock) (hlt : g < b) : Row w' g cs t :=
  row_grown h hg (fun e => by have := (ho.lt g e.symm).1; omega)
theorem below_own {b b' : Nat} {w0 : World} (h : Below b w0 w) (ho : Own b' v xs w) (hg : w.grownBy w' v.ownBlock) (hle : b ≤ b') (hb : b ≤ w.heap.size) : Below b w0 w' :=
  h.trans ⟨hg.os, hg.tape, hg.output, hg.size, fun k hk => hg.block k (by omega) (fun e => by have := (ho.lt k e.symm).1; omega)⟩
theorem below_grown {b : Nat} {w0 : World} (h : Below b w0 w) {row : Option Nat} (hg : w.grownBy w' row) (hr : ∀ k, row = some k → b ≤ k) (hb : b ≤ w.heap.size) : Below b w0 w' :=
  h.trans ⟨hg.os, hg.tape, hg.output, hg.size, fun k hk => hg.block k (by omega) (fun e => by have := hr k e.symm; omega)⟩

theorem own_new (w : World) (xs : List Value) (Z : Array Value) (cap : Nat) (hc : xs.length ≤ cap) (hm : cap ≤ maxLen) (hz : Z.size = cap - xs.length) (hb : base ≤ w.heap.size) :
    Own base (.slice (some ⟨w.heap.size, 0, none⟩) xs.length cap) xs (w.drew.alloc (.cells (xs.toArray ++ Z) e)) := by
  have hr : Row (w.drew.alloc (.cells (xs.toArray ++ Z) e)) w.heap.size (xs.toArray ++ Z) e := row_new w.drew _ _
  refine .inr ⟨w.heap.size, cap, rfl, hb, hr.lt, hc, hm, fun j u hu => ?_, fun j hj => ?_⟩
  · rw [Nat.zero_add, cell_of_row _ _ j _ _ _ hr]
    have hl : j < xs.length := (List.getElem?_eq_some_iff.1 hu).1
    rw [Array.getElem?_append_left (by simpa using hl)]
    simpa using hu
  · rw [Nat.zero_add]
    refine ⟨?_, hr.frozen j⟩
    rw [cell_of_row _ _ j _ _ _ hr]
    have : j < (xs.toArray ++ Z).size := by rw [Array.size_append, hz, List.size_toArray]; omega
    rw [Array.getElem?_eq_getElem this]; rfl

theorem run_push (w : World) (base : Nat) (t ty e : TypeId) (i : TypeInfo) (z : Value) (ht : P.underlying t = some (.slice e)) (hi : P.info? e = some i) (hz : i.zero = some z) (hs : i.size = 1) (hby : i.bytes ≤ 64) (hzs : z.cells.size = 1)
    (v : Value) (xs : List Value) (hown : Own base v xs w) (ad : Addr) (y : Value) (hy : w.cell? ad = some y) (h1 : y.oneCell' = true) (hlen : xs.length < 1000000000000) (hbase : base ≤ w.heap.size) :
    ∃ v' w', (Builtin.append_ #[t, t] ty #[v, .slice (some ad) 1 1]).run P w = .ok v' w' ∧ Own base v' (xs ++ [y]) w' ∧ w.grownBy w' v.ownBlock ∧ (v'.ownBlock = v.ownBlock ∨ v'.ownBlock = some w.heap.size) := by
  have hl : ([y] : List Value).length = 1 * i.size := by rw [hs]; rfl
  have hnews : ∀ j u, ([y] : List Value)[j]? = some u → w.cell? (ad.add j) = some u := by
    intro j u hu
    cases j with
    | zero => simp only [List.getElem?_cons_zero, Option.some.injEq] at hu; subst hu; rw [show ad.add 0 = ad from by unfold Addr.add; rw [if_pos rfl]]; exact hy
    | succ j => simp at hu
  have hlen' : (xs ++ [y]).length = xs.length + 1 := by simp
  have hmul : ∀ k, k * i.bytes ≤ k * 64 := fun k => Nat.mul_le_mul_left k hby
  rcases hown with ⟨rfl, rfl⟩ | ⟨g, cap, rfl, hbg, hgl, hnc, hcm, hcells, hthere⟩
  · have hr := run_append_nil (P := P) w t ty e i z ht hi hz ad 1 1 [y] hl hnews (by omega) (by omega) (by have := hmul 1; omega)
    refine ⟨_, _, hr, ?_, ⟨rfl, rfl, rfl, by simp, fun k hk _ => heap_alloc_old w.drew _ hk⟩, .inr rfl⟩
    exact own_new w [y] _ _ (grownCap_ge w 1 0 e) (grownCap_le_maxLen w 1 0 e (by simp [maxLen])) (by rw [size_zeroCells, hzs, Nat.mul_one]; rfl) hbase
  · by_cases hroom : xs.length + 1 ≤ cap
    · obtain ⟨hc, hf⟩ := hthere xs.length (by omega)
      rw [Nat.zero_add] at hc hf
      have hfc := run_firstCells_some (P := P) w i.size 1 ad 1 1 [y] hl hnews
      have hst : (storeCells ⟨g, xs.length, none⟩ [y]).run P w = .ok () (w.setCell ⟨g, xs.length, none⟩ y) := by
        rw [store_one]; exact run_store_ok P w _ y _ h1 hc hf
      refine ⟨.slice (some ⟨g, 0, none⟩) (xs.length + 1) cap, w.setCell ⟨g, xs.length, none⟩ y, ?_, ?_, ?_, ?_⟩
      · rw [hs] at hfc
        simp [Builtin.append_, run_underlying ht, sizeOf, typeInfo, hi, Builtin.lenOf, hroom, hfc, hs, Addr.add_lit, hst]
      · refine .inr ⟨g, cap, by rw [hlen'], hbg, by simpa [World.setCell] using hgl, by omega, hcm, fun j u hu => ?_, fun j hj => ?_⟩
        · rw [Nat.zero_add]
          rcases Nat.lt_trichotomy j xs.length with hlt | rfl | hgt
          · rw [World.cell?_setCell_other (h := show (⟨g, xs.length, none⟩ : Addr) ≠ ⟨g, j, none⟩ by intro h; simp only [Addr.mk.injEq] at h; omega)]
            have := hcells j u (by rwa [List.getElem?_append_left hlt] at hu)
            rwa [Nat.zero_add] at this
          · rw [List.getElem?_append_right (Nat.le_refl _), Nat.sub_self] at hu
            simp only [List.getElem?_cons_zero, Option.some.injEq] at hu
            subst hu
            obtain ⟨u0, hu0⟩ := Option.isSome_iff_exists.1 hc
            exact World.cell?_setCell_same _ _ _ hu0
          · rw [List.getElem?_eq_none (by omega)] at hu; cases hu
        · obtain ⟨hc2, hf2⟩ := hthere j hj
          refine ⟨?_, by simpa using hf2⟩
          obtain ⟨u0, hu0⟩ := Option.isSome_iff_exists.1 hc2
          obtain ⟨v', hv'⟩ := cell?_setCell_some (p := ⟨g, xs.length, none⟩) (x := y) hu0
          rw [hv']; rfl
      · exact ⟨rfl, rfl, rfl, by simp [World.setCell], fun k _ hn => Below.heap_setCell _ _ _ _ (fun h => hn (by simp [Value.ownBlock, h]))⟩
      · exact .inl rfl
    · have holds : ∀ j u, xs[j]? = some u → w.cell? ((⟨g, 0, none⟩ : Addr).add j) = some u := fun j u hu => by
        rw [Addr.add_mid]; exact hcells j u hu
      have hr := run_append_grow (P := P) w t ty e i z ht hi hz ⟨g, 0, none⟩ xs.length cap xs (by rw [hs, Nat.mul_one]) holds ad 1 1 [y] hl hnews (by omega) (by omega)
        (growslice_fits (by omega) (by have := hmul (xs.length + 1); omega))
      refine ⟨_, _, hr, ?_, ⟨rfl, rfl, rfl, by simp, fun k hk _ => heap_alloc_old w.drew _ hk⟩, .inr rfl⟩
      have := own_new (base := base) (e := e) w (xs ++ [y]) (Builtin.zeroCells z.cells (grownCap w (xs.length + 1) cap e - (xs.length + 1))) (grownCap w (xs.length + 1) cap e)
        (by rw [hlen']; exact grownCap_ge w _ _ _) (grownCap_le_maxLen w _ _ _ (by simp only [maxLen]; omega)) (by rw [size_zeroCells, hzs, Nat.mul_one, hlen']) hbase
      simpa using this

theorem own_len (h : Own base v xs w) (t e T : TypeId) (ht : P.underlying t = some (.slice e)) (w' : World) : (Builtin.len_ #[t] T #[v]).run P w' = .ok (.int .i64 xs.length) w' := by
  rcases h with ⟨rfl, rfl⟩ | ⟨g, cap, rfl, _⟩ <;> simp [Builtin.len_, run_underlying ht, Result.andThen, goInt]
/-- The cells of a slice of one's own, one by one. -/
theorem own_cells (h : Own base v xs w) {t e : TypeId} (hu : P.underlying t = some (.slice e)) (hz : ∀ w, (sizeOf e).run P w = .ok 1 w) :
    ∃ ad : Nat → Addr, (∀ i, i < xs.length → ∀ w', (Instr.indexAt t v (.int .i64 (i : Int))).run P w' = .ok (.pointer (some (ad i))) w') ∧
      ∀ i, i < xs.length → (ad i).block < w.heap.size ∧ v.ownBlock = some (ad i).block ∧ w.cell? (ad i) = xs[i]? ∧ w.frozen? (ad i) = false := by
  rcases h with ⟨rfl, rfl⟩ | ⟨g, cap, rfl, _, hg, hcap, _, hc, hth⟩
  · exact ⟨fun _ => ⟨0, 0, none⟩, fun i hi => absurd hi (Nat.not_lt_zero _), fun i hi => absurd hi (Nat.not_lt_zero _)⟩
  · refine ⟨fun i => ⟨g, i, none⟩, fun i hi w' => ?_, fun i hi => ⟨hg, rfl, ?_, ?_⟩⟩
    · have h1 : (0 : Int) ≤ (i : Int) ∧ (i : Int) < (xs.length : Int) := by omega
      simp [Instr.indexAt, run_underlying hu, asIntOf, hz, h1, go_sem, Addr.add_lit]
      intro hge; omega
    · have := hc i xs[i] (List.getElem?_eq_getElem hi)
      rw [Nat.zero_add] at this
      rw [this, List.getElem?_eq_getElem hi]
    · have := (hth i (by omega)).2
      rw [Nat.zero_add] at this
      exact this
/-- A slice with something in it doesn't lie where a string's iterator does. -/
theorem own_iter {K : Nat} {s : ByteArray} {p : Nat} (h : Own base v xs w) (hx : xs ≠ []) (hk : w.heap[K]? = some (.stringIter s p)) : v.ownBlock ≠ some K := by
  obtain ⟨g, cap, rfl, _, _, hc⟩ := h.form hx
  intro e
  obtain rfl : g = K := Option.some.inj e
  cases xs with
  | nil => exact hx rfl
  | cons y r =>
    have := hc 0 y rfl
    rw [World.cell?, Nat.zero_add] at this
    simp only [hk] at this
    cases this
end

section
variable {ops : Array Oper} {rest : List Oper} {o : Oper} {a : Act} {w : World} {Q : Exit → Act → World → Prop}
/-- One element, laid in a block of its own and appended. -/
theorem wpList_add (hgd : o.guard = none) (t e : TypeId) (s x : Operand) (ho : o.op = .call { callee := .builtin .append, args := #[s, x], argTypes := #[t, t] }) (ht : P.underlying t = some (.slice e)) (he : Elem P e) (base : Nat) (W : World)
    (v : Value) (hs : a.eval s = v) (xs : List Value) (hown : Own base v xs W) (y : Value) (hy1 : y.oneCell' = true) (cs : Array Value) (hcs : cs = #[y]) (hw : w = W.alloc (.cells cs e)) (hx : a.eval x = .slice (some ⟨W.heap.size, 0, none⟩) 1 1)
    (hlen : xs.length < 1000000000000) (hbase : base ≤ W.heap.size)
    (h : ∀ v' w', Own base v' (xs ++ [y]) w' → W.grownBy w' v.ownBlock → (v'.ownBlock = v.ownBlock ∨ ∃ g, v'.ownBlock = some g ∧ W.heap.size ≤ g) → wpList P ops Q rest (a.put o.dst v') w') : wpList P ops Q (o :: rest) a w := by
  subst hw hcs hs
  obtain ⟨i, z, hi, hz, hs, hby, hzs⟩ := he
  have hy : (W.alloc (.cells #[y] e)).cell? ⟨W.heap.size, 0, none⟩ = some y := by
    have hr := row_new W #[y] e
    rw [cell_of_row _ _ 0 _ _ _ hr]; rfl
  obtain ⟨v', w', hr, h2, h3, h4⟩ := run_push (P := P) _ base t o.type e i z ht hi hz hs hby hzs (a.eval s) xs (hown.alloc _) ⟨W.heap.size, 0, none⟩ y hy hy1 hlen (by rw [alloc_size]; omega)
  refine wpList_exec hgd v' w' ?_ (h v' w' h2 ⟨h3.os, h3.tape, h3.output, Nat.le_trans (by simp) h3.size, fun k hk hn => (h3.block k (by rw [alloc_size]; omega) hn).trans (heap_alloc_old W _ hk)⟩ (h4.imp id fun h => ⟨_, h, by rw [alloc_size]; omega⟩))
  simp only [execOp, ho, resolve, invoke, builtin, Sem.run_bind, Sem.run_pure, Result.andThen_ok, List.map_toArray, List.map_cons, List.map_nil, hx, hr]
/-- A number as a value. -/
def IC (n : Nat) : Value := .int .i64 (n : Int)
/-- One number, laid in a block of its own and appended. -/
theorem wpList_add_num (hgd : o.guard = none) (t e : TypeId) (s x : Operand) (ho : o.op = .call { callee := .builtin .append, args := #[s, x], argTypes := #[t, t] }) (ht : P.underlying t = some (.slice e)) (he : Elem P e) (base : Nat) (W : World)
    (v : Value) (hs : a.eval s = v) (l : List Nat) (hown : Own base v (l.map IC) W) (y : Nat) (cs : Array Value) (hcs : cs = #[IC y]) (hw : w = W.alloc (.cells cs e)) (hx : a.eval x = .slice (some ⟨W.heap.size, 0, none⟩) 1 1)
    (hlen : l.length < 1000000000000) (hbase : base ≤ W.heap.size)
    (h : ∀ v' w', Own base v' ((l ++ [y]).map IC) w' → W.grownBy w' v.ownBlock → (v'.ownBlock = v.ownBlock ∨ ∃ g, v'.ownBlock = some g ∧ W.heap.size ≤ g) → wpList P ops Q rest (a.put o.dst v') w') : wpList P ops Q (o :: rest) a w :=
  wpList_add hgd t e s x ho ht he base W v hs (l.map IC) hown (IC y) rfl cs hcs hw hx (by rw [List.length_map]; exact hlen) hbase fun v' w' h1 h2 h3 => h v' w' (by simpa using h1) h2 h3
/-- One byte, laid in a block of its own and appended. -/
theorem wpList_add_byte (hgd : o.guard = none) (t e : TypeId) (s x : Operand) (ho : o.op = .call { callee := .builtin .append, args := #[s, x], argTypes := #[t, t] }) (ht : P.underlying t = some (.slice e)) (he : Elem P e) (base : Nat) (W : World)
    (v : Value) (hs : a.eval s = v) (l : List UInt8) (hown : Own base v (l.map B) W) (y : UInt8) (cs : Array Value) (hcs : cs = #[B y]) (hw : w = W.alloc (.cells cs e)) (hx : a.eval x = .slice (some ⟨W.heap.size, 0, none⟩) 1 1)
    (hlen : l.length < 1000000000000) (hbase : base ≤ W.heap.size)
    (h : ∀ v' w', Own base v' ((l ++ [y]).map B) w' → W.grownBy w' v.ownBlock → (v'.ownBlock = v.ownBlock ∨ ∃ g, v'.ownBlock = some g ∧ W.heap.size ≤ g) → wpList P ops Q rest (a.put o.dst v') w') : wpList P ops Q (o :: rest) a w :=
  wpList_add hgd t e s x ho ht he base W v hs (l.map B) hown (B y) rfl cs hcs hw hx (by rw [List.length_map]; exact hlen) hbase fun v' w' h1 h2 h3 => h v' w' (by simpa using h1) h2 h3
end
theorem run_push_text {t e ts : TypeId} (ht : P.underlying t = some (.slice e)) (hu : P.underlying ts = some .string) (he : Elem P e) (w : World) (base : Nat) (ty : TypeId) (v : Value) (xs : List Value) (hown : Own base v xs w) (c : UInt8) (hlen : xs.length < 1000000000000) (hbase : base ≤ w.heap.size) :
    ∃ v' w', (Builtin.append_ #[t, ts] ty #[v, .string ⟨#[c]⟩]).run P w = .ok v' w' ∧ Own base v' (xs ++ [B c]) w' ∧ w.grownBy w' v.ownBlock := by
  obtain ⟨i, z, hi, hz, hs, hby, hzs⟩ := he
  have hsz : (⟨#[c]⟩ : ByteArray).size = 1 := rfl
  have hdat : ((⟨#[c]⟩ : ByteArray).data.map fun b => Value.int .u8 b.toNat) = #[B c] := by simp [B]
  have hlen' : (xs ++ [B c]).length = xs.length + 1 := by simp
  have hmul : ∀ k, k * i.bytes ≤ k * 64 := fun k => Nat.mul_le_mul_left k hby
  rcases hown with ⟨rfl, rfl⟩ | ⟨g, cap, rfl, hbg, hgl, hnc, hcm, hcells, hthere⟩
  · have hr := run_append_nil_string (P := P) w t ts ty e i z ht hu hi hz ⟨#[c]⟩ (by rw [hsz]; omega) (by rw [hsz]; omega) (by rw [hsz]; have := hmul 1; omega)
    rw [hsz, hdat] at hr
    refine ⟨_, _, hr, ?_, ⟨rfl, rfl, rfl, by simp, fun k hk _ => heap_alloc_old w.drew _ hk⟩⟩
    exact own_new w [B c] _ _ (grownCap_ge w 1 0 e) (grownCap_le_maxLen w 1 0 e (by simp [maxLen])) (by rw [size_zeroCells, hzs, Nat.mul_one]; rfl) hbase
  · by_cases hroom : xs.length + 1 ≤ cap
    · obtain ⟨hc, hf⟩ := hthere xs.length (by omega)
      rw [Nat.zero_add] at hc hf
      have hfc := Lib.run_firstCells_string (P := P) w i.size ⟨#[c]⟩
      rw [hsz] at hfc
      have hst : (storeCells ⟨g, xs.length, none⟩ [B c]).run P w = .ok () (w.setCell ⟨g, xs.length, none⟩ (B c)) := by
        rw [store_one]; exact run_store_ok P w _ (B c) _ rfl hc hf
      have hsc : Lib.strCells (⟨#[c]⟩ : ByteArray) = [B c] := rfl
      refine ⟨.slice (some ⟨g, 0, none⟩) (xs.length + 1) cap, w.setCell ⟨g, xs.length, none⟩ (B c), ?_, ?_, ?_⟩
      · rw [hs] at hfc
        simp [Builtin.append_, run_underlying ht, run_underlying hu, sizeOf, typeInfo, hi, Builtin.lenOf, hroom, hfc, hs, hsz, hsc, Addr.add_lit, hst]
      · refine .inr ⟨g, cap, by rw [hlen'], hbg, by simpa [World.setCell] using hgl, by omega, hcm, fun j u hu => ?_, fun j hj => ?_⟩
        · rw [Nat.zero_add]
          rcases Nat.lt_trichotomy j xs.length with hlt | rfl | hgt
          · rw [World.cell?_setCell_other (h := show (⟨g, xs.length, none⟩ : Addr) ≠ ⟨g, j, none⟩ by intro h; simp only [Addr.mk.injEq] at h; omega)]
            have := hcells j u (by rwa [List.getElem?_append_left hlt] at hu)
            rwa [Nat.zero_add] at this
          · rw [List.getElem?_append_right (Nat.le_refl _), Nat.sub_self] at hu
            simp only [List.getElem?_cons_zero, Option.some.injEq] at hu
            subst hu
            obtain ⟨u0, hu0⟩ := Option.isSome_iff_exists.1 hc
            exact World.cell?_setCell_same _ _ _ hu0
          · rw [List.getElem?_eq_none (by omega)] at hu; cases hu
        · obtain ⟨hc2, hf2⟩ := hthere j hj
          refine ⟨?_, by simpa using hf2⟩
          obtain ⟨u0, hu0⟩ := Option.isSome_iff_exists.1 hc2
          obtain ⟨v', hv'⟩ := cell?_setCell_some (p := ⟨g, xs.length, none⟩) (x := B c) hu0
          rw [hv']; rfl
      · exact ⟨rfl, rfl, rfl, by simp [World.setCell], fun k _ hn => Below.heap_setCell _ _ _ _ (fun h => hn (by simp [Value.ownBlock, h]))⟩
    · have holds : ∀ j u, xs[j]? = some u → w.cell? ((⟨g, 0, none⟩ : Addr).add j) = some u := fun j u hu => by
        rw [Addr.add_mid]; exact hcells j u hu
      have hr := Lib.run_append_grow_string (P := P) w t ts ty e i z ht hu hi hz ⟨g, 0, none⟩ xs.length cap xs (by rw [hs, Nat.mul_one]) holds ⟨#[c]⟩ (by rw [hsz]; omega) (by rw [hsz]; omega)
        (by rw [hsz]; exact growslice_fits (by omega) (by have := hmul (xs.length + 1); omega))
      rw [hsz] at hr
      refine ⟨_, _, hr, ?_, ⟨rfl, rfl, rfl, by simp, fun k hk _ => heap_alloc_old w.drew _ hk⟩⟩
      have := own_new (base := base) (e := e) w (xs ++ [B c]) (Builtin.zeroCells z.cells (grownCap w (xs.length + 1) cap e - (xs.length + 1))) (grownCap w (xs.length + 1) cap e)
        (by rw [hlen']; exact grownCap_ge w _ _ _) (grownCap_le_maxLen w _ _ _ (by simp only [maxLen]; omega)) (by rw [size_zeroCells, hzs, Nat.mul_one, hlen']) hbase
      simpa [Lib.strCells, B] using this

section
variable {ops : Array Oper} {rest : List Oper} {o : Oper} {a : Act} {w : World} {Q : Exit → Act → World → Prop}
/-- A text of one byte appended. -/
theorem wpList_push_text {t e ts : TypeId} (ht : P.underlying t = some (.slice e)) (hu : P.underlying ts = some .string) (he : Elem P e) (hgd : o.guard = none) (s x : Operand) (ho : o.op = .call { callee := .builtin .append, args := #[s, x], argTypes := #[t, ts] }) (base : Nat)
    (v : Value) (hs : a.eval s = v) (l : List UInt8) (hown : Own base v (l.map B) w) (c : UInt8) (hx : a.eval x = .string ⟨#[c]⟩) (hlen : l.length < 1000000000000) (hbase : base ≤ w.heap.size)
    (h : ∀ v' w', Own base v' ((l ++ [c]).map B) w' → w.grownBy w' v.ownBlock → wpList P ops Q rest (a.put o.dst v') w') : wpList P ops Q (o :: rest) a w := by
  subst hs
  obtain ⟨v', w', hr, h2, h3⟩ := run_push_text ht hu he w base o.type (a.eval s) (l.map B) hown c (by rw [List.length_map]; exact hlen) hbase
  refine wpList_exec hgd v' w' ?_ (h v' w' (by simpa using h2) h3)
  simp only [execOp, ho, resolve, invoke, builtin, Sem.run_bind, Sem.run_pure, Result.andThen_ok, List.map_toArray, List.map_cons, List.map_nil, hx, hr]

theorem own_made (w : World) (Z : Array Value) (cap base : Nat) (e : TypeId) (hm : cap ≤ maxLen) (hz : Z.size = cap) (hb : base ≤ w.heap.size) :
    Own base (.slice (some ⟨w.heap.size, 0, none⟩) 0 cap) [] (w.alloc (.cells Z e)) := by
  have hr : Row (w.alloc (.cells Z e)) w.heap.size Z e := row_new w _ _
  refine .inr ⟨w.heap.size, cap, rfl, hb, hr.lt, Nat.zero_le _, hm, fun j u hu => by simp at hu, fun j hj => ?_⟩
  rw [Nat.zero_add]
  refine ⟨?_, hr.frozen j⟩
  rw [cell_of_row _ _ j _ _ _ hr, Array.getElem?_eq_getElem (by omega)]; rfl
/-- A slice of bytes made, of none yet. -/
theorem wpList_make {t e : TypeId} (ht : P.underlying t = some (.slice e)) (he : Elem P e) (hgd : o.guard = none) (x : Operand) (ho : o.op = .makeSlice t (.const (.int .i64 0)) x) (c : Nat) (hx : a.eval x = .int .i64 c) (hc : c < 1000000000000) (base : Nat) (hbase : base ≤ w.heap.size)
    (h : ∀ v' w', Own base v' [] w' → w.grownBy w' none → wpList P ops Q rest (a.put o.dst v') w') : wpList P ops Q (o :: rest) a w := by
  obtain ⟨i, z, hi, hz, hs, hby, hzs⟩ := he
  have hr := run_make (P := P) w t e i z ht hi hz .i64 .i64 0 c (Int.le_refl _) (by omega) (by
    have h1 : i.bytes * c ≤ 64 * c := Nat.mul_le_mul_right c hby
    have h2 : ((i.bytes * c : Nat) : Int) ≤ 281474976710656 := by omega
    rwa [Int.natCast_mul] at h2) (by omega)
  simp only [Int.toNat_zero, Int.toNat_natCast] at hr
  refine wpList_exec hgd _ _ ?_ (h _ _ (own_made w (madeCells z.cells (c * i.size)) c base e (by simp only [maxLen]; omega) (by rw [size_madeCells, hs, Nat.mul_one]) hbase) (World.grownBy_alloc w _ none))
  have hev : a.eval (.const (.int .i64 0)) = .int .i64 0 := rfl
  simp only [execOp, ho, hx, hev, Sem.run_bind, Sem.run_pure, Result.andThen_ok, hr]
end
theorem run_copy_str {td e ts : TypeId} (hu : P.underlying td = some (.slice e)) (hz : ∀ w, (sizeOf e).run P w = .ok 1 w) (w : World) (ty : TypeId) (g o dLen dCap : Nat) (cur : Array Value) (t : TypeId) (s : List UInt8) (m : Nat) (hm : m = Nat.min s.length dLen)
    (hg : w.heap[g]? = some (.cells cur t (0, 0))) (hfit : o + m ≤ cur.size) :
    (Builtin.copy_ #[td, ts] ty #[.slice (some ⟨g, o, none⟩) dLen dCap, S s]).run P w =
      .ok (goInt m) (w.setRow g (cur.toList.take o ++ (s.take m).map B ++ cur.toList.drop (o + m)).toArray) := by
  have hl : ((s.take m).map B).length = m := by
    rw [List.length_map, List.length_take, hm]; exact Nat.min_eq_left (Nat.min_le_left _ _)
  have hst := run_storeCells_at P g o t ((s.take m).map B) 0 cur w hg (by rw [hl]; simpa using hfit) (fun v hv => by
    obtain ⟨b, _, rfl⟩ := List.mem_map.1 hv; rfl)
  rw [hl, Nat.add_zero] at hst
  have hlen : (⟨s.toArray⟩ : ByteArray).size = s.length := by simp [ByteArray.size]
  have hext : (((⟨s.toArray⟩ : ByteArray).extract 0 m).data.map fun b => Value.int .u8 (b.toNat : Int)).toList = (s.take m).map B := by
    rw [ByteArray.data_extract]
    simp
    rfl
  simp only [Builtin.copy_, S, Builtin.lenOf, Builtin.firstCells]
  simp only [List.getElem?_toArray, List.getElem?_cons_zero, List.getElem?_cons_succ, run_underlying hu, Sem.run_bind, Result.andThen_ok, Sem.run_pure, hz, hlen, ← hm, hext, hst]

/-- A byte as a number, and a number's lowest byte. -/
theorem conv_byte {tb ti : TypeId} (h1 : P.underlying tb = some (.int .u8)) (h2 : P.underlying ti = some (.int .i64)) (b : UInt8) (w : World) : (convert tb ti (B b)).run P w = .ok (.int .i64 (b.toNat : Int)) w := by
  have := b.toNat_lt
  have e : IntKind.i64.wrap (b.toNat : Int) = (b.toNat : Int) := by rw [IntKind.wrap_i64]; omega
  simp [convert, B, run_underlying h1, run_underlying h2, e, go_sem]
theorem conv_num {tb ti : TypeId} (h1 : P.underlying tb = some (.int .u8)) (h2 : P.underlying ti = some (.int .i64)) (n : Nat) (w : World) : (convert ti tb (.int .i64 (n : Int))).run P w = .ok (B (UInt8.ofNat n)) w := by
  have e : IntKind.u8.wrap (n : Int) = ((UInt8.ofNat n).toNat : Int) := by rw [IntKind.wrap_u8, UInt8.toNat_ofNat']; omega
  simp [convert, B, run_underlying h1, run_underlying h2, e, go_sem]
theorem byte_cell1 (q : Nat) : (#[Value.int .u8 ((q : Int) % 256)] : Array Value) = #[B (UInt8.ofNat q)] := by
  have e : ((UInt8.ofNat q).toNat : Int) = (q : Int) % 256 := by rw [UInt8.toNat_ofNat']; omega
  rw [B, e]
theorem byte_cell2 (q : Nat) (h : q < 256) : (#[Value.int .u8 (q : Int)] : Array Value) = #[B (UInt8.ofNat q)] := by
  have e : ((UInt8.ofNat q).toNat : Int) = (q : Int) := by rw [UInt8.toNat_ofNat']; omega
  rw [B, e]

section
variable {w : World} {e : TypeId}
theorem own_bytes (l : List UInt8) (hl : l.length < 1000000000000) : Own w.heap.size (.slice (some ⟨w.heap.size, 0, none⟩) l.length (grownCap w l.length 0 e)) (l.map B) (Lib.bytesWorld w e ⟨l.toArray⟩) := by
  have hsz : (⟨l.toArray⟩ : ByteArray).size = l.length := S_size l
  have hg := Lib.bytesWorld_at_new w e ⟨l.toArray⟩
  have hge := grownCap_ge w l.length 0 e
  have hcs : (Lib.bytesCells w e ⟨l.toArray⟩).size = grownCap w l.length 0 e := by
    simp [Lib.bytesCells, hsz]; omega
  refine .inr ⟨w.heap.size, grownCap w l.length 0 e, by rw [List.length_map], Nat.le_refl _, by rw [Lib.bytesWorld_size]; omega, by rw [List.length_map]; exact hge, grownCap_le_maxLen w _ _ _ (by simp only [maxLen]; omega), fun j u hu => ?_, fun j hj => ?_⟩
  · have hj : j < l.length := by have := (List.getElem?_eq_some_iff.1 hu).1; simpa using this
    rw [Nat.zero_add, Lib.bytesWorld_cell w e _ j (by rw [hsz]; exact hj)]
    rw [List.getElem?_map, List.getElem?_eq_getElem hj] at hu
    simp only [Option.map_some, Option.some.injEq] at hu
    rw [← hu]
    simp [B, List.getD, hj]
  · rw [Nat.zero_add]
    refine ⟨?_, ?_⟩
    · rw [World.cell?, hg]
      simp [hcs, hj]
    · rw [World.frozen?, hg]
      simp [hcs]
      omega
theorem grown_bytes (s : ByteArray) (row : Option Nat) : w.grownBy (Lib.bytesWorld w e s) row :=
  ⟨rfl, rfl, rfl, by rw [Lib.bytesWorld_size]; omega, fun k hk _ => Lib.bytesWorld_at_old w e s k hk⟩
theorem run_bytes {ts t : TypeId} (h1 : P.underlying ts = some .string) (h2 : P.underlying t = some (.slice e)) (h3 : P.underlying e = some (.int .u8)) (l : List UInt8) (w : World) :
    (convert ts t (S l)).run P w = .ok (.slice (some ⟨w.heap.size, 0, none⟩) l.length (grownCap w l.length 0 e)) (Lib.bytesWorld w e ⟨l.toArray⟩) := by
  have hr := Lib.run_convert_string_bytes w ts t e ⟨l.toArray⟩ h1 h2 h3
  rw [S_size] at hr; exact hr
/-- The text of a slice of one's own. -/
theorem own_text {ts t : TypeId} (h1 : P.underlying ts = some .string) (h2 : P.underlying t = some (.slice e)) (h3 : P.underlying e = some (.int .u8)) {base : Nat} {v : Value} {l : List UInt8} (h : Own base v (l.map B) w) : (convert t ts v).run P w = .ok (S l) w := by
  rcases h with ⟨rfl, h⟩ | ⟨g, cap, rfl, _, _, _, _, hc, _⟩
  · obtain rfl : l = [] := List.map_eq_nil_iff.1 h
    exact run_convert_bytes_nil (w := w) t e h2 h3 0 0 ts h1
  · rw [List.length_map]
    refine run_convert_bytes_back w t ts e ⟨g, 0, none⟩ cap l h2 h3 h1 fun j hj => ?_
    have := hc j (B l[j]) (by rw [List.getElem?_map, List.getElem?_eq_getElem hj]; rfl)
    rw [Addr.add_mid]
    exact this
/-- One cell of a slice of one's own turned. -/
theorem own_set {base g cap : Nat} {xs : List Value} (h : Own base (.slice (some ⟨g, 0, none⟩) xs.length cap) xs w) (i : Nat) (y : Value) (hi : i < xs.length) :
    Own base (.slice (some ⟨g, 0, none⟩) xs.length cap) (xs.set i y) (w.setCell ⟨g, i, none⟩ y) ∧ w.cell? ⟨g, i, none⟩ = xs[i]? ∧ w.frozen? ⟨g, i, none⟩ = false := by
  rcases h with ⟨h, _⟩ | ⟨g', cap', he, h1, h2, h3, h4, h5, h6⟩
  · cases h
  · simp only [Value.slice.injEq, Option.some.injEq, Addr.mk.injEq] at he
    obtain ⟨⟨rfl, _⟩, _, rfl⟩ := he
    have hc := h5 i xs[i] (List.getElem?_eq_getElem hi)
    rw [Nat.zero_add] at hc
    have hf := (h6 i (by omega)).2
    rw [Nat.zero_add] at hf
    refine ⟨.inr ⟨g, cap, by rw [List.length_set], h1, by simpa [World.setCell] using h2, by rw [List.length_set]; exact h3, h4, fun j u hu => ?_, fun j hj => ?_⟩, by rw [hc, List.getElem?_eq_getElem hi], hf⟩
    · rw [Nat.zero_add]
      by_cases hj : i = j
      · subst hj
        rw [List.getElem?_set_self hi] at hu
        obtain rfl := Option.some.inj hu
        exact World.cell?_setCell_same _ _ _ hc
      · rw [World.cell?_setCell_other (h := show (⟨g, i, none⟩ : Addr) ≠ ⟨g, j, none⟩ by intro h; simp only [Addr.mk.injEq] at h; omega)]
        rw [List.getElem?_set_ne hj] at hu
        have := h5 j u hu
        rwa [Nat.zero_add] at this
    · obtain ⟨hc2, hf2⟩ := h6 j hj
      refine ⟨?_, by simpa using hf2⟩
      obtain ⟨u0, hu0⟩ := Option.isSome_iff_exists.1 hc2
      obtain ⟨v', hv'⟩ := cell?_setCell_some (p := ⟨g, i, none⟩) (x := y) hu0
      rw [hv']; rfl
theorem iter_pos {W : World} {K : Nat} {s : ByteArray} {p : Nat} (h : W.heap[K]? = some (.stringIter s p)) : W.iterPos K = p := by
  simp only [World.iterPos, h]
end

/-! Words of 62 bits joined and masked. -/
theorem wraps_i64 (n : Int) (h₀ : 0 ≤ n) (h₁ : n < 2 ^ 62) : IntKind.i64.wrap n = n := by rw [IntKind.wrap_i64]; omega
theorem i64_or16 (x y : Int) (hx0 : 0 ≤ x) (hx1 : x < 4611686018427387904) (hm : x % 65536 = 0) (hy0 : 0 ≤ y) (hy : y < 65536) : bits .or .i64 x y = x + y :=
  bits_join .i64 62 (by decide) wraps_i64 16 x y hx0 hm hx1 hy0 hy (by omega)
theorem i64_or8 (x y : Int) (hx0 : 0 ≤ x) (hx1 : x < 4611686018427387904) (hm : x % 256 = 0) (hy0 : 0 ≤ y) (hy : y < 256) : bits .or .i64 x y = x + y :=
  bits_join .i64 62 (by decide) wraps_i64 8 x y hx0 hm hx1 hy0 hy (by omega)
theorem i64_or6 (x y : Int) (hx0 : 0 ≤ x) (hx1 : x < 4611686018427387904) (hm : x % 64 = 0) (hy0 : 0 ≤ y) (hy : y < 64) : bits .or .i64 x y = x + y :=
  bits_join .i64 62 (by decide) wraps_i64 6 x y hx0 hm hx1 hy0 hy (by omega)
theorem i64_and63 (x : Int) (hx0 : 0 ≤ x) (hx1 : x < 4611686018427387904) : bits .and .i64 x 63 = x % 64 :=
  bits_mask .i64 62 (by decide) wraps_i64 6 (by decide) x hx0 hx1

/-- Only block b, and what was made since, may have turned. -/
structure Keeps (b : Nat) (w w' : World) : Prop where
  os : w'.os = w.os
  tape : w'.tape = w.tape
  output : w'.output = w.output
  size : w.heap.size ≤ w'.heap.size
  block : ∀ k, k < w.heap.size → k ≠ b → w'.heap[k]? = w.heap[k]?
section
variable {b : Nat} {w w' w'' : World}
theorem Keeps.refl (b : Nat) (w : World) : Keeps b w w := ⟨rfl, rfl, rfl, Nat.le_refl _, fun _ _ _ => rfl⟩
theorem Keeps.trans (h : Keeps b w w') (k : Keeps b w' w'') : Keeps b w w'' :=
  ⟨k.os.trans h.os, k.tape.trans h.tape, k.output.trans h.output, Nat.le_trans h.size k.size, fun i hi hn => (k.block i (Nat.lt_of_lt_of_le hi h.size) hn).trans (h.block i hi hn)⟩
theorem Keeps.of_below (h : Below w.heap.size w w') : Keeps b w w' := ⟨h.os, h.tape, h.output, h.size, fun k hk _ => h.block k hk⟩
theorem Keeps.drew (w : World) : Keeps b w w.drew := ⟨rfl, rfl, rfl, Nat.le_refl _, fun _ _ _ => rfl⟩
theorem Keeps.setRow (w : World) (cs : Array Value) : Keeps b w (w.setRow b cs) := ⟨rfl, rfl, rfl, by simp, fun k _ hn => setRow_other w b k cs hn⟩
theorem Keeps.setCell (w : World) (o : Nat) (v : Value) : Keeps b w (w.setCell ⟨b, o, none⟩ v) :=
  ⟨rfl, rfl, rfl, by simp [World.setCell], fun k _ hn => Below.heap_setCell _ _ _ _ hn⟩
theorem Keeps.below {k : Nat} (h : Keeps b w w') (hk : k ≤ w.heap.size) (hb : k ≤ b) : Below k w w' :=
  ⟨h.os, h.tape, h.output, h.size, fun i hi => h.block i (by omega) (by omega)⟩
end
theorem Row.keeps {w w' : World} {g b : Nat} {cs : Array Value} {t : TypeId} (h : Row w g cs t) (k : Keeps b w w') (hn : g ≠ b) : Row w' g cs t := by
  unfold Row; rw [k.block g h.lt hn]; exact h

section
theorem run_storeVar_at (w : World) (g o : Nat) (t ty : TypeId) (cells cur : Array Value) (hg : w.heap[g]? = some (.cells cur t (0, 0))) (hi : (P.info? ty).map (·.size) = some cells.size)
    (hfit : o + cells.size ≤ cur.size) (h1 : ∀ v ∈ cells.toList, v.oneCell' = true) :
    (storeVar ty ⟨g, o, none⟩ (.agg cells)).run P w = .ok () (w.setRow g (cur.toList.take o ++ cells.toList ++ cur.toList.drop (o + cells.size)).toArray) := by
  have := run_storeCells_at P g o t cells.toList 0 cur w hg (by simpa using hfit) h1
  cases hq : P.info? ty with
  | none => simp [hq] at hi
  | some i =>
    have hs : cells.size = i.size := by simp [hq] at hi; omega
    simp only [Nat.add_zero, Array.length_toList] at this
    simp [storeVar, sizeOf, typeInfo, hq, Value.cells, hs, this]

theorem wpList_store_at {ops : Array Oper} {rest : List Oper} {op : Oper} {a : Act} {w : World} {Q : Exit → Act → World → Prop} (hgd : op.guard = none) (ty : TypeId) (x y : Operand) (ho : op.op = .store ty x y)
    (g o : Nat) (cells cur : Array Value) (t : TypeId) (hx : a.eval x = .pointer (some ⟨g, o, none⟩)) (hy : a.eval y = .agg cells)
    (hg : w.heap[g]? = some (.cells cur t (0, 0))) (hi : (P.info? ty).map (·.size) = some cells.size)
    (hfit : o + cells.size ≤ cur.size) (h1 : ∀ v ∈ cells.toList, v.oneCell' = true)
    (h : wpList P ops Q rest (a.put op.dst undef) (w.setRow g (cur.toList.take o ++ cells.toList ++ cur.toList.drop (o + cells.size)).toArray)) : wpList P ops Q (op :: rest) a w :=
  wpList_plain hgd fun _ hK => by
    unfold Oper.wp execOp
    simp only [ho, hx, hy, Instr.storeAt, Instr.sureAddr, Sem.run_bind, Sem.run_pure, Result.andThen_ok, run_storeVar_at w g o t ty cells cur hg hi hfit h1]
    exact hK _ _ h

theorem wpStill_load_mid {ops : Array Oper} {w : World} {Q : Act → Prop} {op : Oper} {rest : List Oper} {a : Act} (hgd : op.guard = none) (ty : TypeId) (x : Operand) (ho : op.op = .load ty x)
    (b o : Nat) (hx : a.eval x = .pointer (some ⟨b, o, none⟩)) (cs : List Value) (d : TypeDesc) (hc : w.rangeAt b o cs)
    (hu : P.underlying ty = some d) (hd : d.isRow = true) (hi : (P.info? ty).map (·.size) = some cs.length)
    (h : wpStill P ops w Q rest (a.put op.dst (.agg cs.toArray))) : wpStill P ops w Q (op :: rest) a := by
  unfold wpStill
  simp only [Region.wanted, hgd, if_true]
  unfold Oper.still execOp
  simp only [ho, hx, Instr.loadAt, Instr.sureAddr, Sem.run_bind, Sem.run_pure, Result.andThen_ok, run_loadVar_mid w b o ty cs d hc hu hd hi]
  exact ⟨rfl, h⟩
end

section
variable {md : Region.Mode} {ops : Array Oper} {Q : Exit → Act → World → Prop} {S : World → Prop} {fuel : Nat} {listed : Array Bool} {a : Act} {w : World} {i : Nat} {d : Option Tmp} {v : Value}

/-- What yields one value wherever S holds is taken first. -/
theorem take_at (hd : (ops[i]?).map (·.dst) = some d) (hs : Region.noSelect ops = true) (hf : Region.free md ops listed i = true) (hr : (Region.ready md ops listed).contains i = true)
    (hQ : ∀ c a w, Q (.panic c) (a.put d v) w → Q (.panic c) a w) (hy : ∀ oi, ops[i]? = some oi → YieldsIf P ops S oi v a) (hS : S w)
    (h : wpAnyH P md ops Q S fuel (listed.setIfInBounds i true) (a.put d v) w) : wpAnyH P md ops Q S (fuel + 1) listed a w := by
  cases hi : ops[i]? with
  | none => simp [hi] at hd
  | some oi =>
    have e : oi.dst = d := by simpa [hi] using hd
    subst e
    exact wpAnyH_take hi hs hf hr hQ (hy oi hi) hS h

/-- The one that may come up next hands back a value. -/
theorem ready_value {w' : World} (hd : (ops[i]?).map (·.dst) = some d) (hr : Region.ready md ops listed = [i])
    (hx : ∀ oi, ops[i]? = some oi → Region.wanted oi (yielded ops a.tmps) = true ∧ (execOp a.eval oi).run P w = .ok (.value v) w') (hS : S w')
    (h : wpAnyH P md ops Q S fuel (listed.setIfInBounds i true) (a.put d v) w') : wpAnyH P md ops Q S (fuel + 1) listed a w := by
  cases hi : ops[i]? with
  | none => simp [hi] at hd
  | some oi =>
    have e : oi.dst = d := by simpa [hi] using hd
    subst e
    refine wpAnyH_ready hr (by simp) (AllReadyH.cons hi (fun K hK => ?_) AllReadyH.nil)
    obtain ⟨hw, hx⟩ := hx oi hi
    rw [if_pos hw]
    unfold Oper.wp
    rw [hx]
    exact hK.out _ _ hS (fun _ => h)

/-- The one that may come up next stores something. -/
theorem ready_skip {w' : World} (hd : (ops[i]?).map (·.dst) = some d) (hr : Region.ready md ops listed = [i])
    (hx : ∀ oi, ops[i]? = some oi → Region.wanted oi (yielded ops a.tmps) = true ∧ (execOp a.eval oi).run P w = .ok .skip w') (hS : S w')
    (h : wpAnyH P md ops Q S fuel (listed.setIfInBounds i true) (a.put d undef) w') : wpAnyH P md ops Q S (fuel + 1) listed a w := by
  cases hi : ops[i]? with
  | none => simp [hi] at hd
  | some oi =>
    have e : oi.dst = d := by simpa [hi] using hd
    subst e
    refine wpAnyH_ready hr (by simp) (AllReadyH.cons hi (fun K hK => ?_) AllReadyH.nil)
    obtain ⟨hw, hx⟩ := hx oi hi
    rw [if_pos hw]
    unfold Oper.wp
    rw [hx]
    exact hK.out _ _ hS (fun _ => h)

/-- The one that may come up next calls a function. -/
theorem ready_call {f : FuncId} {args : Array Value} (hd : (ops[i]?).map (·.dst) = some d) (hr : Region.ready md ops listed = [i])
    (hx : ∀ oi, ops[i]? = some oi → Region.wanted oi (yielded ops a.tmps) = true ∧ (execOp a.eval oi).run P w = .ok (.enter f args) w)
    (hc : Calls P f args w fun e w' => ∃ v, e = .returned v ∧ S w' ∧ wpAnyH P md ops Q S fuel (listed.setIfInBounds i true) (a.put d v) w') : wpAnyH P md ops Q S (fuel + 1) listed a w := by
  cases hi : ops[i]? with
  | none => simp [hi] at hd
  | some oi =>
    have e : oi.dst = d := by simpa [hi] using hd
    subst e
    refine wpAnyH_ready hr (by simp) (AllReadyH.cons hi (fun K hK => ?_) AllReadyH.nil)
    obtain ⟨hw, hx⟩ := hx oi hi
    rw [if_pos hw]
    unfold Oper.wp
    rw [hx]
    refine hc.mono ?_
    rintro e w' ⟨v, rfl, hS, h⟩
    exact hK.out _ _ hS (fun _ => h)

theorem exec_load_mid {o : Oper} (ty : TypeId) (x : Operand) (ho : o.op = .load ty x) (b off : Nat) (hx : a.eval x = .pointer (some ⟨b, off, none⟩)) (cs : List Value) (t : TypeDesc) (hc : w.rangeAt b off cs)
    (hu : P.underlying ty = some t) (hd : t.isRow = true) (hi : (P.info? ty).map (·.size) = some cs.length) : (execOp a.eval o).run P w = .ok (.value (.agg cs.toArray)) w := by
  unfold execOp
  simp only [ho, hx, Instr.loadAt, Instr.sureAddr, Sem.run_bind, Sem.run_pure, Result.andThen_ok, run_loadVar_mid w b off ty cs t hc hu hd hi]
end

/-- A whole variable, stored. -/
theorem wpList_store_var {ops : Array Oper} {rest : List Oper} {o : Oper} {a : Act} {w : World} {Q : Exit → Act → World → Prop} (hgd : o.guard = none) (hdst : o.dst = none) (ty : TypeId) (x y : Operand)
    (ho : o.op = .store ty x y) (g : Nat) (cells : Array Value) (hx : a.eval x = .pointer (some ⟨g, 0, none⟩)) (hy : a.eval y = .agg cells) {t : TypeId} {old : Array Value} (hr : Row w g old t)
    (hi : (P.info? ty).map (·.size) = some cells.size) (hold : old.size = cells.size) (h1 : cells.all (·.oneCell') = true)
    (h : ∀ w', Row w' g cells t → Keeps g w w' → wpList P ops Q rest a w') : wpList P ops Q (o :: rest) a w := by
  refine wpList_store_row hgd ty x y ho g cells hx hy t old hr hi hold h1 ?_
  rw [hdst]
  exact h _ (setRow_heap w g _ _ t _ hr) (Keeps.setRow _ _)
/-- A whole variable, loaded. -/
theorem wpList_load_var {ops : Array Oper} {rest : List Oper} {o : Oper} {a : Act} {w : World} {Q : Exit → Act → World → Prop} (hgd : o.guard = none) (ty : TypeId) (x : Operand)
    (ho : o.op = .load ty x) (g : Nat) (hx : a.eval x = .pointer (some ⟨g, 0, none⟩)) {t : TypeId} {cells : Array Value} (hr : Row w g cells t) (d : TypeDesc)
    (hu : P.underlying ty = some d) (hd : d.isRow = true) (hi : (P.info? ty).map (·.size) = some cells.size)
    (h : wpList P ops Q rest (a.put o.dst (.agg cells)) w) : wpList P ops Q (o :: rest) a w :=
  wpList_load_row hgd ty x ho g hx t cells (0, 0) d hr hu (by cases d <;> first | rfl | cases hd) hi h

/-- A slice of n numbers that came in: number i lies at 'ad i' and is 'z i'. -/
structure Came (P : Program) (w : World) (t : TypeId) (V : Value) (n : Nat) (ad : Nat → Addr) (enc : Nat → Value) : Prop where
  len : ∀ T w', (Builtin.len_ #[t] T #[V]).run P w' = .ok (.int .i64 (n : Int)) w'
  index : ∀ i, i < n → ∀ w', (Instr.indexAt t V (.int .i64 (i : Int))).run P w' = .ok (.pointer (some (ad i))) w'
  cell : ∀ i, i < n → w.cell? (ad i) = some (enc i)
theorem Came.below {w w' : World} {t : TypeId} {V : Value} {n : Nat} {ad : Nat → Addr} {enc : Nat → Value} (h : Came P w t V n ad enc) (hb : Below w.heap.size w w') : Came P w' t V n ad enc :=
  ⟨h.len, h.index, fun i hi => by rw [hb.cell (World.block_lt_of_cell? w _ (h.cell i hi))]; exact h.cell i hi⟩
end Go.Proofs.Ytlmolmmhkddpaaa
