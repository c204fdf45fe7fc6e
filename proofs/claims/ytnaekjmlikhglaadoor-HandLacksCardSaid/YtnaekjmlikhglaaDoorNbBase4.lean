/- Texts of this proof, one behind the other. -/
import Derived.Test.YtnaekjmlikhglaaDoorGen9
import Derived.Test.YtnaekjmlikhglaaDoorRows
import Derived.Test.YtnaekjmlikhglaaDoorNbMath4
import Derived.WalkKit
import Derived.WalkSpells
import Derived.WalkLawsBesides
import Derived.Lib.Hide
import Derived.Lib.ConvBytes
import Derived.Lib.AppendStr
import Derived.Lib.OthersKept
import Derived.Laws.AppendOwn
import Derived.Laws.MakeOwn
import Derived.Outline
import Derived.Deep.WholeRow
import Derived.Deep.MidRow
import Derived.Laws.CopyRow
import Derived.Still
/- Laws for walks over texts and over slices of one's own: bytes and texts as opaque values, one element appended, blocks that were made since. -/
namespace Go.Proofs.YtnaekjmlikhglaaDoor.bb
open Go.RowKit

/-- A byte as a value. -/
def B (x : UInt8) : Value := .int .u8 (x.toNat : Int)
theorem B_cells (x : UInt8) : (B x).cells = #[B x] := rfl
theorem B_match (x : UInt8) : (@Value.cells.match_1 (fun _ => Array Value) (B x) (fun cs => cs) (fun v => #[v])) = #[B x] := rfl
theorem run_store_ok (P : Program) (w : World) (a : Addr) (v : Value) (m : Mode) (hv : v.oneCell' = true) (hc : (w.cell? a).isSome = true) (hf : w.frozen? a = false) : (store a v m).run P w = .ok () (w.setCell a v) := by
  obtain ⟨v0, h0⟩ := Option.isSome_iff_exists.1 hc
  rw [run_store P w a v m hv, h0]; simp [hf]
theorem B_store (P : Program) (w : World) (a : Addr) (x : UInt8) (m : Mode) (hc : (w.cell? a).isSome = true) (hf : w.frozen? a = false) : (store a (B x) m).run P w = .ok () (w.setCell a (B x)) :=
  run_store_ok P w a (B x) m rfl hc hf
theorem store_one (a : Addr) (v : Value) : storeCells a [v] = store a v := by
  have : a.add 0 = a := by unfold Addr.add; rw [if_pos rfl]
  simp [storeCells, this]
theorem B_one (x : UInt8) : (B x).oneCell' = true := rfl
/-- A list of bytes as cells. -/
def bcells (l : List UInt8) : Array Value := (l.map B).toArray
theorem bcells_size (l : List UInt8) : (bcells l).size = l.length := by simp [bcells]
theorem bcells_get (l : List UInt8) (k : Nat) (h : k < l.length) : (bcells l)[k]? = some (B (l[k]?.getD 0)) := by
  simp [bcells, h]
theorem bcells_set (l : List UInt8) (k : Nat) (x : UInt8) : (bcells l).setIfInBounds k (B x) = bcells (l.set k x) := by
  simp [bcells, List.map_set]
theorem bcells_one (l : List UInt8) : (bcells l).all (·.oneCell') = true := by
  simp [bcells]; intro x _; rfl

/-- A text as a value. -/
def S (l : List UInt8) : Value := .string ⟨l.toArray⟩
theorem S_add (t : TypeId) (a b : List UInt8) (h : a.length + b.length ≤ 9223372036854775807) : binOp .add t (S a) (S b) = pure (S (a ++ b)) := by
  have e : Op.stringOp .add ⟨a.toArray⟩ ⟨b.toArray⟩ = pure (Value.string (⟨a.toArray⟩ ++ ⟨b.toArray⟩)) := by
    have hs : ((⟨a.toArray⟩ : ByteArray).size + (⟨b.toArray⟩ : ByteArray).size : Nat) = a.length + b.length := by simp [ByteArray.size]
    simp only [Op.stringOp]
    rw [if_neg (by rw [hs]; show ¬ ((a.length + b.length : Nat) : Int) > 9223372036854775807; omega)]
  simp only [S, binOp, e]
  congr 2

theorem alloc_size (w : World) (o : Obj) : (w.alloc o).heap.size = w.heap.size + 1 := by simp
/-- Block g of the world holds these cells, and may be written. -/
def Row (w : World) (g : Nat) (cs : Array Value) (t : TypeId) : Prop := w.heap[g]? = some (.cells cs t (0, 0))
section
variable {w : World} {g : Nat} {cs : Array Value} {t : TypeId}
theorem Row.row (h : Row w g cs t) : w.heap[g]? = some (.cells cs t (0, 0)) := h
theorem Row.byte (h : Row w g cs t) (l : List UInt8) (e : cs = bcells l) (k : Nat) (hk : k < l.length) : w.cell? ⟨g, k, none⟩ = some (B (l[k]?.getD 0)) := by
  rw [cell_of_row w g k cs t (0, 0) h, e]; exact bcells_get l k hk
theorem Row.frozen (h : Row w g cs t) (k : Nat) : w.frozen? ⟨g, k, none⟩ = false := frozen_of_row w g k cs t h
theorem Row.drew (h : Row w g cs t) : Row w.drew g cs t := h
theorem Row.other (h : Row w g cs t) {a : Addr} {v : Value} (hn : g ≠ a.block) : Row (w.setCell a v) g cs t := by
  unfold Row; rw [heap_setCell_other w a g v hn]; exact h
theorem Row.set (h : Row w g cs t) (i : Nat) (v : Value) : Row (w.setCell ⟨g, i, none⟩ v) g (cs.setIfInBounds i v) t := heap_setCell_same w g i cs t v h
theorem Row.set_byte {l : List UInt8} (h : Row w g (bcells l) t) (i : Nat) (x : UInt8) {l' : List UInt8} (e : l' = l.set i x) : Row (w.setCell ⟨g, i, none⟩ (B x)) g (bcells l') t := by
  rw [e, ← bcells_set]; exact h.set i _
theorem Row.lt (h : Row w g cs t) : g < w.heap.size := (Array.getElem?_eq_some_iff.1 h).1
theorem Row.alloc (h : Row w g cs t) (o : Obj) : Row (w.alloc o) g cs t := by
  unfold Row; rw [Below.heap_alloc _ _ _ h.lt]; exact h
theorem Row.below {w' : World} {b : Nat} (h : Row w g cs t) (hb : Below b w w') (hg : g < b) : Row w' g cs t := by
  unfold Row; rw [hb.block g hg]; exact h
end
theorem row_new (w : World) (cs : Array Value) (t : TypeId) : Row (w.alloc (.cells cs t)) w.heap.size cs t := heap_alloc_last w _


section
variable {ops : Array Oper} {rest : List Oper} {o : Oper} {a : Act} {w : World} {Q : Exit → Act → World → Prop}
theorem wpList_exec (hgd : o.guard = none) (v : Value) (w' : World) (hrun : (execOp a.eval o).run Tryd.prog w = .ok (.value v) w')
    (h : wpList Tryd.prog ops Q rest (a.put o.dst v) w') : wpList Tryd.prog ops Q (o :: rest) a w :=
  wpList_plain hgd fun _ hK => by
    unfold Oper.wp
    rw [hrun]
    exact hK _ _ h

theorem S_size (r : List UInt8) : (⟨r.toArray⟩ : ByteArray).size = r.length := by simp [ByteArray.size]

theorem run_len_S (t : TypeId) (r : List UInt8) (w : World) : (Builtin.len_ #[9] t #[S r]).run Tryd.prog w = .ok (.int .i64 r.length) w := by
  have hu := Tryd.underlying9
  simp [Builtin.len_, S, run_underlying hu, S_size, Result.andThen, goInt]
theorem run_slice_S (r : List UInt8) (m : Nat) (hm : m ≤ r.length) (w : World) : (Instr.sliceAt 9 (S r) (some (.int .i64 m)) none none).run Tryd.prog w = .ok (S (r.drop m)) w := by
  have hu := Tryd.underlying9
  rw [run_sliceAt_string w 9 _ _ _ _ hu]
  have e : (⟨r.toArray⟩ : ByteArray).extract m r.length = ⟨(r.drop m).toArray⟩ := by
    apply ByteArray.ext
    rw [ByteArray.data_extract]; simp [List.take_of_length_le]
  simp [Instr.slice, S, run_underlying hu, Instr.sliceBounds, run_sliceBound, S_size, Result.andThen, hm, e]
theorem wpList_len_str (hgd : o.guard = none) (x : Operand) (ho : o.op = .call { callee := .builtin .len, args := #[x], argTypes := #[9] }) (r : List UInt8) (hx : a.eval x = S r)
    (h : wpList Tryd.prog ops Q rest (a.put o.dst (.int .i64 r.length)) w) : wpList Tryd.prog ops Q (o :: rest) a w := by
  refine wpList_exec hgd _ w ?_ h
  simp [execOp, ho, resolve, invoke, builtin, hx, run_len_S, Result.andThen]

theorem wpList_drop_str (hgd : o.guard = none) (x y : Operand) (ho : o.op = .slice 9 x (some y) none none) (r : List UInt8) (hx : a.eval x = S r) (m : Nat) (hy : a.eval y = .int .i64 m) (hm : m ≤ r.length)
    (h : wpList Tryd.prog ops Q rest (a.put o.dst (S (r.drop m))) w) : wpList Tryd.prog ops Q (o :: rest) a w := by
  refine wpList_exec hgd _ w ?_ h
  simp [execOp, ho, hx, hy, run_slice_S r m hm, Result.andThen]

/-- How long a text is, as a measure. -/
def slen : Value → Nat
  | .string s => s.size
  | _ => 0
theorem slen_S (r : List UInt8) : slen (S r) = r.length := S_size r

theorem run_take_S (r : List UInt8) (m : Nat) (hm : m ≤ r.length) (w : World) : (Instr.sliceAt 9 (S r) none (some (.int .i64 m)) none).run Tryd.prog w = .ok (S (r.take m)) w := by
  have hu := Tryd.underlying9
  rw [run_sliceAt_string w 9 _ _ _ _ hu]
  have e : (⟨r.toArray⟩ : ByteArray).extract 0 m = ⟨(r.take m).toArray⟩ := by
    apply ByteArray.ext
    rw [ByteArray.data_extract]; simp
  simp [Instr.slice, S, run_underlying hu, Instr.sliceBounds, run_sliceBound, S_size, Result.andThen, hm, e]
theorem wpList_take_str (hgd : o.guard = none) (x y : Operand) (ho : o.op = .slice 9 x none (some y) none) (r : List UInt8) (hx : a.eval x = S r) (k : Int) (m : Nat) (hy : a.eval y = .int .i64 k) (hk : k = (m : Int)) (hm : m ≤ r.length)
    (h : wpList Tryd.prog ops Q rest (a.put o.dst (S (r.take m))) w) : wpList Tryd.prog ops Q (o :: rest) a w := by
  refine wpList_exec hgd _ w ?_ h
  subst hk
  simp [execOp, ho, hx, hy, run_take_S r m hm, Result.andThen]
theorem wpList_drop_str' (hgd : o.guard = none) (x y : Operand) (ho : o.op = .slice 9 x (some y) none none) (r : List UInt8) (hx : a.eval x = S r) (k : Int) (m : Nat) (hy : a.eval y = .int .i64 k) (hk : k = (m : Int)) (hm : m ≤ r.length)
    (h : wpList Tryd.prog ops Q rest (a.put o.dst (S (r.drop m))) w) : wpList Tryd.prog ops Q (o :: rest) a w := by
  subst hk
  exact wpList_drop_str hgd x y ho r hx m hy hm h
theorem wpList_len_slice (hgd : o.guard = none) (x : Operand) (t : TypeId) (ho : o.op = .call { callee := .builtin .len, args := #[x], argTypes := #[t] }) (V : Value) (hx : a.eval x = V) (n : Int)
    (hV : ∀ w', (Builtin.len_ #[t] o.type #[V]).run Tryd.prog w' = .ok (.int .i64 n) w')
    (h : wpList Tryd.prog ops Q rest (a.put o.dst (.int .i64 n)) w) : wpList Tryd.prog ops Q (o :: rest) a w := by
  refine wpList_exec hgd _ w ?_ h
  simp [execOp, ho, resolve, invoke, builtin, hx, hV, Result.andThen]
theorem wpList_index_slice (hgd : o.guard = none) (t : TypeId) (x y : Operand) (ho : o.op = .indexAddr t x y) (V I : Value) (hx : a.eval x = V) (hy : a.eval y = I) (ad : Addr)
    (hV : ∀ w', (Instr.indexAt t V I).run Tryd.prog w' = .ok (.pointer (some ad)) w')
    (h : wpList Tryd.prog ops Q rest (a.put o.dst (.pointer (some ad))) w) : wpList Tryd.prog ops Q (o :: rest) a w := by
  refine wpList_exec hgd _ w ?_ h
  simp [execOp, ho, hx, hy, hV, Result.andThen]
end
/-- Texts are held against each other. -/
theorem eql_S (t : TypeId) (a b : List UInt8) : binOp .eql t (S a) (S b) = pure (.bool (a == b)) := by
  have e : ((⟨a.toArray⟩ : ByteArray).toList == (⟨b.toArray⟩ : ByteArray).toList) = (a == b) := by
    simp
  simp only [S, binOp, Op.stringOp]
  rw [e]

theorem guard_S (t : TypeId) (x y : Operand) (a b : List UInt8) : eqGuard .eql t x y (S a) (S b) = pure () := rfl

/-- The slice v holds just these values, in a block made behind 'base', and its room may be written. -/
def Own (base : Nat) (v : Value) (xs : List Value) (w : World) : Prop :=
  (v = .slice none 0 0 ∧ xs = []) ∨
    ∃ g cap, v = .slice (some ⟨g, 0, none⟩) xs.length cap ∧ base ≤ g ∧ g < w.heap.size ∧ xs.length ≤ cap ∧ cap ≤ maxLen ∧ w.rangeAt g 0 xs ∧ w.there g 0 cap

section
variable {w w' : World} {base g n cap : Nat} {v y : Value} {xs : List Value} {e : TypeId}
theorem Own.of_block (h : Own base v xs w) (hs : w.heap.size ≤ w'.heap.size) (hb : ∀ k, v.ownBlock = some k → w'.heap[k]? = w.heap[k]?) : Own base v xs w' := by
  rcases h with h | ⟨g, cap, rfl, h1, h2, h3, h4, h5, h6⟩
  · exact .inl h
  · have e := hb g rfl
    refine .inr ⟨g, cap, rfl, h1, by omega, h3, h4, fun j u hu => ?_, fun j hj => ?_⟩
    · rw [World.cell?_of_block (w := w) e]; exact h5 j u hu
    · rw [World.cell?_of_block (w := w) e, World.frozen?_of_block (w := w) e]; exact h6 j hj
theorem Own.lt (h : Own base v xs w) : ∀ k, v.ownBlock = some k → base ≤ k ∧ k < w.heap.size := by
  intro k hk
  rcases h with ⟨rfl, _⟩ | ⟨g, cap, rfl, h1, h2, _⟩
  · cases hk
  · cases hk; exact ⟨h1, h2⟩
theorem Own.alloc (h : Own base v xs w) (o : Obj) : Own base v xs (w.alloc o) :=
  h.of_block (by simp) (fun k hk => heap_alloc_old w o (h.lt k hk).2)
theorem Own.drew (h : Own base v xs w) : Own base v xs w.drew := h
theorem Own.grown (h : Own base v xs w) {row : Option Nat} (hg : w.grownBy w' row) (hne : ∀ k, v.ownBlock = some k → some k ≠ row) : Own base v xs w' :=
  h.of_block hg.size (fun k hk => hg.block k (h.lt k hk).2 (hne k hk))
theorem Own.below {b : Nat} (h : Own base v xs w) (hb : Below b w w') (hlt : ∀ k, v.ownBlock = some k → k < b) : Own base v xs w' :=
  h.of_block hb.size (fun k hk => hb.block k (hlt k hk))
theorem Own.form (h : Own base v xs w) (hx : xs ≠ []) : ∃ g cap, v = .slice (some ⟨g, 0, none⟩) xs.length cap ∧ base ≤ g ∧ g < w.heap.size ∧ w.rangeAt g 0 xs := by
  rcases h with ⟨_, h⟩ | ⟨g, cap, rfl, h1, h2, _, _, h5, _⟩
  · exact absurd h hx
  · exact ⟨g, cap, rfl, h1, h2, h5⟩
theorem Own.shape (h : Own base v xs w) {n : Nat} (hn : xs.length = n) (h0 : 0 < n) : ∃ g cap, v = .slice (some ⟨g, 0, none⟩) n cap ∧ base ≤ g ∧ g < w.heap.size ∧ w.rangeAt g 0 xs := by
  subst hn
  exact h.form (fun e => by rw [e] at h0; exact absurd h0 (Nat.lt_irrefl 0))
/-- How long a slice is, as a measure. -/
def vlen : Value → Nat
  | .slice _ n _ => n
  | _ => 0
theorem Own.vlen (h : Own base v xs w) : vlen v = xs.length := by
  rcases h with ⟨rfl, rfl⟩ | ⟨g, cap, rfl, _⟩ <;> rfl
theorem row_grown {cs : Array Value} {t : TypeId} (h : Row w g cs t) {row : Option Nat} (hg : w.grownBy w' row) (hne : some g ≠ row) : Row w' g cs t := by
  unfold Row; rw [hg.block g h.lt hne]; exact h
theorem row_kept {b : Nat} {cs : Array Value} {t : TypeId} (h : Row w g cs t) (ho : Own b v xs w) (hg : w.grownBy w' v.ownBlock) (hlt : g < b) : Row w' g cs t :=
  row_grown h hg (fun e => by have := (ho.lt g e.symm).1; omega)
theorem below_own {b b' : Nat} {w0 : World} (h : Below b w0 w) (ho : Own b' v xs w) (hg : w.grownBy w' v.ownBlock) (hle : b ≤ b') (hb : b ≤ w.heap.size) : Below b w0 w' :=
  h.trans ⟨hg.os, hg.tape, hg.output, hg.size, fun k hk => hg.block k (by omega) (fun e => by have := (ho.lt k e.symm).1; omega)⟩
theorem below_grown {b : Nat} {w0 : World} (h : Below b w0 w) {row : Option Nat} (hg : w.grownBy w' row) (hr : ∀ k, row = some k → b ≤ k) (hb : b ≤ w.heap.size) : Below b w0 w' :=
  h.trans ⟨hg.os, hg.tape, hg.output, hg.size, fun k hk => hg.block k (by omega) (fun e => by have := hr k e.symm; omega)⟩

theorem own_new (w : World) (xs : List Value) (Z : Array Value) (cap : Nat) (hc : xs.length ≤ cap) (hm : cap ≤ maxLen) (hz : Z.size = cap - xs.length) (hb : base ≤ w.heap.size) :
    Own base (.slice (some ⟨w.heap.size, 0, none⟩) xs.length cap) xs (w.drew.alloc (.cells (xs.toArray ++ Z) e)) := by
  have hr : Row (w.drew.alloc (.cells (xs.toArray ++ Z) e)) w.heap.size (xs.toArray ++ Z) e := row_new w.drew _ _
  refine .inr ⟨w.heap.size, cap, rfl, hb, hr.lt, hc, hm, fun j u hu => ?_, fun j hj => ?_⟩
  · rw [Nat.zero_add, cell_of_row _ _ j _ _ _ hr]
    have hl : j < xs.length := (List.getElem?_eq_some_iff.1 hu).1
    rw [Array.getElem?_append_left (by simpa using hl)]
    simpa using hu
  · rw [Nat.zero_add]
    refine ⟨?_, hr.frozen j⟩
    rw [cell_of_row _ _ j _ _ _ hr]
    have : j < (xs.toArray ++ Z).size := by rw [Array.size_append, hz, List.size_toArray]; omega
    rw [Array.getElem?_eq_getElem this]; rfl

theorem run_push {P : Program} (w : World) (base : Nat) (t ty e : TypeId) (i : TypeInfo) (z : Value) (ht : P.underlying t = some (.slice e)) (hi : P.info? e = some i) (hz : i.zero = some z) (hs : i.size = 1) (hby : i.bytes ≤ 8) (hzs : z.cells.size = 1)
    (v : Value) (xs : List Value) (hown : Own base v xs w) (ad : Addr) (y : Value) (hy : w.cell? ad = some y) (h1 : y.oneCell' = true) (hlen : xs.length < 1000000000000) (hbase : base ≤ w.heap.size) :
    ∃ v' w', (Builtin.append_ #[t, t] ty #[v, .slice (some ad) 1 1]).run P w = .ok v' w' ∧ Own base v' (xs ++ [y]) w' ∧ w.grownBy w' v.ownBlock ∧ (∀ g n cap, v = .slice (some ⟨g, 0, none⟩) n cap → w'.rangeAt g 0 xs) := by
  have hl : ([y] : List Value).length = 1 * i.size := by rw [hs]; rfl
  have hnews : ∀ j u, ([y] : List Value)[j]? = some u → w.cell? (ad.add j) = some u := by
    intro j u hu
    cases j with
    | zero => simp only [List.getElem?_cons_zero, Option.some.injEq] at hu; subst hu; rw [show ad.add 0 = ad from by unfold Addr.add; rw [if_pos rfl]]; exact hy
    | succ j => simp at hu
  have hlen' : (xs ++ [y]).length = xs.length + 1 := by simp
  have hmul : ∀ k, k * i.bytes ≤ k * 8 := fun k => Nat.mul_le_mul_left k hby
  rcases hown with ⟨rfl, rfl⟩ | ⟨g, cap, rfl, hbg, hgl, hnc, hcm, hcells, hthere⟩
  · have hr := run_append_nil (P := P) w t ty e i z ht hi hz ad 1 1 [y] hl hnews (by omega) (by omega) (by have := hmul 1; omega)
    refine ⟨_, _, hr, ?_, ⟨rfl, rfl, rfl, by simp, fun k hk _ => heap_alloc_old w.drew _ hk⟩, fun g n cap h => by cases h⟩
    exact own_new w [y] _ _ (grownCap_ge w 1 0 e) (grownCap_le_maxLen w 1 0 e (by simp [maxLen])) (by rw [size_zeroCells, hzs, Nat.mul_one]; rfl) hbase
  · by_cases hroom : xs.length + 1 ≤ cap
    · obtain ⟨hc, hf⟩ := hthere xs.length (by omega)
      rw [Nat.zero_add] at hc hf
      have hfc := run_firstCells_some (P := P) w i.size 1 ad 1 1 [y] hl hnews
      have hst : (storeCells ⟨g, xs.length, none⟩ [y]).run P w = .ok () (w.setCell ⟨g, xs.length, none⟩ y) := by
        rw [store_one]; exact run_store_ok P w _ y _ h1 hc hf
      refine ⟨.slice (some ⟨g, 0, none⟩) (xs.length + 1) cap, w.setCell ⟨g, xs.length, none⟩ y, ?_, ?_, ?_, ?_⟩
      · rw [hs] at hfc
        simp [Builtin.append_, run_underlying ht, sizeOf, typeInfo, hi, Builtin.lenOf, hroom, hfc, hs, Addr.add_lit, hst]
      · refine .inr ⟨g, cap, by rw [hlen'], hbg, by simpa [World.setCell] using hgl, by omega, hcm, fun j u hu => ?_, fun j hj => ?_⟩
        · rw [Nat.zero_add]
          rcases Nat.lt_trichotomy j xs.length with hlt | rfl | hgt
          · rw [World.cell?_setCell_other (h := show (⟨g, xs.length, none⟩ : Addr) ≠ ⟨g, j, none⟩ by intro h; simp only [Addr.mk.injEq] at h; omega)]
            have := hcells j u (by rwa [List.getElem?_append_left hlt] at hu)
            rwa [Nat.zero_add] at this
          · rw [List.getElem?_append_right (Nat.le_refl _), Nat.sub_self] at hu
            simp only [List.getElem?_cons_zero, Option.some.injEq] at hu
            subst hu
            obtain ⟨u0, hu0⟩ := Option.isSome_iff_exists.1 hc
            exact World.cell?_setCell_same _ _ _ hu0
          · rw [List.getElem?_eq_none (by omega)] at hu; cases hu
        · obtain ⟨hc2, hf2⟩ := hthere j hj
          refine ⟨?_, by simpa using hf2⟩
          obtain ⟨u0, hu0⟩ := Option.isSome_iff_exists.1 hc2
          obtain ⟨v', hv'⟩ := cell?_setCell_some (p := ⟨g, xs.length, none⟩) (x := y) hu0
          rw [hv']; rfl
      · exact ⟨rfl, rfl, rfl, by simp [World.setCell], fun k _ hn => Below.heap_setCell _ _ _ _ (fun h => hn (by simp [Value.ownBlock, h]))⟩
      · intro g' n' cap' he j u hu
        simp only [Value.slice.injEq, Option.some.injEq, Addr.mk.injEq] at he
        obtain ⟨⟨rfl, _⟩, _⟩ := he
        have hj : j < xs.length := (List.getElem?_eq_some_iff.1 hu).1
        rw [World.cell?_setCell_other (h := show (⟨g, xs.length, none⟩ : Addr) ≠ ⟨g, 0 + j, none⟩ by intro h; simp only [Addr.mk.injEq] at h; omega)]
        exact hcells j u hu
    · have holds : ∀ j u, xs[j]? = some u → w.cell? ((⟨g, 0, none⟩ : Addr).add j) = some u := fun j u hu => by
        rw [Addr.add_mid]; exact hcells j u hu
      have hr := run_append_grow (P := P) w t ty e i z ht hi hz ⟨g, 0, none⟩ xs.length cap xs (by rw [hs, Nat.mul_one]) holds ad 1 1 [y] hl hnews (by omega) (by omega)
        (growslice_fits (by omega) (by have := hmul (xs.length + 1); omega))
      refine ⟨_, _, hr, ?_, ⟨rfl, rfl, rfl, by simp, fun k hk _ => heap_alloc_old w.drew _ hk⟩, ?_⟩
      rotate_left
      · intro g' n' cap' he j u hu
        simp only [Value.slice.injEq, Option.some.injEq, Addr.mk.injEq] at he
        obtain ⟨⟨rfl, _⟩, _⟩ := he
        rw [World.cell?_of_block (w := w) (heap_alloc_old w.drew _ hgl)]
        exact hcells j u hu
      have := own_new (base := base) (e := e) w (xs ++ [y]) (Builtin.zeroCells z.cells (grownCap w (xs.length + 1) cap e - (xs.length + 1))) (grownCap w (xs.length + 1) cap e)
        (by rw [hlen']; exact grownCap_ge w _ _ _) (grownCap_le_maxLen w _ _ _ (by simp only [maxLen]; omega)) (by rw [size_zeroCells, hzs, Nat.mul_one, hlen']) hbase
      simpa using this

theorem info5 : ∃ i z, Tryd.prog.info? 5 = some i ∧ i.zero = some z ∧ i.size = 1 ∧ i.bytes ≤ 8 ∧ z.cells.size = 1 := by
  have h : (Tryd.prog.info? 5).map (fun i => (i.zero, i.size, i.bytes)) = some (some (.int .u8 0), 1, 1) := by kernel_rfl
  cases hi : Tryd.prog.info? 5 with
  | none => simp [hi] at h
  | some i =>
    simp only [hi, Option.map_some, Option.some.injEq, Prod.mk.injEq] at h
    exact ⟨i, _, rfl, h.1, h.2.1, by omega, rfl⟩
section
variable {ops : Array Oper} {rest : List Oper} {o : Oper} {a : Act} {Q : Exit → Act → World → Prop}
/-- One byte appended. -/
theorem wpList_push_byte (hgd : o.guard = none) (s x : Operand) (ho : o.op = .call { callee := .builtin .append, args := #[s, x], argTypes := #[42, 42] }) (base : Nat)
    (v : Value) (hs : a.eval s = v) (l : List UInt8) (hown : Own base v (l.map B) w) (g' : Nat) (y : UInt8) (hx : a.eval x = .slice (some ⟨g', 0, none⟩) 1 1) (hy : w.cell? ⟨g', 0, none⟩ = some (B y)) (hlen : l.length < 1000000000000) (hbase : base ≤ w.heap.size)
    (h : ∀ v' w', Own base v' ((l ++ [y]).map B) w' → w.grownBy w' v.ownBlock → wpList Tryd.prog ops Q rest (a.put o.dst v') w') : wpList Tryd.prog ops Q (o :: rest) a w := by
  subst hs
  obtain ⟨i, z, hi, hz, hs, hby, hzs⟩ := info5
  obtain ⟨v', w', hr, h2, h3, _⟩ := run_push (P := Tryd.prog) w base 42 o.type 5 i z Tryd.underlying42 hi hz hs hby hzs (a.eval s) (l.map B) hown ⟨g', 0, none⟩ (B y) hy rfl (by rw [List.length_map]; exact hlen) hbase
  refine wpList_exec hgd v' w' ?_ (h v' w' (by simpa using h2) h3)
  simp only [execOp, ho, resolve, invoke, builtin, Sem.run_bind, Sem.run_pure, Result.andThen_ok, List.map_toArray, List.map_cons, List.map_nil, hx, hr]
theorem own_bytes (l : List UInt8) (hl : l.length < 1000000000000) : Own w.heap.size (.slice (some ⟨w.heap.size, 0, none⟩) l.length (grownCap w l.length 0 5)) (l.map B) (Lib.bytesWorld w 5 ⟨l.toArray⟩) := by
  have hsz : (⟨l.toArray⟩ : ByteArray).size = l.length := S_size l
  have hg := Lib.bytesWorld_at_new w 5 ⟨l.toArray⟩
  have hge := grownCap_ge w l.length 0 5
  have hcs : (Lib.bytesCells w 5 ⟨l.toArray⟩).size = grownCap w l.length 0 5 := by
    simp [Lib.bytesCells, hsz]; omega
  refine .inr ⟨w.heap.size, grownCap w l.length 0 5, by rw [List.length_map], Nat.le_refl _, by rw [Lib.bytesWorld_size]; omega, by rw [List.length_map]; exact hge, grownCap_le_maxLen w _ _ _ (by simp only [maxLen]; omega), fun j u hu => ?_, fun j hj => ?_⟩
  · have hj : j < l.length := by have := (List.getElem?_eq_some_iff.1 hu).1; simpa using this
    rw [Nat.zero_add, Lib.bytesWorld_cell w 5 _ j (by rw [hsz]; exact hj)]
    rw [List.getElem?_map, List.getElem?_eq_getElem hj] at hu
    simp only [Option.map_some, Option.some.injEq] at hu
    rw [← hu]
    simp [B, List.getD, hj]
  · rw [Nat.zero_add]
    refine ⟨?_, ?_⟩
    · rw [World.cell?, hg]
      simp [hcs, hj]
    · rw [World.frozen?, hg]
      simp [hcs]
      omega
theorem grown_bytes (s : ByteArray) (row : Option Nat) : w.grownBy (Lib.bytesWorld w 5 s) row :=
  ⟨rfl, rfl, rfl, by rw [Lib.bytesWorld_size]; omega, fun k hk _ => Lib.bytesWorld_at_old w 5 s k hk⟩
/-- A text's bytes, in a block of their own. -/
theorem wpList_bytes (hgd : o.guard = none) (x : Operand) (ho : o.op = .convert 9 42 x) (l : List UInt8) (hx : a.eval x = S l) (hl : l.length < 1000000000000)
    (h : ∀ v' w', Own w.heap.size v' (l.map B) w' → w.grownBy w' none → wpList Tryd.prog ops Q rest (a.put o.dst v') w') : wpList Tryd.prog ops Q (o :: rest) a w := by
  have hr := Lib.run_convert_string_bytes w 9 42 5 ⟨l.toArray⟩ Tryd.underlying9 Tryd.underlying42 Tryd.underlying5
  rw [S_size] at hr
  refine wpList_exec hgd _ _ ?_ (h _ _ (own_bytes l hl) (grown_bytes _ none))
  simp only [execOp, ho, hx, S, Sem.run_bind, Sem.run_pure, Result.andThen_ok, hr]
end
theorem run_bytes (l : List UInt8) (w : World) : (convert 9 42 (S l)).run Tryd.prog w = .ok (.slice (some ⟨w.heap.size, 0, none⟩) l.length (grownCap w l.length 0 5)) (Lib.bytesWorld w 5 ⟨l.toArray⟩) := by
  have hr := Lib.run_convert_string_bytes w 9 42 5 ⟨l.toArray⟩ Tryd.underlying9 Tryd.underlying42 Tryd.underlying5
  rw [S_size] at hr; exact hr
section
variable {ops : Array Oper} {rest : List Oper} {o : Oper} {a : Act} {Q : Exit → Act → World → Prop}
/-- One byte, laid in a block of its own and appended. -/
theorem wpList_add_byte (hgd : o.guard = none) (s x : Operand) (ho : o.op = .call { callee := .builtin .append, args := #[s, x], argTypes := #[42, 42] }) (base : Nat) (W : World)
    (v : Value) (hs : a.eval s = v) (l : List UInt8) (hown : Own base v (l.map B) W) (y : UInt8) (cs : Array Value) (hcs : cs = #[B y]) (hw : w = W.alloc (.cells cs 5)) (hx : a.eval x = .slice (some ⟨W.heap.size, 0, none⟩) 1 1)
    (hlen : l.length < 1000000000000) (hbase : base ≤ W.heap.size)
    (h : ∀ v' w', Own base v' ((l ++ [y]).map B) w' → W.grownBy w' v.ownBlock → wpList Tryd.prog ops Q rest (a.put o.dst v') w') : wpList Tryd.prog ops Q (o :: rest) a w := by
  subst hw hcs
  refine wpList_push_byte hgd s x ho base v hs l (hown.alloc _) W.heap.size y hx ?_ hlen (by rw [alloc_size]; omega) fun v' w' h1 h2 => h v' w' h1 ?_
  · have hr := row_new W #[B y] 5
    rw [cell_of_row _ _ 0 _ _ _ hr]; rfl
  · exact ⟨h2.os, h2.tape, h2.output, Nat.le_trans (by simp) h2.size, fun k hk hn => (h2.block k (by rw [alloc_size]; omega) hn).trans (heap_alloc_old W _ hk)⟩
end
end
end Go.Proofs.YtnaekjmlikhglaaDoor.bb
/- A text of one byte appended to a slice of one's own; a slice made. -/
namespace Go.Proofs.YtnaekjmlikhglaaDoor.bb
open Go.RowKit

theorem run_push_text (w : World) (base : Nat) (ty : TypeId) (v : Value) (xs : List Value) (hown : Own base v xs w) (c : UInt8) (hlen : xs.length < 1000000000000) (hbase : base ≤ w.heap.size) :
    ∃ v' w', (Builtin.append_ #[42, 9] ty #[v, .string ⟨#[c]⟩]).run Tryd.prog w = .ok v' w' ∧ Own base v' (xs ++ [B c]) w' ∧ w.grownBy w' v.ownBlock := by
  obtain ⟨i, z, hi, hz, hs, hby, hzs⟩ := info5
  have ht := Tryd.underlying42
  have hu := Tryd.underlying9
  have hsz : (⟨#[c]⟩ : ByteArray).size = 1 := rfl
  have hdat : ((⟨#[c]⟩ : ByteArray).data.map fun b => Value.int .u8 b.toNat) = #[B c] := by simp [B]
  have hlen' : (xs ++ [B c]).length = xs.length + 1 := by simp
  have hmul : ∀ k, k * i.bytes ≤ k * 8 := fun k => Nat.mul_le_mul_left k hby
  rcases hown with ⟨rfl, rfl⟩ | ⟨g, cap, rfl, hbg, hgl, hnc, hcm, hcells, hthere⟩
  · have hr := run_append_nil_string (P := Tryd.prog) w 42 9 ty 5 i z ht hu hi hz ⟨#[c]⟩ (by rw [hsz]; omega) (by rw [hsz]; omega) (by rw [hsz]; have := hmul 1; omega)
    rw [hsz, hdat] at hr
    refine ⟨_, _, hr, ?_, ⟨rfl, rfl, rfl, by simp, fun k hk _ => heap_alloc_old w.drew _ hk⟩⟩
    exact own_new w [B c] _ _ (grownCap_ge w 1 0 5) (grownCap_le_maxLen w 1 0 5 (by simp [maxLen])) (by rw [size_zeroCells, hzs, Nat.mul_one]; rfl) hbase
  · by_cases hroom : xs.length + 1 ≤ cap
    · obtain ⟨hc, hf⟩ := hthere xs.length (by omega)
      rw [Nat.zero_add] at hc hf
      have hfc := Lib.run_firstCells_string (P := Tryd.prog) w i.size ⟨#[c]⟩
      rw [hsz] at hfc
      have hst : (storeCells ⟨g, xs.length, none⟩ [B c]).run Tryd.prog w = .ok () (w.setCell ⟨g, xs.length, none⟩ (B c)) := by
        rw [store_one]; exact run_store_ok Tryd.prog w _ (B c) _ rfl hc hf
      have hsc : Lib.strCells (⟨#[c]⟩ : ByteArray) = [B c] := rfl
      refine ⟨.slice (some ⟨g, 0, none⟩) (xs.length + 1) cap, w.setCell ⟨g, xs.length, none⟩ (B c), ?_, ?_, ?_⟩
      · rw [hs] at hfc
        simp [Builtin.append_, run_underlying ht, run_underlying hu, sizeOf, typeInfo, hi, Builtin.lenOf, hroom, hfc, hs, hsz, hsc, Addr.add_lit, hst]
      · refine .inr ⟨g, cap, by rw [hlen'], hbg, by simpa [World.setCell] using hgl, by omega, hcm, fun j u hu => ?_, fun j hj => ?_⟩
        · rw [Nat.zero_add]
          rcases Nat.lt_trichotomy j xs.length with hlt | rfl | hgt
          · rw [World.cell?_setCell_other (h := show (⟨g, xs.length, none⟩ : Addr) ≠ ⟨g, j, none⟩ by intro h; simp only [Addr.mk.injEq] at h; omega)]
            have := hcells j u (by rwa [List.getElem?_append_left hlt] at hu)
            rwa [Nat.zero_add] at this
          · rw [List.getElem?_append_right (Nat.le_refl _), Nat.sub_self] at hu
            simp only [List.getElem?_cons_zero, Option.some.injEq] at hu
            subst hu
            obtain ⟨u0, hu0⟩ := Option.isSome_iff_exists.1 hc
            exact World.cell?_setCell_same _ _ _ hu0
          · rw [List.getElem?_eq_none (by omega)] at hu; cases hu
        · obtain ⟨hc2, hf2⟩ := hthere j hj
          refine ⟨?_, by simpa using hf2⟩
          obtain ⟨u0, hu0⟩ := Option.isSome_iff_exists.1 hc2
          obtain ⟨v', hv'⟩ := cell?_setCell_some (p := ⟨g, xs.length, none⟩) (x := B c) hu0
          rw [hv']; rfl
      · exact ⟨rfl, rfl, rfl, by simp [World.setCell], fun k _ hn => Below.heap_setCell _ _ _ _ (fun h => hn (by simp [Value.ownBlock, h]))⟩
    · have holds : ∀ j u, xs[j]? = some u → w.cell? ((⟨g, 0, none⟩ : Addr).add j) = some u := fun j u hu => by
        rw [Addr.add_mid]; exact hcells j u hu
      have hr := Lib.run_append_grow_string (P := Tryd.prog) w 42 9 ty 5 i z ht hu hi hz ⟨g, 0, none⟩ xs.length cap xs (by rw [hs, Nat.mul_one]) holds ⟨#[c]⟩ (by rw [hsz]; omega) (by rw [hsz]; omega)
        (by rw [hsz]; exact growslice_fits (by omega) (by have := hmul (xs.length + 1); omega))
      rw [hsz] at hr
      refine ⟨_, _, hr, ?_, ⟨rfl, rfl, rfl, by simp, fun k hk _ => heap_alloc_old w.drew _ hk⟩⟩
      have := own_new (base := base) (e := 5) w (xs ++ [B c]) (Builtin.zeroCells z.cells (grownCap w (xs.length + 1) cap 5 - (xs.length + 1))) (grownCap w (xs.length + 1) cap 5)
        (by rw [hlen']; exact grownCap_ge w _ _ _) (grownCap_le_maxLen w _ _ _ (by simp only [maxLen]; omega)) (by rw [size_zeroCells, hzs, Nat.mul_one, hlen']) hbase
      simpa [Lib.strCells, B] using this

section
variable {ops : Array Oper} {rest : List Oper} {o : Oper} {a : Act} {w : World} {Q : Exit → Act → World → Prop}
/-- A text of one byte appended. -/
theorem wpList_push_text (hgd : o.guard = none) (s x : Operand) (ho : o.op = .call { callee := .builtin .append, args := #[s, x], argTypes := #[42, 9] }) (base : Nat)
    (v : Value) (hs : a.eval s = v) (l : List UInt8) (hown : Own base v (l.map B) w) (c : UInt8) (hx : a.eval x = .string ⟨#[c]⟩) (hlen : l.length < 1000000000000) (hbase : base ≤ w.heap.size)
    (h : ∀ v' w', Own base v' ((l ++ [c]).map B) w' → w.grownBy w' v.ownBlock → wpList Tryd.prog ops Q rest (a.put o.dst v') w') : wpList Tryd.prog ops Q (o :: rest) a w := by
  subst hs
  obtain ⟨v', w', hr, h2, h3⟩ := run_push_text w base o.type (a.eval s) (l.map B) hown c (by rw [List.length_map]; exact hlen) hbase
  refine wpList_exec hgd v' w' ?_ (h v' w' (by simpa using h2) h3)
  simp only [execOp, ho, resolve, invoke, builtin, Sem.run_bind, Sem.run_pure, Result.andThen_ok, List.map_toArray, List.map_cons, List.map_nil, hx, hr]

theorem own_made (w : World) (Z : Array Value) (cap base : Nat) (e : TypeId) (hm : cap ≤ maxLen) (hz : Z.size = cap) (hb : base ≤ w.heap.size) :
    Own base (.slice (some ⟨w.heap.size, 0, none⟩) 0 cap) [] (w.alloc (.cells Z e)) := by
  have hr : Row (w.alloc (.cells Z e)) w.heap.size Z e := row_new w _ _
  refine .inr ⟨w.heap.size, cap, rfl, hb, hr.lt, Nat.zero_le _, hm, fun j u hu => by simp at hu, fun j hj => ?_⟩
  rw [Nat.zero_add]
  refine ⟨?_, hr.frozen j⟩
  rw [cell_of_row _ _ j _ _ _ hr, Array.getElem?_eq_getElem (by omega)]; rfl
/-- A slice of bytes made, of none yet. -/
theorem wpList_make_bytes (hgd : o.guard = none) (x : Operand) (ho : o.op = .makeSlice 42 (.const (.int .i64 0)) x) (c : Nat) (hx : a.eval x = .int .i64 c) (hc : c < 1000000000000) (base : Nat) (hbase : base ≤ w.heap.size)
    (h : ∀ v' w', Own base v' [] w' → w.grownBy w' none → wpList Tryd.prog ops Q rest (a.put o.dst v') w') : wpList Tryd.prog ops Q (o :: rest) a w := by
  obtain ⟨i, z, hi, hz, hs, hby, hzs⟩ := info5
  have hr := run_make (P := Tryd.prog) w 42 5 i z Tryd.underlying42 hi hz .i64 .i64 0 c (Int.le_refl _) (by omega) (by
    have h1 : i.bytes * c ≤ 8 * c := Nat.mul_le_mul_right c hby
    have h2 : ((i.bytes * c : Nat) : Int) ≤ 281474976710656 := by omega
    rwa [Int.natCast_mul] at h2) (by omega)
  simp only [Int.toNat_zero, Int.toNat_natCast] at hr
  refine wpList_exec hgd _ _ ?_ (h _ _ (own_made w (madeCells z.cells (c * i.size)) c base 5 (by simp only [maxLen]; omega) (by rw [size_madeCells, hs, Nat.mul_one]) hbase) (World.grownBy_alloc w _ none))
  have he : a.eval (.const (.int .i64 0)) = .int .i64 0 := rfl
  simp only [execOp, ho, hx, he, Sem.run_bind, Sem.run_pure, Result.andThen_ok, hr]
end
end Go.Proofs.YtnaekjmlikhglaaDoor.bb
/- A text copied into a row of bytes; a byte as a number. -/
namespace Go.Proofs.YtnaekjmlikhglaaDoor.bb
open Go.RowKit

theorem run_copy_str (w : World) (ty : TypeId) (g o dLen dCap : Nat) (cur : Array Value) (t : TypeId) (s : List UInt8) (m : Nat) (hm : m = Nat.min s.length dLen)
    (hg : w.heap[g]? = some (.cells cur t (0, 0))) (hfit : o + m ≤ cur.size) :
    (Builtin.copy_ #[42, 9] ty #[.slice (some ⟨g, o, none⟩) dLen dCap, S s]).run Tryd.prog w =
      .ok (goInt m) (w.setRow g (cur.toList.take o ++ (s.take m).map B ++ cur.toList.drop (o + m)).toArray) := by
  have hl : ((s.take m).map B).length = m := by
    rw [List.length_map, List.length_take, hm]; exact Nat.min_eq_left (Nat.min_le_left _ _)
  have hst := run_storeCells_at Tryd.prog g o t ((s.take m).map B) 0 cur w hg (by rw [hl]; simpa using hfit) (fun v hv => by
    obtain ⟨b, _, rfl⟩ := List.mem_map.1 hv; rfl)
  rw [hl, Nat.add_zero] at hst
  have hu := Tryd.underlying42
  have hz := Tryd.sizeOf5
  have hlen : (⟨s.toArray⟩ : ByteArray).size = s.length := by simp [ByteArray.size]
  have hext : (((⟨s.toArray⟩ : ByteArray).extract 0 m).data.map fun b => Value.int .u8 (b.toNat : Int)).toList = (s.take m).map B := by
    rw [ByteArray.data_extract]
    simp
    rfl
  simp only [Builtin.copy_, S, Builtin.lenOf, Builtin.firstCells]
  simp only [List.getElem?_toArray, List.getElem?_cons_zero, List.getElem?_cons_succ, run_underlying hu, Sem.run_bind, Result.andThen_ok, Sem.run_pure, hz, hlen, ← hm, hext, hst]

/-- A part of at most three bytes, copied into three noughts that were just made. -/
theorem copy_part (w : World) (p : List UInt8) (hp : p.length ≤ 3) : ∃ x0 x1 x2 W1, n3 p = x0.toNat * 65536 + x1.toNat * 256 + x2.toNat ∧
    (Builtin.copy_ #[42, 9] 3 #[.slice (some ⟨w.heap.size, 0, none⟩) 3 3, S p]).run Tryd.prog (w.alloc (.cells #[.int .u8 0, .int .u8 0, .int .u8 0] 75)) = .ok (goInt p.length) W1 ∧
    Row W1 w.heap.size (bcells [x0, x1, x2]) 75 ∧ Below w.heap.size w W1 := by
  have hg := row_new w #[.int .u8 0, .int .u8 0, .int .u8 0] 75
  have hrun := run_copy_str _ 3 w.heap.size 0 3 3 _ 75 p p.length (Nat.min_eq_left hp).symm hg (by simpa using hp)
  have key : ∃ x0 x1 x2, n3 p = x0.toNat * 65536 + x1.toNat * 256 + x2.toNat ∧
      ((#[.int .u8 0, .int .u8 0, .int .u8 0] : Array Value).toList.take 0 ++ (p.take p.length).map B ++ (#[.int .u8 0, .int .u8 0, .int .u8 0] : Array Value).toList.drop (0 + p.length)).toArray = bcells [x0, x1, x2] := by
    clear hrun hg
    rcases p with _ | ⟨a, _ | ⟨b, _ | ⟨c, _ | ⟨d, r⟩⟩⟩⟩
    · exact ⟨0, 0, 0, by simp [n3], by simp [bcells, B]⟩
    · exact ⟨a, 0, 0, by simp [n3], by simp [bcells, B]⟩
    · exact ⟨a, b, 0, by simp [n3], by simp [bcells, B]⟩
    · exact ⟨a, b, c, by simp [n3], by simp [bcells]⟩
    · simp at hp
  obtain ⟨x0, x1, x2, hn, hc⟩ := key
  rw [hc] at hrun
  exact ⟨x0, x1, x2, _, hn, hrun, setRow_heap _ _ _ _ _ _ hg, ((Below.refl _ _).alloc (Nat.le_refl _) _).setRow (Nat.le_refl _) _⟩
theorem convB (b : UInt8) (w : World) : (convert 5 3 (B b)).run Tryd.prog w = .ok (.int .i64 (b.toNat : Int)) w := by
  have h1 := Tryd.underlying5
  have h2 := Tryd.underlying3
  have := b.toNat_lt
  have e : IntKind.i64.wrap (b.toNat : Int) = (b.toNat : Int) := by rw [IntKind.wrap_i64]; omega
  simp [convert, B, run_underlying h1, run_underlying h2, e, go_sem]
end Go.Proofs.YtnaekjmlikhglaaDoor.bb
/- A slice of numbers of one's own: one appended. -/
namespace Go.Proofs.YtnaekjmlikhglaaDoor.bb
open Go.RowKit

/-- A number as a value. -/
def IC (n : Nat) : Value := .int .i64 (n : Int)
theorem info3 : ∃ i z, Tryd.prog.info? 3 = some i ∧ i.zero = some z ∧ i.size = 1 ∧ i.bytes ≤ 8 ∧ z.cells.size = 1 := by
  have h : (Tryd.prog.info? 3).map (fun i => (i.zero, i.size, i.bytes)) = some (some (.int .i64 0), 1, 8) := by kernel_rfl
  cases hi : Tryd.prog.info? 3 with
  | none => simp [hi] at h
  | some i =>
    simp only [hi, Option.map_some, Option.some.injEq, Prod.mk.injEq] at h
    exact ⟨i, _, rfl, h.1, h.2.1, by omega, rfl⟩
section
variable {ops : Array Oper} {rest : List Oper} {o : Oper} {a : Act} {w : World} {Q : Exit → Act → World → Prop}
/-- One number, laid in a block of its own and appended. -/
theorem wpList_add_int (hgd : o.guard = none) (s x : Operand) (ho : o.op = .call { callee := .builtin .append, args := #[s, x], argTypes := #[61, 61] }) (base : Nat) (W : World)
    (v : Value) (hs : a.eval s = v) (l : List Nat) (hown : Own base v (l.map IC) W) (y : Nat) (cs : Array Value) (hcs : cs = #[IC y]) (hw : w = W.alloc (.cells cs 3)) (hx : a.eval x = .slice (some ⟨W.heap.size, 0, none⟩) 1 1)
    (hlen : l.length < 1000000000000) (hbase : base ≤ W.heap.size)
    (h : ∀ v' w', Own base v' ((l ++ [y]).map IC) w' → W.grownBy w' v.ownBlock → wpList Tryd.prog ops Q rest (a.put o.dst v') w') : wpList Tryd.prog ops Q (o :: rest) a w := by
  subst hw hcs hs
  obtain ⟨i, z, hi, hz, hs, hby, hzs⟩ := info3
  have hy : (W.alloc (.cells #[IC y] 3)).cell? ⟨W.heap.size, 0, none⟩ = some (IC y) := by
    have hr := row_new W #[IC y] 3
    rw [cell_of_row _ _ 0 _ _ _ hr]; rfl
  obtain ⟨v', w', hr, h2, h3, _⟩ := run_push (P := Tryd.prog) _ base 61 o.type 3 i z Tryd.underlying61 hi hz hs hby hzs (a.eval s) (l.map IC) (hown.alloc _) ⟨W.heap.size, 0, none⟩ (IC y) hy rfl (by rw [List.length_map]; exact hlen) (by rw [alloc_size]; omega)
  refine wpList_exec hgd v' w' ?_ (h v' w' (by simpa using h2) ⟨h3.os, h3.tape, h3.output, Nat.le_trans (by simp) h3.size, fun k hk hn => (h3.block k (by rw [alloc_size]; omega) hn).trans (heap_alloc_old W _ hk)⟩)
  simp only [execOp, ho, resolve, invoke, builtin, Sem.run_bind, Sem.run_pure, Result.andThen_ok, List.map_toArray, List.map_cons, List.map_nil, hx, hr]
end
/-- How many a slice of one's own has, and where one of them lies. -/
theorem own_len {w : World} {base : Nat} {v : Value} {xs : List Value} (h : Own base v xs w) (t e T : TypeId) (ht : Tryd.prog.underlying t = some (.slice e)) (w' : World) : (Builtin.len_ #[t] T #[v]).run Tryd.prog w' = .ok (.int .i64 xs.length) w' := by
  rcases h with ⟨rfl, rfl⟩ | ⟨g, cap, rfl, _⟩ <;> simp [Builtin.len_, run_underlying ht, Result.andThen, goInt]
/-- The numbers of a slice of one's own, one by one. -/
theorem own_nums {w : World} {base : Nat} {v : Value} {l : List Nat} (h : Own base v (l.map IC) w) :
    ∃ ad : Nat → Addr, (∀ i, i < l.length → ∀ w', (Instr.indexAt 61 v (.int .i64 (i : Int))).run Tryd.prog w' = .ok (.pointer (some (ad i))) w') ∧
      ∀ i, i < l.length → (ad i).block < w.heap.size ∧ w.cell? (ad i) = some (.int .i64 ((l[i]?.getD 0 : Nat) : Int)) := by
  rcases h with ⟨rfl, hx⟩ | ⟨g, cap, rfl, _, hg, _, _, hc, _⟩
  · obtain rfl : l = [] := List.map_eq_nil_iff.1 hx
    exact ⟨fun _ => ⟨0, 0, none⟩, fun i hi => absurd hi (Nat.not_lt_zero _), fun i hi => absurd hi (Nat.not_lt_zero _)⟩
  · have hu := Tryd.underlying61
    have hz := Tryd.sizeOf3
    refine ⟨fun i => ⟨g, i, none⟩, fun i hi w' => ?_, fun i hi => ⟨hg, ?_⟩⟩
    · rw [List.length_map]
      have h1 : (0 : Int) ≤ (i : Int) ∧ (i : Int) < (l.length : Int) := by omega
      simp [Instr.indexAt, run_underlying hu, asIntOf, hz, h1, go_sem, Addr.add_lit]
      intro hge; omega
    · have := hc i (IC (l[i]?.getD 0)) (by rw [List.getElem?_map, List.getElem?_eq_getElem hi]; rfl)
      rw [Nat.zero_add] at this
      exact this
end Go.Proofs.YtnaekjmlikhglaaDoor.bb
