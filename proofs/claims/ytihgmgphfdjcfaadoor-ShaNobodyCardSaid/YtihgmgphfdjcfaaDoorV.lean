/- Laws for the statements' own walks: sums held against each other, texts cut, a slice that came in. -/
import Derived.Test.YtihgmgphfdjcfaaDoorW8
import Derived.Stop.BytesEq
namespace Go.Proofs.YtihgmgphfdjcfaaDoor
open Go.RowKit

theorem eq_sums (t u : List UInt8) (w : World) : (Op.equalIn 10000 22 (.agg (bcells (shaL t))) (.agg (bcells (shaL u)))).run Tryd.prog w = .ok (shaL t == shaL u) w :=
  run_equalIn_bytes w 9998 22 5 20 Tryd.underlying22 Tryd.underlying5 Tryd.sizeOf5 (shaL t) (shaL u) (shaL_length t) (shaL_length u)
theorem eq_sum (t : List UInt8) (w : World) : (Op.equalIn 10000 22 (.agg (bcells (shaL t))) (.agg (bcells (shaL t)))).run Tryd.prog w = .ok true w := by
  rw [eq_sums, beq_self_eq_true]
theorem guard22 : Tryd.prog.eqGuardType Tryd.prog.depth 22 = false := by kernel_rfl

section
variable {ops : Array Oper} {rest : List Oper} {o : Oper} {a : Act} {w : World} {Q : Exit → Act → World → Prop}
theorem run_take_S (r : List UInt8) (m : Nat) (hm : m ≤ r.length) (w : World) : (Instr.sliceAt 9 (S r) none (some (.int .i64 m)) none).run Tryd.prog w = .ok (S (r.take m)) w := by
  have hu := Tryd.underlying9
  rw [run_sliceAt_string w 9 _ _ _ _ hu]
  have e : (⟨r.toArray⟩ : ByteArray).extract 0 m = ⟨(r.take m).toArray⟩ := by
    apply ByteArray.ext
    rw [ByteArray.data_extract]; simp
  simp [Instr.slice, S, run_underlying hu, Instr.sliceBounds, run_sliceBound, S_size, Result.andThen, hm, e]
theorem wpList_take_str (hgd : o.guard = none) (x y : Operand) (ho : o.op = .slice 9 x none (some y) none) (r : List UInt8) (hx : a.eval x = S r) (k : Int) (m : Nat) (hy : a.eval y = .int .i64 k) (hk : k = (m : Int)) (hm : m ≤ r.length)
    (h : wpList Tryd.prog ops Q rest (a.put o.dst (S (r.take m))) w) : wpList Tryd.prog ops Q (o :: rest) a w := by
  refine wpList_exec hgd _ w ?_ h
  subst hk
  simp [execOp, ho, hx, hy, run_take_S r m hm, Result.andThen]
theorem wpList_drop_str' (hgd : o.guard = none) (x y : Operand) (ho : o.op = .slice 9 x (some y) none none) (r : List UInt8) (hx : a.eval x = S r) (k : Int) (m : Nat) (hy : a.eval y = .int .i64 k) (hk : k = (m : Int)) (hm : m ≤ r.length)
    (h : wpList Tryd.prog ops Q rest (a.put o.dst (S (r.drop m))) w) : wpList Tryd.prog ops Q (o :: rest) a w := by
  subst hk
  exact wpList_drop_str hgd x y ho r hx m hy hm h
theorem wpList_len_slice (hgd : o.guard = none) (x : Operand) (t : TypeId) (ho : o.op = .call { callee := .builtin .len, args := #[x], argTypes := #[t] }) (V : Value) (hx : a.eval x = V) (n : Int)
    (hV : ∀ w', (Builtin.len_ #[t] o.type #[V]).run Tryd.prog w' = .ok (.int .i64 n) w')
    (h : wpList Tryd.prog ops Q rest (a.put o.dst (.int .i64 n)) w) : wpList Tryd.prog ops Q (o :: rest) a w := by
  refine wpList_exec hgd _ w ?_ h
  simp [execOp, ho, resolve, invoke, builtin, hx, hV, Result.andThen]
theorem wpList_index_slice (hgd : o.guard = none) (t : TypeId) (x y : Operand) (ho : o.op = .indexAddr t x y) (V I : Value) (hx : a.eval x = V) (hy : a.eval y = I) (ad : Addr)
    (hV : ∀ w', (Instr.indexAt t V I).run Tryd.prog w' = .ok (.pointer (some ad)) w')
    (h : wpList Tryd.prog ops Q rest (a.put o.dst (.pointer (some ad))) w) : wpList Tryd.prog ops Q (o :: rest) a w := by
  refine wpList_exec hgd _ w ?_ h
  simp [execOp, ho, hx, hy, hV, Result.andThen]
end
/-- A slice of n numbers that came in: number i lies at 'ad i' and is 'z i'. -/
structure Came (w : World) (t : TypeId) (V : Value) (n : Nat) (ad : Nat → Addr) (enc : Nat → Value) : Prop where
  len : ∀ T w', (Builtin.len_ #[t] T #[V]).run Tryd.prog w' = .ok (.int .i64 (n : Int)) w'
  index : ∀ i, i < n → ∀ w', (Instr.indexAt t V (.int .i64 (i : Int))).run Tryd.prog w' = .ok (.pointer (some (ad i))) w'
  cell : ∀ i, i < n → w.cell? (ad i) = some (enc i)
theorem Came.below {w w' : World} {t : TypeId} {V : Value} {n : Nat} {ad : Nat → Addr} {enc : Nat → Value} (h : Came w t V n ad enc) (hb : Below w.heap.size w w') : Came w' t V n ad enc :=
  ⟨h.len, h.index, fun i hi => by rw [hb.cell (World.block_lt_of_cell? w _ (h.cell i hi))]; exact h.cell i hi⟩
end Go.Proofs.YtihgmgphfdjcfaaDoor
