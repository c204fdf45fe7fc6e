/- A slice of numbers of one's own: one appended. -/
import Derived.Test.YtclnefackjonpaaBase3
namespace Go.Proofs.Ytclnefackjonpaa
open Go.RowKit

/-- A number as a value. -/
def IC (n : Nat) : Value := .int .i64 (n : Int)
theorem info3 : ∃ i z, Try.prog.info? 3 = some i ∧ i.zero = some z ∧ i.size = 1 ∧ i.bytes ≤ 8 ∧ z.cells.size = 1 := by
  have h : (Try.prog.info? 3).map (fun i => (i.zero, i.size, i.bytes)) = some (some (.int .i64 0), 1, 8) := by kernel_rfl
  cases hi : Try.prog.info? 3 with
  | none => simp [hi] at h
  | some i =>
    simp only [hi, Option.map_some, Option.some.injEq, Prod.mk.injEq] at h
    exact ⟨i, _, rfl, h.1, h.2.1, by omega, rfl⟩
section
variable {ops : Array Oper} {rest : List Oper} {o : Oper} {a : Act} {w : World} {Q : Exit → Act → World → Prop}
/-- One number, laid in a block of its own and appended. -/
theorem wpList_add_int (hgd : o.guard = none) (s x : Operand) (ho : o.op = .call { callee := .builtin .append, args := #[s, x], argTypes := #[34, 34] }) (base : Nat) (W : World)
    (v : Value) (hs : a.eval s = v) (l : List Nat) (hown : Own base v (l.map IC) W) (y : Nat) (cs : Array Value) (hcs : cs = #[IC y]) (hw : w = W.alloc (.cells cs 3)) (hx : a.eval x = .slice (some ⟨W.heap.size, 0, none⟩) 1 1)
    (hlen : l.length < 1000000000000) (hbase : base ≤ W.heap.size)
    (h : ∀ v' w', Own base v' ((l ++ [y]).map IC) w' → W.grownBy w' v.ownBlock → wpList Try.prog ops Q rest (a.put o.dst v') w') : wpList Try.prog ops Q (o :: rest) a w := by
  subst hw hcs hs
  obtain ⟨i, z, hi, hz, hs, hby, hzs⟩ := info3
  have hy : (W.alloc (.cells #[IC y] 3)).cell? ⟨W.heap.size, 0, none⟩ = some (IC y) := by
    have hr := row_new W #[IC y] 3
    rw [cell_of_row _ _ 0 _ _ _ hr]; rfl
  obtain ⟨v', w', hr, h2, h3, _⟩ := run_push (P := Try.prog) _ base 34 o.type 3 i z Try.underlying34 hi hz hs hby hzs (a.eval s) (l.map IC) (hown.alloc _) ⟨W.heap.size, 0, none⟩ (IC y) hy rfl (by rw [List.length_map]; exact hlen) (by rw [alloc_size]; omega)
  refine wpList_exec hgd v' w' ?_ (h v' w' (by simpa using h2) ⟨h3.os, h3.tape, h3.output, Nat.le_trans (by simp) h3.size, fun k hk hn => (h3.block k (by rw [alloc_size]; omega) hn).trans (heap_alloc_old W _ hk)⟩)
  simp only [execOp, ho, resolve, invoke, builtin, Sem.run_bind, Sem.run_pure, Result.andThen_ok, List.map_toArray, List.map_cons, List.map_nil, hx, hr]
end
/-- How many a slice of one's own has, and where one of them lies. -/
theorem own_len {w : World} {base : Nat} {v : Value} {xs : List Value} (h : Own base v xs w) (t e T : TypeId) (ht : Try.prog.underlying t = some (.slice e)) (w' : World) : (Builtin.len_ #[t] T #[v]).run Try.prog w' = .ok (.int .i64 xs.length) w' := by
  rcases h with ⟨rfl, rfl⟩ | ⟨g, cap, rfl, _⟩ <;> simp [Builtin.len_, run_underlying ht, Result.andThen, goInt]
/-- The numbers of a slice of one's own, one by one. -/
theorem own_nums {w : World} {base : Nat} {v : Value} {l : List Nat} (h : Own base v (l.map IC) w) :
    ∃ ad : Nat → Addr, (∀ i, i < l.length → ∀ w', (Instr.indexAt 34 v (.int .i64 (i : Int))).run Try.prog w' = .ok (.pointer (some (ad i))) w') ∧
      ∀ i, i < l.length → (ad i).block < w.heap.size ∧ w.cell? (ad i) = some (.int .i64 ((l[i]?.getD 0 : Nat) : Int)) := by
  rcases h with ⟨rfl, hx⟩ | ⟨g, cap, rfl, _, hg, _, _, hc, _⟩
  · obtain rfl : l = [] := List.map_eq_nil_iff.1 hx
    exact ⟨fun _ => ⟨0, 0, none⟩, fun i hi => absurd hi (Nat.not_lt_zero _), fun i hi => absurd hi (Nat.not_lt_zero _)⟩
  · have hu := Try.underlying34
    have hz := Try.sizeOf3
    refine ⟨fun i => ⟨g, i, none⟩, fun i hi w' => ?_, fun i hi => ⟨hg, ?_⟩⟩
    · rw [List.length_map]
      have h1 : (0 : Int) ≤ (i : Int) ∧ (i : Int) < (l.length : Int) := by omega
      simp [Instr.indexAt, run_underlying hu, asIntOf, hz, h1, go_sem, Addr.add_lit]
      intro hge; omega
    · have := hc i (IC (l[i]?.getD 0)) (by rw [List.getElem?_map, List.getElem?_eq_getElem hi]; rfl)
      rw [Nat.zero_add] at this
      exact this
end Go.Proofs.Ytclnefackjonpaa
