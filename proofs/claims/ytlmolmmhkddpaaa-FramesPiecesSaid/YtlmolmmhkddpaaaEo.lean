/- Bytes in a slice of one's own, appended many at a time. -/
import Derived.Test.YtlmolmmhkddpaaaGen9
import Derived.Test.YtlmolmmhkddpaaaProg
import Derived.Laws.AppendOwn
namespace Go.Proofs.Ytlmolmmhkddpaaa
open Go.RowKit

/-- Bytes in a slice of one's own. -/
def OwB (base : Nat) (V : Value) (l : List UInt8) (w : World) : Prop := World.ownsRow w base 5 1 V l.length (l.map B)
theorem infoB : ∃ i, Try.prog.info? 5 = some i ∧ i.zero = some (.int .u8 0) ∧ i.size = 1 ∧ i.bytes = 1 := by
  have := (by kernel_rfl : (Try.prog.info? 5).map (fun i => (i.zero, i.size, i.bytes)) = some (some (.int .u8 0), 1, 1))
  cases hi : Try.prog.info? 5 with
  | none => rw [hi] at this; cases this
  | some i =>
    simp only [hi, Option.map_some, Option.some.injEq, Prod.mk.injEq] at this
    exact ⟨i, rfl, this.1, this.2.1, this.2.2⟩
theorem OwB.lt {base : Nat} {V : Value} {l : List UInt8} {w : World} (h : OwB base V l w) : ∀ k, V.ownBlock = some k → base ≤ k ∧ k < w.heap.size := World.ownsRow.lt h
theorem OwB.same {base : Nat} {V : Value} {l : List UInt8} {w w' : World} (h : OwB base V l w) (hb : ∀ j, V.ownBlock = some j → w'.heap[j]? = w.heap[j]?) : OwB base V l w' := by
  refine ⟨h.1, ?_⟩
  rcases h.2 with h2 | ⟨g, cap, cur, rfl, h3, h4, h5⟩
  · exact .inl h2
  · exact .inr ⟨g, cap, cur, rfl, h3, (hb g rfl).trans h4, h5⟩
theorem OwB.below {base : Nat} {V : Value} {l : List UInt8} {w w' : World} (h : OwB base V l w) (hb : Below w.heap.size w w') : OwB base V l w' := h.same fun j hj => hb.block j (h.lt j hj).2
theorem owb_nil (base : Nat) (w : World) : OwB base (.slice none 0 0) [] w := ⟨rfl, .inl ⟨rfl, rfl⟩⟩
theorem owb_new {W : World} {cs : Array Value} {ys : List UInt8} {k : Nat} (hcs : cs = (ys.map B).toArray) (hk : k = ys.length) (hl : ys.length ≤ 1000000) (base : Nat) (hb : base ≤ W.heap.size) : OwB base (.slice (some ⟨W.heap.size, 0, none⟩) k k) ys (W.alloc (.cells cs 5)) := by
  subst hcs hk
  refine ⟨by rw [List.length_map, Nat.mul_one], .inr ⟨W.heap.size, ys.length, (ys.map B).toArray, rfl, hb, row_new W _ _, Nat.le_refl _, by simp only [maxLen]; omega, by simp, ?_⟩⟩
  rw [Nat.mul_one, List.toList_toArray, List.take_of_length_le (by rw [List.length_map]; exact Nat.le_refl _)]
theorem bytes_one (ys : List UInt8) : ∀ u ∈ ys.map B, u.oneCell' = true := fun u hu => by obtain ⟨y, _, rfl⟩ := List.mem_map.1 hu; rfl
theorem cells_new {W : World} {cs : Array Value} {ys : List UInt8} (hcs : cs = (ys.map B).toArray) : ∀ j u, (ys.map B)[j]? = some u → (W.alloc (.cells cs 5)).cell? ((⟨W.heap.size, 0, none⟩ : Addr).add j) = some u := fun j u hu => by
  rw [Addr.add_mid, Nat.zero_add, cell_of_row _ _ j _ _ (0, 0) (row_new W cs 5), hcs, List.getElem?_toArray]
  exact hu
/-- An append of bytes that lie in a new block, as a run. -/
theorem run_addB {W : World} {base : Nat} {V : Value} {l ys : List UInt8} (h : OwB base V l W) (hy : l.length + ys.length ≤ 1000000) (hb : base ≤ W.heap.size) (cs : Array Value) (hcs : cs = (ys.map B).toArray) (k : Nat) (hk : k = ys.length) (ty : TypeId) :
    ∃ V' w', (Builtin.append_ #[38, 38] ty #[V, .slice (some ⟨W.heap.size, 0, none⟩) k k]).run Try.prog (W.alloc (.cells cs 5)) = .ok V' w' ∧ OwB base V' (l ++ ys) w' ∧ W.grownBy w' V.ownBlock := by
  subst hk
  obtain ⟨i, hi, hz, hsz, hby⟩ := infoB
  obtain ⟨V', w', h1, h2, h3, -⟩ := run_append_own (P := Try.prog) (w := W.alloc (.cells cs 5)) base 38 ty 5 i _ 1 1 Try.underlying38 hi hz hsz hby rfl (by decide) V l.length (l.map B) (h.below ((Below.refl _ _).alloc (Nat.le_refl _) _)) ⟨W.heap.size, 0, none⟩ ys.length ys.length (ys.map B) (by rw [List.length_map, Nat.mul_one]) (cells_new hcs) (bytes_one ys) (by simp only [maxLen]; omega) (by omega) (by rw [alloc_size]; omega)
  refine ⟨V', w', h1, ?_, ⟨h3.os, h3.tape, h3.output, Nat.le_trans (by simp) h3.size, fun k hk hn => (h3.block k (by rw [alloc_size]; omega) hn).trans (heap_alloc_old W _ hk)⟩⟩
  unfold OwB
  rw [List.length_append, List.map_append]
  exact h2
section
variable {ops : Array Oper} {rest : List Oper} {o : Oper} {a : Act} {w : World} {Q : Exit → Act → World → Prop}
theorem wpList_addB (hgd : o.guard = none) (s x : Operand) (ho : o.op = .call { callee := .builtin .append, args := #[s, x], argTypes := #[38, 38] }) (base : Nat) (W : World) (V : Value) (hs : a.eval s = V) (l ys : List UInt8) (h : OwB base V l W) (cs : Array Value) (hcs : cs = (ys.map B).toArray)
    (hw : w = W.alloc (.cells cs 5)) (k : Nat) (hk : k = ys.length) (H : Nat) (hH : W.heap.size = H) (hx : a.eval x = .slice (some ⟨H, 0, none⟩) k k) (hy : l.length + ys.length ≤ 1000000) (hb : base ≤ W.heap.size)
    (hgo : ∀ V' w', OwB base V' (l ++ ys) w' → W.grownBy w' V.ownBlock → wpList Try.prog ops Q rest (a.put o.dst V') w') : wpList Try.prog ops Q (o :: rest) a w := by
  subst hw hs hH
  obtain ⟨V', w', h1, h2, h3⟩ := run_addB h hy hb cs hcs k hk o.type
  refine wpList_exec hgd V' w' ?_ (hgo V' w' h2 h3)
  simp only [execOp, ho, resolve, invoke, builtin, Sem.run_bind, Sem.run_pure, Result.andThen_ok, List.map_toArray, List.map_cons, List.map_nil, hx, h1]
end
/-- As a text. -/
theorem owb_text {base : Nat} {V : Value} {l : List UInt8} {w : World} (h : OwB base V l w) : (convert 38 9 V).run Try.prog w = .ok (S l) w := by
  rcases h.2 with ⟨rfl, h0⟩ | ⟨g, cap, cur, rfl, hb, hg, hn, hm, hs, ht⟩
  · obtain rfl : l = [] := List.length_eq_zero_iff.1 h0
    exact run_convert_bytes_nil (w := w) 38 5 Try.underlying38 Try.underlying5 0 0 9 Try.underlying9
  · refine run_convert_bytes_back w 38 9 5 ⟨g, 0, none⟩ cap l Try.underlying38 Try.underlying5 Try.underlying9 fun j hj => ?_
    rw [Addr.add_mid, Nat.zero_add, cell_of_row w g j cur 5 (0, 0) hg]
    have := congrArg (fun x => x[j]?) ht
    simp only [Nat.mul_one, List.getElem?_take, List.getElem?_map] at this
    rw [if_pos hj, List.getElem?_eq_getElem hj] at this
    simpa [B] using this
end Go.Proofs.Ytlmolmmhkddpaaa
