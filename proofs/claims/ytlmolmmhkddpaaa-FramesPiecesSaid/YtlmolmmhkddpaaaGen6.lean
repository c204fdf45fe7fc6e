/- What a call leaves alone: the blocks that its caller names. Two loads in either order. Over any program. -/
import Derived.Test.YtlmolmmhkddpaaaGen3
import Derived.Test.YtlmolmmhkddpaaaGen5
namespace Go.Proofs.Ytlmolmmhkddpaaa
open Go.RowKit

theorem S_match (x : List UInt8) : (@Value.cells.match_1 (fun _ => Array Value) (S x) (fun cs => cs) (fun v => #[v])) = #[S x] := rfl
theorem S_store (P : Program) (w : World) (a : Addr) (x : List UInt8) (m : Mode) (hc : (w.cell? a).isSome = true) (hf : w.frozen? a = false) : (store a (S x) m).run P w = .ok () (w.setCell a (S x)) :=
  run_store_ok P w a (S x) m rfl hc hf
/-- The blocks of A, but g, are as they were. -/
structure Spare (g : Nat) (A : Nat → Prop) (w w' : World) : Prop where
  os : w'.os = w.os
  tape : w'.tape = w.tape
  output : w'.output = w.output
  size : w.heap.size ≤ w'.heap.size
  block : ∀ k, A k → k ≠ g → w'.heap[k]? = w.heap[k]?
section
variable {g h n f : Nat} {A : Nat → Prop} {w w' w'' : World}
theorem Spare.refl (g : Nat) (A : Nat → Prop) (w : World) : Spare g A w w := ⟨rfl, rfl, rfl, Nat.le_refl _, fun _ _ _ => rfl⟩
theorem Spare.trans (h : Spare g A w w') (k : Spare g A w' w'') : Spare g A w w'' :=
  ⟨k.os.trans h.os, k.tape.trans h.tape, k.output.trans h.output, Nat.le_trans h.size k.size, fun i hi hn => (k.block i hi hn).trans (h.block i hi hn)⟩
theorem Spare.of_drawn (h : Drawn w w') : Spare g A w w' := by
  obtain ⟨n, rfl⟩ := h; exact ⟨rfl, rfl, rfl, Nat.le_refl _, fun _ _ _ => rfl⟩
theorem Spare.of_keeps (h : Keeps g w w') (old : ∀ k, A k → k < w.heap.size) : Spare g A w w' :=
  ⟨h.os, h.tape, h.output, h.size, fun k hk hn => h.block k (old k hk) hn⟩
theorem Spare.of_below (h : Below w.heap.size w w') (old : ∀ k, A k → k < w.heap.size) : Spare g A w w' :=
  ⟨h.os, h.tape, h.output, h.size, fun k hk _ => h.block k (old k hk)⟩
/-- What grew in a row of its own. -/
theorem Spare.of_grown {row : Option Nat} (h : w.grownBy w' row) (old : ∀ k, A k → k < w.heap.size) (hr : ∀ k, row = some k → ¬ A k) : Spare g A w w' :=
  ⟨h.os, h.tape, h.output, h.size, fun k hk _ => h.block k (old k hk) (fun e => hr k e.symm hk)⟩
theorem Keeps.of_drawn (h : Drawn w w') : Keeps g w w' := by obtain ⟨n, rfl⟩ := h; exact ⟨rfl, rfl, rfl, Nat.le_refl _, fun _ _ _ => rfl⟩
/-- The blocks below n. -/
def Under (n : Nat) : Nat → Prop := fun k => k < n
/-- What is below n, and f. -/
def With (n f : Nat) : Nat → Prop := fun k => k < n ∨ k = f
theorem Spare.below (h : Spare g (Under n) w w') (hg : n ≤ g) : Below n w w' :=
  ⟨h.os, h.tape, h.output, h.size, fun k hk => h.block k hk (by omega)⟩
theorem Spare.belowW (h : Spare g (With n f) w w') (hg : n ≤ g) : Below n w w' :=
  ⟨h.os, h.tape, h.output, h.size, fun k hk => h.block k (.inl hk) (by omega)⟩
theorem Row.spare {b : Nat} {cs : Array Value} {t : TypeId} (h : Row w b cs t) (hs : Spare g A w w') (hA : A b) (hn : b ≠ g) : Row w' b cs t := by
  unfold Row; rw [hs.block b hA hn]; exact h
theorem grown_cell (w : World) (g o : Nat) (v : Value) : w.grownBy (w.setCell ⟨g, o, none⟩ v) (some g) :=
  ⟨rfl, rfl, rfl, by simp [World.setCell], fun k _ hk => Below.heap_setCell _ _ _ _ (fun e => hk (by rw [e]))⟩
theorem not_some {o : Option Nat} {g : Nat} (h : ∀ k, o = some k → k ≠ g) : ∀ k, o = some k → some k ≠ some g := fun k hk e => h k hk (Option.some.inj e)
end

section
variable {P : Program} {md : Region.Mode} {ops : Array Oper} {Q : Exit → Act → World → Prop} {S : World → Prop} {fuel : Nat} {listed : Array Bool} {a : Act} {w : World} {i j : Nat} {di dj : Option Tmp} {vi vj : Value}
/-- Two that may come up next hand back their values: whichever comes first. -/
theorem ready_two (hdi : (ops[i]?).map (·.dst) = some di) (hdj : (ops[j]?).map (·.dst) = some dj) (hr : Region.ready md ops listed = [i, j])
    (hri : Region.ready md ops (listed.setIfInBounds i true) = [j]) (hrj : Region.ready md ops (listed.setIfInBounds j true) = [i]) (hij : i ≠ j) (hd : ∀ d, di = some d → dj ≠ some d)
    (hxi : ∀ oi, ops[i]? = some oi → ∀ a', (a' = a ∨ a' = a.put dj vj) → Region.wanted oi (yielded ops a'.tmps) = true ∧ (execOp a'.eval oi).run P w = .ok (.value vi) w)
    (hxj : ∀ oj, ops[j]? = some oj → ∀ a', (a' = a ∨ a' = a.put di vi) → Region.wanted oj (yielded ops a'.tmps) = true ∧ (execOp a'.eval oj).run P w = .ok (.value vj) w) (hS : S w)
    (h : wpAnyH P md ops Q S fuel ((listed.setIfInBounds i true).setIfInBounds j true) ((a.put di vi).put dj vj) w) : wpAnyH P md ops Q S (fuel + 2) listed a w := by
  have h1 : wpAnyH P md ops Q S (fuel + 1) (listed.setIfInBounds i true) (a.put di vi) w :=
    ready_value hdj hri (fun oj hj => hxj oj hj _ (.inr rfl)) hS h
  have h2 : wpAnyH P md ops Q S (fuel + 1) (listed.setIfInBounds j true) (a.put dj vj) w := by
    refine ready_value hdi hrj (fun oi hi => hxi oi hi _ (.inr rfl)) hS ?_
    rw [Array.setIfInBounds_comm _ _ (Ne.symm hij)]
    rw [← Act.put_comm a vi vj hd]
    exact h
  cases hi : ops[i]? with
  | none => simp [hi] at hdi
  | some oi =>
    cases hj : ops[j]? with
    | none => simp [hj] at hdj
    | some oj =>
      have e1 : oi.dst = di := by simpa [hi] using hdi
      have e2 : oj.dst = dj := by simpa [hj] using hdj
      subst e1 e2
      refine wpAnyH_ready hr (by simp) (AllReadyH.cons hi (fun K hK => ?_) (AllReadyH.cons hj (fun K hK => ?_) AllReadyH.nil))
      · obtain ⟨hw, hx⟩ := hxi oi hi a (.inl rfl)
        rw [if_pos hw]
        unfold Oper.wp
        rw [hx]
        exact hK.out _ _ hS (fun _ => h1)
      · obtain ⟨hw, hx⟩ := hxj oj hj a (.inl rfl)
        rw [if_pos hw]
        unfold Oper.wp
        rw [hx]
        exact hK.out _ _ hS (fun _ => h2)
/-- A call and a value that may come up next: each may be the first. -/
theorem ready_call_or_value {f : FuncId} {args : Array Value} (hdi : (ops[i]?).map (·.dst) = some di) (hdj : (ops[j]?).map (·.dst) = some dj) (hr : Region.ready md ops listed = [i, j])
    (hxi : ∀ oi, ops[i]? = some oi → Region.wanted oi (yielded ops a.tmps) = true ∧ (execOp a.eval oi).run P w = .ok (.enter f args) w)
    (hxj : ∀ oj, ops[j]? = some oj → Region.wanted oj (yielded ops a.tmps) = true ∧ (execOp a.eval oj).run P w = .ok (.value vj) w) (hS : S w)
    (hc : Calls P f args w fun e w' => ∃ v, e = .returned v ∧ S w' ∧ wpAnyH P md ops Q S fuel (listed.setIfInBounds i true) (a.put di v) w')
    (hv : wpAnyH P md ops Q S fuel (listed.setIfInBounds j true) (a.put dj vj) w) : wpAnyH P md ops Q S (fuel + 1) listed a w := by
  cases hi : ops[i]? with
  | none => simp [hi] at hdi
  | some oi =>
    cases hj : ops[j]? with
    | none => simp [hj] at hdj
    | some oj =>
      have e1 : oi.dst = di := by simpa [hi] using hdi
      have e2 : oj.dst = dj := by simpa [hj] using hdj
      subst e1 e2
      refine wpAnyH_ready hr (by simp) (AllReadyH.cons hi (fun K hK => ?_) (AllReadyH.cons hj (fun K hK => ?_) AllReadyH.nil))
      · obtain ⟨hw, hx⟩ := hxi oi hi
        rw [if_pos hw]
        unfold Oper.wp
        rw [hx]
        refine hc.mono ?_
        rintro e w' ⟨v, rfl, hS', h⟩
        exact hK.out _ _ hS' (fun _ => h)
      · obtain ⟨hw, hx⟩ := hxj oj hj
        rw [if_pos hw]
        unfold Oper.wp
        rw [hx]
        exact hK.out _ _ hS (fun _ => hv)
/-- A load, and what makes a block, that may come up next, whichever comes first. -/
theorem ready_load_make {w1 : World} (hdi : (ops[i]?).map (·.dst) = some di) (hdj : (ops[j]?).map (·.dst) = some dj) (hr : Region.ready md ops listed = [i, j])
    (hri : Region.ready md ops (listed.setIfInBounds i true) = [j]) (hrj : Region.ready md ops (listed.setIfInBounds j true) = [i]) (hij : i ≠ j) (hd : ∀ d, di = some d → dj ≠ some d)
    (hxi : ∀ oi, ops[i]? = some oi → (Region.wanted oi (yielded ops a.tmps) = true ∧ (execOp a.eval oi).run P w = .ok (.value vi) w) ∧ (Region.wanted oi (yielded ops (a.put dj vj).tmps) = true ∧ (execOp (a.put dj vj).eval oi).run P w1 = .ok (.value vi) w1))
    (hxj : ∀ oj, ops[j]? = some oj → ∀ a', (a' = a ∨ a' = a.put di vi) → Region.wanted oj (yielded ops a'.tmps) = true ∧ (execOp a'.eval oj).run P w = .ok (.value vj) w1) (hS : S w) (hS1 : S w1)
    (h : wpAnyH P md ops Q S fuel ((listed.setIfInBounds i true).setIfInBounds j true) ((a.put di vi).put dj vj) w1) : wpAnyH P md ops Q S (fuel + 2) listed a w := by
  have h1 : wpAnyH P md ops Q S (fuel + 1) (listed.setIfInBounds i true) (a.put di vi) w :=
    ready_value hdj hri (fun oj hj => hxj oj hj _ (.inr rfl)) hS1 h
  have h2 : wpAnyH P md ops Q S (fuel + 1) (listed.setIfInBounds j true) (a.put dj vj) w1 := by
    refine ready_value hdi hrj (fun oi hi => (hxi oi hi).2) hS1 ?_
    rw [Array.setIfInBounds_comm _ _ (Ne.symm hij)]
    rw [← Act.put_comm a vi vj hd]
    exact h
  cases hi : ops[i]? with
  | none => simp [hi] at hdi
  | some oi =>
    cases hj : ops[j]? with
    | none => simp [hj] at hdj
    | some oj =>
      have e1 : oi.dst = di := by simpa [hi] using hdi
      have e2 : oj.dst = dj := by simpa [hj] using hdj
      subst e1 e2
      refine wpAnyH_ready hr (by simp) (AllReadyH.cons hi (fun K hK => ?_) (AllReadyH.cons hj (fun K hK => ?_) AllReadyH.nil))
      · obtain ⟨hw, hx⟩ := (hxi oi hi).1
        rw [if_pos hw]
        unfold Oper.wp
        rw [hx]
        exact hK.out _ _ hS (fun _ => h1)
      · obtain ⟨hw, hx⟩ := hxj oj hj a (.inl rfl)
        rw [if_pos hw]
        unfold Oper.wp
        rw [hx]
        exact hK.out _ _ hS1 (fun _ => h2)
end
/-- A builtin append, as an operation. -/
theorem exec_append {P : Program} {a : Act} {o : Oper} (t1 t2 : TypeId) (x y : Operand) (X Y : Value) {w : World} (ho : o.op = .call { callee := .builtin .append, args := #[x, y], argTypes := #[t1, t2] }) (hx : a.eval x = X) (hy : a.eval y = Y) {v' : Value} {w' : World}
    (hr : (Builtin.append_ #[t1, t2] o.type #[X, Y]).run P w = .ok v' w') : (execOp a.eval o).run P w = .ok (.value v') w' := by
  simp only [execOp, ho, resolve, invoke, builtin, Sem.run_bind, Sem.run_pure, Result.andThen_ok, List.map_toArray, List.map_cons, List.map_nil, hx, hy, hr]
/-- An append in a walk, by its run. -/
theorem wpList_append_by {P : Program} {ops : Array Oper} {rest : List Oper} {o : Oper} {a : Act} {w : World} {Q : Exit → Act → World → Prop} (hgd : o.guard = none) (t1 t2 : TypeId) (x y : Operand) (ho : o.op = .call { callee := .builtin .append, args := #[x, y], argTypes := #[t1, t2] })
    (X Y : Value) (hx : a.eval x = X) (hy : a.eval y = Y) (v' : Value) (w' : World) (hr : (Builtin.append_ #[t1, t2] o.type #[X, Y]).run P w = .ok v' w') (h : wpList P ops Q rest (a.put o.dst v') w') : wpList P ops Q (o :: rest) a w :=
  wpList_exec hgd v' w' (exec_append t1 t2 x y X Y ho hx hy hr) h
/-- A slice's value in a cell. -/
theorem slice_one (a : Option Addr) (n c : Nat) : (Value.slice a n c).oneCell' = true := rfl
end Go.Proofs.Ytlmolmmhkddpaaa
