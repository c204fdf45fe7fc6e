/- Steps of a region that draws its order, one by one: an operation named by its number and by the slot that it writes. -/
import Derived.Test.YtihgmgphfdjcfaaDoorStr
import Derived.Deep.RegionHeld3
namespace Go.Proofs.YtihgmgphfdjcfaaDoor
open Go.RowKit
section
variable {P : Program} {md : Region.Mode} {ops : Array Oper} {Q : Exit → Act → World → Prop} {S : World → Prop} {fuel : Nat} {listed : Array Bool} {a : Act} {w : World} {i : Nat} {d : Option Tmp} {v : Value}

/-- What yields one value wherever S holds is taken first. -/
theorem take_at (hd : (ops[i]?).map (·.dst) = some d) (hs : Region.noSelect ops = true) (hf : Region.free md ops listed i = true) (hr : (Region.ready md ops listed).contains i = true)
    (hQ : ∀ c a w, Q (.panic c) (a.put d v) w → Q (.panic c) a w) (hy : ∀ oi, ops[i]? = some oi → YieldsIf P ops S oi v a) (hS : S w)
    (h : wpAnyH P md ops Q S fuel (listed.setIfInBounds i true) (a.put d v) w) : wpAnyH P md ops Q S (fuel + 1) listed a w := by
  cases hi : ops[i]? with
  | none => simp [hi] at hd
  | some oi =>
    have e : oi.dst = d := by simpa [hi] using hd
    subst e
    exact wpAnyH_take hi hs hf hr hQ (hy oi hi) hS h

/-- The one that may come up next hands back a value. -/
theorem ready_value {w' : World} (hd : (ops[i]?).map (·.dst) = some d) (hr : Region.ready md ops listed = [i])
    (hx : ∀ oi, ops[i]? = some oi → Region.wanted oi (yielded ops a.tmps) = true ∧ (execOp a.eval oi).run P w = .ok (.value v) w') (hS : S w')
    (h : wpAnyH P md ops Q S fuel (listed.setIfInBounds i true) (a.put d v) w') : wpAnyH P md ops Q S (fuel + 1) listed a w := by
  cases hi : ops[i]? with
  | none => simp [hi] at hd
  | some oi =>
    have e : oi.dst = d := by simpa [hi] using hd
    subst e
    refine wpAnyH_ready hr (by simp) (AllReadyH.cons hi (fun K hK => ?_) AllReadyH.nil)
    obtain ⟨hw, hx⟩ := hx oi hi
    rw [if_pos hw]
    unfold Oper.wp
    rw [hx]
    exact hK.out _ _ hS (fun _ => h)

/-- The one that may come up next stores something. -/
theorem ready_skip {w' : World} (hd : (ops[i]?).map (·.dst) = some d) (hr : Region.ready md ops listed = [i])
    (hx : ∀ oi, ops[i]? = some oi → Region.wanted oi (yielded ops a.tmps) = true ∧ (execOp a.eval oi).run P w = .ok .skip w') (hS : S w')
    (h : wpAnyH P md ops Q S fuel (listed.setIfInBounds i true) (a.put d undef) w') : wpAnyH P md ops Q S (fuel + 1) listed a w := by
  cases hi : ops[i]? with
  | none => simp [hi] at hd
  | some oi =>
    have e : oi.dst = d := by simpa [hi] using hd
    subst e
    refine wpAnyH_ready hr (by simp) (AllReadyH.cons hi (fun K hK => ?_) AllReadyH.nil)
    obtain ⟨hw, hx⟩ := hx oi hi
    rw [if_pos hw]
    unfold Oper.wp
    rw [hx]
    exact hK.out _ _ hS (fun _ => h)

/-- The one that may come up next calls a function. -/
theorem ready_call {f : FuncId} {args : Array Value} (hd : (ops[i]?).map (·.dst) = some d) (hr : Region.ready md ops listed = [i])
    (hx : ∀ oi, ops[i]? = some oi → Region.wanted oi (yielded ops a.tmps) = true ∧ (execOp a.eval oi).run P w = .ok (.enter f args) w)
    (hc : Calls P f args w fun e w' => ∃ v, e = .returned v ∧ S w' ∧ wpAnyH P md ops Q S fuel (listed.setIfInBounds i true) (a.put d v) w') : wpAnyH P md ops Q S (fuel + 1) listed a w := by
  cases hi : ops[i]? with
  | none => simp [hi] at hd
  | some oi =>
    have e : oi.dst = d := by simpa [hi] using hd
    subst e
    refine wpAnyH_ready hr (by simp) (AllReadyH.cons hi (fun K hK => ?_) AllReadyH.nil)
    obtain ⟨hw, hx⟩ := hx oi hi
    rw [if_pos hw]
    unfold Oper.wp
    rw [hx]
    refine hc.mono ?_
    rintro e w' ⟨v, rfl, hS, h⟩
    exact hK.out _ _ hS (fun _ => h)

theorem exec_load_mid {o : Oper} (ty : TypeId) (x : Operand) (ho : o.op = .load ty x) (b off : Nat) (hx : a.eval x = .pointer (some ⟨b, off, none⟩)) (cs : List Value) (t : TypeDesc) (hc : w.rangeAt b off cs)
    (hu : P.underlying ty = some t) (hd : t.isRow = true) (hi : (P.info? ty).map (·.size) = some cs.length) : (execOp a.eval o).run P w = .ok (.value (.agg cs.toArray)) w := by
  unfold execOp
  simp only [ho, hx, Instr.loadAt, Instr.sureAddr, Sem.run_bind, Sem.run_pure, Result.andThen_ok, run_loadVar_mid w b off ty cs t hc hu hd hi]
end

theorem exec_store_ws {o : Oper} {a : Act} {w : World} (x y : Operand) (ho : o.op = .store 35 x y) (b : Nat) (hx : a.eval x = .pointer (some ⟨b, 0, none⟩)) (ws' : S5)
    (hy : a.eval y = .agg (ucells ws'.l)) {ws : S5} {bg : List UInt8} {n : Nat} (hr : HRow w b ws bg n) (hb : bg.length = 64) :
    (execOp a.eval o).run Tryd.prog w = .ok .skip (w.setRow b (hcl ws' bg n).toArray) := by
  have i35 : (Tryd.prog.info? 35).map (·.size) = some (ucells ws'.l).size := by kernel_rfl
  have e : (hcl ws bg n).toArray.size = 70 := by rw [List.size_toArray, hcl_length _ _ _ hb]
  have e2 : (ucells ws'.l).size = 5 := by rw [ucells_size]; rfl
  have h1 : ∀ v ∈ (ucells ws'.l).toList, v.oneCell' = true := fun v hv => by
    simp only [ucells, List.mem_map] at hv
    obtain ⟨x, _, rfl⟩ := hv; rfl
  have hrun := run_storeVar_at w b 0 38 35 (ucells ws'.l) (hcl ws bg n).toArray hr.cells i35 (by omega) h1
  unfold execOp
  simp only [ho, hx, hy, Instr.storeAt, Instr.sureAddr, Sem.run_bind, Sem.run_pure, Result.andThen_ok, hrun]
  rfl

/-- A whole variable, stored. -/
theorem wpList_store_var {ops : Array Oper} {rest : List Oper} {o : Oper} {a : Act} {w : World} {Q : Exit → Act → World → Prop} (hgd : o.guard = none) (hdst : o.dst = none) (ty : TypeId) (x y : Operand)
    (ho : o.op = .store ty x y) (g : Nat) (cells : Array Value) (hx : a.eval x = .pointer (some ⟨g, 0, none⟩)) (hy : a.eval y = .agg cells) {t : TypeId} {old : Array Value} (hr : Row w g old t)
    (hi : (Tryd.prog.info? ty).map (·.size) = some cells.size) (hold : old.size = cells.size) (h1 : cells.all (·.oneCell') = true)
    (h : ∀ w', Row w' g cells t → Keeps g w w' → wpList Tryd.prog ops Q rest a w') : wpList Tryd.prog ops Q (o :: rest) a w := by
  refine wpList_store_row hgd ty x y ho g cells hx hy t old hr hi hold h1 ?_
  rw [hdst]
  exact h _ (setRow_heap w g _ _ t _ hr) (Keeps.setRow _ _)
/-- A whole variable, loaded. -/
theorem wpList_load_var {ops : Array Oper} {rest : List Oper} {o : Oper} {a : Act} {w : World} {Q : Exit → Act → World → Prop} (hgd : o.guard = none) (ty : TypeId) (x : Operand)
    (ho : o.op = .load ty x) (g : Nat) (hx : a.eval x = .pointer (some ⟨g, 0, none⟩)) {t : TypeId} {cells : Array Value} (hr : Row w g cells t) (d : TypeDesc)
    (hu : Tryd.prog.underlying ty = some d) (hd : d.isRow = true) (hi : (Tryd.prog.info? ty).map (·.size) = some cells.size)
    (h : wpList Tryd.prog ops Q rest (a.put o.dst (.agg cells)) w) : wpList Tryd.prog ops Q (o :: rest) a w :=
  wpList_load_row hgd ty x ho g hx t cells (0, 0) d hr hu (by cases d <;> first | rfl | cases hd) hi h

theorem Row.keeps {w w' : World} {g b : Nat} {cs : Array Value} {t : TypeId} (h : Row w g cs t) (k : Keeps b w w') (hn : g ≠ b) : Row w' g cs t := by
  unfold Row; rw [k.block g h.lt hn]; exact h
theorem IsHash.lt {w : World} {b : Nat} {t : List UInt8} (h : IsHash b t w) : b < w.heap.size := by
  obtain ⟨_, _, hr, _⟩ := h; exact HRow.lt hr
theorem IsHash.of_block {w w' : World} {b : Nat} {t : List UInt8} (h : IsHash b t w) (e : w'.heap[b]? = w.heap[b]?) : IsHash b t w' := by
  obtain ⟨ws, bg, hr, h2⟩ := h
  refine ⟨ws, bg, ?_, h2⟩
  unfold HRow Row; rw [e]; exact hr
theorem IsHash.below {w w' : World} {b k : Nat} {t : List UInt8} (h : IsHash b t w) (hb : Below k w w') (hk : b < k) : IsHash b t w' := h.of_block (hb.block b hk)
theorem IsHash.keeps {w w' : World} {b g : Nat} {t : List UInt8} (h : IsHash b t w) (k : Keeps g w w') (hn : b ≠ g) : IsHash b t w' := h.of_block (k.block b h.lt hn)
theorem IsHash.alloc {w : World} {b : Nat} {t : List UInt8} (h : IsHash b t w) (o : Obj) : IsHash b t (w.alloc o) := h.of_block (Below.heap_alloc _ _ _ h.lt)
theorem Start.alloc {w : World} (h : Start w) (o : Obj) : Start (w.alloc o) := start_of_block h (Below.heap_alloc _ _ _ h.lt)

end Go.Proofs.YtihgmgphfdjcfaaDoor
