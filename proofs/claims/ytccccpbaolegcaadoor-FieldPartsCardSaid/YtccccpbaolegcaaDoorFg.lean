/- FieldParts walked, over any package that does what is asked of it. -/
import Derived.Test.YtccccpbaolegcaaDoorF9
import Derived.Test.YtccccpbaolegcaaDoorFe
namespace Go.Proofs.YtccccpbaolegcaaDoor
open Go.RowKit Go.Shelf
attribute [local go_sem] store_one Oper.semAt_some S_match S_store

/-- One text appended: the run of it. -/
theorem push_text_run {W : World} {base : Nat} {v : Value} {xs : List Value} (ho : Own base v xs W) (y : List UInt8) (hlen : xs.length < 1000000) (hb : base ≤ W.heap.size) :
    ∃ a n c w', (Builtin.append_ #[34, 34] 34 #[v, .slice (some ⟨W.heap.size, 0, none⟩) 1 1]).run Tryd.prog (W.alloc (.cells #[S y] 9)) = .ok (.slice a n c) w' ∧ Own base (.slice a n c) (xs ++ [S y]) w' ∧
      W.grownBy w' v.ownBlock ∧ ∀ k, (Value.slice a n c).ownBlock = some k → v.ownBlock = some k ∨ W.heap.size ≤ k := by
  obtain ⟨i, z, hi, hz, hs, hby, hzs⟩ := elem9
  have hy : (W.alloc (.cells #[S y] 9)).cell? ⟨W.heap.size, 0, none⟩ = some (S y) := cell_of_row _ _ 0 _ 9 (0, 0) (row_new W #[S y] 9)
  obtain ⟨v', w', hr, h2, h3, h4⟩ := run_push (P := Tryd.prog) _ base 34 34 9 i z Tryd.underlying34 hi hz hs hby hzs v xs (ho.alloc _) ⟨W.heap.size, 0, none⟩ _ hy rfl (by omega) (by rw [alloc_size]; omega)
  obtain ⟨a, n, c, rfl⟩ := own_slice h2
  refine ⟨a, n, c, w', hr, h2, ⟨h3.os, h3.tape, h3.output, Nat.le_trans (by simp) h3.size, fun k hk hn => (h3.block k (by rw [alloc_size]; omega) hn).trans (heap_alloc_old W _ hk)⟩, fun k hk => ?_⟩
  rcases h4 with h4 | h4
  · exact .inl (h4 ▸ hk)
  · rw [h4, alloc_size] at hk
    have := Option.some.inj hk
    exact .inr (by omega)
/-- What stands about: the two texts, the answer's box, the list in its box, and the blocks for what is deferred. -/
structure Fp (w : World) (s t : List UInt8) (b5 : Nat) (v : Value) (xs : List (List UInt8)) (Ds : List Nat) (W : World) : Prop where
  s2 : Row W w.heap.size #[S s] 9
  t3 : Row W (w.heap.size + 1) #[S t] 9
  a4 : Row W (w.heap.size + 2) #[.bool false] 4
  bel : Below w.heap.size w W
  box : Row W b5 #[v] 34
  own : Own (b5 + 1) v (xs.map S) W
  lo : w.heap.size + 3 ≤ b5
  dfr : ∀ D ∈ Ds, b5 < D ∧ W.heap[D]? = some (.deferred (some [])) ∧ v.ownBlock ≠ some D
section
variable {w W W' : World} {s t : List UInt8} {b5 : Nat} {v : Value} {xs : List (List UInt8)} {Ds : List Nat}
theorem Fp.below (h : Fp w s t b5 v xs Ds W) (hb : Below W.heap.size W W') : Fp w s t b5 v xs Ds W' :=
  ⟨h.s2.below hb h.s2.lt, h.t3.below hb h.t3.lt, h.a4.below hb h.a4.lt, h.bel.trans (hb.mono h.bel.size), h.box.below hb h.box.lt, h.own.below hb (fun k hk => (h.own.lt k hk).2), h.lo,
    fun D hD => ⟨(h.dfr D hD).1, (hb.block D (Array.getElem?_eq_some_iff.1 (h.dfr D hD).2.1).1).trans (h.dfr D hD).2.1, (h.dfr D hD).2.2⟩⟩
/-- Something else has been turned. -/
theorem Fp.grown {row : Option Nat} (h : Fp w s t b5 v xs Ds W) (hg : W.grownBy W' row) (hr : ∀ k, row = some k → b5 < k ∧ v.ownBlock ≠ some k ∧ k ∉ Ds) : Fp w s t b5 v xs Ds W' :=
  ⟨row_grown h.s2 hg (fun e => by have := (hr _ e.symm).1; have := h.lo; omega), row_grown h.t3 hg (fun e => by have := (hr _ e.symm).1; have := h.lo; omega), row_grown h.a4 hg (fun e => by have := (hr _ e.symm).1; have := h.lo; omega),
    h.bel.grown hg h.bel.size (fun k e => by have := (hr k e).1; have := h.lo; omega), row_grown h.box hg (fun e => by have := (hr _ e.symm).1; omega), h.own.grown hg (fun k hk e => (hr k e.symm).2.1 hk), h.lo,
    fun D hD => ⟨(h.dfr D hD).1, (hg.block D (Array.getElem?_eq_some_iff.1 (h.dfr D hD).2.1).1 (fun e => (hr D e.symm).2.2 hD)).trans (h.dfr D hD).2.1, (h.dfr D hD).2.2⟩⟩
/-- The list has grown, and lies in its box. -/
theorem Fp.push {v' : Value} {y : List UInt8} (h : Fp w s t b5 v xs Ds W) (hg : W.grownBy W' v.ownBlock) (ho : Own (b5 + 1) v' (xs.map S ++ [S y]) W') (hk : ∀ k, v'.ownBlock = some k → v.ownBlock = some k ∨ W.heap.size ≤ k) :
    Fp w s t b5 v' (xs ++ [y]) Ds (W'.setCell ⟨b5, 0, none⟩ v') := by
  have hl := h.lo
  have hlt : ∀ k, v.ownBlock = some k → b5 + 1 ≤ k := fun k e => (h.own.lt k e).1
  have r2 := row_grown h.s2 hg (fun e => by have := hlt _ e.symm; omega)
  have r3 := row_grown h.t3 hg (fun e => by have := hlt _ e.symm; omega)
  have r4 := row_grown h.a4 hg (fun e => by have := hlt _ e.symm; omega)
  have r5 := row_grown h.box hg (fun e => by have := hlt _ e.symm; omega)
  have hB := h.bel.grown hg h.bel.size (fun k e => by have := hlt k e; omega)
  refine ⟨r2.other (by show w.heap.size ≠ b5; omega), r3.other (by show w.heap.size + 1 ≠ b5; omega), r4.other (by show w.heap.size + 2 ≠ b5; omega), hB.setCell (p := ⟨b5, 0, none⟩) (by show w.heap.size ≤ b5; omega) _, r5.set 0 _, ?_, hl, fun D hD => ?_⟩
  · rw [List.map_append]
    exact ho.of_block (by simp [World.setCell]) (fun k hk => Below.heap_setCell _ _ _ _ (by have := (ho.lt k hk).1; show k ≠ b5; omega))
  · obtain ⟨h1, h2, h3⟩ := h.dfr D hD
    have hDl := (Array.getElem?_eq_some_iff.1 h2).1
    refine ⟨h1, ((Below.heap_setCell _ _ _ _ (by show D ≠ b5; omega)).trans (hg.block D hDl (fun e => h3 e.symm))).trans h2, fun e => ?_⟩
    rcases hk D e with e | e
    · exact h3 e
    · omega
/-- One more block for what is deferred. -/
theorem Fp.more {D : Nat} (h : Fp w s t b5 v xs Ds W) (hD : W.heap[D]? = some (.deferred (some []))) (h5 : b5 < D) (hn : v.ownBlock ≠ some D) : Fp w s t b5 v xs (D :: Ds) W :=
  ⟨h.s2, h.t3, h.a4, h.bel, h.box, h.own, h.lo, fun E hE => by
    rcases List.mem_cons.1 hE with rfl | hE
    · exact ⟨h5, hD, hn⟩
    · exact h.dfr E hE⟩
end
/-- The end: four blocks for what is deferred are empty; the answer's box holds true. -/
theorem fp_end {w W : World} {s t : List UInt8} {b5 : Nat} {v : Value} {xs : List (List UInt8)} {D1 D2 D3 D4 : Nat} {tmps : Array Value} (h : Fp w s t b5 v xs [D4, D3, D2, D1] W) (h12 : D1 < D2) (h23 : D2 < D3) (h34 : D3 < D4)
    (ht : tmps[4]? = some (.pointer (some ⟨w.heap.size + 2, 0, none⟩))) (x : Bool) (hx : x = true) :
    bodyPostM Fence.wide 5 Tryd.prog Tryd.f8 (fun e w' => e = .returned (.bool true) ∧ Below w.heap.size w w') .ret
      { tmps := tmps, defers := [{ target := .collected D4, args := #[] }, { target := .collected D3, args := #[] }, { target := .collected D2, args := #[] }, { target := .collected D1, args := #[] }] } (W.setCell ⟨w.heap.size + 2, 0, none⟩ (.bool x)) := by
  subst hx
  have hlo := h.lo
  obtain ⟨l4, d4, _⟩ := h.dfr D4 (.head _)
  obtain ⟨l3, d3, _⟩ := h.dfr D3 (.tail _ (.head _))
  obtain ⟨l2, d2, _⟩ := h.dfr D2 (.tail _ (.tail _ (.head _)))
  obtain ⟨l1, d1, _⟩ := h.dfr D1 (.tail _ (.tail _ (.tail _ (.head _))))
  have ca := cell_of_row W _ 0 _ 4 (0, 0) h.a4
  have hs : ∀ D, b5 < D → (W.setCell ⟨w.heap.size + 2, 0, none⟩ (.bool true)).heap[D]? = W.heap[D]? := fun D hD => Below.heap_setCell _ _ _ _ (by show D ≠ w.heap.size + 2; omega)
  have k4 := (hs D4 l4).trans d4
  have k3 := (hs D3 l3).trans d3
  have k2 := (hs D2 l2).trans d2
  have k1 := (hs D1 l1).trans d1
  have hc0 : (W.setCell ⟨w.heap.size + 2, 0, none⟩ (.bool true)).cell? ⟨w.heap.size + 2, 0, none⟩ = some (.bool true) := World.cell?_setCell_same _ _ _ ca
  have hB := h.bel.setCell (p := ⟨w.heap.size + 2, 0, none⟩) (by show w.heap.size ≤ w.heap.size + 2; omega) (.bool true)
  generalize W.setCell ⟨w.heap.size + 2, 0, none⟩ (.bool true) = X0 at *
  have step : ∀ (X : World) (D : Nat), X.heap[D]? = some (.deferred (some [])) → b5 < D → X.cell? ⟨w.heap.size + 2, 0, none⟩ = some (.bool true) → Below w.heap.size w X →
      (X.putObj D (.deferred none)).cell? ⟨w.heap.size + 2, 0, none⟩ = some (.bool true) ∧ Below w.heap.size w (X.putObj D (.deferred none)) ∧ ∀ E, E ≠ D → (X.putObj D (.deferred none)).heap[E]? = X.heap[E]? := fun X D hD hl hc hb =>
    ⟨cell_kept hc (grownBy_putObj' _ _ (.deferred none)) (fun r e => by cases e; exact ⟨_, hD, rfl⟩), hb.grown (grownBy_putObj' _ _ _) hb.size (fun k e => by cases e; omega), fun E hE => World.putObj_heap_other (by omega)⟩
  obtain ⟨c1, b1, o1⟩ := step X0 D4 k4 l4 hc0 hB
  refine ⟨by simp, .inl ⟨_, _, rfl, run_takeDeferred k4, ?_⟩⟩
  have k3' := (o1 D3 (by omega)).trans k3
  have k2' := (o1 D2 (by omega)).trans k2
  have k1' := (o1 D1 (by omega)).trans k1
  generalize X0.putObj D4 (.deferred none) = X1 at *
  obtain ⟨c2, b2, o2⟩ := step X1 D3 k3' l3 c1 b1
  refine ⟨by simp, .inl ⟨_, _, rfl, run_takeDeferred k3', ?_⟩⟩
  have k2'' := (o2 D2 (by omega)).trans k2'
  have k1'' := (o2 D1 (by omega)).trans k1'
  generalize X1.putObj D3 (.deferred none) = X2 at *
  obtain ⟨c3, b3, o3⟩ := step X2 D2 k2'' l2 c2 b2
  refine ⟨by simp, .inl ⟨_, _, rfl, run_takeDeferred k2'', ?_⟩⟩
  have k1x := (o3 D1 (by omega)).trans k1''
  generalize X2.putObj D2 (.deferred none) = X3 at *
  obtain ⟨c4, b4, _⟩ := step X3 D1 k1x l1 c3 b3
  refine ⟨by simp, .inl ⟨_, _, rfl, run_takeDeferred k1x, ?_⟩⟩
  refine ⟨.bool true, ?_, rfl, b4⟩
  simp [results, Tryd.f8, go_sem, c4, ht]
end Go.Proofs.YtccccpbaolegcaaDoor
