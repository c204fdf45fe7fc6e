/- The landed reader in memory: its cells, the line that has begun, the bytes; slices of one's own: the first ones, one more. -/
import Derived.Test.YtocekbfnefajhaaDoorCv1
import Derived.Test.YtocekbfnefajhaaDoorMv
import Derived.Test.YtocekbfnefajhaaDoorProg
namespace Go.Proofs.YtocekbfnefajhaaDoor
open Go.RowKit

section
variable {P : Program} {w : World} {v : Value} {xs : List Value} {t e : TypeId}
/-- The first m. -/
theorem own_upto (h : Own 0 v xs w) (ht : P.underlying t = some (.slice e)) (hz : ∀ w, (sizeOf e).run P w = .ok 1 w) (m : Nat) (hm : m ≤ xs.length) :
    ∃ a c, (∀ W, (Instr.slice t v none (some (.int .i64 (m : Int))) none).run P W = .ok (.slice a m c) W) ∧ Own 0 (.slice a m c) (xs.take m) w ∧ (Value.slice a m c).ownBlock = v.ownBlock := by
  have hlen : (xs.take m).length = m := by rw [List.length_take]; omega
  rcases h with ⟨rfl, rfl⟩ | ⟨g, cap, rfl, hb, hg, hc, hcm, hr, hth⟩
  · obtain rfl : m = 0 := by simpa using hm
    refine ⟨none, 0, fun W => ?_, .inl ⟨rfl, rfl⟩, rfl⟩
    simp [Instr.slice, run_underlying ht, Instr.sliceBounds, run_sliceBound, Result.andThen, hz]
  · have hmc : m ≤ cap := by omega
    refine ⟨some ⟨g, 0, none⟩, cap, fun W => ?_, .inr ⟨g, cap, by rw [hlen], hb, hg, by rw [hlen]; exact hmc, hcm, fun j u hu => ?_, hth⟩, rfl⟩
    · simp [Instr.slice, run_underlying ht, Instr.sliceBounds, run_sliceBound, Result.andThen, hz, hmc, Addr.add]
    · have hj : j < m := by rw [← hlen]; exact (List.getElem?_eq_some_iff.1 hu).1
      rw [List.getElem?_take_of_lt hj] at hu
      exact hr j u hu
/-- One more, laid in a block of its own. -/
theorem own_more (h : Own 0 v xs w) (ht : P.underlying t = some (.slice e)) (he : Elem P e) (ty : TypeId) (y : Value) (hy : y.oneCell' = true) (hl : xs.length < 1000000000000) :
    ∃ k c w', (Builtin.append_ #[t, t] ty #[v, .slice (some ⟨w.heap.size, 0, none⟩) 1 1]).run P (w.alloc (.cells #[y] e)) = .ok (.slice (some ⟨k, 0, none⟩) (xs.length + 1) c) w' ∧ Own 0 (.slice (some ⟨k, 0, none⟩) (xs.length + 1) c) (xs ++ [y]) w' ∧ w.grownBy w' v.ownBlock ∧ (v.ownBlock = some k ∨ w.heap.size ≤ k) ∧ k < w'.heap.size := by
  obtain ⟨i, z, hi, hz, hs, hby, hzs⟩ := he
  have hc : (w.alloc (.cells #[y] e)).cell? ⟨w.heap.size, 0, none⟩ = some y := by
    rw [cell_of_row _ _ 0 _ _ _ (row_new w #[y] e)]; rfl
  obtain ⟨v', w', hr, h2, h3, h4⟩ := run_push (P := P) (w.alloc (.cells #[y] e)) 0 t ty e i z ht hi hz hs hby hzs v xs (h.alloc _) ⟨w.heap.size, 0, none⟩ y hc hy hl (Nat.zero_le _)
  obtain ⟨k, c, rfl, _, hk, _⟩ := h2.form (by simp)
  rw [show (xs ++ [y]).length = xs.length + 1 by simp] at *
  refine ⟨k, c, w', hr, h2, ⟨h3.os, h3.tape, h3.output, Nat.le_trans (by simp) h3.size, fun j hj hn => (h3.block j (by rw [alloc_size]; omega) hn).trans (heap_alloc_old w _ hj)⟩, ?_, hk⟩
  rcases h4 with h | h
  · exact .inl h.symm
  · rw [alloc_size] at h; exact .inr (by have e : k = w.heap.size + 1 := Option.some.inj h; omega)
theorem Own.drawn {w' : World} (h : Own 0 v xs w) (hd : Drawn w w') : Own 0 v xs w' := by obtain ⟨n, rfl⟩ := hd; exact h
end

/-- A reader's cells as numbers and texts. -/
structure Raw where
  nx : Nat
  line : List UInt8
  body : List UInt8
  lacks : Nat
  since : Nat
  flds : Nat
  bad : Nat
/-- The cells of a reader. -/
def rawC (x : Raw) (vl vb : Value) : Array Value := #[.int .i64 (x.nx : Int), vl, vb, .int .i64 (x.lacks : Int), .int .i64 (x.since : Int), .int .i64 (x.flds : Int), .int .i64 (x.bad : Int)]
/-- In block g lies a reader, whose slices are vl and vb; F holds all its blocks. -/
structure RawIn (w : World) (F : Nat → Prop) (g : Nat) (x : Raw) (vl vb : Value) : Prop where
  row : Row w g (rawC x vl vb) 38
  line : Own 0 vl (x.line.map B) w
  body : Own 0 vb (x.body.map B) w
  atL : ∀ k, vl.ownBlock = some k → F k ∧ k ≠ g
  atB : ∀ k, vb.ownBlock = some k → F k ∧ k ≠ g ∧ vl.ownBlock ≠ some k
  foot : F g
  old : ∀ k, F k → k < w.heap.size
def RawAt (w : World) (F : Nat → Prop) (g : Nat) (x : Raw) : Prop := ∃ vl vb, RawIn w F g x vl vb
section
variable {w w' : World} {F F' : Nat → Prop} {g : Nat} {x : Raw} {vl vb : Value}
theorem RawIn.same (h : RawIn w F g x vl vb) (hs : w.heap.size ≤ w'.heap.size) (hb : ∀ k, F k → w'.heap[k]? = w.heap[k]?) : RawIn w' F g x vl vb :=
  ⟨(hb g h.foot).trans h.row, h.line.of_block hs (fun k hk => hb k (h.atL k hk).1), h.body.of_block hs (fun k hk => hb k (h.atB k hk).1), h.atL, h.atB, h.foot, fun k hk => by have := h.old k hk; omega⟩
theorem RawAt.same (h : RawAt w F g x) (hs : w.heap.size ≤ w'.heap.size) (hb : ∀ k, F k → w'.heap[k]? = w.heap[k]?) : RawAt w' F g x := by
  obtain ⟨vl, vb, h⟩ := h; exact ⟨vl, vb, h.same hs hb⟩
theorem RawAt.lt (h : RawAt w F g x) : F g ∧ ∀ k, F k → k < w.heap.size := by
  obtain ⟨vl, vb, h⟩ := h; exact ⟨h.foot, h.old⟩
theorem RawAt.below (h : RawAt w F g x) (hb : Below w.heap.size w w') : RawAt w' F g x := h.same hb.size (fun k hk => hb.block k (h.lt.2 k hk))
theorem RawAt.drawn (h : RawAt w F g x) (hd : Drawn w w') : RawAt w' F g x := by
  obtain ⟨n, rfl⟩ := hd; exact h.same (Nat.le_refl _) (fun _ _ => rfl)
theorem RawIn.drawn (h : RawIn w F g x vl vb) (hd : Drawn w w') : RawIn w' F g x vl vb := by
  obtain ⟨n, rfl⟩ := hd; exact h.same (Nat.le_refl _) (fun _ _ => rfl)
theorem Moves.of_drawn (hd : Drawn w w') : Moves F F w w' := Moves.of_below hd.below
/-- Some cells of the reader's row turned, one behind the other. -/
theorem Moves.cell (w : World) (hF : F g) (i : Nat) (v : Value) : Moves F F w (w.setCell ⟨g, i, none⟩ v) :=
  ⟨rfl, rfl, rfl, by simp [World.setCell], fun _ hk => .inl hk, fun k _ hn => Below.heap_setCell _ _ _ _ (fun e => hn (by rw [e]; exact hF))⟩
/-- A number of the reader turned. -/
theorem RawIn.put (h : RawIn w F g x vl vb) {y : Raw} (i : Nat) (v : Value) (hc : (rawC x vl vb).setIfInBounds i v = rawC y vl vb) (hl : y.line = x.line) (hb : y.body = x.body) : RawIn (w.setCell ⟨g, i, none⟩ v) F g y vl vb := by
  refine ⟨by have := h.row.set i v; rw [hc] at this; exact this, ?_, ?_, h.atL, h.atB, h.foot, fun k hk => by have := h.old k hk; simpa [World.setCell] using this⟩
  · rw [hl]; exact h.line.of_block (by simp [World.setCell]) (fun k hk => Below.heap_setCell _ _ _ _ (fun e => (h.atL k hk).2 e))
  · rw [hb]; exact h.body.of_block (by simp [World.setCell]) (fun k hk => Below.heap_setCell _ _ _ _ (fun e => (h.atB k hk).2.1 e))
/-- Another slice as the line. -/
theorem RawIn.putL (h : RawIn w F g x vl vb) {y : Raw} {vn : Value} (hc : (rawC x vl vb).setIfInBounds 1 vn = rawC y vn vb) (hl : Own 0 vn (y.line.map B) w) (hn : ∀ k, vn.ownBlock = some k → F k ∧ k ≠ g ∧ vb.ownBlock ≠ some k) (hb : y.body = x.body) : RawIn (w.setCell ⟨g, 1, none⟩ vn) F g y vn vb := by
  refine ⟨by have := h.row.set 1 vn; rw [hc] at this; exact this, ?_, ?_, fun k hk => ⟨(hn k hk).1, (hn k hk).2.1⟩, fun k hk => ⟨(h.atB k hk).1, (h.atB k hk).2.1, fun e => (hn k e).2.2 hk⟩, h.foot, fun k hk => by have := h.old k hk; simpa [World.setCell] using this⟩
  · exact hl.of_block (by simp [World.setCell]) (fun k hk => Below.heap_setCell _ _ _ _ (fun e => (hn k hk).2.1 e))
  · rw [hb]; exact h.body.of_block (by simp [World.setCell]) (fun k hk => Below.heap_setCell _ _ _ _ (fun e => (h.atB k hk).2.1 e))
/-- Another slice as the bytes. -/
theorem RawIn.putB (h : RawIn w F g x vl vb) {y : Raw} {vn : Value} (hc : (rawC x vl vb).setIfInBounds 2 vn = rawC y vl vn) (hb : Own 0 vn (y.body.map B) w) (hn : ∀ k, vn.ownBlock = some k → F k ∧ k ≠ g ∧ vl.ownBlock ≠ some k) (hl : y.line = x.line) : RawIn (w.setCell ⟨g, 2, none⟩ vn) F g y vl vn := by
  refine ⟨by have := h.row.set 2 vn; rw [hc] at this; exact this, ?_, ?_, h.atL, hn, h.foot, fun k hk => by have := h.old k hk; simpa [World.setCell] using this⟩
  · rw [hl]; exact h.line.of_block (by simp [World.setCell]) (fun k hk => Below.heap_setCell _ _ _ _ (fun e => (h.atL k hk).2 e))
  · exact hb.of_block (by simp [World.setCell]) (fun k hk => Below.heap_setCell _ _ _ _ (fun e => (hn k hk).2.1 e))
theorem RawIn.cells (h : RawIn w F g x vl vb) : (w.cell? ⟨g, 0, none⟩ = some (.int .i64 (x.nx : Int)) ∧ w.cell? ⟨g, 1, none⟩ = some vl ∧ w.cell? ⟨g, 2, none⟩ = some vb ∧ w.cell? ⟨g, 3, none⟩ = some (.int .i64 (x.lacks : Int)))
    ∧ (w.cell? ⟨g, 4, none⟩ = some (.int .i64 (x.since : Int)) ∧ w.cell? ⟨g, 5, none⟩ = some (.int .i64 (x.flds : Int)) ∧ w.cell? ⟨g, 6, none⟩ = some (.int .i64 (x.bad : Int))) ∧ ∀ i, w.frozen? ⟨g, i, none⟩ = false :=
  ⟨⟨cell_of_row w _ 0 _ _ (0, 0) h.row, cell_of_row w _ 1 _ _ (0, 0) h.row, cell_of_row w _ 2 _ _ (0, 0) h.row, cell_of_row w _ 3 _ _ (0, 0) h.row⟩, ⟨cell_of_row w _ 4 _ _ (0, 0) h.row, cell_of_row w _ 5 _ _ (0, 0) h.row, cell_of_row w _ 6 _ _ (0, 0) h.row⟩, h.row.frozen⟩
end
end Go.Proofs.YtocekbfnefajhaaDoor
