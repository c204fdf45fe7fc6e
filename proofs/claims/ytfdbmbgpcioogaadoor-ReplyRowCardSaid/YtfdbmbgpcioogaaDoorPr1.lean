/- Replies one behind the other, as lists; two rows that grow side by side. -/
import Derived.Test.YtfdbmbgpcioogaaDoorPq
import Derived.Test.YtfdbmbgpcioogaaDoorOg
namespace Go.Proofs.YtfdbmbgpcioogaaDoor
open Go.RowKit

/-- A reply that was sent: with where its fields lie, and whether its head alone was asked for. -/
structure Snt where
  c : Int
  fs : List Fld
  body : List UInt8
  head : Bool
  fa : Option Addr
  fc : Nat
  fb : Nat
  fo : Nat
def Snt.bd (y : Snt) : List UInt8 := if y.head = true then [] else y.body
def Snt.bytes (y : Snt) : List UInt8 := bytesB y.c y.fs y.body y.head false
def Snt.cells (y : Snt) : List Value := [.int .i64 y.c, .slice y.fa y.fs.length y.fc, S y.bd]
def allS (l : List Snt) : List UInt8 := l.flatMap Snt.bytes
structure Snt.ok (w : World) (y : Snt) : Prop where
  may : RightP y.c y.fs y.body
  flds : FA w (.slice y.fa y.fs.length y.fc) y.fs y.fb y.fo
  len : rpLen y.fs y.body ≤ 70500
theorem allS_snoc (l : List Snt) (y : Snt) : allS (l ++ [y]) = allS l ++ y.bytes := by unfold allS; rw [List.flatMap_append]; simp
theorem allS_cons (y : Snt) (l : List Snt) : allS (y :: l) = y.bytes ++ allS l := rfl
theorem sent_read {w : World} {y : Snt} (h : y.ok w) (r : List Snt) : readF (allS (y :: r)) y.head = .ok y.c.toNat y.fs y.bd false y.bytes.length :=
  read_bytes h.may (by simp) (allS r)
theorem flat3_get : ∀ (ys : List Snt) (j : Nat) (y : Snt), ys[j]? = some y → (ys.flatMap Snt.cells)[j * 3]? = some (.int .i64 y.c) ∧ (ys.flatMap Snt.cells)[j * 3 + 1]? = some (.slice y.fa y.fs.length y.fc) ∧ (ys.flatMap Snt.cells)[j * 3 + 2]? = some (S y.bd)
  | [], j, y, h => by simp at h
  | x :: ys, 0, y, h => by
    simp only [List.getElem?_cons_zero, Option.some.injEq] at h
    subst h
    exact ⟨rfl, rfl, rfl⟩
  | x :: ys, j + 1, y, h => by
    rw [List.getElem?_cons_succ] at h
    have ih := flat3_get ys j y h
    have e : (x :: ys).flatMap Snt.cells = .int .i64 x.c :: .slice x.fa x.fs.length x.fc :: S x.bd :: ys.flatMap Snt.cells := rfl
    rw [e, show (j + 1) * 3 = j * 3 + 1 + 1 + 1 by omega]
    simp only [List.getElem?_cons_succ]
    exact ih
theorem elePP : EleK Tryd.prog 29 3 := eleK_of (z := .agg zeroRp) (n := 48) (by kernel_rfl) (by omega) rfl
theorem elem4 : Elem Tryd.prog 4 := elem_of (z := .bool false) (n := 1) (by kernel_rfl) (by omega) rfl
/-- What was sent, and what was asked, in two rows of their own. -/
structure RowAt (w : World) (ys : List Snt) (hs : List Bool) (sv av : Value) (W : World) : Prop where
  bel : Below w.heap.size w W
  sent : W.ownsRow w.heap.size 29 3 sv ys.length (ys.flatMap Snt.cells)
  asked : Own w.heap.size av (hs.map Value.bool) W
  apart : ∀ k, sv.ownBlock = some k → av.ownBlock ≠ some k
theorem rowAt_nil (w : World) {W : World} (h : Below w.heap.size w W) : RowAt w [] [] (.slice none 0 0) (.slice none 0 0) W :=
  ⟨h, World.ownsRow_nil _ _ _ _, .inl ⟨rfl, rfl⟩, fun k hk => by cases hk⟩
theorem RowAt.below {w W W' : World} {ys : List Snt} {hs : List Bool} {sv av : Value} (h : RowAt w ys hs sv av W) (hb : Below W.heap.size W W') : RowAt w ys hs sv av W' :=
  ⟨h.bel.trans (hb.mono h.bel.size), own_below h.sent hb, h.asked.below hb (fun k hk => (h.asked.lt k hk).2), h.apart⟩
/-- One reply more is sent. -/
theorem RowAt.send {w W W' : World} {ys : List Snt} {hs : List Bool} {sv av : Value} {y : Snt} {g cap : Nat} (h : RowAt w ys hs sv av W)
    (o1 : W'.ownsRow w.heap.size 29 3 (.slice (some ⟨g, 0, none⟩) (ys.length + 1) cap) (ys.length + 1) (ys.flatMap Snt.cells ++ y.cells)) (o2 : W.grownBy W' sv.ownBlock) (o3 : sv.ownBlock = some g ∨ W.heap.size ≤ g) :
    RowAt w (ys ++ [y]) hs (.slice (some ⟨g, 0, none⟩) (ys.length + 1) cap) av W' := by
  refine ⟨below_grown h.bel o2 (fun k e => (h.sent.lt k e).1) h.bel.size, ?_, h.asked.grown o2 (fun k hk e => h.apart k e.symm hk), fun k hk e => ?_⟩
  · rw [List.length_append, List.length_singleton, List.flatMap_append]
    simpa using o1
  · have hg : g = k := by simpa [Value.ownBlock] using hk
    subst hg
    rcases o3 with o3 | o3
    · exact h.apart _ o3 e
    · have := (h.asked.lt _ e).2; omega
/-- And what was asked of it. -/
theorem RowAt.ask {w W W' : World} {ys : List Snt} {hs : List Bool} {sv av av' : Value} {x : Bool} (h : RowAt w ys hs sv av W)
    (o1 : Own w.heap.size av' (hs.map Value.bool ++ [.bool x]) W') (o2 : W.grownBy W' av.ownBlock) (o3 : av'.ownBlock = av.ownBlock ∨ ∃ g, av'.ownBlock = some g ∧ W.heap.size ≤ g) : RowAt w ys (hs ++ [x]) sv av' W' := by
  refine ⟨below_grown h.bel o2 (fun k e => (h.asked.lt k e).1) h.bel.size, ?_, by rw [List.map_append, List.map_singleton]; exact o1, fun k hk e => ?_⟩
  · refine h.sent.kept o2 ?_
    cases hv : sv.ownBlock with
    | none => exact .inl rfl
    | some g =>
      right
      intro e
      exact h.apart g hv e.symm
  · rcases o3 with o3 | ⟨g, hg, hl⟩
    · rw [o3] at e; exact h.apart k hk e
    · rw [hg] at e
      cases e
      have := (h.sent.lt _ hk).2; omega
/-- What was sent, looked at. -/
theorem RowAt.look {w W : World} {ys : List Snt} {hs : List Bool} {sv av : Value} (h : RowAt w ys hs sv av W) {j : Nat} {y : Snt} (hy : ys[j]? = some y) :
    ∃ g, (∀ w', (Instr.indexAt 42 sv (.int .i64 (j : Int))).run Tryd.prog w' = .ok (.pointer (some ⟨g, j * 3, none⟩)) w') ∧ W.cell? ⟨g, j * 3, none⟩ = some (.int .i64 y.c) ∧ W.cell? ⟨g, j * 3 + 1, none⟩ = some (.slice y.fa y.fs.length y.fc) ∧ W.cell? ⟨g, j * 3 + 2, none⟩ = some (S y.bd) := by
  have hj := (List.getElem?_eq_some_iff.1 hy).1
  rcases h.sent.2 with ⟨rfl, h0⟩ | ⟨g, cap, cur, rfl, _, hg, _, _, _, ht⟩
  · omega
  · obtain ⟨h1, h2, h3⟩ := flat3_get ys j y hy
    rw [← ht] at h1 h2 h3
    have hrow : ∀ i u, (cur.toList.take (ys.length * 3))[i]? = some u → W.cell? ⟨g, i, none⟩ = some u := fun i u hu => by
      rw [cell_of_row W g i cur 29 (0, 0) hg]
      rw [List.getElem?_take] at hu
      split at hu
      · simpa using hu
      · cases hu
    refine ⟨g, fun w' => ?_, hrow _ _ h1, hrow _ _ h2, hrow _ _ h3⟩
    have := run_index_at (P := Tryd.prog) Tryd.underlying42 (fun w => Tryd.sizeOf29 w) g 0 ys.length cap j hj w'
    rwa [Nat.zero_add] at this
theorem RowAt.sentLen {w W : World} {ys : List Snt} {hs : List Bool} {sv av : Value} (h : RowAt w ys hs sv av W) (T : TypeId) (w' : World) : (Builtin.len_ #[42] T #[sv]).run Tryd.prog w' = .ok (.int .i64 (ys.length : Int)) w' := by
  rcases h.sent.2 with ⟨rfl, h0⟩ | ⟨g, cap, cur, rfl, _⟩
  · rw [h0]; simp [Builtin.len_, run_underlying Tryd.underlying42, Result.andThen, goInt]
  · simp [Builtin.len_, run_underlying Tryd.underlying42, Result.andThen, goInt]
end Go.Proofs.YtfdbmbgpcioogaaDoor
