/- The document's shapes: nine lists of bounds, in memory. -/
import Derived.Test.YtmamklahnpmgjaaGen
import Derived.Test.YtmamklahnpmgjaaRows
namespace Go.Proofs.Ytmamklahnpmgjaa
open Go.RowKit

/-- The bounds of characters' bytes. -/
def shp : List (List (UInt8 × UInt8)) :=
  [[(0, 127)], [(194, 223), (128, 191)], [(224, 224), (160, 191), (128, 191)], [(225, 236), (128, 191), (128, 191)], [(237, 237), (128, 159), (128, 191)], [(238, 239), (128, 191), (128, 191)],
    [(240, 240), (144, 191), (128, 191), (128, 191)], [(241, 243), (128, 191), (128, 191), (128, 191)], [(244, 244), (128, 143), (128, 191), (128, 191)]]
def flat : List (UInt8 × UInt8) → List Value
  | [] => []
  | (a, b) :: r => B a :: B b :: flat r
def heads (g : Nat) : Nat → List (List (UInt8 × UInt8)) → List Value
  | _, [] => []
  | i, l :: r => .slice (some ⟨g + 1 + i, 0, none⟩) l.length l.length :: heads g (i + 1) r
/-- The nine shapes lie from block g on. -/
def Shapes (w : World) (g : Nat) : Prop :=
  (∀ i l, shp[i]? = some l → w.heap[g + 1 + i]? = some (.cells (flat l).toArray 58 (0, 0))) ∧ w.heap[g + 10]? = some (.cells (heads g 0 shp).toArray 57 (0, 0))
theorem Shapes.below {w w' : World} {g b : Nat} (h : Shapes w g) (hb : Below b w w') (hg : g + 10 < b) : Shapes w' g := by
  obtain ⟨h1, h2⟩ := h
  refine ⟨fun i l hi => ?_, by rw [hb.block _ hg]; exact h2⟩
  have hlt := (List.getElem?_eq_some_iff.1 hi).1
  have : i < 9 := hlt
  rw [hb.block _ (by omega)]; exact h1 i l hi

theorem alloc_at (w : World) (o : Obj) (k : Nat) (h : k = w.heap.size) : (w.alloc o).heap[k]? = some o := by subst h; exact heap_alloc_last w o
theorem alloc_at_old (w : World) (o o' : Obj) (k : Nat) (h : w.heap[k]? = some o') : (w.alloc o).heap[k]? = some o' := by
  rw [heap_alloc_old w o (Array.getElem?_eq_some_iff.1 h).1]; exact h

def SomeShapes (w : World) (e : Ending) (w' : World) : Prop := e = .returned (.slice (some ⟨w.heap.size + 10, 0, none⟩) 9 9) ∧ Shapes w' w.heap.size ∧ Below w.heap.size w w'
set_option maxRecDepth 100000 in
set_option maxHeartbeats 2000000 in
theorem shapes_any (w : World) : Calls Try.prog 28 #[] w (SomeShapes w) := by
  go_enter Try.func28, Try.ntmps28
  go_wp2
  go_ret
  refine ⟨rfl, ⟨fun i l hi => ?_, ?_⟩, ?_⟩
  · match i, hi with
    | 0, hi => obtain rfl := Option.some.inj hi; repeat (first | exact alloc_at _ _ _ (by simp) | refine alloc_at_old _ _ _ _ ?_)
    | 1, hi => obtain rfl := Option.some.inj hi; repeat (first | exact alloc_at _ _ _ (by simp) | refine alloc_at_old _ _ _ _ ?_)
    | 2, hi => obtain rfl := Option.some.inj hi; repeat (first | exact alloc_at _ _ _ (by simp) | refine alloc_at_old _ _ _ _ ?_)
    | 3, hi => obtain rfl := Option.some.inj hi; repeat (first | exact alloc_at _ _ _ (by simp) | refine alloc_at_old _ _ _ _ ?_)
    | 4, hi => obtain rfl := Option.some.inj hi; repeat (first | exact alloc_at _ _ _ (by simp) | refine alloc_at_old _ _ _ _ ?_)
    | 5, hi => obtain rfl := Option.some.inj hi; repeat (first | exact alloc_at _ _ _ (by simp) | refine alloc_at_old _ _ _ _ ?_)
    | 6, hi => obtain rfl := Option.some.inj hi; repeat (first | exact alloc_at _ _ _ (by simp) | refine alloc_at_old _ _ _ _ ?_)
    | 7, hi => obtain rfl := Option.some.inj hi; repeat (first | exact alloc_at _ _ _ (by simp) | refine alloc_at_old _ _ _ _ ?_)
    | 8, hi => obtain rfl := Option.some.inj hi; repeat (first | exact alloc_at _ _ _ (by simp) | refine alloc_at_old _ _ _ _ ?_)
    | _ + 9, hi => simp [shp] at hi
  · exact alloc_at _ _ _ (by simp)
  · repeat (first | exact Below.refl _ _ | refine Below.alloc ?_ (by first | (simp only [alloc_size]; omega) | exact Nat.le_refl _) _)
end Go.Proofs.Ytmamklahnpmgjaa
