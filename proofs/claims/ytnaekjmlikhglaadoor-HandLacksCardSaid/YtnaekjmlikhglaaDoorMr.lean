/- Rows of bytes, it may be with a mark behind them (out of Ew3 and Ew4; mkdi.py writes it; not beside those). -/
import Derived.Test.YtnaekjmlikhglaaDoorDa
namespace Go.Proofs.YtnaekjmlikhglaaDoor
open Go.RowKit
attribute [local go_sem] store_one B_match B_store S_match S_store

theorem wsize5 : ∀ w, (sizeOf 5).run Tryd.prog w = .ok 1 w := fun w => by go_simp
theorem widx_byte (g o n c i : Nat) (hi : i < n) (p : Nat) (hp : p = o + i) (W : World) : (Instr.indexAt 42 (.slice (some ⟨g, o, none⟩) n c) (.int .i64 (i : Int))).run Tryd.prog W = .ok (.pointer (some ⟨g, p, none⟩)) W := by
  have h := run_index_at (P := Tryd.prog) (sz := 1) Tryd.underlying42 wsize5 g o n c i hi W
  rw [Nat.mul_one] at h
  rw [hp]; exact h
/-- A row of bytes, it may be with a mark behind them. -/
def MRow (w : World) (g : Nat) (L : List UInt8) (t : TypeId) (fr : Nat × Nat) : Prop := w.heap[g]? = some (.cells (bcells L) t fr) ∧ (fr.2 = 0 ∨ L.length ≤ fr.1)
theorem MRow.lt {w : World} {g : Nat} {L : List UInt8} {t : TypeId} {fr : Nat × Nat} (h : MRow w g L t fr) : g < w.heap.size := (Array.getElem?_eq_some_iff.1 h.1).1
theorem MRow.cell {w : World} {g : Nat} {L : List UInt8} {t : TypeId} {fr : Nat × Nat} (h : MRow w g L t fr) {p : Nat} {x : UInt8} (hx : L[p]? = some x) : w.cell? ⟨g, p, none⟩ = some (B x) := by
  rw [cell_of_row w g p _ t fr h.1, bcells_get L p (List.getElem?_eq_some_iff.1 hx).1, hx]; rfl
theorem MRow.frozen {w : World} {g : Nat} {L : List UInt8} {t : TypeId} {fr : Nat × Nat} (h : MRow w g L t fr) {p : Nat} (hp : p < L.length) : w.frozen? ⟨g, p, none⟩ = false := by
  obtain ⟨a, b⟩ := fr
  simp only [World.frozen?, h.1]
  rcases h.2 with e | e
  · obtain rfl : b = 0 := e
    simp
  · have e2 : ¬ a ≤ p := by have : L.length ≤ a := e; omega
    simp [e2]
theorem MRow.drew {w : World} {g : Nat} {L : List UInt8} {t : TypeId} {fr : Nat × Nat} (h : MRow w g L t fr) : MRow w.drew g L t fr := h
theorem MRow.alloc {w : World} {g : Nat} {L : List UInt8} {t : TypeId} {fr : Nat × Nat} (h : MRow w g L t fr) (o : Obj) : MRow (w.alloc o) g L t fr := ⟨(heap_alloc_old w o h.lt).trans h.1, h.2⟩
theorem MRow.set {w : World} {g : Nat} {L : List UInt8} {t : TypeId} {fr : Nat × Nat} (h : MRow w g L t fr) (p : Nat) (y : UInt8) {L' : List UInt8} (e : L' = L.set p y) : MRow (w.setCell ⟨g, p, none⟩ (B y)) g L' t fr := by
  subst e
  refine ⟨?_, by rw [List.length_set]; exact h.2⟩
  have := h.1
  simp [World.setCell, Array.getElem?_modify, this, bcells_set]
theorem MRow.keeps {w w' : World} {g b : Nat} {L : List UInt8} {t : TypeId} {fr : Nat × Nat} (h : MRow w g L t fr) (k : Keeps b w w') (hn : g ≠ b) : MRow w' g L t fr := ⟨(k.block g h.lt hn).trans h.1, h.2⟩
theorem MRow.below {w w' : World} {g : Nat} {L : List UInt8} {t : TypeId} {fr : Nat × Nat} (h : MRow w g L t fr) (k : Below w.heap.size w w') : MRow w' g L t fr := ⟨(k.block g h.lt).trans h.1, h.2⟩
theorem mrow_text {w : World} {g : Nat} {L Z : List UInt8} {t : TypeId} {fr : Nat × Nat} (h : MRow w g (L ++ Z) t fr) (c : Nat) : (convert 42 9 (.slice (some ⟨g, 0, none⟩) L.length c)).run Tryd.prog w = .ok (S L) w := by
  refine run_convert_bytes_back w 42 9 5 ⟨g, 0, none⟩ c L Tryd.underlying42 Tryd.underlying5 Tryd.underlying9 fun j hj => ?_
  rw [Addr.add_mid, Nat.zero_add]
  exact h.cell (by rw [List.getElem?_append_left hj, List.getElem?_eq_getElem hj])
theorem bytes_row (w : World) (s : List UInt8) : ∃ c Z W, (convert 9 42 (S s)).run Tryd.prog w = .ok (.slice (some ⟨w.heap.size, 0, none⟩) s.length c) W ∧ MRow W w.heap.size (s ++ Z) 5 (s.length + Z.length, s.length + Z.length + 1) ∧ Below w.heap.size w W := by
  have hr := Go.Lib.run_convert_string_bytes (P := Tryd.prog) w 9 42 5 ⟨s.toArray⟩ Tryd.underlying9 Tryd.underlying42 Tryd.underlying5
  have hsz : (⟨s.toArray⟩ : ByteArray).size = s.length := by simp [ByteArray.size]
  have hcl : Lib.bytesCells w 5 ⟨s.toArray⟩ = bcells (s ++ List.replicate (grownCap w s.length 0 5 - s.length) 0) := by
    unfold Lib.bytesCells bcells
    rw [hsz, List.map_append, List.map_replicate]
    apply Array.toList_inj.1
    simp [B]
  have hlen : (Lib.bytesCells w 5 ⟨s.toArray⟩).size = s.length + (List.replicate (grownCap w s.length 0 5 - s.length) (0 : UInt8)).length := by rw [hcl, bcells_size, List.length_append]
  refine ⟨grownCap w s.length 0 5, List.replicate (grownCap w s.length 0 5 - s.length) 0, Lib.bytesWorld w 5 ⟨s.toArray⟩, by rw [← hsz]; exact hr, ⟨?_, .inr (by rw [List.length_append]; exact Nat.le_refl _)⟩, ?_⟩
  · have := Lib.bytesWorld_at_new w 5 ⟨s.toArray⟩
    rw [hlen, hcl] at this
    exact this
  · refine ⟨?_, ?_, ?_, by rw [Lib.bytesWorld_size]; omega, fun k hk => Lib.bytesWorld_at_old w 5 _ k hk⟩
    all_goals (unfold Lib.bytesWorld World.freeze; split <;> rfl)
end Go.Proofs.YtnaekjmlikhglaaDoor
