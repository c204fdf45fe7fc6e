/- Rows of texts, wherever they lie. -/
import Derived.Test.YtbnlkjoblngakaaDoorGen9
import Derived.Test.YtbnlkjoblngakaaDoorMv
import Derived.Test.YtbnlkjoblngakaaDoorProg
namespace Go.Proofs.YtbnlkjoblngakaaDoor
open Go.RowKit

/-- A row of texts, wherever it lies in its block. -/
structure TA (w : World) (V : Value) (l : List (List UInt8)) (b o : Nat) : Prop where
  len : ∀ T w', (Builtin.len_ #[68] T #[V]).run Tryd.prog w' = .ok (.int .i64 (l.length : Int)) w'
  index : ∀ i, i < l.length → ∀ w', (Instr.indexAt 68 V (.int .i64 (i : Int))).run Tryd.prog w' = .ok (.pointer (some ⟨b, o + i, none⟩)) w'
  cell : ∀ i s, l[i]? = some s → w.cell? ⟨b, o + i, none⟩ = some (S s)
  form : ∃ a c, V = .slice a l.length c
  cap : l = [] ∨ ∃ c, V = .slice (some ⟨b, o, none⟩) l.length c ∧ l.length ≤ c
theorem TA.below {w w' : World} {V : Value} {l : List (List UInt8)} {b o : Nat} (h : TA w V l b o) (hb : Below w.heap.size w w') : TA w' V l b o :=
  ⟨h.len, h.index, fun i s hs => by
    have h1 := h.cell i s hs
    rw [hb.cell (World.block_lt_of_cell? w _ h1)]; exact h1, h.form, h.cap⟩
theorem lenT (a : Option Addr) (n c : Nat) (T : TypeId) (w' : World) : (Builtin.len_ #[68] T #[.slice a n c]).run Tryd.prog w' = .ok (.int .i64 (n : Int)) w' := by
  simp [Builtin.len_, run_underlying Tryd.underlying68, Result.andThen, goInt]
theorem indexT (b o n c i : Nat) (hi : i < n) (w' : World) : (Instr.indexAt 68 (.slice (some ⟨b, o, none⟩) n c) (.int .i64 (i : Int))).run Tryd.prog w' = .ok (.pointer (some ⟨b, o + i, none⟩)) w' := by
  have := run_index_at (P := Tryd.prog) Tryd.underlying68 (fun w => Tryd.sizeOf9 w) b o n c i hi w'
  rwa [Nat.mul_one] at this
theorem ta_nil (w : World) (a : Option Addr) (c : Nat) : TA w (.slice a 0 c) [] 0 0 :=
  ⟨fun T w' => lenT a 0 c T w', fun i hi => absurd hi (by simp), fun i s hs => (by simp at hs), ⟨a, c, rfl⟩, .inl rfl⟩
theorem ta_row {w : World} {g : Nat} {l : List (List UInt8)} {n c : Nat} (h : Row w g (l.map S).toArray 9) (hn : n = l.length) (hc : n ≤ c := by omega) : TA w (.slice (some ⟨g, 0, none⟩) n c) l g 0 := by
  subst hn
  exact ⟨fun T w' => lenT _ _ _ T w', fun i hi w' => indexT g 0 _ c i hi w', fun i s hs => by
    rw [cell_of_row w g _ _ 9 (0, 0) h, List.getElem?_toArray, List.getElem?_map, Nat.zero_add, hs]; rfl, ⟨_, _, rfl⟩, .inr ⟨c, rfl, hc⟩⟩
theorem ta_own {w : World} {base : Nat} {V : Value} {l : List (List UInt8)} (h : Own base V (l.map S) w) : ∃ b, TA w V l b 0 := by
  rcases h with ⟨rfl, h0⟩ | ⟨g, cap, rfl, h1, h2, h3, h4, h5, h6⟩
  · have : l = [] := by simpa using h0
    subst this
    exact ⟨0, ta_nil w none 0⟩
  · rw [List.length_map]
    exact ⟨g, fun T w' => lenT _ _ _ T w', fun i hi w' => indexT g 0 _ cap i hi w', fun i s hs => h5 i (S s) (by rw [List.getElem?_map, hs]; rfl), ⟨_, _, rfl⟩, .inr ⟨cap, rfl, by rw [List.length_map] at h3; exact h3⟩⟩
end Go.Proofs.YtbnlkjoblngakaaDoor
