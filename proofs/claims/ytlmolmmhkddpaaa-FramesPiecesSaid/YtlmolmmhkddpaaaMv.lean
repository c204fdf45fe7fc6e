/- The frame by footprints: a thing whose blocks were F is one of F' now; two things side by side. Over any program. -/
import Derived.Test.YtlmolmmhkddpaaaGen6
namespace Go.Proofs.Ytlmolmmhkddpaaa
open Go.RowKit

/-- A thing whose blocks were F is one of F' now: nothing else that there was has turned. -/
structure Moves (F F' : Nat → Prop) (w w' : World) : Prop where
  os : w'.os = w.os
  tape : w'.tape = w.tape
  output : w'.output = w.output
  size : w.heap.size ≤ w'.heap.size
  foot : ∀ k, F' k → F k ∨ w.heap.size ≤ k
  rest : ∀ k, k < w.heap.size → ¬ F k → w'.heap[k]? = w.heap[k]?
section
variable {F F' F'' G : Nat → Prop} {w w' w'' : World} {n : Nat}
theorem Moves.of_below (h : Below w.heap.size w w') : Moves F F w w' := ⟨h.os, h.tape, h.output, h.size, fun _ hk => .inl hk, fun k hk _ => h.block k hk⟩
theorem Moves.refl (F : Nat → Prop) (w : World) : Moves F F w w := ⟨rfl, rfl, rfl, Nat.le_refl _, fun _ hk => .inl hk, fun _ _ _ => rfl⟩
theorem Moves.trans (h : Moves F F' w w') (k : Moves F' F'' w' w'') : Moves F F'' w w'' :=
  ⟨k.os.trans h.os, k.tape.trans h.tape, k.output.trans h.output, Nat.le_trans h.size k.size, fun j hj => by
    rcases k.foot j hj with h1 | h1
    · exact h.foot j h1
    · have := h.size; exact .inr (by omega), fun j hj hn => (k.rest j (Nat.lt_of_lt_of_le hj h.size) (fun hf => by
      rcases h.foot j hf with h1 | h1
      · exact hn h1
      · omega)).trans (h.rest j hj hn)⟩
/-- What lies apart stays as it is, and apart. -/
theorem Moves.apart (h : Moves F F' w w') (hG : ∀ k, G k → k < w.heap.size ∧ ¬ F k) : (∀ k, G k → w'.heap[k]? = w.heap[k]?) ∧ ∀ k, G k → k < w'.heap.size ∧ ¬ F' k :=
  ⟨fun k hk => h.rest k (hG k hk).1 (hG k hk).2, fun k hk => ⟨Nat.lt_of_lt_of_le (hG k hk).1 h.size, fun hf => by
    rcases h.foot k hf with h1 | h1
    · exact (hG k hk).2 h1
    · have := (hG k hk).1; omega⟩⟩
theorem Moves.below (h : Moves F F' w w') (hF : ∀ k, F k → n ≤ k) (hn : n ≤ w.heap.size) : Below n w w' :=
  ⟨h.os, h.tape, h.output, h.size, fun k hk => h.rest k (by omega) (fun hf => by have := hF k hf; omega)⟩
theorem Row.moves {b : Nat} {cs : Array Value} {t : TypeId} (hr : Row w b cs t) (h : Moves F F' w w') (hn : ¬ F b) : Row w' b cs t := by
  unfold Row; rw [h.rest b hr.lt hn]; exact hr
/-- All that it may turn lies from n on. -/
theorem Moves.from (h : Moves F F' w w') (hF : ∀ k, F k → n ≤ k) (hn : n ≤ w.heap.size) : ∀ k, F' k → n ≤ k := fun k hk => by
  rcases h.foot k hk with h1 | h1
  · exact hF k h1
  · omega
end
end Go.Proofs.Ytlmolmmhkddpaaa
