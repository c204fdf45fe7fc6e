/- The landed ring does what is asked of it. -/
import Derived.Test.YtkekjcdhlkhhoaaRf9
import Derived.Test.YtkekjcdhlkhhoaaLe
import Derived.Test.YtkekjcdhlkhhoaaRn10
namespace Go.Proofs.Ytkekjcdhlkhhoaa
namespace Rf
open Go.RowKit

/-- A ring by its blocks. -/
def RA (w : World) (F : Nat → Prop) (g m : Nat) (xs : List (List UInt8)) : Prop := ∃ v f cs, Core w g m v f cs xs ∧ ∀ k, F k ↔ Foot g v k
section
variable {w w' : World} {F : Nat → Prop} {g m : Nat} {xs ys : List (List UInt8)} {v : Value}
theorem RA.lt (h : RA w F g m xs) : F g ∧ ∀ k, F k → k < w.heap.size := by
  obtain ⟨v, f, cs, hc, hF⟩ := h
  exact ⟨(hF g).2 (.inl rfl), fun k hk => hc.look.2 k ((hF k).1 hk)⟩
theorem RA.fits (h : RA w F g m xs) : xs.length ≤ m ∧ m ≤ 65536 := by
  obtain ⟨v, f, cs, hc, _⟩ := h
  exact ⟨Nat.le_trans hc.turned.1 hc.cap, hc.most⟩
theorem RA.same (h : RA w F g m xs) (hs : w.heap.size ≤ w'.heap.size) (hb : ∀ k, F k → w'.heap[k]? = w.heap[k]?) : RA w' F g m xs := by
  obtain ⟨v, f, cs, hc, hF⟩ := h
  exact ⟨v, f, cs, hc.same hs (hb g ((hF g).2 (.inl rfl))) (fun k hk => hb k ((hF k).2 (.inr hk))), hF⟩
theorem RA.moved (hF : ∀ k, F k ↔ Foot g v k) (h : ∃ v' f' cs', Core w' g m v' f' cs' ys ∧ Moves (Foot g v) (Foot g v') w w') : ∃ F', RA w' F' g m ys ∧ Moves F F' w w' := by
  obtain ⟨v', f', cs', h1, h2⟩ := h
  obtain rfl : F = Foot g v := funext fun k => propext (hF k)
  exact ⟨Foot g v', ⟨v', f', cs', h1, fun k => Iff.rfl⟩, h2⟩
theorem RA.held {f : Nat} {cs : List (List UInt8)} (hc : Core w g m v f cs xs) (hF : ∀ k, F k ↔ Foot g v k) (hb : Below w.heap.size w w') : ∃ F', RA w' F' g m xs ∧ Moves F F' w w' :=
  ⟨F, ⟨v, f, cs, hc.below hb, hF⟩, Moves.of_below hb⟩
theorem has_none (hc : ∃ v f cs, Core w g m v f cs xs) (n : Int) (hn : n < 0 ∨ (xs.length : Int) ≤ n) : Calls Try.prog 43 #[.pointer (some ⟨g, 0, none⟩), .int .i64 n] w fun e w' => e = .returned (.bool false) ∧ w' = w := by
  obtain ⟨v, f, cs, hc⟩ := hc
  refine has_of (len_core hc) n false ?_
  rcases hn with h | h
  · rw [decide_eq_false (by omega), Bool.false_and]
  · rw [decide_eq_false (p := n < (xs.length : Int)) (by omega), Bool.and_false]
theorem has_nil (n : Int) (w : World) : Calls Try.prog 43 #[.pointer none, .int .i64 n] w fun e w' => e = .returned (.bool false) ∧ w' = w := by
  refine has_of (n := 0) (len_nil w) n false ?_
  rcases Int.lt_or_le n 0 with h | h
  · rw [decide_eq_false (by omega), Bool.false_and]
  · rw [decide_eq_false (p := n < ((0 : Nat) : Int)) (by omega), Bool.and_false]
end
theorem refl_of {R : Ending → Prop} {f : Nat} {a : Array Value} {w : World} (h : Calls Try.prog f a w fun e w' => R e ∧ w' = w) : Calls Try.prog f a w fun e w' => R e ∧ Below w.heap.size w w' :=
  h.mono (by rintro e w' ⟨h1, rfl⟩; exact ⟨h1, Below.refl _ _⟩)
/-- The landed ring of fields. -/
theorem ringF : RingF RA where
  lt := RA.lt
  same := RA.same
  new_good m w h1 h2 := (new_core m w h1 h2).mono (by
    rintro e w' ⟨he, hc, hb⟩
    exact ⟨_, Foot w.heap.size (.slice none 0 0), he, ⟨_, _, _, hc, fun k => Iff.rfl⟩, fun k hk => (by
      rcases hk with rfl | hk
      · exact Nat.le_refl _
      · cases hk), hb⟩)
  push := fun {w F g m xs} x h _ => by
    have hfit := h.fits.1
    obtain ⟨v, f, cs, hc, hF⟩ := h
    refine (push_core hc x hfit).mono ?_
    rintro e w' ⟨he, h1, h2⟩
    refine ⟨he, ?_⟩
    by_cases hlt : xs.length < m
    · rw [if_pos hlt]; exact RA.moved hF (h1 hlt)
    · rw [if_neg hlt]; exact RA.held hc hF (h2 hlt)
  pop_some := fun {w F g m x r} h => by
    obtain ⟨v, f, cs, hc, hF⟩ := h
    refine (pop_core hc).mono ?_
    rintro e w' ⟨he, h1⟩
    exact ⟨he, RA.moved hF h1⟩
  at_none := fun {w F g m xs} n h hn => by
    obtain ⟨v, f, cs, hc, _⟩ := h
    exact at_none_of n (fun W hb => has_none ⟨v, f, cs, hc.below hb⟩ n hn)
  clear := fun {w F g m xs} h => by
    obtain ⟨v, f, cs, hc, hF⟩ := h
    refine (clear_core hc).mono ?_
    rintro e w' ⟨he, h1⟩
    exact ⟨he, RA.moved hF h1⟩
  len := fun {w F g m xs} h => by
    obtain ⟨v, f, cs, hc, _⟩ := h
    exact refl_of (len_core hc)
  all := fun {w F g m xs} h => by
    obtain ⟨v, f, cs, hc, _⟩ := h
    exact all_any _ _ xs w hc.look.1 hc.look.2
  int_bad n w h := Rn.refl_of (Rn.new_bad n w h)
  int_good n w h1 h2 := (Rn.new_int n w h1 h2).mono (by
    rintro e w' ⟨he, rfl⟩
    exact ⟨_, he, (Below.refl _ w).alloc (Nat.le_refl _) _⟩)
end Rf
end Go.Proofs.Ytkekjcdhlkhhoaa
