/- does, whatever the act. -/
import Derived.Test.YtkekjcdhlkhhoaaL6
namespace Go.Proofs.Ytkekjcdhlkhhoaa
open Go.RowKit
attribute [local go_sem] store_one S_match S_store

theorem does_any {RA : World → (Nat → Prop) → Nat → Nat → List (List UInt8) → Prop} (R : RingS RA) {g h m : Nat} {F G : Nat → Prop} {xs : List (List UInt8)} (D N : Int) (u : List UInt8) (hu : u.length ≤ 20000) (w : World) (H : Both RA g h m F G xs xs w) :
    Calls Try.prog 19 #[.pointer (some ⟨g, 0, none⟩), .pointer (some ⟨h, 0, none⟩), .agg #[.int .i64 D, .int .i64 N, S u]] w fun e w' => e = .returned (.bool true) ∧ ∃ ys, Side RA g h m F G ys ys w w' := by
  by_cases h0 : D = 0
  · subst h0; exact does_push R N u hu w H
  by_cases h1 : D = 1
  · subst h1
    cases xs with
    | nil => exact does_pop_none R N u w H
    | cons x r => exact does_pop_some R N u w H
  by_cases h2 : D = 2
  · subst h2
    by_cases hN : N < 0 ∨ (xs.length : Int) ≤ N
    · exact does_at_none R N u hN w H
    · obtain ⟨i, rfl⟩ : ∃ i : Nat, N = (i : Int) := ⟨N.toNat, by omega⟩
      exact does_at_some R i u (List.getElem?_eq_getElem (by omega)) w H
  by_cases h3 : D = 3
  · subst h3
    by_cases hN : N < 0 ∨ (xs.length : Int) ≤ N
    · exact does_set_none R N u hN w H
    · obtain ⟨i, rfl⟩ : ∃ i : Nat, N = (i : Int) := ⟨N.toNat, by omega⟩
      exact does_set_some R i u (by omega) w H
  by_cases h4 : D = 4
  · subst h4; exact does_clear R N u w H
  by_cases h5 : D = 5
  · subst h5; exact does_walk R N u hu w H
  exact does_none R D N h0 h1 h2 h3 h4 h5 u w H
end Go.Proofs.Ytkekjcdhlkhhoaa
