/- Patterns added one by one; one more. -/
import Derived.Test.YtgoaljnfegaldaaDoorTa
namespace Go.Proofs.YtgoaljnfegaldaaDoor
open Go.RowKit

section
variable {β : Type}
/-- The first ones of a row, added one by one. -/
def addsN (max : Int) (f : Nat → Txt → β) (ps : List Txt) : Nat → Ents β
  | 0 => []
  | i + 1 => match ps[i]? with
    | none => addsN max f ps i
    | some p => (addE max (addsN max f ps i) p (f i p)).2
theorem adds_next {max : Int} {f : Nat → Txt → β} {ps : List Txt} {i : Nat} {p : Txt} (h : ps[i]? = some p) : addsN max f ps (i + 1) = (addE max (addsN max f ps i) p (f i p)).2 := by
  rw [addsN, h]
theorem add_two (max : Int) (l : Ents β) (p : Txt) (x : β) : (addE max l p x).2 = l ∨ (addE max l p x).2 = l ++ [(p, x)] := by
  unfold addE
  cases segsF p with
  | none => exact .inl rfl
  | some s =>
    dsimp only
    split
    · exact .inl rfl
    · split
      · exact .inl rfl
      · exact .inr rfl
theorem adds_wf (max : Int) (f : Nat → Txt → β) (ps : List Txt) : ∀ i, Wf (addsN max f ps i)
  | 0 => wf_nil
  | i + 1 => by
    cases h : ps[i]? with
    | none => rw [addsN, h]; exact adds_wf max f ps i
    | some p => rw [adds_next h]; exact add_wf (adds_wf max f ps i) _ _
theorem adds_len (max : Int) (f : Nat → Txt → β) (ps : List Txt) : ∀ i, (addsN max f ps i).length ≤ i
  | 0 => Nat.le_refl _
  | i + 1 => by
    have ih := adds_len max f ps i
    cases h : ps[i]? with
    | none => rw [addsN, h]; dsimp only; omega
    | some p =>
      rw [adds_next h]
      rcases add_two max (addsN max f ps i) p (f i p) with e | e
      · rw [e]; omega
      · rw [e, List.length_append]; show _ + 1 ≤ _; omega
theorem adds_mem (max : Int) (f : Nat → Txt → β) (ps : List Txt) : ∀ i, ∀ e ∈ addsN max f ps i, ∃ j, j < i ∧ ps[j]? = some e.1 ∧ e.2 = f j e.1
  | 0, e, h => by simp [addsN] at h
  | i + 1, e, h => by
    have ih := adds_mem max f ps i e
    cases hp : ps[i]? with
    | none =>
      rw [addsN, hp] at h
      obtain ⟨j, h1, h2⟩ := ih h
      exact ⟨j, by omega, h2⟩
    | some p =>
      rw [adds_next hp] at h
      rcases add_two max (addsN max f ps i) p (f i p) with e1 | e1
      · rw [e1] at h
        obtain ⟨j, h1, h2⟩ := ih h
        exact ⟨j, by omega, h2⟩
      · rw [e1] at h
        rcases List.mem_append.1 h with h | h
        · obtain ⟨j, h1, h2⟩ := ih h
          exact ⟨j, by omega, h2⟩
        · rw [List.mem_singleton] at h
          subst h
          exact ⟨i, by omega, hp, rfl⟩
theorem adds_small {max : Int} {f : Nat → Txt → β} {ps : List Txt} {i n : Nat} (h : ∀ s ∈ ps.take i, s.length ≤ n) : ∀ e ∈ addsN max f ps i, e.1.length ≤ n := fun e he => by
  obtain ⟨j, h1, h2, _⟩ := adds_mem max f ps i e he
  exact h e.1 (List.mem_of_getElem? (i := j) (by rw [List.getElem?_take, if_pos h1]; exact h2))
theorem add_one (e : Txt × β) (h : ∃ s, segsF e.1 = some s) : addE 1 [] e.1 e.2 = (0, [e]) := by
  obtain ⟨s, hs⟩ := h
  unfold addE
  rw [hs]
  rfl
theorem find_own {l : Ents β} {path : List Txt} {e : Txt × β} (h : IsBest l path e) : FindIs [e] path (some e) :=
  ⟨by simp, h.fits, fun f hf _ => by rw [List.mem_singleton] at hf; exact .inl hf⟩
theorem more_cases {L : Ents β} (hw : Wf L) (max : Int) {more : Txt} {path : List Txt} {r : Option (Txt × β)} (x : β) (hr : FindIs L path r) :
    (FindIs (addE max L more x).2 path r ∧ ((addE max L more x).1 ≠ 0 ∨ fdP r ≠ more)) ∨
    ((addE max L more x).1 = 0 ∧ FindIs (addE max L more x).2 path (some (more, x)) ∧ (∃ s, segsF more = some s) ∧ FindIs [(more, x)] path (some (more, x))) := by
  have hw' := add_wf (max := max) hw more x
  unfold addE at hw' ⊢
  cases hs : segsF more with
  | none => exact .inl ⟨hr, .inl (show (8 : Nat) ≠ 0 by decide)⟩
  | some s =>
    rw [hs] at hw'
    dsimp only at hw' ⊢
    split
    · exact .inl ⟨hr, .inl (show (5 : Nat) ≠ 0 by decide)⟩
    · rename_i ht
      rw [if_neg ht] at hw'
      split
      · exact .inl ⟨hr, .inl (show (6 : Nat) ≠ 0 by decide)⟩
      · rename_i hm
        rw [if_neg hm] at hw'
        rcases find_more hw' hr with h | ⟨hf, h⟩
        · refine .inl ⟨h, .inr fun e => ?_⟩
          cases r with
          | none =>
            have e1 : more = [] := e.symm
            rw [e1] at hs; cases hs
          | some y =>
            have e1 : y.1 = more := e
            refine ht (List.any_eq_true.2 ⟨y, hr.mem, ?_⟩)
            have e2 : segD y.1 = s := by unfold segD; rw [e1, hs]; rfl
            rw [e2]; exact twin_self s
        · exact .inr ⟨rfl, h, ⟨s, rfl⟩, find_own h⟩
end
end Go.Proofs.YtgoaljnfegaldaaDoor
