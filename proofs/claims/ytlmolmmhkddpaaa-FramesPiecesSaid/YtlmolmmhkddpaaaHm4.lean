/- A walk that is left and taken up again (stage 16): as list functions. -/
import Derived.Test.YtlmolmmhkddpaaaHa
namespace Go.Proofs.Ytlmolmmhkddpaaa
open Go.RowKit
theorem all_cons {st : Fst} {e : Ev} {t : List Ev} (h : allF st = e :: t) : ∃ st', nextF st = some (e, st') ∧ allF st' = t := by
  cases hn : nextF st with
  | none => rw [(all_none hn).1] at h; cases h
  | some x =>
    obtain ⟨e', st'⟩ := x
    rw [(all_some hn).1] at h
    injection h with h1 h2
    exact ⟨st', by rw [h1], h2⟩
theorem step_succ {st st' : Fst} {e : Ev} (h : nextF st = some (e, st')) (k : Nat) : stepS st (k + 1) = stepS st' k := by
  unfold stepS
  rw [runF, h]
theorem all_step : ∀ (k : Nat) (st : Fst), k ≤ (allF st).length → allF (stepS st k) = (allF st).drop k
  | 0, st, _ => rfl
  | k + 1, st, h => by
    cases ha : allF st with
    | nil => rw [ha] at h; exact absurd h (Nat.not_succ_le_zero _)
    | cons e t =>
      obtain ⟨st', hn, ht⟩ := all_cons ha
      rw [ha] at h
      rw [step_succ hn, all_step k st' (by rw [ht]; exact Nat.le_of_succ_le_succ h), ht, List.drop_succ_cons]
theorem step_one : ∀ (k : Nat) (st : Fst), k < (allF st).length → stepS (stepS st k) 1 = stepS st (k + 1)
  | 0, st, _ => rfl
  | k + 1, st, h => by
    cases ha : allF st with
    | nil => rw [ha] at h; exact absurd h (Nat.not_lt_zero _)
    | cons e t =>
      obtain ⟨st', hn, ht⟩ := all_cons ha
      rw [ha] at h
      rw [step_succ hn, step_succ hn, step_one k st' (by rw [ht]; exact Nat.lt_of_succ_lt_succ h)]
/-- What the next walk tells, behind so many. -/
theorem all_head {st : Fst} {pre : List Ev} {e : Ev} (h : pre ++ [e] <+: allF st) : ∃ t, allF (stepS st pre.length) = e :: t ∧ stepS (stepS st pre.length) 1 = stepS st (pre.length + 1) := by
  obtain ⟨t, ht⟩ := h
  have hl : pre.length < (allF st).length := by rw [← ht]; simp
  refine ⟨t, ?_, step_one _ _ hl⟩
  rw [all_step _ _ (by omega), ← ht, List.append_assoc, List.drop_left']
  · rfl
  · rfl
end Go.Proofs.Ytlmolmmhkddpaaa
