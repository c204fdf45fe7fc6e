/- The document's Runes and the package's characters are the same. -/
import Derived.Test.YtmamklahnpmgjaaS6
import Derived.Test.YtmamklahnpmgjaaW8
import Derived.Test.YtmamklahnpmgjaaW9
namespace Go.Proofs.Ytmamklahnpmgjaa

theorem charsF_tail : ∀ (T : List (UInt8 × UInt8)) (r : List UInt8) (i f : Nat), T ≠ [] →
    (pre T r = T.length → charsF i f T r = (f, i + T.length) :: charsF (i + T.length) (i + T.length) [] (r.drop T.length)) ∧ (pre T r ≠ T.length → charsF i f T r = [])
  | [], _, _, _, h => absurd rfl h
  | ab :: T, [], i, f, _ => ⟨fun h => by simp [pre] at h, fun _ => rfl⟩
  | ab :: T, c :: r, i, f, _ => by
    rw [pre_head]
    by_cases hw : within ab c = true
    · have hn : nextF (ab :: T) c = some T := by simp [nextF, hw]
      rw [if_pos hw]
      cases hT : T.isEmpty with
      | true =>
        obtain rfl : T = [] := List.isEmpty_iff.1 hT
        have h0 : pre [] r = 0 := by cases r <;> rfl
        refine ⟨fun _ => by rw [charsF_end hn hT]; rfl, fun h => absurd (by rw [h0]; rfl) h⟩
      | false =>
        have hne : T ≠ [] := fun h => by rw [h] at hT; cases hT
        obtain ⟨h1, h2⟩ := charsF_tail T r (i + 1) f hne
        rw [charsF_more hn hT]
        simp only [List.length_cons, List.drop_succ_cons]
        refine ⟨fun h => by rw [h1 (by omega), show i + 1 + T.length = i + (T.length + 1) by omega], fun h => h2 (by omega)⟩
    · have hn : nextF (ab :: T) c = none := by simp [nextF, hw]
      rw [if_neg hw, charsF_bad hn]
      exact ⟨fun h => by simp at h, fun _ => rfl⟩
theorem runes_chars (s : List UInt8) : ∀ (m p : Nat), s.length - p ≤ m → p ≤ s.length →
    runesF s p = ((charsF p p [] (s.drop p)).map (·.1), (charsF p p [] (s.drop p)).map (numAt s)) := by
  intro m
  induction m with
  | zero =>
    intro p hm hp
    rw [runes_stop (by omega), List.drop_eq_nil_of_le (by omega)]
    rfl
  | succ m ih =>
    intro p hm hp
    by_cases hlt : p < s.length
    · obtain ⟨c, r, hs⟩ : ∃ c r, s.drop p = c :: r := ⟨_, _, List.drop_eq_getElem_cons hlt⟩
      have hrl : r.length = s.length - p - 1 := by
        have := congrArg List.length hs
        rw [List.length_drop, List.length_cons] at this; omega
      have hrd : ∀ j, r.drop j = s.drop (p + (j + 1)) := fun j => by
        rw [← List.drop_drop, hs, List.drop_succ_cons]
      rcases one_start hs with ⟨hn, h1⟩ | ⟨T, hn, h1⟩
      · rw [runes_stop (by omega), hs, charsF_bad hn]
        rfl
      · have hpl := pre_le T r
        by_cases ha : pre T r = T.length
        · rw [if_pos ha] at h1
          have hch : charsF p p [] (c :: r) = (p, p + (T.length + 1)) :: charsF (p + (T.length + 1)) (p + (T.length + 1)) [] (s.drop (p + (T.length + 1))) := by
            cases hT : T.isEmpty with
            | true =>
              obtain rfl : T = [] := List.isEmpty_iff.1 hT
              rw [charsF_end hn hT]
              have := hrd 0
              rw [List.drop_zero] at this
              rw [this]; rfl
            | false =>
              have hne : T ≠ [] := fun h => by rw [h] at hT; cases hT
              rw [charsF_more hn hT, (charsF_tail T r (p + 1) p hne).1 ha, hrd, show p + 1 + T.length = p + (T.length + 1) by omega]
          rw [runes_go hlt h1 (by omega), hs, hch, ih (p + (T.length + 1)) (by omega) (by omega), List.map_cons, List.map_cons, numAt, Nat.add_sub_cancel_left, hs]
        · rw [if_neg ha] at h1
          have hT : T.isEmpty = false := by
            cases T with
            | nil => exact absurd (by cases r <;> rfl) ha
            | cons ab T => rfl
          have hne : T ≠ [] := fun h => by rw [h] at hT; cases hT
          have hle : one s p ≤ 0 := by split at h1 <;> omega
          rw [runes_stop (by omega), hs, charsF_more hn hT, (charsF_tail T r (p + 1) p hne).2 ha]
          rfl
    · rw [runes_stop (by omega), List.drop_eq_nil_of_le (by omega)]
      rfl
theorem runes_are (s : List UInt8) : runesF s 0 = ((chars s).map (·.1), (chars s).map (numAt s)) := runes_chars s s.length 0 (by omega) (Nat.zero_le _)
end Go.Proofs.Ytmamklahnpmgjaa
