/- What FieldParts speaks of: the parts of texts that commas join. -/
import Derived.Test.YtccccpbaolegcaaDoorFc
namespace Go.Proofs.YtccccpbaolegcaaDoor
open Go.RowKit

theorem pts_join (r : List UInt8) : ∀ (a cur : List UInt8), ptsF cur (a ++ 44 :: r) = ptsF cur a ++ partsF r
  | [], cur => by rw [List.nil_append, pts_comma]; rfl
  | c :: a, cur => by
    by_cases h : c = 44
    · subst h
      rw [List.cons_append, pts_comma, pts_comma, pts_join r a [], List.append_assoc]
    · rw [List.cons_append, pts_more _ _ h, pts_more _ _ h, pts_join r a]
theorem parts_join (a r : List UInt8) : partsF (a ++ 44 :: r) = partsF a ++ partsF r := pts_join r a []
/-- Without a comma there is one piece. -/
theorem pts_plain : ∀ (q cur : List UInt8), 44 ∉ q → ptsF cur q = keepF (cur ++ q)
  | [], cur, _ => by rw [List.append_nil]; rfl
  | c :: q, cur, h => by
    rw [List.mem_cons, not_or] at h
    rw [pts_more _ _ (fun e => h.1 e.symm), pts_plain q _ h.2, List.append_assoc, List.singleton_append]
theorem blank_comma {q : List UInt8} (h : q.all blankB = true) : 44 ∉ q := fun hm => by
  have := List.all_eq_true.1 h 44 hm
  exact absurd this (by decide)
theorem keep_back {p q : List UInt8} (h : q.all blankB = true) : keepF (p ++ q) = keepF p := by unfold keepF; rw [bare_back h]
theorem keep_front {p q : List UInt8} (h : q.all blankB = true) : keepF (q ++ p) = keepF p := by unfold keepF; rw [bare_front h]
theorem pts_back {q : List UInt8} (hq : q.all blankB = true) : ∀ (s cur : List UInt8), ptsF cur (s ++ q) = ptsF cur s
  | [], cur => by rw [List.nil_append, pts_plain _ _ (blank_comma hq), keep_back hq]; rfl
  | c :: s, cur => by
    by_cases h : c = 44
    · subst h
      rw [List.cons_append, pts_comma, pts_comma, pts_back hq s]
    · rw [List.cons_append, pts_more _ _ h, pts_more _ _ h, pts_back hq s]
theorem pts_front {q : List UInt8} (hq : q.all blankB = true) : ∀ (s cur : List UInt8), ptsF (q ++ cur) s = ptsF cur s
  | [], cur => keep_front hq
  | c :: s, cur => by
    by_cases h : c = 44
    · subst h
      rw [pts_comma, pts_comma, keep_front hq]
    · rw [pts_more _ _ h, pts_more _ _ h, List.append_assoc, pts_front hq s]
theorem pts_move : ∀ (q s cur : List UInt8), 44 ∉ q → ptsF cur (q ++ s) = ptsF (cur ++ q) s
  | [], s, cur, _ => by rw [List.append_nil]; rfl
  | c :: q, s, cur, h => by
    rw [List.mem_cons, not_or] at h
    rw [List.cons_append, pts_more _ _ (fun e => h.1 e.symm), pts_move q s _ h.2, List.append_assoc, List.singleton_append]
theorem parts_lead {q : List UInt8} (hq : q.all blankB = true) (s : List UInt8) : partsF (q ++ s) = partsF s := by
  unfold partsF
  rw [pts_move q s [] (blank_comma hq), List.nil_append]
  have := pts_front hq s []
  rwa [List.append_nil] at this
/-- The parts of two texts, with a comma and blanks between. -/
theorem parts_two (s t : List UInt8) : partsF ((s ++ [32, 44, 9]) ++ t) = partsF s ++ partsF t := by
  have e : (s ++ [32, 44, 9]) ++ t = (s ++ [32]) ++ 44 :: ([9] ++ t) := by simp
  rw [e, parts_join, show partsF (s ++ [32]) = partsF s from pts_back (q := [32]) (by decide) s [], parts_lead (q := [9]) (by decide)]
theorem parts_comma (s t : List UInt8) : partsF ((s ++ [44]) ++ t) = partsF s ++ partsF t := by
  have e : (s ++ [44]) ++ t = s ++ 44 :: t := by simp
  rw [e, parts_join]
/-- What a part is. -/
structure IsPart (p : List UInt8) : Prop where
  some : p ≠ []
  clean : Clean p
  plain : 44 ∉ p
theorem keep_part {cur : List UInt8} (h : 44 ∉ cur) : ∀ p ∈ keepF cur, IsPart p := by
  intro p hp
  unfold keepF at hp
  split at hp
  · cases hp
  · rename_i hn
    obtain rfl := List.mem_singleton.1 hp
    exact ⟨hn, clean_bare _, fun hm => h ((bare_sub cur).subset hm)⟩
theorem pts_part : ∀ (s cur : List UInt8), 44 ∉ cur → ∀ p ∈ ptsF cur s, IsPart p
  | [], cur, h => keep_part h
  | c :: s, cur, h => by
    intro p hp
    by_cases hc : c = 44
    · subst hc
      rw [pts_comma] at hp
      rcases List.mem_append.1 hp with h1 | h1
      · exact keep_part h p h1
      · exact pts_part s [] (by simp) p h1
    · rw [pts_more _ _ hc] at hp
      refine pts_part s _ (fun hm => ?_) p hp
      rcases List.mem_append.1 hm with h1 | h1
      · exact h h1
      · exact hc (List.mem_singleton.1 h1).symm
theorem parts_part {s p : List UInt8} (h : p ∈ partsF s) : IsPart p := pts_part s [] (by simp) p h
theorem part_self {p : List UInt8} (h : IsPart p) : partsF p = [p] := by
  unfold partsF
  rw [pts_plain p [] h.plain, List.nil_append, keep_some (by rw [clean_self h.clean]; exact h.some), clean_self h.clean]
/-- A comma ahead of each. -/
def joinF (l : List (List UInt8)) : List UInt8 := l.flatMap fun p => 44 :: p
theorem join_next (l : List (List UInt8)) (p : List UInt8) : joinF (l ++ [p]) = (joinF l ++ [44]) ++ p := by unfold joinF; simp
theorem parts_joined {l : List (List UInt8)} (h : ∀ p ∈ l, IsPart p) : partsF (joinF l) = l := by
  induction l with
  | nil => rfl
  | cons p l ih =>
    have e : joinF (p :: l) = [] ++ 44 :: (p ++ joinF l) := by unfold joinF; simp
    rw [e, parts_join]
    have hp := h p (List.mem_cons_self ..)
    have hl := ih (fun q hq => h q (List.mem_cons_of_mem _ hq))
    have h0 : partsF [] = [] := rfl
    rw [h0, List.nil_append]
    cases l with
    | nil =>
      have e2 : joinF ([] : List (List UInt8)) = [] := rfl
      rw [e2, List.append_nil, part_self hp]
    | cons q r =>
      have e3 : joinF (q :: r) = 44 :: (q ++ joinF r) := by unfold joinF; simp
      have e4 : partsF (joinF (q :: r)) = partsF (q ++ joinF r) := by
        rw [e3]
        have := parts_join [] (q ++ joinF r)
        rwa [List.nil_append, h0, List.nil_append] at this
      rw [e3, parts_join, part_self hp, ← e4, hl]; rfl
theorem has_part {s t p : List UInt8} (h : p ∈ partsF s ++ partsF t) : hasF ((s ++ [44]) ++ t) p = true := by
  unfold hasF
  rw [parts_comma, List.any_eq_true]
  exact ⟨p, h, alike_self p⟩
theorem join_append (a b : List (List UInt8)) : joinF (a ++ b) = joinF a ++ joinF b := by unfold joinF; simp
theorem keep_join (cur : List UInt8) : (joinF (keepF cur)).length ≤ cur.length + 1 := by
  unfold keepF
  split
  · simp [joinF]
  · have := bareF_le cur
    simp [joinF]; omega
theorem pts_join_le : ∀ (s cur : List UInt8), (joinF (ptsF cur s)).length ≤ cur.length + s.length + 1
  | [], cur => by have := keep_join cur; rw [ptsF, List.length_nil]; omega
  | c :: s, cur => by
    by_cases h : c = 44
    · subst h
      have h1 := keep_join cur
      have h2 := pts_join_le s []
      rw [pts_comma, join_append, List.length_append, List.length_cons]
      rw [List.length_nil] at h2
      omega
    · have h2 := pts_join_le s (cur ++ [c])
      rw [pts_more _ _ h]
      rw [List.length_append, List.length_singleton] at h2
      rw [List.length_cons]; omega
theorem join_le (s t : List UInt8) : (joinF (partsF s ++ partsF t)).length ≤ s.length + t.length + 2 := by
  have h1 := pts_join_le s []
  have h2 := pts_join_le t []
  rw [List.length_nil] at h1 h2
  rw [join_append, List.length_append]
  unfold partsF
  omega
theorem join_mono {a b : List (List UInt8)} (h : a <+: b) : (joinF a).length ≤ (joinF b).length := by
  obtain ⟨c, rfl⟩ := h
  rw [join_append, List.length_append]; omega
end Go.Proofs.YtccccpbaolegcaaDoor
