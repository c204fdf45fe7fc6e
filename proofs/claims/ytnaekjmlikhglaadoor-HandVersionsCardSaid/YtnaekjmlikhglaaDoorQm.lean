/- Fields as list functions: tokens, values, lines, parts; the landed ones and the document's are the same. -/
import Derived.Test.YtnaekjmlikhglaaDoorGen9
import Derived.Lib.SlTrimSet
import Derived.Lib.IndexAny
import Derived.Lib.Bytealg
namespace Go.Proofs.YtnaekjmlikhglaaDoor
open Go.RowKit

/-- A token's characters. -/
def tokAll : List UInt8 := [65, 66, 67, 68, 69, 70, 71, 72, 73, 74, 75, 76, 77, 78, 79, 80, 81, 82, 83, 84, 85, 86, 87, 88, 89, 90, 97, 98, 99, 100, 101, 102, 103, 104, 105, 106, 107, 108, 109, 110, 111, 112, 113, 114, 115, 116, 117, 118, 119, 120, 121, 122, 48, 49, 50, 51, 52, 53, 54, 55, 56, 57, 33, 35, 36, 37, 38, 39, 42, 43, 45, 46, 94, 95, 96, 124, 126]
def tokB (c : UInt8) : Bool := tokAll.contains c
theorem take_contains {l : List UInt8} {i : Nat} {x c : UInt8} (hx : l[i]? = some x) (hn : (l.take i).contains c = false) : (l.take (i + 1)).contains c = (x == c) := by
  obtain ⟨h, rfl⟩ := List.getElem?_eq_some_iff.1 hx
  rw [List.take_succ_eq_append_getElem h, List.contains_eq_any_beq, List.any_append, ← List.contains_eq_any_beq, hn]
  simp [Bool.beq_comm]
theorem beqB (x c : UInt8) : ((x.toNat : Int) == (c.toNat : Int)) = (x == c) := by
  rw [Bool.eq_iff_iff, beq_iff_eq, beq_iff_eq]
  exact ⟨fun h => UInt8.toNat_inj.1 (by omega), fun h => by rw [h]⟩
/-- A great letter as the small one. -/
def lowB (c : UInt8) : UInt8 := if 65 ≤ c.toNat ∧ c.toNat ≤ 90 then c + 32 else c
def tokF (s : List UInt8) : Bool := s.all tokB && decide (0 < s.length)
theorem all_take_next {p : UInt8 → Bool} {s : List UInt8} {i : Nat} {c : UInt8} (hc : s[i]? = some c) (h : (s.take i).all p = true) : (s.take (i + 1)).all p = p c := by
  obtain ⟨hi, rfl⟩ := List.getElem?_eq_some_iff.1 hc
  rw [List.take_succ_eq_append_getElem hi, List.all_append, h]; simp
theorem all_of_take {p : UInt8 → Bool} {s : List UInt8} {i : Nat} (h : (s.take i).all p = false) : s.all p = false := by
  rw [← List.take_append_drop i s, List.all_append, h, Bool.false_and]
def blankB (c : UInt8) : Bool := c.toNat == 9 || c.toNat == 32
def bareF (s : List UInt8) : List UInt8 := ((s.dropWhile blankB).reverse.dropWhile blankB).reverse
theorem bareF_front {c : UInt8} {r : List UInt8} (h : blankB c = true) : bareF (c :: r) = bareF r := by unfold bareF; rw [List.dropWhile_cons, if_pos h]
/-- From behind, where nothing is to be struck at the front. -/
def backF (s : List UInt8) : List UInt8 := (s.reverse.dropWhile blankB).reverse
theorem backF_end {s : List UInt8} {c : UInt8} (h : blankB c = true) : backF (s ++ [c]) = backF s := by unfold backF; rw [List.reverse_append, List.reverse_singleton, List.singleton_append, List.dropWhile_cons, if_pos h]
theorem backF_stop {s : List UInt8} {c : UInt8} (h : blankB c = false) : backF (s ++ [c]) = s ++ [c] := by
  unfold backF
  rw [List.reverse_append, List.reverse_singleton, List.singleton_append, List.dropWhile_cons, if_neg (by rw [h]; exact Bool.false_ne_true)]
  simp
theorem bareF_stop {c : UInt8} {r : List UInt8} (h : blankB c = false) : bareF (c :: r) = backF (c :: r) := by
  unfold bareF backF; rw [List.dropWhile_cons, if_neg (by rw [h]; exact Bool.false_ne_true)]
def alikeF (a b : List UInt8) : Bool := a.map lowB == b.map lowB
theorem alike_len {a b : List UInt8} (h : a.length ≠ b.length) : alikeF a b = false := by
  unfold alikeF
  rw [beq_eq_false_iff_ne]
  intro e
  have := congrArg List.length e
  rw [List.length_map, List.length_map] at this
  exact h this
theorem map_take_next {a b : List UInt8} {i : Nat} {x y : UInt8} (hx : a[i]? = some x) (hy : b[i]? = some y) (h : (a.take i).map lowB = (b.take i).map lowB) (e : lowB x = lowB y) : (a.take (i + 1)).map lowB = (b.take (i + 1)).map lowB := by
  obtain ⟨hi, rfl⟩ := List.getElem?_eq_some_iff.1 hx
  obtain ⟨hj, rfl⟩ := List.getElem?_eq_some_iff.1 hy
  rw [List.take_succ_eq_append_getElem hi, List.take_succ_eq_append_getElem hj, List.map_append, List.map_append, h, List.map_singleton, List.map_singleton, e]
theorem alike_stop {a b : List UInt8} {i : Nat} {x y : UInt8} (hx : a[i]? = some x) (hy : b[i]? = some y) (e : lowB x ≠ lowB y) : alikeF a b = false := by
  unfold alikeF
  rw [beq_eq_false_iff_ne]
  intro h
  have h1 := congrArg (fun l => l[i]?) h
  simp only [List.getElem?_map, hx, hy, Option.map_some, Option.some.injEq] at h1
  exact e h1
def badB (c : UInt8) : Bool := (c.toNat != 9) && (decide (c.toNat < 32) || c.toNat == 127)
def nameLen (s : List UInt8) : Nat := (s.takeWhile tokB).length
/-- A line's name, value, and whether it is a field's. -/
def parseF (s : List UInt8) : List UInt8 × List UInt8 × Bool :=
  if nameLen s = 0 ∨ s[nameLen s]? ≠ some 58 ∨ (s.drop (nameLen s + 1)).any badB = true then ([], [], false)
  else (s.take (nameLen s), bareF (s.drop (nameLen s + 1)), true)
def parseV (p : List UInt8 × List UInt8 × Bool) : Value := .tuple #[.agg #[S p.1, S p.2.1], .bool p.2.2]
theorem nameLen_stop {s : List UInt8} {i : Nat} (h : (s.take i).all tokB = true) (hi : i ≤ s.length) (hc : ∀ c, s[i]? = some c → tokB c = false) : nameLen s = i := by
  have e : s = s.take i ++ s.drop i := (List.take_append_drop i s).symm
  have h1 : s.takeWhile tokB = s.take i := by
    rw [e, List.takeWhile_append_of_pos (by simpa using h)]
    have h2 : (s.drop i).takeWhile tokB = [] := by
      cases hd : s.drop i with
      | nil => rfl
      | cons c r =>
        have hcc := hc c (by
          have := congrArg (fun l => l[0]?) hd
          simpa using this)
        rw [List.takeWhile_cons, hcc]; rfl
    rw [h2, List.append_nil, List.take_append_drop]
  unfold nameLen
  rw [h1, List.length_take]; omega
theorem any_drop_next {s : List UInt8} {n i : Nat} {c : UInt8} (hc : s[i]? = some c) (hn : n ≤ i) (h : ((s.drop n).take (i - n)).any badB = false) : ((s.drop n).take (i + 1 - n)).any badB = badB c := by
  have hc2 : (s.drop n)[i - n]? = some c := by rw [List.getElem?_drop, show n + (i - n) = i by omega]; exact hc
  obtain ⟨hi, rfl⟩ := List.getElem?_eq_some_iff.1 hc2
  rw [show i + 1 - n = (i - n) + 1 by omega, List.take_succ_eq_append_getElem hi, List.any_append, h, Bool.false_or]; simp
theorem any_of_take {l : List UInt8} {i : Nat} (h : (l.take i).any badB = true) : l.any badB = true := by
  rw [← List.take_append_drop i l, List.any_append, h, Bool.true_or]
theorem dropWhile_le (p : UInt8 → Bool) (l : List UInt8) : (l.dropWhile p).length ≤ l.length := (List.dropWhile_sublist (p := p)).length_le
theorem bareF_le (s : List UInt8) : (bareF s).length ≤ s.length := by
  unfold bareF
  rw [List.length_reverse]
  have h1 := dropWhile_le blankB (s.dropWhile blankB).reverse
  rw [List.length_reverse] at h1
  have h2 := dropWhile_le blankB s
  omega
theorem taken_all {p : UInt8 → Bool} {s : List UInt8} : ∀ c ∈ s.takeWhile p, p c = true := by
  induction s with
  | nil => intro c hc; cases hc
  | cons a t ih =>
    intro c hc
    rw [List.takeWhile_cons] at hc
    split at hc
    · rename_i ha
      rcases List.mem_cons.1 hc with rfl | h
      · exact ha
      · exact ih c h
    · cases hc
theorem drop_blank {p s : List UInt8} (h : p.all blankB = true) : (p ++ s).dropWhile blankB = s.dropWhile blankB := List.dropWhile_append_of_pos (fun a ha => List.all_eq_true.1 h a ha)
theorem drop_all {p : List UInt8} (h : p.all blankB = true) : p.dropWhile blankB = [] := by
  have := drop_blank (s := []) h
  rwa [List.append_nil] at this
theorem bare_front {p s : List UInt8} (h : p.all blankB = true) : bareF (p ++ s) = bareF s := by unfold bareF; rw [drop_blank h]
theorem drop_some {s : List UInt8} (h : s.dropWhile blankB ≠ []) (q : List UInt8) : (s ++ q).dropWhile blankB = s.dropWhile blankB ++ q := by
  induction s with
  | nil => exact absurd rfl h
  | cons c r ih =>
    rw [List.cons_append, List.dropWhile_cons, List.dropWhile_cons]
    rw [List.dropWhile_cons] at h
    split
    · rename_i hc
      rw [if_pos hc] at h
      exact ih h
    · rfl
theorem bare_back {s q : List UInt8} (h : q.all blankB = true) : bareF (s ++ q) = bareF s := by
  by_cases hs : s.dropWhile blankB = []
  · have hall : s.all blankB = true := by
      rw [List.all_eq_true]
      intro c hc
      have := List.takeWhile_append_dropWhile (p := blankB) (l := s)
      rw [hs, List.append_nil] at this
      rw [← this] at hc
      exact taken_all c hc
    rw [bare_front hall]
    unfold bareF
    rw [drop_all h, hs]
  · unfold bareF
    rw [drop_some hs, List.reverse_append, drop_blank (by rw [List.all_reverse]; exact h)]
/-- No blanks at the ends. -/
structure Clean (v : List UInt8) : Prop where
  first : ∀ c r, v = c :: r → blankB c = false
  last : ∀ r c, v = r ++ [c] → blankB c = false
theorem head_drop {s : List UInt8} {c : UInt8} {r : List UInt8} (h : s.dropWhile blankB = c :: r) : blankB c = false := by
  induction s with
  | nil => cases h
  | cons a t ih =>
    rw [List.dropWhile_cons] at h
    split at h
    · exact ih h
    · rename_i hc
      cases h
      simpa using hc
theorem clean_bare (s : List UInt8) : Clean (bareF s) := by
  constructor
  · intro c r h
    unfold bareF at h
    have h1 := congrArg List.reverse h
    rw [List.reverse_reverse, List.reverse_cons] at h1
    have h2 := List.takeWhile_append_dropWhile (p := blankB) (l := (s.dropWhile blankB).reverse)
    rw [h1, ← List.append_assoc] at h2
    have h3 := congrArg List.reverse h2
    rw [List.reverse_reverse, List.reverse_append, List.reverse_singleton, List.singleton_append] at h3
    exact head_drop h3.symm
  · intro r c h
    unfold bareF at h
    have h1 := congrArg List.reverse h
    rw [List.reverse_reverse, List.reverse_append, List.reverse_singleton, List.singleton_append] at h1
    exact head_drop h1
theorem clean_self {v : List UInt8} (h : Clean v) : bareF v = v := by
  cases v with
  | nil => rfl
  | cons c r =>
    rw [bareF_stop (h.first c r rfl)]
    rcases List.eq_nil_or_concat (c :: r) with h1 | ⟨p, d, h1⟩
    · cases h1
    · rw [List.concat_eq_append] at h1
      rw [h1]
      exact backF_stop (h.last p d h1)
theorem bare_pads {p v q : List UInt8} (hp : p.all blankB = true) (hq : q.all blankB = true) (h : Clean v) : bareF (p ++ v ++ q) = v := by
  rw [bare_back hq, bare_front hp, clean_self h]
theorem bare_sub (s : List UInt8) : (bareF s).Sublist s := by
  unfold bareF
  have h1 := (List.dropWhile_sublist (p := blankB) (l := (s.dropWhile blankB).reverse)).reverse
  rw [List.reverse_reverse] at h1
  exact h1.trans (List.dropWhile_sublist (p := blankB))
theorem blank_ok {p : List UInt8} (h : p.all blankB = true) : p.any badB = false := by
  rw [List.any_eq_false]
  intro c hc
  have := List.all_eq_true.1 h c hc
  unfold blankB at this
  unfold badB
  rw [Bool.or_eq_true, beq_iff_eq, beq_iff_eq] at this
  rcases this with h1 | h1 <;> rw [h1] <;> decide
theorem any_sub {s t : List UInt8} (h : s.Sublist t) (ht : t.any badB = false) : s.any badB = false := by
  rw [List.any_eq_false] at *
  exact fun c hc => ht c (h.subset hc)
theorem colon_tok : tokB 58 = false := by decide
/-- A name, a colon, and what stands behind. -/
theorem name_of {n r : List UInt8} (h : n.all tokB = true) : nameLen (n ++ 58 :: r) = n.length := by
  refine nameLen_stop (by rw [List.take_left]; exact h) (by simp) (fun c hc => ?_)
  rw [List.getElem?_append_right (Nat.le_refl _), Nat.sub_self] at hc
  cases hc
  exact colon_tok
theorem parse_of {n r : List UInt8} (h : tokF n = true) (hr : r.any badB = false) : parseF (n ++ 58 :: r) = (n, bareF r, true) := by
  unfold tokF at h
  rw [Bool.and_eq_true, decide_eq_true_eq] at h
  have hn := name_of (r := r) h.1
  have hd : (n ++ 58 :: r).drop (n.length + 1) = r := by
    rw [List.drop_append, List.drop_of_length_le (by omega), show n.length + 1 - n.length = 1 by omega]; rfl
  unfold parseF
  rw [hn, hd, if_neg, List.take_left]
  rintro (h1 | h1 | h1)
  · omega
  · rw [List.getElem?_append_right (Nat.le_refl _), Nat.sub_self] at h1
    exact h1 rfl
  · rw [hr] at h1; cases h1
/-- What a line that is a field's says. -/
theorem parse_true {s n v : List UInt8} (h : parseF s = (n, v, true)) : tokF n = true ∧ Clean v ∧ v.any badB = false ∧ n.length ≤ s.length ∧ v.length ≤ s.length ∧ n = s.takeWhile tokB := by
  unfold parseF at h
  split at h
  · cases h
  · rename_i hn
    cases h
    have h1 : nameLen s ≠ 0 := fun e => hn (.inl e)
    have h3 : ¬ (s.drop (nameLen s + 1)).any badB = true := fun e => hn (.inr (.inr e))
    have hl : nameLen s ≤ s.length := by unfold nameLen; exact (List.takeWhile_sublist (p := tokB)).length_le
    have htk : s.take (nameLen s) = s.takeWhile tokB := by
      have e := List.takeWhile_append_dropWhile (p := tokB) (l := s)
      have : s.take (nameLen s) = (s.takeWhile tokB ++ s.dropWhile tokB).take (s.takeWhile tokB).length := by rw [e]; rfl
      rw [this, List.take_left]
    refine ⟨?_, clean_bare _, any_sub (bare_sub _) (by simpa using h3), ?_, ?_, htk⟩
    · unfold tokF
      rw [htk, Bool.and_eq_true, decide_eq_true_eq]
      exact ⟨by rw [List.all_eq_true]; exact fun c hc => taken_all c hc, by unfold nameLen at h1; omega⟩
    · rw [List.length_take]; omega
    · have := bareF_le (s.drop (nameLen s + 1))
      rw [List.length_drop] at this; omega
/-- What is left of a piece, if something is. -/
def keepF (p : List UInt8) : List (List UInt8) := if bareF p = [] then [] else [bareF p]
/-- The parts of what stands before and what is to come. -/
def ptsF : List UInt8 → List UInt8 → List (List UInt8)
  | cur, [] => keepF cur
  | cur, c :: r => if c = 44 then keepF cur ++ ptsF [] r else ptsF (cur ++ [c]) r
def partsF (s : List UInt8) : List (List UInt8) := ptsF [] s
theorem pts_comma (cur r : List UInt8) : ptsF cur (44 :: r) = keepF cur ++ ptsF [] r := by rw [ptsF, if_pos rfl]
theorem pts_more {c : UInt8} (cur r : List UInt8) (h : c ≠ 44) : ptsF cur (c :: r) = ptsF (cur ++ [c]) r := by rw [ptsF, if_neg h]
theorem keep_some {p : List UInt8} (h : bareF p ≠ []) : keepF p = [bareF p] := by rw [keepF, if_neg h]
theorem keep_none {p : List UInt8} (h : bareF p = []) : keepF p = [] := by rw [keepF, if_pos h]
theorem pts_count : ∀ (r cur : List UInt8), (ptsF cur r).length ≤ r.length + 1
  | [], cur => by rw [ptsF, keepF]; split <;> simp
  | c :: r, cur => by
    rw [ptsF]
    split
    · have := pts_count r []
      rw [List.length_append, List.length_cons]
      have h1 : (keepF cur).length ≤ 1 := by rw [keepF]; split <;> simp
      omega
    · have := pts_count r (cur ++ [c])
      rw [List.length_cons]; omega
theorem keep_le (c : List UInt8) : ∀ p ∈ keepF c, p.length ≤ c.length := by
  intro p hp
  unfold keepF at hp
  split at hp
  · cases hp
  · rw [List.mem_singleton.1 hp]; exact bareF_le c
theorem pts_le : ∀ (r cur : List UInt8), ∀ p ∈ ptsF cur r, p.length ≤ cur.length + r.length
  | [], cur, p, hp => by rw [ptsF] at hp; have := keep_le cur p hp; simp; omega
  | c :: r, cur, p, hp => by
    rw [ptsF] at hp
    split at hp
    · rcases List.mem_append.1 hp with h | h
      · have := keep_le cur p h; omega
      · have := pts_le r [] p h
        rw [List.length_nil] at this
        rw [List.length_cons]; omega
    · have := pts_le r (cur ++ [c]) p hp
      rw [List.length_append, List.length_singleton] at this
      rw [List.length_cons]; omega
theorem parts_le {s p : List UInt8} (h : p ∈ partsF s) : p.length ≤ s.length := by
  have := pts_le s [] p h
  rw [List.length_nil] at this; omega
def hasF (s w : List UInt8) : Bool := (partsF s).any fun p => alikeF p w
theorem pts_join (r : List UInt8) : ∀ (a cur : List UInt8), ptsF cur (a ++ 44 :: r) = ptsF cur a ++ partsF r
  | [], cur => by rw [List.nil_append, pts_comma]; rfl
  | c :: a, cur => by
    by_cases h : c = 44
    · subst h
      rw [List.cons_append, pts_comma, pts_comma, pts_join r a [], List.append_assoc]
    · rw [List.cons_append, pts_more _ _ h, pts_more _ _ h, pts_join r a]
theorem parts_join (a r : List UInt8) : partsF (a ++ 44 :: r) = partsF a ++ partsF r := pts_join r a []
/-- Without a comma there is one piece. -/
theorem pts_plain : ∀ (q cur : List UInt8), 44 ∉ q → ptsF cur q = keepF (cur ++ q)
  | [], cur, _ => by rw [List.append_nil]; rfl
  | c :: q, cur, h => by
    rw [List.mem_cons, not_or] at h
    rw [pts_more _ _ (fun e => h.1 e.symm), pts_plain q _ h.2, List.append_assoc, List.singleton_append]
theorem blank_comma {q : List UInt8} (h : q.all blankB = true) : 44 ∉ q := fun hm => by
  have := List.all_eq_true.1 h 44 hm
  exact absurd this (by decide)
theorem keep_back {p q : List UInt8} (h : q.all blankB = true) : keepF (p ++ q) = keepF p := by unfold keepF; rw [bare_back h]
theorem keep_front {p q : List UInt8} (h : q.all blankB = true) : keepF (q ++ p) = keepF p := by unfold keepF; rw [bare_front h]
theorem pts_back {q : List UInt8} (hq : q.all blankB = true) : ∀ (s cur : List UInt8), ptsF cur (s ++ q) = ptsF cur s
  | [], cur => by rw [List.nil_append, pts_plain _ _ (blank_comma hq), keep_back hq]; rfl
  | c :: s, cur => by
    by_cases h : c = 44
    · subst h
      rw [List.cons_append, pts_comma, pts_comma, pts_back hq s]
    · rw [List.cons_append, pts_more _ _ h, pts_more _ _ h, pts_back hq s]
theorem pts_front {q : List UInt8} (hq : q.all blankB = true) : ∀ (s cur : List UInt8), ptsF (q ++ cur) s = ptsF cur s
  | [], cur => keep_front hq
  | c :: s, cur => by
    by_cases h : c = 44
    · subst h
      rw [pts_comma, pts_comma, keep_front hq]
    · rw [pts_more _ _ h, pts_more _ _ h, List.append_assoc, pts_front hq s]
theorem pts_move : ∀ (q s cur : List UInt8), 44 ∉ q → ptsF cur (q ++ s) = ptsF (cur ++ q) s
  | [], s, cur, _ => by rw [List.append_nil]; rfl
  | c :: q, s, cur, h => by
    rw [List.mem_cons, not_or] at h
    rw [List.cons_append, pts_more _ _ (fun e => h.1 e.symm), pts_move q s _ h.2, List.append_assoc, List.singleton_append]
theorem parts_lead {q : List UInt8} (hq : q.all blankB = true) (s : List UInt8) : partsF (q ++ s) = partsF s := by
  unfold partsF
  rw [pts_move q s [] (blank_comma hq), List.nil_append]
  have := pts_front hq s []
  rwa [List.append_nil] at this
/-- The parts of two texts, with a comma and blanks between. -/
theorem parts_two (s t : List UInt8) : partsF ((s ++ [32, 44, 9]) ++ t) = partsF s ++ partsF t := by
  have e : (s ++ [32, 44, 9]) ++ t = (s ++ [32]) ++ 44 :: ([9] ++ t) := by simp
  rw [e, parts_join, show partsF (s ++ [32]) = partsF s from pts_back (q := [32]) (by decide) s [], parts_lead (q := [9]) (by decide)]
theorem parts_comma (s t : List UInt8) : partsF ((s ++ [44]) ++ t) = partsF s ++ partsF t := by
  have e : (s ++ [44]) ++ t = s ++ 44 :: t := by simp
  rw [e, parts_join]
/-- What a part is. -/
structure IsPart (p : List UInt8) : Prop where
  some : p ≠ []
  clean : Clean p
  plain : 44 ∉ p
theorem keep_part {cur : List UInt8} (h : 44 ∉ cur) : ∀ p ∈ keepF cur, IsPart p := by
  intro p hp
  unfold keepF at hp
  split at hp
  · cases hp
  · rename_i hn
    obtain rfl := List.mem_singleton.1 hp
    exact ⟨hn, clean_bare _, fun hm => h ((bare_sub cur).subset hm)⟩
theorem pts_part : ∀ (s cur : List UInt8), 44 ∉ cur → ∀ p ∈ ptsF cur s, IsPart p
  | [], cur, h => keep_part h
  | c :: s, cur, h => by
    intro p hp
    by_cases hc : c = 44
    · subst hc
      rw [pts_comma] at hp
      rcases List.mem_append.1 hp with h1 | h1
      · exact keep_part h p h1
      · exact pts_part s [] (by simp) p h1
    · rw [pts_more _ _ hc] at hp
      refine pts_part s _ (fun hm => ?_) p hp
      rcases List.mem_append.1 hm with h1 | h1
      · exact h h1
      · exact hc (List.mem_singleton.1 h1).symm
theorem parts_part {s p : List UInt8} (h : p ∈ partsF s) : IsPart p := pts_part s [] (by simp) p h
theorem part_self {p : List UInt8} (h : IsPart p) : partsF p = [p] := by
  unfold partsF
  rw [pts_plain p [] h.plain, List.nil_append, keep_some (by rw [clean_self h.clean]; exact h.some), clean_self h.clean]
/-- A token's characters that are neither letters nor digits. -/
def markL : List UInt8 := [33, 35, 36, 37, 38, 39, 42, 43, 45, 46, 94, 95, 96, 124, 126]
def inTok (n : Nat) : Bool := (decide (65 ≤ n) && decide (n ≤ 90) || decide (97 ≤ n) && decide (n ≤ 122)) || (decide (48 ≤ n) && decide (n ≤ 57)) || markL.contains (UInt8.ofNat n)
theorem tok_small : ∀ n : Fin 256, tokB (UInt8.ofNat n.1) = inTok n.1 := by decide +kernel
theorem tok_eq (c : UInt8) : tokB c = inTok c.toNat := by
  have := tok_small ⟨c.toNat, c.toNat_lt⟩
  simp only [UInt8.ofNat_toNat] at this
  exact this
/-- What may stand in a value. -/
def valB (c : UInt8) : Bool := !(badB c)
theorem index_hit {k : UInt8} : ∀ {a : List UInt8} (b : List UInt8), k ∉ a → Lib.indexByte (a ++ k :: b) k = (a.length : Int)
  | [], b, _ => by simp [Lib.indexByte]
  | c :: a, b, h => by
    have hc : (c == k) = false := beq_eq_false_iff_ne.2 (fun e => h (by rw [e]; exact List.mem_cons_self))
    have ih := index_hit (a := a) b (fun hm => h (List.mem_cons_of_mem _ hm))
    rw [List.cons_append, Lib.indexByte, hc, ih]
    have : ((a.length : Int) == -1) = false := beq_eq_false_iff_ne.2 (by omega)
    rw [this]; simp
theorem index_miss {k : UInt8} : ∀ {a : List UInt8}, k ∉ a → Lib.indexByte a k = -1
  | [], _ => rfl
  | c :: a, h => by
    have hc : (c == k) = false := beq_eq_false_iff_ne.2 (fun e => h (by rw [e]; exact List.mem_cons_self))
    have ih := index_miss (a := a) (fun hm => h (List.mem_cons_of_mem _ hm))
    rw [Lib.indexByte, hc, ih]; simp
theorem cut_cases (k : UInt8) : ∀ s : List UInt8, (∃ a b, s = a ++ k :: b ∧ k ∉ a) ∨ k ∉ s
  | [] => .inr List.not_mem_nil
  | c :: s => by
    by_cases hc : c = k
    · exact .inl ⟨[], s, by rw [hc]; rfl, List.not_mem_nil⟩
    · rcases cut_cases k s with ⟨a, b, rfl, h⟩ | h
      · exact .inl ⟨c :: a, b, rfl, fun hm => by
          rcases List.mem_cons.1 hm with e | hm
          · exact hc e.symm
          · exact h hm⟩
      · exact .inr fun hm => by
          rcases List.mem_cons.1 hm with e | hm
          · exact hc e.symm
          · exact h hm
theorem blank_in : ∀ c : UInt8, ([9, 32] : List UInt8).contains c = blankB c := fun c => by
  have : ∀ n : Fin 256, ([9, 32] : List UInt8).contains (UInt8.ofNat n.1) = blankB (UInt8.ofNat n.1) := by decide +kernel
  have := this ⟨c.toNat, c.toNat_lt⟩
  simp only [UInt8.ofNat_toNat] at this
  exact this
theorem dropWhile_nil {p : UInt8 → Bool} : ∀ {l : List UInt8}, l.dropWhile p = [] → ∀ c ∈ l, p c = true
  | [], _, c, h => by cases h
  | a :: l, h, c, hc => by
    rw [List.dropWhile_cons] at h
    split at h
    · rename_i ha
      rcases List.mem_cons.1 hc with rfl | hc
      · exact ha
      · exact dropWhile_nil h c hc
    · cases h
theorem trim_bare (s : List UInt8) : Lib.trimS s [9, 32] = bareF s := by
  have e : (fun c => ([9, 32] : List UInt8).contains c) = blankB := funext blank_in
  unfold Lib.trimS Lib.trimLeftS Lib.trimRightS
  rw [e]
  have hs : s = s.takeWhile blankB ++ s.dropWhile blankB := (List.takeWhile_append_dropWhile ..).symm
  have hp : (s.takeWhile blankB).all blankB = true := List.all_eq_true.2 taken_all
  by_cases hd : s.dropWhile blankB = []
  · have ha : s.all blankB = true := by rw [hs, hd, List.append_nil]; exact hp
    have hr : s.reverse.all blankB = true := by rw [List.all_reverse]; exact ha
    rw [drop_all hr]
    unfold bareF
    rw [hd]; rfl
  · have hne : (s.dropWhile blankB).reverse.dropWhile blankB ≠ [] := by
      intro h0
      obtain ⟨c, r, hcr⟩ := List.exists_cons_of_ne_nil hd
      have hb := head_drop hcr
      have hm : c ∈ (s.dropWhile blankB).reverse := by rw [hcr]; simp
      have := dropWhile_nil h0 c hm
      rw [hb] at this; cases this
    have h1 : s.reverse.dropWhile blankB = (s.dropWhile blankB).reverse.dropWhile blankB ++ (s.takeWhile blankB).reverse := by
      rw [← drop_some hne, ← List.reverse_append, ← hs]
    rw [h1, List.reverse_append, List.reverse_reverse, drop_blank hp]
    show List.dropWhile blankB (bareF s) = bareF s
    have hcl := clean_bare s
    cases hv : bareF s with
    | nil => rfl
    | cons c r => rw [List.dropWhile_cons, if_neg (by rw [hcl.first c r hv]; exact Bool.false_ne_true)]
theorem val_bad (b : List UInt8) : b.all valB = !(b.any badB) := by
  rw [List.not_any_eq_all_not]; rfl
theorem take_short {p : UInt8 → Bool} : ∀ {a : List UInt8} (r : List UInt8), a.all p = false → (a ++ r).takeWhile p = a.takeWhile p ∧ ∃ c, a[(a.takeWhile p).length]? = some c
  | [], _, h => by cases h
  | c :: a, r, h => by
    cases hc : p c with
    | true =>
      rw [List.all_cons, hc, Bool.true_and] at h
      obtain ⟨h1, d, h2⟩ := take_short r h
      rw [List.cons_append, List.takeWhile_cons, List.takeWhile_cons, hc, if_pos rfl, if_pos rfl, h1]
      exact ⟨rfl, d, by rw [List.length_cons, List.getElem?_cons_succ]; exact h2⟩
    | false =>
      rw [List.cons_append, List.takeWhile_cons, List.takeWhile_cons, hc, if_neg Bool.false_ne_true, if_neg Bool.false_ne_true]
      exact ⟨rfl, c, rfl⟩
theorem parse_cut (a b : List UInt8) (h : 58 ∉ a) : parseF (a ++ 58 :: b) = if (tokF a && b.all valB) = true then (a, bareF b, true) else ([], [], false) := by
  rw [val_bad]
  cases ht : a.all tokB with
  | true =>
    by_cases h0 : a.length = 0
    · have htf : tokF a = false := by unfold tokF; rw [decide_eq_false (by omega), Bool.and_false]
      rw [htf, Bool.false_and, if_neg Bool.false_ne_true]
      unfold parseF
      rw [name_of ht, if_pos (.inl h0)]
    · have htf : tokF a = true := by unfold tokF; rw [ht, decide_eq_true (by omega)]; rfl
      rw [htf, Bool.true_and]
      cases hb : b.any badB with
      | false => rw [parse_of htf hb]; rfl
      | true =>
        have hd : (a ++ 58 :: b).drop (a.length + 1) = b := by
          rw [List.drop_append, List.drop_of_length_le (by omega), show a.length + 1 - a.length = 1 by omega]; rfl
        unfold parseF
        rw [name_of ht, hd, if_pos (.inr (.inr hb))]; rfl
  | false =>
    have htf : tokF a = false := by unfold tokF; rw [ht, Bool.false_and]
    rw [htf, Bool.false_and, if_neg Bool.false_ne_true]
    obtain ⟨h1, c, h2⟩ := take_short (58 :: b) ht
    unfold parseF nameLen
    rw [h1, if_pos]
    refine .inr (.inl ?_)
    obtain ⟨hl, _⟩ := List.getElem?_eq_some_iff.1 h2
    rw [List.getElem?_append_left hl, h2]
    intro e
    cases e
    exact h (List.mem_of_getElem? h2)
theorem parse_miss {s : List UInt8} (h : 58 ∉ s) : parseF s = ([], [], false) := by
  unfold parseF
  rw [if_pos]
  exact .inr (.inl fun e => h (List.mem_of_getElem? e))
theorem parse_no {s n v : List UInt8} (h : parseF s = (n, v, false)) : n = [] ∧ v = [] := by
  unfold parseF at h
  split at h
  · cases h; exact ⟨rfl, rfl⟩
  · cases h
end Go.Proofs.YtnaekjmlikhglaaDoor
