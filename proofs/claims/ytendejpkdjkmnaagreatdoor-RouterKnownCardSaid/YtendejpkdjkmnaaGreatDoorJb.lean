/- Texts of this proof that several statements share, one behind the other. -/
import Derived.Test.YtendejpkdjkmnaaGreatDoorJa
import Derived.Lib.SlTrimSet
import Derived.Lib.IndexAny
import Derived.Lib.Bytealg
import Derived.Lib.ItoaNum
import Derived.Test.YtendejpkdjkmnaaGreatDoorProg
import Derived.Deep.AppendLies
import Derived.Laws.StructEq
/- Fields as list functions: tokens, values, lines, parts; the landed ones and the document's are the same. -/
namespace Go.Proofs.YtendejpkdjkmnaaGreatDoor
open Go.RowKit

/-- A token's characters. -/
def tokAll : List UInt8 := [65, 66, 67, 68, 69, 70, 71, 72, 73, 74, 75, 76, 77, 78, 79, 80, 81, 82, 83, 84, 85, 86, 87, 88, 89, 90, 97, 98, 99, 100, 101, 102, 103, 104, 105, 106, 107, 108, 109, 110, 111, 112, 113, 114, 115, 116, 117, 118, 119, 120, 121, 122, 48, 49, 50, 51, 52, 53, 54, 55, 56, 57, 33, 35, 36, 37, 38, 39, 42, 43, 45, 46, 94, 95, 96, 124, 126]
def tokB (c : UInt8) : Bool := tokAll.contains c
theorem take_contains {l : List UInt8} {i : Nat} {x c : UInt8} (hx : l[i]? = some x) (hn : (l.take i).contains c = false) : (l.take (i + 1)).contains c = (x == c) := by
  obtain ⟨h, rfl⟩ := List.getElem?_eq_some_iff.1 hx
  rw [List.take_succ_eq_append_getElem h, List.contains_eq_any_beq, List.any_append, ← List.contains_eq_any_beq, hn]
  simp [Bool.beq_comm]
theorem beqB (x c : UInt8) : ((x.toNat : Int) == (c.toNat : Int)) = (x == c) := by
  rw [Bool.eq_iff_iff, beq_iff_eq, beq_iff_eq]
  exact ⟨fun h => UInt8.toNat_inj.1 (by omega), fun h => by rw [h]⟩
/-- A great letter as the small one. -/
def lowB (c : UInt8) : UInt8 := if 65 ≤ c.toNat ∧ c.toNat ≤ 90 then c + 32 else c
def tokF (s : List UInt8) : Bool := s.all tokB && decide (0 < s.length)
theorem all_take_next {p : UInt8 → Bool} {s : List UInt8} {i : Nat} {c : UInt8} (hc : s[i]? = some c) (h : (s.take i).all p = true) : (s.take (i + 1)).all p = p c := by
  obtain ⟨hi, rfl⟩ := List.getElem?_eq_some_iff.1 hc
  rw [List.take_succ_eq_append_getElem hi, List.all_append, h]; simp
theorem all_of_take {p : UInt8 → Bool} {s : List UInt8} {i : Nat} (h : (s.take i).all p = false) : s.all p = false := by
  rw [← List.take_append_drop i s, List.all_append, h, Bool.false_and]
def blankB (c : UInt8) : Bool := c.toNat == 9 || c.toNat == 32
def bareF (s : List UInt8) : List UInt8 := ((s.dropWhile blankB).reverse.dropWhile blankB).reverse
theorem bareF_front {c : UInt8} {r : List UInt8} (h : blankB c = true) : bareF (c :: r) = bareF r := by unfold bareF; rw [List.dropWhile_cons, if_pos h]
/-- From behind, where nothing is to be struck at the front. -/
def backF (s : List UInt8) : List UInt8 := (s.reverse.dropWhile blankB).reverse
theorem backF_end {s : List UInt8} {c : UInt8} (h : blankB c = true) : backF (s ++ [c]) = backF s := by unfold backF; rw [List.reverse_append, List.reverse_singleton, List.singleton_append, List.dropWhile_cons, if_pos h]
theorem backF_stop {s : List UInt8} {c : UInt8} (h : blankB c = false) : backF (s ++ [c]) = s ++ [c] := by
  unfold backF
  rw [List.reverse_append, List.reverse_singleton, List.singleton_append, List.dropWhile_cons, if_neg (by rw [h]; exact Bool.false_ne_true)]
  simp
theorem bareF_stop {c : UInt8} {r : List UInt8} (h : blankB c = false) : bareF (c :: r) = backF (c :: r) := by
  unfold bareF backF; rw [List.dropWhile_cons, if_neg (by rw [h]; exact Bool.false_ne_true)]
def alikeF (a b : List UInt8) : Bool := a.map lowB == b.map lowB
theorem alike_len {a b : List UInt8} (h : a.length ≠ b.length) : alikeF a b = false := by
  unfold alikeF
  rw [beq_eq_false_iff_ne]
  intro e
  have := congrArg List.length e
  rw [List.length_map, List.length_map] at this
  exact h this
theorem map_take_next {a b : List UInt8} {i : Nat} {x y : UInt8} (hx : a[i]? = some x) (hy : b[i]? = some y) (h : (a.take i).map lowB = (b.take i).map lowB) (e : lowB x = lowB y) : (a.take (i + 1)).map lowB = (b.take (i + 1)).map lowB := by
  obtain ⟨hi, rfl⟩ := List.getElem?_eq_some_iff.1 hx
  obtain ⟨hj, rfl⟩ := List.getElem?_eq_some_iff.1 hy
  rw [List.take_succ_eq_append_getElem hi, List.take_succ_eq_append_getElem hj, List.map_append, List.map_append, h, List.map_singleton, List.map_singleton, e]
theorem alike_stop {a b : List UInt8} {i : Nat} {x y : UInt8} (hx : a[i]? = some x) (hy : b[i]? = some y) (e : lowB x ≠ lowB y) : alikeF a b = false := by
  unfold alikeF
  rw [beq_eq_false_iff_ne]
  intro h
  have h1 := congrArg (fun l => l[i]?) h
  simp only [List.getElem?_map, hx, hy, Option.map_some, Option.some.injEq] at h1
  exact e h1
def badB (c : UInt8) : Bool := (c.toNat != 9) && (decide (c.toNat < 32) || c.toNat == 127)
def nameLen (s : List UInt8) : Nat := (s.takeWhile tokB).length
/-- A line's name, value, and whether it is a field's. -/
def parseF (s : List UInt8) : List UInt8 × List UInt8 × Bool :=
  if nameLen s = 0 ∨ s[nameLen s]? ≠ some 58 ∨ (s.drop (nameLen s + 1)).any badB = true then ([], [], false)
  else (s.take (nameLen s), bareF (s.drop (nameLen s + 1)), true)
def parseV (p : List UInt8 × List UInt8 × Bool) : Value := .tuple #[.agg #[S p.1, S p.2.1], .bool p.2.2]
theorem nameLen_stop {s : List UInt8} {i : Nat} (h : (s.take i).all tokB = true) (hi : i ≤ s.length) (hc : ∀ c, s[i]? = some c → tokB c = false) : nameLen s = i := by
  have e : s = s.take i ++ s.drop i := (List.take_append_drop i s).symm
  have h1 : s.takeWhile tokB = s.take i := by
    rw [e, List.takeWhile_append_of_pos (by simpa using h)]
    have h2 : (s.drop i).takeWhile tokB = [] := by
      cases hd : s.drop i with
      | nil => rfl
      | cons c r =>
        have hcc := hc c (by
          have := congrArg (fun l => l[0]?) hd
          simpa using this)
        rw [List.takeWhile_cons, hcc]; rfl
    rw [h2, List.append_nil, List.take_append_drop]
  unfold nameLen
  rw [h1, List.length_take]; omega
theorem any_drop_next {s : List UInt8} {n i : Nat} {c : UInt8} (hc : s[i]? = some c) (hn : n ≤ i) (h : ((s.drop n).take (i - n)).any badB = false) : ((s.drop n).take (i + 1 - n)).any badB = badB c := by
  have hc2 : (s.drop n)[i - n]? = some c := by rw [List.getElem?_drop, show n + (i - n) = i by omega]; exact hc
  obtain ⟨hi, rfl⟩ := List.getElem?_eq_some_iff.1 hc2
  rw [show i + 1 - n = (i - n) + 1 by omega, List.take_succ_eq_append_getElem hi, List.any_append, h, Bool.false_or]; simp
theorem any_of_take {l : List UInt8} {i : Nat} (h : (l.take i).any badB = true) : l.any badB = true := by
  rw [← List.take_append_drop i l, List.any_append, h, Bool.true_or]
theorem dropWhile_le (p : UInt8 → Bool) (l : List UInt8) : (l.dropWhile p).length ≤ l.length := (List.dropWhile_sublist (p := p)).length_le
theorem bareF_le (s : List UInt8) : (bareF s).length ≤ s.length := by
  unfold bareF
  rw [List.length_reverse]
  have h1 := dropWhile_le blankB (s.dropWhile blankB).reverse
  rw [List.length_reverse] at h1
  have h2 := dropWhile_le blankB s
  omega
theorem taken_all {p : UInt8 → Bool} {s : List UInt8} : ∀ c ∈ s.takeWhile p, p c = true := by
  induction s with
  | nil => intro c hc; cases hc
  | cons a t ih =>
    intro c hc
    rw [List.takeWhile_cons] at hc
    split at hc
    · rename_i ha
      rcases List.mem_cons.1 hc with rfl | h
      · exact ha
      · exact ih c h
    · cases hc
theorem drop_blank {p s : List UInt8} (h : p.all blankB = true) : (p ++ s).dropWhile blankB = s.dropWhile blankB := List.dropWhile_append_of_pos (fun a ha => List.all_eq_true.1 h a ha)
theorem drop_all {p : List UInt8} (h : p.all blankB = true) : p.dropWhile blankB = [] := by
  have := drop_blank (s := []) h
  rwa [List.append_nil] at this
theorem bare_front {p s : List UInt8} (h : p.all blankB = true) : bareF (p ++ s) = bareF s := by unfold bareF; rw [drop_blank h]
theorem drop_some {s : List UInt8} (h : s.dropWhile blankB ≠ []) (q : List UInt8) : (s ++ q).dropWhile blankB = s.dropWhile blankB ++ q := by
  induction s with
  | nil => exact absurd rfl h
  | cons c r ih =>
    rw [List.cons_append, List.dropWhile_cons, List.dropWhile_cons]
    rw [List.dropWhile_cons] at h
    split
    · rename_i hc
      rw [if_pos hc] at h
      exact ih h
    · rfl
theorem bare_back {s q : List UInt8} (h : q.all blankB = true) : bareF (s ++ q) = bareF s := by
  by_cases hs : s.dropWhile blankB = []
  · have hall : s.all blankB = true := by
      rw [List.all_eq_true]
      intro c hc
      have := List.takeWhile_append_dropWhile (p := blankB) (l := s)
      rw [hs, List.append_nil] at this
      rw [← this] at hc
      exact taken_all c hc
    rw [bare_front hall]
    unfold bareF
    rw [drop_all h, hs]
  · unfold bareF
    rw [drop_some hs, List.reverse_append, drop_blank (by rw [List.all_reverse]; exact h)]
/-- No blanks at the ends. -/
structure Clean (v : List UInt8) : Prop where
  first : ∀ c r, v = c :: r → blankB c = false
  last : ∀ r c, v = r ++ [c] → blankB c = false
theorem head_drop {s : List UInt8} {c : UInt8} {r : List UInt8} (h : s.dropWhile blankB = c :: r) : blankB c = false := by
  induction s with
  | nil => cases h
  | cons a t ih =>
    rw [List.dropWhile_cons] at h
    split at h
    · exact ih h
    · rename_i hc
      cases h
      simpa using hc
theorem clean_bare (s : List UInt8) : Clean (bareF s) := by
  constructor
  · intro c r h
    unfold bareF at h
    have h1 := congrArg List.reverse h
    rw [List.reverse_reverse, List.reverse_cons] at h1
    have h2 := List.takeWhile_append_dropWhile (p := blankB) (l := (s.dropWhile blankB).reverse)
    rw [h1, ← List.append_assoc] at h2
    have h3 := congrArg List.reverse h2
    rw [List.reverse_reverse, List.reverse_append, List.reverse_singleton, List.singleton_append] at h3
    exact head_drop h3.symm
  · intro r c h
    unfold bareF at h
    have h1 := congrArg List.reverse h
    rw [List.reverse_reverse, List.reverse_append, List.reverse_singleton, List.singleton_append] at h1
    exact head_drop h1
theorem clean_self {v : List UInt8} (h : Clean v) : bareF v = v := by
  cases v with
  | nil => rfl
  | cons c r =>
    rw [bareF_stop (h.first c r rfl)]
    rcases List.eq_nil_or_concat (c :: r) with h1 | ⟨p, d, h1⟩
    · cases h1
    · rw [List.concat_eq_append] at h1
      rw [h1]
      exact backF_stop (h.last p d h1)
theorem bare_pads {p v q : List UInt8} (hp : p.all blankB = true) (hq : q.all blankB = true) (h : Clean v) : bareF (p ++ v ++ q) = v := by
  rw [bare_back hq, bare_front hp, clean_self h]
theorem bare_sub (s : List UInt8) : (bareF s).Sublist s := by
  unfold bareF
  have h1 := (List.dropWhile_sublist (p := blankB) (l := (s.dropWhile blankB).reverse)).reverse
  rw [List.reverse_reverse] at h1
  exact h1.trans (List.dropWhile_sublist (p := blankB))
theorem blank_ok {p : List UInt8} (h : p.all blankB = true) : p.any badB = false := by
  rw [List.any_eq_false]
  intro c hc
  have := List.all_eq_true.1 h c hc
  unfold blankB at this
  unfold badB
  rw [Bool.or_eq_true, beq_iff_eq, beq_iff_eq] at this
  rcases this with h1 | h1 <;> rw [h1] <;> decide
theorem any_sub {s t : List UInt8} (h : s.Sublist t) (ht : t.any badB = false) : s.any badB = false := by
  rw [List.any_eq_false] at *
  exact fun c hc => ht c (h.subset hc)
theorem colon_tok : tokB 58 = false := by decide
/-- A name, a colon, and what stands behind. -/
theorem name_of {n r : List UInt8} (h : n.all tokB = true) : nameLen (n ++ 58 :: r) = n.length := by
  refine nameLen_stop (by rw [List.take_left]; exact h) (by simp) (fun c hc => ?_)
  rw [List.getElem?_append_right (Nat.le_refl _), Nat.sub_self] at hc
  cases hc
  exact colon_tok
theorem parse_of {n r : List UInt8} (h : tokF n = true) (hr : r.any badB = false) : parseF (n ++ 58 :: r) = (n, bareF r, true) := by
  unfold tokF at h
  rw [Bool.and_eq_true, decide_eq_true_eq] at h
  have hn := name_of (r := r) h.1
  have hd : (n ++ 58 :: r).drop (n.length + 1) = r := by
    rw [List.drop_append, List.drop_of_length_le (by omega), show n.length + 1 - n.length = 1 by omega]; rfl
  unfold parseF
  rw [hn, hd, if_neg, List.take_left]
  rintro (h1 | h1 | h1)
  · omega
  · rw [List.getElem?_append_right (Nat.le_refl _), Nat.sub_self] at h1
    exact h1 rfl
  · rw [hr] at h1; cases h1
/-- What a line that is a field's says. -/
theorem parse_true {s n v : List UInt8} (h : parseF s = (n, v, true)) : tokF n = true ∧ Clean v ∧ v.any badB = false ∧ n.length ≤ s.length ∧ v.length ≤ s.length ∧ n = s.takeWhile tokB := by
  unfold parseF at h
  split at h
  · cases h
  · rename_i hn
    cases h
    have h1 : nameLen s ≠ 0 := fun e => hn (.inl e)
    have h3 : ¬ (s.drop (nameLen s + 1)).any badB = true := fun e => hn (.inr (.inr e))
    have hl : nameLen s ≤ s.length := by unfold nameLen; exact (List.takeWhile_sublist (p := tokB)).length_le
    have htk : s.take (nameLen s) = s.takeWhile tokB := by
      have e := List.takeWhile_append_dropWhile (p := tokB) (l := s)
      have : s.take (nameLen s) = (s.takeWhile tokB ++ s.dropWhile tokB).take (s.takeWhile tokB).length := by rw [e]; rfl
      rw [this, List.take_left]
    refine ⟨?_, clean_bare _, any_sub (bare_sub _) (by simpa using h3), ?_, ?_, htk⟩
    · unfold tokF
      rw [htk, Bool.and_eq_true, decide_eq_true_eq]
      exact ⟨by rw [List.all_eq_true]; exact fun c hc => taken_all c hc, by unfold nameLen at h1; omega⟩
    · rw [List.length_take]; omega
    · have := bareF_le (s.drop (nameLen s + 1))
      rw [List.length_drop] at this; omega
/-- What is left of a piece, if something is. -/
def keepF (p : List UInt8) : List (List UInt8) := if bareF p = [] then [] else [bareF p]
/-- The parts of what stands before and what is to come. -/
def ptsF : List UInt8 → List UInt8 → List (List UInt8)
  | cur, [] => keepF cur
  | cur, c :: r => if c = 44 then keepF cur ++ ptsF [] r else ptsF (cur ++ [c]) r
def partsF (s : List UInt8) : List (List UInt8) := ptsF [] s
theorem pts_comma (cur r : List UInt8) : ptsF cur (44 :: r) = keepF cur ++ ptsF [] r := by rw [ptsF, if_pos rfl]
theorem pts_more {c : UInt8} (cur r : List UInt8) (h : c ≠ 44) : ptsF cur (c :: r) = ptsF (cur ++ [c]) r := by rw [ptsF, if_neg h]
theorem keep_some {p : List UInt8} (h : bareF p ≠ []) : keepF p = [bareF p] := by rw [keepF, if_neg h]
theorem keep_none {p : List UInt8} (h : bareF p = []) : keepF p = [] := by rw [keepF, if_pos h]
theorem pts_count : ∀ (r cur : List UInt8), (ptsF cur r).length ≤ r.length + 1
  | [], cur => by rw [ptsF, keepF]; split <;> simp
  | c :: r, cur => by
    rw [ptsF]
    split
    · have := pts_count r []
      rw [List.length_append, List.length_cons]
      have h1 : (keepF cur).length ≤ 1 := by rw [keepF]; split <;> simp
      omega
    · have := pts_count r (cur ++ [c])
      rw [List.length_cons]; omega
theorem keep_le (c : List UInt8) : ∀ p ∈ keepF c, p.length ≤ c.length := by
  intro p hp
  unfold keepF at hp
  split at hp
  · cases hp
  · rw [List.mem_singleton.1 hp]; exact bareF_le c
theorem pts_le : ∀ (r cur : List UInt8), ∀ p ∈ ptsF cur r, p.length ≤ cur.length + r.length
  | [], cur, p, hp => by rw [ptsF] at hp; have := keep_le cur p hp; simp; omega
  | c :: r, cur, p, hp => by
    rw [ptsF] at hp
    split at hp
    · rcases List.mem_append.1 hp with h | h
      · have := keep_le cur p h; omega
      · have := pts_le r [] p h
        rw [List.length_nil] at this
        rw [List.length_cons]; omega
    · have := pts_le r (cur ++ [c]) p hp
      rw [List.length_append, List.length_singleton] at this
      rw [List.length_cons]; omega
theorem parts_le {s p : List UInt8} (h : p ∈ partsF s) : p.length ≤ s.length := by
  have := pts_le s [] p h
  rw [List.length_nil] at this; omega
def hasF (s w : List UInt8) : Bool := (partsF s).any fun p => alikeF p w
theorem pts_join (r : List UInt8) : ∀ (a cur : List UInt8), ptsF cur (a ++ 44 :: r) = ptsF cur a ++ partsF r
  | [], cur => by rw [List.nil_append, pts_comma]; rfl
  | c :: a, cur => by
    by_cases h : c = 44
    · subst h
      rw [List.cons_append, pts_comma, pts_comma, pts_join r a [], List.append_assoc]
    · rw [List.cons_append, pts_more _ _ h, pts_more _ _ h, pts_join r a]
theorem parts_join (a r : List UInt8) : partsF (a ++ 44 :: r) = partsF a ++ partsF r := pts_join r a []
/-- Without a comma there is one piece. -/
theorem pts_plain : ∀ (q cur : List UInt8), 44 ∉ q → ptsF cur q = keepF (cur ++ q)
  | [], cur, _ => by rw [List.append_nil]; rfl
  | c :: q, cur, h => by
    rw [List.mem_cons, not_or] at h
    rw [pts_more _ _ (fun e => h.1 e.symm), pts_plain q _ h.2, List.append_assoc, List.singleton_append]
theorem blank_comma {q : List UInt8} (h : q.all blankB = true) : 44 ∉ q := fun hm => by
  have := List.all_eq_true.1 h 44 hm
  exact absurd this (by decide)
theorem keep_back {p q : List UInt8} (h : q.all blankB = true) : keepF (p ++ q) = keepF p := by unfold keepF; rw [bare_back h]
theorem keep_front {p q : List UInt8} (h : q.all blankB = true) : keepF (q ++ p) = keepF p := by unfold keepF; rw [bare_front h]
theorem pts_back {q : List UInt8} (hq : q.all blankB = true) : ∀ (s cur : List UInt8), ptsF cur (s ++ q) = ptsF cur s
  | [], cur => by rw [List.nil_append, pts_plain _ _ (blank_comma hq), keep_back hq]; rfl
  | c :: s, cur => by
    by_cases h : c = 44
    · subst h
      rw [List.cons_append, pts_comma, pts_comma, pts_back hq s]
    · rw [List.cons_append, pts_more _ _ h, pts_more _ _ h, pts_back hq s]
theorem pts_front {q : List UInt8} (hq : q.all blankB = true) : ∀ (s cur : List UInt8), ptsF (q ++ cur) s = ptsF cur s
  | [], cur => keep_front hq
  | c :: s, cur => by
    by_cases h : c = 44
    · subst h
      rw [pts_comma, pts_comma, keep_front hq]
    · rw [pts_more _ _ h, pts_more _ _ h, List.append_assoc, pts_front hq s]
theorem pts_move : ∀ (q s cur : List UInt8), 44 ∉ q → ptsF cur (q ++ s) = ptsF (cur ++ q) s
  | [], s, cur, _ => by rw [List.append_nil]; rfl
  | c :: q, s, cur, h => by
    rw [List.mem_cons, not_or] at h
    rw [List.cons_append, pts_more _ _ (fun e => h.1 e.symm), pts_move q s _ h.2, List.append_assoc, List.singleton_append]
theorem parts_lead {q : List UInt8} (hq : q.all blankB = true) (s : List UInt8) : partsF (q ++ s) = partsF s := by
  unfold partsF
  rw [pts_move q s [] (blank_comma hq), List.nil_append]
  have := pts_front hq s []
  rwa [List.append_nil] at this
/-- The parts of two texts, with a comma and blanks between. -/
theorem parts_two (s t : List UInt8) : partsF ((s ++ [32, 44, 9]) ++ t) = partsF s ++ partsF t := by
  have e : (s ++ [32, 44, 9]) ++ t = (s ++ [32]) ++ 44 :: ([9] ++ t) := by simp
  rw [e, parts_join, show partsF (s ++ [32]) = partsF s from pts_back (q := [32]) (by decide) s [], parts_lead (q := [9]) (by decide)]
theorem parts_comma (s t : List UInt8) : partsF ((s ++ [44]) ++ t) = partsF s ++ partsF t := by
  have e : (s ++ [44]) ++ t = s ++ 44 :: t := by simp
  rw [e, parts_join]
/-- What a part is. -/
structure IsPart (p : List UInt8) : Prop where
  some : p ≠ []
  clean : Clean p
  plain : 44 ∉ p
theorem keep_part {cur : List UInt8} (h : 44 ∉ cur) : ∀ p ∈ keepF cur, IsPart p := by
  intro p hp
  unfold keepF at hp
  split at hp
  · cases hp
  · rename_i hn
    obtain rfl := List.mem_singleton.1 hp
    exact ⟨hn, clean_bare _, fun hm => h ((bare_sub cur).subset hm)⟩
theorem pts_part : ∀ (s cur : List UInt8), 44 ∉ cur → ∀ p ∈ ptsF cur s, IsPart p
  | [], cur, h => keep_part h
  | c :: s, cur, h => by
    intro p hp
    by_cases hc : c = 44
    · subst hc
      rw [pts_comma] at hp
      rcases List.mem_append.1 hp with h1 | h1
      · exact keep_part h p h1
      · exact pts_part s [] (by simp) p h1
    · rw [pts_more _ _ hc] at hp
      refine pts_part s _ (fun hm => ?_) p hp
      rcases List.mem_append.1 hm with h1 | h1
      · exact h h1
      · exact hc (List.mem_singleton.1 h1).symm
theorem parts_part {s p : List UInt8} (h : p ∈ partsF s) : IsPart p := pts_part s [] (by simp) p h
theorem part_self {p : List UInt8} (h : IsPart p) : partsF p = [p] := by
  unfold partsF
  rw [pts_plain p [] h.plain, List.nil_append, keep_some (by rw [clean_self h.clean]; exact h.some), clean_self h.clean]
/-- A token's characters that are neither letters nor digits. -/
def markL : List UInt8 := [33, 35, 36, 37, 38, 39, 42, 43, 45, 46, 94, 95, 96, 124, 126]
def inTok (n : Nat) : Bool := (decide (65 ≤ n) && decide (n ≤ 90) || decide (97 ≤ n) && decide (n ≤ 122)) || (decide (48 ≤ n) && decide (n ≤ 57)) || markL.contains (UInt8.ofNat n)
theorem tok_small : ∀ n : Fin 256, tokB (UInt8.ofNat n.1) = inTok n.1 := by decide +kernel
theorem tok_eq (c : UInt8) : tokB c = inTok c.toNat := by
  have := tok_small ⟨c.toNat, c.toNat_lt⟩
  simp only [UInt8.ofNat_toNat] at this
  exact this
/-- What may stand in a value. -/
def valB (c : UInt8) : Bool := !(badB c)
theorem index_hit {k : UInt8} : ∀ {a : List UInt8} (b : List UInt8), k ∉ a → Lib.indexByte (a ++ k :: b) k = (a.length : Int)
  | [], b, _ => by simp [Lib.indexByte]
  | c :: a, b, h => by
    have hc : (c == k) = false := beq_eq_false_iff_ne.2 (fun e => h (by rw [e]; exact List.mem_cons_self))
    have ih := index_hit (a := a) b (fun hm => h (List.mem_cons_of_mem _ hm))
    rw [List.cons_append, Lib.indexByte, hc, ih]
    have : ((a.length : Int) == -1) = false := beq_eq_false_iff_ne.2 (by omega)
    rw [this]; simp
theorem index_miss {k : UInt8} : ∀ {a : List UInt8}, k ∉ a → Lib.indexByte a k = -1
  | [], _ => rfl
  | c :: a, h => by
    have hc : (c == k) = false := beq_eq_false_iff_ne.2 (fun e => h (by rw [e]; exact List.mem_cons_self))
    have ih := index_miss (a := a) (fun hm => h (List.mem_cons_of_mem _ hm))
    rw [Lib.indexByte, hc, ih]; simp
theorem cut_cases (k : UInt8) : ∀ s : List UInt8, (∃ a b, s = a ++ k :: b ∧ k ∉ a) ∨ k ∉ s
  | [] => .inr List.not_mem_nil
  | c :: s => by
    by_cases hc : c = k
    · exact .inl ⟨[], s, by rw [hc]; rfl, List.not_mem_nil⟩
    · rcases cut_cases k s with ⟨a, b, rfl, h⟩ | h
      · exact .inl ⟨c :: a, b, rfl, fun hm => by
          rcases List.mem_cons.1 hm with e | hm
          · exact hc e.symm
          · exact h hm⟩
      · exact .inr fun hm => by
          rcases List.mem_cons.1 hm with e | hm
          · exact hc e.symm
          · exact h hm
theorem blank_in : ∀ c : UInt8, ([9, 32] : List UInt8).contains c = blankB c := fun c => by
  have : ∀ n : Fin 256, ([9, 32] : List UInt8).contains (UInt8.ofNat n.1) = blankB (UInt8.ofNat n.1) := by decide +kernel
  have := this ⟨c.toNat, c.toNat_lt⟩
  simp only [UInt8.ofNat_toNat] at this
  exact this
theorem dropWhile_nil {p : UInt8 → Bool} : ∀ {l : List UInt8}, l.dropWhile p = [] → ∀ c ∈ l, p c = true
  | [], _, c, h => by cases h
  | a :: l, h, c, hc => by
    rw [List.dropWhile_cons] at h
    split at h
    · rename_i ha
      rcases List.mem_cons.1 hc with rfl | hc
      · exact ha
      · exact dropWhile_nil h c hc
    · cases h
theorem trim_bare (s : List UInt8) : Lib.trimS s [9, 32] = bareF s := by
  have e : (fun c => ([9, 32] : List UInt8).contains c) = blankB := funext blank_in
  unfold Lib.trimS Lib.trimLeftS Lib.trimRightS
  rw [e]
  have hs : s = s.takeWhile blankB ++ s.dropWhile blankB := (List.takeWhile_append_dropWhile ..).symm
  have hp : (s.takeWhile blankB).all blankB = true := List.all_eq_true.2 taken_all
  by_cases hd : s.dropWhile blankB = []
  · have ha : s.all blankB = true := by rw [hs, hd, List.append_nil]; exact hp
    have hr : s.reverse.all blankB = true := by rw [List.all_reverse]; exact ha
    rw [drop_all hr]
    unfold bareF
    rw [hd]; rfl
  · have hne : (s.dropWhile blankB).reverse.dropWhile blankB ≠ [] := by
      intro h0
      obtain ⟨c, r, hcr⟩ := List.exists_cons_of_ne_nil hd
      have hb := head_drop hcr
      have hm : c ∈ (s.dropWhile blankB).reverse := by rw [hcr]; simp
      have := dropWhile_nil h0 c hm
      rw [hb] at this; cases this
    have h1 : s.reverse.dropWhile blankB = (s.dropWhile blankB).reverse.dropWhile blankB ++ (s.takeWhile blankB).reverse := by
      rw [← drop_some hne, ← List.reverse_append, ← hs]
    rw [h1, List.reverse_append, List.reverse_reverse, drop_blank hp]
    show List.dropWhile blankB (bareF s) = bareF s
    have hcl := clean_bare s
    cases hv : bareF s with
    | nil => rfl
    | cons c r => rw [List.dropWhile_cons, if_neg (by rw [hcl.first c r hv]; exact Bool.false_ne_true)]
theorem val_bad (b : List UInt8) : b.all valB = !(b.any badB) := by
  rw [List.not_any_eq_all_not]; rfl
theorem take_short {p : UInt8 → Bool} : ∀ {a : List UInt8} (r : List UInt8), a.all p = false → (a ++ r).takeWhile p = a.takeWhile p ∧ ∃ c, a[(a.takeWhile p).length]? = some c
  | [], _, h => by cases h
  | c :: a, r, h => by
    cases hc : p c with
    | true =>
      rw [List.all_cons, hc, Bool.true_and] at h
      obtain ⟨h1, d, h2⟩ := take_short r h
      rw [List.cons_append, List.takeWhile_cons, List.takeWhile_cons, hc, if_pos rfl, if_pos rfl, h1]
      exact ⟨rfl, d, by rw [List.length_cons, List.getElem?_cons_succ]; exact h2⟩
    | false =>
      rw [List.cons_append, List.takeWhile_cons, List.takeWhile_cons, hc, if_neg Bool.false_ne_true, if_neg Bool.false_ne_true]
      exact ⟨rfl, c, rfl⟩
theorem parse_cut (a b : List UInt8) (h : 58 ∉ a) : parseF (a ++ 58 :: b) = if (tokF a && b.all valB) = true then (a, bareF b, true) else ([], [], false) := by
  rw [val_bad]
  cases ht : a.all tokB with
  | true =>
    by_cases h0 : a.length = 0
    · have htf : tokF a = false := by unfold tokF; rw [decide_eq_false (by omega), Bool.and_false]
      rw [htf, Bool.false_and, if_neg Bool.false_ne_true]
      unfold parseF
      rw [name_of ht, if_pos (.inl h0)]
    · have htf : tokF a = true := by unfold tokF; rw [ht, decide_eq_true (by omega)]; rfl
      rw [htf, Bool.true_and]
      cases hb : b.any badB with
      | false => rw [parse_of htf hb]; rfl
      | true =>
        have hd : (a ++ 58 :: b).drop (a.length + 1) = b := by
          rw [List.drop_append, List.drop_of_length_le (by omega), show a.length + 1 - a.length = 1 by omega]; rfl
        unfold parseF
        rw [name_of ht, hd, if_pos (.inr (.inr hb))]; rfl
  | false =>
    have htf : tokF a = false := by unfold tokF; rw [ht, Bool.false_and]
    rw [htf, Bool.false_and, if_neg Bool.false_ne_true]
    obtain ⟨h1, c, h2⟩ := take_short (58 :: b) ht
    unfold parseF nameLen
    rw [h1, if_pos]
    refine .inr (.inl ?_)
    obtain ⟨hl, _⟩ := List.getElem?_eq_some_iff.1 h2
    rw [List.getElem?_append_left hl, h2]
    intro e
    cases e
    exact h (List.mem_of_getElem? h2)
theorem parse_miss {s : List UInt8} (h : 58 ∉ s) : parseF s = ([], [], false) := by
  unfold parseF
  rw [if_pos]
  exact .inr (.inl fun e => h (List.mem_of_getElem? e))
theorem parse_no {s n v : List UInt8} (h : parseF s = (n, v, false)) : n = [] ∧ v = [] := by
  unfold parseF at h
  split at h
  · cases h; exact ⟨rfl, rfl⟩
  · cases h
end Go.Proofs.YtendejpkdjkmnaaGreatDoor
/- Patterns as list functions: which may be, which fits, which is better, which is found. -/
namespace Go.Proofs.YtendejpkdjkmnaaGreatDoor
open Go.RowKit

abbrev Txt := List UInt8
def kindS (s : Txt) : Nat := match s with
  | [] => 0
  | c :: _ => if c = 58 then 1 else if c = 42 then 2 else 0
theorem kind_le (s : Txt) : kindS s ≤ 2 := by
  unfold kindS
  split
  · omega
  · split
    · omega
    · split <;> omega
def nameB (c : UInt8) : Bool := (decide (97 ≤ c.toNat) && decide (c.toNat ≤ 122)) || ((decide (65 ≤ c.toNat) && decide (c.toNat ≤ 90)) || ((decide (48 ≤ c.toNat) && decide (c.toNat ≤ 57)) || c == 95))
def nameS (s : Txt) : Bool := decide (1 ≤ s.length) && (decide (s.length ≤ 32) && s.all nameB)
/-- What stands between slashes. -/
def cutP : Txt → Txt → List Txt
  | cur, [] => [cur]
  | cur, c :: r => if c = 47 then cur :: cutP [] r else cutP (cur ++ [c]) r
/-- May these segments be, behind those? -/
def segsOk : List Txt → List Txt → Bool
  | _, [] => true
  | d, s :: r => (s != [] && (kindS s == 0 || (nameS (s.drop 1) && ((kindS s == 1 || r.isEmpty) && d.all fun k => kindS k == 0 || k.drop 1 != s.drop 1)))) && segsOk (d ++ [s]) r
def segsF (s : Txt) : Option (List Txt) := match s with
  | [] => none
  | c :: r => if c ≠ 47 then none else if r = [] then some [] else if segsOk [] (cutP [] r) = true then some (cutP [] r) else none
def segD (s : Txt) : List Txt := (segsF s).getD []
def twinF : List Txt → List Txt → Bool
  | [], [] => true
  | a :: ar, b :: bs => (kindS a == kindS b && (kindS a != 0 || a == b)) && twinF ar bs
  | _, _ => false
def fitsF : List Txt → List Txt → Bool
  | [], [] => true
  | s :: l, x :: p => if kindS s = 2 then true else (if kindS s = 1 then x != [] else s == x) && fitsF l p
  | _, _ => false
def betterF : List Txt → List Txt → Bool
  | a :: ar, b :: bs => if kindS a ≠ kindS b then decide (kindS a < kindS b) else betterF ar bs
  | _, _ => false
/-- The rest is the last one, and no segment is empty. -/
def Tidy : List Txt → Prop
  | [] => True
  | s :: r => (s ≠ [] ∧ (kindS s = 2 → r = [])) ∧ Tidy r
theorem tidy_ok : ∀ (r d : List Txt), segsOk d r = true → Tidy r
  | [], _, _ => trivial
  | s :: r, d, h => by
    rw [segsOk, Bool.and_eq_true, Bool.and_eq_true] at h
    obtain ⟨⟨h1, h2⟩, h3⟩ := h
    refine ⟨⟨by simpa using h1, fun hk => ?_⟩, tidy_ok r _ h3⟩
    rw [hk] at h2
    simp at h2
    exact h2.2.1
theorem segs_tidy {s : Txt} {l : List Txt} (h : segsF s = some l) : Tidy l := by
  unfold segsF at h
  split at h
  · cases h
  · split at h
    · cases h
    · split at h
      · cases h; trivial
      · split at h
        · rename_i hk
          cases h
          exact tidy_ok _ _ hk
        · cases h
theorem fits_total : ∀ (a b p : List Txt), Tidy a → Tidy b → fitsF a p = true → fitsF b p = true → twinF a b = true ∨ betterF a b = true ∨ betterF b a = true
  | [], [], _, _, _, _, _ => .inl rfl
  | [], t :: b, [], _, _, _, h => by simp [fitsF] at h
  | [], t :: b, x :: p, _, _, h, _ => by simp [fitsF] at h
  | s :: a, [], [], _, _, h, _ => by simp [fitsF] at h
  | s :: a, [], x :: p, _, _, _, h => by simp [fitsF] at h
  | s :: a, t :: b, [], _, _, h, _ => by simp [fitsF] at h
  | s :: a, t :: b, x :: p, ha, hb, h1, h2 => by
    by_cases hk : kindS s = kindS t
    · rw [twinF, betterF, betterF, if_neg (fun e => e hk), if_neg (fun e => e hk.symm)]
      rw [fitsF] at h1 h2
      by_cases hk2 : kindS s = 2
      · have e1 := ha.1.2 hk2
        have e2 := hb.1.2 (by rw [← hk]; exact hk2)
        subst e1 e2
        left
        rw [← hk, hk2]; rfl
      · rw [if_neg hk2, Bool.and_eq_true] at h1
        rw [if_neg (by rw [← hk]; exact hk2), Bool.and_eq_true] at h2
        rcases fits_total a b p ha.2 hb.2 h1.2 h2.2 with h | h
        · left
          rw [h, ← hk, beq_self_eq_true, Bool.true_and, Bool.and_true]
          by_cases hk1 : kindS s = 1
          · rw [hk1]; rfl
          · have hk0 : kindS s = 0 := by have := kind_le s; omega
            rw [if_neg hk1] at h1
            rw [if_neg (by rw [← hk]; exact hk1)] at h2
            rw [hk0, beq_iff_eq.1 h1.1, beq_iff_eq.1 h2.1]; simp
        · exact .inr h
    · right
      rw [betterF, betterF, if_pos hk, if_pos (fun e => hk e.symm), decide_eq_true_eq, decide_eq_true_eq]
      omega
theorem better_asym : ∀ a b : List Txt, betterF a b = true → betterF b a = false
  | [], _, h => by simp [betterF] at h
  | _ :: _, [], h => by simp [betterF] at h
  | s :: a, t :: b, h => by
    rw [betterF] at h ⊢
    by_cases hk : kindS s = kindS t
    · rw [if_neg (fun e => e hk)] at h
      rw [if_neg (fun e => e hk.symm)]
      exact better_asym a b h
    · rw [if_pos hk, decide_eq_true_eq] at h
      rw [if_pos (fun e => hk e.symm), decide_eq_false_iff_not]
      omega
theorem better_trans : ∀ a b c : List Txt, betterF a b = true → betterF b c = true → betterF a c = true
  | [], _, _, h, _ => by simp [betterF] at h
  | _ :: _, [], _, h, _ => by simp [betterF] at h
  | _ :: _, _ :: _, [], _, h => by simp [betterF] at h
  | s :: a, t :: b, u :: c, h1, h2 => by
    rw [betterF] at h1 h2 ⊢
    by_cases hk : kindS s = kindS t
    · rw [if_neg (fun e => e hk)] at h1
      by_cases hk2 : kindS t = kindS u
      · rw [if_neg (fun e => e hk2)] at h2
        rw [if_neg (fun e => e (hk.trans hk2))]
        exact better_trans a b c h1 h2
      · rw [if_pos hk2, decide_eq_true_eq] at h2
        rw [if_pos (by rw [hk]; exact hk2), decide_eq_true_eq]
        omega
    · rw [if_pos hk, decide_eq_true_eq] at h1
      by_cases hk2 : kindS t = kindS u
      · rw [if_pos (by rw [← hk2]; exact hk), decide_eq_true_eq]
        omega
      · rw [if_pos hk2, decide_eq_true_eq] at h2
        rw [if_pos (by omega), decide_eq_true_eq]
        omega
theorem twin_symm : ∀ a b : List Txt, twinF a b = twinF b a
  | [], [] => rfl
  | [], _ :: _ => rfl
  | _ :: _, [] => rfl
  | s :: a, t :: b => by
    rw [twinF, twinF, twin_symm a b]
    congr 1
    by_cases hk : kindS s = kindS t
    · rw [hk]
      by_cases h0 : kindS t = 0
      · rw [h0]
        by_cases e : s = t
        · rw [e]
        · have e1 : (s == t) = false := beq_eq_false_iff_ne.2 e
          have e2 : (t == s) = false := beq_eq_false_iff_ne.2 fun h => e h.symm
          rw [e1, e2]
      · have : (kindS t != 0) = true := bne_iff_ne.2 h0
        rw [this]; simp
    · have e1 : (kindS s == kindS t) = false := beq_eq_false_iff_ne.2 hk
      have e2 : (kindS t == kindS s) = false := beq_eq_false_iff_ne.2 fun h => hk h.symm
      rw [e1, e2]; rfl
theorem twin_self : ∀ a : List Txt, twinF a a = true
  | [] => rfl
  | s :: a => by rw [twinF, twin_self a]; simp

/-! A trie: patterns, and what they have. -/
section
variable {β : Type}
abbrev Ents (β : Type) := List (Txt × β)
/-- Patterns, of which no two are twins. -/
structure Wf (l : Ents β) : Prop where
  segs : ∀ e ∈ l, ∃ s, segsF e.1 = some s
  apart : l.Pairwise fun e f => twinF (segD e.1) (segD f.1) = false
theorem wf_nil : Wf ([] : Ents β) := ⟨fun _ h => (by cases h), List.Pairwise.nil⟩
theorem Wf.tidy {l : Ents β} (h : Wf l) {e : Txt × β} (he : e ∈ l) : Tidy (segD e.1) := by
  obtain ⟨s, hs⟩ := h.segs e he
  unfold segD
  rw [hs]
  exact segs_tidy hs
theorem Wf.ne {l : Ents β} (h : Wf l) {i j : Nat} {e f : Txt × β} (hi : l[i]? = some e) (hj : l[j]? = some f) (hn : i ≠ j) : twinF (segD e.1) (segD f.1) = false := by
  obtain ⟨hil, hie⟩ := List.getElem?_eq_some_iff.1 hi
  obtain ⟨hjl, hje⟩ := List.getElem?_eq_some_iff.1 hj
  have hp := List.pairwise_iff_getElem.1 h.apart
  rcases Nat.lt_or_gt_of_ne hn with h1 | h1
  · have := hp i j hil hjl h1
    rwa [hie, hje] at this
  · have := hp j i hjl hil h1
    rw [hie, hje] at this
    rw [twin_symm]; exact this
theorem Wf.same {l : Ents β} (h : Wf l) {e f : Txt × β} (he : e ∈ l) (hf : f ∈ l) (ht : twinF (segD e.1) (segD f.1) = true) : e = f := by
  obtain ⟨i, hi⟩ := List.getElem?_of_mem he
  obtain ⟨j, hj⟩ := List.getElem?_of_mem hf
  by_cases hn : i = j
  · subst hn
    exact Option.some.inj (hi.symm.trans hj)
  · have := h.ne hi hj hn
    rw [this] at ht; cases ht
/-- Add: what is wrong, and what there is then. -/
def addE (max : Int) (l : Ents β) (p : Txt) (x : β) : Nat × Ents β := match segsF p with
  | none => (8, l)
  | some s => if (l.any fun e => twinF s (segD e.1)) = true then (5, l) else if max ≤ (l.length : Int) then (6, l) else (0, l ++ [(p, x)])
theorem add_wf {max : Int} {l : Ents β} (h : Wf l) (p : Txt) (x : β) : Wf (addE max l p x).2 := by
  unfold addE
  cases hs : segsF p with
  | none => exact h
  | some s =>
    dsimp only
    split
    · exact h
    · rename_i ht
      split
      · exact h
      · refine ⟨fun e he => ?_, ?_⟩
        · rcases List.mem_append.1 he with he | he
          · exact h.segs e he
          · rw [List.mem_singleton] at he; subst he; exact ⟨s, hs⟩
        · refine List.pairwise_append.2 ⟨h.apart, List.pairwise_singleton _ _, fun e he f hf => ?_⟩
          rw [List.mem_singleton] at hf
          subst hf
          have e1 : segD p = s := by unfold segD; rw [hs]; rfl
          rw [twin_symm]
          show twinF (segD p) _ = false
          rw [e1]
          rw [Bool.not_eq_true, List.any_eq_false] at ht
          exact Bool.eq_false_iff.2 (ht e he)
/-- The best one of those that fit. -/
structure IsBest (l : Ents β) (path : List Txt) (e : Txt × β) : Prop where
  mem : e ∈ l
  fits : fitsF (segD e.1) path = true
  best : ∀ f ∈ l, fitsF (segD f.1) path = true → f = e ∨ betterF (segD e.1) (segD f.1) = true
theorem best_one {l : Ents β} {path : List Txt} {e f : Txt × β} (he : IsBest l path e) (hf : IsBest l path f) : e = f := by
  rcases he.best f hf.mem hf.fits with h | h
  · exact h.symm
  · rcases hf.best e he.mem he.fits with k | k
    · exact k
    · rw [better_asym _ _ h] at k; cases k
def FindIs (l : Ents β) (path : List Txt) (o : Option (Txt × β)) : Prop := match o with
  | none => ∀ f ∈ l, fitsF (segD f.1) path = false
  | some e => IsBest l path e
theorem find_unique {l : Ents β} {path : List Txt} {o o' : Option (Txt × β)} (h : FindIs l path o) (h' : FindIs l path o') : o = o' := by
  cases o with
  | none =>
    cases o' with
    | none => rfl
    | some e => have := h e h'.mem; rw [h'.fits] at this; cases this
  | some e =>
    cases o' with
    | none => have := h' e h.mem; rw [h.fits] at this; cases this
    | some f => rw [best_one h h']
theorem find_mem {l l' : Ents β} {path : List Txt} {o : Option (Txt × β)} (hm : ∀ e, e ∈ l ↔ e ∈ l') (h : FindIs l path o) : FindIs l' path o := by
  cases o with
  | none => exact fun f hf => h f ((hm f).2 hf)
  | some e => exact ⟨(hm e).1 h.mem, h.fits, fun f hf => h.best f ((hm f).2 hf)⟩
/-- One more: it is found, or what was found before. -/
theorem find_more {l : Ents β} {m : Txt × β} {path : List Txt} {o : Option (Txt × β)} (hw : Wf (l ++ [m])) (h : FindIs l path o) :
    FindIs (l ++ [m]) path o ∨ (fitsF (segD m.1) path = true ∧ FindIs (l ++ [m]) path (some m)) := by
  cases hm : fitsF (segD m.1) path with
  | false =>
    left
    cases o with
    | none =>
      intro f hf
      rcases List.mem_append.1 hf with hf | hf
      · exact h f hf
      · rw [List.mem_singleton] at hf; rw [hf]; exact hm
    | some e =>
      refine ⟨List.mem_append_left _ h.mem, h.fits, fun f hf hff => ?_⟩
      rcases List.mem_append.1 hf with hf | hf
      · exact h.best f hf hff
      · rw [List.mem_singleton] at hf; subst hf; rw [hm] at hff; cases hff
  | true =>
    have hmm : m ∈ l ++ [m] := by simp
    cases o with
    | none =>
      right
      refine ⟨rfl, hmm, hm, fun f hf hff => ?_⟩
      rcases List.mem_append.1 hf with hf | hf
      · rw [h f hf] at hff; cases hff
      · rw [List.mem_singleton] at hf; exact .inl hf
    | some e =>
      have hem : e ∈ l ++ [m] := List.mem_append_left _ h.mem
      rcases fits_total _ _ path (hw.tidy hmm) (hw.tidy hem) hm h.fits with ht | ht | ht
      · have := hw.same hmm hem ht
        subst this
        left
        refine ⟨hem, h.fits, fun f hf hff => ?_⟩
        rcases List.mem_append.1 hf with hf | hf
        · exact h.best f hf hff
        · rw [List.mem_singleton] at hf; exact .inl hf
      · right
        refine ⟨rfl, hmm, hm, fun f hf hff => ?_⟩
        rcases List.mem_append.1 hf with hf | hf
        · rcases h.best f hf hff with k | k
          · rw [k]; exact .inr ht
          · exact .inr (better_trans _ _ _ ht k)
        · rw [List.mem_singleton] at hf; exact .inl hf
      · left
        refine ⟨hem, h.fits, fun f hf hff => ?_⟩
        rcases List.mem_append.1 hf with hf | hf
        · exact h.best f hf hff
        · rw [List.mem_singleton] at hf; rw [hf]; exact .inr ht
/-- There is one. -/
theorem find_is {l : Ents β} (path : List Txt) (hw : Wf l) : ∃ o, FindIs l path o := by
  suffices h : ∀ k : Nat, k ≤ l.length → ∃ o, FindIs (l.take k) path o by
    have := h l.length (Nat.le_refl _)
    rwa [List.take_length] at this
  intro k
  induction k with
  | zero => intro _; exact ⟨none, fun f hf => by simp at hf⟩
  | succ k ih =>
    intro hk
    obtain ⟨o, ho⟩ := ih (by omega)
    obtain ⟨m, hm⟩ : ∃ m, l[k]? = some m := ⟨l[k]'(by omega), List.getElem?_eq_getElem _⟩
    have he : l.take (k + 1) = l.take k ++ [m] := by rw [List.take_add_one, hm]; rfl
    have hw2 : Wf (l.take k ++ [m]) := by
      rw [← he]
      exact ⟨fun e h => hw.segs e (List.mem_of_mem_take h), hw.apart.sublist (List.take_sublist _ _)⟩
    rw [he]
    rcases find_more hw2 ho with h | h
    · exact ⟨o, h⟩
    · exact ⟨some m, h.2⟩
end
/-- The parameters, and the rest. -/
def joinP (x : Txt) (p : List Txt) : Txt := x ++ p.flatMap fun y => 47 :: y
def paramsF : List Txt → List Txt → List (Txt × Txt)
  | s :: l, x :: p => if kindS s = 2 then [(s.drop 1, joinP x p)] else if kindS s = 1 then (s.drop 1, x) :: paramsF l p else paramsF l p
  | _, _ => []
end Go.Proofs.YtendejpkdjkmnaaGreatDoor
/- The document's answers for a request's line, a target and a reply's line: as list functions, and what the statements ask of them. -/
namespace Go.Proofs.YtendejpkdjkmnaaGreatDoor
open Go.RowKit

/-! A request's line. -/
def visB (c : UInt8) : Bool := decide (33 ≤ c.toNat) && decide (c.toNat ≤ 126)
def notB (k c : UInt8) : Bool := c != k
def http0 : List UInt8 := [32, 72, 84, 84, 80, 47, 49, 46, 48]
def http1 : List UInt8 := [32, 72, 84, 84, 80, 47, 49, 46, 49]
def lineF (s : List UInt8) : List UInt8 × List UInt8 × Nat × Bool :=
  let m := s.takeWhile (notB 32)
  let r := s.drop (m.length + 1)
  let t := r.takeWhile visB
  let q := r.drop t.length
  if tokF m = true ∧ t ≠ [] then (if q = http0 then (m, t, 10, true) else if q = http1 then (m, t, 11, true) else ([], [], 0, false)) else ([], [], 0, false)
/-- A line's answer. -/
def lineV (p : List UInt8 × List UInt8 × Nat × Bool) : Value := .tuple #[S p.1, S p.2.1, .int .i64 (p.2.2.1 : Int), .bool p.2.2.2]
theorem take_while_stop {p : UInt8 → Bool} {a : List UInt8} {c : UInt8} {r : List UInt8} (ha : a.all p = true) (hc : p c = false) : (a ++ c :: r).takeWhile p = a := by
  rw [List.takeWhile_append_of_pos (by simpa using ha), List.takeWhile_cons, hc]
  simp
theorem lineF_of {m t : List UInt8} {q : List UInt8} (hm : tokF m = true) (hv : t.all visB = true) (ht : t ≠ []) (hq : q = http0 ∨ q = http1) :
    lineF (m ++ 32 :: (t ++ q)) = (m, t, (if q = http0 then 10 else 11), true) := by
  have hmb : m.all (notB 32) = true := by
    unfold tokF at hm
    rw [Bool.and_eq_true] at hm
    rw [List.all_eq_true] at hm ⊢
    intro c hc
    have := hm.1 c hc
    unfold notB
    rw [bne_iff_ne]
    rintro rfl
    exact absurd this (by decide)
  have hqs : ∃ r, q = 32 :: r := by rcases hq with rfl | rfl <;> exact ⟨_, rfl⟩
  obtain ⟨qr, hqr⟩ := hqs
  have h1 : (m ++ 32 :: (t ++ q)).takeWhile (notB 32) = m := take_while_stop hmb rfl
  have h2 : (m ++ 32 :: (t ++ q)).drop (m.length + 1) = t ++ q := by
    rw [List.drop_append, List.drop_of_length_le (by omega), show m.length + 1 - m.length = 1 by omega]; rfl
  have h3 : (t ++ q).takeWhile visB = t := by rw [hqr]; exact take_while_stop hv rfl
  unfold lineF
  simp only [h1, h2, h3, List.drop_left]
  rw [if_pos ⟨hm, ht⟩]
  rcases hq with rfl | rfl
  · rw [if_pos rfl, if_pos rfl]
  · rw [if_neg (by decide), if_pos rfl, if_neg (by decide)]
/-- What is read of a line is put together as it. -/
theorem lineF_true {s m t : List UInt8} {n : Nat} (h : lineF s = (m, t, n, true)) : tokF m = true ∧ t.all visB = true ∧ t ≠ [] ∧ ((n = 10 ∧ s = m ++ 32 :: (t ++ http0)) ∨ (n = 11 ∧ s = m ++ 32 :: (t ++ http1))) := by
  unfold lineF at h
  simp only at h
  obtain ⟨M, hM⟩ : ∃ M, M = s.takeWhile (notB 32) := ⟨_, rfl⟩
  obtain ⟨R, hR⟩ : ∃ R, R = s.drop (M.length + 1) := ⟨_, rfl⟩
  obtain ⟨T, hT⟩ : ∃ T, T = R.takeWhile visB := ⟨_, rfl⟩
  rw [← hM, ← hR, ← hT] at h
  split at h
  · rename_i hc
    have hRT : R = T ++ R.drop T.length := by
      have e := List.takeWhile_append_dropWhile (p := visB) (l := R)
      have : R.drop T.length = R.dropWhile visB := by
        rw [hT]; conv => lhs; rw [← e]
        rw [List.drop_left' (by rw [e])]
      rw [this, hT]; exact e.symm
    have hRne : R ≠ [] := fun e => by rw [e] at hT; exact hc.2 hT
    have hs : s = M ++ 32 :: R := by
      have e := List.takeWhile_append_dropWhile (p := notB 32) (l := s)
      cases hd : s.dropWhile (notB 32) with
      | nil =>
        rw [hd, List.append_nil] at e
        rw [hR, hM, e, List.drop_of_length_le (by omega)] at hRne
        exact absurd rfl hRne
      | cons c r =>
        have hcb : notB 32 c = false := by
          have := List.head?_dropWhile_not (notB 32) s
          rw [hd] at this
          simpa using this
        have hc32 : c = 32 := by unfold notB at hcb; simpa using hcb
        rw [hd, ← hM, hc32] at e
        rw [hR, ← e, List.drop_append, List.drop_of_length_le (by omega), show M.length + 1 - M.length = 1 by omega]; rfl
    have hTv : T.all visB = true := by rw [hT, List.all_eq_true]; exact fun c hc => taken_all c hc
    split at h
    · rename_i hq
      cases h
      exact ⟨hc.1, hTv, hc.2, .inl ⟨rfl, by rw [hs, ← hq, ← hRT]⟩⟩
    · split at h
      · rename_i hq
        cases h
        exact ⟨hc.1, hTv, hc.2, .inr ⟨rfl, by rw [hs, ← hq, ← hRT]⟩⟩
      · cases h
  · cases h
theorem lineF_false {s m t : List UInt8} {n : Nat} (h : lineF s = (m, t, n, false)) : m = [] ∧ t = [] ∧ n = 0 := by
  unfold lineF at h
  simp only at h
  split at h
  · split at h
    · cases h
    · split at h
      · cases h
      · cases h; exact ⟨rfl, rfl, rfl⟩
  · cases h; exact ⟨rfl, rfl, rfl⟩
/-- A line with a version behind: what is read. -/
theorem lineF_back {method target q m t : List UInt8} {n v : Nat} (hq : (v = 10 ∧ q = http0) ∨ (v = 11 ∧ q = http1)) (h : lineF ((method ++ 32 :: target) ++ q) = (m, t, n, true)) :
    m ++ 32 :: t = method ++ 32 :: target ∧ n = v ∧ tokF m = true ∧ t ≠ [] := by
  obtain ⟨h1, _, h3, h4⟩ := lineF_true h
  rcases h4 with ⟨rfl, h4⟩ | ⟨rfl, h4⟩
  · rw [show m ++ 32 :: (t ++ http0) = (m ++ 32 :: t) ++ http0 by simp] at h4
    rcases hq with ⟨rfl, rfl⟩ | ⟨rfl, rfl⟩
    · exact ⟨(List.append_cancel_right h4).symm, rfl, h1, h3⟩
    · have := (List.append_inj' h4 rfl).2
      exact absurd this (by decide)
  · rw [show m ++ 32 :: (t ++ http1) = (m ++ 32 :: t) ++ http1 by simp] at h4
    rcases hq with ⟨rfl, rfl⟩ | ⟨rfl, rfl⟩
    · have := (List.append_inj' h4 rfl).2
      exact absurd this (by decide)
    · exact ⟨(List.append_cancel_right h4).symm, rfl, h1, h3⟩
end Go.Proofs.YtendejpkdjkmnaaGreatDoor
/- A target's answer, and what the statements ask of it. -/
namespace Go.Proofs.YtendejpkdjkmnaaGreatDoor
open Go.RowKit

def hexAll : List UInt8 := [48, 49, 50, 51, 52, 53, 54, 55, 56, 57, 97, 98, 99, 100, 101, 102, 65, 66, 67, 68, 69, 70]
def hexB (c : UInt8) : Bool := hexAll.contains c
def pathAll : List UInt8 := [97, 98, 99, 100, 101, 102, 103, 104, 105, 106, 107, 108, 109, 110, 111, 112, 113, 114, 115, 116, 117, 118, 119, 120, 121, 122, 65, 66, 67, 68, 69, 70, 71, 72, 73, 74, 75, 76, 77, 78, 79, 80, 81, 82, 83, 84, 85, 86, 87, 88, 89, 90, 48, 49, 50, 51, 52, 53, 54, 55, 56, 57, 45, 46, 95, 126, 33, 36, 38, 39, 40, 41, 42, 43, 44, 59, 61, 58, 64, 47]
def pathB (c : UInt8) : Bool := pathAll.contains c
theorem path_pct : pathB 37 = false := by decide
theorem path_q : pathB 63 = false := by decide
theorem all_bytes {p : UInt8 → Bool} (h : ∀ n : Fin 256, p (UInt8.ofNat n.1) = true) (c : UInt8) : p c = true := by
  have := h ⟨c.toNat, c.toNat_lt⟩
  simp only [UInt8.ofNat_toNat] at this
  exact this
theorem hex_not (c : UInt8) (h : hexB c = true) : c ≠ 37 ∧ c ≠ 63 := by
  have := all_bytes (p := fun c => !hexB c || (c != 37 && c != 63)) (by decide +kernel) c
  simp only [h, Bool.not_true, Bool.false_or, Bool.and_eq_true, bne_iff_ne] at this
  exact this
/-- A path's characters, and a query's: percent signs with two digits behind. -/
def okT : List UInt8 → Bool
  | [] => true
  | [c] => c == 63 || pathB c
  | [c, d] => (c == 63 || pathB c) && (d == 63 || pathB d)
  | c :: x :: y :: r => if c = 37 ∧ hexB x = true ∧ hexB y = true then okT r else (c == 63 || pathB c) && okT (x :: y :: r)
theorem okT_one {c : UInt8} {r : List UInt8} (h : c ≠ 37) : okT (c :: r) = ((c == 63 || pathB c) && okT r) := by
  match r with
  | [] => simp [okT]
  | [d] => simp [okT]
  | x :: y :: r => rw [okT, if_neg (fun e => h e.1)]
theorem okT_pct {x y : UInt8} {r : List UInt8} (hx : hexB x = true) (hy : hexB y = true) : okT (37 :: x :: y :: r) = okT r := by rw [okT, if_pos ⟨rfl, hx, hy⟩]
theorem okT_bad {r : List UInt8} (h : ∀ x y q, r = x :: y :: q → ¬ (hexB x = true ∧ hexB y = true)) : okT (37 :: r) = false := by
  match r with
  | [] => decide
  | [d] => simp [okT, path_pct]
  | x :: y :: r =>
    rw [okT, if_neg (fun e => h x y r rfl e.2)]
    simp [path_pct]
/-- The three ways in which a text that fits may begin. -/
theorem okT_cases {s : List UInt8} (h : okT s = true) : s = [] ∨ (∃ c r, s = c :: r ∧ c ≠ 37 ∧ (c == 63 || pathB c) = true ∧ okT r = true) ∨ (∃ x y r, s = 37 :: x :: y :: r ∧ hexB x = true ∧ hexB y = true ∧ okT r = true) := by
  match s with
  | [] => exact .inl rfl
  | c :: r =>
    by_cases hc : c = 37
    · subst hc
      by_cases hr : ∃ x y q, r = x :: y :: q ∧ hexB x = true ∧ hexB y = true
      · obtain ⟨x, y, q, rfl, hx, hy⟩ := hr
        rw [okT_pct hx hy] at h
        exact .inr (.inr ⟨x, y, q, rfl, hx, hy, h⟩)
      · rw [okT_bad (fun x y q e he => hr ⟨x, y, q, e, he⟩)] at h; cases h
    · rw [okT_one hc, Bool.and_eq_true] at h
      exact .inr (.inl ⟨c, r, rfl, hc, h.1, h.2⟩)
theorem okT_append : ∀ (n : Nat) (a b : List UInt8), a.length ≤ n → okT a = true → okT (a ++ b) = okT b
  | 0, a, b, hn, _ => by
    obtain rfl := List.length_eq_zero_iff.1 (Nat.le_zero.1 hn); rfl
  | n + 1, a, b, hn, h => by
    rcases okT_cases h with rfl | ⟨c, r, rfl, hc, hp, hr⟩ | ⟨x, y, r, rfl, hx, hy, hr⟩
    · rfl
    · rw [List.cons_append, okT_one hc, hp, Bool.true_and]
      exact okT_append n r b (by simp at hn; omega) hr
    · rw [List.cons_append, List.cons_append, List.cons_append, okT_pct hx hy]
      exact okT_append n r b (by simp at hn; omega) hr
/-- A text split at a question mark. -/
theorem okT_mark : ∀ (n : Nat) (a b : List UInt8), a.length ≤ n → 63 ∉ a → okT (a ++ 63 :: b) = true → okT a = true ∧ okT b = true
  | 0, a, b, hn, _, h => by
    obtain rfl := List.length_eq_zero_iff.1 (Nat.le_zero.1 hn)
    rw [List.nil_append, okT_one (by decide)] at h
    exact ⟨rfl, by simpa using h⟩
  | n + 1, [], b, _, _, h => by
    rw [List.nil_append, okT_one (by decide)] at h
    exact ⟨rfl, by simpa using h⟩
  | n + 1, c :: a, b, hn, hq, h => by
    simp only [List.length_cons] at hn
    rcases okT_cases h with h0 | ⟨c', r, e, hc, hp, hr⟩ | ⟨x, y, r, e, hx, hy, hr⟩
    · cases h0
    · rw [List.cons_append] at e
      obtain ⟨rfl, rfl⟩ := List.cons.inj e
      obtain ⟨h1, h2⟩ := okT_mark n a b (by omega) (fun hm => hq (List.mem_cons_of_mem _ hm)) hr
      exact ⟨by rw [okT_one hc, hp, h1]; rfl, h2⟩
    · rw [List.cons_append] at e
      obtain ⟨rfl, e⟩ := List.cons.inj e
      replace e := (List.cons.inj e).2
      rcases a with _ | ⟨d, _ | ⟨f, a⟩⟩
      · have e1 := (List.cons.inj e).1
        exact absurd e1.symm (hex_not _ hx).2
      · have e1 := (List.cons.inj (List.cons.inj e).2).1
        exact absurd e1.symm (hex_not _ hy).2
      · have e1 := (List.cons.inj e).1
        have e2 := (List.cons.inj (List.cons.inj e).2).1
        have e3 := (List.cons.inj (List.cons.inj e).2).2
        subst e1 e2
        rw [← e3] at hr
        simp only [List.length_cons] at hn
        obtain ⟨h1, h2⟩ := okT_mark n a b (by omega) (fun hm => hq (List.mem_cons_of_mem _ (List.mem_cons_of_mem _ (List.mem_cons_of_mem _ hm)))) hr
        exact ⟨by rw [okT_pct hx hy]; exact h1, h2⟩
/-- A beginning fits just if it cuts no percent sign's digits. -/
theorem okT_take : ∀ (n : Nat) (p : List UInt8) (k : Nat), p.length ≤ n → okT p = true → 1 ≤ k → k ≤ p.length → okT (p.take k) = !(p[k - 1]? == some 37 || (decide (2 ≤ k) && p[k - 2]? == some 37))
  | 0, p, k, hn, _, h1, h2 => by omega
  | n + 1, p, k, hn, h, h1, h2 => by
    rcases okT_cases h with rfl | ⟨c, r, rfl, hc, hp, hr⟩ | ⟨x, y, r, rfl, hx, hy, hr⟩
    · simp at h2; omega
    · simp only [List.length_cons] at hn h2
      obtain ⟨j, rfl⟩ : ∃ j, k = j + 1 := ⟨k - 1, by omega⟩
      rw [List.take_succ_cons, okT_one hc, hp, Bool.true_and]
      rcases Nat.eq_zero_or_pos j with rfl | hj
      · simp [okT, hc]
      · rw [okT_take n r j (by omega) hr hj (by omega)]
        obtain ⟨i, rfl⟩ : ∃ i, j = i + 1 := ⟨j - 1, by omega⟩
        rcases Nat.eq_zero_or_pos i with rfl | hi
        · simp [hc]
        · obtain ⟨m, rfl⟩ : ∃ m, i = m + 1 := ⟨i - 1, by omega⟩
          simp
    · simp only [List.length_cons] at hn h2
      have hx' := hex_not x hx
      have hy' := hex_not y hy
      rcases Nat.lt_or_ge k 4 with hk | hk
      · have : k = 1 ∨ k = 2 ∨ k = 3 := by omega
        rcases this with rfl | rfl | rfl
        · simp [okT, path_pct]
        · simp [okT, path_pct]
        · rw [show (37 :: x :: y :: r).take 3 = 37 :: x :: y :: [] from rfl, okT_pct hx hy]
          simp [okT, hx'.1, hy'.1]
      · obtain ⟨j, rfl⟩ : ∃ j, k = j + 3 := ⟨k - 3, by omega⟩
        rw [show (37 :: x :: y :: r).take (j + 3) = 37 :: x :: y :: r.take j from rfl, okT_pct hx hy, okT_take n r j (by omega) hr (by omega) (by omega)]
        obtain ⟨i, rfl⟩ : ∃ i, j = i + 1 := ⟨j - 1, by omega⟩
        rcases Nat.eq_zero_or_pos i with rfl | hi
        · simp [hy'.1]
        · obtain ⟨m, rfl⟩ : ∃ m, i = m + 1 := ⟨i - 1, by omega⟩
          simp

def targetF (s : List UInt8) : List UInt8 × List UInt8 × Bool :=
  if s[0]? ≠ some 47 ∨ 512 < s.length ∨ okT s = false then ([], [], false)
  else if 63 ∉ s then (s, [], true) else (s.takeWhile (notB 63), s.drop ((s.takeWhile (notB 63)).length + 1), true)
def targetV (p : List UInt8 × List UInt8 × Bool) : Value := .tuple #[S p.1, S p.2.1, .bool p.2.2]
theorem not_mem_all {k : UInt8} {a : List UInt8} (h : k ∉ a) : a.all (notB k) = true := by
  rw [List.all_eq_true]
  intro c hc
  unfold notB
  rw [bne_iff_ne]
  rintro rfl
  exact h hc
theorem target_false {s p q : List UInt8} (h : targetF s = (p, q, false)) : p = [] ∧ q = [] := by
  unfold targetF at h
  split at h
  · cases h; exact ⟨rfl, rfl⟩
  · split at h <;> cases h
/-- A path that fits, alone. -/
theorem target_path {p : List UInt8} (h0 : p[0]? = some 47) (hl : p.length ≤ 512) (ho : okT p = true) (hq : 63 ∉ p) : targetF p = (p, [], true) := by
  unfold targetF
  rw [if_neg, if_pos hq]
  rintro (h | h | h)
  · exact h h0
  · omega
  · rw [ho] at h; cases h
theorem target_none {p : List UInt8} (ho : okT p = false) : targetF p = ([], [], false) := by
  unfold targetF; rw [if_pos (.inr (.inr ho))]
theorem target_query {p q : List UInt8} (h0 : p[0]? = some 47) (hl : p.length + 1 + q.length ≤ 512) (ho : okT p = true) (hoq : okT q = true) (hq : 63 ∉ p) : targetF ((p ++ [63]) ++ q) = (p, q, true) := by
  have e : (p ++ [63]) ++ q = p ++ 63 :: q := by simp
  have hp0 : 0 < p.length := by
    cases p with
    | nil => cases h0
    | cons => simp
  rw [e]
  unfold targetF
  have ht : (p ++ 63 :: q).takeWhile (notB 63) = p := take_while_stop (not_mem_all hq) rfl
  rw [if_neg, if_neg (fun hn => hn (by simp)), ht]
  · rw [List.drop_append, List.drop_of_length_le (by omega), show p.length + 1 - p.length = 1 by omega]; rfl
  · rintro (h | h | h)
    · rw [List.getElem?_append_left hp0] at h; exact h h0
    · rw [List.length_append, List.length_cons] at h; omega
    · rw [okT_append _ p _ (Nat.le_refl _) ho, okT_one (by decide), hoq] at h; cases h
theorem target_long {s : List UInt8} (h : 512 < s.length) : targetF s = ([], [], false) := by
  unfold targetF; rw [if_pos (.inr (.inl h))]
/-- What a target that fits says. -/
theorem target_true {s p q : List UInt8} (h : targetF s = (p, q, true)) : p[0]? = some 47 ∧ okT p = true ∧ okT q = true ∧ 63 ∉ p ∧ p.length ≤ 512 ∧ q.length ≤ 512 ∧ p.length + q.length ≤ s.length ∧ s.length ≤ 512 ∧ okT s = true := by
  unfold targetF at h
  split at h
  · cases h
  · rename_i hc
    have h0 : s[0]? = some 47 := Classical.byContradiction fun e => hc (.inl e)
    have hl : s.length ≤ 512 := Nat.le_of_not_lt fun e => hc (.inr (.inl e))
    have ho : okT s = true := by
      cases ho : okT s with
      | true => rfl
      | false => exact absurd (.inr (.inr ho)) hc
    split at h
    · rename_i hm
      cases h
      exact ⟨h0, ho, rfl, hm, hl, by simp, by simp, hl, ho⟩
    · rename_i hm
      replace hm := Classical.not_not.1 hm
      obtain ⟨a, b, rfl, hab⟩ : ∃ a b, s = a ++ 63 :: b ∧ 63 ∉ a := by
        clear h ho hc h0 hl
        induction s with
        | nil => cases hm
        | cons c s ih =>
          by_cases hc : c = 63
          · exact ⟨[], s, by rw [hc]; rfl, List.not_mem_nil⟩
          · rcases List.mem_cons.1 hm with e | hm
            · exact absurd e.symm hc
            · obtain ⟨a, b, rfl, h⟩ := ih hm
              exact ⟨c :: a, b, rfl, fun hm => by
                rcases List.mem_cons.1 hm with e | hm
                · exact hc e.symm
                · exact h hm⟩
      have ht : (a ++ 63 :: b).takeWhile (notB 63) = a := take_while_stop (not_mem_all hab) rfl
      have hd : (a ++ 63 :: b).drop (a.length + 1) = b := by
        rw [List.drop_append, List.drop_of_length_le (by omega), show a.length + 1 - a.length = 1 by omega]; rfl
      rw [ht, hd] at h
      cases h
      obtain ⟨h1, h2⟩ := okT_mark _ p q (Nat.le_refl _) hab ho
      have hll := hl
      rw [List.length_append, List.length_cons] at hll
      have ha0 : 0 < p.length := by
        cases p with
        | nil => cases h0
        | cons => simp
      rw [List.getElem?_append_left ha0] at h0
      exact ⟨h0, h1, h2, hab, by omega, by omega, by rw [List.length_append, List.length_cons]; omega, hl, ho⟩
/-- A target's characters are all to be seen. -/
theorem okT_vis : ∀ (n : Nat) (s : List UInt8), s.length ≤ n → okT s = true → s.all visB = true
  | 0, s, hn, _ => by
    obtain rfl := List.length_eq_zero_iff.1 (Nat.le_zero.1 hn); rfl
  | n + 1, s, hn, h => by
    have hv := fun c => all_bytes (p := fun c => !(c == 63 || pathB c) || visB c) (by decide +kernel) c
    have hx' := fun c => all_bytes (p := fun c => !hexB c || visB c) (by decide +kernel) c
    rcases okT_cases h with rfl | ⟨c, r, rfl, hc, hp, hr⟩ | ⟨x, y, r, rfl, hx, hy, hr⟩
    · rfl
    · have := hv c
      rw [hp] at this
      rw [List.all_cons, okT_vis n r (by simp at hn; omega) hr]
      simpa using this
    · have h1 := hx' x
      have h2 := hx' y
      rw [hx] at h1
      rw [hy] at h2
      have e37 : visB 37 = true := by decide
      rw [List.all_cons, List.all_cons, List.all_cons, okT_vis n r (by simp at hn; omega) hr, e37]
      simpa using And.intro h1 h2
theorem target_vis {s p q : List UInt8} (h : targetF s = (p, q, true)) : s.all visB = true ∧ s ≠ [] := by
  obtain ⟨_, _, _, _, _, _, _, _, ho⟩ := target_true h
  refine ⟨okT_vis _ s (Nat.le_refl _) ho, ?_⟩
  rintro rfl
  unfold targetF at h
  rw [if_pos (.inl (by simp))] at h; cases h
end Go.Proofs.YtendejpkdjkmnaaGreatDoor
/- Paths as list functions: segments out of a path, a path out of segments. -/
namespace Go.Proofs.YtendejpkdjkmnaaGreatDoor
open Go.RowKit

def hexN (c : UInt8) : Nat := if c.toNat ≤ 57 then c.toNat - 48 else if c.toNat ≤ 70 then c.toNat - 55 else c.toNat - 87
def hexD (n : Nat) : UInt8 := if n < 10 then UInt8.ofNat (48 + n) else UInt8.ofNat (55 + n)
def byteH (x y : UInt8) : UInt8 := UInt8.ofNat (16 * hexN x + hexN y)
def ownAll : List UInt8 := [97, 98, 99, 100, 101, 102, 103, 104, 105, 106, 107, 108, 109, 110, 111, 112, 113, 114, 115, 116, 117, 118, 119, 120, 121, 122, 65, 66, 67, 68, 69, 70, 71, 72, 73, 74, 75, 76, 77, 78, 79, 80, 81, 82, 83, 84, 85, 86, 87, 88, 89, 90, 48, 49, 50, 51, 52, 53, 54, 55, 56, 57, 45, 46, 95, 126]
def plainB (c : UInt8) : Bool := ownAll.contains c
/-- May a segment be? -/
def mayS (s : List UInt8) : Bool := s.all (fun c => c != 47 && c != 0) && (s != [46] && s != [46, 46])
/-- Segments; seg: what was read of one; pd: a percent sign was read, and a digit. -/
def splM : List UInt8 → Option (Option UInt8) → List UInt8 → Option (List (List UInt8))
  | seg, none, [] => if mayS seg = true then some [seg] else none
  | _, some _, [] => none
  | seg, none, c :: r => if c = 47 then (if mayS seg = true then (splM [] none r).map (seg :: ·) else none) else if c = 37 then splM seg (some none) r else splM (seg ++ [c]) none r
  | seg, some none, x :: r => splM seg (some (some x)) r
  | seg, some (some x), y :: r => splM (seg ++ [byteH x y]) none r
def splG (seg s : List UInt8) : Option (List (List UInt8)) := splM seg none s
def pathOk (s : List UInt8) : Prop := s[0]? = some 47 ∧ s.length ≤ 512 ∧ okT s = true ∧ 63 ∉ s
instance decPath (s : List UInt8) : Decidable (pathOk s) := inferInstanceAs (Decidable (_ ∧ _))
def splitF (s : List UInt8) : Option (List (List UInt8)) := if pathOk s then splG [] (s.drop 1) else none
def encC (c : UInt8) : List UInt8 := if plainB c = true then [c] else [37, hexD (c.toNat / 16), hexD (c.toNat % 16)]
def encS (s : List UInt8) : List UInt8 := s.flatMap encC
def joinS (l : List (List UInt8)) : List UInt8 := l.flatMap fun s => 47 :: encS s
def joinF (l : List (List UInt8)) : Option (List UInt8) := if l ≠ [] ∧ (∀ s ∈ l, mayS s = true) ∧ (joinS l).length ≤ 512 then some (joinS l) else none

theorem spl_end (seg : List UInt8) : splG seg [] = if mayS seg = true then some [seg] else none := rfl
theorem spl_sep (seg r : List UInt8) : splG seg (47 :: r) = if mayS seg = true then (splG [] r).map (seg :: ·) else none := by unfold splG; rw [splM, if_pos rfl]
theorem spl_pct (seg : List UInt8) (x y : UInt8) (r : List UInt8) : splG seg (37 :: x :: y :: r) = splG (seg ++ [byteH x y]) r := by unfold splG; rw [splM, if_neg (by decide), if_pos rfl, splM, splM]
theorem spl_on {seg r : List UInt8} {c : UInt8} (h1 : c ≠ 47) (h2 : c ≠ 37) : splG seg (c :: r) = splG (seg ++ [c]) r := by unfold splG; rw [splM, if_neg h1, if_neg h2]
theorem hex_not47 (c : UInt8) (h : hexB c = true) : c ≠ 47 := by
  have := all_bytes (p := fun c => !hexB c || c != 47) (by decide +kernel) c
  simp only [h, Bool.not_true, Bool.false_or, bne_iff_ne] at this
  exact this
theorem enc_hex (c : UInt8) : hexB (hexD (c.toNat / 16)) = true ∧ hexB (hexD (c.toNat % 16)) = true ∧ byteH (hexD (c.toNat / 16)) (hexD (c.toNat % 16)) = c := by
  have := all_bytes (p := fun c => hexB (hexD (c.toNat / 16)) && (hexB (hexD (c.toNat % 16)) && byteH (hexD (c.toNat / 16)) (hexD (c.toNat % 16)) == c)) (by decide +kernel) c
  simp only [Bool.and_eq_true, beq_iff_eq] at this
  exact this
theorem plain_path (c : UInt8) (h : plainB c = true) : pathB c = true ∧ c ≠ 47 ∧ c ≠ 37 ∧ c ≠ 63 := by
  have := all_bytes (p := fun c => !plainB c || (pathB c && (c != 47 && (c != 37 && c != 63)))) (by decide +kernel) c
  simp only [h, Bool.not_true, Bool.false_or, Bool.and_eq_true, bne_iff_ne] at this
  exact this
theorem encS_cons (c : UInt8) (s : List UInt8) : encS (c :: s) = encC c ++ encS s := by unfold encS; rw [List.flatMap_cons]
theorem spl_enc (t : List UInt8) : ∀ (s seg : List UInt8), splG seg (encS s ++ t) = splG (seg ++ s) t
  | [], seg => by rw [List.append_nil]; rfl
  | c :: s, seg => by
    rw [encS_cons]
    unfold encC
    split
    · rename_i h
      obtain ⟨_, h1, h2, _⟩ := plain_path c h
      rw [List.cons_append, List.nil_append, List.cons_append, spl_on h1 h2, spl_enc t s, List.append_assoc]; rfl
    · obtain ⟨_, _, h3⟩ := enc_hex c
      show splG seg (37 :: hexD (c.toNat / 16) :: hexD (c.toNat % 16) :: (encS s ++ t)) = _
      rw [spl_pct, h3, spl_enc t s, List.append_assoc]; rfl
theorem joinS_cons (s : List UInt8) (l : List (List UInt8)) : joinS (s :: l) = 47 :: (encS s ++ joinS l) := by unfold joinS; rw [List.flatMap_cons]; rfl
theorem spl_join : ∀ (l : List (List UInt8)) (seg : List UInt8), mayS seg = true → (∀ s ∈ l, mayS s = true) → splG seg (joinS l) = some (seg :: l)
  | [], seg, h, _ => by
    show splG seg [] = _
    rw [spl_end, if_pos h]
  | s :: l, seg, h, hl => by
    rw [joinS_cons, spl_sep, if_pos h, spl_enc, List.nil_append, spl_join l s (hl s (List.mem_cons_self ..)) fun k hk => hl k (List.mem_cons_of_mem _ hk)]
    rfl
theorem okT_enc : ∀ s : List UInt8, okT (encS s) = true ∧ 63 ∉ encS s
  | [] => ⟨rfl, by simp [encS]⟩
  | c :: s => by
    obtain ⟨i1, i2⟩ := okT_enc s
    rw [encS_cons]
    unfold encC
    split
    · rename_i h
      obtain ⟨h0, _, h2, h3⟩ := plain_path c h
      refine ⟨?_, ?_⟩
      · rw [List.cons_append, List.nil_append, okT_one h2, h0, i1]; simp
      · rw [List.cons_append, List.nil_append, List.mem_cons]
        rintro (e | e)
        · exact h3 e.symm
        · exact i2 e
    · obtain ⟨h1, h2, _⟩ := enc_hex c
      refine ⟨?_, ?_⟩
      · rw [List.cons_append, List.cons_append, List.cons_append, List.nil_append, okT_pct h1 h2, i1]
      · simp only [List.cons_append, List.nil_append, List.mem_cons]
        rintro (e | e | e | e)
        · exact absurd e (by decide)
        · exact (hex_not _ h1).2 e.symm
        · exact (hex_not _ h2).2 e.symm
        · exact i2 e
theorem okT_join : ∀ l : List (List UInt8), okT (joinS l) = true ∧ 63 ∉ joinS l
  | [] => ⟨rfl, by simp [joinS]⟩
  | s :: l => by
    obtain ⟨i1, i2⟩ := okT_join l
    obtain ⟨e1, e2⟩ := okT_enc s
    rw [joinS_cons]
    refine ⟨?_, ?_⟩
    · rw [okT_one (by decide), okT_append _ _ _ (Nat.le_refl _) e1, i1]; decide
    · rw [List.mem_cons, List.mem_append]
      rintro (e | e | e)
      · exact absurd e (by decide)
      · exact e2 e
      · exact i2 e
theorem join_some {l : List (List UInt8)} {p : List UInt8} (h : joinF l = some p) : p = joinS l ∧ l ≠ [] ∧ (∀ s ∈ l, mayS s = true) ∧ (joinS l).length ≤ 512 := by
  unfold joinF at h
  split at h
  · rename_i h2
    exact ⟨(Option.some.inj h).symm, h2⟩
  · cases h
theorem join_path {l : List (List UInt8)} {p : List UInt8} (h : joinF l = some p) : pathOk p ∧ splitF p = some l := by
  obtain ⟨rfl, h1, h2, h3⟩ := join_some h
  obtain ⟨o1, o2⟩ := okT_join l
  cases l with
  | nil => exact absurd rfl h1
  | cons s l =>
    have hp : pathOk (joinS (s :: l)) := ⟨by rw [joinS_cons]; rfl, h3, o1, o2⟩
    refine ⟨hp, ?_⟩
    unfold splitF
    rw [if_pos hp, joinS_cons]
    show splG [] (encS s ++ joinS l) = _
    rw [spl_enc, List.nil_append]
    exact spl_join l s (h2 s (List.mem_cons_self ..)) fun k hk => h2 k (List.mem_cons_of_mem _ hk)
theorem path_target {s : List UInt8} (h : pathOk s) : targetF s = (s, [], true) := target_path h.1 h.2.1 h.2.2.1 h.2.2.2
theorem target_is {s : List UInt8} : targetF s = (s, [], true) ↔ pathOk s := by
  constructor
  · intro h
    obtain ⟨h1, h2, _, h4, h5, _⟩ := target_true h
    exact ⟨h1, h5, h2, h4⟩
  · exact path_target
/-- How long: a segment costs a slash, a byte one at least. -/
def sumL (l : List (List UInt8)) : Nat := (l.map List.length).sum
theorem spl_len : ∀ (s seg : List UInt8) (pd : Option (Option UInt8)) (l : List (List UInt8)), splM seg pd s = some l → sumL l + l.length ≤ seg.length + s.length + 1 ∧ (∀ x ∈ l, mayS x = true) ∧ l ≠ []
  | [], seg, none, l, h => by
    rw [splM] at h
    split at h
    · rename_i hm
      cases h
      exact ⟨by simp [sumL], fun x hx => by rw [List.mem_singleton] at hx; rw [hx]; exact hm, by simp⟩
    · cases h
  | [], seg, some _, l, h => by rw [splM] at h; cases h
  | c :: r, seg, none, l, h => by
    rw [splM] at h
    split at h
    · split at h
      · rename_i hm
        cases hs : splM [] none r with
        | none => rw [hs] at h; cases h
        | some k =>
          rw [hs] at h
          cases h
          obtain ⟨i1, i2, _⟩ := spl_len r [] none k hs
          refine ⟨?_, fun x hx => ?_, by simp⟩
          · simp only [sumL, List.map_cons, List.sum_cons, List.length_cons, List.length_nil] at i1 ⊢; omega
          · rcases List.mem_cons.1 hx with rfl | hx
            · exact hm
            · exact i2 x hx
      · cases h
    · split at h
      · obtain ⟨i1, i2, i3⟩ := spl_len r seg (some none) l h
        exact ⟨by rw [List.length_cons]; omega, i2, i3⟩
      · obtain ⟨i1, i2, i3⟩ := spl_len r (seg ++ [c]) none l h
        exact ⟨by rw [List.length_append, List.length_singleton] at i1; rw [List.length_cons]; omega, i2, i3⟩
  | x :: r, seg, some none, l, h => by
    rw [splM] at h
    obtain ⟨i1, i2, i3⟩ := spl_len r seg (some (some x)) l h
    exact ⟨by rw [List.length_cons]; omega, i2, i3⟩
  | y :: r, seg, some (some x), l, h => by
    rw [splM] at h
    obtain ⟨i1, i2, i3⟩ := spl_len r (seg ++ [byteH x y]) none l h
    exact ⟨by rw [List.length_append, List.length_singleton] at i1; rw [List.length_cons]; omega, i2, i3⟩
theorem encS_len : ∀ s : List UInt8, (encS s).length ≤ 3 * s.length
  | [] => by simp [encS]
  | c :: s => by
    have := encS_len s
    rw [encS_cons, List.length_append, List.length_cons]
    have : (encC c).length ≤ 3 := by unfold encC; split <;> simp
    omega
theorem joinS_len : ∀ l : List (List UInt8), (joinS l).length ≤ l.length + 3 * sumL l
  | [] => by simp [joinS]
  | s :: l => by
    have h1 := joinS_len l
    have h2 := encS_len s
    rw [joinS_cons, List.length_cons, List.length_append]
    simp only [sumL, List.map_cons, List.sum_cons, List.length_cons] at h1 ⊢; omega
theorem split_some {s : List UInt8} {l : List (List UInt8)} (h : splitF s = some l) : pathOk s ∧ splG [] (s.drop 1) = some l ∧ sumL l + l.length ≤ s.length ∧ (∀ x ∈ l, mayS x = true) ∧ l ≠ [] := by
  unfold splitF at h
  split at h
  · rename_i hp
    obtain ⟨h1, h2, h3⟩ := spl_len _ _ _ _ h
    have h0 : 1 ≤ s.length := by
      rcases Nat.eq_zero_or_pos s.length with e | e
      · rw [List.length_eq_zero_iff.1 e] at hp; exact absurd hp.1 (by simp)
      · exact e
    rw [List.length_drop, List.length_nil] at h1
    exact ⟨hp, h, by omega, h2, h3⟩
  · cases h
/-- What was split is joined, if it is not long. -/
theorem split_join {s : List UInt8} {l : List (List UInt8)} (h : splitF s = some l) (hs : s.length ≤ 170) : joinF l = some (joinS l) := by
  obtain ⟨_, _, h1, h2, h3⟩ := split_some h
  unfold joinF
  rw [if_pos ⟨h3, h2, by have := joinS_len l; omega⟩]
/-- Two paths one behind the other. -/
theorem spl_app (t : List UInt8) : ∀ (n : Nat) (r seg : List UInt8) (a : List (List UInt8)), r.length ≤ n → okT r = true → splG seg r = some a → splG seg (r ++ 47 :: t) = (splG [] t).map (a ++ ·) ∧ a.length = 1 + r.count 47
  | n, r, seg, a, hn, ho, h => by
    rcases okT_cases ho with rfl | ⟨c, q, rfl, h1, h2, h3⟩ | ⟨x, y, q, rfl, h1, h2, h3⟩
    · rw [spl_end] at h
      split at h
      · rename_i hm
        cases h
        rw [List.nil_append, spl_sep, if_pos hm]
        exact ⟨rfl, by simp⟩
      · cases h
    · obtain ⟨m, rfl⟩ : ∃ m, n = m + 1 := ⟨n - 1, by simp at hn; omega⟩
      by_cases h47 : c = 47
      · subst h47
        rw [spl_sep] at h
        split at h
        · rename_i hm
          cases hs : splG [] q with
          | none => rw [hs] at h; cases h
          | some k =>
            rw [hs] at h
            cases h
            obtain ⟨i1, i2⟩ := spl_app t m q [] k (by simp at hn; omega) h3 hs
            rw [List.cons_append, spl_sep, if_pos hm, i1]
            refine ⟨?_, by rw [List.length_cons, i2, List.count_cons_self]; omega⟩
            rw [Option.map_map]; rfl
        · cases h
      · rw [spl_on h47 h1] at h
        obtain ⟨i1, i2⟩ := spl_app t m q _ a (by simp at hn; omega) h3 h
        rw [List.cons_append, spl_on h47 h1, i1]
        exact ⟨rfl, by rw [List.count_cons_of_ne h47]; exact i2⟩
    · obtain ⟨m, rfl⟩ : ∃ m, n = m + 1 := ⟨n - 1, by simp at hn; omega⟩
      rw [spl_pct] at h
      obtain ⟨i1, i2⟩ := spl_app t m q _ a (by simp at hn; omega) h3 h
      rw [List.cons_append, List.cons_append, List.cons_append, spl_pct, i1]
      exact ⟨rfl, by rw [List.count_cons_of_ne (by decide), List.count_cons_of_ne (hex_not47 _ h1), List.count_cons_of_ne (hex_not47 _ h2)]; exact i2⟩
theorem split_two {s t : List UInt8} {a b : List (List UInt8)} (ha : splitF s = some a) (hb : splitF t = some b) (hl : s.length + t.length ≤ 512) : splitF (s ++ t) = some (a ++ b) := by
  obtain ⟨ps, hs, _⟩ := split_some ha
  obtain ⟨pt, ht, _⟩ := split_some hb
  cases s with
  | nil => exact absurd ps.1 (by simp)
  | cons c r =>
    cases t with
    | nil => exact absurd pt.1 (by simp)
    | cons d q =>
      have hc : c = 47 := by simpa using ps.1
      have hd : d = 47 := by simpa using pt.1
      subst hc hd
      have hp : pathOk ((47 :: r) ++ 47 :: q) := by
        refine ⟨rfl, by rw [List.length_append]; exact hl, ?_, ?_⟩
        · rw [okT_append _ _ _ (Nat.le_refl _) ps.2.2.1]; exact pt.2.2.1
        · rw [List.mem_append]
          rintro (e | e)
          · exact ps.2.2.2 e
          · exact pt.2.2.2 e
      unfold splitF
      rw [if_pos hp]
      show splG [] (r ++ 47 :: q) = _
      have ho : okT r = true := by have := ps.2.2.1; rw [okT_one (by decide)] at this; simp at this; exact this.2
      rw [(spl_app q _ r [] a (Nat.le_refl _) ho hs).1]
      have hq : splG [] q = some b := ht
      rw [hq]; rfl
theorem split_count {s : List UInt8} {a : List (List UInt8)} (ha : splitF s = some a) : a.length = s.count 47 := by
  obtain ⟨ps, hs, _⟩ := split_some ha
  cases s with
  | nil => exact absurd ps.1 (by simp)
  | cons c r =>
    have hc : c = 47 := by simpa using ps.1
    subst hc
    have ho : okT r = true := by have := ps.2.2.1; rw [okT_one (by decide)] at this; simp at this; exact this.2
    rw [(spl_app [] _ r [] a (Nat.le_refl _) ho hs).2, List.count_cons_self, Nat.add_comm]
end Go.Proofs.YtendejpkdjkmnaaGreatDoor
/- Routes as list functions (stage 14): which make a router, what it answers. -/
namespace Go.Proofs.YtendejpkdjkmnaaGreatDoor
open Go.RowKit

structure Rt where
  m : Txt
  p : Txt
  kind : Int
  text : Txt
def getT : Txt := [71, 69, 84]
def headT : Txt := [72, 69, 65, 68]
def rightR (r : Rt) : Bool := tokF r.m && ((segsF r.p).isSome && ((decide (1 ≤ r.kind) && decide (r.kind ≤ 4)) && ((if r.kind = 1 then decide (r.text.length ≤ 4096) else r.text == []) && (r.kind != 4 || r.m == getT))))
/-- The same route, or a pattern that is a twin and not the same. -/
def clashR (q r : Rt) : Bool := (q.p == r.p && q.m == r.m) || (q.p != r.p && twinF (segD q.p) (segD r.p))
def newGo : List Rt → List Rt → Nat
  | _, [] => 0
  | pre, r :: l => if rightR r = false then 1 else if (pre.any fun q => clashR q r) = true then 5 else newGo (pre ++ [r]) l
/-- New: what is wrong. -/
def newF (l : List Rt) : Nat := if 32 < l.length then 6 else newGo [] l
structure GoodR (l : List Rt) : Prop where
  few : l.length ≤ 32
  right : ∀ r ∈ l, rightR r = true
  apart : l.Pairwise fun q r => clashR q r = false
theorem clash_symm (q r : Rt) : clashR q r = clashR r q := by
  have comm : ∀ a b : Txt, (a == b) = (b == a) := fun a b => by
    rw [Bool.eq_iff_iff, beq_iff_eq, beq_iff_eq]; exact eq_comm
  unfold clashR
  have comm2 : (q.p != r.p) = (r.p != q.p) := by unfold bne; rw [comm]
  rw [twin_symm, comm2, comm q.p r.p, comm q.m r.m]
theorem newGo_good : ∀ (l pre : List Rt), newGo pre l = 0 ↔ (∀ r ∈ l, rightR r = true) ∧ (∀ q ∈ pre, ∀ r ∈ l, clashR q r = false) ∧ l.Pairwise fun q r => clashR q r = false
  | [], pre => by simp [newGo]
  | r :: l, pre => by
    rw [newGo]
    cases hr : rightR r with
    | false => rw [if_pos rfl]; simp [hr]
    | true =>
      rw [if_neg (by simp)]
      cases hp : pre.any fun q => clashR q r with
      | true =>
        rw [if_pos rfl]
        obtain ⟨q, hq, hc⟩ := List.any_eq_true.1 hp
        constructor
        · intro h; cases h
        · rintro ⟨_, h, _⟩
          rw [h q hq r (List.mem_cons_self ..)] at hc; cases hc
      | false =>
        rw [if_neg (by simp), newGo_good l (pre ++ [r])]
        have hp' : ∀ q ∈ pre, clashR q r = false := fun q hq => by
          have := List.any_eq_false.1 hp q hq
          simpa using this
        rw [List.pairwise_cons]
        constructor
        · rintro ⟨h1, h2, h3⟩
          refine ⟨fun x hx => ?_, fun q hq x hx => ?_, fun x hx => h2 r (by simp) x hx, h3⟩
          · rcases List.mem_cons.1 hx with rfl | hx
            · exact hr
            · exact h1 x hx
          · rcases List.mem_cons.1 hx with rfl | hx
            · exact hp' q hq
            · exact h2 q (List.mem_append_left _ hq) x hx
        · rintro ⟨h1, h2, h3, h4⟩
          refine ⟨fun x hx => h1 x (List.mem_cons_of_mem _ hx), fun q hq x hx => ?_, h4⟩
          rcases List.mem_append.1 hq with hq | hq
          · exact h2 q hq x (List.mem_cons_of_mem _ hx)
          · rw [List.mem_singleton] at hq; rw [hq]; exact h3 x hx
theorem new_good (l : List Rt) : newF l = 0 ↔ GoodR l := by
  unfold newF
  by_cases h : 32 < l.length
  · rw [if_pos h]
    exact ⟨fun e => (by cases e), fun g => (by have := g.few; omega)⟩
  · rw [if_neg h, newGo_good]
    exact ⟨fun ⟨h1, _, h3⟩ => ⟨by omega, h1, h3⟩, fun g => ⟨g.right, fun q hq => (by cases hq), g.apart⟩⟩
theorem GoodR.perm {l l' : List Rt} (h : GoodR l) (hp : l.Perm l') : GoodR l' :=
  ⟨by rw [← hp.length_eq]; exact h.few, fun r hr => h.right r (hp.mem_iff.2 hr), (hp.pairwise_iff fun {x y} hxy => by rw [clash_symm]; exact hxy).1 h.apart⟩
/-! What it answers. -/
structure Rp where
  code : Int
  fs : List (Txt × Txt)
  body : Txt
  kind : Int
def badPathT : Txt := [98, 97, 100, 32, 112, 97, 116, 104]
def notFoundT : Txt := [110, 111, 116, 32, 102, 111, 117, 110, 100]
def noSuchT : Txt := [110, 111, 32, 115, 117, 99, 104, 32, 109, 101, 116, 104, 111, 100]
def allowT : Txt := [65, 108, 108, 111, 119]
def linesR (ps : List (Txt × Txt)) : Txt := ps.flatMap fun f => f.1 ++ (61 :: f.2 ++ [10])
def answerR (r : Rt) (ps : List (Txt × Txt)) (body : Txt) : Rp :=
  if r.kind = 1 then ⟨200, [], r.text, 1⟩ else if r.kind = 2 then ⟨200, [], body, 2⟩ else if r.kind = 3 then ⟨200, [], linesR ps, 3⟩ else ⟨101, [], [], 4⟩
def segsOf (path : Txt) : Option (List Txt) := if path = [47] then some [] else splitF path
/-- The best pattern of routes' that fits. -/
def BestP (l : List Rt) (segs : List Txt) : Option Txt → Prop
  | none => ∀ r ∈ l, fitsF (segD r.p) segs = false
  | some p => (∃ r ∈ l, r.p = p) ∧ fitsF (segD p) segs = true ∧ ∀ r ∈ l, fitsF (segD r.p) segs = true → r.p = p ∨ betterF (segD p) (segD r.p) = true
theorem bestP_one {l : List Rt} {segs : List Txt} {o o' : Option Txt} (h : BestP l segs o) (h' : BestP l segs o') : o = o' := by
  cases o with
  | none =>
    cases o' with
    | none => rfl
    | some p =>
      obtain ⟨⟨r, hr, rfl⟩, hf, _⟩ := h'
      rw [h r hr] at hf; cases hf
  | some p =>
    obtain ⟨⟨r, hr, rfl⟩, hf, hb⟩ := h
    cases o' with
    | none => rw [h' r hr] at hf; cases hf
    | some p' =>
      obtain ⟨⟨r', hr', rfl⟩, hf', hb'⟩ := h'
      rcases hb r' hr' hf' with e | e
      · rw [e]
      · rcases hb' r hr hf with e' | e'
        · rw [e']
        · rw [better_asym _ _ e] at e'; cases e'
theorem BestP.mem {l l' : List Rt} {segs : List Txt} {o : Option Txt} (h : BestP l segs o) (hm : ∀ r, r ∈ l ↔ r ∈ l') : BestP l' segs o := by
  cases o with
  | none => exact fun r hr => h r ((hm r).2 hr)
  | some p =>
    obtain ⟨⟨r, hr, e⟩, hf, hb⟩ := h
    exact ⟨⟨r, (hm r).1 hr, e⟩, hf, fun r' hr' => hb r' ((hm r').2 hr')⟩
/-- Is this the route of a pattern and a method? -/
def isRt (p m : Txt) (r : Rt) : Bool := r.p == p && r.m == m
def pickR (l : List Rt) (p m : Txt) : Option Rt := l.find? (isRt p m)
theorem isRt_iff {p m : Txt} {r : Rt} : isRt p m r = true ↔ r.p = p ∧ r.m = m := by
  unfold isRt; rw [Bool.and_eq_true, beq_iff_eq, beq_iff_eq]
theorem isRt_one {l : List Rt} (h : l.Pairwise fun q r => clashR q r = false) {p m : Txt} {a b : Rt} (ha : a ∈ l) (hb : b ∈ l) (h1 : isRt p m a = true) (h2 : isRt p m b = true) : a = b := by
  obtain ⟨i, hi⟩ := List.getElem?_of_mem ha
  obtain ⟨j, hj⟩ := List.getElem?_of_mem hb
  obtain ⟨hil, hie⟩ := List.getElem?_eq_some_iff.1 hi
  obtain ⟨hjl, hje⟩ := List.getElem?_eq_some_iff.1 hj
  obtain ⟨a1, a2⟩ := isRt_iff.1 h1
  obtain ⟨b1, b2⟩ := isRt_iff.1 h2
  have hp := List.pairwise_iff_getElem.1 h
  have no : ∀ {x y : Rt}, x.p = p → x.m = m → y.p = p → y.m = m → clashR x y = true := fun h1 h2 h3 h4 => by
    unfold clashR
    rw [h1, h2, h3, h4, beq_self_eq_true, beq_self_eq_true]; rfl
  rcases Nat.lt_trichotomy i j with e | e | e
  · have := hp i j hil hjl e
    rw [hie, hje, no a1 a2 b1 b2] at this; cases this
  · subst e
    exact Option.some.inj (hi.symm.trans hj)
  · have := hp j i hjl hil e
    rw [hie, hje, no b1 b2 a1 a2] at this; cases this
theorem pickR_some {l : List Rt} {p m : Txt} {r : Rt} (h : pickR l p m = some r) : r ∈ l ∧ r.p = p ∧ r.m = m :=
  ⟨List.mem_of_find?_eq_some h, isRt_iff.1 (List.find?_some h)⟩
theorem pickR_of {l : List Rt} (h : l.Pairwise fun q r => clashR q r = false) {p m : Txt} {r : Rt} (hr : r ∈ l) (h1 : isRt p m r = true) : pickR l p m = some r := by
  cases hf : pickR l p m with
  | none =>
    have := List.find?_eq_none.1 hf r hr
    exact absurd h1 this
  | some q =>
    have hq := List.mem_of_find?_eq_some hf
    rw [isRt_one h hq hr (List.find?_some hf) h1]
theorem pickR_perm {l l' : List Rt} (hm : ∀ r, r ∈ l ↔ r ∈ l') (h' : GoodR l') (p m : Txt) : pickR l p m = pickR l' p m := by
  cases hf : pickR l p m with
  | none =>
    cases hf' : pickR l' p m with
    | none => rfl
    | some r =>
      have h1 := List.mem_of_find?_eq_some hf'
      exact absurd (List.find?_some hf') (List.find?_eq_none.1 hf r ((hm r).2 h1))
  | some r =>
    have h1 := List.mem_of_find?_eq_some hf
    exact (pickR_of h'.apart ((hm r).1 h1) (List.find?_some hf)).symm
def routeR (l : List Rt) (p m : Txt) : Option Rt := (pickR l p m).or (if m = headT then pickR l p getT else none)
/-- One text ahead of another. -/
def ltT : Txt → Txt → Bool
  | [], [] => false
  | [], _ :: _ => true
  | _ :: _, [] => false
  | a :: ar, b :: bs => if a < b then true else if b < a then false else ltT ar bs
theorem ltT_irrefl : ∀ a : Txt, ltT a a = false
  | [] => rfl
  | a :: ar => by rw [ltT, if_neg (by simp), if_neg (by simp), ltT_irrefl ar]
theorem ltT_asymm : ∀ a b : Txt, ltT a b = true → ltT b a = false
  | [], [], h => by cases h
  | [], _ :: _, _ => rfl
  | _ :: _, [], h => by cases h
  | a :: ar, b :: bs, h => by
    rw [ltT] at h ⊢
    by_cases h1 : a < b
    · have : ¬ b < a := fun e => by
        have h1 : a.toNat < b.toNat := h1
        have e : b.toNat < a.toNat := e
        omega
      rw [if_neg this, if_pos h1]
    · rw [if_neg h1] at h
      by_cases h2 : b < a
      · rw [if_pos h2] at h; cases h
      · rw [if_neg h2] at h
        rw [if_neg h2, if_neg h1]
        exact ltT_asymm ar bs h
theorem ltT_trans : ∀ a b c : Txt, ltT a b = true → ltT b c = true → ltT a c = true
  | _, [], [], _, h => by cases h
  | [], [], _ :: _, h, _ => by cases h
  | [], _ :: _, [], _, h => by cases h
  | [], _ :: _, _ :: _, _, _ => rfl
  | _ :: _, [], _ :: _, h, _ => by cases h
  | _ :: _, _ :: _, [], _, h => by cases h
  | a :: ar, b :: bs, c :: cs, h1, h2 => by
    rw [ltT] at h1 h2 ⊢
    have up : ∀ {x y : UInt8}, x.toNat < y.toNat → x < y := fun h => h
    have dn : ∀ {x y : UInt8}, x < y → x.toNat < y.toNat := fun h => h
    by_cases a1 : a < b
    · have a1' := dn a1
      by_cases b1 : b < c
      · have b1' := dn b1
        rw [if_pos (up (by omega))]
      · rw [if_neg b1] at h2
        by_cases b2 : c < b
        · rw [if_pos b2] at h2; cases h2
        · have : ¬ c.toNat < b.toNat := fun e => b2 (up e)
          rw [if_pos (up (by omega))]
    · rw [if_neg a1] at h1
      have a1' : ¬ a.toNat < b.toNat := fun e => a1 (up e)
      by_cases a2 : b < a
      · rw [if_pos a2] at h1; cases h1
      · rw [if_neg a2] at h1
        have a2' : ¬ b.toNat < a.toNat := fun e => a2 (up e)
        by_cases b1 : b < c
        · have b1' := dn b1
          rw [if_pos (up (by omega))]
        · rw [if_neg b1] at h2
          have b1' : ¬ b.toNat < c.toNat := fun e => b1 (up e)
          by_cases b2 : c < b
          · rw [if_pos b2] at h2; cases h2
          · rw [if_neg b2] at h2
            have b2' : ¬ c.toNat < b.toNat := fun e => b2 (up e)
            rw [if_neg (fun e => by have := dn e; omega), if_neg (fun e => by have := dn e; omega)]
            exact ltT_trans ar bs cs h1 h2
/-- Texts that rise. -/
def Rising (l : List Txt) : Prop := l.Pairwise fun a b => ltT a b = true
theorem rising_one : ∀ {l l' : List Txt}, Rising l → Rising l' → (∀ m, m ∈ l ↔ m ∈ l') → l = l'
  | [], [], _, _, _ => rfl
  | [], b :: bs, _, _, hm => by have := (hm b).2 (List.mem_cons_self ..); cases this
  | a :: ar, [], _, _, hm => by have := (hm a).1 (List.mem_cons_self ..); cases this
  | a :: ar, b :: bs, h, h', hm => by
    unfold Rising at h h'
    rw [List.pairwise_cons] at h h'
    have e : a = b := by
      rcases List.mem_cons.1 ((hm a).1 (List.mem_cons_self ..)) with e | e
      · exact e
      · rcases List.mem_cons.1 ((hm b).2 (List.mem_cons_self ..)) with e' | e'
        · exact e'.symm
        · have := ltT_asymm _ _ (h'.1 a e)
          rw [h.1 b e'] at this; cases this
    subst e
    congr 1
    refine rising_one h.2 h'.2 fun m => ⟨fun hx => ?_, fun hx => ?_⟩
    · rcases List.mem_cons.1 ((hm m).1 (List.mem_cons_of_mem _ hx)) with e | e
      · have := h.1 m hx
        rw [e, ltT_irrefl] at this; cases this
      · exact e
    · rcases List.mem_cons.1 ((hm m).2 (List.mem_cons_of_mem _ hx)) with e | e
      · have := h'.1 m hx
        rw [e, ltT_irrefl] at this; cases this
      · exact e
def joinA : List Txt → Txt
  | [] => []
  | m :: l => m ++ l.flatMap fun y => 44 :: 32 :: y
/-- The methods that a pattern is told to have. -/
def toldR (l : List Rt) (p m : Txt) : Prop := (∃ r ∈ l, r.p = p ∧ r.m = m) ∨ (m = headT ∧ ∃ r ∈ l, r.p = p ∧ r.m = getT)
def AllowIs (l : List Rt) (p s : Txt) : Prop := ∃ ms : List Txt, Rising ms ∧ (∀ m, m ∈ ms ↔ toldR l p m) ∧ s = joinA ms
theorem allow_one {l : List Rt} {p s s' : Txt} (h : AllowIs l p s) (h' : AllowIs l p s') : s = s' := by
  obtain ⟨ms, h1, h2, rfl⟩ := h
  obtain ⟨ms', h1', h2', rfl⟩ := h'
  rw [rising_one h1 h1' fun m => (h2 m).trans (h2' m).symm]
theorem AllowIs.mem {l l' : List Rt} {p s : Txt} (h : AllowIs l p s) (hm : ∀ r, r ∈ l ↔ r ∈ l') : AllowIs l' p s := by
  obtain ⟨ms, h1, h2, rfl⟩ := h
  refine ⟨ms, h1, fun m => (h2 m).trans ?_, rfl⟩
  have ex : ∀ m, (∃ r ∈ l, r.p = p ∧ r.m = m) ↔ ∃ r ∈ l', r.p = p ∧ r.m = m := fun m =>
    ⟨fun ⟨r, hr, e⟩ => ⟨r, (hm r).1 hr, e⟩, fun ⟨r, hr, e⟩ => ⟨r, (hm r).2 hr, e⟩⟩
  unfold toldR
  rw [ex m, ex getT]
def ServeAt (l : List Rt) (rm body : Txt) (segs : List Txt) (x : Rp) : Option Txt → Prop
  | none => x = ⟨404, [], notFoundT, 0⟩
  | some p => match routeR l p rm with
    | some r => x = answerR r (paramsF (segD p) segs) body
    | none => ∃ s, AllowIs l p s ∧ x = ⟨405, [(allowT, s)], noSuchT, 0⟩
theorem serveAt_some (l : List Rt) (rm body : Txt) (segs : List Txt) (x : Rp) (p : Txt) : ServeAt l rm body segs x (some p) = (match routeR l p rm with
    | some r => x = answerR r (paramsF (segD p) segs) body
    | none => ∃ s, AllowIs l p s ∧ x = ⟨405, [(allowT, s)], noSuchT, 0⟩) := rfl
/-- What is answered. -/
def ServeIs (l : List Rt) (rm path body : Txt) (x : Rp) : Prop := match segsOf path with
  | none => x = ⟨400, [], badPathT, 0⟩
  | some segs => ∃ o, BestP l segs o ∧ ServeAt l rm body segs x o
theorem serve_one {l : List Rt} {rm path body : Txt} {x y : Rp} (h : ServeIs l rm path body x) (h' : ServeIs l rm path body y) : x = y := by
  unfold ServeIs at h h'
  cases hs : segsOf path with
  | none => rw [hs] at h h'; rw [h, h']
  | some segs =>
    rw [hs] at h h'
    obtain ⟨o, hb, h⟩ := h
    obtain ⟨o', hb', h'⟩ := h'
    obtain rfl := bestP_one hb hb'
    cases o with
    | none => rw [h, h']
    | some p =>
      unfold ServeAt at h h'
      cases hr : routeR l p rm with
      | some r => simp only [hr] at h h'; rw [h, h']
      | none =>
        simp only [hr] at h h'
        obtain ⟨s, hs1, rfl⟩ := h
        obtain ⟨s', hs2, rfl⟩ := h'
        rw [allow_one hs1 hs2]
/-- The order of routes turns nothing. -/
theorem ServeIs.perm {l l' : List Rt} {rm path body : Txt} {x : Rp} (h : ServeIs l rm path body x) (hg : GoodR l) (hp : l.Perm l') : ServeIs l' rm path body x := by
  have hm : ∀ r, r ∈ l ↔ r ∈ l' := fun r => hp.mem_iff
  have hg' := hg.perm hp
  unfold ServeIs at h ⊢
  cases hs : segsOf path with
  | none => rw [hs] at h; exact h
  | some segs =>
    rw [hs] at h
    obtain ⟨o, hb, h⟩ := h
    refine ⟨o, hb.mem hm, ?_⟩
    cases o with
    | none => exact h
    | some p =>
      rw [serveAt_some] at h ⊢
      have e : routeR l p rm = routeR l' p rm := by
        unfold routeR
        rw [pickR_perm hm hg', pickR_perm hm hg']
      rw [e] at h
      cases hr : routeR l' p rm with
      | some r => simp only [hr] at h ⊢; exact h
      | none =>
        simp only [hr] at h ⊢
        obtain ⟨s, hs1, hx⟩ := h
        exact ⟨s, hs1.mem hm, hx⟩
end Go.Proofs.YtendejpkdjkmnaaGreatDoor
/- A region that draws its order, in the wide fence, with one condition held: what yields one value wherever it holds is taken first; a round of a range is one of the steps. Over any program. -/
namespace Go.Proofs.YtendejpkdjkmnaaGreatDoor
open Go.RowKit
section
variable {P : Program} {n : Nat} {ops : Array Oper} {Q : Exit → Act → World → Prop} {md : Region.Mode} {S : World → Prop}

theorem yieldsIf_wideOp {i : Nat} {o : Oper} {v : Value} {a : Act} (hi : ops[i]? = some o) (hy : YieldsIf P ops S o v a)
    {K : Act → World → Prop} {w : World} (hS : S w) (h : K (a.put o.dst v) w) : wpOpIn Fence.wide n P ops Q i K a w := by
  unfold Go.wpOpIn
  simp only [hi]
  rcases hy with ⟨hw, hv⟩ | ⟨hw, rfl⟩
  · simp only [hw, if_true, Oper.wpIn, show Fence.wide.round = none from rfl, Oper.semAt_none, hv w hS, Oper.uponIn]; exact ⟨fun _ _ => trivial, h⟩
  · simp only [hw, Bool.false_eq_true, if_false]; exact ⟨fun _ _ => trivial, h⟩

theorem wideOp_put {j : Nat} {oi oj : Oper} {v : Value} (hj : ops[j]? = some oj) (hap : oi.apart ops oj = true)
    (hsi : ∀ cs b, oi.op ≠ .select cs b) (hsj : ∀ cs b, oj.op ≠ .select cs b)
    (hQ : ∀ c a w, Q (.panic c) (a.put oi.dst v) w → Q (.panic c) a w) {K : Act → World → Prop} {a : Act} {w : World}
    (hy : YieldsIf P ops S oi v a) (h : wpOpIn Fence.wide n P ops Q j K (a.put oi.dst v) w) :
    wpOpIn Fence.wide n P ops Q j (fun a' w' => YieldsIf P ops S oi v a' ∧ K (a'.put oi.dst v) w') a w := by
  obtain ⟨h1, h2, h3⟩ := Oper.apart_spec hap
  have keep : ∀ (a : Act), YieldsIf P ops S oi v a → ∀ u, YieldsIf P ops S oi v (a.put oj.dst u) := fun a hy u =>
    hy.of_same (execOp_put oi hsi a oj.dst u h3) (wanted_put oi a oj.dst u h3)
  have keepD : ∀ d, YieldsIf P ops S oi v { a with defers := d :: a.defers } := fun d => hy.of_same rfl rfl
  unfold wpOpIn at *
  simp only [hj] at *
  rw [wanted_put oj a oi.dst v h1] at h
  split
  · rename_i hw
    simp only [hw, if_true] at h
    unfold Oper.wpIn at *
    refine ⟨fun _ _ => trivial, ?_⟩
    have h := h.2
    rw [show Fence.wide.round = none from rfl, Oper.semAt_none, execOp_put oj hsj a oi.dst v h1] at h
    rw [show Fence.wide.round = none from rfl, Oper.semAt_none]
    generalize (execOp a.eval oj).run P w = r at *
    cases r with
    | ok x w' =>
      cases x <;> simp only [Oper.uponIn] at h ⊢
      case value u => exact ⟨keep a hy u, by rw [← Act.put_comm a v u h2]; exact h⟩
      case skip => exact ⟨keep a hy _, by rw [← Act.put_comm a v undef h2]; exact h⟩
      case defer d =>
        refine ⟨keep _ (keepD d) _, ?_⟩
        rw [← Act.put_comm _ v undef h2, ← Act.put_defers]
        exact h
      case enter f args =>
        refine ⟨h.1, CallsIn.mono h.2 fun e w'' he => ?_⟩
        cases e with
        | returned u => exact ⟨keep a hy u, by rw [← Act.put_comm a v u h2]; exact he⟩
        | panicked c => exact hQ _ _ _ he
        | outgrown => exact he
      case row row args => exact ⟨h.1, RowsIn.mono h.2 fun u w'' he => ⟨keep a hy u, by rw [← Act.put_comm a v u h2]; exact he⟩⟩
      case round l f tmps assign body =>
        refine ⟨h.1, RoundIn.mono h.2 fun e w'' he => ?_⟩
        cases e with
        | returned u => exact ⟨keep a hy u, by rw [← Act.put_comm a v u h2]; exact he⟩
        | panicked c => exact hQ _ _ _ he
        | outgrown => exact he
    | halt x w' =>
      cases x <;> simp only [Oper.uponIn] at h ⊢
      case panic u => exact hQ _ _ _ h
  · rename_i hw
    simp only [hw] at h
    exact ⟨fun _ _ => trivial, keep a hy _, by rw [← Act.put_comm a v undef h2]; exact h.2⟩

/-- Whatever order is picked, and S holds behind each operation. -/
def wpAnyW (n : Nat) (P : Program) (md : Region.Mode) (ops : Array Oper) (Q : Exit → Act → World → Prop) (S : World → Prop) : Nat → Array Bool → Act → World → Prop
  | 0, listed, a, w => Region.ready md ops listed = [] ∧ Q .normal a w
  | fuel + 1, listed, a, w =>
    (Region.ready md ops listed = [] → Q .normal a w) ∧
    ∀ i ∈ Region.ready md ops listed, wpOpIn Fence.wide n P ops Q i (fun a' w' => S w' ∧ wpAnyW n P md ops Q S fuel (listed.setIfInBounds i true) a' w') a w
theorem wpAnyIn_of_W : ∀ (fuel : Nat) (listed : Array Bool) (a : Act) (w : World), wpAnyW n P md ops Q S fuel listed a w → wpAnyIn Fence.wide n P md ops Q fuel listed a w
  | 0, _, _, _, h => h
  | fuel + 1, _, _, _, h => ⟨h.1, fun i hi => wpOpIn_mono (fun a' w' h' => wpAnyIn_of_W fuel _ a' w' h'.2) (h.2 i hi)⟩
theorem wpAnyW_first {i : Nat} {oi : Oper} {v : Value} (hi : ops[i]? = some oi) (hsel : ∀ (j : Nat) (o : Oper) cs b, ops[j]? = some o → o.op ≠ .select cs b)
    (hQ : ∀ c a w, Q (.panic c) (a.put oi.dst v) w → Q (.panic c) a w) :
    ∀ (fuel : Nat) (listed : Array Bool) (a : Act) (w : World),
      (∀ j oj, ops[j]? = some oj → j ≠ i → listed.getD j true = false → (∀ e ∈ oj.after, Region.binds md e = true → e.on ≠ i) → oi.apart ops oj = true) →
      i ∈ Region.ready md ops listed → YieldsIf P ops S oi v a → S w →
      wpAnyW n P md ops Q S fuel (listed.setIfInBounds i true) (a.put oi.dst v) w → wpAnyW n P md ops Q S (fuel + 1) listed a w := by
  intro fuel
  induction fuel with
  | zero =>
    intro listed a w _ hr hy hS H
    refine ⟨fun h => (by rw [h] at hr; cases hr), fun j hj => ?_⟩
    by_cases hji : j = i
    · subst hji; exact yieldsIf_wideOp hi hy hS ⟨hS, H⟩
    · have := ready_mono hj hji
      rw [H.1] at this
      cases this
  | succ fuel ih =>
    intro listed a w hfree hr hy hS H
    refine ⟨fun h => (by rw [h] at hr; cases hr), fun j hj => ?_⟩
    by_cases hji : j = i
    · subst hji; exact yieldsIf_wideOp hi hy hS ⟨hS, H⟩
    · have h1 := H.2 j (ready_mono hj hji)
      obtain ⟨hjun, oj, hoj, hall⟩ := mem_ready.1 hj
      have hnot : ∀ e ∈ oj.after, Region.binds md e = true → e.on ≠ i := fun e he hb heq => by
        have h1 := hall e he hb
        have h0 := (mem_ready.1 hr).1
        rw [heq] at h1
        rcases Nat.lt_or_ge i listed.size with h' | h'
        · simp [h'] at h0 h1; rw [h0] at h1; cases h1
        · simp [Array.getElem?_eq_none h'] at h1
      have h2 := wideOp_put hoj (hfree j oj hoj hji hjun hnot) (fun cs b => hsel i oi cs b hi) (fun cs b => hsel j oj cs b hoj) hQ hy h1
      have hfree' : ∀ k ok, ops[k]? = some ok → k ≠ i → (listed.setIfInBounds j true).getD k true = false →
          (∀ e ∈ ok.after, Region.binds md e = true → e.on ≠ i) → oi.apart ops ok = true := fun k ok hk hki hun hno => by
        refine hfree k ok hk hki ?_ hno
        by_cases hjk : j = k
        · subst hjk; exact hjun
        · rw [getD_set_ne true hjk] at hun; exact hun
      refine wpOpIn_mono (fun a' w' h3 => ⟨h3.2.1, ih (listed.setIfInBounds j true) a' w' hfree' (ready_mono hr (Ne.symm hji)) h3.1 h3.2.1 ?_⟩) h2
      rw [Array.setIfInBounds_comm _ _ hji]
      exact h3.2.2
theorem wideW_done {listed : Array Bool} {a : Act} {w : World} (hr : Region.ready md ops listed = []) (h : Q .normal a w) : ∀ fuel, wpAnyW n P md ops Q S fuel listed a w
  | 0 => ⟨hr, h⟩
  | _ + 1 => ⟨fun _ => h, by rw [hr]; simp⟩
/-- The beginning. -/
theorem wide_region {id : Nat} {a : Act} {w : World} (S : World → Prop) (hm : P.follows .mixedOrders = true) (h : wpAnyW n P .any ops Q S ops.size (Array.replicate ops.size false) a w.drew) : (Code.region id ops true).wpIn Fence.wide n P Q a w :=
  wpIn_region_any hm (wpAnyIn_of_W _ _ _ _ h)
end
section
variable {P : Program} {n : Nat} {md : Region.Mode} {ops : Array Oper} {Q : Exit → Act → World → Prop} {S : World → Prop} {fuel : Nat} {listed : Array Bool} {a : Act} {w : World} {i : Nat} {d : Option Tmp} {v : Value}
/-- What yields one value wherever S holds is taken first. -/
theorem takeW (hd : (ops[i]?).map (·.dst) = some d) (hs : Region.noSelect ops = true) (hf : Region.free md ops listed i = true) (hr : (Region.ready md ops listed).contains i = true)
    (hQ : ∀ c a w, Q (.panic c) (a.put d v) w → Q (.panic c) a w) (hy : ∀ oi, ops[i]? = some oi → YieldsIf P ops S oi v a) (hS : S w)
    (h : wpAnyW n P md ops Q S fuel (listed.setIfInBounds i true) (a.put d v) w) : wpAnyW n P md ops Q S (fuel + 1) listed a w := by
  cases hi : ops[i]? with
  | none => simp [hi] at hd
  | some oi =>
    have e : oi.dst = d := by simpa [hi] using hd
    subst e
    exact wpAnyW_first hi (Region.noSelect_spec hs) hQ fuel listed a w (Region.free_spec hi hf) (by simpa using hr) (hy oi hi) hS h
/-- The one that may come up next. -/
theorem readyW (hr : Region.ready md ops listed = [i]) (hx : ∀ oi, ops[i]? = some oi → Region.wanted oi (yielded ops a.tmps) = true ∧ oi.uponIn Fence.wide n P a (fun a' w' => S w' ∧ wpAnyW n P md ops Q S fuel (listed.setIfInBounds i true) a' w') Q ((execOp a.eval oi).run P w)) :
    wpAnyW n P md ops Q S (fuel + 1) listed a w := by
  refine ⟨fun h0 => (by rw [hr] at h0; cases h0), fun j hj => ?_⟩
  rw [hr, List.mem_singleton] at hj
  subst hj
  unfold wpOpIn
  cases hi : ops[j]? with
  | none =>
    obtain ⟨_, oj, hoj, _⟩ := mem_ready.1 (show j ∈ Region.ready md ops listed by rw [hr]; exact List.mem_singleton.2 rfl)
    rw [hi] at hoj; cases hoj
  | some oi =>
    obtain ⟨hw, h⟩ := hx oi hi
    simp only [hw, if_true]
    exact ⟨fun _ _ => trivial, h⟩
theorem ready_valueW {w' : World} (hd : (ops[i]?).map (·.dst) = some d) (hr : Region.ready md ops listed = [i])
    (hx : ∀ oi, ops[i]? = some oi → Region.wanted oi (yielded ops a.tmps) = true ∧ (execOp a.eval oi).run P w = .ok (.value v) w') (hS : S w')
    (h : wpAnyW n P md ops Q S fuel (listed.setIfInBounds i true) (a.put d v) w') : wpAnyW n P md ops Q S (fuel + 1) listed a w :=
  readyW hr fun oi hi => by
    have e : oi.dst = d := by simpa [hi] using hd
    subst e
    obtain ⟨hw, hx⟩ := hx oi hi
    rw [hx]
    exact ⟨hw, hS, h⟩
theorem ready_callW {f : FuncId} {args : Array Value} (hd : (ops[i]?).map (·.dst) = some d) (hr : Region.ready md ops listed = [i])
    (hx : ∀ oi, ops[i]? = some oi → Region.wanted oi (yielded ops a.tmps) = true ∧ (execOp a.eval oi).run P w = .ok (.enter f args) w)
    (hc : Calls P f args w fun e w' => ∃ v, e = .returned v ∧ S w' ∧ wpAnyW n P md ops Q S fuel (listed.setIfInBounds i true) (a.put d v) w') : wpAnyW n P md ops Q S (fuel + 1) listed a w :=
  readyW hr fun oi hi => by
    have e : oi.dst = d := by simpa [hi] using hd
    subst e
    obtain ⟨hw, hx⟩ := hx oi hi
    rw [hx]
    refine ⟨hw, fun h => (by simp [Fence.wide] at h), (callsIn_wide.2 hc).mono ?_⟩
    rintro e w' ⟨v, rfl, h⟩
    exact h
theorem ready_roundW {l : Nat} {f : FuncId} {tmps : Array Value} {assign body : Code} (hd : (ops[i]?).map (·.dst) = some d) (hr : Region.ready md ops listed = [i])
    (hx : ∀ oi, ops[i]? = some oi → Region.wanted oi (yielded ops a.tmps) = true ∧ (execOp a.eval oi).run P w = .ok (.round l f tmps assign body) w)
    (hc : RoundIn Fence.wide (n - 1) P l f tmps assign body w fun e w' => ∃ v, e = .returned v ∧ S w' ∧ wpAnyW n P md ops Q S fuel (listed.setIfInBounds i true) (a.put d v) w') : wpAnyW n P md ops Q S (fuel + 1) listed a w :=
  readyW hr fun oi hi => by
    have e : oi.dst = d := by simpa [hi] using hd
    subst e
    obtain ⟨hw, hx⟩ := hx oi hi
    rw [hx]
    refine ⟨hw, fun h => (by simp [Fence.wide] at h), hc.mono ?_⟩
    rintro e w' ⟨v, rfl, h⟩
    exact h
end
end Go.Proofs.YtendejpkdjkmnaaGreatDoor
/- Things of one kind in a slice: where each lies; one loaded, stored, cleared; a slice made. A circle of things. Over any program. -/
namespace Go.Proofs.YtendejpkdjkmnaaGreatDoor
open Go.RowKit
variable {P : Program} {α : Type}

/-- Things of one kind: each as a value, and as cells; the one that is nothing. -/
structure Kind (P : Program) (α : Type) where
  sl : TypeId
  el : TypeId
  sz : Nat
  val : α → Value
  cells : α → List Value
  zero : α
  under : P.underlying sl = some (.slice el)
  size : ∀ w, (sizeOf el).run P w = .ok sz w
  info : ∃ i z, P.info? el = some i ∧ i.zero = some z ∧ i.size = sz ∧ i.bytes ≤ 1024 ∧ z.cells.toList = cells zero
  pos : 0 < sz
  len : ∀ x, (cells x).length = sz
  one : ∀ x, ∀ u ∈ cells x, u.oneCell' = true
  load : ∀ x w k o, w.rangeAt k o (cells x) → (loadVar el ⟨k, o, none⟩).run P w = .ok (val x) w
  store : ∀ x w k o, w.there k o sz → (storeVar el ⟨k, o, none⟩ (val x)).run P w = .ok () (w.setCells k o (cells x))

/-- A kind of one cell. -/
def kind1 (sl el : TypeId) (val : α → Value) (zero : α) (under : P.underlying sl = some (.slice el)) (size : ∀ w, (sizeOf el).run P w = .ok 1 w)
    (info : ∃ i z, P.info? el = some i ∧ i.zero = some z ∧ i.size = 1 ∧ i.bytes ≤ 1024 ∧ z.cells.toList = [val zero]) (d : TypeDesc) (hd : P.underlying el = some d) (hr : d.isRow = false) (one : ∀ x, (val x).oneCell' = true)
    (hc : ∀ x, (val x).cells = #[val x]) : Kind P α where
  sl := sl
  el := el
  sz := 1
  val := val
  cells := fun x => [val x]
  zero := zero
  under := under
  size := size
  info := info
  pos := by decide
  len := fun _ => rfl
  one := fun x u hu => by rw [List.mem_singleton.1 hu]; exact one x
  load := fun x w k o hw => by
    have h0 := hw 0 (val x) rfl
    rw [Nat.add_zero] at h0
    have hagg : (isAgg el).run P w = .ok false w := by
      unfold isAgg
      rw [Sem.run_bind, run_underlying hd w]
      cases d <;> simp_all [Result.andThen]
    simp [loadVar, hagg, Result.andThen, run_load, h0]
  store := fun x w k o hw => by
    obtain ⟨h1, h2⟩ := hw 0 (by omega)
    rw [Nat.add_zero] at h1 h2
    have := run_store_ok P w ⟨k, o, none⟩ (val x) .plain (one x) h1 h2
    simp [storeVar, hc, size, Result.andThen, store_one, this, World.setCells]
/-- A kind of several cells. -/
def kindA (sl el : TypeId) (sz : Nat) (cells : α → List Value) (zero : α) (under : P.underlying sl = some (.slice el)) (size : ∀ w, (sizeOf el).run P w = .ok sz w)
    (info : ∃ i z, P.info? el = some i ∧ i.zero = some z ∧ i.size = sz ∧ i.bytes ≤ 1024 ∧ z.cells.toList = cells zero) (pos : 0 < sz) (d : TypeDesc) (hd : P.underlying el = some d) (hr : d.isRow = true) (len : ∀ x, (cells x).length = sz) (one : ∀ x, ∀ u ∈ cells x, u.oneCell' = true) : Kind P α where
  sl := sl
  el := el
  sz := sz
  val := fun x => .agg (cells x).toArray
  cells := cells
  zero := zero
  under := under
  size := size
  info := info
  pos := pos
  len := len
  one := one
  load := fun x w k o hw => by
    obtain ⟨i, z, hi, _, hs, _⟩ := info
    exact run_loadVar_mid w k o el (cells x) d hw hd hr (by rw [hi, Option.map_some, hs, len])
  store := fun x w k o hw => by
    obtain ⟨i, z, hi, _, hs, _⟩ := info
    exact run_storeVar_mid w k o el (cells x).toArray (by rw [List.size_toArray, len]; exact hw) (by rw [hi, Option.map_some, hs, List.size_toArray, len]) (by simpa using one x)

/-! Cells, one thing's behind the other's. -/
theorem flat_len {c : α → List Value} {sz : Nat} (h : ∀ x, (c x).length = sz) : ∀ l : List α, (l.flatMap c).length = l.length * sz
  | [] => by simp
  | x :: r => by rw [List.flatMap_cons, List.length_append, h, flat_len h r, List.length_cons, Nat.add_mul]; omega
theorem flat_take {c : α → List Value} {sz : Nat} (h : ∀ x, (c x).length = sz) : ∀ (l : List α) (i : Nat), (l.flatMap c).take (i * sz) = (l.take i).flatMap c
  | [], i => by simp
  | x :: r, 0 => by simp
  | x :: r, i + 1 => by
    rw [List.flatMap_cons, List.take_succ_cons, List.flatMap_cons, ← flat_take h r i, List.take_append, List.take_of_length_le (by rw [h, Nat.add_mul]; omega)]
    rw [h, show (i + 1) * sz - sz = i * sz by rw [Nat.add_mul]; omega]
theorem flat_drop {c : α → List Value} {sz : Nat} (h : ∀ x, (c x).length = sz) : ∀ (l : List α) (i : Nat), (l.flatMap c).drop (i * sz) = (l.drop i).flatMap c
  | [], i => by simp
  | x :: r, 0 => by simp
  | x :: r, i + 1 => by
    rw [List.flatMap_cons, List.drop_succ_cons, ← flat_drop h r i, List.drop_append, List.drop_of_length_le (by rw [h, Nat.add_mul]; omega), List.nil_append]
    rw [h, show (i + 1) * sz - sz = i * sz by rw [Nat.add_mul]; omega]
theorem flat_set {c : α → List Value} {sz : Nat} (h : ∀ x, (c x).length = sz) (l : List α) (i : Nat) (y : α) (hi : i < l.length) : (l.flatMap c).take (i * sz) ++ c y ++ (l.flatMap c).drop (i * sz + (c y).length) = (l.set i y).flatMap c := by
  rw [h, show i * sz + sz = (i + 1) * sz by rw [Nat.add_mul]; omega, flat_take h, flat_drop h, List.set_eq_take_append_cons_drop, if_pos hi, List.flatMap_append, List.flatMap_cons, List.append_assoc]
theorem flat_get {c : α → List Value} {sz : Nat} (h : ∀ x, (c x).length = sz) (l : List α) (i j : Nat) (x : α) (hx : l[i]? = some x) (hj : j < sz) : (l.flatMap c)[i * sz + j]? = (c x)[j]? := by
  have h1 : (l.flatMap c)[i * sz + j]? = ((l.flatMap c).drop (i * sz))[j]? := by rw [List.getElem?_drop]
  obtain ⟨hlt, rfl⟩ := List.getElem?_eq_some_iff.1 hx
  rw [h1, flat_drop h, List.drop_eq_getElem_cons hlt, List.flatMap_cons, List.getElem?_append_left (by rw [h]; exact hj)]
theorem rep_get {c : α → List Value} {sz : Nat} (h : ∀ x, (c x).length = sz) (h0 : 0 < sz) (a : α) (n j : Nat) (u : Value) (hu : ((List.replicate n a).flatMap c)[j]? = some u) : (c a)[j % sz]? = some u := by
  have hl := (List.getElem?_eq_some_iff.1 hu).1
  rw [flat_len h, List.length_replicate] at hl
  have hd : j / sz < n := (Nat.div_lt_iff_lt_mul h0).2 hl
  have e : j / sz * sz + j % sz = j := by rw [Nat.mul_comm]; exact Nat.div_add_mod j sz
  rw [← e, flat_get h _ _ _ a (by rw [List.getElem?_replicate, if_pos hd]) (Nat.mod_lt _ h0)] at hu
  exact hu

/-- The slice v holds these things. -/
def LiesK (K : Kind P α) (w : World) (v : Value) (cs : List α) : Prop := Lies w K.sz v cs.length (cs.flatMap K.cells)
section
variable {K : Kind P α} {w w' : World} {v : Value} {cs : List α} {k o c : Nat}
theorem liesK_nil (K : Kind P α) (w : World) : LiesK K w (.slice none 0 0) [] := lies_nil w K.sz
theorem LiesK.lt (h : LiesK K w v cs) : ∀ k, v.ownBlock = some k → k < w.heap.size := Lies.lt h
theorem LiesK.same (h : LiesK K w v cs) (hs : w.heap.size ≤ w'.heap.size) (hb : ∀ k, v.ownBlock = some k → w'.heap[k]? = w.heap[k]?) : LiesK K w' v cs := Lies.same h hs hb
theorem LiesK.len (h : LiesK K w v cs) (T : TypeId) (W : World) : (Builtin.len_ #[K.sl] T #[v]).run P W = .ok (.int .i64 (cs.length : Int)) W := Lies.len h K.under T W
theorem LiesK.shape (h : LiesK K w v cs) (h0 : 0 < cs.length) : ∃ k o c, v = .slice (some ⟨k, o, none⟩) cs.length c ∧ cs.length ≤ c ∧ k < w.heap.size := Lies.shape h h0
theorem LiesK.form (h : LiesK K w v cs) : ∃ a c, v = .slice a cs.length c := Lies.form h
theorem LiesK.idx (K : Kind P α) (k o n c i : Nat) (hi : i < n) (W : World) : (Instr.indexAt K.sl (.slice (some ⟨k, o, none⟩) n c) (.int .i64 (i : Int))).run P W = .ok (.pointer (some ⟨k, o + i * K.sz, none⟩)) W :=
  run_index_at K.under K.size k o n c i hi W
theorem LiesK.cut (K : Kind P α) (k o n c i : Nat) (hi : i + 1 ≤ c) (W : World) : (Instr.slice K.sl (.slice (some ⟨k, o, none⟩) n c) (some (.int .i64 (i : Int))) (some (.int .i64 ((i : Int) + 1))) none).run P W = .ok (.slice (some ⟨k, o + i * K.sz, none⟩) 1 (c - i)) W := by
  have := run_mid_at K.under K.size k o n c i (i + 1) (by omega) hi (by omega) W
  rw [show i + 1 - i = 1 by omega, Int.natCast_add] at this
  exact this
theorem LiesK.there (h : LiesK K w (.slice (some ⟨k, o, none⟩) cs.length c) cs) (i : Nat) (hi : i < cs.length) : w.there k (o + i * K.sz) K.sz := by
  intro j hj
  rcases h.2 with ⟨h0, _⟩ | ⟨g', o', c', he, hn, _, _, _, hth⟩
  · cases h0
  · simp only [Value.slice.injEq, Option.some.injEq, Addr.mk.injEq, and_true, true_and] at he
    obtain ⟨⟨rfl, rfl⟩, rfl⟩ := he
    rw [Nat.add_assoc]
    have h1 : (i + 1) * K.sz ≤ c * K.sz := Nat.mul_le_mul_right _ (by omega)
    rw [Nat.add_mul] at h1
    exact hth _ (by omega)
theorem LiesK.rng (h : LiesK K w (.slice (some ⟨k, o, none⟩) cs.length c) cs) (i : Nat) (x : α) (hx : cs[i]? = some x) : w.rangeAt k (o + i * K.sz) (K.cells x) := by
  intro j u hu
  rcases h.2 with ⟨h0, _⟩ | ⟨g', o', c', he, hn, _, _, hr, _⟩
  · cases h0
  · simp only [Value.slice.injEq, Option.some.injEq, Addr.mk.injEq, and_true, true_and] at he
    obtain ⟨⟨rfl, rfl⟩, rfl⟩ := he
    rw [Nat.add_assoc]
    have hj := (List.getElem?_eq_some_iff.1 hu).1
    rw [K.len] at hj
    exact hr _ u (by rw [flat_get K.len cs i j x hx hj]; exact hu)
/-- One thing turned. -/
theorem LiesK.set (h : LiesK K w (.slice (some ⟨k, o, none⟩) cs.length c) cs) (i : Nat) (y : α) (hi : i < cs.length) :
    LiesK K (w.setCells k (o + i * K.sz) (K.cells y)) (.slice (some ⟨k, o, none⟩) cs.length c) (cs.set i y) := by
  have h1 : (i + 1) * K.sz ≤ cs.length * K.sz := Nat.mul_le_mul_right _ hi
  rw [Nat.add_mul] at h1
  have := (Lies.setMid h (i * K.sz) (K.cells y) (by rw [K.len]; omega)).1
  rw [flat_set K.len cs i y hi] at this
  unfold LiesK
  rw [List.length_set]
  exact this
/-- One thing cleared. -/
theorem LiesK.clear (h : LiesK K w (.slice (some ⟨k, o, none⟩) cs.length c) cs) (i : Nat) (hi : i < cs.length) (ty : TypeId) (m : Nat) :
    (Builtin.clear_ #[K.sl] ty #[.slice (some ⟨k, o + i * K.sz, none⟩) 1 m]).run P w = .ok (.tuple #[]) (w.setCells k (o + i * K.sz) (K.cells K.zero)) := by
  obtain ⟨t, z, hti, hz, hs, _, hzc⟩ := K.info
  have hzs : z.cells.size = K.sz := by rw [← K.len K.zero, ← hzc, Array.length_toList]
  have hone : (Builtin.zeroCells z.cells 1).toList = K.cells K.zero := by
    rw [← hzc]
    unfold Builtin.zeroCells
    apply List.ext_getElem
    · simp
    · intro j h1 h2
      have hj : j < z.cells.size := by simpa using h1
      simp [Nat.mod_eq_of_lt hj, hj]
  have hth := h.there i hi
  have := run_clear (P := P) (w := w) (n := 1) K.under z (fun w => by simp [zeroValue, typeInfo, hti, hz]) (by rw [hone]; exact K.one _) ty k (o + i * K.sz) m (by decide)
    (by rw [hone, K.len]; exact fun j hj => (hth j hj).1) (by rw [hone, K.len]; exact fun j hj => (hth j hj).2)
  rw [hone] at this
  exact this
/-- A slice made. -/
theorem LiesK.make (K : Kind P α) (n : Nat) (hn : n ≤ 1000000000) (w : World) :
    ∃ w', (Instr.makeSlice K.sl (.int .i64 (n : Int)) (.int .i64 (n : Int))).run P w = .ok (.slice (some ⟨w.heap.size, 0, none⟩) n n) w' ∧ LiesK K w' (.slice (some ⟨w.heap.size, 0, none⟩) n n) (List.replicate n K.zero) ∧ w'.heap.size = w.heap.size + 1 ∧ Below w.heap.size w w' := by
  obtain ⟨t, z, hti, hz, hs, hby, hzc⟩ := K.info
  have hzs : z.cells.size = K.sz := by rw [← K.len K.zero, ← hzc, Array.length_toList]
  have hb : t.bytes * n ≤ 1024 * 1000000000 := Nat.mul_le_mul hby hn
  have hr := run_make (P := P) w K.sl K.el t z K.under hti hz .i64 .i64 n n (by omega) (by omega) (by
    have : ((t.bytes * n : Nat) : Int) ≤ 281474976710656 := by omega
    rwa [Int.natCast_mul] at this) (by omega)
  simp only [Int.toNat_natCast] at hr
  refine ⟨_, hr, ?_, alloc_size _ _, (Below.refl _ w).alloc (Nat.le_refl _) _⟩
  have hrow := row_new w (madeCells z.cells (n * t.size)) K.el
  refine ⟨by rw [flat_len K.len], .inr ⟨w.heap.size, 0, n, by rw [List.length_replicate], by rw [List.length_replicate]; exact Nat.le_refl _, by simp only [maxLen]; omega, hrow.lt, fun j u hu => ?_, fun j hj => ?_⟩⟩
  · have hj := (List.getElem?_eq_some_iff.1 hu).1
    rw [flat_len K.len, List.length_replicate] at hj
    have h1 := rep_get K.len K.pos K.zero n j u hu
    rw [Nat.zero_add, cell_of_row _ _ j _ _ _ hrow, hs]
    rw [← hzc, Array.getElem?_toList] at h1
    have hm : j % K.sz < z.cells.size := by rw [hzs]; exact Nat.mod_lt _ K.pos
    rw [Array.getElem?_eq_getElem hm] at h1
    simp [madeCells, hj, hzs]
    rw [getElem!_pos z.cells _ hm]
    exact Option.some.inj h1
  · rw [Nat.zero_add]
    exact ⟨by rw [cell_of_row _ _ j _ _ _ hrow, hs, Array.getElem?_eq_getElem (by rw [size_madeCells]; exact hj)]; rfl, hrow.frozen j⟩
end

/-! A circle of things: from place f on they stand, one behind the other. -/
theorem mod_twice {a C : Nat} (h : a < 2 * C) : a % C = if a < C then a else a - C := by
  split
  · exact Nat.mod_eq_of_lt ‹_›
  · rw [Nat.mod_eq_sub_mod (by omega), Nat.mod_eq_of_lt (by omega)]
def Turned (f : Nat) (cs xs : List α) : Prop := xs.length ≤ cs.length ∧ (f < cs.length ∨ f = 0 ∧ cs.length = 0) ∧ ∀ i x, xs[i]? = some x → cs[(f + i) % cs.length]? = some x
theorem turned_nil : Turned (α := α) 0 [] [] := ⟨Nat.le_refl _, .inr ⟨rfl, rfl⟩, fun i x h => by simp at h⟩
theorem Turned.set {f : Nat} {cs xs : List α} (h : Turned f cs xs) (i : Nat) (y : α) (hi : i < xs.length) : Turned f (cs.set ((f + i) % cs.length) y) (xs.set i y) := by
  obtain ⟨h1, h2, h3⟩ := h
  refine ⟨by rw [List.length_set, List.length_set]; exact h1, by rw [List.length_set]; exact h2, fun j x hx => ?_⟩
  have hf : f < cs.length := by omega
  rw [List.length_set]
  by_cases hj : i = j
  · subst hj
    rw [List.getElem?_set_self hi] at hx
    rw [List.getElem?_set_self (Nat.mod_lt _ (by omega))]; exact hx
  · have hjl : j < xs.length := by
      have := (List.getElem?_eq_some_iff.1 hx).1
      rwa [List.length_set] at this
    rw [List.getElem?_set_ne hj] at hx
    rw [List.getElem?_set_ne]
    · exact h3 j x hx
    · rw [mod_twice (by omega), mod_twice (by omega)]; split <;> split <;> omega
theorem Turned.push {f : Nat} {cs xs : List α} (h : Turned f cs xs) (y : α) (hl : xs.length < cs.length) : Turned f (cs.set ((f + xs.length) % cs.length) y) (xs ++ [y]) := by
  obtain ⟨h1, h2, h3⟩ := h
  refine ⟨by rw [List.length_set, List.length_append, List.length_singleton]; exact hl, by rw [List.length_set]; exact h2, fun j x hx => ?_⟩
  have hf : f < cs.length := by omega
  rw [List.length_set]
  by_cases hj : j < xs.length
  · rw [List.getElem?_append_left hj] at hx
    rw [List.getElem?_set_ne]
    · exact h3 j x hx
    · rw [mod_twice (by omega), mod_twice (by omega)]; split <;> split <;> omega
  · have hjl := (List.getElem?_eq_some_iff.1 hx).1
    rw [List.length_append, List.length_singleton] at hjl
    obtain rfl : j = xs.length := by omega
    rw [List.getElem?_append_right (Nat.le_refl _), Nat.sub_self] at hx
    rw [List.getElem?_set_self (Nat.mod_lt _ (by omega))]; exact hx
theorem Turned.pop {f : Nat} {cs r : List α} {x : α} (h : Turned f cs (x :: r)) (z : α) : Turned ((f + 1) % cs.length) (cs.set f z) r ∧ f < cs.length := by
  obtain ⟨h1, h2, h3⟩ := h
  rw [List.length_cons] at h1
  have hf : f < cs.length := by omega
  refine ⟨⟨by rw [List.length_set]; omega, by rw [List.length_set]; exact .inl (Nat.mod_lt _ (by omega)), fun j y hy => ?_⟩, hf⟩
  have hjl := (List.getElem?_eq_some_iff.1 hy).1
  have h4 := h3 (j + 1) y (by rw [List.getElem?_cons_succ]; exact hy)
  have e : ((f + 1) % cs.length + j) % cs.length = (f + (j + 1)) % cs.length := by rw [Nat.mod_add_mod]; congr 1; omega
  rw [List.length_set, e, List.getElem?_set_ne]
  · exact h4
  · rw [mod_twice (by omega)]; split <;> omega
theorem Turned.head {f : Nat} {cs r : List α} {x : α} (h : Turned f cs (x :: r)) : cs[f]? = some x := by
  have h1 := h.2.2 0 x rfl
  have h2 := h.1
  rw [List.length_cons] at h2
  have hf : f < cs.length := by have := h.2.1; omega
  rw [Nat.add_zero, Nat.mod_eq_of_lt hf] at h1
  exact h1
theorem turned_wide (xs : List α) (z : α) (m : Nat) (h : xs.length ≤ m) : Turned 0 (xs ++ List.replicate (m - xs.length) z) xs := by
  have e : (xs ++ List.replicate (m - xs.length) z).length = m := by rw [List.length_append, List.length_replicate]; omega
  refine ⟨by rw [e]; exact h, by rw [e]; omega, fun j x hx => ?_⟩
  have hj := (List.getElem?_eq_some_iff.1 hx).1
  rw [e, Nat.zero_add, Nat.mod_eq_of_lt (by omega), List.getElem?_append_left hj]
  exact hx
/-- What was copied so far, and nothing behind it. -/
def copied (xs : List α) (z : α) (m i : Nat) : List α := xs.take i ++ List.replicate (m - i) z
theorem copied_len (xs : List α) (z : α) (m i : Nat) (h : i ≤ xs.length) (hm : xs.length ≤ m) : (copied xs z m i).length = m := by
  unfold copied
  rw [List.length_append, List.length_take, List.length_replicate]; omega
theorem copied_next (xs : List α) (z : α) (m i : Nat) (x : α) (hx : xs[i]? = some x) (hm : xs.length ≤ m) : (copied xs z m i).set i x = copied xs z m (i + 1) := by
  obtain ⟨hi, rfl⟩ := List.getElem?_eq_some_iff.1 hx
  have htl : (xs.take i).length = i := by rw [List.length_take]; omega
  unfold copied
  rw [List.set_append_right _ _ (by omega), htl, Nat.sub_self, show m - i = m - (i + 1) + 1 by omega, List.replicate_succ, List.set_cons_zero, List.take_succ_eq_append_getElem hi, List.append_assoc]
  rfl
theorem copied_all (xs : List α) (z : α) (m : Nat) : copied xs z m xs.length = xs ++ List.replicate (m - xs.length) z := by
  unfold copied; rw [List.take_length]
/-- The things with their places. -/
def plc (z : α) (xs : List α) : List (Nat × α) := (List.range xs.length).map fun i => (i, xs.getD i z)
theorem plc_len (z : α) (xs : List α) : (plc z xs).length = xs.length := by simp [plc]
theorem plc_get (z : α) (xs : List α) (i : Nat) (x : α) (hx : xs[i]? = some x) : (plc z xs)[i]? = some (i, x) := by
  obtain ⟨hi, rfl⟩ := List.getElem?_eq_some_iff.1 hx
  simp [plc, hi]
theorem plc_next (z : α) (xs : List α) (i : Nat) (x : α) (hx : xs[i]? = some x) : (plc z xs).take i ++ [(i, x)] = (plc z xs).take (i + 1) := by
  have h := plc_get z xs i x hx
  obtain ⟨hi, he⟩ := List.getElem?_eq_some_iff.1 h
  rw [List.take_succ_eq_append_getElem hi, he]
theorem plc_pre {z : α} {xs : List α} {pre : List (Nat × α)} {y : Nat × α} (h : pre ++ [y] <+: plc z xs) : y.1 = pre.length ∧ xs[pre.length]? = some y.2 := by
  obtain ⟨t, ht⟩ := h
  have hl : pre.length < (plc z xs).length := by rw [← ht, List.length_append, List.length_append, List.length_singleton]; omega
  have hg : (plc z xs)[pre.length]? = some y := by rw [← ht, List.append_assoc, List.getElem?_append_right (Nat.le_refl _), Nat.sub_self]; rfl
  rw [plc_len] at hl
  rw [plc_get z xs pre.length _ (List.getElem?_eq_getElem hl)] at hg
  obtain rfl := Option.some.inj hg
  exact ⟨rfl, List.getElem?_eq_getElem hl⟩
/-! A load, a store, as operations. -/
theorem exec_load_by {P : Program} {a : Act} {o : Oper} {w : World} (ty : TypeId) (x : Operand) (ho : o.op = .load ty x) (ad : Addr) (hx : a.eval x = .pointer (some ad)) {v : Value} (h : (loadVar ty ad).run P w = .ok v w) : (execOp a.eval o).run P w = .ok (.value v) w := by
  unfold execOp
  simp only [ho, hx, Instr.loadAt, Instr.sureAddr, Sem.run_bind, Sem.run_pure, Result.andThen_ok, h]
theorem exec_index_by {P : Program} {a : Act} {o : Oper} {w : World} (t : TypeId) (x y : Operand) (ho : o.op = .indexAddr t x y) (V I : Value) (hx : a.eval x = V) (hy : a.eval y = I) (ad : Addr) (h : (Instr.indexAt t V I).run P w = .ok (.pointer (some ad)) w) : (execOp a.eval o).run P w = .ok (.value (.pointer (some ad))) w := by
  simp [execOp, ho, hx, hy, h, Result.andThen]
theorem exec_slice_by {P : Program} {a : Act} {o : Oper} {w : World} (t : TypeId) (x y z : Operand) (ho : o.op = .slice t x (some y) (some z) none) {e : TypeId} (ht : P.underlying t = some (.slice e)) (V I J : Value) (hx : a.eval x = V) (hy : a.eval y = I) (hz : a.eval z = J) {R : Value} (h : (Instr.slice t V (some I) (some J) none).run P w = .ok R w) : (execOp a.eval o).run P w = .ok (.value R) w := by
  have hs : (Instr.sliceAt t V (some I) (some J) none).run P w = .ok R w := by
    unfold Instr.sliceAt
    rw [Sem.run_bind, run_underlying ht]
    exact h
  simp only [execOp, ho, hx, hy, hz, Option.map_some, Option.map_none, Sem.run_bind, hs, Sem.run_pure, Result.andThen_ok]
theorem exec_clear_by {P : Program} {a : Act} {o : Oper} {w w' : World} (t : TypeId) (x : Operand) (ho : o.op = .call { callee := .builtin .clear, args := #[x], argTypes := #[t] }) (V : Value) (hx : a.eval x = V) {R : Value} (h : (Builtin.clear_ #[t] o.type #[V]).run P w = .ok R w') : (execOp a.eval o).run P w = .ok (.value R) w' := by
  simp only [execOp, ho, resolve, invoke, builtin, Sem.run_bind, Sem.run_pure, Result.andThen_ok, List.map_toArray, List.map_cons, List.map_nil, hx, h]
theorem exec_store_by {P : Program} {a : Act} {o : Oper} {w w' : World} (ty : TypeId) (x y : Operand) (ho : o.op = .store ty x y) (ad : Addr) (hx : a.eval x = .pointer (some ad)) {v : Value} (hy : a.eval y = v) (h : (storeVar ty ad v).run P w = .ok () w') : (execOp a.eval o).run P w = .ok .skip w' := by
  unfold execOp
  simp only [ho, hx, hy, Instr.storeAt, Instr.sureAddr, Sem.run_bind, Sem.run_pure, Result.andThen_ok, h]
end Go.Proofs.YtendejpkdjkmnaaGreatDoor
/- The frame by footprints: a thing whose blocks were F is one of F' now; two things side by side. Over any program. -/
namespace Go.Proofs.YtendejpkdjkmnaaGreatDoor
open Go.RowKit

/-- A thing whose blocks were F is one of F' now: nothing else that there was has turned. -/
structure Moves (F F' : Nat → Prop) (w w' : World) : Prop where
  os : w'.os = w.os
  tape : w'.tape = w.tape
  output : w'.output = w.output
  size : w.heap.size ≤ w'.heap.size
  foot : ∀ k, F' k → F k ∨ w.heap.size ≤ k
  rest : ∀ k, k < w.heap.size → ¬ F k → w'.heap[k]? = w.heap[k]?
section
variable {F F' F'' G : Nat → Prop} {w w' w'' : World} {n : Nat}
theorem Moves.of_below (h : Below w.heap.size w w') : Moves F F w w' := ⟨h.os, h.tape, h.output, h.size, fun _ hk => .inl hk, fun k hk _ => h.block k hk⟩
theorem Moves.refl (F : Nat → Prop) (w : World) : Moves F F w w := ⟨rfl, rfl, rfl, Nat.le_refl _, fun _ hk => .inl hk, fun _ _ _ => rfl⟩
theorem Moves.trans (h : Moves F F' w w') (k : Moves F' F'' w' w'') : Moves F F'' w w'' :=
  ⟨k.os.trans h.os, k.tape.trans h.tape, k.output.trans h.output, Nat.le_trans h.size k.size, fun j hj => by
    rcases k.foot j hj with h1 | h1
    · exact h.foot j h1
    · have := h.size; exact .inr (by omega), fun j hj hn => (k.rest j (Nat.lt_of_lt_of_le hj h.size) (fun hf => by
      rcases h.foot j hf with h1 | h1
      · exact hn h1
      · omega)).trans (h.rest j hj hn)⟩
/-- What lies apart stays as it is, and apart. -/
theorem Moves.apart (h : Moves F F' w w') (hG : ∀ k, G k → k < w.heap.size ∧ ¬ F k) : (∀ k, G k → w'.heap[k]? = w.heap[k]?) ∧ ∀ k, G k → k < w'.heap.size ∧ ¬ F' k :=
  ⟨fun k hk => h.rest k (hG k hk).1 (hG k hk).2, fun k hk => ⟨Nat.lt_of_lt_of_le (hG k hk).1 h.size, fun hf => by
    rcases h.foot k hf with h1 | h1
    · exact (hG k hk).2 h1
    · have := (hG k hk).1; omega⟩⟩
theorem Moves.below (h : Moves F F' w w') (hF : ∀ k, F k → n ≤ k) (hn : n ≤ w.heap.size) : Below n w w' :=
  ⟨h.os, h.tape, h.output, h.size, fun k hk => h.rest k (by omega) (fun hf => by have := hF k hf; omega)⟩
theorem Row.moves {b : Nat} {cs : Array Value} {t : TypeId} (hr : Row w b cs t) (h : Moves F F' w w') (hn : ¬ F b) : Row w' b cs t := by
  unfold Row; rw [h.rest b hr.lt hn]; exact hr
/-- All that it may turn lies from n on. -/
theorem Moves.from (h : Moves F F' w w') (hF : ∀ k, F k → n ≤ k) (hn : n ≤ w.heap.size) : ∀ k, F' k → n ≤ k := fun k hk => by
  rcases h.foot k hk with h1 | h1
  · exact hF k h1
  · omega
end
end Go.Proofs.YtendejpkdjkmnaaGreatDoor
/- Structs appended to a slice of one's own; rows of fields. -/
namespace Go.Proofs.YtendejpkdjkmnaaGreatDoor
open Go.RowKit
attribute [local go_sem] store_one S_match S_store

/-- A type whose values take k cells. -/
def EleK (P : Program) (e : TypeId) (k : Nat) : Prop := ∃ i z, P.info? e = some i ∧ i.zero = some z ∧ i.size = k ∧ i.bytes ≤ 4096 ∧ z.cells.size = k
theorem eleK_of {P : Program} {e : TypeId} {z : Value} {k n : Nat} (h : (P.info? e).map (fun i => (i.zero, i.size, i.bytes)) = some (some z, k, n)) (hn : n ≤ 4096) (hz : z.cells.size = k) : EleK P e k := by
  cases hi : P.info? e with
  | none => rw [hi] at h; cases h
  | some i =>
    rw [hi] at h
    simp only [Option.map_some, Option.some.injEq, Prod.mk.injEq] at h
    exact ⟨i, z, hi, h.1, h.2.1, by rw [h.2.2]; exact hn, hz⟩
section
variable {P : Program} {ops : Array Oper} {rest : List Oper} {o : Oper} {a : Act} {w : World} {Q : Exit → Act → World → Prop}
/-- One struct, laid in a block of its own and appended. -/
theorem wpList_addK (hgd : o.guard = none) (t e : TypeId) (s x : Operand) (ho : o.op = .call { callee := .builtin .append, args := #[s, x], argTypes := #[t, t] }) (ht : P.underlying t = some (.slice e)) {k : Nat} (he : EleK P e k) (hk : 0 < k) (base : Nat) (W : World)
    (v : Value) (hs : a.eval s = v) (n : Nat) (xs : List Value) (hown : W.ownsRow base e k v n xs) (cs : Array Value) (hcs : cs.size = k) (h1 : ∀ u ∈ cs.toList, u.oneCell' = true) (hw : w = W.alloc (.cells cs e)) (H : Nat) (hH : W.heap.size = H) (hx : a.eval x = .slice (some ⟨H, 0, none⟩) 1 1)
    (hlen : n < 1000000) (hbase : base ≤ W.heap.size)
    (h : ∀ g cap w', w'.ownsRow base e k (.slice (some ⟨g, 0, none⟩) (n + 1) cap) (n + 1) (xs ++ cs.toList) → W.grownBy w' v.ownBlock → wpList P ops Q rest (a.put o.dst (.slice (some ⟨g, 0, none⟩) (n + 1) cap)) w') : wpList P ops Q (o :: rest) a w := by
  subst hw hH
  obtain ⟨i, z, hi, hz, hsz, hby, hzs⟩ := he
  have hr := row_new W cs e
  have hnews : ∀ j u, cs.toList[j]? = some u → (W.alloc (.cells cs e)).cell? ((⟨W.heap.size, 0, none⟩ : Addr).add j) = some u := fun j u hu => by
    rw [Addr.add_mid]
    simp only [Nat.zero_add]
    rw [cell_of_row _ _ j _ _ _ hr]
    simpa using hu
  refine wpList_append_lies _ hgd s x t ho base e i z k i.bytes ht hi hz hsz rfl hzs hk v n xs hs (hown.alloc _) ⟨W.heap.size, 0, none⟩ 1 1 cs.toList hx (by rw [Array.length_toList, hcs, Nat.one_mul]) hnews h1 (by omega) (by simp [maxLen]; omega) ?_ (by rw [alloc_size]; omega) _ rfl ?_
  · have : (n + 1) * i.bytes ≤ 1000000 * 4096 := Nat.mul_le_mul (by omega) hby
    omega
  · intro g cap w' h2 h3 _ _
    exact h _ _ w' h2 ⟨h3.os, h3.tape, h3.output, Nat.le_trans (by simp) h3.size, fun k hk hn => (h3.block k (by rw [alloc_size]; omega) hn).trans (heap_alloc_old W _ hk)⟩
end
/-- Three results, the first one in a variable of its own. -/
theorem results_row_two {P : Program} {fn : Func} {p u v : Tmp} {ty : TypeId} (h : fn.results = #[.cell p ty, .tmp u, .tmp v]) (tmps : Array Value) (w : World) (g : Nat) (t : TypeId) (cs : Array Value) (fr : Nat × Nat) (d : TypeDesc)
    (hp : tmps.getD p undef = .pointer (some ⟨g, 0, none⟩)) (hg : w.heap[g]? = some (.cells cs t fr))
    (hu : P.underlying ty = some d) (hd : (match d with | .struct _ | .array _ _ => true | _ => false) = true) (hi : (P.info? ty).map (·.size) = some cs.size) :
    (results fn tmps).run P w = .ok (.tuple #[.agg cs, tmps.getD u undef, tmps.getD v undef]) w := by
  have hp' : tmps[p]?.getD undef = .pointer (some ⟨g, 0, none⟩) := by simpa using hp
  simp [results, h, hp', asAddr, run_loadVar_row w g t ty cs fr d hg hu hd hi]

def fcells (fs : List (List UInt8 × List UInt8)) : List Value := fs.flatMap fun f => [S f.1, S f.2]
theorem fcells_snoc (fs : List (List UInt8 × List UInt8)) (f : List UInt8 × List UInt8) : fcells (fs ++ [f]) = fcells fs ++ [S f.1, S f.2] := by
  unfold fcells; rw [List.flatMap_append]; simp
theorem eleF : EleK Tryz.prog 43 2 := eleK_of (z := .agg #[.string ⟨#[]⟩, .string ⟨#[]⟩]) (n := 32) (by kernel_rfl) (by omega) rfl
theorem eq_self (p : List UInt8) (w : World) : (Op.equalIn 9999 9 (S p) (S p)).run Tryz.prog w = .ok true w := by
  unfold S
  rw [run_equalIn_string w 9998 9 _ _ Tryz.underlying9, beq_self_eq_true]
theorem fcells_get : ∀ (fs : List (List UInt8 × List UInt8)) (i : Nat) (f : List UInt8 × List UInt8), fs[i]? = some f → (fcells fs)[i * 2]? = some (S f.1) ∧ (fcells fs)[i * 2 + 1]? = some (S f.2)
  | [], i, f, h => by simp at h
  | g :: fs, 0, f, h => by
    simp only [List.getElem?_cons_zero, Option.some.injEq] at h
    subst h
    exact ⟨rfl, rfl⟩
  | g :: fs, i + 1, f, h => by
    rw [List.getElem?_cons_succ] at h
    have ih := fcells_get fs i f h
    have e : fcells (g :: fs) = S g.1 :: S g.2 :: fcells fs := rfl
    rw [e, show (i + 1) * 2 = i * 2 + 1 + 1 by omega, List.getElem?_cons_succ, List.getElem?_cons_succ, List.getElem?_cons_succ, List.getElem?_cons_succ]
    exact ih
/-- A row of fields, as it is read. -/
structure FldsAt (w : World) (V : Value) (fs : List (List UInt8 × List UInt8)) (g : Nat) : Prop where
  len : ∀ T w', (Builtin.len_ #[22] T #[V]).run Tryz.prog w' = .ok (.int .i64 (fs.length : Int)) w'
  index : ∀ i, i < fs.length → ∀ w', (Instr.indexAt 22 V (.int .i64 (i : Int))).run Tryz.prog w' = .ok (.pointer (some ⟨g, i * 2, none⟩)) w'
  cell : ∀ i f, fs[i]? = some f → w.cell? ⟨g, i * 2, none⟩ = some (S f.1) ∧ w.cell? ⟨g, i * 2 + 1, none⟩ = some (S f.2)
  form : ∃ a c, V = .slice a fs.length c
theorem FldsAt.below {w w' : World} {V : Value} {fs : List (List UInt8 × List UInt8)} {g : Nat} (h : FldsAt w V fs g) (hb : Below w.heap.size w w') : FldsAt w' V fs g :=
  ⟨h.len, h.index, fun i f hf => by
    obtain ⟨h1, h2⟩ := h.cell i f hf
    exact ⟨by rw [hb.cell (World.block_lt_of_cell? w _ h1)]; exact h1, by rw [hb.cell (World.block_lt_of_cell? w _ h2)]; exact h2⟩, h.form⟩
theorem flds_at {w : World} {base : Nat} {V : Value} {fs : List (List UInt8 × List UInt8)} (h : w.ownsRow base 43 2 V fs.length (fcells fs)) : ∃ g, FldsAt w V fs g ∧ (fs = [] ∨ (base ≤ g ∧ g < w.heap.size)) := by
  rcases h.2 with ⟨rfl, h0⟩ | ⟨g, cap, cur, rfl, hb, hg, hn, hm, hs, ht⟩
  · have : fs = [] := List.length_eq_zero_iff.1 h0
    subst this
    refine ⟨0, ⟨fun T w' => by simp [Builtin.len_, run_underlying Tryz.underlying22, Result.andThen, goInt], fun i hi => absurd hi (by simp), fun i f hf => (by simp at hf), ⟨none, 0, rfl⟩⟩, .inl rfl⟩
  · refine ⟨g, ⟨fun T w' => by simp [Builtin.len_, run_underlying Tryz.underlying22, Result.andThen, goInt], fun i hi w' => ?_, fun i f hf => ?_, ⟨_, _, rfl⟩⟩, .inr ⟨hb, (Array.getElem?_eq_some_iff.1 hg).1⟩⟩
    · have := run_index_at (P := Tryz.prog) Tryz.underlying22 (fun w => Tryz.sizeOf43 w) g 0 fs.length cap i hi w'
      rwa [Nat.zero_add] at this
    · obtain ⟨h1, h2⟩ := fcells_get fs i f hf
      rw [← ht] at h1 h2
      have hi := (List.getElem?_eq_some_iff.1 hf).1
      have hrow : ∀ j u, (cur.toList.take (fs.length * 2))[j]? = some u → w.cell? ⟨g, j, none⟩ = some u := fun j u hu => by
        rw [cell_of_row w g j cur 43 (0, 0) hg]
        rw [List.getElem?_take] at hu
        split at hu
        · simpa using hu
        · cases hu
      exact ⟨hrow _ _ h1, hrow _ _ h2⟩
section
variable {P : Program} {ops : Array Oper} {rest : List Oper} {o : Oper} {a : Act} {w : World} {Q : Exit → Act → World → Prop}
/-- One struct, laid in a block of its own and appended; where it lies then. -/
theorem wpList_addL (hgd : o.guard = none) (t e : TypeId) (s x : Operand) (ho : o.op = .call { callee := .builtin .append, args := #[s, x], argTypes := #[t, t] }) (ht : P.underlying t = some (.slice e)) {k : Nat} (he : EleK P e k) (hk : 0 < k) (base : Nat) (W : World)
    (v : Value) (hs : a.eval s = v) (n : Nat) (xs : List Value) (hown : W.ownsRow base e k v n xs) (cs : Array Value) (hcs : cs.size = k) (h1 : ∀ u ∈ cs.toList, u.oneCell' = true) (hw : w = W.alloc (.cells cs e)) (H : Nat) (hH : W.heap.size = H) (hx : a.eval x = .slice (some ⟨H, 0, none⟩) 1 1)
    (hlen : n < 1000000) (hbase : base ≤ W.heap.size)
    (h : ∀ g cap w', w'.ownsRow base e k (.slice (some ⟨g, 0, none⟩) (n + 1) cap) (n + 1) (xs ++ cs.toList) → W.grownBy w' v.ownBlock → (v.ownBlock = some g ∨ W.heap.size ≤ g) → g < w'.heap.size → wpList P ops Q rest (a.put o.dst (.slice (some ⟨g, 0, none⟩) (n + 1) cap)) w') : wpList P ops Q (o :: rest) a w := by
  subst hw hH
  obtain ⟨i, z, hi, hz, hsz, hby, hzs⟩ := he
  have hr := row_new W cs e
  have hnews : ∀ j u, cs.toList[j]? = some u → (W.alloc (.cells cs e)).cell? ((⟨W.heap.size, 0, none⟩ : Addr).add j) = some u := fun j u hu => by
    rw [Addr.add_mid]
    simp only [Nat.zero_add]
    rw [cell_of_row _ _ j _ _ _ hr]
    simpa using hu
  refine wpList_append_lies _ hgd s x t ho base e i z k i.bytes ht hi hz hsz rfl hzs hk v n xs hs (hown.alloc _) ⟨W.heap.size, 0, none⟩ 1 1 cs.toList hx (by rw [Array.length_toList, hcs, Nat.one_mul]) hnews h1 (by omega) (by simp [maxLen]; omega) ?_ (by rw [alloc_size]; omega) _ rfl ?_
  · have : (n + 1) * i.bytes ≤ 1000000 * 4096 := Nat.mul_le_mul (by omega) hby
    omega
  · intro g cap w' h2 h3 h4 h5
    exact h _ _ w' h2 ⟨h3.os, h3.tape, h3.output, Nat.le_trans (by simp) h3.size, fun k hk hn => (h3.block k (by rw [alloc_size]; omega) hn).trans (heap_alloc_old W _ hk)⟩ (h4.imp id fun h => by rw [h, alloc_size]; omega) h5
end
theorem own_same {w w' : World} {base : Nat} {e : TypeId} {k n : Nat} {v : Value} {xs : List Value} (h : w.ownsRow base e k v n xs) (hb : ∀ j, v.ownBlock = some j → w'.heap[j]? = w.heap[j]?) : w'.ownsRow base e k v n xs := by
  refine ⟨h.1, ?_⟩
  rcases h.2 with h2 | ⟨g, cap, cur, rfl, h3, h4, h5⟩
  · exact .inl h2
  · exact .inr ⟨g, cap, cur, rfl, h3, (hb g rfl).trans h4, h5⟩
theorem FldsAt.same {w w' : World} {V : Value} {fs : List (List UInt8 × List UInt8)} {g : Nat} (h : FldsAt w V fs g) (hb : fs ≠ [] → w'.heap[g]? = w.heap[g]?) : FldsAt w' V fs g :=
  ⟨h.len, h.index, fun i f hf => by
    have hne : fs ≠ [] := fun e => by rw [e] at hf; simp at hf
    obtain ⟨h1, h2⟩ := h.cell i f hf
    exact ⟨by rw [World.cell?_of_block (w := w) (hb hne)]; exact h1, by rw [World.cell?_of_block (w := w) (hb hne)]; exact h2⟩, h.form⟩
theorem flds_nil (w : World) (g : Nat) : FldsAt w (.slice none 0 0) [] g :=
  ⟨fun T w' => by simp [Builtin.len_, run_underlying Tryz.underlying22, Result.andThen, goInt], fun i hi => absurd hi (by simp), fun i f hf => (by simp at hf), ⟨none, 0, rfl⟩⟩

theorem set_grown (W : World) (b o : Nat) (v : Value) : W.grownBy (W.setCell ⟨b, o, none⟩ v) (some b) := by
  obtain ⟨h1, h2, h3, h4, h5⟩ := Keeps.setCell (b := b) W o v
  exact ⟨h1, h2, h3, h4, fun k hk hn => h5 k hk (fun e => hn (by rw [e]))⟩
theorem row_own_set {W : World} {base b o : Nat} {e : TypeId} {k n : Nat} {v x : Value} {xs : List Value} (h : W.ownsRow base e k v n xs) (hb : b < base) : (W.setCell ⟨b, o, none⟩ x).ownsRow base e k v n xs := by
  refine h.kept (set_grown W b o x) ?_
  cases hv : v.ownBlock with
  | none => exact .inl rfl
  | some g =>
    right
    intro e
    have := (h.lt g hv).1
    cases e
    omega
theorem own_weak {W : World} {base base' : Nat} {e : TypeId} {k n : Nat} {v : Value} {xs : List Value} (h : W.ownsRow base e k v n xs) (hb : base' ≤ base) : W.ownsRow base' e k v n xs := by
  refine ⟨h.1, ?_⟩
  rcases h.2 with hn | ⟨g, cap, cur, h1, h2, h3⟩
  · exact .inl hn
  · exact .inr ⟨g, cap, cur, h1, by omega, h3⟩
theorem own_below {W W' : World} {base : Nat} {e : TypeId} {k n : Nat} {v : Value} {xs : List Value} (h : W.ownsRow base e k v n xs) (hb : Below W.heap.size W W') : W'.ownsRow base e k v n xs := by
  refine ⟨h.1, ?_⟩
  rcases h.2 with hn | ⟨g, cap, cur, h1, h2, h3, h4⟩
  · exact .inl hn
  · have hlt : g < W.heap.size := (Array.getElem?_eq_some_iff.1 h3).1
    exact .inr ⟨g, cap, cur, h1, h2, by rw [hb.block g hlt]; exact h3, h4⟩
/-- A row of fields, wherever it lies in its block. -/
structure FA (w : World) (V : Value) (fs : List (List UInt8 × List UInt8)) (b o : Nat) : Prop where
  len : ∀ T w', (Builtin.len_ #[22] T #[V]).run Tryz.prog w' = .ok (.int .i64 (fs.length : Int)) w'
  index : ∀ i, i < fs.length → ∀ w', (Instr.indexAt 22 V (.int .i64 (i : Int))).run Tryz.prog w' = .ok (.pointer (some ⟨b, o + i * 2, none⟩)) w'
  cell : ∀ i f, fs[i]? = some f → w.cell? ⟨b, o + i * 2, none⟩ = some (S f.1) ∧ w.cell? ⟨b, o + i * 2 + 1, none⟩ = some (S f.2)
  form : ∃ a c, V = .slice a fs.length c
theorem FA.below {w w' : World} {V : Value} {fs : List (List UInt8 × List UInt8)} {b o : Nat} (h : FA w V fs b o) (hb : Below w.heap.size w w') : FA w' V fs b o :=
  ⟨h.len, h.index, fun i f hf => by
    obtain ⟨h1, h2⟩ := h.cell i f hf
    exact ⟨by rw [hb.cell (World.block_lt_of_cell? w _ h1)]; exact h1, by rw [hb.cell (World.block_lt_of_cell? w _ h2)]; exact h2⟩, h.form⟩
theorem FldsAt.fa {w : World} {V : Value} {fs : List (List UInt8 × List UInt8)} {g : Nat} (h : FldsAt w V fs g) : FA w V fs g 0 :=
  ⟨h.len, fun i hi w' => by rw [Nat.zero_add]; exact h.index i hi w', fun i f hf => by rw [Nat.zero_add]; exact h.cell i f hf, h.form⟩
end Go.Proofs.YtendejpkdjkmnaaGreatDoor
