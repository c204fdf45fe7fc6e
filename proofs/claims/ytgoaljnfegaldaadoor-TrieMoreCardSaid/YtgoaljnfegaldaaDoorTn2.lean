/- The landed search as list functions: a list of open places, the best one last; names that are twice; what is taken. -/
import Derived.Test.YtgoaljnfegaldaaDoorTn1
namespace Go.Proofs.YtgoaljnfegaldaaDoor
open Go.RowKit

section
variable {α : Type} {dom : List Key → Bool} {here : List Key → Option α} {path : List Txt}
theorem findK_nil (k : List Key) : findK dom here k [] = here k := by unfold findK; rfl
theorem findK_cons (k : List Key) (x : Txt) (p : List Txt) : findK dom here k (x :: p) =
    ((if dom (k ++ [.lit x]) = true then findK dom here (k ++ [.lit x]) p else none).or
      (if x ≠ [] ∧ dom (k ++ [.par]) = true then findK dom here (k ++ [.par]) p else none)).or
      (if dom (k ++ [.rst]) = true then here (k ++ [.rst]) else none) := by
  conv => lhs; unfold findK
/-- A place: the keys that lead there, and how many segments are read. -/
abbrev Plc := List Key × Nat
def plcF (dom : List Key → Bool) (here : List Key → Option α) (path : List Txt) (q : Plc) : Option α := findK dom here q.1 (path.drop q.2)
/-- What is found of open places, the last one first. -/
def srch (dom : List Key → Bool) (here : List Key → Option α) (path : List Txt) (st : List Plc) : Option α := st.foldl (fun acc q => (plcF dom here path q).or acc) none
theorem srch_nil : srch dom here path [] = none := rfl
theorem srch_snoc (st : List Plc) (q : Plc) : srch dom here path (st ++ [q]) = (plcF dom here path q).or (srch dom here path st) := by
  unfold srch; rw [List.foldl_append]; rfl
def onR (dom : List Key → Bool) (path : List Txt) (q : Plc) : List Plc := if dom (q.1 ++ [.rst]) = true then [(q.1 ++ [.rst], path.length)] else []
def onP (dom : List Key → Bool) (q : Plc) (x : Txt) : List Plc := if dom (q.1 ++ [.par]) = true ∧ x ≠ [] then [(q.1 ++ [.par], q.2 + 1)] else []
def onL (dom : List Key → Bool) (q : Plc) (x : Txt) : List Plc := if dom (q.1 ++ [.lit x]) = true then [(q.1 ++ [.lit x], q.2 + 1)] else []
theorem srch_one (st : List Plc) (b : Prop) [Decidable b] (q : Plc) : srch dom here path (st ++ (if b then [q] else [])) = (if b then plcF dom here path q else none).or (srch dom here path st) := by
  split
  · exact srch_snoc st q
  · rw [List.append_nil]; rfl
theorem srch_on (st : List Plc) (q : Plc) (x : Txt) (hx : path[q.2]? = some x) : srch dom here path (((st ++ onR dom path q) ++ onP dom q x) ++ onL dom q x) = (plcF dom here path q).or (srch dom here path st) := by
  unfold onL onP onR
  rw [srch_one, srch_one, srch_one]
  have hd : path.drop q.2 = x :: path.drop (q.2 + 1) := by
    obtain ⟨hl, rfl⟩ := List.getElem?_eq_some_iff.1 hx
    exact List.drop_eq_getElem_cons hl
  have e0 : plcF dom here path q = findK dom here q.1 (x :: path.drop (q.2 + 1)) := by unfold plcF; rw [hd]
  have e1 : plcF dom here path (q.1 ++ [.rst], path.length) = here (q.1 ++ [.rst]) := by
    show findK dom here (q.1 ++ [.rst]) (path.drop path.length) = _
    rw [List.drop_length, findK_nil]
  rw [e0, findK_cons, e1, Option.or_assoc, Option.or_assoc]
  simp only [and_comm (a := x ≠ [])]
  rfl
theorem plc_end (q : Plc) (h : path.length ≤ q.2) : plcF dom here path q = here q.1 := by
  unfold plcF; rw [List.drop_eq_nil_of_le h, findK_nil]
end
def costN : Nat → Nat
  | 0 => 1
  | n + 1 => 3 * costN n + 1
theorem cost_pos : ∀ n, 1 ≤ costN n
  | 0 => Nat.le_refl _
  | n + 1 => by rw [costN]; omega
theorem cost_up : ∀ {n m : Nat}, n ≤ m → costN n ≤ costN m
  | n, 0, h => by obtain rfl : n = 0 := by omega
                  exact Nat.le_refl _
  | n, m + 1, h => by
    by_cases e : n = m + 1
    · rw [e]; exact Nat.le_refl _
    · have := cost_up (n := n) (m := m) (by omega)
      rw [costN]; omega
theorem cost12 {n : Nat} (h : n ≤ 12) : costN n ≤ 797161 := cost_up (m := 12) h
/-- How much is left to look at. -/
def stCost (m : Nat) (st : List Plc) : Nat := (st.map fun q => costN (m - q.2)).sum
theorem stCost_app (m : Nat) (st l : List Plc) : stCost m (st ++ l) = stCost m st + stCost m l := by
  unfold stCost; rw [List.map_append, List.sum_append]
theorem stCost_one (m : Nat) (q : Plc) : stCost m [q] = costN (m - q.2) := by simp [stCost]
theorem stCost_if (m : Nat) (b : Prop) [Decidable b] (q : Plc) : stCost m (if b then [q] else []) ≤ costN (m - q.2) := by
  split
  · rw [stCost_one]; exact Nat.le_refl _
  · exact Nat.zero_le _
theorem st_len (m : Nat) : ∀ st : List Plc, st.length ≤ stCost m st
  | [] => Nat.zero_le _
  | q :: st => by
    have h1 := st_len m st
    have h2 := cost_pos (m - q.2)
    show st.length + 1 ≤ costN (m - q.2) + stCost m st
    omega
theorem stCost_on {dom : List Key → Bool} {path : List Txt} (st : List Plc) (q : Plc) (x : Txt) (h : q.2 < path.length) :
    stCost path.length (((st ++ onR dom path q) ++ onP dom q x) ++ onL dom q x) + 1 ≤ stCost path.length (st ++ [q]) := by
  rw [stCost_app, stCost_app, stCost_app, stCost_app, stCost_one]
  have h1 : stCost path.length (onR dom path q) ≤ costN (path.length - path.length) := stCost_if _ _ _
  have h2 : stCost path.length (onP dom q x) ≤ costN (path.length - (q.2 + 1)) := stCost_if _ _ _
  have h3 : stCost path.length (onL dom q x) ≤ costN (path.length - (q.2 + 1)) := stCost_if _ _ _
  rw [Nat.sub_self] at h1
  have h4 := cost_pos (path.length - (q.2 + 1))
  have h5 : path.length - q.2 = (path.length - (q.2 + 1)) + 1 := by omega
  have h6 : costN 0 = 1 := rfl
  rw [h5, costN]
  omega
/-- What is found here and there goes together. -/
def OptRel {α β : Type} (Q : α → β → Prop) : Option α → Option β → Prop
  | none, none => True
  | some a, some b => Q a b
  | _, _ => False
section
variable {α β : Type} {Q : α → β → Prop}
theorem OptRel.or {a a' : Option α} {b b' : Option β} (h : OptRel Q a b) (h' : OptRel Q a' b') : OptRel Q (a.or a') (b.or b') := by
  cases a <;> cases b
  · exact h'
  · exact h.elim
  · exact h.elim
  · exact h
theorem OptRel.ite {b : Prop} [Decidable b] {x : Option α} {y : Option β} (h : OptRel Q x y) : OptRel Q (if b then x else none) (if b then y else none) := by
  split
  · exact h
  · trivial
theorem findK_rel {dom : List Key → Bool} {e : List Key → Option α} {f : List Key → Option β} (h : ∀ k, OptRel Q (e k) (f k)) : ∀ (p : List Txt) (k : List Key), OptRel Q (findK dom e k p) (findK dom f k p)
  | [], k => by rw [findK_nil, findK_nil]; exact h k
  | x :: p, k => by
    rw [findK_cons, findK_cons]
    exact ((OptRel.ite (findK_rel h p _)).or (OptRel.ite (findK_rel h p _))).or (OptRel.ite (h _))
theorem OptRel.none_iff {a : Option α} {b : Option β} (h : OptRel Q a b) : a = none ↔ b = none := by
  cases a <;> cases b
  · exact ⟨fun _ => rfl, fun _ => rfl⟩
  · exact h.elim
  · exact h.elim
  · exact ⟨fun e => (by cases e), fun e => (by cases e)⟩
end
/-! Names. -/
/-- Is this a name of one of these? -/
def namedB (l : List Txt) (n : Txt) : Bool := l.any fun k => kindS k != 0 && k.drop 1 == n
theorem namedB_nil (n : Txt) : namedB [] n = false := rfl
theorem named_snoc (l : List Txt) (s n : Txt) : namedB (l ++ [s]) n = (namedB l n || (kindS s != 0 && s.drop 1 == n)) := by
  unfold namedB; rw [List.any_append]; simp
theorem named_lit {l : List Txt} {s : Txt} (h : kindS s = 0) (n : Txt) : namedB (l ++ [s]) n = namedB l n := by
  rw [named_snoc, h]; simp
theorem named_name {l : List Txt} {s : Txt} (h : kindS s ≠ 0) (n : Txt) : namedB (l ++ [s]) n = (if n = s.drop 1 then true else namedB l n) := by
  rw [named_snoc]
  have : (kindS s != 0) = true := bne_iff_ne.2 h
  rw [this, Bool.true_and]
  split
  · rename_i e; rw [e]; simp
  · rename_i e
    have : (s.drop 1 == n) = false := beq_eq_false_iff_ne.2 fun h => e h.symm
    rw [this, Bool.or_false]
theorem named_all (l : List Txt) (n : Txt) : (l.all fun k => kindS k == 0 || k.drop 1 != n) = !namedB l n := by
  unfold namedB
  induction l with
  | nil => rfl
  | cons k l ih =>
    rw [List.all_cons, List.any_cons, Bool.not_or, ih]
    congr 1
    show _ = !((!(kindS k == 0)) && (k.drop 1 == n))
    show ((kindS k == 0) || !(k.drop 1 == n)) = _
    generalize (kindS k == 0) = a
    generalize (k.drop 1 == n) = b
    cases a <;> cases b <;> rfl
theorem segsOk_end (l : List Txt) : segsOk l [] = true := rfl
theorem drop_at {l : List Txt} {i : Nat} {s : Txt} (h : l[i]? = some s) : l.drop i = s :: l.drop (i + 1) ∧ l.take (i + 1) = l.take i ++ [s] := by
  obtain ⟨hl, rfl⟩ := List.getElem?_eq_some_iff.1 h
  exact ⟨List.drop_eq_getElem_cons hl, by rw [List.take_add_one, List.getElem?_eq_getElem hl]; rfl⟩
/-- A round of Right: an empty segment. -/
theorem segs_empty {l : List Txt} {i : Nat} (h : l[i]? = some []) : segsOk (l.take i) (l.drop i) = false := by
  rw [(drop_at h).1, segsOk]; rfl
theorem segs_lit {l : List Txt} {i : Nat} {s : Txt} (h : l[i]? = some s) (hn : s ≠ []) (hk : kindS s = 0) : segsOk (l.take i) (l.drop i) = segsOk (l.take (i + 1)) (l.drop (i + 1)) := by
  rw [(drop_at h).1, (drop_at h).2, segsOk, hk]
  have : (s != []) = true := bne_iff_ne.2 hn
  rw [this]; rfl
theorem segs_name {l : List Txt} {i : Nat} {s : Txt} (h : l[i]? = some s) (hn : s ≠ []) (hk : kindS s ≠ 0) :
    segsOk (l.take i) (l.drop i) = (((nameS (s.drop 1) && (kindS s == 1 || decide (l.length ≤ i + 1))) && !namedB (l.take i) (s.drop 1)) && segsOk (l.take (i + 1)) (l.drop (i + 1))) := by
  rw [(drop_at h).1, (drop_at h).2, segsOk, named_all]
  have h1 : (s != []) = true := bne_iff_ne.2 hn
  have h2 : (kindS s == 0) = false := beq_eq_false_iff_ne.2 hk
  have h3 : (l.drop (i + 1)).isEmpty = decide (l.length ≤ i + 1) := by
    rw [Bool.eq_iff_iff, List.isEmpty_iff, List.drop_eq_nil_iff, decide_eq_true_eq]
  rw [h1, h2, h3, Bool.true_and, Bool.false_or]
  simp only [Bool.and_assoc]
/-! Segments. -/
theorem segsF_slash (r : Txt) : segsF (47 :: r) = if r = [] then some [] else if segsOk [] (cutP [] r) = true then some (cutP [] r) else none := by
  unfold segsF
  dsimp only
  rw [if_neg (fun h : (47 : UInt8) ≠ 47 => h rfl)]
/-- The segments of what begins as a pattern does. -/
def cutS (s : Txt) : List Txt := if s = [47] then [] else cutP [] (s.drop 1)
theorem segsF_cut {s : Txt} (h : s[0]? = some 47) : segsF s = if segsOk [] (cutS s) = true then some (cutS s) else none := by
  cases s with
  | nil => cases h
  | cons c r =>
    obtain rfl : c = 47 := by simpa using h
    rw [segsF_slash]
    unfold cutS
    by_cases hr : r = []
    · subst hr
      rw [if_pos rfl, if_pos rfl, segsOk_end, if_pos rfl]
    · have hn : ¬ (47 :: r = [47]) := fun e => hr (by simpa using e)
      rw [if_neg hr, if_neg hn]
      rfl
theorem segsF_head {s : Txt} {l : List Txt} (h : segsF s = some l) : s[0]? = some 47 ∧ l = cutS s ∧ segsOk [] l = true := by
  have h0 : s[0]? = some 47 := by
    unfold segsF at h
    cases s with
    | nil => cases h
    | cons c r =>
      dsimp only at h
      split at h
      · cases h
      · rename_i e; simp at e; rw [e]; rfl
  rw [segsF_cut h0] at h
  split at h
  · rename_i hk; cases h; exact ⟨h0, rfl, hk⟩
  · cases h
theorem segD_cut {s : Txt} (h : (segsF s).isSome = true) : segD s = cutS s := by
  unfold segD
  obtain ⟨l, hl⟩ := Option.isSome_iff_exists.1 h
  rw [hl, (segsF_head hl).2.1]; rfl
theorem cutP_len : ∀ (s cur : Txt), (cutP cur s).length ≤ s.length + 1
  | [], cur => by simp [cutP]
  | c :: r, cur => by
    rw [cutP]
    split
    · have := cutP_len r []
      simp only [List.length_cons]; omega
    · have := cutP_len r (cur ++ [c])
      simp only [List.length_cons]; omega
theorem cutP_each : ∀ (s cur : Txt), ∀ x ∈ cutP cur s, x.length ≤ cur.length + s.length
  | [], cur, x, h => by
    obtain rfl : x = cur := by simpa [cutP] using h
    omega
  | c :: r, cur, x, h => by
    rw [cutP] at h
    split at h
    · rcases List.mem_cons.1 h with rfl | h
      · omega
      · have := cutP_each r [] x h
        simp only [List.length_cons, List.length_nil] at *; omega
    · have := cutP_each r (cur ++ [c]) x h
      simp only [List.length_cons, List.length_append, List.length_nil] at *; omega
theorem cutS_len (s : Txt) : (cutS s).length ≤ s.length + 1 := by
  unfold cutS
  split
  · simp
  · have := cutP_len (s.drop 1) []
    have h2 : (s.drop 1).length ≤ s.length := by rw [List.length_drop]; omega
    omega
theorem cutS_each (s : Txt) : ∀ x ∈ cutS s, x.length ≤ s.length := by
  unfold cutS
  split
  · intro x h; cases h
  · intro x h
    have := cutP_each (s.drop 1) [] x h
    rw [List.length_drop, List.length_nil] at this; omega
/-! What is taken. -/
theorem fits_drop {l p : List Txt} {i : Nat} {s : Txt} (h : l[i]? = some s) (hf : fitsF (l.drop i) (p.drop i) = true) : ∃ x, p[i]? = some x ∧ (kindS s ≠ 2 → fitsF (l.drop (i + 1)) (p.drop (i + 1)) = true) := by
  rw [(drop_at h).1] at hf
  cases hp : p.drop i with
  | nil => rw [hp] at hf; cases hf
  | cons x r =>
    have hx : p[i]? = some x := by
      have := List.getElem?_drop (xs := p) (i := i) (j := 0)
      rw [hp] at this
      simpa using this.symm
    rw [hp, fitsF] at hf
    refine ⟨x, hx, fun hk => ?_⟩
    rw [if_neg hk, Bool.and_eq_true] at hf
    have := (drop_at hx).1
    rw [hp] at this
    injection this with _ h2
    rw [← h2]; exact hf.2
theorem params_at {l p : List Txt} {i : Nat} {s x : Txt} (h : l[i]? = some s) (hx : p[i]? = some x) :
    paramsF (l.drop i) (p.drop i) = if kindS s = 2 then [(s.drop 1, joinP x (p.drop (i + 1)))] else if kindS s = 1 then (s.drop 1, x) :: paramsF (l.drop (i + 1)) (p.drop (i + 1)) else paramsF (l.drop (i + 1)) (p.drop (i + 1)) := by
  rw [(drop_at h).1, (drop_at hx).1, paramsF]
theorem tidy_at : ∀ {l : List Txt} {i : Nat} {s : Txt}, Tidy l → l[i]? = some s → s ≠ [] ∧ (kindS s = 2 → l.length = i + 1)
  | [], i, s, _, h => by simp at h
  | t :: l, 0, s, ht, h => by
    obtain rfl : t = s := by simpa using h
    exact ⟨ht.1.1, fun hk => by rw [ht.1.2 hk]; rfl⟩
  | t :: l, i + 1, s, ht, h => by
    rw [List.getElem?_cons_succ] at h
    obtain ⟨h1, h2⟩ := tidy_at ht.2 h
    exact ⟨h1, fun hk => by rw [List.length_cons, h2 hk]⟩
theorem kind_head {s : Txt} {c : UInt8} {r : Txt} (h : s = c :: r) : kindS s = if c = 58 then 1 else if c = 42 then 2 else 0 := by subst h; rfl
theorem key_head (c : UInt8) (r : Txt) : keyS (c :: r) = if c = 58 then .par else if c = 42 then .rst else .lit (c :: r) := by
  unfold keyS
  rw [kind_head rfl]
  by_cases h1 : c = 58
  · rw [if_pos h1, if_pos h1]; rfl
  · rw [if_neg h1, if_neg h1]
    by_cases h2 : c = 42
    · rw [if_pos h2, if_pos h2]; rfl
    · rw [if_neg h2, if_neg h2, if_pos rfl]
end Go.Proofs.YtgoaljnfegaldaaDoor
