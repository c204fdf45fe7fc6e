/- Patterns as list functions: which may be, which fits, which is better, which is found. -/
import Derived.Test.YtgoaljnfegaldaaDoorGen
namespace Go.Proofs.YtgoaljnfegaldaaDoor
open Go.RowKit

abbrev Txt := List UInt8
def kindS (s : Txt) : Nat := match s with
  | [] => 0
  | c :: _ => if c = 58 then 1 else if c = 42 then 2 else 0
theorem kind_le (s : Txt) : kindS s ≤ 2 := by
  unfold kindS
  split
  · omega
  · split
    · omega
    · split <;> omega
def nameB (c : UInt8) : Bool := (decide (97 ≤ c.toNat) && decide (c.toNat ≤ 122)) || ((decide (65 ≤ c.toNat) && decide (c.toNat ≤ 90)) || ((decide (48 ≤ c.toNat) && decide (c.toNat ≤ 57)) || c == 95))
def nameS (s : Txt) : Bool := decide (1 ≤ s.length) && (decide (s.length ≤ 32) && s.all nameB)
/-- What stands between slashes. -/
def cutP : Txt → Txt → List Txt
  | cur, [] => [cur]
  | cur, c :: r => if c = 47 then cur :: cutP [] r else cutP (cur ++ [c]) r
/-- May these segments be, behind those? -/
def segsOk : List Txt → List Txt → Bool
  | _, [] => true
  | d, s :: r => (s != [] && (kindS s == 0 || (nameS (s.drop 1) && ((kindS s == 1 || r.isEmpty) && d.all fun k => kindS k == 0 || k.drop 1 != s.drop 1)))) && segsOk (d ++ [s]) r
def segsF (s : Txt) : Option (List Txt) := match s with
  | [] => none
  | c :: r => if c ≠ 47 then none else if r = [] then some [] else if segsOk [] (cutP [] r) = true then some (cutP [] r) else none
def segD (s : Txt) : List Txt := (segsF s).getD []
def twinF : List Txt → List Txt → Bool
  | [], [] => true
  | a :: as, b :: bs => (kindS a == kindS b && (kindS a != 0 || a == b)) && twinF as bs
  | _, _ => false
def fitsF : List Txt → List Txt → Bool
  | [], [] => true
  | s :: l, x :: p => if kindS s = 2 then true else (if kindS s = 1 then x != [] else s == x) && fitsF l p
  | _, _ => false
def betterF : List Txt → List Txt → Bool
  | a :: as, b :: bs => if kindS a ≠ kindS b then decide (kindS a < kindS b) else betterF as bs
  | _, _ => false
/-- The rest is the last one, and no segment is empty. -/
def Tidy : List Txt → Prop
  | [] => True
  | s :: r => (s ≠ [] ∧ (kindS s = 2 → r = [])) ∧ Tidy r
theorem tidy_ok : ∀ (r d : List Txt), segsOk d r = true → Tidy r
  | [], _, _ => trivial
  | s :: r, d, h => by
    rw [segsOk, Bool.and_eq_true, Bool.and_eq_true] at h
    obtain ⟨⟨h1, h2⟩, h3⟩ := h
    refine ⟨⟨by simpa using h1, fun hk => ?_⟩, tidy_ok r _ h3⟩
    rw [hk] at h2
    simp at h2
    exact h2.2.1
theorem segs_tidy {s : Txt} {l : List Txt} (h : segsF s = some l) : Tidy l := by
  unfold segsF at h
  split at h
  · cases h
  · split at h
    · cases h
    · split at h
      · cases h; trivial
      · split at h
        · rename_i hk
          cases h
          exact tidy_ok _ _ hk
        · cases h
theorem fits_total : ∀ (a b p : List Txt), Tidy a → Tidy b → fitsF a p = true → fitsF b p = true → twinF a b = true ∨ betterF a b = true ∨ betterF b a = true
  | [], [], _, _, _, _, _ => .inl rfl
  | [], t :: b, [], _, _, _, h => by simp [fitsF] at h
  | [], t :: b, x :: p, _, _, h, _ => by simp [fitsF] at h
  | s :: a, [], [], _, _, h, _ => by simp [fitsF] at h
  | s :: a, [], x :: p, _, _, _, h => by simp [fitsF] at h
  | s :: a, t :: b, [], _, _, h, _ => by simp [fitsF] at h
  | s :: a, t :: b, x :: p, ha, hb, h1, h2 => by
    by_cases hk : kindS s = kindS t
    · rw [twinF, betterF, betterF, if_neg (fun e => e hk), if_neg (fun e => e hk.symm)]
      rw [fitsF] at h1 h2
      by_cases hk2 : kindS s = 2
      · have e1 := ha.1.2 hk2
        have e2 := hb.1.2 (by rw [← hk]; exact hk2)
        subst e1 e2
        left
        rw [← hk, hk2]; rfl
      · rw [if_neg hk2, Bool.and_eq_true] at h1
        rw [if_neg (by rw [← hk]; exact hk2), Bool.and_eq_true] at h2
        rcases fits_total a b p ha.2 hb.2 h1.2 h2.2 with h | h
        · left
          rw [h, ← hk, beq_self_eq_true, Bool.true_and, Bool.and_true]
          by_cases hk1 : kindS s = 1
          · rw [hk1]; rfl
          · have hk0 : kindS s = 0 := by have := kind_le s; omega
            rw [if_neg hk1] at h1
            rw [if_neg (by rw [← hk]; exact hk1)] at h2
            rw [hk0, beq_iff_eq.1 h1.1, beq_iff_eq.1 h2.1]; simp
        · exact .inr h
    · right
      rw [betterF, betterF, if_pos hk, if_pos (fun e => hk e.symm), decide_eq_true_eq, decide_eq_true_eq]
      omega
theorem better_asym : ∀ a b : List Txt, betterF a b = true → betterF b a = false
  | [], _, h => by simp [betterF] at h
  | _ :: _, [], h => by simp [betterF] at h
  | s :: a, t :: b, h => by
    rw [betterF] at h ⊢
    by_cases hk : kindS s = kindS t
    · rw [if_neg (fun e => e hk)] at h
      rw [if_neg (fun e => e hk.symm)]
      exact better_asym a b h
    · rw [if_pos hk, decide_eq_true_eq] at h
      rw [if_pos (fun e => hk e.symm), decide_eq_false_iff_not]
      omega
theorem better_trans : ∀ a b c : List Txt, betterF a b = true → betterF b c = true → betterF a c = true
  | [], _, _, h, _ => by simp [betterF] at h
  | _ :: _, [], _, h, _ => by simp [betterF] at h
  | _ :: _, _ :: _, [], _, h => by simp [betterF] at h
  | s :: a, t :: b, u :: c, h1, h2 => by
    rw [betterF] at h1 h2 ⊢
    by_cases hk : kindS s = kindS t
    · rw [if_neg (fun e => e hk)] at h1
      by_cases hk2 : kindS t = kindS u
      · rw [if_neg (fun e => e hk2)] at h2
        rw [if_neg (fun e => e (hk.trans hk2))]
        exact better_trans a b c h1 h2
      · rw [if_pos hk2, decide_eq_true_eq] at h2
        rw [if_pos (by rw [hk]; exact hk2), decide_eq_true_eq]
        omega
    · rw [if_pos hk, decide_eq_true_eq] at h1
      by_cases hk2 : kindS t = kindS u
      · rw [if_pos (by rw [← hk2]; exact hk), decide_eq_true_eq]
        omega
      · rw [if_pos hk2, decide_eq_true_eq] at h2
        rw [if_pos (by omega), decide_eq_true_eq]
        omega
theorem twin_symm : ∀ a b : List Txt, twinF a b = twinF b a
  | [], [] => rfl
  | [], _ :: _ => rfl
  | _ :: _, [] => rfl
  | s :: a, t :: b => by
    rw [twinF, twinF, twin_symm a b]
    congr 1
    by_cases hk : kindS s = kindS t
    · rw [hk]
      by_cases h0 : kindS t = 0
      · rw [h0]
        by_cases e : s = t
        · rw [e]
        · have e1 : (s == t) = false := beq_eq_false_iff_ne.2 e
          have e2 : (t == s) = false := beq_eq_false_iff_ne.2 fun h => e h.symm
          rw [e1, e2]
      · have : (kindS t != 0) = true := bne_iff_ne.2 h0
        rw [this]; simp
    · have e1 : (kindS s == kindS t) = false := beq_eq_false_iff_ne.2 hk
      have e2 : (kindS t == kindS s) = false := beq_eq_false_iff_ne.2 fun h => hk h.symm
      rw [e1, e2]; rfl
theorem twin_self : ∀ a : List Txt, twinF a a = true
  | [] => rfl
  | s :: a => by rw [twinF, twin_self a]; simp

/-! A trie: patterns, and what they have. -/
section
variable {β : Type}
abbrev Ents (β : Type) := List (Txt × β)
/-- Patterns, of which no two are twins. -/
structure Wf (l : Ents β) : Prop where
  segs : ∀ e ∈ l, ∃ s, segsF e.1 = some s
  apart : l.Pairwise fun e f => twinF (segD e.1) (segD f.1) = false
theorem wf_nil : Wf ([] : Ents β) := ⟨fun _ h => (by cases h), List.Pairwise.nil⟩
theorem Wf.tidy {l : Ents β} (h : Wf l) {e : Txt × β} (he : e ∈ l) : Tidy (segD e.1) := by
  obtain ⟨s, hs⟩ := h.segs e he
  unfold segD
  rw [hs]
  exact segs_tidy hs
theorem Wf.ne {l : Ents β} (h : Wf l) {i j : Nat} {e f : Txt × β} (hi : l[i]? = some e) (hj : l[j]? = some f) (hn : i ≠ j) : twinF (segD e.1) (segD f.1) = false := by
  obtain ⟨hil, hie⟩ := List.getElem?_eq_some_iff.1 hi
  obtain ⟨hjl, hje⟩ := List.getElem?_eq_some_iff.1 hj
  have hp := List.pairwise_iff_getElem.1 h.apart
  rcases Nat.lt_or_gt_of_ne hn with h1 | h1
  · have := hp i j hil hjl h1
    rwa [hie, hje] at this
  · have := hp j i hjl hil h1
    rw [hie, hje] at this
    rw [twin_symm]; exact this
theorem Wf.same {l : Ents β} (h : Wf l) {e f : Txt × β} (he : e ∈ l) (hf : f ∈ l) (ht : twinF (segD e.1) (segD f.1) = true) : e = f := by
  obtain ⟨i, hi⟩ := List.getElem?_of_mem he
  obtain ⟨j, hj⟩ := List.getElem?_of_mem hf
  by_cases hn : i = j
  · subst hn
    exact Option.some.inj (hi.symm.trans hj)
  · have := h.ne hi hj hn
    rw [this] at ht; cases ht
/-- Add: what is wrong, and what there is then. -/
def addE (max : Int) (l : Ents β) (p : Txt) (x : β) : Nat × Ents β := match segsF p with
  | none => (8, l)
  | some s => if (l.any fun e => twinF s (segD e.1)) = true then (5, l) else if max ≤ (l.length : Int) then (6, l) else (0, l ++ [(p, x)])
theorem add_wf {max : Int} {l : Ents β} (h : Wf l) (p : Txt) (x : β) : Wf (addE max l p x).2 := by
  unfold addE
  cases hs : segsF p with
  | none => exact h
  | some s =>
    dsimp only
    split
    · exact h
    · rename_i ht
      split
      · exact h
      · refine ⟨fun e he => ?_, ?_⟩
        · rcases List.mem_append.1 he with he | he
          · exact h.segs e he
          · rw [List.mem_singleton] at he; subst he; exact ⟨s, hs⟩
        · refine List.pairwise_append.2 ⟨h.apart, List.pairwise_singleton _ _, fun e he f hf => ?_⟩
          rw [List.mem_singleton] at hf
          subst hf
          have e1 : segD p = s := by unfold segD; rw [hs]; rfl
          rw [twin_symm]
          show twinF (segD p) _ = false
          rw [e1]
          rw [Bool.not_eq_true, List.any_eq_false] at ht
          exact Bool.eq_false_iff.2 (ht e he)
/-- The best one of those that fit. -/
structure IsBest (l : Ents β) (path : List Txt) (e : Txt × β) : Prop where
  mem : e ∈ l
  fits : fitsF (segD e.1) path = true
  best : ∀ f ∈ l, fitsF (segD f.1) path = true → f = e ∨ betterF (segD e.1) (segD f.1) = true
theorem best_one {l : Ents β} {path : List Txt} {e f : Txt × β} (he : IsBest l path e) (hf : IsBest l path f) : e = f := by
  rcases he.best f hf.mem hf.fits with h | h
  · exact h.symm
  · rcases hf.best e he.mem he.fits with k | k
    · exact k
    · rw [better_asym _ _ h] at k; cases k
def FindIs (l : Ents β) (path : List Txt) (o : Option (Txt × β)) : Prop := match o with
  | none => ∀ f ∈ l, fitsF (segD f.1) path = false
  | some e => IsBest l path e
theorem find_unique {l : Ents β} {path : List Txt} {o o' : Option (Txt × β)} (h : FindIs l path o) (h' : FindIs l path o') : o = o' := by
  cases o with
  | none =>
    cases o' with
    | none => rfl
    | some e => have := h e h'.mem; rw [h'.fits] at this; cases this
  | some e =>
    cases o' with
    | none => have := h' e h.mem; rw [h.fits] at this; cases this
    | some f => rw [best_one h h']
theorem find_mem {l l' : Ents β} {path : List Txt} {o : Option (Txt × β)} (hm : ∀ e, e ∈ l ↔ e ∈ l') (h : FindIs l path o) : FindIs l' path o := by
  cases o with
  | none => exact fun f hf => h f ((hm f).2 hf)
  | some e => exact ⟨(hm e).1 h.mem, h.fits, fun f hf => h.best f ((hm f).2 hf)⟩
/-- One more: it is found, or what was found before. -/
theorem find_more {l : Ents β} {m : Txt × β} {path : List Txt} {o : Option (Txt × β)} (hw : Wf (l ++ [m])) (h : FindIs l path o) :
    FindIs (l ++ [m]) path o ∨ (fitsF (segD m.1) path = true ∧ FindIs (l ++ [m]) path (some m)) := by
  cases hm : fitsF (segD m.1) path with
  | false =>
    left
    cases o with
    | none =>
      intro f hf
      rcases List.mem_append.1 hf with hf | hf
      · exact h f hf
      · rw [List.mem_singleton] at hf; rw [hf]; exact hm
    | some e =>
      refine ⟨List.mem_append_left _ h.mem, h.fits, fun f hf hff => ?_⟩
      rcases List.mem_append.1 hf with hf | hf
      · exact h.best f hf hff
      · rw [List.mem_singleton] at hf; subst hf; rw [hm] at hff; cases hff
  | true =>
    have hmm : m ∈ l ++ [m] := by simp
    cases o with
    | none =>
      right
      refine ⟨rfl, hmm, hm, fun f hf hff => ?_⟩
      rcases List.mem_append.1 hf with hf | hf
      · rw [h f hf] at hff; cases hff
      · rw [List.mem_singleton] at hf; exact .inl hf
    | some e =>
      have hem : e ∈ l ++ [m] := List.mem_append_left _ h.mem
      rcases fits_total _ _ path (hw.tidy hmm) (hw.tidy hem) hm h.fits with ht | ht | ht
      · have := hw.same hmm hem ht
        subst this
        left
        refine ⟨hem, h.fits, fun f hf hff => ?_⟩
        rcases List.mem_append.1 hf with hf | hf
        · exact h.best f hf hff
        · rw [List.mem_singleton] at hf; exact .inl hf
      · right
        refine ⟨rfl, hmm, hm, fun f hf hff => ?_⟩
        rcases List.mem_append.1 hf with hf | hf
        · rcases h.best f hf hff with k | k
          · rw [k]; exact .inr ht
          · exact .inr (better_trans _ _ _ ht k)
        · rw [List.mem_singleton] at hf; exact .inl hf
      · left
        refine ⟨hem, h.fits, fun f hf hff => ?_⟩
        rcases List.mem_append.1 hf with hf | hf
        · exact h.best f hf hff
        · rw [List.mem_singleton] at hf; rw [hf]; exact .inr ht
/-- There is one. -/
theorem find_is {l : Ents β} (path : List Txt) (hw : Wf l) : ∃ o, FindIs l path o := by
  suffices h : ∀ k : Nat, k ≤ l.length → ∃ o, FindIs (l.take k) path o by
    have := h l.length (Nat.le_refl _)
    rwa [List.take_length] at this
  intro k
  induction k with
  | zero => intro _; exact ⟨none, fun f hf => by simp at hf⟩
  | succ k ih =>
    intro hk
    obtain ⟨o, ho⟩ := ih (by omega)
    obtain ⟨m, hm⟩ : ∃ m, l[k]? = some m := ⟨l[k]'(by omega), List.getElem?_eq_getElem _⟩
    have he : l.take (k + 1) = l.take k ++ [m] := by rw [List.take_add_one, hm]; rfl
    have hw2 : Wf (l.take k ++ [m]) := by
      rw [← he]
      exact ⟨fun e h => hw.segs e (List.mem_of_mem_take h), hw.apart.sublist (List.take_sublist _ _)⟩
    rw [he]
    rcases find_more hw2 ho with h | h
    · exact ⟨o, h⟩
    · exact ⟨some m, h.2⟩
end
/-- The parameters, and the rest. -/
def joinP (x : Txt) (p : List Txt) : Txt := x ++ p.flatMap fun y => 47 :: y
def paramsF : List Txt → List Txt → List (Txt × Txt)
  | s :: l, x :: p => if kindS s = 2 then [(s.drop 1, joinP x p)] else if kindS s = 1 then (s.drop 1, x) :: paramsF l p else paramsF l p
  | _, _ => []
end Go.Proofs.YtgoaljnfegaldaaDoor
