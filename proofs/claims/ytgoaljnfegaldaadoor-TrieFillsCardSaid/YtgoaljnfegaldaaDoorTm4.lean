/- What is found, put into its pattern, is the path. -/
import Derived.Test.YtgoaljnfegaldaaDoorTm2
namespace Go.Proofs.YtgoaljnfegaldaaDoor
open Go.RowKit

/-- Segments, each behind a slash. -/
def slF (l : List Txt) : Txt := l.flatMap fun s => 47 :: s
theorem sl_cons (s : Txt) (l : List Txt) : slF (s :: l) = 47 :: (s ++ slF l) := rfl
theorem sl_snoc (l : List Txt) (s : Txt) : slF (l ++ [s]) = slF l ++ 47 :: s := by
  unfold slF; rw [List.flatMap_append]; simp
theorem cut_join : ∀ (r cur : Txt), slF (cutP cur r) = 47 :: (cur ++ r)
  | [], cur => by simp [cutP, slF]
  | c :: r, cur => by
    rw [cutP]
    split
    · rename_i h
      rw [sl_cons, cut_join r [], h]; rfl
    · rw [cut_join r]; simp
theorem cut_no : ∀ (r cur : Txt), 47 ∉ cur → ∀ s ∈ cutP cur r, (47 : UInt8) ∉ s
  | [], cur, h, s, hs => by
    have : s = cur := by simpa [cutP] using hs
    rw [this]; exact h
  | c :: r, cur, h, s, hs => by
    rw [cutP] at hs
    split at hs
    · rcases List.mem_cons.1 hs with e | e
      · rw [e]; exact h
      · exact cut_no r [] (by simp) s e
    · rename_i hc
      refine cut_no r (cur ++ [c]) ?_ s hs
      intro e
      rcases List.mem_append.1 e with e | e
      · exact h e
      · exact hc (List.mem_singleton.1 e).symm
/-- The rest is the last one. -/
def Lasts : List Txt → Prop
  | [] => True
  | s :: r => (kindS s = 2 → r = []) ∧ Lasts r
theorem Tidy.lasts : ∀ {l : List Txt}, Tidy l → Lasts l
  | [], _ => trivial
  | _ :: _, h => ⟨h.1.2, Tidy.lasts h.2⟩
def wantF (path : List Txt) : Txt := if path = [] then [47] else slF path
/-- Where the walk over a pattern stands. -/
structure FillAt (p want : Txt) (fs : List (Txt × Txt)) (i k : Nat) (got : Txt) (l pr : List Txt) : Prop where
  lasts : Lasts l
  no : ∀ s ∈ l, (47 : UInt8) ∉ s
  fits : fitsF l pr = true
  pat : p.drop i = slF l
  le : i ≤ p.length
  goes : got ++ slF pr = want
  kle : k ≤ fs.length
  rest : fs.drop k = paramsF l pr
theorem fill_start {p : Txt} {segs path : List Txt} (hs : segsF p = some segs) (hf : fitsF segs path = true) : ∃ l pr, FillAt p (wantF path) (paramsF segs path) 0 0 [] l pr := by
  unfold segsF at hs
  split at hs
  · cases hs
  · rename_i c r
    split at hs
    · cases hs
    · rename_i hc
      have hc : c = 47 := by simpa using hc
      subst hc
      split at hs
      · rename_i hr
        subst hr
        cases hs
        cases path with
        | nil => exact ⟨[[]], [[]], ⟨fun _ => rfl, trivial⟩, by simp, rfl, rfl, by simp, rfl, by simp, rfl⟩
        | cons x q => simp [fitsF] at hf
      · split at hs
        · rename_i hr hk
          cases hs
          have hne : path ≠ [] := by
            intro e
            subst e
            cases r with
            | nil => exact hr rfl
            | cons a b =>
              rw [cutP] at hf
              split at hf
              · simp [fitsF] at hf
              · rw [show ∀ q, fitsF q [] = q.isEmpty from fun q => by cases q <;> rfl] at hf
                have := cut_join b ([] ++ [a])
                rw [List.isEmpty_iff.1 hf] at this
                cases this
          refine ⟨cutP [] r, path, (tidy_ok _ _ hk).lasts, cut_no r [] (by simp), hf, ?_, by simp, ?_, by simp, rfl⟩
          · rw [cut_join]; rfl
          · unfold wantF; rw [if_neg hne]; rfl
        · cases hs
section
variable {p want : Txt} {fs : List (Txt × Txt)} {i k : Nat} {got : Txt} {l pr : List Txt} {s : Txt}
theorem FillAt.end (h : FillAt p want fs p.length k got l pr) : got = want ∧ k = fs.length := by
  have h1 := h.pat
  rw [List.drop_length] at h1
  cases l with
  | cons s l => cases h1
  | nil =>
    have h2 := h.fits
    cases pr with
    | cons x q => simp [fitsF] at h2
    | nil =>
      refine ⟨by rw [← h.goes]; simp [slF], ?_⟩
      have h3 := congrArg List.length h.rest
      have h4 := h.kle
      rw [List.length_drop] at h3
      have : (paramsF [] []).length = 0 := rfl
      omega
/-- One segment more. -/
theorem FillAt.more (h : FillAt p want fs i k got l pr) (hi : i < p.length) : ∃ s l', l = s :: l' ∧ i + 1 + s.length ≤ p.length ∧ (∀ j c, s[j]? = some c → p[i + 1 + j]? = some c ∧ c ≠ 47) ∧ (p[i + 1 + s.length]? = none ∨ p[i + 1 + s.length]? = some 47) ∧ (p.drop (i + 1)).take s.length = s ∧ p.drop (i + 1 + s.length) = slF l' := by
  have h1 := h.pat
  cases l with
  | nil =>
    have h2 := congrArg List.length h1
    rw [List.length_drop] at h2
    have : (slF []).length = 0 := rfl
    omega
  | cons s l' =>
    have e1 : p.drop (i + 1) = s ++ slF l' := by
      rw [← List.drop_drop, h1]; rfl
    have hlen := congrArg List.length e1
    rw [List.length_drop, List.length_append] at hlen
    have hget : ∀ j, p[i + 1 + j]? = (s ++ slF l')[j]? := fun j => by rw [← e1, List.getElem?_drop]
    refine ⟨s, l', rfl, by omega, fun j c hj => ⟨?_, ?_⟩, ?_, ?_, ?_⟩
    · rw [hget, List.getElem?_append_left (List.getElem?_eq_some_iff.1 hj).1]; exact hj
    · intro e
      exact h.no s (by simp) (by rw [← e]; exact List.mem_of_getElem? hj)
    · rw [hget, List.getElem?_append_right (Nat.le_refl _), Nat.sub_self]
      cases l' with
      | nil => exact .inl rfl
      | cons t m => exact .inr rfl
    · rw [e1, List.take_left]
    · rw [← List.drop_drop, e1, List.drop_left]
theorem FillAt.lit (h : FillAt p want fs i k got (s :: l) pr) (hk : kindS s = 0) (hl : i + 1 + s.length ≤ p.length) (hd : p.drop (i + 1 + s.length) = slF l) : ∃ pr', FillAt p want fs (i + 1 + s.length) k (got ++ 47 :: s) l pr' := by
  have h2 := h.fits
  cases pr with
  | nil => simp [fitsF] at h2
  | cons x q =>
    rw [fitsF, if_neg (by omega), if_neg (by omega), Bool.and_eq_true, beq_iff_eq] at h2
    refine ⟨q, h.lasts.2, fun t ht => h.no t (List.mem_cons_of_mem _ ht), h2.2, hd, hl, ?_, h.kle, ?_⟩
    · rw [← h.goes, sl_cons, h2.1]; simp
    · rw [h.rest, paramsF, if_neg (by omega), if_neg (by omega)]
theorem FillAt.par (h : FillAt p want fs i k got (s :: l) pr) (hk : kindS s ≠ 0) (hl : i + 1 + s.length ≤ p.length) (hd : p.drop (i + 1 + s.length) = slF l) :
    ∃ v pr', fs[k]? = some (s.drop 1, v) ∧ FillAt p want fs (i + 1 + s.length) (k + 1) (got ++ 47 :: v) l pr' := by
  have h2 := h.fits
  have hg : ∀ j, fs[k + j]? = (paramsF (s :: l) pr)[j]? := fun j => by rw [← h.rest, List.getElem?_drop]
  cases pr with
  | nil => simp [fitsF] at h2
  | cons x q =>
    have hkl := kind_le s
    by_cases h1 : kindS s = 2
    · have hl0 := h.lasts.1 h1
      subst hl0
      have e1 : paramsF [s] (x :: q) = [(s.drop 1, joinP x q)] := by rw [paramsF, if_pos h1]
      have h0 := hg 0
      rw [e1] at h0
      have hkf : k < fs.length := (List.getElem?_eq_some_iff.1 (h0 : fs[k]? = _)).1
      have e2 : fs.length = k + 1 := by
        have := congrArg List.length h.rest
        rw [e1, List.length_drop] at this
        have h5 : ([(s.drop 1, joinP x q)] : List (Txt × Txt)).length = 1 := rfl
        omega
      refine ⟨joinP x q, [], h0, trivial, by simp, rfl, hd, hl, ?_, by omega, ?_⟩
      · rw [← h.goes, sl_cons]; unfold joinP slF; simp
      · rw [List.drop_eq_nil_of_le (by omega)]; rfl
    · have h11 : kindS s = 1 := by omega
      rw [fitsF, if_neg h1, if_pos h11, Bool.and_eq_true] at h2
      have e1 : paramsF (s :: l) (x :: q) = (s.drop 1, x) :: paramsF l q := by rw [paramsF, if_neg h1, if_pos h11]
      have h0 := hg 0
      rw [e1] at h0
      have hkf : k < fs.length := (List.getElem?_eq_some_iff.1 (h0 : fs[k]? = _)).1
      refine ⟨x, q, h0, h.lasts.2, fun t ht => h.no t (List.mem_cons_of_mem _ ht), h2.2, hd, hl, ?_, by omega, ?_⟩
      · rw [← h.goes, sl_cons]; simp
      · rw [← List.drop_drop, h.rest, e1]; rfl
end
end Go.Proofs.YtgoaljnfegaldaaDoor
