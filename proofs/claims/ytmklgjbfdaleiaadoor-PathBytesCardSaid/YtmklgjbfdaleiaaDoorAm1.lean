/- Paths as list functions: segments out of a path, a path out of segments. -/
import Derived.Test.YtmklgjbfdaleiaaDoorLm2
namespace Go.Proofs.YtmklgjbfdaleiaaDoor
open Go.RowKit

def hexN (c : UInt8) : Nat := if c.toNat ≤ 57 then c.toNat - 48 else if c.toNat ≤ 70 then c.toNat - 55 else c.toNat - 87
def hexD (n : Nat) : UInt8 := if n < 10 then UInt8.ofNat (48 + n) else UInt8.ofNat (55 + n)
def byteH (x y : UInt8) : UInt8 := UInt8.ofNat (16 * hexN x + hexN y)
def ownAll : List UInt8 := [97, 98, 99, 100, 101, 102, 103, 104, 105, 106, 107, 108, 109, 110, 111, 112, 113, 114, 115, 116, 117, 118, 119, 120, 121, 122, 65, 66, 67, 68, 69, 70, 71, 72, 73, 74, 75, 76, 77, 78, 79, 80, 81, 82, 83, 84, 85, 86, 87, 88, 89, 90, 48, 49, 50, 51, 52, 53, 54, 55, 56, 57, 45, 46, 95, 126]
def plainB (c : UInt8) : Bool := ownAll.contains c
/-- May a segment be? -/
def mayS (s : List UInt8) : Bool := s.all (fun c => c != 47 && c != 0) && (s != [46] && s != [46, 46])
/-- Segments; seg: what was read of one; pd: a percent sign was read, and a digit. -/
def splM : List UInt8 → Option (Option UInt8) → List UInt8 → Option (List (List UInt8))
  | seg, none, [] => if mayS seg = true then some [seg] else none
  | _, some _, [] => none
  | seg, none, c :: r => if c = 47 then (if mayS seg = true then (splM [] none r).map (seg :: ·) else none) else if c = 37 then splM seg (some none) r else splM (seg ++ [c]) none r
  | seg, some none, x :: r => splM seg (some (some x)) r
  | seg, some (some x), y :: r => splM (seg ++ [byteH x y]) none r
def splG (seg s : List UInt8) : Option (List (List UInt8)) := splM seg none s
def pathOk (s : List UInt8) : Prop := s[0]? = some 47 ∧ s.length ≤ 512 ∧ okT s = true ∧ 63 ∉ s
instance decPath (s : List UInt8) : Decidable (pathOk s) := inferInstanceAs (Decidable (_ ∧ _))
def splitF (s : List UInt8) : Option (List (List UInt8)) := if pathOk s then splG [] (s.drop 1) else none
def encC (c : UInt8) : List UInt8 := if plainB c = true then [c] else [37, hexD (c.toNat / 16), hexD (c.toNat % 16)]
def encS (s : List UInt8) : List UInt8 := s.flatMap encC
def joinS (l : List (List UInt8)) : List UInt8 := l.flatMap fun s => 47 :: encS s
def joinF (l : List (List UInt8)) : Option (List UInt8) := if l ≠ [] ∧ (∀ s ∈ l, mayS s = true) ∧ (joinS l).length ≤ 512 then some (joinS l) else none

theorem spl_end (seg : List UInt8) : splG seg [] = if mayS seg = true then some [seg] else none := rfl
theorem spl_sep (seg r : List UInt8) : splG seg (47 :: r) = if mayS seg = true then (splG [] r).map (seg :: ·) else none := by unfold splG; rw [splM, if_pos rfl]
theorem spl_pct (seg : List UInt8) (x y : UInt8) (r : List UInt8) : splG seg (37 :: x :: y :: r) = splG (seg ++ [byteH x y]) r := by unfold splG; rw [splM, if_neg (by decide), if_pos rfl, splM, splM]
theorem spl_on {seg r : List UInt8} {c : UInt8} (h1 : c ≠ 47) (h2 : c ≠ 37) : splG seg (c :: r) = splG (seg ++ [c]) r := by unfold splG; rw [splM, if_neg h1, if_neg h2]
theorem hex_not47 (c : UInt8) (h : hexB c = true) : c ≠ 47 := by
  have := all_bytes (p := fun c => !hexB c || c != 47) (by decide +kernel) c
  simp only [h, Bool.not_true, Bool.false_or, bne_iff_ne] at this
  exact this
theorem enc_hex (c : UInt8) : hexB (hexD (c.toNat / 16)) = true ∧ hexB (hexD (c.toNat % 16)) = true ∧ byteH (hexD (c.toNat / 16)) (hexD (c.toNat % 16)) = c := by
  have := all_bytes (p := fun c => hexB (hexD (c.toNat / 16)) && (hexB (hexD (c.toNat % 16)) && byteH (hexD (c.toNat / 16)) (hexD (c.toNat % 16)) == c)) (by decide +kernel) c
  simp only [Bool.and_eq_true, beq_iff_eq] at this
  exact this
theorem plain_path (c : UInt8) (h : plainB c = true) : pathB c = true ∧ c ≠ 47 ∧ c ≠ 37 ∧ c ≠ 63 := by
  have := all_bytes (p := fun c => !plainB c || (pathB c && (c != 47 && (c != 37 && c != 63)))) (by decide +kernel) c
  simp only [h, Bool.not_true, Bool.false_or, Bool.and_eq_true, bne_iff_ne] at this
  exact this
theorem encS_cons (c : UInt8) (s : List UInt8) : encS (c :: s) = encC c ++ encS s := by unfold encS; rw [List.flatMap_cons]
theorem spl_enc (t : List UInt8) : ∀ (s seg : List UInt8), splG seg (encS s ++ t) = splG (seg ++ s) t
  | [], seg => by rw [List.append_nil]; rfl
  | c :: s, seg => by
    rw [encS_cons]
    unfold encC
    split
    · rename_i h
      obtain ⟨_, h1, h2, _⟩ := plain_path c h
      rw [List.cons_append, List.nil_append, List.cons_append, spl_on h1 h2, spl_enc t s, List.append_assoc]; rfl
    · obtain ⟨_, _, h3⟩ := enc_hex c
      show splG seg (37 :: hexD (c.toNat / 16) :: hexD (c.toNat % 16) :: (encS s ++ t)) = _
      rw [spl_pct, h3, spl_enc t s, List.append_assoc]; rfl
theorem joinS_cons (s : List UInt8) (l : List (List UInt8)) : joinS (s :: l) = 47 :: (encS s ++ joinS l) := by unfold joinS; rw [List.flatMap_cons]; rfl
theorem spl_join : ∀ (l : List (List UInt8)) (seg : List UInt8), mayS seg = true → (∀ s ∈ l, mayS s = true) → splG seg (joinS l) = some (seg :: l)
  | [], seg, h, _ => by
    show splG seg [] = _
    rw [spl_end, if_pos h]
  | s :: l, seg, h, hl => by
    rw [joinS_cons, spl_sep, if_pos h, spl_enc, List.nil_append, spl_join l s (hl s (List.mem_cons_self ..)) fun k hk => hl k (List.mem_cons_of_mem _ hk)]
    rfl
theorem okT_enc : ∀ s : List UInt8, okT (encS s) = true ∧ 63 ∉ encS s
  | [] => ⟨rfl, by simp [encS]⟩
  | c :: s => by
    obtain ⟨i1, i2⟩ := okT_enc s
    rw [encS_cons]
    unfold encC
    split
    · rename_i h
      obtain ⟨h0, _, h2, h3⟩ := plain_path c h
      refine ⟨?_, ?_⟩
      · rw [List.cons_append, List.nil_append, okT_one h2, h0, i1]; simp
      · rw [List.cons_append, List.nil_append, List.mem_cons]
        rintro (e | e)
        · exact h3 e.symm
        · exact i2 e
    · obtain ⟨h1, h2, _⟩ := enc_hex c
      refine ⟨?_, ?_⟩
      · rw [List.cons_append, List.cons_append, List.cons_append, List.nil_append, okT_pct h1 h2, i1]
      · simp only [List.cons_append, List.nil_append, List.mem_cons]
        rintro (e | e | e | e)
        · exact absurd e (by decide)
        · exact (hex_not _ h1).2 e.symm
        · exact (hex_not _ h2).2 e.symm
        · exact i2 e
theorem okT_join : ∀ l : List (List UInt8), okT (joinS l) = true ∧ 63 ∉ joinS l
  | [] => ⟨rfl, by simp [joinS]⟩
  | s :: l => by
    obtain ⟨i1, i2⟩ := okT_join l
    obtain ⟨e1, e2⟩ := okT_enc s
    rw [joinS_cons]
    refine ⟨?_, ?_⟩
    · rw [okT_one (by decide), okT_append _ _ _ (Nat.le_refl _) e1, i1]; decide
    · rw [List.mem_cons, List.mem_append]
      rintro (e | e | e)
      · exact absurd e (by decide)
      · exact e2 e
      · exact i2 e
theorem join_some {l : List (List UInt8)} {p : List UInt8} (h : joinF l = some p) : p = joinS l ∧ l ≠ [] ∧ (∀ s ∈ l, mayS s = true) ∧ (joinS l).length ≤ 512 := by
  unfold joinF at h
  split at h
  · rename_i h2
    exact ⟨(Option.some.inj h).symm, h2⟩
  · cases h
theorem join_path {l : List (List UInt8)} {p : List UInt8} (h : joinF l = some p) : pathOk p ∧ splitF p = some l := by
  obtain ⟨rfl, h1, h2, h3⟩ := join_some h
  obtain ⟨o1, o2⟩ := okT_join l
  cases l with
  | nil => exact absurd rfl h1
  | cons s l =>
    have hp : pathOk (joinS (s :: l)) := ⟨by rw [joinS_cons]; rfl, h3, o1, o2⟩
    refine ⟨hp, ?_⟩
    unfold splitF
    rw [if_pos hp, joinS_cons]
    show splG [] (encS s ++ joinS l) = _
    rw [spl_enc, List.nil_append]
    exact spl_join l s (h2 s (List.mem_cons_self ..)) fun k hk => h2 k (List.mem_cons_of_mem _ hk)
theorem path_target {s : List UInt8} (h : pathOk s) : targetF s = (s, [], true) := target_path h.1 h.2.1 h.2.2.1 h.2.2.2
theorem target_is {s : List UInt8} : targetF s = (s, [], true) ↔ pathOk s := by
  constructor
  · intro h
    obtain ⟨h1, h2, _, h4, h5, _⟩ := target_true h
    exact ⟨h1, h5, h2, h4⟩
  · exact path_target
/-- How long: a segment costs a slash, a byte one at least. -/
def sumL (l : List (List UInt8)) : Nat := (l.map List.length).sum
theorem spl_len : ∀ (s seg : List UInt8) (pd : Option (Option UInt8)) (l : List (List UInt8)), splM seg pd s = some l → sumL l + l.length ≤ seg.length + s.length + 1 ∧ (∀ x ∈ l, mayS x = true) ∧ l ≠ []
  | [], seg, none, l, h => by
    rw [splM] at h
    split at h
    · rename_i hm
      cases h
      exact ⟨by simp [sumL], fun x hx => by rw [List.mem_singleton] at hx; rw [hx]; exact hm, by simp⟩
    · cases h
  | [], seg, some _, l, h => by rw [splM] at h; cases h
  | c :: r, seg, none, l, h => by
    rw [splM] at h
    split at h
    · split at h
      · rename_i hm
        cases hs : splM [] none r with
        | none => rw [hs] at h; cases h
        | some k =>
          rw [hs] at h
          cases h
          obtain ⟨i1, i2, _⟩ := spl_len r [] none k hs
          refine ⟨?_, fun x hx => ?_, by simp⟩
          · simp only [sumL, List.map_cons, List.sum_cons, List.length_cons, List.length_nil] at i1 ⊢; omega
          · rcases List.mem_cons.1 hx with rfl | hx
            · exact hm
            · exact i2 x hx
      · cases h
    · split at h
      · obtain ⟨i1, i2, i3⟩ := spl_len r seg (some none) l h
        exact ⟨by rw [List.length_cons]; omega, i2, i3⟩
      · obtain ⟨i1, i2, i3⟩ := spl_len r (seg ++ [c]) none l h
        exact ⟨by rw [List.length_append, List.length_singleton] at i1; rw [List.length_cons]; omega, i2, i3⟩
  | x :: r, seg, some none, l, h => by
    rw [splM] at h
    obtain ⟨i1, i2, i3⟩ := spl_len r seg (some (some x)) l h
    exact ⟨by rw [List.length_cons]; omega, i2, i3⟩
  | y :: r, seg, some (some x), l, h => by
    rw [splM] at h
    obtain ⟨i1, i2, i3⟩ := spl_len r (seg ++ [byteH x y]) none l h
    exact ⟨by rw [List.length_append, List.length_singleton] at i1; rw [List.length_cons]; omega, i2, i3⟩
theorem encS_len : ∀ s : List UInt8, (encS s).length ≤ 3 * s.length
  | [] => by simp [encS]
  | c :: s => by
    have := encS_len s
    rw [encS_cons, List.length_append, List.length_cons]
    have : (encC c).length ≤ 3 := by unfold encC; split <;> simp
    omega
theorem joinS_len : ∀ l : List (List UInt8), (joinS l).length ≤ l.length + 3 * sumL l
  | [] => by simp [joinS]
  | s :: l => by
    have h1 := joinS_len l
    have h2 := encS_len s
    rw [joinS_cons, List.length_cons, List.length_append]
    simp only [sumL, List.map_cons, List.sum_cons, List.length_cons] at h1 ⊢; omega
theorem split_some {s : List UInt8} {l : List (List UInt8)} (h : splitF s = some l) : pathOk s ∧ splG [] (s.drop 1) = some l ∧ sumL l + l.length ≤ s.length ∧ (∀ x ∈ l, mayS x = true) ∧ l ≠ [] := by
  unfold splitF at h
  split at h
  · rename_i hp
    obtain ⟨h1, h2, h3⟩ := spl_len _ _ _ _ h
    have h0 : 1 ≤ s.length := by
      rcases Nat.eq_zero_or_pos s.length with e | e
      · rw [List.length_eq_zero_iff.1 e] at hp; exact absurd hp.1 (by simp)
      · exact e
    rw [List.length_drop, List.length_nil] at h1
    exact ⟨hp, h, by omega, h2, h3⟩
  · cases h
/-- What was split is joined, if it is not long. -/
theorem split_join {s : List UInt8} {l : List (List UInt8)} (h : splitF s = some l) (hs : s.length ≤ 170) : joinF l = some (joinS l) := by
  obtain ⟨_, _, h1, h2, h3⟩ := split_some h
  unfold joinF
  rw [if_pos ⟨h3, h2, by have := joinS_len l; omega⟩]
/-- Two paths one behind the other. -/
theorem spl_app (t : List UInt8) : ∀ (n : Nat) (r seg : List UInt8) (a : List (List UInt8)), r.length ≤ n → okT r = true → splG seg r = some a → splG seg (r ++ 47 :: t) = (splG [] t).map (a ++ ·) ∧ a.length = 1 + r.count 47
  | n, r, seg, a, hn, ho, h => by
    rcases okT_cases ho with rfl | ⟨c, q, rfl, h1, h2, h3⟩ | ⟨x, y, q, rfl, h1, h2, h3⟩
    · rw [spl_end] at h
      split at h
      · rename_i hm
        cases h
        rw [List.nil_append, spl_sep, if_pos hm]
        exact ⟨rfl, by simp⟩
      · cases h
    · obtain ⟨m, rfl⟩ : ∃ m, n = m + 1 := ⟨n - 1, by simp at hn; omega⟩
      by_cases h47 : c = 47
      · subst h47
        rw [spl_sep] at h
        split at h
        · rename_i hm
          cases hs : splG [] q with
          | none => rw [hs] at h; cases h
          | some k =>
            rw [hs] at h
            cases h
            obtain ⟨i1, i2⟩ := spl_app t m q [] k (by simp at hn; omega) h3 hs
            rw [List.cons_append, spl_sep, if_pos hm, i1]
            refine ⟨?_, by rw [List.length_cons, i2, List.count_cons_self]; omega⟩
            rw [Option.map_map]; rfl
        · cases h
      · rw [spl_on h47 h1] at h
        obtain ⟨i1, i2⟩ := spl_app t m q _ a (by simp at hn; omega) h3 h
        rw [List.cons_append, spl_on h47 h1, i1]
        exact ⟨rfl, by rw [List.count_cons_of_ne h47]; exact i2⟩
    · obtain ⟨m, rfl⟩ : ∃ m, n = m + 1 := ⟨n - 1, by simp at hn; omega⟩
      rw [spl_pct] at h
      obtain ⟨i1, i2⟩ := spl_app t m q _ a (by simp at hn; omega) h3 h
      rw [List.cons_append, List.cons_append, List.cons_append, spl_pct, i1]
      exact ⟨rfl, by rw [List.count_cons_of_ne (by decide), List.count_cons_of_ne (hex_not47 _ h1), List.count_cons_of_ne (hex_not47 _ h2)]; exact i2⟩
theorem split_two {s t : List UInt8} {a b : List (List UInt8)} (ha : splitF s = some a) (hb : splitF t = some b) (hl : s.length + t.length ≤ 512) : splitF (s ++ t) = some (a ++ b) := by
  obtain ⟨ps, hs, _⟩ := split_some ha
  obtain ⟨pt, ht, _⟩ := split_some hb
  cases s with
  | nil => exact absurd ps.1 (by simp)
  | cons c r =>
    cases t with
    | nil => exact absurd pt.1 (by simp)
    | cons d q =>
      have hc : c = 47 := by simpa using ps.1
      have hd : d = 47 := by simpa using pt.1
      subst hc hd
      have hp : pathOk ((47 :: r) ++ 47 :: q) := by
        refine ⟨rfl, by rw [List.length_append]; exact hl, ?_, ?_⟩
        · rw [okT_append _ _ _ (Nat.le_refl _) ps.2.2.1]; exact pt.2.2.1
        · rw [List.mem_append]
          rintro (e | e)
          · exact ps.2.2.2 e
          · exact pt.2.2.2 e
      unfold splitF
      rw [if_pos hp]
      show splG [] (r ++ 47 :: q) = _
      have ho : okT r = true := by have := ps.2.2.1; rw [okT_one (by decide)] at this; simp at this; exact this.2
      rw [(spl_app q _ r [] a (Nat.le_refl _) ho hs).1]
      have hq : splG [] q = some b := ht
      rw [hq]; rfl
theorem split_count {s : List UInt8} {a : List (List UInt8)} (ha : splitF s = some a) : a.length = s.count 47 := by
  obtain ⟨ps, hs, _⟩ := split_some ha
  cases s with
  | nil => exact absurd ps.1 (by simp)
  | cons c r =>
    have hc : c = 47 := by simpa using ps.1
    subst hc
    have ho : okT r = true := by have := ps.2.2.1; rw [okT_one (by decide)] at this; simp at this; exact this.2
    rw [(spl_app [] _ r [] a (Nat.le_refl _) ho hs).2, List.count_cons_self, Nat.add_comm]
end Go.Proofs.YtmklgjbfdaleiaaDoor
