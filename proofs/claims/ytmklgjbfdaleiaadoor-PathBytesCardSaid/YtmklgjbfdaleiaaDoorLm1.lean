/- The document's answers for a request's line, a target and a reply's line: as list functions, and what the statements ask of them. -/
import Derived.Test.YtmklgjbfdaleiaaDoorQm
import Derived.Lib.ItoaNum
namespace Go.Proofs.YtmklgjbfdaleiaaDoor
open Go.RowKit

/-! A request's line. -/
def visB (c : UInt8) : Bool := decide (33 ≤ c.toNat) && decide (c.toNat ≤ 126)
def notB (k c : UInt8) : Bool := c != k
def http0 : List UInt8 := [32, 72, 84, 84, 80, 47, 49, 46, 48]
def http1 : List UInt8 := [32, 72, 84, 84, 80, 47, 49, 46, 49]
def lineF (s : List UInt8) : List UInt8 × List UInt8 × Nat × Bool :=
  let m := s.takeWhile (notB 32)
  let r := s.drop (m.length + 1)
  let t := r.takeWhile visB
  let q := r.drop t.length
  if tokF m = true ∧ t ≠ [] then (if q = http0 then (m, t, 10, true) else if q = http1 then (m, t, 11, true) else ([], [], 0, false)) else ([], [], 0, false)
/-- A line's answer. -/
def lineV (p : List UInt8 × List UInt8 × Nat × Bool) : Value := .tuple #[S p.1, S p.2.1, .int .i64 (p.2.2.1 : Int), .bool p.2.2.2]
theorem take_while_stop {p : UInt8 → Bool} {a : List UInt8} {c : UInt8} {r : List UInt8} (ha : a.all p = true) (hc : p c = false) : (a ++ c :: r).takeWhile p = a := by
  rw [List.takeWhile_append_of_pos (by simpa using ha), List.takeWhile_cons, hc]
  simp
theorem lineF_of {m t : List UInt8} {q : List UInt8} (hm : tokF m = true) (hv : t.all visB = true) (ht : t ≠ []) (hq : q = http0 ∨ q = http1) :
    lineF (m ++ 32 :: (t ++ q)) = (m, t, (if q = http0 then 10 else 11), true) := by
  have hmb : m.all (notB 32) = true := by
    unfold tokF at hm
    rw [Bool.and_eq_true] at hm
    rw [List.all_eq_true] at hm ⊢
    intro c hc
    have := hm.1 c hc
    unfold notB
    rw [bne_iff_ne]
    rintro rfl
    exact absurd this (by decide)
  have hqs : ∃ r, q = 32 :: r := by rcases hq with rfl | rfl <;> exact ⟨_, rfl⟩
  obtain ⟨qr, hqr⟩ := hqs
  have h1 : (m ++ 32 :: (t ++ q)).takeWhile (notB 32) = m := take_while_stop hmb rfl
  have h2 : (m ++ 32 :: (t ++ q)).drop (m.length + 1) = t ++ q := by
    rw [List.drop_append, List.drop_of_length_le (by omega), show m.length + 1 - m.length = 1 by omega]; rfl
  have h3 : (t ++ q).takeWhile visB = t := by rw [hqr]; exact take_while_stop hv rfl
  unfold lineF
  simp only [h1, h2, h3, List.drop_left]
  rw [if_pos ⟨hm, ht⟩]
  rcases hq with rfl | rfl
  · rw [if_pos rfl, if_pos rfl]
  · rw [if_neg (by decide), if_pos rfl, if_neg (by decide)]
/-- What is read of a line is put together as it. -/
theorem lineF_true {s m t : List UInt8} {n : Nat} (h : lineF s = (m, t, n, true)) : tokF m = true ∧ t.all visB = true ∧ t ≠ [] ∧ ((n = 10 ∧ s = m ++ 32 :: (t ++ http0)) ∨ (n = 11 ∧ s = m ++ 32 :: (t ++ http1))) := by
  unfold lineF at h
  simp only at h
  obtain ⟨M, hM⟩ : ∃ M, M = s.takeWhile (notB 32) := ⟨_, rfl⟩
  obtain ⟨R, hR⟩ : ∃ R, R = s.drop (M.length + 1) := ⟨_, rfl⟩
  obtain ⟨T, hT⟩ : ∃ T, T = R.takeWhile visB := ⟨_, rfl⟩
  rw [← hM, ← hR, ← hT] at h
  split at h
  · rename_i hc
    have hRT : R = T ++ R.drop T.length := by
      have e := List.takeWhile_append_dropWhile (p := visB) (l := R)
      have : R.drop T.length = R.dropWhile visB := by
        rw [hT]; conv => lhs; rw [← e]
        rw [List.drop_left' (by rw [e])]
      rw [this, hT]; exact e.symm
    have hRne : R ≠ [] := fun e => by rw [e] at hT; exact hc.2 hT
    have hs : s = M ++ 32 :: R := by
      have e := List.takeWhile_append_dropWhile (p := notB 32) (l := s)
      cases hd : s.dropWhile (notB 32) with
      | nil =>
        rw [hd, List.append_nil] at e
        rw [hR, hM, e, List.drop_of_length_le (by omega)] at hRne
        exact absurd rfl hRne
      | cons c r =>
        have hcb : notB 32 c = false := by
          have := List.head?_dropWhile_not (notB 32) s
          rw [hd] at this
          simpa using this
        have hc32 : c = 32 := by unfold notB at hcb; simpa using hcb
        rw [hd, ← hM, hc32] at e
        rw [hR, ← e, List.drop_append, List.drop_of_length_le (by omega), show M.length + 1 - M.length = 1 by omega]; rfl
    have hTv : T.all visB = true := by rw [hT, List.all_eq_true]; exact fun c hc => taken_all c hc
    split at h
    · rename_i hq
      cases h
      exact ⟨hc.1, hTv, hc.2, .inl ⟨rfl, by rw [hs, ← hq, ← hRT]⟩⟩
    · split at h
      · rename_i hq
        cases h
        exact ⟨hc.1, hTv, hc.2, .inr ⟨rfl, by rw [hs, ← hq, ← hRT]⟩⟩
      · cases h
  · cases h
theorem lineF_false {s m t : List UInt8} {n : Nat} (h : lineF s = (m, t, n, false)) : m = [] ∧ t = [] ∧ n = 0 := by
  unfold lineF at h
  simp only at h
  split at h
  · split at h
    · cases h
    · split at h
      · cases h
      · cases h; exact ⟨rfl, rfl, rfl⟩
  · cases h; exact ⟨rfl, rfl, rfl⟩
/-- A line with a version behind: what is read. -/
theorem lineF_back {method target q m t : List UInt8} {n v : Nat} (hq : (v = 10 ∧ q = http0) ∨ (v = 11 ∧ q = http1)) (h : lineF ((method ++ 32 :: target) ++ q) = (m, t, n, true)) :
    m ++ 32 :: t = method ++ 32 :: target ∧ n = v ∧ tokF m = true ∧ t ≠ [] := by
  obtain ⟨h1, _, h3, h4⟩ := lineF_true h
  rcases h4 with ⟨rfl, h4⟩ | ⟨rfl, h4⟩
  · rw [show m ++ 32 :: (t ++ http0) = (m ++ 32 :: t) ++ http0 by simp] at h4
    rcases hq with ⟨rfl, rfl⟩ | ⟨rfl, rfl⟩
    · exact ⟨(List.append_cancel_right h4).symm, rfl, h1, h3⟩
    · have := (List.append_inj' h4 rfl).2
      exact absurd this (by decide)
  · rw [show m ++ 32 :: (t ++ http1) = (m ++ 32 :: t) ++ http1 by simp] at h4
    rcases hq with ⟨rfl, rfl⟩ | ⟨rfl, rfl⟩
    · have := (List.append_inj' h4 rfl).2
      exact absurd this (by decide)
    · exact ⟨(List.append_cancel_right h4).symm, rfl, h1, h3⟩
end Go.Proofs.YtmklgjbfdaleiaaDoor
