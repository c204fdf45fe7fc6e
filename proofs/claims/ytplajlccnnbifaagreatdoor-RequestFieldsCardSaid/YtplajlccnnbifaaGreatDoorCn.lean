/- The document's Line, Size and Reads: facts of lists for their walks. -/
import Derived.Test.YtplajlccnnbifaaGreatDoorJe
namespace Go.Proofs.YtplajlccnnbifaaGreatDoor
open Go.RowKit

/-! A line's bytes so far. -/
def curL (s : List UInt8) (a i : Nat) : List UInt8 := (s.drop a).take (i - a)
theorem cur_start (s : List UInt8) (a : Nat) : curL s a a = [] := by unfold curL; rw [Nat.sub_self, List.take_zero]
theorem cur_next {s : List UInt8} {a i : Nat} {c : UInt8} (hc : s[i]? = some c) (h : a ≤ i) : curL s a (i + 1) = curL s a i ++ [c] := by
  unfold curL
  have hc2 : (s.drop a)[i - a]? = some c := by rw [List.getElem?_drop, show a + (i - a) = i by omega]; exact hc
  obtain ⟨hi, rfl⟩ := List.getElem?_eq_some_iff.1 hc2
  rw [show i + 1 - a = (i - a) + 1 by omega, List.take_succ_eq_append_getElem hi]
theorem cur_len {s : List UInt8} {a i : Nat} (h : i ≤ s.length) : (curL s a i).length = i - a := by
  unfold curL; rw [List.length_take, List.length_drop]; omega
theorem cur_end {s : List UInt8} {a i : Nat} {c : UInt8} (hc : s[i]? = some c) (h : a ≤ i) : endCR (curL s a (i + 1)) = (c == 13) ∧ (curL s a (i + 1)).dropLast = curL s a i := by
  rw [cur_next hc h, endCR_snoc, List.dropLast_concat]; exact ⟨rfl, rfl⟩
/-- A line's outcome, as the document's function tells it. -/
def lnV (o : List UInt8 × Nat × Nat × Bool) : Value := .tuple #[S o.1, .int .i64 (o.2.1 : Int), .int .i64 (o.2.2.1 : Int), .bool o.2.2.2]
theorem ln_last (most last : Int) : ∀ (r : List UInt8) (i : Nat) (cur : List UInt8), 0 ≤ last → (lnGo most last i cur r).2.2.2 = true → ((lnGo most last i cur r).2.1 : Int) ≤ last
  | [], i, cur, _, h => by simp [lnGo] at h
  | c :: r, i, cur, h0, h => by
    rw [lnGo] at h ⊢
    split at h
    · cases h
    · rename_i h1
      rw [if_neg h1]
      split at h
      · cases h
      · rename_i h2
        rw [if_neg h2]
        split at h
        · rename_i h3
          rw [if_pos h3]
          show ((i + 1 : Nat) : Int) ≤ last
          omega
        · rename_i h3
          rw [if_neg h3]
          split at h
          · cases h
          · rename_i h4
            rw [if_neg h4]
            exact ln_last most last r (i + 1) (cur ++ [c]) h0 h
/-- A whole line's text stands in what was asked. -/
theorem ln_le (most last : Int) : ∀ (r : List UInt8) (i : Nat) (cur : List UInt8), (lnGo most last i cur r).1.length ≤ cur.length + r.length
  | [], i, cur => by simp [lnGo]
  | c :: r, i, cur => by
    rw [lnGo]
    split
    · simp
    · split
      · simp
      · split
        · rw [List.length_dropLast]; omega
        · split
          · simp
          · have := ln_le most last r (i + 1) (cur ++ [c])
            rw [List.length_append, List.length_singleton] at this
            rw [List.length_cons]; omega

/-! A head's size. -/
def sizeV (o : Option Nat) : Value := match o with
  | none => .int .i64 (-1)
  | some x => .int .i64 (x : Int)
theorem hexN_le {c : UInt8} {d : Nat} (h : hexN c = some d) : d ≤ 15 := by
  unfold hexN at h
  split at h
  · cases h; omega
  · split at h
    · cases h; omega
    · split at h
      · cases h; omega
      · cases h
theorem size_end {n x : Nat} (h : n ≠ 0) : sizeGo n x [] = some x := by rw [sizeGo, if_neg h]
theorem size_none (x : Nat) {r : List UInt8} (h : r = [] ∨ ∃ q, r = 59 :: q) : sizeGo 0 x r = none := by
  rcases h with rfl | ⟨q, rfl⟩
  · rw [sizeGo, if_pos rfl]
  · rw [sizeGo, if_pos rfl, if_pos rfl]
theorem size_semi {n x : Nat} {r : List UInt8} (h : n ≠ 0) : sizeGo n x (59 :: r) = if r.any badB then none else some x := by rw [sizeGo, if_pos rfl, if_neg h]
theorem size_no {n x : Nat} {c : UInt8} {r : List UInt8} (h : c ≠ 59) (hh : hexN c = none ∨ 8 ≤ n) : sizeGo n x (c :: r) = none := by
  rw [sizeGo, if_neg h]
  cases hc : hexN c with
  | none => rfl
  | some d =>
    rcases hh with hh | hh
    · rw [hc] at hh; cases hh
    · simp only; rw [if_pos hh]
theorem size_one {n x d : Nat} {c : UInt8} {r : List UInt8} (h : c ≠ 59) (hh : hexN c = some d) (h8 : n < 8) : sizeGo n x (c :: r) = sizeGo (n + 1) (16 * x + d) r := by
  rw [sizeGo, if_neg h, hh]
  simp only
  rw [if_neg (by omega)]
theorem size_lt : ∀ (r : List UInt8) (n x y : Nat), n ≤ 8 → x < 16 ^ n → sizeGo n x r = some y → y < 16 ^ 8
  | [], n, x, y, hn, hx, h => by
    rw [sizeGo] at h
    split at h
    · cases h
    · cases h
      exact Nat.lt_of_lt_of_le hx (Nat.pow_le_pow_right (by omega) hn)
  | c :: r, n, x, y, hn, hx, h => by
    by_cases hc : c = 59
    · subst hc
      rw [sizeGo, if_pos rfl] at h
      split at h
      · cases h
      · split at h
        · cases h
        · cases h
          exact Nat.lt_of_lt_of_le hx (Nat.pow_le_pow_right (by omega) hn)
    · cases hh : hexN c with
      | none => rw [size_no hc (.inl hh)] at h; cases h
      | some d =>
        by_cases h8 : 8 ≤ n
        · rw [size_no hc (.inr h8)] at h; cases h
        · rw [size_one hc hh (by omega)] at h
          have := hexN_le hh
          exact size_lt r (n + 1) (16 * x + d) y (by omega) (by rw [Nat.pow_succ]; omega) h
theorem sizeF_lt {s : List UInt8} {y : Nat} (h : sizeF s = some y) : y < 4294967296 := size_lt s 0 0 y (by omega) (by decide) h
end Go.Proofs.YtplajlccnnbifaaGreatDoor
