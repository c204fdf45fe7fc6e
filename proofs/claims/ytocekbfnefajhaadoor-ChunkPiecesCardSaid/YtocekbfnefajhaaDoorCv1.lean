/- The landed package of chunks as functions over lists: a head's size; how a reader's cells stand for the automaton. -/
import Derived.Test.YtocekbfnefajhaaDoorCm1
namespace Go.Proofs.YtocekbfnefajhaaDoor
open Go.RowKit

/-- What digits of 16 count, behind x. -/
def digs : Nat → List UInt8 → Option Nat
  | x, [] => some x
  | x, c :: r => match hexN c with
    | none => none
    | some d => digs (16 * x + d) r
theorem hexN_59 : hexN 59 = none := by decide
theorem digs_none {c : UInt8} (hc : hexN c = none) : ∀ (a : List UInt8) (x : Nat) (r : List UInt8), digs x (a ++ c :: r) = none
  | [], x, r => by show (match hexN c with | none => none | some d => digs (16 * x + d) r) = none; rw [hc]
  | e :: a, x, r => by
    show (match hexN e with | none => none | some d => digs (16 * x + d) (a ++ c :: r)) = none
    cases hexN e with
    | none => rfl
    | some d => exact digs_none hc a _ r
theorem digs_snoc {c : UInt8} {d : Nat} (hc : hexN c = some d) : ∀ (a : List UInt8) (x v : Nat), digs x a = some v → digs x (a ++ [c]) = some (16 * v + d)
  | [], x, v, h => by
    cases h
    show (match hexN c with | none => none | some d => digs (16 * x + d) []) = some (16 * x + d)
    rw [hc]; rfl
  | e :: a, x, v, h => by
    have h' : (match hexN e with | none => none | some d => digs (16 * x + d) a) = some v := h
    show (match hexN e with | none => none | some d => digs (16 * x + d) (a ++ [c])) = some (16 * v + d)
    cases he : hexN e with
    | none => rw [he] at h'; cases h'
    | some y => rw [he] at h'; exact digs_snoc hc a _ v h'
theorem hexN_lt {c : UInt8} {d : Nat} (h : hexN c = some d) : d < 16 := by
  unfold hexN at h
  split at h
  · cases h; omega
  · split at h
    · cases h; omega
    · split at h
      · cases h; omega
      · cases h
theorem digs_lt : ∀ (a : List UInt8) (x v : Nat), digs x a = some v → v < (x + 1) * 16 ^ a.length
  | [], x, v, h => by cases h; simp
  | e :: a, x, v, h => by
    have h' : (match hexN e with | none => none | some d => digs (16 * x + d) a) = some v := h
    cases he : hexN e with
    | none => rw [he] at h'; cases h'
    | some y =>
      rw [he] at h'
      have h1 := digs_lt a _ v h'
      have h2 := hexN_lt he
      have h3 : (16 * x + y + 1) * 16 ^ a.length ≤ ((x + 1) * 16) * 16 ^ a.length := Nat.mul_le_mul_right _ (by omega)
      rw [List.length_cons, Nat.pow_succ, Nat.mul_comm (16 ^ a.length) 16, ← Nat.mul_assoc]
      omega
theorem digs_small {a : List UInt8} {v : Nat} (h : digs 0 a = some v) (hl : a.length ≤ 8) : v < 4294967296 := by
  have h1 := digs_lt a 0 v h
  have h2 : (16 : Nat) ^ a.length ≤ 16 ^ 8 := Nat.pow_le_pow_right (by omega) hl
  omega
/-- One digit more is read. -/
theorem digs_next {a : List UInt8} {i v d : Nat} {c : UInt8} (hc : a[i]? = some c) (hd : hexN c = some d) (h : digs 0 (a.take i) = some v) : digs 0 (a.take (i + 1)) = some (16 * v + d) := by
  rw [List.take_add_one, hc]
  exact digs_snoc hd _ _ _ h
theorem digs_stop {a : List UInt8} {i : Nat} {c : UInt8} (hc : a[i]? = some c) (hd : hexN c = none) : digs 0 a = none := by
  obtain ⟨hi, e⟩ := List.getElem?_eq_some_iff.1 hc
  have h := digs_none hd (a.take i) 0 (a.drop (i + 1))
  rw [← e, ← List.drop_eq_getElem_cons hi, List.take_append_drop] at h
  exact h
/-- A size, of what stands ahead of the semicolon, and of what stands behind. -/
def sizeL (a b : List UInt8) : Option Nat := if a.length = 0 ∨ 8 < a.length ∨ b.any badB = true then none else digs 0 a
theorem size_go (b : List UInt8) : ∀ (a : List UInt8) (n x : Nat), 59 ∉ a → n ≤ 8 →
    sizeGo n x (a ++ 59 :: b) = if n + a.length = 0 ∨ 8 < n + a.length ∨ b.any badB = true then none else digs x a
  | [], n, x, _, hn => by
    rw [List.nil_append, sizeGo, if_pos rfl]
    simp only [List.length_nil, Nat.add_zero]
    by_cases h0 : n = 0
    · rw [if_pos h0, if_pos (.inl h0)]
    · rw [if_neg h0]
      by_cases hb : b.any badB = true
      · rw [if_pos hb, if_pos (.inr (.inr hb))]
      · rw [if_neg hb, if_neg (fun h => h.elim h0 (fun h => h.elim (fun h => by omega) hb))]; rfl
  | c :: a, n, x, hc, hn => by
    have h1 : c ≠ 59 := fun e => hc (by rw [e]; exact List.mem_cons_self)
    have h2 : 59 ∉ a := fun h => hc (List.mem_cons_of_mem _ h)
    rw [List.cons_append, sizeGo, if_neg h1]
    show _ = if _ then none else (match hexN c with | none => none | some d => digs (16 * x + d) a)
    cases hexN c with
    | none => dsimp only; split <;> rfl
    | some d =>
      dsimp only
      by_cases h8 : 8 ≤ n
      · rw [if_pos h8, if_pos (.inr (.inl (by rw [List.length_cons]; omega)))]
      · rw [if_neg h8, size_go b a (n + 1) _ h2 (by omega), List.length_cons]
        have e : n + 1 + a.length = n + (a.length + 1) := by omega
        rw [e]
theorem size_go_end : ∀ (a : List UInt8) (n x : Nat), 59 ∉ a → n ≤ 8 → sizeGo n x a = if n + a.length = 0 ∨ 8 < n + a.length then none else digs x a
  | [], n, x, _, hn => by
    rw [sizeGo]
    simp only [List.length_nil, Nat.add_zero]
    by_cases h0 : n = 0
    · rw [if_pos h0, if_pos (.inl h0)]
    · rw [if_neg h0, if_neg (fun h => h.elim h0 (fun h => by omega))]; rfl
  | c :: a, n, x, hc, hn => by
    have h1 : c ≠ 59 := fun e => hc (by rw [e]; exact List.mem_cons_self)
    have h2 : 59 ∉ a := fun h => hc (List.mem_cons_of_mem _ h)
    rw [sizeGo, if_neg h1]
    show _ = if _ then none else (match hexN c with | none => none | some d => digs (16 * x + d) a)
    cases hexN c with
    | none => dsimp only; split <;> rfl
    | some d =>
      dsimp only
      by_cases h8 : 8 ≤ n
      · rw [if_pos h8, if_pos (.inr (by rw [List.length_cons]; omega))]
      · rw [if_neg h8, size_go_end a (n + 1) _ h2 (by omega), List.length_cons]
        have e : n + 1 + a.length = n + (a.length + 1) := by omega
        rw [e]
theorem size_hit {a : List UInt8} (b : List UInt8) (h : 59 ∉ a) : sizeF (a ++ 59 :: b) = sizeL a b := by
  unfold sizeF sizeL
  rw [size_go b a 0 0 h (by omega), Nat.zero_add]
theorem size_miss {a : List UInt8} (h : 59 ∉ a) : sizeF a = sizeL a [] := by
  unfold sizeF sizeL
  rw [size_go_end a 0 0 h (by omega), Nat.zero_add]
  simp
theorem sizeF_small {l : List UInt8} {v : Nat} (h : sizeF l = some v) : v < 4294967296 := by
  have aux : ∀ a b, sizeL a b = some v → v < 4294967296 := fun a b h => by
    unfold sizeL at h
    split at h
    · cases h
    · rename_i hn
      exact digs_small h (by omega)
  rcases cut_cases 59 l with ⟨a, b, rfl, ha⟩ | ha
  · rw [size_hit b ha] at h; exact aux _ _ h
  · rw [size_miss ha] at h; exact aux _ _ h

/-- What faultAt tells: of a reader that stands at nx with this line, behind since bytes of trailers, at the byte c. -/
def faultN (nx since : Nat) (line : List UInt8) (c : UInt8) : Nat :=
  if 2048 < since then 431
  else if (c == 10) ≠ endCR line then 400
  else if nx = 2 ∧ c ≠ 13 ∧ c ≠ 10 then 400
  else if nx = 0 ∧ c ≠ 10 ∧ line.length = 2048 then 431 else 0

/-- How the cells stand for the automaton. -/
def Shp (ph : Ph) (nx : Nat) (line : List UInt8) (lacks since flds bad : Nat) : Prop := match ph with
  | .head cur => nx = 0 ∧ line = cur ∧ since = 0 ∧ flds = 0 ∧ bad = 0 ∧ cur.length ≤ 2048
  | .body n => nx = 1 ∧ line = [] ∧ lacks = n ∧ since = 0 ∧ flds = 0 ∧ bad = 0 ∧ 1 ≤ n ∧ n ≤ 4096
  | .cr => nx = 2 ∧ line = [] ∧ since = 0 ∧ flds = 0 ∧ bad = 0
  | .lf => nx = 2 ∧ line = [13] ∧ since = 0 ∧ flds = 0 ∧ bad = 0
  | .tail cur k f => nx = 3 ∧ line = cur ∧ since = k ∧ flds = f ∧ bad = 0 ∧ k ≤ 2048 ∧ cur.length ≤ k ∧ f ≤ 32
  | .done => nx = 4 ∧ bad = 0
  | .bad c => nx = 4 ∧ bad = c
end Go.Proofs.YtocekbfnefajhaaDoor
