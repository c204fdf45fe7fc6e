/- Bytes as letters, and back, as plain functions of lists. -/
namespace Go.Proofs.Ytclnefackjonpaa

def alpha : List UInt8 := [65, 66, 67, 68, 69, 70, 71, 72, 73, 74, 75, 76, 77, 78, 79, 80, 81, 82, 83, 84, 85, 86, 87, 88, 89, 90, 97, 98, 99, 100, 101, 102, 103, 104, 105, 106, 107, 108, 109, 110, 111, 112, 113, 114, 115, 116, 117, 118, 119, 120, 121, 122, 48, 49, 50, 51, 52, 53, 54, 55, 56, 57, 43, 47]
/-- The letter of a number. -/
def ltr (n : Nat) : UInt8 := alpha.getD n 0
def idx (c : UInt8) : List UInt8 → Nat → Option Nat
  | [], _ => none
  | x :: r, k => if x = c then some k else idx c r (k + 1)
/-- The number of a letter. -/
def numO (c : UInt8) : Option Nat := idx c alpha 0

theorem num_ltr (n : Nat) (h : n < 64) : numO (ltr n) = some n :=
  (by decide +kernel : ∀ k : Fin 64, numO (ltr k.val) = some k.val) ⟨n, h⟩
theorem num_all : ∀ k : Fin 256, ∀ x, numO (UInt8.ofNat k.val) = some x → x < 64 ∧ ltr x = UInt8.ofNat k.val := by
  have h : ∀ k : Fin 256, (match numO (UInt8.ofNat k.val) with | some x => decide (x < 64 ∧ ltr x = UInt8.ofNat k.val) | none => true) = true := by decide +kernel
  intro k x hx
  have := h k
  rw [hx] at this
  simpa using this
theorem num_some {c : UInt8} {x : Nat} (h : numO c = some x) : x < 64 ∧ ltr x = c := by
  have e : UInt8.ofNat c.toNat = c := by simp
  have := num_all ⟨c.toNat, c.toNat_lt⟩ x (by simpa [e] using h)
  simpa [e] using this
theorem num_filler : numO 61 = none := by decide
theorem ltr_ne (n : Nat) (h : n < 64) : ltr n ≠ 61 := by
  intro e
  have := num_ltr n h
  rw [e, num_filler] at this
  cases this

/-- The number of a part's bits. -/
def n3 (p : List UInt8) : Nat := (p.getD 0 0).toNat * 65536 + (p.getD 1 0).toNat * 256 + (p.getD 2 0).toNat
/-- Letter i of a part. -/
def qd (p : List UInt8) (i : Nat) : UInt8 := if p.length < i then 61 else ltr (n3 p / 2 ^ (18 - 6 * i) % 64)
def qds (p : List UInt8) : Nat → List UInt8
  | 0 => []
  | k + 1 => qds p k ++ [qd p k]
def quad (p : List UInt8) : List UInt8 := qds p 4
theorem quad_eq (p : List UInt8) : quad p = [qd p 0, qd p 1, qd p 2, qd p 3] := rfl

/-- The letters of a text. -/
def enc : List UInt8 → List UInt8
  | [] => []
  | [a] => quad [a]
  | [a, b] => quad [a, b]
  | a :: b :: c :: r => quad [a, b, c] ++ enc r
theorem enc3 (a b c : UInt8) (r : List UInt8) : enc (a :: b :: c :: r) = quad [a, b, c] ++ enc r := by
  rw [enc]
/-- The letters of the first parts. -/
def encN (s : List UInt8) : Nat → List UInt8
  | 0 => []
  | k + 1 => encN s k ++ quad ((s.drop (3 * k)).take 3)
theorem encN_cons (a b c : UInt8) (r : List UInt8) : ∀ k, encN (a :: b :: c :: r) (k + 1) = quad [a, b, c] ++ encN r k
  | 0 => by simp [encN]
  | k + 1 => by
    rw [encN, encN_cons a b c r k, show 3 * (k + 1) = 3 * k + 3 by omega, encN, List.append_assoc]
    rfl
theorem encN_all : ∀ s : List UInt8, encN s ((s.length + 2) / 3) = enc s
  | [] => rfl
  | [a] => by simp [encN, enc]
  | [a, b] => by simp [encN, enc]
  | a :: b :: c :: r => by
    rw [show ((a :: b :: c :: r).length + 2) / 3 = (r.length + 2) / 3 + 1 by simp only [List.length_cons]; omega, encN_cons, encN_all r, enc3]
theorem qds_length (p : List UInt8) : ∀ k, (qds p k).length = k
  | 0 => rfl
  | k + 1 => by rw [qds, List.length_append, qds_length p k]; rfl
theorem encN_length (s : List UInt8) : ∀ k, (encN s k).length = 4 * k
  | 0 => rfl
  | k + 1 => by rw [encN, List.length_append, encN_length s k, quad, qds_length]; omega
theorem enc_length (s : List UInt8) : (enc s).length = (s.length + 2) / 3 * 4 := by
  rw [← encN_all, encN_length]; omega
theorem enc_append : ∀ s t : List UInt8, s.length % 3 = 0 → enc (s ++ t) = enc s ++ enc t
  | [], t, _ => rfl
  | [a], t, h => by simp at h
  | [a, b], t, h => by simp at h
  | a :: b :: c :: r, t, h => by
    rw [enc3, List.cons_append, List.cons_append, List.cons_append, enc3, enc_append r t (by simp only [List.length_cons] at h; omega), List.append_assoc]

/-! Back. -/
/-- What was read of letters: bits that make no whole byte, how many these are, the bytes. -/
abbrev St := Nat × Nat × List UInt8
def step1 (b n : Nat) (out : List UInt8) (x : Nat) : St :=
  if 8 ≤ n + 6 then ((b * 64 + x) % 2 ^ (n + 6 - 8), n + 6 - 8, out ++ [UInt8.ofNat ((b * 64 + x) / 2 ^ (n + 6 - 8))]) else (b * 64 + x, n + 6, out)
def step (st : Option St) (c : UInt8) : Option St :=
  match st, numO c with
  | some (b, n, out), some x => some (step1 b n out x)
  | _, _ => none
def runs (l : List UInt8) : Option St := l.foldl step (some (0, 0, []))
theorem step_none (c : UInt8) : step none c = none := rfl
theorem fold_none : ∀ l : List UInt8, l.foldl step none = none
  | [] => rfl
  | c :: r => by rw [List.foldl_cons, step_none, fold_none r]
theorem step_bad (st : Option St) (c : UInt8) (h : numO c = none) : step st c = none := by
  unfold step; rw [h]; cases st <;> rfl
theorem step_good (b n : Nat) (out : List UInt8) (c : UInt8) (x : Nat) (h : numO c = some x) : step (some (b, n, out)) c = some (step1 b n out x) := by
  unfold step; rw [h]
theorem runs_snoc (l : List UInt8) (c : UInt8) : runs (l ++ [c]) = step (runs l) c := by simp [runs]
theorem runs_bad (l : List UInt8) (k : Nat) (c : UInt8) (hc : l[k]? = some c) (h : numO c = none) : runs l = none := by
  have hk := (List.getElem?_eq_some_iff.1 hc).1
  have e : l = l.take k ++ ([c] ++ l.drop (k + 1)) := by
    have := List.getElem?_eq_some_iff.1 hc
    rw [← this.2, List.singleton_append, List.getElem_cons_drop, List.take_append_drop]
  rw [e, runs, List.foldl_append, List.foldl_append]
  show List.foldl step (step (runs (l.take k)) c) _ = none
  rw [step_bad _ _ h, fold_none]
/-- What stands between letters: 0, 2, 4 or 6 bits. -/
def Good (k : Nat) (st : St) : Prop := (st.2.1 = 0 ∨ st.2.1 = 2 ∨ st.2.1 = 4 ∨ st.2.1 = 6) ∧ st.1 < 2 ^ st.2.1 ∧ st.2.2.length ≤ k
theorem good_step {k : Nat} {b n : Nat} {out : List UInt8} (h : Good k (b, n, out)) (x : Nat) (hx : x < 64) : Good (k + 1) (step1 b n out x) := by
  obtain ⟨h1, h2, h3⟩ := h
  simp only at h1 h2 h3
  unfold step1
  rcases h1 with rfl | rfl | rfl | rfl
  · rw [if_neg (by omega)]
    exact ⟨.inr (.inr (.inr rfl)), by simp only [Nat.pow_zero] at h2; show b * 64 + x < 2 ^ 6; omega, by show out.length ≤ k + 1; omega⟩
  · rw [if_pos (by omega)]
    exact ⟨.inl rfl, by show _ % 2 ^ 0 < 2 ^ 0; omega, by show (out ++ _).length ≤ k + 1; simp; omega⟩
  · rw [if_pos (by omega)]
    exact ⟨.inr (.inl rfl), by show _ % 2 ^ 2 < 2 ^ 2; omega, by show (out ++ _).length ≤ k + 1; simp; omega⟩
  · rw [if_pos (by omega)]
    exact ⟨.inr (.inr (.inl rfl)), by show _ % 2 ^ 4 < 2 ^ 4; omega, by show (out ++ _).length ≤ k + 1; simp; omega⟩
def strip1 (l : List UInt8) : List UInt8 := if l.getLast? = some 61 then l.dropLast else l
def strip (l : List UInt8) : List UInt8 := strip1 (strip1 l)
/-- The text that these are the letters of. -/
def fin : Option St → Option (List UInt8)
  | some (0, _, out) => some out
  | _ => none
def dec (t : List UInt8) : Option (List UInt8) := if t.length % 4 = 0 then fin (runs (strip t)) else none

/-- What was read before stands ahead. -/
theorem step1_pre (acc : List UInt8) (b n : Nat) (out : List UInt8) (x : Nat) : step1 b n (acc ++ out) x = ((step1 b n out x).1, (step1 b n out x).2.1, acc ++ (step1 b n out x).2.2) := by
  unfold step1; split <;> simp
theorem fold_pre (acc : List UInt8) : ∀ (l : List UInt8) (b n : Nat) (out : List UInt8), l.foldl step (some (b, n, acc ++ out)) = (l.foldl step (some (b, n, out))).map fun s => (s.1, s.2.1, acc ++ s.2.2)
  | [], b, n, out => rfl
  | c :: r, b, n, out => by
    rw [List.foldl_cons, List.foldl_cons]
    cases h : numO c with
    | none => rw [step_bad _ _ h, step_bad _ _ h, fold_none]; rfl
    | some x =>
      rw [step_good _ _ _ _ _ h, step_good _ _ _ _ _ h, step1_pre]
      exact fold_pre acc r _ _ _
theorem fin_pre (acc : List UInt8) (st : Option St) : fin (st.map fun s => (s.1, s.2.1, acc ++ s.2.2)) = (fin st).map (acc ++ ·) := by
  rcases st with _ | ⟨b, n, out⟩
  · rfl
  · cases b <;> rfl
theorem strip1_append (a l : List UInt8) (h : 1 ≤ l.length) : strip1 (a ++ l) = a ++ strip1 l := by
  have hl : l ≠ [] := fun e => by rw [e] at h; simp at h
  unfold strip1
  have e : (a ++ l).getLast? = l.getLast? := by
    rw [List.getLast?_append]
    cases hx : l.getLast? with
    | none => exact absurd (List.getLast?_eq_none_iff.1 hx) hl
    | some x => rfl
  rw [e]
  split
  · rw [List.dropLast_append_of_ne_nil hl]
  · rfl
theorem strip1_length (l : List UInt8) : l.length ≤ (strip1 l).length + 1 := by
  unfold strip1; split <;> simp; omega
theorem strip_append (a l : List UInt8) (h : 2 ≤ l.length) : strip (a ++ l) = a ++ strip l := by
  unfold strip
  rw [strip1_append a l (by omega), strip1_append a _ (by have := strip1_length l; omega)]
theorem strip_le (l : List UInt8) : (strip l).length ≤ l.length := by
  have h : ∀ l : List UInt8, (strip1 l).length ≤ l.length := fun l => by unfold strip1; split <;> simp
  exact Nat.le_trans (h _) (h _)

theorem four_letters (x0 x1 x2 x3 : Nat) (c0 c1 c2 c3 : UInt8) (h0 : numO c0 = some x0) (h1 : numO c1 = some x1) (h2 : numO c2 = some x2) (h3 : numO c3 = some x3) (l : List UInt8) :
    (c0 :: c1 :: c2 :: c3 :: l).foldl step (some (0, 0, [])) =
      l.foldl step (some ((((x0 * 64 + x1) % 16 * 64 + x2) % 4 * 64 + x3) % 1, 0, [UInt8.ofNat ((x0 * 64 + x1) / 16), UInt8.ofNat (((x0 * 64 + x1) % 16 * 64 + x2) / 4), UInt8.ofNat ((((x0 * 64 + x1) % 16 * 64 + x2) % 4 * 64 + x3) / 1)])) := by
  simp only [List.foldl_cons, step_good _ _ _ _ _ h0]
  simp only [step1, show ¬ 8 ≤ 0 + 6 by omega, if_false, step_good _ _ _ _ _ h1]
  simp only [step1, show 8 ≤ 0 + 6 + 6 by omega, if_true, step_good _ _ _ _ _ h2]
  simp only [step1, show 8 ≤ 0 + 6 + 6 - 8 + 6 by omega, if_true, step_good _ _ _ _ _ h3]
  simp
theorem three_letters (x0 x1 x2 : Nat) (c0 c1 c2 : UInt8) (h0 : numO c0 = some x0) (h1 : numO c1 = some x1) (h2 : numO c2 = some x2) :
    [c0, c1, c2].foldl step (some (0, 0, [])) = some (((x0 * 64 + x1) % 16 * 64 + x2) % 4, 2, [UInt8.ofNat ((x0 * 64 + x1) / 16), UInt8.ofNat (((x0 * 64 + x1) % 16 * 64 + x2) / 4)]) := by
  simp only [List.foldl_cons, step_good _ _ _ _ _ h0]
  simp only [step1, show ¬ 8 ≤ 0 + 6 by omega, if_false, step_good _ _ _ _ _ h1]
  simp only [step1, show 8 ≤ 0 + 6 + 6 by omega, if_true, step_good _ _ _ _ _ h2]
  simp
theorem two_letters (x0 x1 : Nat) (c0 c1 : UInt8) (h0 : numO c0 = some x0) (h1 : numO c1 = some x1) :
    [c0, c1].foldl step (some (0, 0, [])) = some ((x0 * 64 + x1) % 16, 4, [UInt8.ofNat ((x0 * 64 + x1) / 16)]) := by
  simp only [List.foldl_cons, step_good _ _ _ _ _ h0]
  simp only [step1, show ¬ 8 ≤ 0 + 6 by omega, if_false, step_good _ _ _ _ _ h1]
  simp
end Go.Proofs.Ytclnefackjonpaa
