/- Texts of this proof, one behind the other. -/
/- Bytes as letters, and back, as plain functions of lists. -/
namespace Go.Proofs.YtnaekjmlikhglaaDoor.bb

def alpha : List UInt8 := [65, 66, 67, 68, 69, 70, 71, 72, 73, 74, 75, 76, 77, 78, 79, 80, 81, 82, 83, 84, 85, 86, 87, 88, 89, 90, 97, 98, 99, 100, 101, 102, 103, 104, 105, 106, 107, 108, 109, 110, 111, 112, 113, 114, 115, 116, 117, 118, 119, 120, 121, 122, 48, 49, 50, 51, 52, 53, 54, 55, 56, 57, 43, 47]
/-- The letter of a number. -/
def ltr (n : Nat) : UInt8 := alpha.getD n 0
def idx (c : UInt8) : List UInt8 → Nat → Option Nat
  | [], _ => none
  | x :: r, k => if x = c then some k else idx c r (k + 1)
/-- The number of a letter. -/
def numO (c : UInt8) : Option Nat := idx c alpha 0

theorem num_ltr (n : Nat) (h : n < 64) : numO (ltr n) = some n :=
  (by decide +kernel : ∀ k : Fin 64, numO (ltr k.val) = some k.val) ⟨n, h⟩
theorem num_all : ∀ k : Fin 256, ∀ x, numO (UInt8.ofNat k.val) = some x → x < 64 ∧ ltr x = UInt8.ofNat k.val := by
  have h : ∀ k : Fin 256, (match numO (UInt8.ofNat k.val) with | some x => decide (x < 64 ∧ ltr x = UInt8.ofNat k.val) | none => true) = true := by decide +kernel
  intro k x hx
  have := h k
  rw [hx] at this
  simpa using this
theorem num_some {c : UInt8} {x : Nat} (h : numO c = some x) : x < 64 ∧ ltr x = c := by
  have e : UInt8.ofNat c.toNat = c := by simp
  have := num_all ⟨c.toNat, c.toNat_lt⟩ x (by simpa [e] using h)
  simpa [e] using this
theorem num_filler : numO 61 = none := by decide
theorem ltr_ne (n : Nat) (h : n < 64) : ltr n ≠ 61 := by
  intro e
  have := num_ltr n h
  rw [e, num_filler] at this
  cases this

/-- The number of a part's bits. -/
def n3 (p : List UInt8) : Nat := (p.getD 0 0).toNat * 65536 + (p.getD 1 0).toNat * 256 + (p.getD 2 0).toNat
/-- Letter i of a part. -/
def qd (p : List UInt8) (i : Nat) : UInt8 := if p.length < i then 61 else ltr (n3 p / 2 ^ (18 - 6 * i) % 64)
def qds (p : List UInt8) : Nat → List UInt8
  | 0 => []
  | k + 1 => qds p k ++ [qd p k]
def quad (p : List UInt8) : List UInt8 := qds p 4
theorem quad_eq (p : List UInt8) : quad p = [qd p 0, qd p 1, qd p 2, qd p 3] := rfl

/-- The letters of a text. -/
def enc : List UInt8 → List UInt8
  | [] => []
  | [a] => quad [a]
  | [a, b] => quad [a, b]
  | a :: b :: c :: r => quad [a, b, c] ++ enc r
theorem enc3 (a b c : UInt8) (r : List UInt8) : enc (a :: b :: c :: r) = quad [a, b, c] ++ enc r := by
  rw [enc]
/-- The letters of the first parts. -/
def encN (s : List UInt8) : Nat → List UInt8
  | 0 => []
  | k + 1 => encN s k ++ quad ((s.drop (3 * k)).take 3)
theorem encN_cons (a b c : UInt8) (r : List UInt8) : ∀ k, encN (a :: b :: c :: r) (k + 1) = quad [a, b, c] ++ encN r k
  | 0 => by simp [encN]
  | k + 1 => by
    rw [encN, encN_cons a b c r k, show 3 * (k + 1) = 3 * k + 3 by omega, encN, List.append_assoc]
    rfl
theorem encN_all : ∀ s : List UInt8, encN s ((s.length + 2) / 3) = enc s
  | [] => rfl
  | [a] => by simp [encN, enc]
  | [a, b] => by simp [encN, enc]
  | a :: b :: c :: r => by
    rw [show ((a :: b :: c :: r).length + 2) / 3 = (r.length + 2) / 3 + 1 by simp only [List.length_cons]; omega, encN_cons, encN_all r, enc3]
theorem qds_length (p : List UInt8) : ∀ k, (qds p k).length = k
  | 0 => rfl
  | k + 1 => by rw [qds, List.length_append, qds_length p k]; rfl
theorem encN_length (s : List UInt8) : ∀ k, (encN s k).length = 4 * k
  | 0 => rfl
  | k + 1 => by rw [encN, List.length_append, encN_length s k, quad, qds_length]; omega
theorem enc_length (s : List UInt8) : (enc s).length = (s.length + 2) / 3 * 4 := by
  rw [← encN_all, encN_length]; omega
theorem enc_append : ∀ s t : List UInt8, s.length % 3 = 0 → enc (s ++ t) = enc s ++ enc t
  | [], t, _ => rfl
  | [a], t, h => by simp at h
  | [a, b], t, h => by simp at h
  | a :: b :: c :: r, t, h => by
    rw [enc3, List.cons_append, List.cons_append, List.cons_append, enc3, enc_append r t (by simp only [List.length_cons] at h; omega), List.append_assoc]

/-! Back. -/
/-- What was read of letters: bits that make no whole byte, how many these are, the bytes. -/
abbrev St := Nat × Nat × List UInt8
def step1 (b n : Nat) (out : List UInt8) (x : Nat) : St :=
  if 8 ≤ n + 6 then ((b * 64 + x) % 2 ^ (n + 6 - 8), n + 6 - 8, out ++ [UInt8.ofNat ((b * 64 + x) / 2 ^ (n + 6 - 8))]) else (b * 64 + x, n + 6, out)
def step (st : Option St) (c : UInt8) : Option St :=
  match st, numO c with
  | some (b, n, out), some x => some (step1 b n out x)
  | _, _ => none
def runs (l : List UInt8) : Option St := l.foldl step (some (0, 0, []))
theorem step_none (c : UInt8) : step none c = none := rfl
theorem fold_none : ∀ l : List UInt8, l.foldl step none = none
  | [] => rfl
  | c :: r => by rw [List.foldl_cons, step_none, fold_none r]
theorem step_bad (st : Option St) (c : UInt8) (h : numO c = none) : step st c = none := by
  unfold step; rw [h]; cases st <;> rfl
theorem step_good (b n : Nat) (out : List UInt8) (c : UInt8) (x : Nat) (h : numO c = some x) : step (some (b, n, out)) c = some (step1 b n out x) := by
  unfold step; rw [h]
theorem runs_snoc (l : List UInt8) (c : UInt8) : runs (l ++ [c]) = step (runs l) c := by simp [runs]
theorem runs_bad (l : List UInt8) (k : Nat) (c : UInt8) (hc : l[k]? = some c) (h : numO c = none) : runs l = none := by
  have hk := (List.getElem?_eq_some_iff.1 hc).1
  have e : l = l.take k ++ ([c] ++ l.drop (k + 1)) := by
    have := List.getElem?_eq_some_iff.1 hc
    rw [← this.2, List.singleton_append, List.getElem_cons_drop, List.take_append_drop]
  rw [e, runs, List.foldl_append, List.foldl_append]
  show List.foldl step (step (runs (l.take k)) c) _ = none
  rw [step_bad _ _ h, fold_none]
/-- What stands between letters: 0, 2, 4 or 6 bits. -/
def Good (k : Nat) (st : St) : Prop := (st.2.1 = 0 ∨ st.2.1 = 2 ∨ st.2.1 = 4 ∨ st.2.1 = 6) ∧ st.1 < 2 ^ st.2.1 ∧ st.2.2.length ≤ k
theorem good_step {k : Nat} {b n : Nat} {out : List UInt8} (h : Good k (b, n, out)) (x : Nat) (hx : x < 64) : Good (k + 1) (step1 b n out x) := by
  obtain ⟨h1, h2, h3⟩ := h
  simp only at h1 h2 h3
  unfold step1
  rcases h1 with rfl | rfl | rfl | rfl
  · rw [if_neg (by omega)]
    exact ⟨.inr (.inr (.inr rfl)), by simp only [Nat.pow_zero] at h2; show b * 64 + x < 2 ^ 6; omega, by show out.length ≤ k + 1; omega⟩
  · rw [if_pos (by omega)]
    exact ⟨.inl rfl, by show _ % 2 ^ 0 < 2 ^ 0; omega, by show (out ++ _).length ≤ k + 1; simp; omega⟩
  · rw [if_pos (by omega)]
    exact ⟨.inr (.inl rfl), by show _ % 2 ^ 2 < 2 ^ 2; omega, by show (out ++ _).length ≤ k + 1; simp; omega⟩
  · rw [if_pos (by omega)]
    exact ⟨.inr (.inr (.inl rfl)), by show _ % 2 ^ 4 < 2 ^ 4; omega, by show (out ++ _).length ≤ k + 1; simp; omega⟩
def strip1 (l : List UInt8) : List UInt8 := if l.getLast? = some 61 then l.dropLast else l
def strip (l : List UInt8) : List UInt8 := strip1 (strip1 l)
/-- The text that these are the letters of. -/
def fin : Option St → Option (List UInt8)
  | some (0, _, out) => some out
  | _ => none
def dec (t : List UInt8) : Option (List UInt8) := if t.length % 4 = 0 then fin (runs (strip t)) else none

/-- What was read before stands ahead. -/
theorem step1_pre (acc : List UInt8) (b n : Nat) (out : List UInt8) (x : Nat) : step1 b n (acc ++ out) x = ((step1 b n out x).1, (step1 b n out x).2.1, acc ++ (step1 b n out x).2.2) := by
  unfold step1; split <;> simp
theorem fold_pre (acc : List UInt8) : ∀ (l : List UInt8) (b n : Nat) (out : List UInt8), l.foldl step (some (b, n, acc ++ out)) = (l.foldl step (some (b, n, out))).map fun s => (s.1, s.2.1, acc ++ s.2.2)
  | [], b, n, out => rfl
  | c :: r, b, n, out => by
    rw [List.foldl_cons, List.foldl_cons]
    cases h : numO c with
    | none => rw [step_bad _ _ h, step_bad _ _ h, fold_none]; rfl
    | some x =>
      rw [step_good _ _ _ _ _ h, step_good _ _ _ _ _ h, step1_pre]
      exact fold_pre acc r _ _ _
theorem fin_pre (acc : List UInt8) (st : Option St) : fin (st.map fun s => (s.1, s.2.1, acc ++ s.2.2)) = (fin st).map (acc ++ ·) := by
  rcases st with _ | ⟨b, n, out⟩
  · rfl
  · cases b <;> rfl
theorem strip1_append (a l : List UInt8) (h : 1 ≤ l.length) : strip1 (a ++ l) = a ++ strip1 l := by
  have hl : l ≠ [] := fun e => by rw [e] at h; simp at h
  unfold strip1
  have e : (a ++ l).getLast? = l.getLast? := by
    rw [List.getLast?_append]
    cases hx : l.getLast? with
    | none => exact absurd (List.getLast?_eq_none_iff.1 hx) hl
    | some x => rfl
  rw [e]
  split
  · rw [List.dropLast_append_of_ne_nil hl]
  · rfl
theorem strip1_length (l : List UInt8) : l.length ≤ (strip1 l).length + 1 := by
  unfold strip1; split <;> simp; omega
theorem strip_append (a l : List UInt8) (h : 2 ≤ l.length) : strip (a ++ l) = a ++ strip l := by
  unfold strip
  rw [strip1_append a l (by omega), strip1_append a _ (by have := strip1_length l; omega)]
theorem strip_le (l : List UInt8) : (strip l).length ≤ l.length := by
  have h : ∀ l : List UInt8, (strip1 l).length ≤ l.length := fun l => by unfold strip1; split <;> simp
  exact Nat.le_trans (h _) (h _)

theorem four_letters (x0 x1 x2 x3 : Nat) (c0 c1 c2 c3 : UInt8) (h0 : numO c0 = some x0) (h1 : numO c1 = some x1) (h2 : numO c2 = some x2) (h3 : numO c3 = some x3) (l : List UInt8) :
    (c0 :: c1 :: c2 :: c3 :: l).foldl step (some (0, 0, [])) =
      l.foldl step (some ((((x0 * 64 + x1) % 16 * 64 + x2) % 4 * 64 + x3) % 1, 0, [UInt8.ofNat ((x0 * 64 + x1) / 16), UInt8.ofNat (((x0 * 64 + x1) % 16 * 64 + x2) / 4), UInt8.ofNat ((((x0 * 64 + x1) % 16 * 64 + x2) % 4 * 64 + x3) / 1)])) := by
  simp only [List.foldl_cons, step_good _ _ _ _ _ h0]
  simp only [step1, show ¬ 8 ≤ 0 + 6 by omega, if_false, step_good _ _ _ _ _ h1]
  simp only [step1, show 8 ≤ 0 + 6 + 6 by omega, if_true, step_good _ _ _ _ _ h2]
  simp only [step1, show 8 ≤ 0 + 6 + 6 - 8 + 6 by omega, if_true, step_good _ _ _ _ _ h3]
  simp
theorem three_letters (x0 x1 x2 : Nat) (c0 c1 c2 : UInt8) (h0 : numO c0 = some x0) (h1 : numO c1 = some x1) (h2 : numO c2 = some x2) :
    [c0, c1, c2].foldl step (some (0, 0, [])) = some (((x0 * 64 + x1) % 16 * 64 + x2) % 4, 2, [UInt8.ofNat ((x0 * 64 + x1) / 16), UInt8.ofNat (((x0 * 64 + x1) % 16 * 64 + x2) / 4)]) := by
  simp only [List.foldl_cons, step_good _ _ _ _ _ h0]
  simp only [step1, show ¬ 8 ≤ 0 + 6 by omega, if_false, step_good _ _ _ _ _ h1]
  simp only [step1, show 8 ≤ 0 + 6 + 6 by omega, if_true, step_good _ _ _ _ _ h2]
  simp
theorem two_letters (x0 x1 : Nat) (c0 c1 : UInt8) (h0 : numO c0 = some x0) (h1 : numO c1 = some x1) :
    [c0, c1].foldl step (some (0, 0, [])) = some ((x0 * 64 + x1) % 16, 4, [UInt8.ofNat ((x0 * 64 + x1) / 16)]) := by
  simp only [List.foldl_cons, step_good _ _ _ _ _ h0]
  simp only [step1, show ¬ 8 ≤ 0 + 6 by omega, if_false, step_good _ _ _ _ _ h1]
  simp
end Go.Proofs.YtnaekjmlikhglaaDoor.bb
/- Decode of Encode is the text; what Decode tells has just those letters. -/
namespace Go.Proofs.YtnaekjmlikhglaaDoor.bb

theorem strip1_one (l : List UInt8) (c : UInt8) : strip1 (l ++ [c]) = if c = 61 then l else l ++ [c] := by
  unfold strip1; simp
theorem strip_ends (l : List UInt8) (c d : UInt8) : strip (l ++ [c, d]) = if d = 61 then (if c = 61 then l else l ++ [c]) else l ++ [c, d] := by
  unfold strip
  rw [show l ++ [c, d] = (l ++ [c]) ++ [d] by simp, strip1_one (l ++ [c])]
  split
  · rw [strip1_one]
  · rename_i h; rw [strip1_one (l ++ [c]), if_neg h]
theorem enc_mod (s : List UInt8) : (enc s).length % 4 = 0 := by rw [enc_length]; omega

/-- Numbers of letters make bytes, and bytes make these numbers. -/
theorem u8 (n : Nat) (h : n < 256) : (UInt8.ofNat n).toNat = n := by rw [UInt8.toNat_ofNat']; omega

theorem back : ∀ s : List UInt8, dec (enc s) = some s
  | [] => rfl
  | [x] => by
    have hx := x.toNat_lt
    have e : enc [x] = [ltr (x.toNat * 65536 / 262144 % 64), ltr (x.toNat * 65536 / 4096 % 64)] ++ [61, 61] := by
      simp [enc, quad_eq, qd, n3]
    unfold dec
    rw [if_pos (enc_mod _), e, strip_ends, if_pos rfl, if_pos rfl]
    unfold runs
    rw [two_letters _ _ _ _ (num_ltr _ (by omega)) (num_ltr _ (by omega))]
    have h0 : (x.toNat * 65536 / 262144 % 64 * 64 + x.toNat * 65536 / 4096 % 64) % 16 = 0 := by omega
    have h1 : (x.toNat * 65536 / 262144 % 64 * 64 + x.toNat * 65536 / 4096 % 64) / 16 = x.toNat := by omega
    rw [h0, h1]
    simp [fin]
  | [x, y] => by
    have hx := x.toNat_lt
    have hy := y.toNat_lt
    obtain ⟨X, hX⟩ : ∃ X, X = x.toNat * 65536 + y.toNat * 256 := ⟨_, rfl⟩
    have e : enc [x, y] = [ltr (X / 262144 % 64), ltr (X / 4096 % 64)] ++ [ltr (X / 64 % 64), 61] := by
      simp [enc, quad_eq, qd, n3, hX]
    unfold dec
    rw [if_pos (enc_mod _), e, strip_ends, if_pos rfl, if_neg (ltr_ne _ (by omega))]
    unfold runs
    rw [List.cons_append, List.cons_append, List.nil_append, three_letters _ _ _ _ _ _ (num_ltr _ (by omega)) (num_ltr _ (by omega)) (num_ltr _ (by omega))]
    have h0 : ((X / 262144 % 64 * 64 + X / 4096 % 64) % 16 * 64 + X / 64 % 64) % 4 = 0 := by omega
    have h1 : (X / 262144 % 64 * 64 + X / 4096 % 64) / 16 = x.toNat := by omega
    have h2 : ((X / 262144 % 64 * 64 + X / 4096 % 64) % 16 * 64 + X / 64 % 64) / 4 = y.toNat := by omega
    rw [h0, h1, h2]
    simp [fin]
  | x :: y :: z :: r => by
    have hx := x.toNat_lt
    have hy := y.toNat_lt
    have hz := z.toNat_lt
    obtain ⟨X, hX⟩ : ∃ X, X = x.toNat * 65536 + y.toNat * 256 + z.toNat := ⟨_, rfl⟩
    have e : quad [x, y, z] = [ltr (X / 262144 % 64), ltr (X / 4096 % 64)] ++ [ltr (X / 64 % 64), ltr (X % 64)] := by
      simp [quad_eq, qd, n3, hX]
    have hs : strip (enc (x :: y :: z :: r)) = quad [x, y, z] ++ strip (enc r) := by
      rw [enc3]
      by_cases hr : 2 ≤ (enc r).length
      · rw [strip_append _ _ hr]
      · have : (enc r).length = 0 := by have := enc_mod r; omega
        have h0 : enc r = [] := List.eq_nil_of_length_eq_zero this
        rw [h0, List.append_nil, e, strip_ends, if_neg (ltr_ne _ (by omega))]
        rfl
    have ih := back r
    unfold dec at ih ⊢
    rw [if_pos (enc_mod _)] at ih ⊢
    rw [hs, e]
    unfold runs at ih ⊢
    rw [List.append_assoc, List.cons_append, List.cons_append, List.nil_append, List.cons_append, List.cons_append, List.nil_append,
      four_letters _ _ _ _ _ _ _ _ (num_ltr _ (by omega)) (num_ltr _ (by omega)) (num_ltr _ (by omega)) (num_ltr _ (by omega))]
    have h0 : ((((X / 262144 % 64 * 64 + X / 4096 % 64) % 16 * 64 + X / 64 % 64) % 4 * 64 + X % 64) % 1) = 0 := by omega
    have h1 : (X / 262144 % 64 * 64 + X / 4096 % 64) / 16 = x.toNat := by omega
    have h2 : ((X / 262144 % 64 * 64 + X / 4096 % 64) % 16 * 64 + X / 64 % 64) / 4 = y.toNat := by omega
    have h3 : (((X / 262144 % 64 * 64 + X / 4096 % 64) % 16 * 64 + X / 64 % 64) % 4 * 64 + X % 64) / 1 = z.toNat := by omega
    rw [h0, h1, h2, h3]
    have hp := fold_pre [x, y, z] (strip (enc r)) 0 0 []
    rw [List.append_nil] at hp
    simp only [UInt8.ofNat_toNat]
    rw [hp, fin_pre, ih]
    rfl

theorem some_of_fold {c : UInt8} {st : Option St} {l : List UInt8} (h : (l.foldl step (step st c)) ≠ none) : ∃ x, numO c = some x := by
  cases hn : numO c with
  | some x => exact ⟨x, rfl⟩
  | none => rw [step_bad _ _ hn, fold_none] at h; exact absurd rfl h
theorem fin_some {st : Option St} {b : List UInt8} (h : fin st = some b) : st ≠ none := by
  intro e; rw [e] at h; cases h

/-- The four numbers of letters that are bytes. -/
theorem quad_full (x0 x1 x2 x3 : Nat) (a b c d : UInt8) (h0 : numO a = some x0) (h1 : numO b = some x1) (h2 : numO c = some x2) (h3 : numO d = some x3) :
    quad [UInt8.ofNat ((x0 * 64 + x1) / 16), UInt8.ofNat (((x0 * 64 + x1) % 16 * 64 + x2) / 4), UInt8.ofNat ((((x0 * 64 + x1) % 16 * 64 + x2) % 4 * 64 + x3) / 1)] = [a, b, c, d] := by
  obtain ⟨l0, e0⟩ := num_some h0
  obtain ⟨l1, e1⟩ := num_some h1
  obtain ⟨l2, e2⟩ := num_some h2
  obtain ⟨l3, e3⟩ := num_some h3
  have hn : n3 [UInt8.ofNat ((x0 * 64 + x1) / 16), UInt8.ofNat (((x0 * 64 + x1) % 16 * 64 + x2) / 4), UInt8.ofNat ((((x0 * 64 + x1) % 16 * 64 + x2) % 4 * 64 + x3) / 1)] = x0 * 262144 + x1 * 4096 + x2 * 64 + x3 := by
    unfold n3
    simp only [List.getD_cons_zero, List.getD_cons_succ]
    rw [u8 _ (by omega), u8 _ (by omega), u8 _ (by omega)]
    omega
  rw [quad_eq, ← e0, ← e1, ← e2, ← e3]
  simp only [qd, hn, List.length_cons, List.length_nil]
  have g0 : (x0 * 262144 + x1 * 4096 + x2 * 64 + x3) / 262144 % 64 = x0 := by omega
  have g1 : (x0 * 262144 + x1 * 4096 + x2 * 64 + x3) / 4096 % 64 = x1 := by omega
  have g2 : (x0 * 262144 + x1 * 4096 + x2 * 64 + x3) / 64 % 64 = x2 := by omega
  have g3 : (x0 * 262144 + x1 * 4096 + x2 * 64 + x3) % 64 = x3 := by omega
  simp [g0, g1, g2, g3]

theorem quad_three (x0 x1 x2 : Nat) (a b c : UInt8) (h0 : numO a = some x0) (h1 : numO b = some x1) (h2 : numO c = some x2) (hz : ((x0 * 64 + x1) % 16 * 64 + x2) % 4 = 0) :
    quad [UInt8.ofNat ((x0 * 64 + x1) / 16), UInt8.ofNat (((x0 * 64 + x1) % 16 * 64 + x2) / 4)] = [a, b, c, 61] := by
  obtain ⟨l0, e0⟩ := num_some h0
  obtain ⟨l1, e1⟩ := num_some h1
  obtain ⟨l2, e2⟩ := num_some h2
  have hn : n3 [UInt8.ofNat ((x0 * 64 + x1) / 16), UInt8.ofNat (((x0 * 64 + x1) % 16 * 64 + x2) / 4)] = x0 * 262144 + x1 * 4096 + x2 * 64 := by
    unfold n3
    simp only [List.getD_cons_zero, List.getD_cons_succ, List.getD_nil]
    rw [u8 _ (by omega), u8 _ (by omega)]
    show _ + _ + 0 = _
    omega
  rw [quad_eq, ← e0, ← e1, ← e2]
  simp only [qd, hn, List.length_cons, List.length_nil]
  have g0 : (x0 * 262144 + x1 * 4096 + x2 * 64) / 262144 % 64 = x0 := by omega
  have g1 : (x0 * 262144 + x1 * 4096 + x2 * 64) / 4096 % 64 = x1 := by omega
  have g2 : (x0 * 262144 + x1 * 4096 + x2 * 64) / 64 % 64 = x2 := by omega
  simp [g0, g1, g2]
theorem quad_two (x0 x1 : Nat) (a b : UInt8) (h0 : numO a = some x0) (h1 : numO b = some x1) (hz : (x0 * 64 + x1) % 16 = 0) :
    quad [UInt8.ofNat ((x0 * 64 + x1) / 16)] = [a, b, 61, 61] := by
  obtain ⟨l0, e0⟩ := num_some h0
  obtain ⟨l1, e1⟩ := num_some h1
  have hn : n3 [UInt8.ofNat ((x0 * 64 + x1) / 16)] = x0 * 262144 + x1 * 4096 := by
    unfold n3
    simp only [List.getD_cons_zero, List.getD_cons_succ, List.getD_nil]
    rw [u8 _ (by omega)]
    show _ + 0 * 256 + 0 = _
    omega
  rw [quad_eq, ← e0, ← e1]
  simp only [qd, hn, List.length_cons, List.length_nil]
  have g0 : (x0 * 262144 + x1 * 4096) / 262144 % 64 = x0 := by omega
  have g1 : (x0 * 262144 + x1 * 4096) / 4096 % 64 = x1 := by omega
  simp [g0, g1]
theorem fin_two {b n : Nat} {out x : List UInt8} (h : fin (some (b, n, out)) = some x) : b = 0 ∧ x = out := by
  cases b with
  | zero => exact ⟨rfl, (Option.some.inj h).symm⟩
  | succ b => cases h

theorem forth : ∀ t b : List UInt8, dec t = some b → enc b = t
  | [], b, h => by
    obtain rfl := Option.some.inj h
    rfl
  | [_], b, h => by cases h
  | [_, _], b, h => by cases h
  | [_, _, _], b, h => by cases h
  | a :: a1 :: c :: d :: r, b, h => by
    unfold dec at h
    by_cases hm : (a :: a1 :: c :: d :: r).length % 4 = 0
    · rw [if_pos hm] at h
      by_cases hr : 2 ≤ r.length
      · have hs : strip (a :: a1 :: c :: d :: r) = a :: a1 :: c :: d :: strip r := strip_append [a, a1, c, d] r hr
        rw [hs] at h
        unfold runs at h
        have hne := fin_some h
        have hne1 := hne
        simp only [List.foldl_cons] at hne1
        obtain ⟨x0, h0⟩ : ∃ x, numO a = some x := some_of_fold (l := [a1, c, d] ++ strip r) (by simpa using hne1)
        obtain ⟨x1, h1⟩ : ∃ x, numO a1 = some x := some_of_fold (l := [c, d] ++ strip r) (by simpa using hne1)
        obtain ⟨x2, h2⟩ : ∃ x, numO c = some x := some_of_fold (l := [d] ++ strip r) (by simpa using hne1)
        obtain ⟨x3, h3⟩ : ∃ x, numO d = some x := some_of_fold (l := strip r) (by simpa using hne1)
        rw [four_letters x0 x1 x2 x3 _ _ _ _ h0 h1 h2 h3, Nat.mod_one] at h
        have hp := fold_pre [UInt8.ofNat ((x0 * 64 + x1) / 16), UInt8.ofNat (((x0 * 64 + x1) % 16 * 64 + x2) / 4), UInt8.ofNat ((((x0 * 64 + x1) % 16 * 64 + x2) % 4 * 64 + x3) / 1)] (strip r) 0 0 []
        rw [List.append_nil] at hp
        rw [hp, fin_pre] at h
        have hd : dec r = fin ((strip r).foldl step (some (0, 0, []))) := by
          unfold dec runs
          rw [if_pos (by simp only [List.length_cons] at hm; omega)]
        rw [← hd] at h
        cases hb : dec r with
        | none => rw [hb] at h; cases h
        | some b' =>
          rw [hb] at h
          obtain rfl := Option.some.inj h
          simp only [List.cons_append, List.nil_append]
          rw [enc3, forth r b' hb, quad_full x0 x1 x2 x3 a a1 c d h0 h1 h2 h3]
          rfl
      · have hr0 : r = [] := List.eq_nil_of_length_eq_zero (by simp only [List.length_cons] at hm; omega)
        subst hr0
        have hs : strip [a, a1, c, d] = _ := strip_ends [a, a1] c d
        rw [hs] at h
        by_cases hd : d = 61
        · rw [if_pos hd] at h
          by_cases hc : c = 61
          · rw [if_pos hc] at h
            unfold runs at h
            have hne := fin_some h
            simp only [List.foldl_cons] at hne
            obtain ⟨x0, h0⟩ : ∃ x, numO a = some x := some_of_fold (l := [a1]) (by simpa using hne)
            obtain ⟨x1, h1⟩ : ∃ x, numO a1 = some x := some_of_fold (l := []) (by simpa using hne)
            rw [two_letters _ _ _ _ h0 h1] at h
            obtain ⟨hz, rfl⟩ := fin_two h
            rw [hc, hd, enc, quad_two _ _ _ _ h0 h1 hz]
          · rw [if_neg hc] at h
            unfold runs at h
            rw [List.cons_append, List.cons_append, List.nil_append] at h
            have hne := fin_some h
            simp only [List.foldl_cons] at hne
            obtain ⟨x0, h0⟩ : ∃ x, numO a = some x := some_of_fold (l := [a1, c]) (by simpa using hne)
            obtain ⟨x1, h1⟩ : ∃ x, numO a1 = some x := some_of_fold (l := [c]) (by simpa using hne)
            obtain ⟨x2, h2⟩ : ∃ x, numO c = some x := some_of_fold (l := []) (by simpa using hne)
            rw [three_letters _ _ _ _ _ _ h0 h1 h2] at h
            obtain ⟨hz, rfl⟩ := fin_two h
            rw [hd, enc, quad_three _ _ _ _ _ _ h0 h1 h2 hz]
        · rw [if_neg hd] at h
          unfold runs at h
          rw [List.cons_append, List.cons_append, List.nil_append] at h
          have hne := fin_some h
          simp only [List.foldl_cons] at hne
          obtain ⟨x0, h0⟩ : ∃ x, numO a = some x := some_of_fold (l := [a1, c, d]) (by simpa using hne)
          obtain ⟨x1, h1⟩ : ∃ x, numO a1 = some x := some_of_fold (l := [c, d]) (by simpa using hne)
          obtain ⟨x2, h2⟩ : ∃ x, numO c = some x := some_of_fold (l := [d]) (by simpa using hne)
          obtain ⟨x3, h3⟩ : ∃ x, numO d = some x := some_of_fold (l := []) (by simpa using hne)
          rw [four_letters x0 x1 x2 x3 _ _ _ _ h0 h1 h2 h3] at h
          obtain ⟨_, rfl⟩ := fin_two h
          rw [enc3, quad_full x0 x1 x2 x3 a a1 c d h0 h1 h2 h3]
          rfl
    · rw [if_neg hm] at h; cases h
end Go.Proofs.YtnaekjmlikhglaaDoor.bb
/- The document's own way, bit by bit, as plain functions: it comes to the same letters and texts. -/
namespace Go.Proofs.YtnaekjmlikhglaaDoor.bb

/-- The number of bits, the first one the highest. -/
def hor (l : List Nat) : Nat := l.foldl (fun n b => 2 * n + b) 0
theorem hor_snoc (l : List Nat) (b : Nat) : hor (l ++ [b]) = 2 * hor l + b := by simp [hor]
theorem hor_app : ∀ (l : List Nat) (n : Nat), (∀ b ∈ l, b ≤ 1) → l.foldl (fun n b => 2 * n + b) n < (n + 1) * 2 ^ l.length
  | [], n, _ => by simp
  | b :: r, n, h => by
    have h1 := h b (by simp)
    have ih := hor_app r (2 * n + b) (fun x hx => h x (by simp [hx]))
    rw [List.foldl_cons, List.length_cons, Nat.pow_succ]
    refine Nat.lt_of_lt_of_le ih ?_
    have : 2 * n + b + 1 ≤ (n + 1) * 2 := by omega
    calc (2 * n + b + 1) * 2 ^ r.length ≤ (n + 1) * 2 * 2 ^ r.length := Nat.mul_le_mul_right _ this
      _ = (n + 1) * (2 ^ r.length * 2) := by rw [Nat.mul_assoc, Nat.mul_comm 2]
theorem hor_lt (l : List Nat) (h : ∀ b ∈ l, b ≤ 1) : hor l < 2 ^ l.length := by
  have := hor_app l 0 h
  simpa [hor] using this
/-- The first j of a number's t bits. -/
def bn (x t : Nat) : Nat → List Nat
  | 0 => []
  | j + 1 => bn x t j ++ [x / 2 ^ (t - 1 - j) % 2]
theorem bn_length (x t : Nat) : ∀ j, (bn x t j).length = j
  | 0 => rfl
  | j + 1 => by rw [bn, List.length_append, bn_length x t j]; rfl
theorem bn_le (x t : Nat) : ∀ j, ∀ b ∈ bn x t j, b ≤ 1
  | 0, b, h => by simp [bn] at h
  | j + 1, b, h => by
    rw [bn, List.mem_append, List.mem_singleton] at h
    rcases h with h | rfl
    · exact bn_le x t j b h
    · omega
/-- The bits of bytes. -/
def bs (l : List UInt8) : List Nat := l.flatMap fun c => bn c.toNat 8 8
theorem bs_snoc (l : List UInt8) (c : UInt8) : bs (l ++ [c]) = bs l ++ bn c.toNat 8 8 := by simp [bs]
theorem bs_length : ∀ l : List UInt8, (bs l).length = 8 * l.length
  | [] => rfl
  | c :: r => by
    have := bs_length r
    unfold bs at this ⊢
    rw [List.flatMap_cons, List.length_append, bn_length, this, List.length_cons]; omega
theorem bs_le (l : List UInt8) : ∀ b ∈ bs l, b ≤ 1 := fun b h => by
  obtain ⟨c, _, hb⟩ := List.mem_flatMap.1 h
  exact bn_le _ _ _ b hb
/-- The bits of letters. -/
def num (c : UInt8) : Nat := (numO c).getD 0
def bl (l : List UInt8) : List Nat := l.flatMap fun c => bn (num c) 6 6
theorem bl_snoc (l : List UInt8) (c : UInt8) : bl (l ++ [c]) = bl l ++ bn (num c) 6 6 := by simp [bl]
theorem bl_length : ∀ l : List UInt8, (bl l).length = 6 * l.length
  | [] => rfl
  | c :: r => by
    have := bl_length r
    unfold bl at this ⊢
    rw [List.flatMap_cons, List.length_append, bn_length, this, List.length_cons]; omega
theorem bl_le (l : List UInt8) : ∀ b ∈ bl l, b ≤ 1 := fun b h => by
  obtain ⟨c, _, hb⟩ := List.mem_flatMap.1 h
  exact bn_le _ _ _ b hb

/-- Six bits make a letter. -/
def sx : List Nat → List UInt8
  | a :: b :: c :: d :: e :: f :: r => ltr (hor [a, b, c, d, e, f]) :: sx r
  | _ => []
/-- Eight bits make a byte. -/
def oc : List Nat → List UInt8
  | a :: b :: c :: d :: e :: f :: g :: h :: r => UInt8.ofNat (hor [a, b, c, d, e, f, g, h]) :: oc r
  | _ => []
theorem sx_cons (a b c d e f : Nat) (r : List Nat) : sx (a :: b :: c :: d :: e :: f :: r) = ltr (hor [a, b, c, d, e, f]) :: sx r := by rw [sx]
theorem oc_cons (a b c d e f g h : Nat) (r : List Nat) : oc (a :: b :: c :: d :: e :: f :: g :: h :: r) = UInt8.ofNat (hor [a, b, c, d, e, f, g, h]) :: oc r := by rw [oc]
theorem sx_take : ∀ (m : Nat) (l : List Nat), 6 * m + 6 ≤ l.length → sx (l.take (6 * (m + 1))) = sx (l.take (6 * m)) ++ [ltr (hor ((l.drop (6 * m)).take 6))]
  | 0, a :: b :: c :: d :: e :: f :: r, _ => by simp [sx]
  | m + 1, a :: b :: c :: d :: e :: f :: r, h => by
    have ih := sx_take m r (by simp only [List.length_cons] at h; omega)
    rw [show 6 * (m + 1 + 1) = 6 * (m + 1) + 6 by omega, show 6 * (m + 1) = 6 * m + 6 by omega]
    rw [show 6 * (m + 1) = 6 * m + 6 by omega] at ih
    simp only [List.take_succ_cons, List.drop_succ_cons]
    rw [sx_cons, sx_cons, ih]
    rfl
  | _, [], h => by simp at h
  | _, [_], h => by simp at h
  | _, [_, _], h => by simp at h
  | _, [_, _, _], h => by simp at h
  | _, [_, _, _, _], h => by simp at h
  | _, [_, _, _, _, _], h => by simp at h
theorem oc_take : ∀ (m : Nat) (l : List Nat), 8 * m + 8 ≤ l.length → oc (l.take (8 * (m + 1))) = oc (l.take (8 * m)) ++ [UInt8.ofNat (hor ((l.drop (8 * m)).take 8))]
  | 0, a :: b :: c :: d :: e :: f :: g :: h :: r, _ => by simp [oc]
  | m + 1, a :: b :: c :: d :: e :: f :: g :: h :: r, hl => by
    have ih := oc_take m r (by simp only [List.length_cons] at hl; omega)
    rw [show 8 * (m + 1 + 1) = 8 * (m + 1) + 8 by omega, show 8 * (m + 1) = 8 * m + 8 by omega]
    rw [show 8 * (m + 1) = 8 * m + 8 by omega] at ih
    simp only [List.take_succ_cons, List.drop_succ_cons]
    rw [oc_cons, oc_cons, ih]
    rfl
  | _, [], h => by simp at h
  | _, [_], h => by simp at h
  | _, [_, _], h => by simp at h
  | _, [_, _, _], h => by simp at h
  | _, [_, _, _, _], h => by simp at h
  | _, [_, _, _, _, _], h => by simp at h
  | _, [_, _, _, _, _, _], h => by simp at h
  | _, [_, _, _, _, _, _, _], h => by simp at h
theorem oc_end : ∀ (l : List Nat), oc (l.take (8 * (l.length / 8))) = oc l
  | a :: b :: c :: d :: e :: f :: g :: h :: r => by
    rw [show 8 * ((a :: b :: c :: d :: e :: f :: g :: h :: r).length / 8) = 8 * (r.length / 8) + 8 by simp only [List.length_cons]; omega]
    simp only [List.take_succ_cons]
    rw [oc_cons, oc_cons, oc_end r]
  | [] => rfl
  | [_] => by simp [oc]
  | [_, _] => by simp [oc]
  | [_, _, _] => by simp [oc]
  | [_, _, _, _] => by simp [oc]
  | [_, _, _, _, _] => by simp [oc]
  | [_, _, _, _, _, _] => by simp [oc]
  | [_, _, _, _, _, _, _] => by simp [oc]

theorem sx_length : ∀ l : List Nat, (sx l).length ≤ l.length
  | a :: b :: c :: d :: e :: f :: r => by
    have := sx_length r
    rw [sx_cons]; simp only [List.length_cons]; omega
  | [] => by simp [sx]
  | [_] => by simp [sx]
  | [_, _] => by simp [sx]
  | [_, _, _] => by simp [sx]
  | [_, _, _, _] => by simp [sx]
  | [_, _, _, _, _] => by simp [sx]
theorem oc_length : ∀ l : List Nat, (oc l).length ≤ l.length / 8
  | a :: b :: c :: d :: e :: f :: g :: h :: r => by
    have := oc_length r
    rw [oc_cons]; simp only [List.length_cons]; omega
  | [] => by simp [oc]
  | [_] => by simp [oc]
  | [_, _] => by simp [oc]
  | [_, _, _] => by simp [oc]
  | [_, _, _, _] => by simp [oc]
  | [_, _, _, _, _] => by simp [oc]
  | [_, _, _, _, _, _] => by simp [oc]
  | [_, _, _, _, _, _, _] => by simp [oc]
/-- Noughts more, till there are a multiple of six. -/
def p6 (l : List Nat) : List Nat := l ++ List.replicate ((6 - l.length % 6) % 6) 0
/-- Fillers more, till there are a multiple of four. -/
def p4 (l : List UInt8) : List UInt8 := l ++ List.replicate ((4 - l.length % 4) % 4) 61
def renc (s : List UInt8) : List UInt8 := p4 (sx (p6 (bs s)))

theorem bs_cons (c : UInt8) (r : List UInt8) : bs (c :: r) = bn c.toNat 8 8 ++ bs r := by simp [bs]
theorem bl_cons (c : UInt8) (r : List UInt8) : bl (c :: r) = bn (num c) 6 6 ++ bl r := by simp [bl]
theorem bn8 (x : Nat) : bn x 8 8 = [x / 128 % 2, x / 64 % 2, x / 32 % 2, x / 16 % 2, x / 8 % 2, x / 4 % 2, x / 2 % 2, x % 2] := by
  simp [bn]
theorem bn6 (x : Nat) : bn x 6 6 = [x / 32 % 2, x / 16 % 2, x / 8 % 2, x / 4 % 2, x / 2 % 2, x % 2] := by
  simp [bn]

theorem six1 (x : Nat) (h : x < 256) : hor [x / 128 % 2, x / 64 % 2, x / 32 % 2, x / 16 % 2, x / 8 % 2, x / 4 % 2] = x / 4 := by
  simp only [hor, List.foldl_cons, List.foldl_nil]; omega
theorem six2 (x y : Nat) (h : y < 256) : hor [x / 2 % 2, x % 2, y / 128 % 2, y / 64 % 2, y / 32 % 2, y / 16 % 2] = x % 4 * 16 + y / 16 := by
  simp only [hor, List.foldl_cons, List.foldl_nil]; omega
theorem six2' (x : Nat) : hor [x / 2 % 2, x % 2, 0, 0, 0, 0] = x % 4 * 16 := by
  simp only [hor, List.foldl_cons, List.foldl_nil]; omega
theorem six3 (y z : Nat) (h : z < 256) : hor [y / 8 % 2, y / 4 % 2, y / 2 % 2, y % 2, z / 128 % 2, z / 64 % 2] = y % 16 * 4 + z / 64 := by
  simp only [hor, List.foldl_cons, List.foldl_nil]; omega
theorem six3' (y : Nat) : hor [y / 8 % 2, y / 4 % 2, y / 2 % 2, y % 2, 0, 0] = y % 16 * 4 := by
  simp only [hor, List.foldl_cons, List.foldl_nil]; omega
theorem six4 (z : Nat) : hor [z / 32 % 2, z / 16 % 2, z / 8 % 2, z / 4 % 2, z / 2 % 2, z % 2] = z % 64 := by
  simp only [hor, List.foldl_cons, List.foldl_nil]; omega

theorem p6_append (a l : List Nat) (h : a.length % 6 = 0) : p6 (a ++ l) = a ++ p6 l := by
  unfold p6
  rw [List.append_assoc, List.length_append, show (a.length + l.length) % 6 = l.length % 6 by omega]
theorem p4_append (a l : List UInt8) (h : a.length % 4 = 0) : p4 (a ++ l) = a ++ p4 l := by
  unfold p4
  rw [List.append_assoc, List.length_append, show (a.length + l.length) % 4 = l.length % 4 by omega]

theorem quad3 (x y z : UInt8) : quad [x, y, z] = [ltr (x.toNat / 4), ltr (x.toNat % 4 * 16 + y.toNat / 16), ltr (y.toNat % 16 * 4 + z.toNat / 64), ltr (z.toNat % 64)] := by
  have hx := x.toNat_lt
  have hy := y.toNat_lt
  have hz := z.toNat_lt
  have e : quad [x, y, z] = [ltr ((x.toNat * 65536 + y.toNat * 256 + z.toNat) / 262144 % 64), ltr ((x.toNat * 65536 + y.toNat * 256 + z.toNat) / 4096 % 64), ltr ((x.toNat * 65536 + y.toNat * 256 + z.toNat) / 64 % 64), ltr ((x.toNat * 65536 + y.toNat * 256 + z.toNat) % 64)] := by
    simp [quad_eq, qd, n3]
  rw [e, show (x.toNat * 65536 + y.toNat * 256 + z.toNat) / 262144 % 64 = x.toNat / 4 by omega, show (x.toNat * 65536 + y.toNat * 256 + z.toNat) / 4096 % 64 = x.toNat % 4 * 16 + y.toNat / 16 by omega,
    show (x.toNat * 65536 + y.toNat * 256 + z.toNat) / 64 % 64 = y.toNat % 16 * 4 + z.toNat / 64 by omega, show (x.toNat * 65536 + y.toNat * 256 + z.toNat) % 64 = z.toNat % 64 by omega]
theorem quad2 (x y : UInt8) : quad [x, y] = [ltr (x.toNat / 4), ltr (x.toNat % 4 * 16 + y.toNat / 16), ltr (y.toNat % 16 * 4), 61] := by
  have hx := x.toNat_lt
  have hy := y.toNat_lt
  have e : quad [x, y] = [ltr ((x.toNat * 65536 + y.toNat * 256) / 262144 % 64), ltr ((x.toNat * 65536 + y.toNat * 256) / 4096 % 64), ltr ((x.toNat * 65536 + y.toNat * 256) / 64 % 64), 61] := by
    simp [quad_eq, qd, n3]
  rw [e, show (x.toNat * 65536 + y.toNat * 256) / 262144 % 64 = x.toNat / 4 by omega, show (x.toNat * 65536 + y.toNat * 256) / 4096 % 64 = x.toNat % 4 * 16 + y.toNat / 16 by omega,
    show (x.toNat * 65536 + y.toNat * 256) / 64 % 64 = y.toNat % 16 * 4 by omega]
theorem quad1 (x : UInt8) : quad [x] = [ltr (x.toNat / 4), ltr (x.toNat % 4 * 16), 61, 61] := by
  have hx := x.toNat_lt
  have e : quad [x] = [ltr (x.toNat * 65536 / 262144 % 64), ltr (x.toNat * 65536 / 4096 % 64), 61, 61] := by
    simp [quad_eq, qd, n3]
  rw [e, show x.toNat * 65536 / 262144 % 64 = x.toNat / 4 by omega, show x.toNat * 65536 / 4096 % 64 = x.toNat % 4 * 16 by omega]

theorem renc_eq : ∀ s : List UInt8, renc s = enc s
  | [] => rfl
  | [x] => by
    have hx := x.toNat_lt
    rw [enc, quad1, renc, bs_cons, bn8]
    have e : p6 ([x.toNat / 128 % 2, x.toNat / 64 % 2, x.toNat / 32 % 2, x.toNat / 16 % 2, x.toNat / 8 % 2, x.toNat / 4 % 2, x.toNat / 2 % 2, x.toNat % 2] ++ bs []) =
        [x.toNat / 128 % 2, x.toNat / 64 % 2, x.toNat / 32 % 2, x.toNat / 16 % 2, x.toNat / 8 % 2, x.toNat / 4 % 2, x.toNat / 2 % 2, x.toNat % 2, 0, 0, 0, 0] := by simp [p6, bs, List.replicate]
    rw [e, sx_cons, sx_cons, six1 _ hx, six2']
    rfl
  | [x, y] => by
    have hx := x.toNat_lt
    have hy := y.toNat_lt
    rw [enc, quad2, renc, bs_cons, bs_cons, bn8, bn8]
    have e : p6 ([x.toNat / 128 % 2, x.toNat / 64 % 2, x.toNat / 32 % 2, x.toNat / 16 % 2, x.toNat / 8 % 2, x.toNat / 4 % 2, x.toNat / 2 % 2, x.toNat % 2] ++
        ([y.toNat / 128 % 2, y.toNat / 64 % 2, y.toNat / 32 % 2, y.toNat / 16 % 2, y.toNat / 8 % 2, y.toNat / 4 % 2, y.toNat / 2 % 2, y.toNat % 2] ++ bs [])) =
        [x.toNat / 128 % 2, x.toNat / 64 % 2, x.toNat / 32 % 2, x.toNat / 16 % 2, x.toNat / 8 % 2, x.toNat / 4 % 2, x.toNat / 2 % 2, x.toNat % 2,
          y.toNat / 128 % 2, y.toNat / 64 % 2, y.toNat / 32 % 2, y.toNat / 16 % 2, y.toNat / 8 % 2, y.toNat / 4 % 2, y.toNat / 2 % 2, y.toNat % 2, 0, 0] := by simp [p6, bs, List.replicate]
    rw [e, sx_cons, sx_cons, sx_cons, six1 _ hx, six2 _ _ hy, six3']
    rfl
  | x :: y :: z :: r => by
    have hx := x.toNat_lt
    have hy := y.toNat_lt
    have hz := z.toNat_lt
    have ih := renc_eq r
    rw [enc3, quad3, ← ih, renc, bs_cons, bs_cons, bs_cons, bn8, bn8, bn8]
    have e : ([x.toNat / 128 % 2, x.toNat / 64 % 2, x.toNat / 32 % 2, x.toNat / 16 % 2, x.toNat / 8 % 2, x.toNat / 4 % 2, x.toNat / 2 % 2, x.toNat % 2] ++
        ([y.toNat / 128 % 2, y.toNat / 64 % 2, y.toNat / 32 % 2, y.toNat / 16 % 2, y.toNat / 8 % 2, y.toNat / 4 % 2, y.toNat / 2 % 2, y.toNat % 2] ++
        ([z.toNat / 128 % 2, z.toNat / 64 % 2, z.toNat / 32 % 2, z.toNat / 16 % 2, z.toNat / 8 % 2, z.toNat / 4 % 2, z.toNat / 2 % 2, z.toNat % 2] ++ bs r))) =
        [x.toNat / 128 % 2, x.toNat / 64 % 2, x.toNat / 32 % 2, x.toNat / 16 % 2, x.toNat / 8 % 2, x.toNat / 4 % 2, x.toNat / 2 % 2, x.toNat % 2,
          y.toNat / 128 % 2, y.toNat / 64 % 2, y.toNat / 32 % 2, y.toNat / 16 % 2, y.toNat / 8 % 2, y.toNat / 4 % 2, y.toNat / 2 % 2, y.toNat % 2,
          z.toNat / 128 % 2, z.toNat / 64 % 2, z.toNat / 32 % 2, z.toNat / 16 % 2, z.toNat / 8 % 2, z.toNat / 4 % 2, z.toNat / 2 % 2, z.toNat % 2] ++ bs r := rfl
    rw [e, p6_append _ _ (by simp)]
    simp only [List.cons_append, List.nil_append]
    rw [sx_cons, sx_cons, sx_cons, sx_cons, six1 _ hx, six2 _ _ hy, six3 _ _ hz, six4]
    exact p4_append [ltr (x.toNat / 4), ltr (x.toNat % 4 * 16 + y.toNat / 16), ltr (y.toNat % 16 * 4 + z.toNat / 64), ltr (z.toNat % 64)] _ (by simp)
end Go.Proofs.YtnaekjmlikhglaaDoor.bb
/- The document's own way back: what its bits come to. -/
namespace Go.Proofs.YtnaekjmlikhglaaDoor.bb

/-- The letters of a text, no fillers. -/
def cor : List UInt8 → List UInt8
  | [] => []
  | [x] => [ltr (x.toNat / 4), ltr (x.toNat % 4 * 16)]
  | [x, y] => [ltr (x.toNat / 4), ltr (x.toNat % 4 * 16 + y.toNat / 16), ltr (y.toNat % 16 * 4)]
  | x :: y :: z :: r => [ltr (x.toNat / 4), ltr (x.toNat % 4 * 16 + y.toNat / 16), ltr (y.toNat % 16 * 4 + z.toNat / 64), ltr (z.toNat % 64)] ++ cor r
theorem enc_cor : ∀ s : List UInt8, ∃ n, enc s = cor s ++ List.replicate n 61
  | [] => ⟨0, rfl⟩
  | [x] => ⟨2, by rw [enc, quad1, cor]; rfl⟩
  | [x, y] => ⟨1, by rw [enc, quad2, cor]; rfl⟩
  | x :: y :: z :: r => by
    obtain ⟨n, h⟩ := enc_cor r
    exact ⟨n, by rw [enc3, quad3, h, cor, List.append_assoc]⟩
theorem cor_letters : ∀ s : List UInt8, ∀ c ∈ cor s, ∃ n, n < 64 ∧ c = ltr n
  | [], c, h => by simp [cor] at h
  | [x], c, h => by
    have hx := x.toNat_lt
    rw [cor] at h
    simp only [List.mem_cons, List.not_mem_nil, or_false] at h
    rcases h with rfl | rfl
    · exact ⟨_, by omega, rfl⟩
    · exact ⟨_, by omega, rfl⟩
  | [x, y], c, h => by
    have hx := x.toNat_lt
    have hy := y.toNat_lt
    rw [cor] at h
    simp only [List.mem_cons, List.not_mem_nil, or_false] at h
    rcases h with rfl | rfl | rfl
    · exact ⟨_, by omega, rfl⟩
    · exact ⟨_, by omega, rfl⟩
    · exact ⟨_, by omega, rfl⟩
  | x :: y :: z :: r, c, h => by
    have hx := x.toNat_lt
    have hy := y.toNat_lt
    have hz := z.toNat_lt
    rw [cor] at h
    simp only [List.cons_append, List.nil_append, List.mem_cons] at h
    rcases h with rfl | rfl | rfl | rfl | h
    · exact ⟨_, by omega, rfl⟩
    · exact ⟨_, by omega, rfl⟩
    · exact ⟨_, by omega, rfl⟩
    · exact ⟨_, by omega, rfl⟩
    · exact cor_letters r c h
theorem num_ltr' (n : Nat) (h : n < 64) : num (ltr n) = n := by rw [num, num_ltr n h]; rfl

theorem oct1 (x y : Nat) (h : x < 256) (hy : y < 256) :
    hor [x / 4 / 32 % 2, x / 4 / 16 % 2, x / 4 / 8 % 2, x / 4 / 4 % 2, x / 4 / 2 % 2, x / 4 % 2, (x % 4 * 16 + y / 16) / 32 % 2, (x % 4 * 16 + y / 16) / 16 % 2] = x := by
  simp only [hor, List.foldl_cons, List.foldl_nil]; omega
theorem oct1' (x : Nat) (h : x < 256) :
    hor [x / 4 / 32 % 2, x / 4 / 16 % 2, x / 4 / 8 % 2, x / 4 / 4 % 2, x / 4 / 2 % 2, x / 4 % 2, (x % 4 * 16) / 32 % 2, (x % 4 * 16) / 16 % 2] = x := by
  simp only [hor, List.foldl_cons, List.foldl_nil]; omega
theorem oct2 (x y z : Nat) (hy : y < 256) (hz : z < 256) :
    hor [(x % 4 * 16 + y / 16) / 8 % 2, (x % 4 * 16 + y / 16) / 4 % 2, (x % 4 * 16 + y / 16) / 2 % 2, (x % 4 * 16 + y / 16) % 2,
      (y % 16 * 4 + z / 64) / 32 % 2, (y % 16 * 4 + z / 64) / 16 % 2, (y % 16 * 4 + z / 64) / 8 % 2, (y % 16 * 4 + z / 64) / 4 % 2] = y := by
  simp only [hor, List.foldl_cons, List.foldl_nil]; omega
theorem oct2' (x y : Nat) (hy : y < 256) :
    hor [(x % 4 * 16 + y / 16) / 8 % 2, (x % 4 * 16 + y / 16) / 4 % 2, (x % 4 * 16 + y / 16) / 2 % 2, (x % 4 * 16 + y / 16) % 2,
      (y % 16 * 4) / 32 % 2, (y % 16 * 4) / 16 % 2, (y % 16 * 4) / 8 % 2, (y % 16 * 4) / 4 % 2] = y := by
  simp only [hor, List.foldl_cons, List.foldl_nil]; omega
theorem oct3 (y z : Nat) (hz : z < 256) :
    hor [(y % 16 * 4 + z / 64) / 2 % 2, (y % 16 * 4 + z / 64) % 2, z % 64 / 32 % 2, z % 64 / 16 % 2, z % 64 / 8 % 2, z % 64 / 4 % 2, z % 64 / 2 % 2, z % 64 % 2] = z := by
  simp only [hor, List.foldl_cons, List.foldl_nil]; omega

theorem oc_cor : ∀ s : List UInt8, oc (bl (cor s)) = s
  | [] => rfl
  | [x] => by
    have hx := x.toNat_lt
    rw [cor, bl_cons, bl_cons, num_ltr' _ (by omega), num_ltr' _ (by omega), bn6, bn6]
    simp only [List.cons_append, List.nil_append]
    rw [oc_cons, oct1' _ hx]
    simp [oc, bl]
  | [x, y] => by
    have hx := x.toNat_lt
    have hy := y.toNat_lt
    rw [cor, bl_cons, bl_cons, bl_cons, num_ltr' _ (by omega), num_ltr' _ (by omega), num_ltr' _ (by omega), bn6, bn6, bn6]
    simp only [List.cons_append, List.nil_append]
    rw [oc_cons, oc_cons, oct1 _ _ hx hy, oct2' _ _ hy]
    simp [oc, bl]
  | x :: y :: z :: r => by
    have hx := x.toNat_lt
    have hy := y.toNat_lt
    have hz := z.toNat_lt
    have ih := oc_cor r
    rw [cor]
    simp only [List.cons_append, List.nil_append]
    rw [bl_cons, bl_cons, bl_cons, bl_cons, num_ltr' _ (by omega), num_ltr' _ (by omega), num_ltr' _ (by omega), num_ltr' _ (by omega), bn6, bn6, bn6, bn6]
    simp only [List.cons_append, List.nil_append]
    rw [oc_cons, oc_cons, oc_cons, oct1 _ _ hx hy, oct2 _ _ _ hy hz, oct3 _ _ hz, ih]
    simp

/-- From place k on a text has but fillers; it has none ahead of that. -/
def Bare (s : List UInt8) (k : Nat) : Prop := k ≤ s.length ∧ (∀ i c, k ≤ i → s[i]? = some c → c = 61) ∧ (∀ c, 0 < k → s[k - 1]? = some c → c ≠ 61)
theorem bare_cor {s b : List UInt8} {k : Nat} (h : Bare s k) (hd : dec s = some b) : s.take k = cor b := by
  have he := forth s b hd
  obtain ⟨n, hn⟩ := enc_cor b
  obtain ⟨h1, h2, h3⟩ := h
  have hs : s = cor b ++ List.replicate n 61 := by rw [← he, hn]
  have hl : s.length = (cor b).length + n := by rw [hs, List.length_append, List.length_replicate]
  have hne : ∀ i (hi : i < (cor b).length), (cor b)[i] ≠ 61 := fun i hi e => by
    obtain ⟨m, hm, e2⟩ := cor_letters b _ (List.getElem_mem hi)
    exact ltr_ne m hm (by rw [← e2, e])
  rcases Nat.lt_trichotomy k (cor b).length with hk | hk | hk
  · exfalso
    refine hne k hk (h2 k _ (Nat.le_refl _) ?_)
    rw [hs, List.getElem?_append_left hk, List.getElem?_eq_getElem hk]
  · rw [hs, hk, List.take_left]
  · exfalso
    refine h3 61 (by omega) ?_ rfl
    rw [hs, List.getElem?_append_right (by omega), List.getElem?_replicate, if_pos (by omega)]
theorem bare_bad {s : List UInt8} {k j : Nat} {c : UInt8} (h : Bare s k) (hc : (s.take k)[j]? = some c) (hn : numO c = none) : dec s = none := by
  cases hd : dec s with
  | none => rfl
  | some b =>
    rw [bare_cor h hd] at hc
    obtain ⟨m, hm, e⟩ := cor_letters b c (List.mem_of_getElem? hc)
    rw [e, num_ltr m hm] at hn
    cases hn
theorem bare_no {s : List UInt8} {k : Nat} (h : Bare s k) (hn : enc (oc (bl (s.take k))) ≠ s) : dec s = none := by
  cases hd : dec s with
  | none => rfl
  | some b =>
    rw [bare_cor h hd, oc_cor] at hn
    exact absurd (forth s b hd) hn
theorem bare_yes {s : List UInt8} {k : Nat} (hn : enc (oc (bl (s.take k))) = s) : dec s = some (oc (bl (s.take k))) := by
  have := back (oc (bl (s.take k)))
  rw [hn] at this
  exact this
end Go.Proofs.YtnaekjmlikhglaaDoor.bb
