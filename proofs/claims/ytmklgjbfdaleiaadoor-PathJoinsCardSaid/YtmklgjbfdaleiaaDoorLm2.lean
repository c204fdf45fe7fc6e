/- A target's answer, and what the statements ask of it. -/
import Derived.Test.YtmklgjbfdaleiaaDoorLm1
namespace Go.Proofs.YtmklgjbfdaleiaaDoor
open Go.RowKit

def hexAll : List UInt8 := [48, 49, 50, 51, 52, 53, 54, 55, 56, 57, 97, 98, 99, 100, 101, 102, 65, 66, 67, 68, 69, 70]
def hexB (c : UInt8) : Bool := hexAll.contains c
def pathAll : List UInt8 := [97, 98, 99, 100, 101, 102, 103, 104, 105, 106, 107, 108, 109, 110, 111, 112, 113, 114, 115, 116, 117, 118, 119, 120, 121, 122, 65, 66, 67, 68, 69, 70, 71, 72, 73, 74, 75, 76, 77, 78, 79, 80, 81, 82, 83, 84, 85, 86, 87, 88, 89, 90, 48, 49, 50, 51, 52, 53, 54, 55, 56, 57, 45, 46, 95, 126, 33, 36, 38, 39, 40, 41, 42, 43, 44, 59, 61, 58, 64, 47]
def pathB (c : UInt8) : Bool := pathAll.contains c
theorem path_pct : pathB 37 = false := by decide
theorem path_q : pathB 63 = false := by decide
theorem all_bytes {p : UInt8 → Bool} (h : ∀ n : Fin 256, p (UInt8.ofNat n.1) = true) (c : UInt8) : p c = true := by
  have := h ⟨c.toNat, c.toNat_lt⟩
  simp only [UInt8.ofNat_toNat] at this
  exact this
theorem hex_not (c : UInt8) (h : hexB c = true) : c ≠ 37 ∧ c ≠ 63 := by
  have := all_bytes (p := fun c => !hexB c || (c != 37 && c != 63)) (by decide +kernel) c
  simp only [h, Bool.not_true, Bool.false_or, Bool.and_eq_true, bne_iff_ne] at this
  exact this
/-- A path's characters, and a query's: percent signs with two digits behind. -/
def okT : List UInt8 → Bool
  | [] => true
  | [c] => c == 63 || pathB c
  | [c, d] => (c == 63 || pathB c) && (d == 63 || pathB d)
  | c :: x :: y :: r => if c = 37 ∧ hexB x = true ∧ hexB y = true then okT r else (c == 63 || pathB c) && okT (x :: y :: r)
theorem okT_one {c : UInt8} {r : List UInt8} (h : c ≠ 37) : okT (c :: r) = ((c == 63 || pathB c) && okT r) := by
  match r with
  | [] => simp [okT]
  | [d] => simp [okT]
  | x :: y :: r => rw [okT, if_neg (fun e => h e.1)]
theorem okT_pct {x y : UInt8} {r : List UInt8} (hx : hexB x = true) (hy : hexB y = true) : okT (37 :: x :: y :: r) = okT r := by rw [okT, if_pos ⟨rfl, hx, hy⟩]
theorem okT_bad {r : List UInt8} (h : ∀ x y q, r = x :: y :: q → ¬ (hexB x = true ∧ hexB y = true)) : okT (37 :: r) = false := by
  match r with
  | [] => decide
  | [d] => simp [okT, path_pct]
  | x :: y :: r =>
    rw [okT, if_neg (fun e => h x y r rfl e.2)]
    simp [path_pct]
/-- The three ways in which a text that fits may begin. -/
theorem okT_cases {s : List UInt8} (h : okT s = true) : s = [] ∨ (∃ c r, s = c :: r ∧ c ≠ 37 ∧ (c == 63 || pathB c) = true ∧ okT r = true) ∨ (∃ x y r, s = 37 :: x :: y :: r ∧ hexB x = true ∧ hexB y = true ∧ okT r = true) := by
  match s with
  | [] => exact .inl rfl
  | c :: r =>
    by_cases hc : c = 37
    · subst hc
      by_cases hr : ∃ x y q, r = x :: y :: q ∧ hexB x = true ∧ hexB y = true
      · obtain ⟨x, y, q, rfl, hx, hy⟩ := hr
        rw [okT_pct hx hy] at h
        exact .inr (.inr ⟨x, y, q, rfl, hx, hy, h⟩)
      · rw [okT_bad (fun x y q e he => hr ⟨x, y, q, e, he⟩)] at h; cases h
    · rw [okT_one hc, Bool.and_eq_true] at h
      exact .inr (.inl ⟨c, r, rfl, hc, h.1, h.2⟩)
theorem okT_append : ∀ (n : Nat) (a b : List UInt8), a.length ≤ n → okT a = true → okT (a ++ b) = okT b
  | 0, a, b, hn, _ => by
    obtain rfl := List.length_eq_zero_iff.1 (Nat.le_zero.1 hn); rfl
  | n + 1, a, b, hn, h => by
    rcases okT_cases h with rfl | ⟨c, r, rfl, hc, hp, hr⟩ | ⟨x, y, r, rfl, hx, hy, hr⟩
    · rfl
    · rw [List.cons_append, okT_one hc, hp, Bool.true_and]
      exact okT_append n r b (by simp at hn; omega) hr
    · rw [List.cons_append, List.cons_append, List.cons_append, okT_pct hx hy]
      exact okT_append n r b (by simp at hn; omega) hr
/-- A text split at a question mark. -/
theorem okT_mark : ∀ (n : Nat) (a b : List UInt8), a.length ≤ n → 63 ∉ a → okT (a ++ 63 :: b) = true → okT a = true ∧ okT b = true
  | 0, a, b, hn, _, h => by
    obtain rfl := List.length_eq_zero_iff.1 (Nat.le_zero.1 hn)
    rw [List.nil_append, okT_one (by decide)] at h
    exact ⟨rfl, by simpa using h⟩
  | n + 1, [], b, _, _, h => by
    rw [List.nil_append, okT_one (by decide)] at h
    exact ⟨rfl, by simpa using h⟩
  | n + 1, c :: a, b, hn, hq, h => by
    simp only [List.length_cons] at hn
    rcases okT_cases h with h0 | ⟨c', r, e, hc, hp, hr⟩ | ⟨x, y, r, e, hx, hy, hr⟩
    · cases h0
    · rw [List.cons_append] at e
      obtain ⟨rfl, rfl⟩ := List.cons.inj e
      obtain ⟨h1, h2⟩ := okT_mark n a b (by omega) (fun hm => hq (List.mem_cons_of_mem _ hm)) hr
      exact ⟨by rw [okT_one hc, hp, h1]; rfl, h2⟩
    · rw [List.cons_append] at e
      obtain ⟨rfl, e⟩ := List.cons.inj e
      replace e := (List.cons.inj e).2
      rcases a with _ | ⟨d, _ | ⟨f, a⟩⟩
      · have e1 := (List.cons.inj e).1
        exact absurd e1.symm (hex_not _ hx).2
      · have e1 := (List.cons.inj (List.cons.inj e).2).1
        exact absurd e1.symm (hex_not _ hy).2
      · have e1 := (List.cons.inj e).1
        have e2 := (List.cons.inj (List.cons.inj e).2).1
        have e3 := (List.cons.inj (List.cons.inj e).2).2
        subst e1 e2
        rw [← e3] at hr
        simp only [List.length_cons] at hn
        obtain ⟨h1, h2⟩ := okT_mark n a b (by omega) (fun hm => hq (List.mem_cons_of_mem _ (List.mem_cons_of_mem _ (List.mem_cons_of_mem _ hm)))) hr
        exact ⟨by rw [okT_pct hx hy]; exact h1, h2⟩
/-- A beginning fits just if it cuts no percent sign's digits. -/
theorem okT_take : ∀ (n : Nat) (p : List UInt8) (k : Nat), p.length ≤ n → okT p = true → 1 ≤ k → k ≤ p.length → okT (p.take k) = !(p[k - 1]? == some 37 || (decide (2 ≤ k) && p[k - 2]? == some 37))
  | 0, p, k, hn, _, h1, h2 => by omega
  | n + 1, p, k, hn, h, h1, h2 => by
    rcases okT_cases h with rfl | ⟨c, r, rfl, hc, hp, hr⟩ | ⟨x, y, r, rfl, hx, hy, hr⟩
    · simp at h2; omega
    · simp only [List.length_cons] at hn h2
      obtain ⟨j, rfl⟩ : ∃ j, k = j + 1 := ⟨k - 1, by omega⟩
      rw [List.take_succ_cons, okT_one hc, hp, Bool.true_and]
      rcases Nat.eq_zero_or_pos j with rfl | hj
      · simp [okT, hc]
      · rw [okT_take n r j (by omega) hr hj (by omega)]
        obtain ⟨i, rfl⟩ : ∃ i, j = i + 1 := ⟨j - 1, by omega⟩
        rcases Nat.eq_zero_or_pos i with rfl | hi
        · simp [hc]
        · obtain ⟨m, rfl⟩ : ∃ m, i = m + 1 := ⟨i - 1, by omega⟩
          simp
    · simp only [List.length_cons] at hn h2
      have hx' := hex_not x hx
      have hy' := hex_not y hy
      rcases Nat.lt_or_ge k 4 with hk | hk
      · have : k = 1 ∨ k = 2 ∨ k = 3 := by omega
        rcases this with rfl | rfl | rfl
        · simp [okT, path_pct]
        · simp [okT, path_pct]
        · rw [show (37 :: x :: y :: r).take 3 = 37 :: x :: y :: [] from rfl, okT_pct hx hy]
          simp [okT, hx'.1, hy'.1]
      · obtain ⟨j, rfl⟩ : ∃ j, k = j + 3 := ⟨k - 3, by omega⟩
        rw [show (37 :: x :: y :: r).take (j + 3) = 37 :: x :: y :: r.take j from rfl, okT_pct hx hy, okT_take n r j (by omega) hr (by omega) (by omega)]
        obtain ⟨i, rfl⟩ : ∃ i, j = i + 1 := ⟨j - 1, by omega⟩
        rcases Nat.eq_zero_or_pos i with rfl | hi
        · simp [hy'.1]
        · obtain ⟨m, rfl⟩ : ∃ m, i = m + 1 := ⟨i - 1, by omega⟩
          simp

def targetF (s : List UInt8) : List UInt8 × List UInt8 × Bool :=
  if s[0]? ≠ some 47 ∨ 512 < s.length ∨ okT s = false then ([], [], false)
  else if 63 ∉ s then (s, [], true) else (s.takeWhile (notB 63), s.drop ((s.takeWhile (notB 63)).length + 1), true)
def targetV (p : List UInt8 × List UInt8 × Bool) : Value := .tuple #[S p.1, S p.2.1, .bool p.2.2]
theorem not_mem_all {k : UInt8} {a : List UInt8} (h : k ∉ a) : a.all (notB k) = true := by
  rw [List.all_eq_true]
  intro c hc
  unfold notB
  rw [bne_iff_ne]
  rintro rfl
  exact h hc
theorem target_false {s p q : List UInt8} (h : targetF s = (p, q, false)) : p = [] ∧ q = [] := by
  unfold targetF at h
  split at h
  · cases h; exact ⟨rfl, rfl⟩
  · split at h <;> cases h
/-- A path that fits, alone. -/
theorem target_path {p : List UInt8} (h0 : p[0]? = some 47) (hl : p.length ≤ 512) (ho : okT p = true) (hq : 63 ∉ p) : targetF p = (p, [], true) := by
  unfold targetF
  rw [if_neg, if_pos hq]
  rintro (h | h | h)
  · exact h h0
  · omega
  · rw [ho] at h; cases h
theorem target_none {p : List UInt8} (ho : okT p = false) : targetF p = ([], [], false) := by
  unfold targetF; rw [if_pos (.inr (.inr ho))]
theorem target_query {p q : List UInt8} (h0 : p[0]? = some 47) (hl : p.length + 1 + q.length ≤ 512) (ho : okT p = true) (hoq : okT q = true) (hq : 63 ∉ p) : targetF ((p ++ [63]) ++ q) = (p, q, true) := by
  have e : (p ++ [63]) ++ q = p ++ 63 :: q := by simp
  have hp0 : 0 < p.length := by
    cases p with
    | nil => cases h0
    | cons => simp
  rw [e]
  unfold targetF
  have ht : (p ++ 63 :: q).takeWhile (notB 63) = p := take_while_stop (not_mem_all hq) rfl
  rw [if_neg, if_neg (fun hn => hn (by simp)), ht]
  · rw [List.drop_append, List.drop_of_length_le (by omega), show p.length + 1 - p.length = 1 by omega]; rfl
  · rintro (h | h | h)
    · rw [List.getElem?_append_left hp0] at h; exact h h0
    · rw [List.length_append, List.length_cons] at h; omega
    · rw [okT_append _ p _ (Nat.le_refl _) ho, okT_one (by decide), hoq] at h; cases h
theorem target_long {s : List UInt8} (h : 512 < s.length) : targetF s = ([], [], false) := by
  unfold targetF; rw [if_pos (.inr (.inl h))]
/-- What a target that fits says. -/
theorem target_true {s p q : List UInt8} (h : targetF s = (p, q, true)) : p[0]? = some 47 ∧ okT p = true ∧ okT q = true ∧ 63 ∉ p ∧ p.length ≤ 512 ∧ q.length ≤ 512 ∧ p.length + q.length ≤ s.length ∧ s.length ≤ 512 ∧ okT s = true := by
  unfold targetF at h
  split at h
  · cases h
  · rename_i hc
    have h0 : s[0]? = some 47 := Classical.byContradiction fun e => hc (.inl e)
    have hl : s.length ≤ 512 := Nat.le_of_not_lt fun e => hc (.inr (.inl e))
    have ho : okT s = true := by
      cases ho : okT s with
      | true => rfl
      | false => exact absurd (.inr (.inr ho)) hc
    split at h
    · rename_i hm
      cases h
      exact ⟨h0, ho, rfl, hm, hl, by simp, by simp, hl, ho⟩
    · rename_i hm
      replace hm := Classical.not_not.1 hm
      obtain ⟨a, b, rfl, hab⟩ : ∃ a b, s = a ++ 63 :: b ∧ 63 ∉ a := by
        clear h ho hc h0 hl
        induction s with
        | nil => cases hm
        | cons c s ih =>
          by_cases hc : c = 63
          · exact ⟨[], s, by rw [hc]; rfl, List.not_mem_nil⟩
          · rcases List.mem_cons.1 hm with e | hm
            · exact absurd e.symm hc
            · obtain ⟨a, b, rfl, h⟩ := ih hm
              exact ⟨c :: a, b, rfl, fun hm => by
                rcases List.mem_cons.1 hm with e | hm
                · exact hc e.symm
                · exact h hm⟩
      have ht : (a ++ 63 :: b).takeWhile (notB 63) = a := take_while_stop (not_mem_all hab) rfl
      have hd : (a ++ 63 :: b).drop (a.length + 1) = b := by
        rw [List.drop_append, List.drop_of_length_le (by omega), show a.length + 1 - a.length = 1 by omega]; rfl
      rw [ht, hd] at h
      cases h
      obtain ⟨h1, h2⟩ := okT_mark _ p q (Nat.le_refl _) hab ho
      have hll := hl
      rw [List.length_append, List.length_cons] at hll
      have ha0 : 0 < p.length := by
        cases p with
        | nil => cases h0
        | cons => simp
      rw [List.getElem?_append_left ha0] at h0
      exact ⟨h0, h1, h2, hab, by omega, by omega, by rw [List.length_append, List.length_cons]; omega, hl, ho⟩
/-- A target's characters are all to be seen. -/
theorem okT_vis : ∀ (n : Nat) (s : List UInt8), s.length ≤ n → okT s = true → s.all visB = true
  | 0, s, hn, _ => by
    obtain rfl := List.length_eq_zero_iff.1 (Nat.le_zero.1 hn); rfl
  | n + 1, s, hn, h => by
    have hv := fun c => all_bytes (p := fun c => !(c == 63 || pathB c) || visB c) (by decide +kernel) c
    have hx' := fun c => all_bytes (p := fun c => !hexB c || visB c) (by decide +kernel) c
    rcases okT_cases h with rfl | ⟨c, r, rfl, hc, hp, hr⟩ | ⟨x, y, r, rfl, hx, hy, hr⟩
    · rfl
    · have := hv c
      rw [hp] at this
      rw [List.all_cons, okT_vis n r (by simp at hn; omega) hr]
      simpa using this
    · have h1 := hx' x
      have h2 := hx' y
      rw [hx] at h1
      rw [hy] at h2
      have e37 : visB 37 = true := by decide
      rw [List.all_cons, List.all_cons, List.all_cons, okT_vis n r (by simp at hn; omega) hr, e37]
      simpa using And.intro h1 h2
theorem target_vis {s p q : List UInt8} (h : targetF s = (p, q, true)) : s.all visB = true ∧ s ≠ [] := by
  obtain ⟨_, _, _, _, _, _, _, _, ho⟩ := target_true h
  refine ⟨okT_vis _ s (Nat.le_refl _) ho, ?_⟩
  rintro rfl
  unfold targetF at h
  rw [if_pos (.inl (by simp))] at h; cases h
end Go.Proofs.YtmklgjbfdaleiaaDoor
