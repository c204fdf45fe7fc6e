/- The landed frames as list functions: which form a number has, its bytes, and the whole. -/
import Derived.Test.YtlmolmmhkddpaaaEa
namespace Go.Proofs.Ytlmolmmhkddpaaa

/-! The form in which a number is said. -/
def leastB (n : Nat) : UInt8 := if n < 126 then UInt8.ofNat n else if n < 65536 then 126 else 127
def widN (c : UInt8) : Nat := if c.toNat = 126 then 2 else if c.toNat = 127 then 8 else 0
def formB (b : UInt8) : UInt8 := UInt8.ofNat (b.toNat % 128)
theorem formB_nat (b : UInt8) : (formB b).toNat = b.toNat % 128 := by
  unfold formB; exact toNat_of (by omega)
theorem wid_form (b : UInt8) : widN (formB b) = wideN b.toNat := by
  unfold widN wideN; rw [formB_nat]
theorem wid_three (c : UInt8) : widN c = 0 ∨ widN c = 2 ∨ widN c = 8 := by
  unfold widN; split
  · exact .inr (.inl rfl)
  · split
    · exact .inr (.inr rfl)
    · exact .inl rfl
def numL (c : UInt8) (s : List UInt8) : Nat := if c.toNat < 126 then c.toNat else ofBE (s.take (widN c))
theorem form_lt (b : UInt8) : (formB b).toNat < 128 := by rw [formB_nat]; omega
theorem wid_zero {c : UInt8} (h : c.toNat < 128) : widN c = 0 ↔ c.toNat < 126 := by
  unfold widN
  by_cases h1 : c.toNat = 126
  · rw [if_pos h1]; omega
  · rw [if_neg h1]
    by_cases h2 : c.toNat = 127
    · rw [if_pos h2]; omega
    · rw [if_neg h2]; omega
theorem num_form (b : UInt8) (t : List UInt8) : numL (formB b) t = if wideN b.toNat = 0 then b.toNat % 128 else ofBE (t.take (wideN b.toNat)) := by
  unfold numL
  rw [← wid_form, formB_nat]
  by_cases h : b.toNat % 128 < 126
  · rw [if_pos h, if_pos ((wid_zero (form_lt b)).2 (by rw [formB_nat]; exact h))]
  · rw [if_neg h, if_neg fun e => h (by rw [← formB_nat]; exact (wid_zero (form_lt b)).1 e)]
theorem ofBE_take_lt (t : List UInt8) (k : Nat) : ofBE (t.take k) < 256 ^ k := by
  have := ofBE_lt (t.take k)
  have h2 : (t.take k).length ≤ k := by rw [List.length_take]; omega
  have := Nat.pow_le_pow_right (n := 256) (by decide) h2
  omega
theorem least_form (b : UInt8) (t : List UInt8) : (formB b == leastB (numL (formB b) t)) = leastN (wideN b.toNat) (numL (formB b) t) := by
  obtain ⟨x, hx⟩ : ∃ x, x = numL (formB b) t := ⟨_, rfl⟩
  rw [← hx]
  have hf := formB_nat b
  have h3 := wid_three (formB b)
  have h0 := wid_zero (form_lt b)
  rw [wid_form] at h3 h0
  have hL : ∀ c d : UInt8, (c == d) = decide (c.toNat = d.toNat) := fun c d => by
    by_cases h : c = d
    · rw [h]; simp
    · have : c.toNat ≠ d.toNat := fun e => h (UInt8.toNat_inj.1 e)
      rw [decide_eq_false this]; simpa using h
  rw [hL]
  unfold leastN
  rcases h3 with h | h | h
  · have h1 := h0.1 h
    have hxv : x = (formB b).toNat := by rw [hx]; unfold numL; rw [if_pos h1]
    have e : (leastB x).toNat = x := by unfold leastB; rw [if_pos (by omega)]; exact toNat_of (by omega)
    rw [e, hxv, h, decide_eq_true (rfl : (formB b).toNat = (formB b).toNat)]
    rfl
  · have h1 : ¬ (formB b).toNat < 126 := fun e => by have := h0.2 e; omega
    have hxl : x < 65536 := by
      rw [hx]; unfold numL; rw [if_neg h1, wid_form, h]; exact ofBE_take_lt t 2
    have hb : (formB b).toNat = 126 := by
      rw [← wid_form] at h; unfold widN at h
      split at h
      · assumption
      · split at h <;> cases h
    rw [h, hb]
    unfold leastB
    by_cases hc : x < 126
    · rw [if_pos hc, toNat_of (by omega)]
      have e1 : decide (126 = x) = false := decide_eq_false (by omega)
      have e2 : decide (2 = 2 ∧ 125 < x) = false := decide_eq_false (by omega)
      have e3 : decide (2 = 8 ∧ 65535 < x) = false := decide_eq_false (by omega)
      have e4 : decide ((2 : Nat) = 0) = false := rfl
      rw [e1, e2, e3, e4]; rfl
    · rw [if_neg hc, if_pos hxl]
      have e2 : decide (2 = 2 ∧ 125 < x) = true := decide_eq_true (by omega)
      rw [e2]; simp
  · have h1 : ¬ (formB b).toNat < 126 := fun e => by have := h0.2 e; omega
    have hb : (formB b).toNat = 127 := by
      rw [← wid_form] at h; unfold widN at h
      split at h
      · cases h
      · split at h
        · assumption
        · cases h
    rw [h, hb]
    unfold leastB
    by_cases hc : x < 126
    · rw [if_pos hc, toNat_of (by omega)]
      have e1 : decide (127 = x) = false := decide_eq_false (by omega)
      have e2 : decide (8 = 2 ∧ 125 < x) = false := decide_eq_false (by omega)
      have e3 : decide (8 = 8 ∧ 65535 < x) = false := decide_eq_false (by omega)
      have e4 : decide ((8 : Nat) = 0) = false := rfl
      rw [e1, e2, e3, e4]; rfl
    · rw [if_neg hc]
      by_cases hd : x < 65536
      · rw [if_pos hd]
        have e2 : decide (8 = 2 ∧ 125 < x) = false := decide_eq_false (by omega)
        have e3 : decide (8 = 8 ∧ 65535 < x) = false := decide_eq_false (by omega)
        have e4 : decide ((8 : Nat) = 0) = false := rfl
        rw [e2, e3, e4]; rfl
      · rw [if_neg hd]
        have e3 : decide (8 = 8 ∧ 65535 < x) = true := decide_eq_true (by omega)
        rw [e3]; simp
/-- The head, as it is read. -/
theorem headOf_eq (a b : UInt8) (t : List UInt8) : headOf a b t = ⟨decide (128 ≤ a.toNat), a.toNat / 16 % 8, a.toNat % 16, decide (128 ≤ b.toNat), if 128 ≤ b.toNat then keyOf (t.drop (wideN b.toNat)) else key0, numL (formB b) t, formB b == leastB (numL (formB b) t)⟩ := by
  rw [least_form, num_form]; rfl

/-! A number's bytes, written from the end. -/
theorem be_front : ∀ (k n : Nat), be (k + 1) n = UInt8.ofNat (n / 256 ^ k % 256) :: be k n
  | 0, n => by rw [be, be, be]; simp
  | k + 1, n => by
    rw [be, be_front k (n / 256), be, List.cons_append, Nat.div_div_eq_div_mul, Nat.pow_succ, Nat.mul_comm 256]
/-- What stands in a row while the number is written into the k places behind o: i of them are done. -/
def putL (L : List UInt8) (o k n i : Nat) : List UInt8 := L.take (o + (k - i)) ++ (be i n ++ L.drop (o + k))
theorem putL_len {L : List UInt8} {o k n i : Nat} (h : o + k ≤ L.length) (hi : i ≤ k) : (putL L o k n i).length = L.length := by
  unfold putL
  rw [List.length_append, List.length_append, List.length_take, List.length_drop, be_len]; omega
theorem putL_zero {L : List UInt8} {o k n : Nat} : putL L o k n 0 = L := by
  unfold putL
  rw [Nat.sub_zero, be, List.nil_append, List.take_append_drop]
theorem putL_next {L : List UInt8} {o k n i : Nat} (h : o + k ≤ L.length) (hi : i < k) : (putL L o k n i).set (o + (k - 1 - i)) (UInt8.ofNat (n / 256 ^ i % 256)) = putL L o k n (i + 1) := by
  unfold putL
  have e : o + (k - i) = o + (k - 1 - i) + 1 := by omega
  obtain ⟨p, hp⟩ : ∃ p, p = o + (k - 1 - i) := ⟨_, rfl⟩
  rw [e, ← hp, show o + (k - (i + 1)) = p by omega, be_front, List.cons_append]
  have hpl : p < L.length := by omega
  rw [List.take_add_one, List.getElem?_eq_getElem hpl, Option.toList_some, List.append_assoc, List.set_append_right _ _ (by rw [List.length_take]; omega), List.length_take, show p - min p L.length = 0 by omega]
  rfl

/-! The whole. -/
theorem firstB_or (f : Frm) (h : okFr f = true) : firstB f = UInt8.ofNat (finN f.fin) ||| UInt8.ofNat (16 * f.rsv.toNat + f.op.toNat) := by
  obtain ⟨h1, h2, h3, h4, -⟩ := okFr_parts h
  unfold firstB
  obtain ⟨x, hx⟩ : ∃ x, x = 16 * f.rsv.toNat + f.op.toNat := ⟨_, rfl⟩
  rw [Nat.add_assoc, ← hx]
  have hxl : x < 128 := by omega
  have key : ∀ y : Fin 128, UInt8.ofNat (128 + y.1) = UInt8.ofNat 128 ||| UInt8.ofNat y.1 := by decide +kernel
  have key2 : ∀ y : Fin 128, UInt8.ofNat (0 + y.1) = UInt8.ofNat 0 ||| UInt8.ofNat y.1 := by decide +kernel
  cases f.fin
  · exact key2 ⟨x, hxl⟩
  · exact key ⟨x, hxl⟩
theorem lenB_or (m : Bool) (n : Nat) : lenB (finN m) n = (UInt8.ofNat (finN m) ||| leastB n) :: be (widN (leastB n)) n := by
  have key : ∀ y : Fin 128, UInt8.ofNat (128 + y.1) = UInt8.ofNat 128 ||| UInt8.ofNat y.1 := by decide +kernel
  have key2 : ∀ y : Fin 128, UInt8.ofNat (0 + y.1) = UInt8.ofNat 0 ||| UInt8.ofNat y.1 := by decide +kernel
  have both : ∀ x, x < 128 → UInt8.ofNat (finN m + x) = UInt8.ofNat (finN m) ||| UInt8.ofNat x := fun x hx => by
    cases m
    · exact key2 ⟨x, hx⟩
    · exact key ⟨x, hx⟩
  unfold lenB leastB
  by_cases h : n < 126
  · rw [if_pos (by omega), if_pos h, both n (by omega)]
    have : widN (UInt8.ofNat n) = 0 := by unfold widN; rw [toNat_of (by omega), if_neg (by omega), if_neg (by omega)]
    rw [this]; rfl
  · rw [if_neg (by omega), if_neg h]
    by_cases h2 : n < 65536
    · rw [if_pos (by omega), if_pos h2, both 126 (by omega)]; rfl
    · rw [if_neg (by omega), if_neg h2, both 127 (by omega)]; rfl
end Go.Proofs.Ytlmolmmhkddpaaa
