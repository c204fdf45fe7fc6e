/- A character's number spells its bytes; characters stand one behind the other; what ends where the last one ends is a text. -/
import Derived.Test.YtmamklahnpmgjaaM2
namespace Go.Proofs.Ytmamklahnpmgjaa

/-- A character's bytes. -/
def IsChar (u : List UInt8) : Prop := ∃ c t T, u = c :: t ∧ nextF [] c = some T ∧ pre T t = T.length ∧ t.length = T.length
theorem pre_take : ∀ (T : List (UInt8 × UInt8)) (r : List UInt8), pre T r = T.length → pre T (r.take T.length) = T.length ∧ (r.take T.length).length = T.length
  | [], r, _ => by cases r <;> exact ⟨rfl, rfl⟩
  | ab :: T, [], h => by simp [pre] at h
  | ab :: T, c :: r, h => by
    rw [pre_head] at h
    by_cases hw : within ab c = true
    · rw [if_pos hw, List.length_cons] at h
      obtain ⟨h1, h2⟩ := pre_take T r (by omega)
      rw [List.length_cons, List.take_succ_cons, pre_head, if_pos hw, h1, List.length_cons, h2]
      exact ⟨rfl, rfl⟩
    · rw [if_neg hw] at h; cases h
theorem chars_isChar (s : List UInt8) : ∀ (m p : Nat), s.length - p ≤ m → p ≤ s.length → ∀ x ∈ charsF p p [] (s.drop p), IsChar ((s.drop x.1).take (x.2 - x.1)) := by
  intro m
  induction m with
  | zero =>
    intro p hm hp x hx
    rw [List.drop_eq_nil_of_le (by omega)] at hx
    cases hx
  | succ m ih =>
    intro p hm hp x hx
    by_cases hlt : p < s.length
    · obtain ⟨c, r, hs⟩ : ∃ c r, s.drop p = c :: r := ⟨_, _, List.drop_eq_getElem_cons hlt⟩
      have hrl : r.length = s.length - p - 1 := by
        have := congrArg List.length hs
        rw [List.length_drop, List.length_cons] at this; omega
      have hrd : ∀ j, r.drop j = s.drop (p + (j + 1)) := fun j => by
        rw [← List.drop_drop, hs, List.drop_succ_cons]
      rw [hs] at hx
      cases hn : nextF [] c with
      | none => rw [charsF_bad hn] at hx; cases hx
      | some T =>
        have hpl := pre_le T r
        by_cases ha : pre T r = T.length
        · have hch : charsF p p [] (c :: r) = (p, p + (T.length + 1)) :: charsF (p + (T.length + 1)) (p + (T.length + 1)) [] (s.drop (p + (T.length + 1))) := by
            cases hT : T.isEmpty with
            | true =>
              obtain rfl : T = [] := List.isEmpty_iff.1 hT
              rw [charsF_end hn hT]
              have := hrd 0
              rw [List.drop_zero] at this
              rw [this]; rfl
            | false =>
              have hne : T ≠ [] := fun h => by rw [h] at hT; cases hT
              rw [charsF_more hn hT, (charsF_tail T r (p + 1) p hne).1 ha, hrd, show p + 1 + T.length = p + (T.length + 1) by omega]
          rw [hch] at hx
          rcases List.mem_cons.1 hx with rfl | hx
          · have ht := pre_take T r ha
            refine ⟨c, r.take T.length, T, ?_, hn, ht.1, ht.2⟩
            show (s.drop p).take (p + (T.length + 1) - p) = _
            rw [hs, Nat.add_sub_cancel_left, List.take_succ_cons]
          · exact ih (p + (T.length + 1)) (by omega) (by omega) x hx
        · have hT : T.isEmpty = false := by
            cases T with
            | nil => exact absurd (by cases r <;> rfl) ha
            | cons ab T => rfl
          have hne : T ≠ [] := fun h => by rw [h] at hT; cases hT
          rw [charsF_more hn hT, (charsF_tail T r (p + 1) p hne).2 ha] at hx
          cases hx
    · rw [List.drop_eq_nil_of_le (by omega)] at hx
      cases hx
theorem char_of {s : List UInt8} {x : Nat × Nat} (hx : x ∈ chars s) : IsChar ((s.drop x.1).take (x.2 - x.1)) := chars_isChar s s.length 0 (by omega) (Nat.zero_le _) x hx

theorem ofNat_eq {n : Nat} {c : UInt8} (h : n = c.toNat) : UInt8.ofNat n = c := by
  apply UInt8.toNat_inj.1
  rw [UInt8.toNat_ofNat']
  have := c.toNat_lt
  omega
theorem valid_of {n : Nat} (h : n < 55296 ∨ (57344 ≤ n ∧ n ≤ 1114111)) : Utf8.valid (n : Int) = true := by
  unfold Utf8.valid
  simp only [Bool.or_eq_true, Bool.and_eq_true, decide_eq_true_eq]
  omega
theorem enc1 (c : UInt8) (h : c.toNat ≤ 127) : Utf8.encode ((c.toNat : Nat) : Int) = ⟨#[c]⟩ := by
  unfold Utf8.encode
  rw [valid_of (by omega)]
  simp only [if_true, Int.toNat_natCast]
  rw [if_pos (by omega), ofNat_eq rfl]
theorem enc2 (c b : UInt8) (hc : 194 ≤ c.toNat ∧ c.toNat ≤ 223) (hb : 128 ≤ b.toNat ∧ b.toNat ≤ 191) : Utf8.encode ((64 * (c.toNat % 32) + b.toNat % 64 : Nat) : Int) = ⟨#[c, b]⟩ := by
  unfold Utf8.encode
  rw [valid_of (by omega)]
  simp only [if_true, Int.toNat_natCast]
  rw [if_neg (by omega), if_pos (by omega), ofNat_eq (c := c) (by omega), ofNat_eq (c := b) (by omega)]
theorem enc3 (c b d : UInt8) (hc : 224 ≤ c.toNat ∧ c.toNat ≤ 239) (hb : 128 ≤ b.toNat ∧ b.toNat ≤ 191) (hd : 128 ≤ d.toNat ∧ d.toNat ≤ 191) (n : Nat) (hn : n = 64 * (64 * (c.toNat % 16) + b.toNat % 64) + d.toNat % 64)
    (hlow : 2048 ≤ n) (hv : n < 55296 ∨ 57344 ≤ n) : Utf8.encode (n : Int) = ⟨#[c, b, d]⟩ := by
  unfold Utf8.encode
  rw [valid_of (by omega)]
  simp only [if_true, Int.toNat_natCast]
  rw [if_neg (by omega), if_neg (by omega), if_pos (by omega), ofNat_eq (c := c) (by omega), ofNat_eq (c := b) (by omega), ofNat_eq (c := d) (by omega)]
theorem enc4 (c b d e : UInt8) (hc : 240 ≤ c.toNat ∧ c.toNat ≤ 244) (hb : 128 ≤ b.toNat ∧ b.toNat ≤ 191) (hd : 128 ≤ d.toNat ∧ d.toNat ≤ 191) (he : 128 ≤ e.toNat ∧ e.toNat ≤ 191) (n : Nat)
    (hn : n = 64 * (64 * (64 * (c.toNat % 8) + b.toNat % 64) + d.toNat % 64) + e.toNat % 64)
    (hlow : 65536 ≤ n) (hv : n ≤ 1114111) : Utf8.encode (n : Int) = ⟨#[c, b, d, e]⟩ := by
  unfold Utf8.encode
  rw [valid_of (by omega)]
  simp only [if_true, Int.toNat_natCast]
  rw [if_neg (by omega), if_neg (by omega), if_neg (by omega), ofNat_eq (c := c) (by omega), ofNat_eq (c := b) (by omega), ofNat_eq (c := d) (by omega), ofNat_eq (c := e) (by omega)]

theorem pre_one {ab : UInt8 × UInt8} {T : List (UInt8 × UInt8)} {t : List UInt8} (h : pre (ab :: T) t = (ab :: T).length) (hl : t.length = (ab :: T).length) :
    ∃ b t', t = b :: t' ∧ (ab.1.toNat ≤ b.toNat ∧ b.toNat ≤ ab.2.toNat) ∧ pre T t' = T.length ∧ t'.length = T.length := by
  cases t with
  | nil => cases hl
  | cons b t =>
    rw [pre_head] at h
    by_cases hw : within ab b = true
    · rw [if_pos hw, List.length_cons] at h
      exact ⟨b, t, rfl, (within_nat ab b).1 hw, by omega, by simpa using hl⟩
    · rw [if_neg hw] at h; cases h
theorem pre_none {t : List UInt8} (hl : t.length = ([] : List (UInt8 × UInt8)).length) : t = [] := List.eq_nil_of_length_eq_zero hl

/-- A character's number is one, and its letters are the character's bytes. -/
theorem char_num {u : List UInt8} (h : IsChar u) : (runeN u < 55296 ∨ (57344 ≤ runeN u ∧ runeN u ≤ 1114111)) ∧ Utf8.encode (runeN u : Int) = ⟨u.toArray⟩ := by
  obtain ⟨c, t, T, rfl, hn, hp, hl⟩ := h
  rw [nextF] at hn
  cases hf : shp.find? (headFits c) with
  | none => rw [hf] at hn; cases hn
  | some l =>
    rw [hf] at hn
    obtain rfl := Option.some.inj hn
    have hm := List.mem_of_find?_eq_some hf
    have hfit := List.find?_some hf
    simp only [shp, List.mem_cons, List.not_mem_nil, or_false] at hm
    rcases hm with rfl | rfl | rfl | rfl | rfl | rfl | rfl | rfl | rfl
    · obtain rfl := pre_none hl
      have hc := (within_nat _ c).1 hfit
      simp only [UInt8.reduceToNat] at hc
      have e : runeN [c] = c.toNat := rfl
      rw [e]
      exact ⟨by omega, enc1 c hc.2⟩
    · obtain ⟨b, t, rfl, hb, hp, hl⟩ := pre_one hp hl
      obtain rfl := pre_none hl
      have hc := (within_nat _ c).1 hfit
      simp only [UInt8.reduceToNat] at hc hb
      have e : runeN [c, b] = 64 * (c.toNat % 32) + b.toNat % 64 := rfl
      rw [e]
      exact ⟨by omega, enc2 c b hc hb⟩
    all_goals
      first
      | (obtain ⟨b, t, rfl, hb, hp, hl⟩ := pre_one hp hl
         obtain ⟨d, t, rfl, hd, hp, hl⟩ := pre_one hp hl
         obtain rfl := pre_none hl
         have hc := (within_nat _ c).1 hfit
         simp only [UInt8.reduceToNat] at hc hb hd
         have e : runeN [c, b, d] = 64 * (64 * (c.toNat % 16) + b.toNat % 64) + d.toNat % 64 := rfl
         rw [e]
         exact ⟨by omega, enc3 c b d (by omega) (by omega) (by omega) _ rfl (by omega) (by omega)⟩)
      | (obtain ⟨b, t, rfl, hb, hp, hl⟩ := pre_one hp hl
         obtain ⟨d, t, rfl, hd, hp, hl⟩ := pre_one hp hl
         obtain ⟨f, t, rfl, hf, hp, hl⟩ := pre_one hp hl
         obtain rfl := pre_none hl
         have hc := (within_nat _ c).1 hfit
         simp only [UInt8.reduceToNat] at hc hb hd hf
         have e : runeN [c, b, d, f] = 64 * (64 * (64 * (c.toNat % 8) + b.toNat % 64) + d.toNat % 64) + f.toNat % 64 := rfl
         rw [e]
         exact ⟨by omega, enc4 c b d f (by omega) (by omega) (by omega) (by omega) _ rfl (by omega) (by omega)⟩)

/-! Characters stand one behind the other. -/
def Linked : Nat → List (Nat × Nat) → Prop
  | _, [] => True
  | f, x :: L => x.1 = f ∧ Linked x.2 L
theorem charsF_linked : ∀ (r : List UInt8) (i f : Nat) (T : List (UInt8 × UInt8)), Linked f (charsF i f T r)
  | [], _, _, _ => trivial
  | c :: r, i, f, T => by
    cases hn : nextF T c with
    | none => rw [charsF_bad hn]; trivial
    | some T' =>
      cases hT : T'.isEmpty with
      | true => rw [charsF_end hn hT]; exact ⟨rfl, charsF_linked r (i + 1) (i + 1) []⟩
      | false => rw [charsF_more hn hT]; exact charsF_linked r (i + 1) f T'
theorem linked_at : ∀ (pre L : List (Nat × Nat)) (f : Nat) (x : Nat × Nat), Linked f (pre ++ x :: L) → x.1 = lastTo f pre
  | [], _, _, _, h => h.1
  | y :: pre, L, f, x, h => by rw [lastTo_cons]; exact linked_at pre L y.2 x h.2
theorem chars_at {s : List UInt8} {pre : List (Nat × Nat)} {x : Nat × Nat} (h : pre ++ [x] <+: chars s) : x.1 = lastTo 0 pre := by
  obtain ⟨t, ht⟩ := h
  refine linked_at pre t 0 x ?_
  rw [show pre ++ x :: t = pre ++ [x] ++ t by simp, ht]
  exact charsF_linked s 0 0 []

/-- What stands ahead of where the last character ends is a text. -/
theorem feed_last : ∀ (r : List UInt8) (i f : Nat) (T : List (UInt8 × UInt8)), charsF i f T r = [] ∨ (i ≤ lastTo f (charsF i f T r) ∧ lastTo f (charsF i f T r) ≤ i + r.length ∧ (feed ⟨i, T, false⟩ (r.take (lastTo f (charsF i f T r) - i))).whole = true)
  | [], _, _, _ => .inl rfl
  | c :: r, i, f, T => by
    cases hn : nextF T c with
    | none => exact .inl (charsF_bad hn)
    | some T' =>
      have e : Chk.read ⟨i, T, false⟩ c = ⟨i + 1, T', false⟩ := by simp [Chk.read, hn]
      cases hT : T'.isEmpty with
      | true =>
        obtain rfl : T' = [] := List.isEmpty_iff.1 hT
        right
        rw [charsF_end hn hT, lastTo_cons]
        show i ≤ lastTo (i + 1) (charsF (i + 1) (i + 1) [] r) ∧ lastTo (i + 1) (charsF (i + 1) (i + 1) [] r) ≤ i + (c :: r).length ∧ _
        rcases feed_last r (i + 1) (i + 1) [] with h | ⟨h1, h2, h3⟩
        · rw [h]
          have e2 : lastTo (i + 1) [] = i + 1 := rfl
          rw [e2, List.length_cons, Nat.add_sub_cancel_left, List.take_succ_cons, List.take_zero, feed_cons rfl, e]
          exact ⟨by omega, by omega, rfl⟩
        · refine ⟨by omega, by rw [List.length_cons]; omega, ?_⟩
          obtain ⟨j, hj⟩ : ∃ j, lastTo (i + 1) (charsF (i + 1) (i + 1) [] r) - i = j + 1 := ⟨lastTo (i + 1) (charsF (i + 1) (i + 1) [] r) - (i + 1), by omega⟩
          rw [hj, List.take_succ_cons, feed_cons rfl, e, show j = lastTo (i + 1) (charsF (i + 1) (i + 1) [] r) - (i + 1) by omega]
          exact h3
      | false =>
        rw [charsF_more hn hT]
        rcases feed_last r (i + 1) f T' with h | ⟨h1, h2, h3⟩
        · exact .inl h
        · right
          refine ⟨by omega, by rw [List.length_cons]; omega, ?_⟩
          obtain ⟨j, hj⟩ : ∃ j, lastTo f (charsF (i + 1) f T' r) - i = j + 1 := ⟨lastTo f (charsF (i + 1) f T' r) - (i + 1), by omega⟩
          rw [hj, List.take_succ_cons, feed_cons rfl, e, show j = lastTo f (charsF (i + 1) f T' r) - (i + 1) by omega]
          exact h3
theorem text_ahead (s : List UInt8) : textB (s.take (lastTo 0 (chars s))) = true ∧ lastTo 0 (chars s) ≤ s.length := by
  rcases feed_last s 0 0 [] with h | ⟨_, h2, h3⟩
  · rw [chars, h]
    exact ⟨rfl, Nat.zero_le _⟩
  · rw [Nat.sub_zero] at h3
    rw [Nat.zero_add] at h2
    exact ⟨h3, h2⟩
end Go.Proofs.Ytmamklahnpmgjaa
