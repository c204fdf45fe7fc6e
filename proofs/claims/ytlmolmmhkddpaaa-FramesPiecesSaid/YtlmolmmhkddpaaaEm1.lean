/- Frames as list functions: masks, numbers, heads, frames' bytes and back. -/
import Derived.Lib.Hide
namespace Go.Proofs.Ytlmolmmhkddpaaa

structure Key4 where
  k0 : UInt8
  k1 : UInt8
  k2 : UInt8
  k3 : UInt8
  deriving DecidableEq
def key0 : Key4 := ⟨0, 0, 0, 0⟩
def Key4.at (K : Key4) (i : Nat) : UInt8 := if i % 4 = 0 then K.k0 else if i % 4 = 1 then K.k1 else if i % 4 = 2 then K.k2 else K.k3
def maskN (K : Key4) : Nat → List UInt8 → List UInt8
  | _, [] => []
  | i, c :: s => (c ^^^ K.at i) :: maskN K (i + 1) s
def maskF (K : Key4) (a : Int) (s : List UInt8) : List UInt8 := if a < 0 then s else maskN K a.toNat s
theorem mask_len (K : Key4) : ∀ (s : List UInt8) (i : Nat), (maskN K i s).length = s.length
  | [], _ => rfl
  | c :: s, i => by rw [maskN, List.length_cons, List.length_cons, mask_len K s]
theorem mask_app (K : Key4) : ∀ (s t : List UInt8) (i : Nat), maskN K i (s ++ t) = maskN K i s ++ maskN K (i + s.length) t
  | [], t, i => rfl
  | c :: s, t, i => by rw [List.cons_append, maskN, mask_app K s t, maskN, List.cons_append, List.length_cons, Nat.add_assoc, Nat.add_comm 1]
theorem mask_two (K : Key4) : ∀ (s : List UInt8) (i : Nat), maskN K i (maskN K i s) = s
  | [], _ => rfl
  | c :: s, i => by rw [maskN, maskN, mask_two K s, UInt8.xor_assoc, UInt8.xor_self, UInt8.xor_zero]
theorem at_four (K : Key4) (i : Nat) : K.at (i + 4) = K.at i := by unfold Key4.at; rw [Nat.add_mod_right]
theorem at_mod (K : Key4) (i : Nat) : K.at (i % 4) = K.at i := by unfold Key4.at; rw [Nat.mod_mod]
theorem mask_four (K : Key4) : ∀ (s : List UInt8) (i : Nat), maskN K (i + 4) s = maskN K i s
  | [], _ => rfl
  | c :: s, i => by rw [maskN, maskN, at_four, show i + 4 + 1 = i + 1 + 4 by omega, mask_four K s]
theorem mask_cong (K : Key4) : ∀ (s : List UInt8) (i j : Nat), i % 4 = j % 4 → maskN K i s = maskN K j s
  | [], _, _, _ => rfl
  | c :: s, i, j, h => by rw [maskN, maskN, ← at_mod K i, ← at_mod K j, h, mask_cong K s (i + 1) (j + 1) (by omega)]
theorem at_zero (i : Nat) : key0.at i = 0 := by unfold Key4.at key0; split <;> (try rfl); split <;> (try rfl); split <;> rfl
theorem mask_zero : ∀ (s : List UInt8) (i : Nat), maskN key0 i s = s
  | [], _ => rfl
  | c :: s, i => by rw [maskN, at_zero, UInt8.xor_zero, mask_zero s]
theorem mask_get (K : Key4) : ∀ (s : List UInt8) (i j : Nat) (c : UInt8), s[j]? = some c → (maskN K i s)[j]? = some (c ^^^ K.at (i + j))
  | [], _, _, _, h => by simp at h
  | d :: s, i, 0, c, h => by
    simp only [List.getElem?_cons_zero, Option.some.injEq] at h
    subst h; rfl
  | d :: s, i, j + 1, c, h => by
    rw [List.getElem?_cons_succ] at h
    rw [maskN, List.getElem?_cons_succ, mask_get K s (i + 1) j c h, show i + 1 + j = i + (j + 1) by omega]

/-! Numbers, the highest byte first. -/
def ofBE (l : List UInt8) : Nat := l.foldl (fun x c => x * 256 + c.toNat) 0
theorem ofBE_snoc (l : List UInt8) (c : UInt8) : ofBE (l ++ [c]) = ofBE l * 256 + c.toNat := by unfold ofBE; rw [List.foldl_append]; rfl
def be : Nat → Nat → List UInt8
  | 0, _ => []
  | k + 1, n => be k (n / 256) ++ [UInt8.ofNat (n % 256)]
theorem be_len : ∀ (k n : Nat), (be k n).length = k
  | 0, _ => rfl
  | k + 1, n => by rw [be, List.length_append, be_len k]; rfl
theorem of_be : ∀ (k n : Nat), n < 256 ^ k → ofBE (be k n) = n
  | 0, n, h => by
    have : n = 0 := by simpa using h
    subst this; rfl
  | k + 1, n, h => by
    rw [be, ofBE_snoc, of_be k (n / 256) (by rw [Nat.pow_succ] at h; omega)]
    have : (UInt8.ofNat (n % 256)).toNat = n % 256 := by
      rw [UInt8.toNat_ofNat']; omega
    omega
theorem ofBE_lt (l : List UInt8) : ofBE l < 256 ^ l.length := by
  have h : ∀ r : List UInt8, ofBE r.reverse < 256 ^ r.length := by
    intro r
    induction r with
    | nil => decide
    | cons c r ih =>
      rw [List.reverse_cons, ofBE_snoc, List.length_cons, Nat.pow_succ]
      have := c.toNat_lt
      omega
  have := h l.reverse
  rwa [List.reverse_reverse, List.length_reverse] at this
theorem be_of (l : List UInt8) : be l.length (ofBE l) = l := by
  have h : ∀ r : List UInt8, be r.length (ofBE r.reverse) = r.reverse := by
    intro r
    induction r with
    | nil => rfl
    | cons c r ih =>
      rw [List.reverse_cons, ofBE_snoc, List.length_cons, be]
      have hc := c.toNat_lt
      have e1 : (ofBE r.reverse * 256 + c.toNat) / 256 = ofBE r.reverse := by omega
      have e2 : (ofBE r.reverse * 256 + c.toNat) % 256 = c.toNat := by omega
      rw [e1, e2, ih]
      congr 2
      rw [UInt8.ofNat_toNat]
  have := h l.reverse
  rwa [List.length_reverse, List.reverse_reverse] at this

/-! Heads. -/
structure Hd where
  fin : Bool
  rsv : Nat
  op : Nat
  masked : Bool
  key : Key4
  len : Nat
  least : Bool
def wideN (b : Nat) : Nat := if b % 128 = 126 then 2 else if b % 128 = 127 then 8 else 0
def leastN (wd x : Nat) : Bool := decide (wd = 0) || decide (wd = 2 ∧ 125 < x) || decide (wd = 8 ∧ 65535 < x)
def keyOf : List UInt8 → Key4
  | a :: b :: c :: d :: _ => ⟨a, b, c, d⟩
  | _ => key0
def headOf (a b : UInt8) (t : List UInt8) : Hd :=
  let x := if wideN b.toNat = 0 then b.toNat % 128 else ofBE (t.take (wideN b.toNat))
  ⟨decide (128 ≤ a.toNat), a.toNat / 16 % 8, a.toNat % 16, decide (128 ≤ b.toNat), if 128 ≤ b.toNat then keyOf (t.drop (wideN b.toNat)) else key0, x, leastN (wideN b.toNat) x⟩
def moreN (b : UInt8) : Nat := wideN b.toNat + if 128 ≤ b.toNat then 4 else 0
def readHeadF : List UInt8 → Option (Hd × Nat)
  | a :: b :: t => if t.length < moreN b then none else some (headOf a b t, 2 + moreN b)
  | _ => none
theorem head_cons (a b : UInt8) (t : List UInt8) (h : moreN b ≤ t.length) : readHeadF (a :: b :: t) = some (headOf a b t, 2 + moreN b) := by
  rw [readHeadF, if_neg (by omega)]
theorem keyOf_app {l : List UInt8} (h : 4 ≤ l.length) (r : List UInt8) : keyOf (l ++ r) = keyOf l := by
  rcases l with _ | ⟨a, _ | ⟨b, _ | ⟨c, _ | ⟨d, t⟩⟩⟩⟩
  all_goals first | rfl | (simp at h; done) | (simp at h; omega)
theorem head_app {s : List UInt8} {h : Hd} {n : Nat} (hs : readHeadF s = some (h, n)) : 2 ≤ n ∧ n ≤ s.length ∧ ∀ r, readHeadF (s ++ r) = some (h, n) := by
  rcases s with _ | ⟨a, _ | ⟨b, t⟩⟩
  · cases hs
  · cases hs
  · rw [readHeadF] at hs
    split at hs
    · cases hs
    · rename_i hlt
      injection hs with hs
      injection hs with h1 h2
      subst h1 h2
      refine ⟨by omega, by simp only [List.length_cons]; omega, fun r => ?_⟩
      rw [List.cons_append, List.cons_append, head_cons a b (t ++ r) (by rw [List.length_append]; omega)]
      have e1 : (t ++ r).take (wideN b.toNat) = t.take (wideN b.toNat) := by
        rw [List.take_append_of_le_length]; unfold moreN at hlt; omega
      have e2 : 128 ≤ b.toNat → keyOf ((t ++ r).drop (wideN b.toNat)) = keyOf (t.drop (wideN b.toNat)) := fun hb => by
        unfold moreN at hlt
        rw [if_pos hb] at hlt
        rw [List.drop_append_of_le_length (by omega), keyOf_app (by rw [List.length_drop]; omega)]
      unfold headOf
      rw [e1]
      by_cases hb : 128 ≤ b.toNat
      · rw [if_pos hb, if_pos hb, e2 hb]
      · rw [if_neg hb, if_neg hb]

/-! Frames. -/
structure Frm where
  fin : Bool
  rsv : Int
  op : Int
  masked : Bool
  key : Key4
  data : List UInt8
def frm0 : Frm := ⟨false, 0, 0, false, key0, []⟩
def okFr (f : Frm) : Bool := decide (0 ≤ f.rsv ∧ f.rsv ≤ 7 ∧ 0 ≤ f.op ∧ f.op ≤ 15) && (f.masked || decide (f.key = key0))
def finN (b : Bool) : Nat := if b then 128 else 0
def firstB (f : Frm) : UInt8 := UInt8.ofNat (finN f.fin + 16 * f.rsv.toNat + f.op.toNat)
def lenB (m n : Nat) : List UInt8 := if n ≤ 125 then [UInt8.ofNat (m + n)] else if n ≤ 65535 then UInt8.ofNat (m + 126) :: be 2 n else UInt8.ofNat (m + 127) :: be 8 n
def keyB (f : Frm) : List UInt8 := if f.masked then [f.key.k0, f.key.k1, f.key.k2, f.key.k3] else []
def headB (f : Frm) : List UInt8 := firstB f :: (lenB (finN f.masked) f.data.length ++ keyB f)
def bytesF (f : Frm) : List UInt8 := headB f ++ maskN f.key 0 f.data
def hdOf (f : Frm) : Hd := ⟨f.fin, f.rsv.toNat, f.op.toNat, f.masked, f.key, f.data.length, true⟩
def frOf (h : Hd) (d : List UInt8) : Frm := ⟨h.fin, h.rsv, h.op, h.masked, h.key, maskN h.key 0 d⟩
def readF (s : List UInt8) : Frm × Nat × Nat := match readHeadF s with
  | none => (frm0, 0, 7)
  | some (h, n) => if 2147483647 < h.len then (frm0, 0, 3) else if s.length - n < h.len then (frm0, 0, 7) else (frOf h ((s.drop n).take h.len), n + h.len, 0)
theorem finN_or (b : Bool) : finN b = 0 ∨ finN b = 128 := by cases b <;> simp [finN]
theorem finN_ge (b : Bool) (k : Nat) (hk : k < 128) : decide (128 ≤ finN b + k) = b := by cases b <;> simp [finN] <;> omega
theorem toNat_of {n : Nat} (h : n < 256) : (UInt8.ofNat n).toNat = n := by rw [UInt8.toNat_ofNat']; omega
/-- The number's bytes say the number. -/
theorem lenB_says (m : Bool) (n : Nat) (hn : n < 256 ^ 8) (r : List UInt8) : ∃ b t, lenB (finN m) n = b :: t ∧ t.length = wideN b.toNat ∧ decide (128 ≤ b.toNat) = m ∧
    (if wideN b.toNat = 0 then b.toNat % 128 else ofBE ((t ++ r).take (wideN b.toNat))) = n ∧ leastN (wideN b.toNat) n = true := by
  have hm := finN_or m
  unfold lenB
  split
  · rename_i h
    have e : (UInt8.ofNat (finN m + n)).toNat = finN m + n := toNat_of (by omega)
    have ew : wideN (finN m + n) = 0 := by unfold wideN; rw [if_neg (by omega), if_neg (by omega)]
    refine ⟨_, _, rfl, by rw [e, ew]; rfl, by rw [e]; exact finN_ge m n (by omega), by rw [e, if_pos ew]; omega, by rw [e, ew]; rfl⟩
  · rename_i h
    split
    · rename_i h2
      have e : (UInt8.ofNat (finN m + 126)).toNat = finN m + 126 := toNat_of (by omega)
      have ew : wideN (finN m + 126) = 2 := by unfold wideN; rw [if_pos (by omega)]
      refine ⟨_, _, rfl, by rw [e, ew, be_len], by rw [e]; exact finN_ge m 126 (by omega), ?_, ?_⟩
      · rw [e, ew, if_neg (by decide), List.take_append_of_le_length (by rw [be_len]; exact Nat.le_refl _), List.take_of_length_le (by rw [be_len]; exact Nat.le_refl _), of_be 2 n (by omega)]
      · rw [e, ew]; unfold leastN; simp; omega
    · rename_i h2
      have e : (UInt8.ofNat (finN m + 127)).toNat = finN m + 127 := toNat_of (by omega)
      have ew : wideN (finN m + 127) = 8 := by unfold wideN; rw [if_neg (by omega), if_pos (by omega)]
      refine ⟨_, _, rfl, by rw [e, ew, be_len], by rw [e]; exact finN_ge m 127 (by omega), ?_, ?_⟩
      · rw [e, ew, if_neg (by decide), List.take_append_of_le_length (by rw [be_len]; exact Nat.le_refl _), List.take_of_length_le (by rw [be_len]; exact Nat.le_refl _), of_be 8 n hn]
      · rw [e, ew]; unfold leastN; simp; omega
theorem okFr_parts {f : Frm} (h : okFr f = true) : 0 ≤ f.rsv ∧ f.rsv ≤ 7 ∧ 0 ≤ f.op ∧ f.op ≤ 15 ∧ (f.masked = false → f.key = key0) := by
  unfold okFr at h
  simp only [Bool.and_eq_true, decide_eq_true_eq, Bool.or_eq_true] at h
  refine ⟨h.1.1, h.1.2.1, h.1.2.2.1, h.1.2.2.2, fun e => ?_⟩
  rcases h.2 with h2 | h2
  · rw [e] at h2; cases h2
  · exact h2
/-- The head of a frame's bytes. -/
theorem head_back {f : Frm} (h : okFr f = true) (hn : f.data.length < 256 ^ 8) (r : List UInt8) : readHeadF (headB f ++ r) = some (hdOf f, (headB f).length) := by
  obtain ⟨h1, h2, h3, h4, h5⟩ := okFr_parts h
  obtain ⟨b, t, hl, ht, hb, hx, hle⟩ := lenB_says f.masked f.data.length hn (keyB f ++ r)
  have ea : (firstB f).toNat = finN f.fin + 16 * f.rsv.toNat + f.op.toNat := toNat_of (by have := finN_or f.fin; omega)
  have hkl : (keyB f).length = if 128 ≤ b.toNat then 4 else 0 := by
    unfold keyB
    cases hm : f.masked with
    | true => rw [hm] at hb; rw [if_pos (of_decide_eq_true hb), if_pos rfl]; rfl
    | false => rw [hm] at hb; rw [if_neg (of_decide_eq_false hb), if_neg Bool.false_ne_true]; rfl
  have hlen : (headB f).length = 2 + moreN b := by
    unfold headB moreN
    rw [hl, List.length_cons, List.length_append, List.length_cons, hkl, ht]; omega
  have e : headB f ++ r = firstB f :: b :: (t ++ (keyB f ++ r)) := by
    unfold headB; rw [hl]; simp
  rw [e, head_cons _ _ _ (by rw [List.length_append, List.length_append, hkl, ht]; unfold moreN; omega), hlen]
  congr 2
  unfold headOf hdOf
  dsimp only
  rw [ea, hx, hb, hle]
  have hf := finN_or f.fin
  have e1 : decide (128 ≤ finN f.fin + 16 * f.rsv.toNat + f.op.toNat) = f.fin := by rw [Nat.add_assoc]; exact finN_ge f.fin _ (by omega)
  have e2 : (finN f.fin + 16 * f.rsv.toNat + f.op.toNat) / 16 % 8 = f.rsv.toNat := by omega
  have e3 : (finN f.fin + 16 * f.rsv.toNat + f.op.toNat) % 16 = f.op.toNat := by omega
  rw [e1, e2, e3]
  have e4 : (if 128 ≤ b.toNat then keyOf ((t ++ (keyB f ++ r)).drop (wideN b.toNat)) else key0) = f.key := by
    cases hm : f.masked with
    | true =>
      rw [hm] at hb
      rw [if_pos (of_decide_eq_true hb), ← ht, List.drop_left]
      unfold keyB
      rw [hm]; rfl
    | false =>
      rw [hm] at hb
      rw [if_neg (of_decide_eq_false hb)]
      exact (h5 hm).symm
  rw [e4]
theorem frm_eq {f : Frm} (h : okFr f = true) : frOf (hdOf f) (maskN f.key 0 f.data) = f := by
  obtain ⟨h1, h2, h3, h4, h5⟩ := okFr_parts h
  obtain ⟨fin, rsv, op, m, k, d⟩ := f
  unfold frOf hdOf
  dsimp only at *
  rw [mask_two, Int.toNat_of_nonneg h1, Int.toNat_of_nonneg h3]
/-- Read of a frame's bytes is the frame, whatever stands behind. -/
theorem read_back {f : Frm} (h : okFr f = true) (hn : f.data.length ≤ 2147483647) (r : List UInt8) : readF (bytesF f ++ r) = (f, (bytesF f).length, 0) := by
  unfold readF
  rw [show bytesF f ++ r = headB f ++ (maskN f.key 0 f.data ++ r) by unfold bytesF; rw [List.append_assoc], head_back h (by omega)]
  dsimp only
  have hl : (hdOf f).len = f.data.length := rfl
  rw [hl, if_neg (by omega), if_neg (by rw [List.length_append, List.length_append, mask_len]; omega), List.drop_left]
  have e : (maskN f.key 0 f.data ++ r).take f.data.length = maskN f.key 0 f.data := by
    rw [← mask_len f.key f.data 0, List.take_left]
  rw [e, frm_eq h]
  congr 2
  unfold bytesF
  rw [List.length_append, mask_len]
/-- Of every beginning of these it is too short. -/
theorem read_short {f : Frm} (h : okFr f = true) (hn : f.data.length ≤ 2147483647) (k : Nat) (hk : k < (bytesF f).length) : readF ((bytesF f).take k) = (frm0, 0, 7) := by
  unfold readF
  cases hh : readHeadF ((bytesF f).take k) with
  | none => rfl
  | some x =>
    obtain ⟨g, n⟩ := x
    obtain ⟨-, hn2, hr⟩ := head_app hh
    have h2 := hr ((bytesF f).drop k)
    rw [List.take_append_drop] at h2
    have h3 := head_back h (by omega) (maskN f.key 0 f.data)
    rw [show headB f ++ maskN f.key 0 f.data = bytesF f from rfl, h2] at h3
    injection h3 with h3
    injection h3 with h4 h5
    subst h4 h5
    dsimp only
    have hl : (hdOf f).len = f.data.length := rfl
    have hbl : (bytesF f).length = (headB f).length + f.data.length := by unfold bytesF; rw [List.length_append, mask_len]
    rw [List.length_take] at hn2 ⊢
    rw [hl, if_neg (by omega), if_pos (by omega)]
theorem lenB_len (m n : Nat) : (lenB m n).length = if n ≤ 125 then 1 else if n ≤ 65535 then 3 else 9 := by
  unfold lenB
  split
  · rfl
  · split
    · rw [List.length_cons, be_len]
    · rw [List.length_cons, be_len]
theorem keyOf_four {l : List UInt8} (h : 4 ≤ l.length) : [(keyOf l).k0, (keyOf l).k1, (keyOf l).k2, (keyOf l).k3] = l.take 4 := by
  rcases l with _ | ⟨a, _ | ⟨b, _ | ⟨c, _ | ⟨d, t⟩⟩⟩⟩
  all_goals first | rfl | (simp at h; done) | (simp at h; omega)
theorem byte_parts (c : UInt8) : c = UInt8.ofNat (finN (decide (128 ≤ c.toNat)) + 16 * (c.toNat / 16 % 8) + c.toNat % 16) := by
  have hc := c.toNat_lt
  have : finN (decide (128 ≤ c.toNat)) + 16 * (c.toNat / 16 % 8) + c.toNat % 16 = c.toNat := by
    by_cases h : 128 ≤ c.toNat
    · rw [decide_eq_true h]; simp only [finN, if_true]; omega
    · rw [decide_eq_false h]; simp only [finN, Bool.false_eq_true, if_false]; omega
  rw [this, UInt8.ofNat_toNat]
theorem byte_len (c : UInt8) : c = UInt8.ofNat (finN (decide (128 ≤ c.toNat)) + c.toNat % 128) := by
  have hc := c.toNat_lt
  have : finN (decide (128 ≤ c.toNat)) + c.toNat % 128 = c.toNat := by
    by_cases h : 128 ≤ c.toNat
    · rw [decide_eq_true h]; simp only [finN, if_true]; omega
    · rw [decide_eq_false h]; simp only [finN, Bool.false_eq_true, if_false]; omega
  rw [this, UInt8.ofNat_toNat]
/-- What is read has bytes; if the number was in the least form these are those that were read. -/
theorem once {s : List UInt8} {h : Hd} {n : Nat} (hs : readHeadF s = some (h, n)) (hl : h.len ≤ 2147483647) (hd : h.len ≤ s.length - n) :
    okFr (frOf h ((s.drop n).take h.len)) = true ∧ (frOf h ((s.drop n).take h.len)).data.length = h.len ∧ n + h.len ≤ s.length ∧ 2 ≤ n ∧ (bytesF (frOf h ((s.drop n).take h.len))).length ≤ n + h.len ∧
      (h.least = true → bytesF (frOf h ((s.drop n).take h.len)) = s.take (n + h.len)) ∧ (h.least = false → (bytesF (frOf h ((s.drop n).take h.len))).length < n + h.len) := by
  obtain ⟨hn2, hns, -⟩ := head_app hs
  obtain ⟨d, hdd⟩ : ∃ d, d = (s.drop n).take h.len := ⟨_, rfl⟩
  have hdl : d.length = h.len := by rw [hdd, List.length_take, List.length_drop]; omega
  rw [← hdd]
  have hfl : (frOf h d).data.length = h.len := by show (maskN h.key 0 d).length = _; rw [mask_len, hdl]
  have hby : bytesF (frOf h d) = headB (frOf h d) ++ d := by
    unfold bytesF
    show headB (frOf h d) ++ maskN h.key 0 (maskN h.key 0 d) = _
    rw [mask_two]
  have htk : s.take (n + h.len) = s.take n ++ d := by rw [hdd, List.take_add]
  rcases s with _ | ⟨a, _ | ⟨b, t⟩⟩
  · cases hs
  · cases hs
  rw [readHeadF] at hs
  split at hs
  · cases hs
  rename_i hlt
  injection hs with hs
  injection hs with h1 h2
  have hmore : moreN b ≤ t.length := by omega
  have hm : h.masked = decide (128 ≤ b.toNat) := by rw [← h1]; rfl
  have hk : h.key = if 128 ≤ b.toNat then keyOf (t.drop (wideN b.toNat)) else key0 := by rw [← h1]; rfl
  have hx : h.len = if wideN b.toNat = 0 then b.toNat % 128 else ofBE (t.take (wideN b.toNat)) := by rw [← h1]; rfl
  have hle : h.least = leastN (wideN b.toNat) h.len := by rw [hx, ← h1]; rfl
  have hr : h.rsv = a.toNat / 16 % 8 := by rw [← h1]; rfl
  have ho : h.op = a.toNat % 16 := by rw [← h1]; rfl
  have hf : h.fin = decide (128 ≤ a.toNat) := by rw [← h1]; rfl
  have hfb : firstB (frOf h d) = a := by
    show UInt8.ofNat (finN h.fin + 16 * ((h.rsv : Int)).toNat + ((h.op : Int)).toNat) = a
    rw [hf, hr, ho, Int.toNat_natCast, Int.toNat_natCast]
    exact (byte_parts a).symm
  have hkb : keyB (frOf h d) = (t.drop (wideN b.toNat)).take (if 128 ≤ b.toNat then 4 else 0) := by
    show (if h.masked = true then [h.key.k0, h.key.k1, h.key.k2, h.key.k3] else []) = _
    rw [hm, hk]
    by_cases hb : 128 ≤ b.toNat
    · rw [if_pos (decide_eq_true hb), if_pos hb, if_pos hb]
      unfold moreN at hmore
      rw [if_pos hb] at hmore
      exact keyOf_four (by rw [List.length_drop]; omega)
    · rw [if_neg (by rw [decide_eq_false hb]; decide), if_neg hb]; rfl
  have hkl : (keyB (frOf h d)).length = if 128 ≤ b.toNat then 4 else 0 := by
    rw [hkb, List.length_take, List.length_drop]
    unfold moreN at hmore
    omega
  have hhl : (headB (frOf h d)).length = 1 + (if h.len ≤ 125 then 1 else if h.len ≤ 65535 then 3 else 9) + if 128 ≤ b.toNat then 4 else 0 := by
    unfold headB
    rw [List.length_cons, List.length_append, lenB_len, hkl, hfl]; omega
  have hw : wideN b.toNat = 0 ∨ wideN b.toNat = 2 ∨ wideN b.toNat = 8 := by unfold wideN; split; exact .inr (.inl rfl); split; exact .inr (.inr rfl); exact .inl rfl
  have hn : n = 2 + (wideN b.toNat + if 128 ≤ b.toNat then 4 else 0) := by rw [← h2]; rfl
  have hbound : (wideN b.toNat = 0 → h.len ≤ 125) ∧ (wideN b.toNat = 2 → h.len ≤ 65535) := by
    refine ⟨fun h0 => ?_, fun h0 => ?_⟩
    · rw [hx, if_pos h0]
      unfold wideN at h0
      split at h0
      · cases h0
      · split at h0
        · cases h0
        · have := b.toNat_lt; omega
    · rw [hx, if_neg (by omega), h0]
      have := ofBE_lt (t.take 2)
      have hl2 : (t.take 2).length ≤ 2 := by rw [List.length_take]; omega
      have := Nat.pow_le_pow_right (n := 256) (by decide) hl2
      omega
  refine ⟨?_, hfl, by omega, hn2, ?_, fun hL => ?_, fun hL => ?_⟩
  · unfold okFr frOf
    dsimp only
    rw [hr, ho, hm, hk]
    simp only [Bool.and_eq_true, decide_eq_true_eq, Bool.or_eq_true]
    refine ⟨by omega, ?_⟩
    by_cases hb : 128 ≤ b.toNat
    · exact .inl hb
    · right; rw [if_neg hb]
  · rw [hby, List.length_append, hhl, hdl, hn]
    rcases hw with h0 | h0 | h0
    · have := hbound.1 h0; rw [h0, if_pos this]; omega
    · have := hbound.2 h0; rw [h0]; split <;> (try split) <;> omega
    · rw [h0]; split <;> (try split) <;> omega
  · rw [hby, htk, hn]
    congr 1
    rw [hle] at hL
    unfold headB
    rw [hfb, hkb, hfl]
    show a :: (lenB (finN h.masked) h.len ++ _) = _
    rw [hm]
    have hgoal : lenB (finN (decide (128 ≤ b.toNat))) h.len = b :: t.take (wideN b.toNat) := by
      rcases hw with h0 | h0 | h0
      · have h125 := hbound.1 h0
        unfold lenB
        rw [if_pos h125, h0, hx, if_pos h0]
        show [_] = [b]
        congr 1
        exact (byte_len b).symm
      · rw [h0] at hL
        have hgt : 125 < h.len := by unfold leastN at hL; simpa using hL
        have h65 := hbound.2 h0
        unfold lenB
        rw [if_neg (by omega), if_pos h65, h0]
        have hb126 : b.toNat % 128 = 126 := by
          unfold wideN at h0
          split at h0
          · assumption
          · split at h0 <;> cases h0
        have e : (t.take 2).length = 2 := by rw [List.length_take]; unfold moreN at hmore; omega
        have e2 := be_of (t.take 2)
        rw [e] at e2
        rw [hx, if_neg (by omega), h0, e2]
        congr 1
        have := byte_len b
        rw [hb126] at this
        exact this.symm
      · rw [h0] at hL
        have hgt : 65535 < h.len := by unfold leastN at hL; simpa using hL
        unfold lenB
        rw [if_neg (by omega), if_neg (by omega), h0]
        have hb127 : b.toNat % 128 = 127 := by
          unfold wideN at h0
          split at h0
          · cases h0
          · split at h0
            · assumption
            · cases h0
        have e : (t.take 8).length = 8 := by rw [List.length_take]; unfold moreN at hmore; omega
        have e2 := be_of (t.take 8)
        rw [e] at e2
        rw [hx, if_neg (by omega), h0, e2]
        congr 1
        have := byte_len b
        rw [hb127] at this
        exact this.symm
    rw [hgoal, show 2 + (wideN b.toNat + if 128 ≤ b.toNat then 4 else 0) = (wideN b.toNat + if 128 ≤ b.toNat then 4 else 0) + 1 + 1 by omega, List.take_succ_cons, List.take_succ_cons, List.take_add, List.cons_append]
  · rw [hby, List.length_append, hhl, hdl, hn]
    rw [hle] at hL
    rcases hw with h0 | h0 | h0
    · rw [h0] at hL; unfold leastN at hL; simp at hL
    · rw [h0] at hL ⊢
      have : h.len ≤ 125 := by unfold leastN at hL; simpa using hL
      rw [if_pos this]; omega
    · rw [h0] at hL ⊢
      have : h.len ≤ 65535 := by unfold leastN at hL; simpa using hL
      split
      · omega
      · omega
end Go.Proofs.Ytlmolmmhkddpaaa
