/- What a check reads, as a plain function over the document's shapes: bytes begun, and what is still waited for. -/
import Derived.Test.YtmamklahnpmgjaaS4
namespace Go.Proofs.Ytmamklahnpmgjaa

/-- Is the byte between the two? -/
def within (ab : UInt8 × UInt8) (c : UInt8) : Bool := decide (ab.1 ≤ c) && decide (c ≤ ab.2)
def headFits (c : UInt8) : List (UInt8 × UInt8) → Bool
  | [] => false
  | ab :: _ => within ab c
/-- What is waited for behind the byte c, where T is waited for; none: c is bad. -/
def nextF : List (UInt8 × UInt8) → UInt8 → Option (List (UInt8 × UInt8))
  | [], c => (shp.find? (headFits c)).map List.tail
  | ab :: T, c => if within ab c then some T else none
/-- A check: how many bytes, what is waited for, whether one was bad. -/
structure Chk where
  n : Nat
  T : List (UInt8 × UInt8)
  bad : Bool
def Chk.start : Chk := ⟨0, [], false⟩
def Chk.read (k : Chk) (c : UInt8) : Chk :=
  match nextF k.T c with
  | none => { k with bad := true }
  | some T => { k with n := k.n + 1, T := T }
def feed : Chk → List UInt8 → Chk
  | k, [] => k
  | k, c :: r => if k.bad then k else feed (k.read c) r
theorem feed_bad {k : Chk} (h : k.bad = true) : ∀ s, feed k s = k
  | [] => rfl
  | c :: r => by rw [feed, if_pos h]
theorem feed_cons {k : Chk} (h : k.bad = false) (c : UInt8) (r : List UInt8) : feed k (c :: r) = feed (k.read c) r := by
  rw [feed, if_neg (by simp [h])]
theorem feed_append : ∀ (a b : List UInt8) (k : Chk), feed k (a ++ b) = feed (feed k a) b
  | [], b, k => rfl
  | c :: r, b, k => by
    cases hb : k.bad with
    | true => rw [feed_bad hb, feed_bad hb, feed_bad hb]
    | false => rw [List.cons_append, feed_cons hb, feed_cons hb, feed_append r b]
theorem feed_snoc (s : List UInt8) (c : UInt8) (k : Chk) (h : (feed k s).bad = false) : feed k (s ++ [c]) = (feed k s).read c := by
  rw [feed_append, feed_cons h]; rfl

/-- All behind the first bound are the same. -/
def Same (T : List (UInt8 × UInt8)) : Prop := ∀ x ∈ T.tail, x = ((128, 191) : UInt8 × UInt8)
theorem Same.tail {T : List (UInt8 × UInt8)} (h : Same T) : Same T.tail := fun x hx => h x (List.mem_of_mem_tail hx)
theorem shp_same : ∀ l ∈ shp, Same l.tail ∧ l ≠ [] ∧ l.length ≤ 4 := by
  unfold Same
  decide
theorem next_same {T T' : List (UInt8 × UInt8)} {c : UInt8} (h : Same T) (hn : nextF T c = some T') : Same T' ∧ (T = [] → T'.length ≤ 3) ∧ (T ≠ [] → T' = T.tail) := by
  cases T with
  | nil =>
    rw [nextF] at hn
    cases hf : shp.find? (headFits c) with
    | none => rw [hf] at hn; cases hn
    | some l =>
      rw [hf] at hn
      obtain rfl := Option.some.inj hn
      have := shp_same l (List.mem_of_find?_eq_some hf)
      refine ⟨this.1, fun _ => ?_, fun h => absurd rfl h⟩
      rw [List.length_tail]; omega
  | cons ab T =>
    rw [nextF] at hn
    split at hn
    · obtain rfl := Option.some.inj hn
      exact ⟨h.tail, fun h => (by cases h), fun _ => rfl⟩
    · cases hn
/-- A check that may be. -/
structure Chk.Ok (k : Chk) : Prop where
  same : Same k.T
  three : k.T.length ≤ 3
theorem Chk.Ok.start : Chk.start.Ok := ⟨fun x hx => by simp [Chk.start] at hx, by simp [Chk.start]⟩
theorem Chk.Ok.read {k : Chk} (h : k.Ok) (c : UInt8) : (k.read c).Ok := by
  unfold Chk.read
  split
  · exact ⟨h.same, h.three⟩
  · rename_i T' hn
    obtain ⟨h1, h2, h3⟩ := next_same h.same hn
    refine ⟨h1, ?_⟩
    by_cases he : k.T = []
    · exact h2 he
    · show T'.length ≤ 3
      rw [h3 he, List.length_tail]
      have := h.three
      omega
theorem Chk.Ok.feed : ∀ (s : List UInt8) {k : Chk}, k.Ok → (feed k s).Ok
  | [], _, h => h
  | c :: r, k, h => by
    cases hb : k.bad with
    | true => rw [feed_bad hb]; exact h
    | false => rw [feed_cons hb]; exact Chk.Ok.feed r (h.read c)

/-- A shape's bounds fit just where its first one does, and those behind. -/
theorem pre_head {ab : UInt8 × UInt8} {T : List (UInt8 × UInt8)} {c : UInt8} {r : List UInt8} : pre (ab :: T) (c :: r) = if within ab c then pre T r + 1 else 0 := by
  obtain ⟨a, b⟩ := ab
  rw [pre]
  by_cases h : a ≤ c ∧ c ≤ b
  · rw [if_pos h, if_pos (by simp [within, h.1, h.2])]
  · rw [if_neg h, if_neg]
    simp only [within, Bool.and_eq_true, decide_eq_true_eq]
    exact h
/-- From what is waited for on: all of it comes, or the text ends, or a byte is bad. -/
theorem feed_tail : ∀ (T : List (UInt8 × UInt8)) (r : List UInt8) (n : Nat),
    (pre T r = T.length → feed ⟨n, T, false⟩ r = feed ⟨n + T.length, [], false⟩ (r.drop T.length)) ∧
    (pre T r ≠ T.length → pre T r = r.length → feed ⟨n, T, false⟩ r = ⟨n + r.length, T.drop r.length, false⟩) ∧
    (pre T r ≠ T.length → pre T r ≠ r.length → feed ⟨n, T, false⟩ r = ⟨n + pre T r, T.drop (pre T r), true⟩)
  | [], r, n => by
    have h0 : pre [] r = 0 := by cases r <;> rfl
    refine ⟨fun _ => rfl, fun h => absurd h0 h, fun h => absurd h0 h⟩
  | ab :: T, [], n => by
    refine ⟨fun h => by simp [pre] at h, fun _ _ => rfl, fun _ h => absurd rfl h⟩
  | ab :: T, c :: r, n => by
    rw [pre_head, feed_cons rfl]
    by_cases hw : within ab c = true
    · have e : Chk.read ⟨n, ab :: T, false⟩ c = ⟨n + 1, T, false⟩ := by simp [Chk.read, nextF, hw]
      rw [if_pos hw, e]
      obtain ⟨h1, h2, h3⟩ := feed_tail T r (n + 1)
      simp only [List.length_cons, List.drop_succ_cons]
      refine ⟨fun h => ?_, fun h h' => ?_, fun h h' => ?_⟩
      · rw [h1 (by omega), show n + 1 + T.length = n + (T.length + 1) by omega]
      · rw [h2 (by omega) (by omega), show n + 1 + r.length = n + (r.length + 1) by omega]
      · rw [h3 (by omega) (by omega), show n + 1 + pre T r = n + (pre T r + 1) by omega]
    · have e : Chk.read ⟨n, ab :: T, false⟩ c = ⟨n, ab :: T, true⟩ := by simp [Chk.read, nextF, hw]
      rw [if_neg hw, e, feed_bad rfl]
      refine ⟨fun h => by simp at h, fun _ h' => by simp at h', fun _ _ => rfl⟩

theorem oneF_none (c : UInt8) (r : List UInt8) : ∀ (ls : List (List (UInt8 × UInt8))) (m : Nat), (∀ l ∈ ls, l ≠ []) → (∀ l ∈ ls, headFits c l = false) → oneF ls (c :: r) m = -1 - (m : Int)
  | [], m, _, _ => rfl
  | [] :: ls, m, h, _ => absurd rfl (h [] (by simp))
  | (ab :: T) :: ls, m, h, h' => by
    have hw : within ab c = false := h' (ab :: T) (by simp)
    have e : pre (ab :: T) (c :: r) = 0 := by rw [pre_head, hw]; rfl
    rw [oneF, e, if_neg (by simp), if_neg (by simp), Nat.max_zero]
    exact oneF_none c r ls m (fun l hl => h l (by simp [hl])) (fun l hl => h' l (by simp [hl]))
/-- A byte begins at most one shape. -/
def lone1 : List (List (UInt8 × UInt8)) → Prop
  | [] => True
  | l :: ls => (∀ c, headFits c l = true → ∀ l' ∈ ls, headFits c l' = false) ∧ lone1 ls
theorem oneF_find (c : UInt8) (r : List UInt8) (ab0 : UInt8 × UInt8) (T0 : List (UInt8 × UInt8)) : ∀ (ls : List (List (UInt8 × UInt8))), (∀ l ∈ ls, l ≠ []) → lone1 ls → ls.find? (headFits c) = some (ab0 :: T0) →
    oneF ls (c :: r) 0 = if pre T0 r = T0.length then ((T0.length + 1 : Nat) : Int) else if pre T0 r = r.length then 0 else -1 - ((pre T0 r + 1 : Nat) : Int)
  | [], _, _, hf => by cases hf
  | [] :: ls, h, _, _ => absurd rfl (h [] (by simp))
  | (ab :: T) :: ls, h, hl, hf => by
    by_cases hw : within ab c = true
    · have hf' : (ab :: T) = ab0 :: T0 := by
        rw [List.find?_cons_of_pos (by exact hw)] at hf
        exact Option.some.inj hf
      obtain ⟨rfl, rfl⟩ := List.cons.inj hf'
      have e : pre (ab :: T) (c :: r) = pre T r + 1 := by rw [pre_head, if_pos hw]
      have hn := oneF_none c r ls (max 0 (pre T r + 1)) (fun l hl => h l (by simp [hl])) (hl.1 c hw)
      rw [oneF, e, hn]
      simp only [List.length_cons, Nat.zero_max]
      by_cases h1 : pre T r = T.length
      · rw [if_pos (by omega), if_pos h1]
      · rw [if_neg (by omega), if_neg h1]
        by_cases h2 : pre T r = r.length
        · rw [if_pos (by omega), if_pos h2]
        · rw [if_neg (by omega), if_neg h2]
    · rw [Bool.not_eq_true] at hw
      have e : pre (ab :: T) (c :: r) = 0 := by rw [pre_head, hw]; rfl
      rw [List.find?_cons_of_neg (by simp [headFits, hw])] at hf
      rw [oneF, e, if_neg (by simp), if_neg (by simp), Nat.max_zero]
      exact oneF_find c r ab0 T0 ls (fun l hl => h l (by simp [hl])) hl.2 hf
theorem within_nat (ab : UInt8 × UInt8) (c : UInt8) : within ab c = true ↔ ab.1.toNat ≤ c.toNat ∧ c.toNat ≤ ab.2.toNat := by
  simp [within, UInt8.le_iff_toNat_le]
theorem shp_lone : lone1 shp := by
  simp only [shp, lone1, List.mem_cons, List.not_mem_nil, or_false, forall_eq_or_imp, forall_eq, headFits, within, Bool.and_eq_true, decide_eq_true_eq, Bool.and_eq_false_iff, decide_eq_false_iff_not, UInt8.le_iff_toNat_le, and_true]
  simp only [UInt8.reduceToNat]
  refine ⟨?_, ?_, ?_, ?_, ?_, ?_, ?_, ?_, ?_⟩ <;> intros <;> (try trivial) <;> (repeat (first | omega | refine ⟨?_, ?_⟩))

/-- What the document's One says of a character that begins at c, by what is waited for behind c. -/
theorem one_start {s : List UInt8} {p : Nat} {c : UInt8} {r : List UInt8} (hs : s.drop p = c :: r) :
    (nextF [] c = none ∧ one s p = -1) ∨
      ∃ T, nextF [] c = some T ∧ one s p = if pre T r = T.length then ((T.length + 1 : Nat) : Int) else if pre T r = r.length then 0 else -1 - ((pre T r + 1 : Nat) : Int) := by
  unfold one
  rw [hs]
  cases hf : shp.find? (headFits c) with
  | none =>
    refine .inl ⟨by rw [nextF, hf]; rfl, ?_⟩
    rw [oneF_none c r shp 0 (fun l hl => (shp_same l hl).2.1) (fun l hl => by simpa using List.find?_eq_none.1 hf l hl)]
    rfl
  | some l =>
    refine .inr ⟨l.tail, by rw [nextF, hf]; rfl, ?_⟩
    have hne := (shp_same l (List.mem_of_find?_eq_some hf)).2.1
    obtain ⟨ab, T, rfl⟩ := List.exists_cons_of_ne_nil hne
    rw [oneF_find c r ab T shp (fun l hl => (shp_same l hl).2.1) shp_lone hf]
    rfl

/-- What a check says of a text from a place on is what the document's Reads says. -/
theorem feed_reads (s : List UInt8) : ∀ (m p : Nat), s.length - p ≤ m → p ≤ s.length →
    let k := feed ⟨p, [], false⟩ (s.drop p)
    reads s p = ((k.n : Int), k.bad, (!k.bad && k.T.isEmpty)) := by
  intro m
  induction m with
  | zero =>
    intro p hm hp
    have hd : s.drop p = [] := List.drop_eq_nil_of_le (by omega)
    rw [reads_end (by omega), hd]
    simp [feed]
  | succ m ih =>
    intro p hm hp
    by_cases hlt : p < s.length
    · obtain ⟨c, r, hs⟩ : ∃ c r, s.drop p = c :: r := ⟨_, _, List.drop_eq_getElem_cons hlt⟩
      have hrl : r.length = s.length - p - 1 := by
        have := congrArg List.length hs
        rw [List.length_drop, List.length_cons] at this; omega
      have hrd : ∀ j, r.drop j = s.drop (p + (j + 1)) := fun j => by
        rw [← List.drop_drop, hs, List.drop_succ_cons]
      rw [hs]
      rcases one_start hs with ⟨hn, h1⟩ | ⟨T, hn, h1⟩
      · rw [reads_bad hlt (by omega), feed_cons rfl]
        have e : Chk.read ⟨p, [], false⟩ c = ⟨p, [], true⟩ := by simp [Chk.read, hn]
        rw [e, feed_bad rfl, h1]
        simp
      · rw [feed_cons rfl]
        have e : Chk.read ⟨p, [], false⟩ c = ⟨p + 1, T, false⟩ := by simp [Chk.read, hn]
        rw [e]
        obtain ⟨h2, h3, h4⟩ := feed_tail T r (p + 1)
        have hpl := pre_le T r
        by_cases ha : pre T r = T.length
        · rw [if_pos ha] at h1
          rw [reads_go hlt h1 (by omega), h2 ha, hrd]
          have := ih (p + (T.length + 1)) (by omega) (by omega)
          rw [show p + 1 + T.length = p + (T.length + 1) by omega]
          exact this
        · rw [if_neg ha] at h1
          by_cases hb : pre T r = r.length
          · rw [if_pos hb] at h1
            rw [reads_part hlt h1, h3 ha hb]
            have hne : (T.drop r.length).isEmpty = false := by
              rw [List.isEmpty_eq_false_iff]
              intro h
              have := congrArg List.length h
              rw [List.length_drop, List.length_nil] at this
              omega
            simp only [hne]
            have : p + 1 + r.length = s.length := by omega
            rw [this]
            rfl
          · rw [if_neg hb] at h1
            rw [reads_bad hlt (by omega), h4 ha hb, h1]
            simp
            omega
    · have hd : s.drop p = [] := List.drop_eq_nil_of_le (by omega)
      rw [reads_end hlt, hd]
      simp [feed]
theorem reads_feed (s : List UInt8) : reads s 0 = (((feed Chk.start s).n : Int), (feed Chk.start s).bad, (!(feed Chk.start s).bad && (feed Chk.start s).T.isEmpty)) :=
  feed_reads s s.length 0 (by omega) (Nat.zero_le _)
end Go.Proofs.Ytmamklahnpmgjaa
