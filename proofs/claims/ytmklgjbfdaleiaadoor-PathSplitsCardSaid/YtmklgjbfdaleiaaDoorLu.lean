/- The landed package's way, as list functions: what its loops tell is the document's answer. -/
import Derived.Test.YtmklgjbfdaleiaaDoorLm3
namespace Go.Proofs.YtmklgjbfdaleiaaDoor
open Go.RowKit

/-! A request's line, cut at its blanks. -/
def hver0 : List UInt8 := [72, 84, 84, 80, 47, 49, 46, 48]
def hver1 : List UInt8 := [72, 84, 84, 80, 47, 49, 46, 49]
def verN (s : List UInt8) : Nat := if s = hver0 then 10 else if s = hver1 then 11 else 0
theorem line_miss {s : List UInt8} (h : 32 ∉ s) : lineF s = ([], [], 0, false) := by
  have hall : s.all (notB 32) = true := by
    rw [List.all_eq_true]; intro c hc; unfold notB; rw [bne_iff_ne]; rintro rfl; exact h hc
  have e : s.takeWhile (notB 32) = s := by
    have := List.takeWhile_append_of_pos (p := notB 32) (l₁ := s) (l₂ := []) (by simpa using hall)
    simpa using this
  unfold lineF
  simp only
  rw [e, List.drop_of_length_le (by omega)]
  rw [if_neg (by simp)]
theorem notin_all {k : UInt8} {a : List UInt8} (h : k ∉ a) : a.all (notB k) = true := by
  rw [List.all_eq_true]; intro c hc; unfold notB; rw [bne_iff_ne]; rintro rfl; exact h hc
theorem line_one {m r : List UInt8} (hm : 32 ∉ m) : lineF (m ++ 32 :: r) = if tokF m = true ∧ r.takeWhile visB ≠ [] then (if r.drop (r.takeWhile visB).length = http0 then (m, r.takeWhile visB, 10, true) else if r.drop (r.takeWhile visB).length = http1 then (m, r.takeWhile visB, 11, true) else ([], [], 0, false)) else ([], [], 0, false) := by
  unfold lineF
  simp only
  rw [take_while_stop (notin_all hm) rfl]
  have : (m ++ 32 :: r).drop (m.length + 1) = r := by rw [List.drop_append, List.drop_of_length_le (by omega), show m.length + 1 - m.length = 1 by omega]; rfl
  rw [this]
theorem drop_mem {k : UInt8} {r q : List UInt8} {n : Nat} (h : r.drop n = k :: q) : k ∈ r := by
  have : k ∈ r.drop n := by rw [h]; exact List.mem_cons_self
  exact List.mem_of_mem_drop this
theorem line_miss2 {m r : List UInt8} (hm : 32 ∉ m) (hr : 32 ∉ r) : lineF (m ++ 32 :: r) = ([], [], 0, false) := by
  rw [line_one hm]
  split
  · have n0 : ¬ (r.drop (r.takeWhile visB).length = http0) := fun e => hr (drop_mem (k := 32) (q := http0.tail) e)
    have n1 : ¬ (r.drop (r.takeWhile visB).length = http1) := fun e => hr (drop_mem (k := 32) (q := http1.tail) e)
    rw [if_neg n0, if_neg n1]
  · rfl
theorem while_drop (p : UInt8 → Bool) : ∀ (t : List UInt8), t.all p = false → ∀ q, ∃ c r, (t ++ q).drop ((t ++ q).takeWhile p).length = c :: r ∧ p c = false ∧ c ∈ t
  | [], h, _ => by cases h
  | c :: t, h, q => by
    cases hc : p c with
    | false =>
      refine ⟨c, t ++ q, ?_, hc, List.mem_cons_self⟩
      rw [List.cons_append, List.takeWhile_cons, hc]; rfl
    | true =>
      rw [List.all_cons, hc, Bool.true_and] at h
      obtain ⟨d, r, h1, h2, h3⟩ := while_drop p t h q
      refine ⟨d, r, ?_, h2, List.mem_cons_of_mem _ h3⟩
      rw [List.cons_append, List.takeWhile_cons, if_pos hc, List.length_cons, List.drop_succ_cons]
      exact h1
theorem line_two {m t l : List UInt8} (hm : 32 ∉ m) (ht : 32 ∉ t) : lineF (m ++ 32 :: (t ++ 32 :: l)) = if (tokF m && (t.all visB && t != []) && verN l != 0) = true then (m, t, verN l, true) else ([], [], 0, false) := by
  rw [line_one hm]
  cases hv : t.all visB with
  | false =>
    obtain ⟨c, r, h1, h2, h3⟩ := while_drop visB t hv (32 :: l)
    have hc : c ≠ 32 := fun e => ht (by rw [← e]; exact h3)
    rw [h1, Bool.false_and, Bool.and_false, Bool.false_and, if_neg Bool.false_ne_true]
    split
    · have n0 : ¬ (c :: r = http0) := fun e => hc (List.cons.inj (show c :: r = 32 :: http0.tail from e)).1
      have n1 : ¬ (c :: r = http1) := fun e => hc (List.cons.inj (show c :: r = 32 :: http1.tail from e)).1
      rw [if_neg n0, if_neg n1]
    · rfl
  | true =>
    have e1 : (t ++ 32 :: l).takeWhile visB = t := take_while_stop hv rfl
    have e2 : (t ++ 32 :: l).drop t.length = 32 :: l := List.drop_left
    rw [e1, e2]
    have h0 : (32 :: l = http0) = (l = hver0) := by unfold http0 hver0; simp
    have h1 : (32 :: l = http1) = (l = hver1) := by unfold http1 hver1; simp
    simp only [h0, h1]
    unfold verN
    by_cases a : tokF m = true
    · by_cases b : t = []
      · simp [a, b]
      · by_cases c : l = hver0
        · simp [a, b, c]
        · by_cases d : l = hver1
          · subst d
            have n10 : hver1 ≠ hver0 := by decide
            simp [a, b, n10]
          · simp [a, b, c, d]
    · simp [a]

/-! A target: each of its bytes is told, or begins an escape. -/
def escF : List UInt8 → Bool
  | c :: x :: y :: _ => c == 37 && hexB x && hexB y
  | _ => false
def wrF (p : UInt8 → Bool) : List UInt8 → Bool
  | [] => true
  | c :: r => (p c || escF (c :: r)) && wrF p r
def queryB (c : UInt8) : Bool := c == 63 || pathB c
theorem hex_path (c : UInt8) (h : hexB c = true) : pathB c = true := by
  have := all_bytes (p := fun c => !hexB c || pathB c) (by decide +kernel) c
  simpa [h] using this
theorem esc_not {c : UInt8} {r : List UInt8} (h : c ≠ 37) : escF (c :: r) = false := by
  match r with
  | [] => rfl
  | [_] => rfl
  | x :: y :: r =>
    have : escF (c :: x :: y :: r) = (c == 37 && hexB x && hexB y) := rfl
    rw [this, show (c == 37) = false from beq_eq_false_iff_ne.2 h]; rfl
/-- Any function that tells a path's characters, and of the others at most the question mark. -/
theorem wr_ok {p : UInt8 → Bool} (hp : ∀ c, c ≠ 63 → p c = pathB c) : ∀ (n : Nat) (s : List UInt8), s.length ≤ n → (63 ∈ s → p 63 = true) → wrF p s = okT s
  | 0, s, hn, _ => by
    obtain rfl := List.length_eq_zero_iff.1 (Nat.le_zero.1 hn); rfl
  | n + 1, [], _, _ => rfl
  | n + 1, c :: r, hn, hq => by
    simp only [List.length_cons] at hn
    have ih := wr_ok hp n r (by omega) (fun h => hq (List.mem_cons_of_mem _ h))
    by_cases hc : c = 37
    · subst hc
      have h37 : p 37 = false := by rw [hp 37 (by decide)]; exact path_pct
      rw [wrF, h37, Bool.false_or]
      by_cases hr : ∃ x y q, r = x :: y :: q ∧ hexB x = true ∧ hexB y = true
      · obtain ⟨x, y, q, rfl, hx, hy⟩ := hr
        rw [okT_pct hx hy, ih, okT_one (hex_not x hx).1, okT_one (hex_not y hy).1, hex_path x hx, hex_path y hy]
        simp [escF, hx, hy]
      · rw [okT_bad (fun x y q e he => hr ⟨x, y, q, e, he⟩)]
        have : escF (37 :: r) = false := by
          match r, hr with
          | [], _ => rfl
          | [_], _ => rfl
          | x :: y :: q, hr =>
            cases he : escF (37 :: x :: y :: q) with
            | false => rfl
            | true =>
              unfold escF at he
              simp only [beq_self_eq_true, Bool.true_and, Bool.and_eq_true] at he
              exact absurd ⟨x, y, q, rfl, he.1, he.2⟩ hr
        rw [this, Bool.false_and]
    · rw [wrF, esc_not hc, Bool.or_false, okT_one hc, ih]
      by_cases h63 : c = 63
      · subst h63
        rw [hq List.mem_cons_self]; rfl
      · rw [hp c h63, show (c == 63) = false from beq_eq_false_iff_ne.2 h63, Bool.false_or]
theorem wr_path {s : List UInt8} (h : 63 ∉ s) : wrF pathB s = okT s := wr_ok (fun _ _ => rfl) _ s (Nat.le_refl _) (fun e => absurd e h)
theorem wr_query (s : List UInt8) : wrF queryB s = okT s := wr_ok (fun c h => by unfold queryB; rw [show (c == 63) = false from beq_eq_false_iff_ne.2 h, Bool.false_or]) _ s (Nat.le_refl _) (fun _ => rfl)
theorem target_bad {s : List UInt8} (h : s[0]? ≠ some 47) : targetF s = ([], [], false) := by unfold targetF; rw [if_pos (.inl h)]
theorem targ_miss {s : List UInt8} (h0 : s[0]? = some 47) (hl : s.length ≤ 512) (hq : 63 ∉ s) : targetF s = if (wrF pathB s && wrF queryB []) = true then (s, [], true) else ([], [], false) := by
  rw [wr_path hq]
  cases ho : okT s with
  | true => rw [target_path h0 hl ho hq]; rfl
  | false => rw [target_none ho]; rfl
theorem targ_hit {a b : List UInt8} (h0 : (a ++ 63 :: b)[0]? = some 47) (hl : (a ++ 63 :: b).length ≤ 512) (hq : 63 ∉ a) : targetF (a ++ 63 :: b) = if (wrF pathB a && wrF queryB b) = true then (a, b, true) else ([], [], false) := by
  rw [wr_path hq, wr_query]
  have ha0 : 0 < a.length := by
    cases a with
    | nil => cases h0
    | cons => simp
  rw [List.getElem?_append_left ha0] at h0
  rw [List.length_append, List.length_cons] at hl
  cases ho : okT a with
  | false =>
    rw [target_none]
    · rfl
    · cases hab : okT (a ++ 63 :: b) with
      | false => rfl
      | true => rw [(okT_mark _ a b (Nat.le_refl _) hq hab).1] at ho; cases ho
  | true =>
    cases hob : okT b with
    | true =>
      have := target_query h0 (by omega) ho hob hq
      rw [show (a ++ [63]) ++ b = a ++ 63 :: b by simp] at this
      rw [this]; rfl
    | false =>
      rw [target_none]
      · rfl
      · rw [okT_append _ a _ (Nat.le_refl _) ho, okT_one (by decide), hob, Bool.and_false]

/-! A reply's line. -/
def codeOfF : List UInt8 → Nat
  | [a, b, c] => if digB a = true ∧ digB b = true ∧ digB c = true ∧ 49 ≤ a.toNat ∧ a.toNat ≤ 53 then codeN a b c else 0
  | _ => 0
theorem code_none {d : List UInt8} (h : d.length ≠ 3) : codeOfF d = 0 := by
  match d, h with
  | [], _ => rfl
  | [_], _ => rfl
  | [_, _], _ => rfl
  | [_, _, _], h => exact absurd rfl h
  | _ :: _ :: _ :: _ :: _, _ => rfl
theorem cut_same {k : UInt8} {a a' b b' : List UInt8} (h : a ++ k :: b = a' ++ k :: b') (ha : k ∉ a) (ha' : k ∉ a') : a = a' ∧ b = b' := by
  have e1 := take_while_stop (notin_all ha) (r := b) (c := k) (by unfold notB; simp)
  have e2 := take_while_stop (notin_all ha') (r := b') (c := k) (by unfold notB; simp)
  rw [h, e2] at e1
  subst e1
  exact ⟨rfl, (List.cons.inj (List.append_cancel_left h)).2⟩
theorem dig_ne {n : Nat} (h : n ≤ 9) : UInt8.ofNat (48 + n) ≠ 32 := fun e => by
  have := congrArg UInt8.toNat e
  rw [dig_nat h] at this
  have : 48 + n = 32 := this
  omega
theorem dig3_ne {n : Nat} (h1 : 100 ≤ n) (h2 : n ≤ 599) : 32 ∉ dig3 n := by
  unfold dig3
  simp only [List.mem_cons, List.not_mem_nil, or_false]
  rintro (e | e | e)
  · exact dig_ne (by omega) e.symm
  · exact dig_ne (by omega) e.symm
  · exact dig_ne (by omega) e.symm
theorem http_cut (r : List UInt8) : httpS ++ r = hver1 ++ 32 :: r := rfl
/-- Any answer that tells a reply's line is put together as it. -/
theorem status_no {s : List UInt8} (h : ∀ c r, 100 ≤ c → c ≤ 599 → r.any badB = false → s ≠ hver1 ++ 32 :: (dig3 c ++ 32 :: r)) : statusF s = (0, [], false) := by
  obtain ⟨⟨c, r, k⟩, hp⟩ : ∃ p, statusF s = p := ⟨_, rfl⟩
  cases k with
  | true =>
    obtain ⟨h1, h2, h3, h4, _⟩ := status_true hp
    exact absurd (h4.trans (http_cut _)) (h c r h1 h2 h3)
  | false => obtain ⟨rfl, rfl⟩ := status_false hp; exact hp
theorem stat_miss {s : List UInt8} (h : 32 ∉ s) : statusF s = (0, [], false) := status_no fun c r _ _ _ e => h (by rw [e]; simp)
theorem stat_miss2 {v r : List UInt8} (hv : 32 ∉ v) (hr : 32 ∉ r) : statusF (v ++ 32 :: r) = (0, [], false) := status_no fun c q _ _ _ e => by
  obtain ⟨_, e2⟩ := cut_same e hv (by decide)
  exact hr (by rw [e2]; simp)
theorem code_pos {d : List UInt8} (h : codeOfF d ≠ 0) : ∃ a b c, d = [a, b, c] ∧ digB a = true ∧ digB b = true ∧ digB c = true ∧ 49 ≤ a.toNat ∧ a.toNat ≤ 53 ∧ codeOfF d = codeN a b c := by
  match d, h with
  | [], h => exact absurd rfl h
  | [_], h => exact absurd rfl h
  | [_, _], h => exact absurd rfl h
  | [a, b, c], h =>
    have e : codeOfF [a, b, c] = if digB a = true ∧ digB b = true ∧ digB c = true ∧ 49 ≤ a.toNat ∧ a.toNat ≤ 53 then codeN a b c else 0 := rfl
    by_cases hc : digB a = true ∧ digB b = true ∧ digB c = true ∧ 49 ≤ a.toNat ∧ a.toNat ≤ 53
    · exact ⟨a, b, c, rfl, hc.1, hc.2.1, hc.2.2.1, hc.2.2.2.1, hc.2.2.2.2, by rw [e, if_pos hc]⟩
    · rw [e, if_neg hc] at h
      exact absurd rfl h
  | _ :: _ :: _ :: _ :: _, h => exact absurd rfl h
theorem code_dig3 {n : Nat} (h1 : 100 ≤ n) (h2 : n ≤ 599) : codeOfF (dig3 n) ≠ 0 := by
  have ea := dig_nat (k := n / 100) (by omega)
  have eb := dig_nat (k := n / 10 % 10) (by omega)
  have ec := dig_nat (k := n % 10) (by omega)
  have dg : ∀ k, k ≤ 9 → digB (UInt8.ofNat (48 + k)) = true := fun k hk => by
    unfold digB; rw [dig_nat hk, decide_eq_true (by omega), decide_eq_true (by omega)]; rfl
  have e : ∀ a b c : UInt8, codeOfF [a, b, c] = if digB a = true ∧ digB b = true ∧ digB c = true ∧ 49 ≤ a.toNat ∧ a.toNat ≤ 53 then codeN a b c else 0 := fun _ _ _ => rfl
  unfold dig3
  rw [e, if_pos ⟨dg _ (by omega), dg _ (by omega), dg _ (by omega), by rw [ea]; omega, by rw [ea]; omega⟩]
  unfold codeN
  rw [ea]; omega
theorem stat_two {v d r : List UInt8} (hv : 32 ∉ v) (hd : 32 ∉ d) : statusF (v ++ 32 :: (d ++ 32 :: r)) = if (v == hver1 && codeOfF d != 0 && r.all valB) = true then (codeOfF d, r, true) else (0, [], false) := by
  by_cases hc : (v == hver1 && codeOfF d != 0 && r.all valB) = true
  · rw [if_pos hc]
    simp only [Bool.and_eq_true, beq_iff_eq, bne_iff_ne] at hc
    obtain ⟨⟨rfl, h0⟩, hr⟩ := hc
    obtain ⟨a, b, c, rfl, ha, hb, hc', h1, h5, hcd⟩ := code_pos h0
    rw [hcd]
    have hbad : r.any badB = false := by rw [val_bad] at hr; simpa using hr
    unfold statusF
    have e1 : (hver1 ++ 32 :: ([a, b, c] ++ 32 :: r)).drop 9 = a :: b :: c :: 32 :: r := rfl
    have e2 : (hver1 ++ 32 :: ([a, b, c] ++ 32 :: r)).take 9 = httpS := rfl
    rw [e1, e2]
    simp only
    rw [if_pos ⟨trivial, ha, hb, hc', h1, h5, hbad⟩]
  · rw [if_neg hc]
    refine status_no fun c q h1 h2 hq e => hc ?_
    obtain ⟨rfl, e2⟩ := cut_same e hv (by decide)
    obtain ⟨rfl, rfl⟩ := cut_same e2 hd (dig3_ne h1 h2)
    simp only [Bool.and_eq_true, beq_iff_eq, bne_iff_ne]
    exact ⟨⟨trivial, code_dig3 h1 h2⟩, by rw [val_bad, hq]; rfl⟩
/-- What field.Parse tells of x: ahead of a text. -/
theorem parse_x (s : List UInt8) : (parseF (120 :: 58 :: s)).2.2 = s.all valB := by
  have h := parse_cut [120] s (by decide)
  rw [show ([120] : List UInt8) ++ 58 :: s = 120 :: 58 :: s from rfl] at h
  rw [h, show tokF [120] = true by decide, Bool.true_and]
  cases s.all valB <;> rfl
end Go.Proofs.YtmklgjbfdaleiaaDoor
