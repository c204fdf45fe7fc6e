/- Texts of this proof that several statements share, one behind the other. -/
import Derived.Test.YtfdbmbgpcioogaaDoorJc
import Derived.Test.YtfdbmbgpcioogaaDoorJe
import Derived.Test.YtfdbmbgpcioogaaDoorJd
import Derived.Test.YtfdbmbgpcioogaaDoorRows
import Derived.Lib.LaidTab
import Derived.Test.YtfdbmbgpcioogaaDoorProg
import Derived.ProofKit
import Derived.Handed
import Derived.OpenShut
import Derived.SizedLaws
/- The landed package's way, as list functions: what its loops tell is the document's answer. -/
namespace Go.Proofs.YtfdbmbgpcioogaaDoor
open Go.RowKit

/-! A request's line, cut at its blanks. -/
def hver0 : List UInt8 := [72, 84, 84, 80, 47, 49, 46, 48]
def hver1 : List UInt8 := [72, 84, 84, 80, 47, 49, 46, 49]
def verN (s : List UInt8) : Nat := if s = hver0 then 10 else if s = hver1 then 11 else 0
theorem line_miss {s : List UInt8} (h : 32 ∉ s) : lineF s = ([], [], 0, false) := by
  have hall : s.all (notB 32) = true := by
    rw [List.all_eq_true]; intro c hc; unfold notB; rw [bne_iff_ne]; rintro rfl; exact h hc
  have e : s.takeWhile (notB 32) = s := by
    have := List.takeWhile_append_of_pos (p := notB 32) (l₁ := s) (l₂ := []) (by simpa using hall)
    simpa using this
  unfold lineF
  simp only
  rw [e, List.drop_of_length_le (by omega)]
  rw [if_neg (by simp)]
theorem notin_all {k : UInt8} {a : List UInt8} (h : k ∉ a) : a.all (notB k) = true := by
  rw [List.all_eq_true]; intro c hc; unfold notB; rw [bne_iff_ne]; rintro rfl; exact h hc
theorem line_one {m r : List UInt8} (hm : 32 ∉ m) : lineF (m ++ 32 :: r) = if tokF m = true ∧ r.takeWhile visB ≠ [] then (if r.drop (r.takeWhile visB).length = http0 then (m, r.takeWhile visB, 10, true) else if r.drop (r.takeWhile visB).length = http1 then (m, r.takeWhile visB, 11, true) else ([], [], 0, false)) else ([], [], 0, false) := by
  unfold lineF
  simp only
  rw [take_while_stop (notin_all hm) rfl]
  have : (m ++ 32 :: r).drop (m.length + 1) = r := by rw [List.drop_append, List.drop_of_length_le (by omega), show m.length + 1 - m.length = 1 by omega]; rfl
  rw [this]
theorem drop_mem {k : UInt8} {r q : List UInt8} {n : Nat} (h : r.drop n = k :: q) : k ∈ r := by
  have : k ∈ r.drop n := by rw [h]; exact List.mem_cons_self
  exact List.mem_of_mem_drop this
theorem line_miss2 {m r : List UInt8} (hm : 32 ∉ m) (hr : 32 ∉ r) : lineF (m ++ 32 :: r) = ([], [], 0, false) := by
  rw [line_one hm]
  split
  · have n0 : ¬ (r.drop (r.takeWhile visB).length = http0) := fun e => hr (drop_mem (k := 32) (q := http0.tail) e)
    have n1 : ¬ (r.drop (r.takeWhile visB).length = http1) := fun e => hr (drop_mem (k := 32) (q := http1.tail) e)
    rw [if_neg n0, if_neg n1]
  · rfl
theorem while_drop (p : UInt8 → Bool) : ∀ (t : List UInt8), t.all p = false → ∀ q, ∃ c r, (t ++ q).drop ((t ++ q).takeWhile p).length = c :: r ∧ p c = false ∧ c ∈ t
  | [], h, _ => by cases h
  | c :: t, h, q => by
    cases hc : p c with
    | false =>
      refine ⟨c, t ++ q, ?_, hc, List.mem_cons_self⟩
      rw [List.cons_append, List.takeWhile_cons, hc]; rfl
    | true =>
      rw [List.all_cons, hc, Bool.true_and] at h
      obtain ⟨d, r, h1, h2, h3⟩ := while_drop p t h q
      refine ⟨d, r, ?_, h2, List.mem_cons_of_mem _ h3⟩
      rw [List.cons_append, List.takeWhile_cons, if_pos hc, List.length_cons, List.drop_succ_cons]
      exact h1
theorem line_two {m t l : List UInt8} (hm : 32 ∉ m) (ht : 32 ∉ t) : lineF (m ++ 32 :: (t ++ 32 :: l)) = if (tokF m && (t.all visB && t != []) && verN l != 0) = true then (m, t, verN l, true) else ([], [], 0, false) := by
  rw [line_one hm]
  cases hv : t.all visB with
  | false =>
    obtain ⟨c, r, h1, h2, h3⟩ := while_drop visB t hv (32 :: l)
    have hc : c ≠ 32 := fun e => ht (by rw [← e]; exact h3)
    rw [h1, Bool.false_and, Bool.and_false, Bool.false_and, if_neg Bool.false_ne_true]
    split
    · have n0 : ¬ (c :: r = http0) := fun e => hc (List.cons.inj (show c :: r = 32 :: http0.tail from e)).1
      have n1 : ¬ (c :: r = http1) := fun e => hc (List.cons.inj (show c :: r = 32 :: http1.tail from e)).1
      rw [if_neg n0, if_neg n1]
    · rfl
  | true =>
    have e1 : (t ++ 32 :: l).takeWhile visB = t := take_while_stop hv rfl
    have e2 : (t ++ 32 :: l).drop t.length = 32 :: l := List.drop_left
    rw [e1, e2]
    have h0 : (32 :: l = http0) = (l = hver0) := by unfold http0 hver0; simp
    have h1 : (32 :: l = http1) = (l = hver1) := by unfold http1 hver1; simp
    simp only [h0, h1]
    unfold verN
    by_cases a : tokF m = true
    · by_cases b : t = []
      · simp [a, b]
      · by_cases c : l = hver0
        · simp [a, b, c]
        · by_cases d : l = hver1
          · subst d
            have n10 : hver1 ≠ hver0 := by decide
            simp [a, b, n10]
          · simp [a, b, c, d]
    · simp [a]

/-! A target: each of its bytes is told, or begins an escape. -/
def escF : List UInt8 → Bool
  | c :: x :: y :: _ => c == 37 && hexB x && hexB y
  | _ => false
def wrF (p : UInt8 → Bool) : List UInt8 → Bool
  | [] => true
  | c :: r => (p c || escF (c :: r)) && wrF p r
def queryB (c : UInt8) : Bool := c == 63 || pathB c
theorem hex_path (c : UInt8) (h : hexB c = true) : pathB c = true := by
  have := all_bytes (p := fun c => !hexB c || pathB c) (by decide +kernel) c
  simpa [h] using this
theorem esc_not {c : UInt8} {r : List UInt8} (h : c ≠ 37) : escF (c :: r) = false := by
  match r with
  | [] => rfl
  | [_] => rfl
  | x :: y :: r =>
    have : escF (c :: x :: y :: r) = (c == 37 && hexB x && hexB y) := rfl
    rw [this, show (c == 37) = false from beq_eq_false_iff_ne.2 h]; rfl
/-- Any function that tells a path's characters, and of the others at most the question mark. -/
theorem wr_ok {p : UInt8 → Bool} (hp : ∀ c, c ≠ 63 → p c = pathB c) : ∀ (n : Nat) (s : List UInt8), s.length ≤ n → (63 ∈ s → p 63 = true) → wrF p s = okT s
  | 0, s, hn, _ => by
    obtain rfl := List.length_eq_zero_iff.1 (Nat.le_zero.1 hn); rfl
  | n + 1, [], _, _ => rfl
  | n + 1, c :: r, hn, hq => by
    simp only [List.length_cons] at hn
    have ih := wr_ok hp n r (by omega) (fun h => hq (List.mem_cons_of_mem _ h))
    by_cases hc : c = 37
    · subst hc
      have h37 : p 37 = false := by rw [hp 37 (by decide)]; exact path_pct
      rw [wrF, h37, Bool.false_or]
      by_cases hr : ∃ x y q, r = x :: y :: q ∧ hexB x = true ∧ hexB y = true
      · obtain ⟨x, y, q, rfl, hx, hy⟩ := hr
        rw [okT_pct hx hy, ih, okT_one (hex_not x hx).1, okT_one (hex_not y hy).1, hex_path x hx, hex_path y hy]
        simp [escF, hx, hy]
      · rw [okT_bad (fun x y q e he => hr ⟨x, y, q, e, he⟩)]
        have : escF (37 :: r) = false := by
          match r, hr with
          | [], _ => rfl
          | [_], _ => rfl
          | x :: y :: q, hr =>
            cases he : escF (37 :: x :: y :: q) with
            | false => rfl
            | true =>
              unfold escF at he
              simp only [beq_self_eq_true, Bool.true_and, Bool.and_eq_true] at he
              exact absurd ⟨x, y, q, rfl, he.1, he.2⟩ hr
        rw [this, Bool.false_and]
    · rw [wrF, esc_not hc, Bool.or_false, okT_one hc, ih]
      by_cases h63 : c = 63
      · subst h63
        rw [hq List.mem_cons_self]; rfl
      · rw [hp c h63, show (c == 63) = false from beq_eq_false_iff_ne.2 h63, Bool.false_or]
theorem wr_path {s : List UInt8} (h : 63 ∉ s) : wrF pathB s = okT s := wr_ok (fun _ _ => rfl) _ s (Nat.le_refl _) (fun e => absurd e h)
theorem wr_query (s : List UInt8) : wrF queryB s = okT s := wr_ok (fun c h => by unfold queryB; rw [show (c == 63) = false from beq_eq_false_iff_ne.2 h, Bool.false_or]) _ s (Nat.le_refl _) (fun _ => rfl)
theorem target_bad {s : List UInt8} (h : s[0]? ≠ some 47) : targetF s = ([], [], false) := by unfold targetF; rw [if_pos (.inl h)]
theorem targ_miss {s : List UInt8} (h0 : s[0]? = some 47) (hl : s.length ≤ 512) (hq : 63 ∉ s) : targetF s = if (wrF pathB s && wrF queryB []) = true then (s, [], true) else ([], [], false) := by
  rw [wr_path hq]
  cases ho : okT s with
  | true => rw [target_path h0 hl ho hq]; rfl
  | false => rw [target_none ho]; rfl
theorem targ_hit {a b : List UInt8} (h0 : (a ++ 63 :: b)[0]? = some 47) (hl : (a ++ 63 :: b).length ≤ 512) (hq : 63 ∉ a) : targetF (a ++ 63 :: b) = if (wrF pathB a && wrF queryB b) = true then (a, b, true) else ([], [], false) := by
  rw [wr_path hq, wr_query]
  have ha0 : 0 < a.length := by
    cases a with
    | nil => cases h0
    | cons => simp
  rw [List.getElem?_append_left ha0] at h0
  rw [List.length_append, List.length_cons] at hl
  cases ho : okT a with
  | false =>
    rw [target_none]
    · rfl
    · cases hab : okT (a ++ 63 :: b) with
      | false => rfl
      | true => rw [(okT_mark _ a b (Nat.le_refl _) hq hab).1] at ho; cases ho
  | true =>
    cases hob : okT b with
    | true =>
      have := target_query h0 (by omega) ho hob hq
      rw [show (a ++ [63]) ++ b = a ++ 63 :: b by simp] at this
      rw [this]; rfl
    | false =>
      rw [target_none]
      · rfl
      · rw [okT_append _ a _ (Nat.le_refl _) ho, okT_one (by decide), hob, Bool.and_false]

/-! A reply's line. -/
def codeOfF : List UInt8 → Nat
  | [a, b, c] => if digB a = true ∧ digB b = true ∧ digB c = true ∧ 49 ≤ a.toNat ∧ a.toNat ≤ 53 then codeN a b c else 0
  | _ => 0
theorem code_none {d : List UInt8} (h : d.length ≠ 3) : codeOfF d = 0 := by
  match d, h with
  | [], _ => rfl
  | [_], _ => rfl
  | [_, _], _ => rfl
  | [_, _, _], h => exact absurd rfl h
  | _ :: _ :: _ :: _ :: _, _ => rfl
theorem cut_same {k : UInt8} {a a' b b' : List UInt8} (h : a ++ k :: b = a' ++ k :: b') (ha : k ∉ a) (ha' : k ∉ a') : a = a' ∧ b = b' := by
  have e1 := take_while_stop (notin_all ha) (r := b) (c := k) (by unfold notB; simp)
  have e2 := take_while_stop (notin_all ha') (r := b') (c := k) (by unfold notB; simp)
  rw [h, e2] at e1
  subst e1
  exact ⟨rfl, (List.cons.inj (List.append_cancel_left h)).2⟩
theorem dig_ne {n : Nat} (h : n ≤ 9) : UInt8.ofNat (48 + n) ≠ 32 := fun e => by
  have := congrArg UInt8.toNat e
  rw [dig_nat h] at this
  have : 48 + n = 32 := this
  omega
theorem dig3_ne {n : Nat} (h1 : 100 ≤ n) (h2 : n ≤ 599) : 32 ∉ dig3 n := by
  unfold dig3
  simp only [List.mem_cons, List.not_mem_nil, or_false]
  rintro (e | e | e)
  · exact dig_ne (by omega) e.symm
  · exact dig_ne (by omega) e.symm
  · exact dig_ne (by omega) e.symm
theorem http_cut (r : List UInt8) : httpS ++ r = hver1 ++ 32 :: r := rfl
/-- Any answer that tells a reply's line is put together as it. -/
theorem status_no {s : List UInt8} (h : ∀ c r, 100 ≤ c → c ≤ 599 → r.any badB = false → s ≠ hver1 ++ 32 :: (dig3 c ++ 32 :: r)) : statusF s = (0, [], false) := by
  obtain ⟨⟨c, r, k⟩, hp⟩ : ∃ p, statusF s = p := ⟨_, rfl⟩
  cases k with
  | true =>
    obtain ⟨h1, h2, h3, h4, _⟩ := status_true hp
    exact absurd (h4.trans (http_cut _)) (h c r h1 h2 h3)
  | false => obtain ⟨rfl, rfl⟩ := status_false hp; exact hp
theorem stat_miss {s : List UInt8} (h : 32 ∉ s) : statusF s = (0, [], false) := status_no fun c r _ _ _ e => h (by rw [e]; simp)
theorem stat_miss2 {v r : List UInt8} (hv : 32 ∉ v) (hr : 32 ∉ r) : statusF (v ++ 32 :: r) = (0, [], false) := status_no fun c q _ _ _ e => by
  obtain ⟨_, e2⟩ := cut_same e hv (by decide)
  exact hr (by rw [e2]; simp)
theorem code_pos {d : List UInt8} (h : codeOfF d ≠ 0) : ∃ a b c, d = [a, b, c] ∧ digB a = true ∧ digB b = true ∧ digB c = true ∧ 49 ≤ a.toNat ∧ a.toNat ≤ 53 ∧ codeOfF d = codeN a b c := by
  match d, h with
  | [], h => exact absurd rfl h
  | [_], h => exact absurd rfl h
  | [_, _], h => exact absurd rfl h
  | [a, b, c], h =>
    have e : codeOfF [a, b, c] = if digB a = true ∧ digB b = true ∧ digB c = true ∧ 49 ≤ a.toNat ∧ a.toNat ≤ 53 then codeN a b c else 0 := rfl
    by_cases hc : digB a = true ∧ digB b = true ∧ digB c = true ∧ 49 ≤ a.toNat ∧ a.toNat ≤ 53
    · exact ⟨a, b, c, rfl, hc.1, hc.2.1, hc.2.2.1, hc.2.2.2.1, hc.2.2.2.2, by rw [e, if_pos hc]⟩
    · rw [e, if_neg hc] at h
      exact absurd rfl h
  | _ :: _ :: _ :: _ :: _, h => exact absurd rfl h
theorem code_dig3 {n : Nat} (h1 : 100 ≤ n) (h2 : n ≤ 599) : codeOfF (dig3 n) ≠ 0 := by
  have ea := dig_nat (k := n / 100) (by omega)
  have eb := dig_nat (k := n / 10 % 10) (by omega)
  have ec := dig_nat (k := n % 10) (by omega)
  have dg : ∀ k, k ≤ 9 → digB (UInt8.ofNat (48 + k)) = true := fun k hk => by
    unfold digB; rw [dig_nat hk, decide_eq_true (by omega), decide_eq_true (by omega)]; rfl
  have e : ∀ a b c : UInt8, codeOfF [a, b, c] = if digB a = true ∧ digB b = true ∧ digB c = true ∧ 49 ≤ a.toNat ∧ a.toNat ≤ 53 then codeN a b c else 0 := fun _ _ _ => rfl
  unfold dig3
  rw [e, if_pos ⟨dg _ (by omega), dg _ (by omega), dg _ (by omega), by rw [ea]; omega, by rw [ea]; omega⟩]
  unfold codeN
  rw [ea]; omega
theorem stat_two {v d r : List UInt8} (hv : 32 ∉ v) (hd : 32 ∉ d) : statusF (v ++ 32 :: (d ++ 32 :: r)) = if (v == hver1 && codeOfF d != 0 && r.all valB) = true then (codeOfF d, r, true) else (0, [], false) := by
  by_cases hc : (v == hver1 && codeOfF d != 0 && r.all valB) = true
  · rw [if_pos hc]
    simp only [Bool.and_eq_true, beq_iff_eq, bne_iff_ne] at hc
    obtain ⟨⟨rfl, h0⟩, hr⟩ := hc
    obtain ⟨a, b, c, rfl, ha, hb, hc', h1, h5, hcd⟩ := code_pos h0
    rw [hcd]
    have hbad : r.any badB = false := by rw [val_bad] at hr; simpa using hr
    unfold statusF
    have e1 : (hver1 ++ 32 :: ([a, b, c] ++ 32 :: r)).drop 9 = a :: b :: c :: 32 :: r := rfl
    have e2 : (hver1 ++ 32 :: ([a, b, c] ++ 32 :: r)).take 9 = httpS := rfl
    rw [e1, e2]
    simp only
    rw [if_pos ⟨trivial, ha, hb, hc', h1, h5, hbad⟩]
  · rw [if_neg hc]
    refine status_no fun c q h1 h2 hq e => hc ?_
    obtain ⟨rfl, e2⟩ := cut_same e hv (by decide)
    obtain ⟨rfl, rfl⟩ := cut_same e2 hd (dig3_ne h1 h2)
    simp only [Bool.and_eq_true, beq_iff_eq, bne_iff_ne]
    exact ⟨⟨trivial, code_dig3 h1 h2⟩, by rw [val_bad, hq]; rfl⟩
/-- What field.Parse tells of x: ahead of a text. -/
theorem parse_x (s : List UInt8) : (parseF (120 :: 58 :: s)).2.2 = s.all valB := by
  have h := parse_cut [120] s (by decide)
  rw [show ([120] : List UInt8) ++ 58 :: s = 120 :: 58 :: s from rfl] at h
  rw [h, show tokF [120] = true by decide, Bool.true_and]
  cases s.all valB <;> rfl
end Go.Proofs.YtfdbmbgpcioogaaDoor
/- The landed package of lines walked: its bytes and its loops. (mklv.py writes it.) -/
namespace Go.Proofs.YtfdbmbgpcioogaaDoor
open Go.RowKit
attribute [local go_sem] store_one S_match S_store eguard_BN nguard_BN

theorem B_lss (t : TypeId) (x : UInt8) (k : Int) : binOp .lss t (B x) (.int .u8 k) = pure (.bool (decide ((x.toNat : Int) < k))) := rfl
theorem B_gtr (t : TypeId) (x : UInt8) (k : Int) : binOp .gtr t (B x) (.int .u8 k) = pure (.bool (decide (k < (x.toNat : Int)))) := rfl
theorem hex_small : ∀ n : Fin 256, hexB (UInt8.ofNat n.1) = ((decide (48 ≤ n.1) && decide (n.1 ≤ 57)) || (decide (97 ≤ n.1) && decide (n.1 ≤ 102)) || (decide (65 ≤ n.1) && decide (n.1 ≤ 70))) := by decide +kernel
theorem hex_eq (c : UInt8) : hexB c = ((decide (48 ≤ c.toNat) && decide (c.toNat ≤ 57)) || (decide (97 ≤ c.toNat) && decide (c.toNat ≤ 102)) || (decide (65 ≤ c.toNat) && decide (c.toNat ≤ 70))) := by
  have := hex_small ⟨c.toNat, c.toNat_lt⟩
  simp only [UInt8.ofNat_toNat] at this
  exact this
def pmarkL : List UInt8 := [45, 46, 95, 126, 33, 36, 38, 39, 40, 41, 42, 43, 44, 59, 61, 58, 64, 47]
theorem path_small : ∀ n : Fin 256, pathB (UInt8.ofNat n.1) = ((decide (65 ≤ n.1) && decide (n.1 ≤ 90)) || (decide (97 ≤ n.1) && decide (n.1 ≤ 122)) || (decide (48 ≤ n.1) && decide (n.1 ≤ 57)) || pmarkL.contains (UInt8.ofNat n.1)) := by decide +kernel
theorem path_eq (c : UInt8) : pathB c = ((decide (65 ≤ c.toNat) && decide (c.toNat ≤ 90)) || (decide (97 ≤ c.toNat) && decide (c.toNat ≤ 122)) || (decide (48 ≤ c.toNat) && decide (c.toNat ≤ 57)) || pmarkL.contains c) := by
  have := path_small ⟨c.toNat, c.toNat_lt⟩
  simp only [UInt8.ofNat_toNat] at this
  exact this

set_option maxRecDepth 100000 in
set_option maxHeartbeats 1000000 in
theorem inten_any (c : UInt8) (w : World) : Calls Tryd.prog 83 #[B c] w fun e w' => e = .returned (.bool (digB c)) ∧ w' = w := by
  have h1 := B_geq 5 c 48
  have h2 := B_leq 5 c 57
  rcases (by omega : c.toNat < 48 ∨ (48 ≤ c.toNat ∧ c.toNat ≤ 57) ∨ 57 < c.toNat) with a | a | a
  · rw [show digB c = false by unfold digB; simp; omega]
    rw [decide_eq_false (by omega)] at h1
    clear h2 a
    go_enter Tryd.func83, Tryd.ntmps83
    go_wp2
    go_ret
    exact ⟨rfl, rfl⟩
  · rw [show digB c = true by unfold digB; simp; omega]
    rw [decide_eq_true (by omega)] at h1 h2
    clear a
    go_enter Tryd.func83, Tryd.ntmps83
    go_wp2
    go_ret
    exact ⟨rfl, rfl⟩
  · rw [show digB c = false by unfold digB; simp; omega]
    rw [decide_eq_true (by omega)] at h1
    rw [decide_eq_false (by omega)] at h2
    clear a
    go_enter Tryd.func83, Tryd.ntmps83
    go_wp2
    go_ret
    exact ⟨rfl, rfl⟩
theorem pmark_any (c : UInt8) (w : World) : Calls Tryd.prog 101 #[.string ⟨#[45, 46, 95, 126, 33, 36, 38, 39, 40, 41, 42, 43, 44, 59, 61, 58, 64, 47]⟩, B c] w fun e w' => e = .returned (.int .i64 (Lib.indexByte pmarkL c)) ∧ w' = w := by
  have h := Any.strings_IndexByte Tryd.lays137 ⟨#[45, 46, 95, 126, 33, 36, 38, 39, 40, 41, 42, 43, 44, 59, 61, 58, 64, 47]⟩ (c.toNat : Int) w
  have e : (c.toNat : Int).toNat.toUInt8 = c := by simp
  rw [e] at h
  exact h
theorem B_sub48 (t : TypeId) (x : UInt8) (h : 48 ≤ x.toNat) : binOp .sub t (B x) (.int .u8 48) = pure (B (x - 48)) := by
  have := x.toNat_lt
  have e : (x - 48).toNat = x.toNat - 48 := by rw [UInt8.toNat_sub_of_le _ _ (by rw [UInt8.le_iff_toNat_le]; exact h)]; rfl
  have hw : IntKind.u8.wrap ((x.toNat : Int) - 48) = ((x.toNat - 48 : Nat) : Int) := by rw [IntKind.wrap_u8]; omega
  simp only [B, e]
  show pure (Value.int .u8 (IntKind.u8.wrap ((x.toNat : Int) - 48))) = _
  rw [hw]
set_option maxRecDepth 100000 in
set_option maxHeartbeats 1000000 in
theorem code_any (s : List UInt8) (hs : s.length ≤ 100000) (w : World) : Calls Tryd.prog 59 #[S s] w fun e w' => e = .returned (.int .i64 (codeOfF s : Int)) ∧ Drawn w w' := by
  have hlen := run_len_S (P := Tryd.prog) Tryd.underlying9 3 s
  by_cases h3 : s.length ≠ 3
  · have g1 : ((s.length : Int) != 3) = true := by rw [bne_iff_ne]; omega
    rw [code_none h3]
    clear h3
    go_enter Tryd.func59, Tryd.ntmps59
    go_wp2
    go_ret
    exact ⟨rfl, Drawn.refl _⟩
  replace h3 := Classical.not_not.1 h3
  obtain ⟨a, b, c, rfl⟩ : ∃ a b c, s = [a, b, c] := by
    match s, h3 with
    | [a, b, c], _ => exact ⟨a, b, c, rfl⟩
  have i0 : ∀ w, (Instr.index 9 (S [a, b, c]) (.int .i64 0)).run Tryd.prog w = .ok (B a) w := fun w => index_S (P := Tryd.prog) Tryd.underlying9 _ 0 a rfl w
  have i1 : ∀ w, (Instr.index 9 (S [a, b, c]) (.int .i64 1)).run Tryd.prog w = .ok (B b) w := fun w => index_S (P := Tryd.prog) Tryd.underlying9 _ 1 b rfl w
  have i2 : ∀ w, (Instr.index 9 (S [a, b, c]) (.int .i64 2)).run Tryd.prog w = .ok (B c) w := fun w => index_S (P := Tryd.prog) Tryd.underlying9 _ 2 c rfl w
  have hlen3 : ∀ w, (Builtin.len_ #[9] 3 #[S [a, b, c]]).run Tryd.prog w = .ok (.int .i64 3) w := hlen
  have HB := Lib.hid (fun w => inten_any b w)
  have HC := Lib.hid (fun w => inten_any c w)
  have q1 := B_lss 5 a 49
  have q2 := B_gtr 5 a 53
  have hE : codeOfF [a, b, c] = if digB a = true ∧ digB b = true ∧ digB c = true ∧ 49 ≤ a.toNat ∧ a.toNat ≤ 53 then codeN a b c else 0 := rfl
  rw [hE]
  clear hE h3 hlen hs
  generalize [a, b, c] = s at *
  rcases (by omega : a.toNat < 49 ∨ (49 ≤ a.toNat ∧ a.toNat ≤ 53) ∨ 53 < a.toNat) with k | k | k
  · rw [if_neg (fun h => by omega)]
    rw [decide_eq_true (by omega)] at q1
    clear k q2 HB HC i1 i2
    go_enter Tryd.func59, Tryd.ntmps59
    go_wp2
    go_ret
    exact ⟨rfl, Drawn.refl _⟩
  · rw [decide_eq_false (by omega)] at q1 q2
    cases hb : digB b with
    | false =>
      rw [if_neg (fun h => Bool.noConfusion h.2.1)]
      rw [hb] at HB
      clear k HC i2 hb
      go_enter Tryd.func59, Tryd.ntmps59
      go_wp2_with fail
      refine (HB.out w).mono ?_
      rintro e w1 ⟨rfl, hw1⟩
      obtain rfl := hw1.symm
      clear hw1
      go_wp2
      go_ret
      exact ⟨rfl, Drawn.refl _⟩
    | true =>
      cases hc : digB c with
      | false =>
        rw [if_neg (fun h => Bool.noConfusion h.2.2.1)]
        rw [hb] at HB
        rw [hc] at HC
        clear k hb hc
        go_enter Tryd.func59, Tryd.ntmps59
        go_wp2_with fail
        refine (HB.out w).mono ?_
        rintro e w1 ⟨rfl, hw1⟩
        obtain rfl := hw1.symm
        clear hw1
        go_wp2_with fail
        refine (HC.out w).mono ?_
        rintro e w1 ⟨rfl, hw1⟩
        obtain rfl := hw1.symm
        clear hw1
        go_wp2
        go_ret
        exact ⟨rfl, Drawn.refl _⟩
      | true =>
        have hb1 := dig_of hb
        have hc1 := dig_of hc
        rw [if_pos ⟨by unfold digB; simp; omega, rfl, rfl, k.1, k.2⟩]
        rw [hb] at HB
        rw [hc] at HC
        have s0 := B_sub48 5 a (by omega)
        have s1 := B_sub48 5 b hb1.1
        have s2 := B_sub48 5 c hc1.1
        have e0 : (a - 48).toNat = a.toNat - 48 := by rw [UInt8.toNat_sub_of_le _ _ (by rw [UInt8.le_iff_toNat_le]; show 48 ≤ _; omega)]; rfl
        have e1 : (b - 48).toNat = b.toNat - 48 := by rw [UInt8.toNat_sub_of_le _ _ (by rw [UInt8.le_iff_toNat_le]; exact hb1.1)]; rfl
        have e2 : (c - 48).toNat = c.toNat - 48 := by rw [UInt8.toNat_sub_of_le _ _ (by rw [UInt8.le_iff_toNat_le]; exact hc1.1)]; rfl
        have c0 := fun w => conv_byte (P := Tryd.prog) Tryd.underlying5 Tryd.underlying3 (a - 48) w
        have c1 := fun w => conv_byte (P := Tryd.prog) Tryd.underlying5 Tryd.underlying3 (b - 48) w
        have c2 := fun w => conv_byte (P := Tryd.prog) Tryd.underlying5 Tryd.underlying3 (c - 48) w
        rw [e0] at c0
        rw [e1] at c1
        rw [e2] at c2
        obtain ⟨x, hx⟩ : ∃ x, x = a.toNat - 48 := ⟨_, rfl⟩
        obtain ⟨y, hy⟩ : ∃ y, y = b.toNat - 48 := ⟨_, rfl⟩
        obtain ⟨z, hz⟩ : ∃ z, z = c.toNat - 48 := ⟨_, rfl⟩
        rw [← hx] at c0
        rw [← hy] at c1
        rw [← hz] at c2
        have HR : Hid (codeN a b c = 100 * x + 10 * y + z) := Lib.hid (by unfold codeN; rw [hx, hy, hz])
        have w0 : IntKind.i64.wrap ((x : Int) * 100) = (x : Int) * 100 := by rw [IntKind.wrap_i64]; omega
        have w1 : IntKind.i64.wrap ((y : Int) * 10) = (y : Int) * 10 := by rw [IntKind.wrap_i64]; omega
        have w2 : IntKind.i64.wrap ((x : Int) * 100 + (y : Int) * 10) = (x : Int) * 100 + (y : Int) * 10 := by rw [IntKind.wrap_i64]; omega
        have w3 : IntKind.i64.wrap ((x : Int) * 100 + (y : Int) * 10 + (z : Int)) = (x : Int) * 100 + (y : Int) * 10 + (z : Int) := by rw [IntKind.wrap_i64]; omega
        have hR : ((codeN a b c : Nat) : Int) = (x : Int) * 100 + (y : Int) * 10 + (z : Int) := by rw [HR.out]; omega
        rw [hR]
        clear hx hy hz e0 e1 e2 hb1 hc1 hb hc k hR HR
        go_enter Tryd.func59, Tryd.ntmps59
        go_wp2_with fail
        refine (HB.out w).mono ?_
        rintro e w1 ⟨rfl, hw1⟩
        obtain rfl := hw1.symm
        clear hw1
        go_wp2_with fail
        refine (HC.out w).mono ?_
        rintro e w1 ⟨rfl, hw1⟩
        obtain rfl := hw1.symm
        clear hw1
        go_wp2
        clear HB HC q1 q2 hlen3
        have hmx : Tryd.prog.follows .mixedOrders = true := by kernel_rfl
        go_region
        go_wp2
        go_ret
        exact ⟨rfl, 1, rfl⟩
  · rw [if_neg (fun h => by omega)]
    rw [decide_eq_false (by omega)] at q1
    rw [decide_eq_true (by omega)] at q2
    clear k HB HC i1 i2
    go_enter Tryd.func59, Tryd.ntmps59
    go_wp2
    go_ret
    exact ⟨rfl, Drawn.refl _⟩
set_option maxRecDepth 100000 in
set_option maxHeartbeats 1000000 in
theorem isreason_any (s : List UInt8) (hs : s.length ≤ 99998) (w : World) : Calls Tryd.prog 60 #[S s] w fun e w' => e = .returned (.bool (s.all valB)) ∧ Below w.heap.size w w' := by
  have ha : binOp .add 9 (.string ⟨#[120, 58]⟩) (S s) = pure (S (120 :: 58 :: s)) := S_add 9 [120, 58] s (by simp; omega)
  have hP := fun w => parse10_any (120 :: 58 :: s) (by simp; omega) w
  have hx := parse_x s
  obtain ⟨⟨n, v, k⟩, hp⟩ : ∃ p, p = parseF (120 :: 58 :: s) := ⟨_, rfl⟩
  rw [← hp] at hP hx
  rw [show parseV (n, v, k) = .tuple #[.agg #[S n, S v], .bool k] from rfl] at hP
  rw [← hx]
  have HP := Lib.hid hP
  clear hP hx hp
  generalize (120 :: 58 :: s) = T at *
  go_enter Tryd.func60, Tryd.ntmps60
  go_wp2_with fail
  refine (HP.out w).mono ?_
  rintro e W ⟨rfl, hB⟩
  have HB := Lib.hid hB
  clear hB HP ha
  go_wp2
  go_ret
  exact ⟨rfl, HB.out.alloc HB.out.size _⟩
end Go.Proofs.YtfdbmbgpcioogaaDoor
/- The landed package of lines does what is asked of it: Parse, Target, Status. (mklz.py writes it.) -/
namespace Go.Proofs.YtfdbmbgpcioogaaDoor
open Go.RowKit
attribute [local go_sem] store_one S_match S_store eguard_BN nguard_BN
theorem results_t4 {fn : Func} {t u v x : Tmp} (h : fn.results = #[.tmp t, .tmp u, .tmp v, .tmp x]) (tmps : Array Value) (P : Program) (w : World) :
    (results fn tmps).run P w = .ok (.tuple #[tmps.getD t undef, tmps.getD u undef, tmps.getD v undef, tmps.getD x undef]) w := by
  simp [results, h, go_sem]

set_option maxRecDepth 100000 in
set_option maxHeartbeats 1000000 in
theorem lstatus_any (s : List UInt8) (w : World) (hs : s.length ≤ 100000) : Calls Tryd.prog 43 #[S s] w fun e w' => e = .returned (statusV (statusF s)) ∧ Below w.heap.size w w' := by
  have fin : ∀ (v r d q : List UInt8) (b1 b2 : Bool), d.length ≤ 100000 → q.length ≤ 99998 →
      (∀ w, Calls Tryd.prog 22 #[S s, .string ⟨#[32]⟩] w fun e w' => e = .returned (.tuple #[S v, S r, .bool b1]) ∧ Drawn w w') →
      (∀ w, Calls Tryd.prog 22 #[S r, .string ⟨#[32]⟩] w fun e w' => e = .returned (.tuple #[S d, S q, .bool b2]) ∧ Drawn w w') →
      statusF s = (if (v == hver1 && codeOfF d != 0 && b2 && q.all valB) = true then (codeOfF d, q, true) else (0, [], false)) →
      Calls Tryd.prog 43 #[S s] w fun e w' => e = .returned (statusV (statusF s)) ∧ Below w.heap.size w w' := by
    intro v r d q b1 b2 hd hq h1 h2 hE
    rw [hE]
    have H1 := Lib.hid h1
    have H2 := Lib.hid h2
    have H3 := Lib.hid (fun w => code_any d hd w)
    have H4 := Lib.hid (fun w => isreason_any q hq w)
    have hn : binOp .neq 9 (S v) (.string ⟨#[72, 84, 84, 80, 47, 49, 46, 49]⟩) = pure (.bool (v != hver1)) := neql_S 9 v hver1
    have hg : ∀ x y, eqGuard .neq 9 x y (S v) (.string ⟨#[72, 84, 84, 80, 47, 49, 46, 49]⟩) = pure () := fun x y => nguard_S 9 x y v hver1
    obtain ⟨n, hnn⟩ : ∃ n, n = codeOfF d := ⟨_, rfl⟩
    rw [← hnn] at H3
    rw [← hnn]
    clear h1 h2 hE hs hd hq hnn
    by_cases a : v = hver1
    · rw [show (v == hver1) = true from beq_iff_eq.2 a, Bool.true_and]
      rw [show (v != hver1) = false by rw [a]; rfl] at hn
      clear a
      by_cases c : n = 0
      · have k : ((n : Int) == 0) = true := by rw [beq_iff_eq]; omega
        rw [show (n != 0) = false by rw [c]; rfl, Bool.false_and, Bool.false_and, if_neg Bool.false_ne_true]
        clear c H4
        go_enter Tryd.func43, Tryd.ntmps43
        go_wp2_with fail
        refine (H1.out w).mono ?_
        rintro e W1 ⟨rfl, hd1⟩
        have D1 := Lib.hid hd1
        clear hd1 H1
        go_wp2_with fail
        refine (H2.out W1).mono ?_
        rintro e W2 ⟨rfl, hd2⟩
        have D2 := Lib.hid (D1.out.trans hd2)
        clear hd2 H2 D1
        go_wp2_with fail
        refine (H3.out W2).mono ?_
        rintro e W3 ⟨rfl, hd3⟩
        have D3 := Lib.hid (D2.out.trans hd3)
        clear hd3 H3 D2
        go_wp2
        go_ret3
        exact ⟨rfl, D3.out.below⟩
      · have k : ((n : Int) == 0) = false := by rw [beq_eq_false_iff_ne]; omega
        rw [show (n != 0) = true from bne_iff_ne.2 c, Bool.true_and]
        clear c
        cases b2 with
        | false =>
          rw [Bool.false_and, if_neg Bool.false_ne_true]
          clear H4
          go_enter Tryd.func43, Tryd.ntmps43
          go_wp2_with fail
          refine (H1.out w).mono ?_
          rintro e W1 ⟨rfl, hd1⟩
          have D1 := Lib.hid hd1
          clear hd1 H1
          go_wp2_with fail
          refine (H2.out W1).mono ?_
          rintro e W2 ⟨rfl, hd2⟩
          have D2 := Lib.hid (D1.out.trans hd2)
          clear hd2 H2 D1
          go_wp2_with fail
          refine (H3.out W2).mono ?_
          rintro e W3 ⟨rfl, hd3⟩
          have D3 := Lib.hid (D2.out.trans hd3)
          clear hd3 H3 D2
          go_wp2
          go_ret3
          exact ⟨rfl, D3.out.below⟩
        | true =>
          rw [Bool.true_and]
          cases y : q.all valB with
          | false =>
            rw [y] at H4
            rw [if_neg Bool.false_ne_true]
            clear y
            go_enter Tryd.func43, Tryd.ntmps43
            go_wp2_with fail
            refine (H1.out w).mono ?_
            rintro e W1 ⟨rfl, hd1⟩
            have D1 := Lib.hid hd1
            clear hd1 H1
            go_wp2_with fail
            refine (H2.out W1).mono ?_
            rintro e W2 ⟨rfl, hd2⟩
            have D2 := Lib.hid (D1.out.trans hd2)
            clear hd2 H2 D1
            go_wp2_with fail
            refine (H3.out W2).mono ?_
            rintro e W3 ⟨rfl, hd3⟩
            have D3 := Lib.hid (D2.out.trans hd3)
            clear hd3 H3 D2
            go_wp2_with fail
            refine (H4.out W3).mono ?_
            rintro e W4 ⟨rfl, hb4⟩
            have D4 := Lib.hid (D3.out.below.trans (hb4.mono D3.out.below.size))
            clear hb4 H4 D3
            go_wp2
            go_ret3
            exact ⟨rfl, D4.out⟩
          | true =>
            rw [y] at H4
            rw [if_pos rfl]
            clear y
            go_enter Tryd.func43, Tryd.ntmps43
            go_wp2_with fail
            refine (H1.out w).mono ?_
            rintro e W1 ⟨rfl, hd1⟩
            have D1 := Lib.hid hd1
            clear hd1 H1
            go_wp2_with fail
            refine (H2.out W1).mono ?_
            rintro e W2 ⟨rfl, hd2⟩
            have D2 := Lib.hid (D1.out.trans hd2)
            clear hd2 H2 D1
            go_wp2_with fail
            refine (H3.out W2).mono ?_
            rintro e W3 ⟨rfl, hd3⟩
            have D3 := Lib.hid (D2.out.trans hd3)
            clear hd3 H3 D2
            go_wp2_with fail
            refine (H4.out W3).mono ?_
            rintro e W4 ⟨rfl, hb4⟩
            have D4 := Lib.hid (D3.out.below.trans (hb4.mono D3.out.below.size))
            clear hb4 H4 D3
            go_wp2
            go_ret3
            exact ⟨rfl, D4.out⟩
    · rw [show (v == hver1) = false from beq_eq_false_iff_ne.2 a, Bool.false_and, Bool.false_and, Bool.false_and, if_neg Bool.false_ne_true]
      rw [show (v != hver1) = true from bne_iff_ne.2 a] at hn
      clear a H4
      go_enter Tryd.func43, Tryd.ntmps43
      go_wp2_with fail
      refine (H1.out w).mono ?_
      rintro e W1 ⟨rfl, hd1⟩
      have D1 := Lib.hid hd1
      clear hd1 H1
      go_wp2_with fail
      refine (H2.out W1).mono ?_
      rintro e W2 ⟨rfl, hd2⟩
      have D2 := Lib.hid (D1.out.trans hd2)
      clear hd2 H2 D1
      go_wp2_with fail
      refine (H3.out W2).mono ?_
      rintro e W3 ⟨rfl, hd3⟩
      have D3 := Lib.hid (D2.out.trans hd3)
      clear hd3 H3 D2
      go_wp2
      go_ret3
      exact ⟨rfl, D3.out.below⟩
  rcases cut_cases 32 s with ⟨v, r, rfl, hab⟩ | hm
  · rw [List.length_append, List.length_cons] at hs
    rcases cut_cases 32 r with ⟨d, q, rfl, hab2⟩ | hm2
    · rw [List.length_append, List.length_cons] at hs
      exact fin v (d ++ 32 :: q) d q true true (by omega) (by omega) (fun w => cut_hit 32 v _ hab (by rw [List.length_append, List.length_cons]; omega) w) (fun w => cut_hit 32 d q hab2 (by omega) w) (by rw [stat_two hab hab2, Bool.and_true])
    · exact fin v r r [] true false (by omega) (by simp) (fun w => cut_hit 32 v _ hab (by omega) w) (fun w => cut_miss 32 r hm2 w) (by
        rw [stat_miss2 hab hm2, Bool.and_false, Bool.false_and, if_neg Bool.false_ne_true])
  · exact fin s [] [] [] false false (by simp) (by simp) (fun w => cut_miss 32 s hm w) (fun w => cut_miss 32 [] (by simp) w) (by
      rw [stat_miss hm, Bool.and_false, Bool.false_and, if_neg Bool.false_ne_true])
end Go.Proofs.YtfdbmbgpcioogaaDoor
/- The landed headOf walked. (mkpx6.py writes it.) -/
namespace Go.Proofs.YtfdbmbgpcioogaaDoor
open Go.RowKit Go.Shelf
attribute [local go_sem] store_one S_match S_store eguard_BN nguard_BN

def lenV (v : Value) : Nat := match v with | .string s => s.size | _ => 0
def toB (v : Value) : Bool := match v with | .bool b => b | _ => false
def goOn (rv mv : Value) : Nat := if toB mv = true then lenV rv + 1 else 0
theorem lenV_S (s : List UInt8) : lenV (S s) = s.length := S_size s
theorem parse_short {l : List UInt8} (h : l.length ≤ 100000) : (parseF l).1.length ≤ 100000 ∧ (parseF l).2.1.length ≤ 100000 := by
  obtain ⟨⟨a1, a2, a3⟩, ha⟩ : ∃ x, parseF l = x := ⟨_, rfl⟩
  rw [ha]
  cases a3 with
  | true => obtain ⟨_, _, _, h4, h5, _⟩ := parse_true ha; exact ⟨by dsimp only; omega, by dsimp only; omega⟩
  | false => obtain ⟨h4, h5⟩ := parse_no ha; subst h4 h5; simp
/-- What headOf tells. -/
def HdPost (w : World) (x : Nat × List Fld × Bool) (e : Ending) (w' : World) : Prop := ∃ v, e = .returned (.tuple #[.int .i64 (x.1 : Int), v, .bool x.2.2]) ∧ OthAt w v x.2.1 w'
/-- How far the lines are read: those in pr are; while more is true the text r holds the rest. -/
structure LnSt (ls pr : List (List UInt8)) (more : Bool) (r : List UInt8) : Prop where
  all : pr ++ (if more = true then lnsF [] r else []) = ls
  len : r.length ≤ 100000
theorem ln_step {ls pr : List (List UInt8)} {r : List UInt8} (h : LnSt ls pr true r) : ∃ l r' m, cutF r [13, 10] = (l, r', m) ∧ LnSt ls (pr ++ [l]) m r' ∧ l.length ≤ 100000 ∧ (m = true → r'.length < r.length) := by
  have ha := h.all
  rw [if_pos rfl] at ha
  rcases cut_line r with ⟨l, r', hc, hl, hn⟩ | ⟨hc, hl⟩
  · have h2 := hl []
    rw [List.nil_append] at h2
    exact ⟨l, r', true, hc, ⟨by rw [if_pos rfl, List.append_assoc, List.singleton_append, ← h2]; exact ha, by have := h.len; omega⟩, by have := h.len; omega, fun _ => by omega⟩
  · have h2 := hl []
    rw [List.nil_append] at h2
    exact ⟨r, [], false, hc, ⟨by rw [if_neg Bool.false_ne_true, List.append_nil, ← h2]; exact ha, by simp⟩, h.len, fun e => by cases e⟩
theorem ln_first (s : List UInt8) (hs : s.length ≤ 100000) : ∃ l0 r m ls, cutF s [13, 10] = (l0, r, m) ∧ lnsF [] s = l0 :: ls ∧ LnSt ls [] m r ∧ l0.length ≤ 100000 := by
  rcases cut_line s with ⟨l, r', hc, hl, hn⟩ | ⟨hc, hl⟩
  · have h2 := hl []
    rw [List.nil_append] at h2
    exact ⟨l, r', true, _, hc, h2, ⟨by rw [if_pos rfl]; rfl, by omega⟩, by omega⟩
  · have h2 := hl []
    rw [List.nil_append] at h2
    exact ⟨s, [], false, [], hc, h2, ⟨by rw [if_neg Bool.false_ne_true]; rfl, by simp⟩, hs⟩
set_option maxRecDepth 100000 in
set_option maxHeartbeats 2000000 in
theorem headof_any (s : List UInt8) (hs : s.length ≤ 100000) (w : World) (hm : MaxAt w) :
    Calls Tryd.prog 24 #[S s] w (HdPost w (headOfL (lnsF [] s))) := by
  obtain ⟨l0, r0, m0, ls, hcut, hln, hst, hl0⟩ := ln_first s hs
  have hc0 := fun W h => cut_any s [13, 10] hs W h
  rw [hcut] at hc0
  have HC0 := Lib.hid hc0
  have hs0 := fun W => lstatus_any l0 W hl0
  obtain ⟨⟨cd, rs, sok⟩, hsf⟩ : ∃ x, x = statusF l0 := ⟨_, rfl⟩
  rw [← hsf] at hs0
  have HS0 := Lib.hid hs0
  have hH : headOfL (lnsF [] s) = if sok = true ∧ (∀ l ∈ ls, (parseF l).2.2 = true) then (cd, ls.map pfF, true) else (0, [], false) := by
    rw [hln]
    unfold headOfL
    dsimp only
    rw [← hsf]
  obtain ⟨PO, hPO⟩ : ∃ PO, PO = HdPost w (headOfL (lnsF [] s)) := ⟨_, rfl⟩
  rw [← hPO]
  have HBAD : Hid ((sok = false ∨ ∃ l ∈ ls, (parseF l).2.2 = false) → ∀ W, Below w.heap.size w W → PO (.returned (.tuple #[.int .i64 0, .slice none 0 0, .bool false])) W) := Lib.hid fun h W hW => by
    rw [hPO, hH, if_neg]
    · exact ⟨_, rfl, World.ownsRow_nil _ _ _ _, hW⟩
    · rintro ⟨h1, h2⟩
      rcases h with h | ⟨l, hl, h⟩
      · rw [h] at h1; cases h1
      · rw [h2 l hl] at h; cases h
  have HGOOD : Hid (sok = true → (∀ l ∈ ls, (parseF l).2.2 = true) → ∀ v W, OthAt w v (ls.map pfF) W → PO (.returned (.tuple #[.int .i64 (cd : Int), v, .bool true])) W) := Lib.hid fun h1 h2 v W hW => by
    rw [hPO, hH, if_pos ⟨h1, h2⟩]
    exact ⟨v, rfl, hW⟩
  have HST := Lib.hid hst
  have HM := Lib.hid hm
  clear hcut hln hst hc0 hs0 hsf hH hPO hm hs hl0
  go_enter Tryd.func24, Tryd.ntmps24
  go_wp2_with fail
  refine (HC0.out _ HM.out).mono ?_
  rintro e W1 ⟨rfl, hB⟩
  have H1 := Lib.hid hB
  clear hB
  unfold cutV
  go_wp2_with fail
  refine (HS0.out _).mono ?_
  rintro e W2 ⟨rfl, hB⟩
  have H2 := Lib.hid (H1.out.trans (hB.mono H1.out.size))
  clear hB H1
  unfold statusV
  go_wp2_with fail
  go_loopw [3, 4, 6, 7] (fun fv ov rv mv wr => ∃ (pr : List (List UInt8)) (v : Value) (more : Bool) (r : List UInt8) (ok : Bool), fv = v ∧ ov = .bool ok ∧ rv = S r ∧ mv = .bool more ∧ Hid (LnSt ls pr more r ∧ OthAt w v (pr.map pfF) wr ∧ pr.length + (if more = true then r.length + 1 else 0) ≤ 100001 ∧ (ok = true ↔ sok = true ∧ ∀ l ∈ pr, (parseF l).2.2 = true))) (fun _ _ rv mv _ => goOn rv mv)
  case atStart => exact ⟨[], _, _, _, _, rfl, rfl, rfl, rfl, Lib.hid ⟨HST.out, ⟨World.ownsRow_nil _ _ _ _, H2.out⟩, by have := HST.out.len; rw [List.length_nil]; split <;> omega, by simp⟩⟩
  case round =>
    obtain ⟨pr, _, more, r, ok, rfl, rfl, rfl, rfl, HR⟩ := hrel
    cases ok with
    | false =>
      have HB : Hid (sok = false ∨ ∃ l ∈ ls, (parseF l).2.2 = false) := Lib.hid (by
        obtain ⟨h1, _, _, h4⟩ := HR.out
        cases hso : sok with
        | false => exact .inl rfl
        | true =>
          right
          refine Classical.byContradiction fun hno => ?_
          have h5 := h4.2 ⟨hso, fun l hl => by
            cases hx : (parseF l).2.2 with
            | true => rfl
            | false => exact absurd ⟨l, by rw [← h1.all]; exact List.mem_append_left _ hl, hx⟩ hno⟩
          cases h5)
      have HBW := Lib.hid HR.out.2.1.2
      go_wp2
      go_ret3
      exact HBAD.out HB.out _ HBW.out
    | true =>
    cases more with
    | false =>
      have HALL : Hid (sok = true ∧ (∀ l ∈ ls, (parseF l).2.2 = true) ∧ OthAt w u3 (ls.map pfF) wr) := Lib.hid (by
        obtain ⟨h1, h2, _, h4⟩ := HR.out
        have ha := h1.all
        rw [if_neg Bool.false_ne_true, List.append_nil] at ha
        rw [ha] at h2 h4
        obtain ⟨h5, h6⟩ := h4.1 (by first | rfl | trivial)
        exact ⟨h5, h6, h2⟩)
      go_wp2
      go_ret3
      exact HGOOD.out HALL.out.1 HALL.out.2.1 _ _ HALL.out.2.2
    | true =>
      obtain ⟨l, r', m, hcut, hst, hl, hlt⟩ := ln_step HR.out.1
      have hc := fun W h => cut_any r [13, 10] HR.out.1.len W h
      rw [hcut] at hc
      unfold cutV at hc
      have HC := Lib.hid hc
      have hp := fun W => parse10_any l hl W
      have HPF : Hid (pfF l = ((parseF l).1, (parseF l).2.1)) := Lib.hid rfl
      obtain ⟨⟨n, u, fine⟩, hpf⟩ : ∃ x, x = parseF l := ⟨_, rfl⟩
      rw [← hpf] at hp HPF
      unfold parseV at hp
      dsimp only at hp HPF hc
      have HP := Lib.hid hp
      have HN : Hid (LnSt ls (pr ++ [l]) m r' ∧ (m = true → r'.length < r.length) ∧ (parseF l).2.2 = fine) := Lib.hid ⟨hst, hlt, by rw [← hpf]⟩
      have HMW := Lib.hid (HM.out.below HR.out.2.1.2)
      clear hcut hc hst hl hlt hp hpf
      go_wp2_with fail
      refine (HC.out _ HMW.out).mono ?_
      rintro e W3 ⟨rfl, hB⟩
      have H3 := Lib.hid hB
      clear hB
      obtain ⟨W4, hW4⟩ : ∃ W, W = W3.alloc (.cells #[.string ⟨#[]⟩, .string ⟨#[]⟩] 26) := ⟨_, rfl⟩
      obtain ⟨b4, hb4⟩ : ∃ b, b = W3.heap.size := ⟨_, rfl⟩
      have hB4 : Below wr.heap.size wr W4 := by rw [hW4]; exact H3.out.alloc H3.out.size _
      have hr4 : Row W4 b4 #[.string ⟨#[]⟩, .string ⟨#[]⟩] 26 := by rw [hW4, hb4]; exact row_new _ _ _
      have H4 := Lib.hid (And.intro hB4 (And.intro hr4 (show wr.heap.size ≤ b4 by rw [hb4]; exact H3.out.size)))
      clear hB4 hr4
      go_wp2_with fail
      all_goals try rw [← hW4, ← hb4]
      all_goals try go_wp2_with fail
      clear hW4 hb4
      refine (HP.out _).mono ?_
      rintro e W5 ⟨rfl, hB⟩
      have hr5 := H4.out.2.1.below hB H4.out.2.1.lt
      have d0 : W5.cell? ⟨b4, 0, none⟩ = some (.string ⟨#[]⟩) := cell_of_row W5 _ 0 _ _ (0, 0) hr5
      have df0 : W5.frozen? ⟨b4, 0, none⟩ = false := Row.frozen hr5 0
      have d1 : W5.cell? ⟨b4, 1, none⟩ = some (.string ⟨#[]⟩) := cell_of_row W5 _ 1 _ _ (0, 0) hr5
      have df1 : W5.frozen? ⟨b4, 1, none⟩ = false := Row.frozen hr5 1
      have hr6 : Row ((W5.setCell ⟨b4, 0, none⟩ (S n)).setCell ⟨b4, 1, none⟩ (S u)) b4 #[S n, S u] 26 := (hr5.set 0 (S n)).set 1 (S u)
      have e0 : ((W5.setCell ⟨b4, 0, none⟩ (S n)).setCell ⟨b4, 1, none⟩ (S u)).cell? ⟨b4, 0, none⟩ = some (S n) := cell_of_row _ _ 0 _ _ (0, 0) hr6
      have e1 : ((W5.setCell ⟨b4, 0, none⟩ (S n)).setCell ⟨b4, 1, none⟩ (S u)).cell? ⟨b4, 1, none⟩ = some (S u) := cell_of_row _ _ 1 _ _ (0, 0) hr6
      have hB6 : Below wr.heap.size wr ((W5.setCell ⟨b4, 0, none⟩ (S n)).setCell ⟨b4, 1, none⟩ (S u)) :=
        ((H4.out.1.trans (hB.mono H4.out.1.size)).setCell (p := ⟨b4, 0, none⟩) H4.out.2.2 (S n)).setCell (p := ⟨b4, 1, none⟩) H4.out.2.2 (S u)
      have H6 := Lib.hid (HR.out.2.1.below hB6)
      obtain ⟨gs, hgs⟩ : ∃ gs, gs = pr.map pfF := ⟨_, rfl⟩
      have hgl : gs.length < 1000000 := by
        have h1 : pr.length + (r.length + 1) ≤ 100001 := by simpa using HR.out.2.2.1
        rw [hgs, List.length_map]; omega
      have HGS : Hid ((pr ++ [l]).map pfF = gs ++ [(n, u)]) := Lib.hid (by rw [List.map_append, List.map_singleton, HPF.out, ← hgs])
      have HOK : Hid (fine = true ↔ sok = true ∧ ∀ k ∈ pr ++ [l], (parseF k).2.2 = true) := Lib.hid (by
        obtain ⟨h5, h6⟩ := HR.out.2.2.2.1 (by first | rfl | trivial)
        constructor
        · intro hf
          exact ⟨h5, fun k hk => by
            rcases List.mem_append.1 hk with hk | hk
            · exact h6 k hk
            · rw [List.mem_singleton] at hk; subst hk; rw [HN.out.2.2]; exact hf⟩
        · rintro ⟨_, h⟩
          have := h l (by simp)
          rw [HN.out.2.2] at this; exact this)
      have HLEN : Hid ((pr ++ [l]).length + (if m = true then r'.length + 1 else 0) ≤ 100001) := Lib.hid (by
        have h1 : pr.length + (r.length + 1) ≤ 100001 := by simpa using HR.out.2.2.1
        have h3 := HN.out.2.1
        rw [List.length_append, List.length_singleton]
        split
        · rename_i hmm
          have := h3 hmm
          omega
        · omega)
      rw [← hgs] at H6
      have hone : ∀ x ∈ (#[S n, S u] : Array Value).toList, x.oneCell' = true := by
        intro x hx
        simp only [List.mem_cons, List.not_mem_nil, or_false] at hx
        rcases hx with rfl | rfl <;> rfl
      have hsz := H6.out.2.size
      have h57 : ((W5.setCell ⟨b4, 0, none⟩ (S n)).setCell ⟨b4, 1, none⟩ (S u)).heap.size = W5.heap.size := by simp [World.setCell]
      have HSZ := Lib.hid (And.intro hsz h57)
      clear hr5 hr6 hB hB6 hgs HR hsz h57
      go_wp2_with (at_builtin; refine wpList_addK rfl 27 26 (.tmp 37) (.tmp 39) rfl Tryd.underlying27 eleF (by omega) w.heap.size ((W5.setCell ⟨b4, 0, none⟩ (S n)).setCell ⟨b4, 1, none⟩ (S u)) u3 rfl gs.length (fcells gs) H6.out.1 #[S n, S u] rfl hone rfl W5.heap.size HSZ.out.2 rfl hgl HSZ.out.1 ?_; intro gg cap W9 o2 g2; have H9 : Hid (OthAt w (.slice (some ⟨gg, 0, none⟩) (gs.length + 1) cap) ((pr ++ [l]).map pfF) W9) := Lib.hid (by rw [HGS.out]; exact ⟨by rw [fcells_snoc, List.length_append]; exact o2, H6.out.2.grown g2 HSZ.out.1 (fun k e => (H6.out.1.lt k e).1)⟩); clear o2 g2)
      exact ⟨⟨pr ++ [l], _, m, r', fine, rfl, rfl, rfl, rfl, Lib.hid ⟨HN.out.1, H9.out, HLEN.out, HOK.out⟩⟩, by
        have := HN.out.2.1
        unfold goOn
        rw [lenV_S, lenV_S]
        cases m with
        | false => simp [toB]
        | true => have := this rfl; simp [toB]; omega⟩
end Go.Proofs.YtfdbmbgpcioogaaDoor
/- The landed Read walked. (mkpx7.py writes it.) -/
namespace Go.Proofs.YtfdbmbgpcioogaaDoor
open Go.RowKit Go.Shelf
attribute [local go_sem] store_one S_match S_store eguard_BN nguard_BN

theorem lns_short : ∀ (n : Nat) (s : List UInt8), s.length ≤ n → (lnsF [] s).length ≤ s.length + 1 ∧ ∀ l ∈ lnsF [] s, l.length ≤ s.length
  | n, s, hn => by
    have hge := Lib.index_ge s [13, 10]
    obtain ⟨i1, i2⟩ := lns_index s []
    by_cases hm : Lib.index s [13, 10] = -1
    · rw [i1 hm]; simp
    · obtain ⟨j, hj⟩ : ∃ j : Nat, Lib.index s [13, 10] = j := ⟨(Lib.index s [13, 10]).toNat, by omega⟩
      have hne : s ≠ [] := by rintro rfl; exact hm rfl
      have hpos : 0 < s.length := List.length_pos_iff.2 hne
      rw [i2 j hj]
      obtain ⟨m, rfl⟩ : ∃ m, n = m + 1 := ⟨n - 1, by omega⟩
      obtain ⟨h1, h2⟩ := lns_short m (s.drop (j + 2)) (by rw [List.length_drop]; omega)
      rw [List.length_drop] at h1 h2
      refine ⟨by rw [List.length_cons]; omega, fun l hl => ?_⟩
      rcases List.mem_cons.1 hl with rfl | hl
      · simp; omega
      · have := h2 l hl; omega
theorem head_few (text : List UInt8) (ht : text.length ≤ 99999) : (headOfL (lnsF [] text)).2.1.length ≤ 100000 ∧ ∀ f ∈ (headOfL (lnsF [] text)).2.1, f.1.length ≤ 100000 ∧ f.2.length ≤ 100000 := by
  obtain ⟨h1, h2⟩ := lns_short text.length text (Nat.le_refl _)
  unfold headOfL
  cases hl : lnsF [] text with
  | nil => exact ⟨by simp, fun f hf => (by cases hf)⟩
  | cons l0 ls =>
    rw [hl] at h1 h2
    dsimp only
    split
    · refine ⟨by rw [List.length_map]; rw [List.length_cons] at h1; omega, fun f hf => ?_⟩
      obtain ⟨l, hm, rfl⟩ := List.mem_map.1 hf
      have := h2 l (List.mem_cons_of_mem _ hm)
      exact parse_short (by omega)
    · exact ⟨by simp, fun f hf => (by cases hf)⟩
/-- Four results, the first one in a variable of its own. -/
theorem rp_end {fn : Func} {p u v x : Tmp} (h : fn.results = #[.cell p 29, .tmp u, .tmp v, .tmp x]) (tmps : Array Value) (w : World) (g : Nat) (cs : Array Value)
    (hp : tmps.getD p undef = .pointer (some ⟨g, 0, none⟩)) (hg : Row w g cs 29) (h3 : cs.size = 3) :
    (results fn tmps).run Tryd.prog w = .ok (.tuple #[.agg cs, tmps.getD u undef, tmps.getD v undef, tmps.getD x undef]) w := by
  have hp' : tmps[p]?.getD undef = .pointer (some ⟨g, 0, none⟩) := by simpa using hp
  have hi : (Tryd.prog.info? 29).map (·.size) = some cs.size := by rw [h3]; kernel_rfl
  simp [results, h, hp', asAddr, run_loadVar_row w g 29 29 cs (0, 0) _ hg Tryd.underlying29 rfl hi]
def put3 (W : World) (b : Nat) (v0 v1 v2 : Value) : World := ((W.setCell ⟨b, 0, none⟩ v0).setCell ⟨b, 1, none⟩ v1).setCell ⟨b, 2, none⟩ v2
theorem put3_row {W : World} {b : Nat} {t : TypeId} {a0 a1 a2 : Value} (h : Row W b #[a0, a1, a2] t) (v0 v1 v2 : Value) : Row (put3 W b v0 v1 v2) b #[v0, v1, v2] t := ((h.set 0 v0).set 1 v1).set 2 v2
theorem put3_below {n : Nat} {w W : World} {b : Nat} (h : Below n w W) (hb : n ≤ b) (v0 v1 v2 : Value) : Below n w (put3 W b v0 v1 v2) :=
  ((h.setCell (p := ⟨b, 0, none⟩) hb v0).setCell (p := ⟨b, 1, none⟩) hb v1).setCell (p := ⟨b, 2, none⟩) hb v2
theorem own_put3 {W : World} {base b : Nat} {e : TypeId} {k n : Nat} {v : Value} {xs : List Value} (h : W.ownsRow base e k v n xs) (hb : b < base) (v0 v1 v2 : Value) : (put3 W b v0 v1 v2).ownsRow base e k v n xs :=
  row_own_set (row_own_set (row_own_set h hb) hb) hb
set_option maxRecDepth 100000 in
set_option maxHeartbeats 2000000 in
theorem read10l_any (s : List UInt8) (head : Bool) (hs : s.length ≤ 100000) (w : World) (hm : MaxAt w) :
    Calls Tryd.prog 9 #[S s, .bool head] w fun e w' => ReadV (readF s head) e w w' := by
  rw [← read_same]
  obtain ⟨b4, hb4⟩ : ∃ b, b = w.heap.size := ⟨_, rfl⟩
  obtain ⟨W0, hW0⟩ : ∃ W, W = w.alloc (.cells #[.int .i64 0, .slice none 0 0, .string ⟨#[]⟩] 29) := ⟨_, rfl⟩
  have hB0 : Below w.heap.size w W0 := by rw [hW0]; exact (Below.refl _ w).alloc (Nat.le_refl _) _
  have hr0 : Row W0 b4 #[.int .i64 0, .slice none 0 0, .string ⟨#[]⟩] 29 := by rw [hW0, hb4]; exact row_new _ _ _
  have H0 := Lib.hid (And.intro hB0 hr0)
  have HB4 := Lib.hid hb4
  have hc := fun W h => cut_any s [13, 10, 13, 10] hs W h
  rw [cut_end] at hc
  have HM0 := Lib.hid (hm.below hB0)
  obtain ⟨RD, hRD⟩ : ∃ RD, RD = readL s head := ⟨_, rfl⟩
  rw [← hRD]
  have hR := hRD
  unfold readL at hR
  -- nothing is read
  have HZ : Hid (∀ (W : World) (tmps : Array Value) (k : Int), Row W b4 #[.int .i64 0, .slice none 0 0, .string ⟨#[]⟩] 29 → Below w.heap.size w W → tmps.getD 4 undef = .pointer (some ⟨b4, 0, none⟩) → tmps.getD 5 undef = .bool false → tmps.getD 6 undef = .int .i64 0 → tmps.getD 7 undef = .int .i64 k →
      (k = 7 ∧ RD = .short ∨ k = 8 ∧ RD = .form) →
      bodyPost Tryd.prog Tryd.f9 (fun e w' => ReadV RD e w w') .ret { tmps := tmps, defers := [] } (put3 W b4 (.int .i64 0) (.slice none 0 0) (.string ⟨#[]⟩))) := Lib.hid fun W tmps k hr hB h4 h5 h6 h7 hk => by
    refine bodyPost_ret (rp_end rfl _ _ b4 _ h4 (put3_row hr _ _ _) rfl) rfl ?_
    rw [h5, h6, h7]
    unfold ReadV
    refine ⟨put3_below hB (Nat.le_of_eq hb4.symm) _ _ _, ?_⟩
    rcases hk with ⟨rfl, h⟩ | ⟨rfl, h⟩ <;> (rw [h]; rfl)
  cases hE : endF s with
  | none =>
    rw [hE] at hc hR
    dsimp only at hc hR
    unfold cutV at hc
    have HC := Lib.hid hc
    have HU := Lib.hid fun W => unended_any s (by omega) W
    have HK : Hid ((if s.length < 65536 then (7 : Int) else 8) = 7 ∧ RD = .short ∨ (if s.length < 65536 then (7 : Int) else 8) = 8 ∧ RD = .form) := Lib.hid (by
      rw [hR]
      split
      · exact .inl ⟨rfl, rfl⟩
      · exact .inr ⟨rfl, rfl⟩)
    obtain ⟨k, hk⟩ : ∃ k : Int, k = if s.length < 65536 then (7 : Int) else 8 := ⟨_, rfl⟩
    rw [← hk] at HU HK
    clear hk hR hRD hE hc hB0 hr0 hm hs
    go_enter Tryd.func9, Tryd.ntmps9
    go_wp2_with fail
    all_goals try rw [← hW0, ← hb4]
    clear hW0 hb4
    refine (HC.out _ HM0.out).mono ?_
    rintro e W1 ⟨rfl, hB⟩
    have H1 := Lib.hid (And.intro (H0.out.1.trans (hB.mono H0.out.1.size)) (H0.out.2.below hB H0.out.2.lt))
    clear hB H0
    go_wp2_with fail
    refine (HU.out _).mono ?_
    rintro e W2 ⟨rfl, rfl⟩
    have hr := H1.out.2
    have d0 : W2.cell? ⟨b4, 0, none⟩ = some (.int .i64 0) := cell_of_row W2 _ 0 _ 29 (0, 0) hr
    have df0 : W2.frozen? ⟨b4, 0, none⟩ = false := Row.frozen hr 0
    have d1 : W2.cell? ⟨b4, 1, none⟩ = some (.slice none 0 0) := cell_of_row W2 _ 1 _ 29 (0, 0) hr
    have df1 : W2.frozen? ⟨b4, 1, none⟩ = false := Row.frozen hr 1
    have d2 : W2.cell? ⟨b4, 2, none⟩ = some (.string ⟨#[]⟩) := cell_of_row W2 _ 2 _ 29 (0, 0) hr
    have df2 : W2.frozen? ⟨b4, 2, none⟩ = false := Row.frozen hr 2
    have hr2 := Lib.hid hr
    clear hr
    go_wp2
    exact HZ.out W2 _ k hr2.out H1.out.1 rfl rfl rfl rfl HK.out
  | some e =>
    rw [hE] at hc hR
    dsimp only at hc hR
    have hle := endF_le _ _ hE
    obtain ⟨text, htx⟩ : ∃ t, t = s.take (e - 4) := ⟨_, rfl⟩
    obtain ⟨rest, hrs⟩ : ∃ t, t = s.drop e := ⟨_, rfl⟩
    have htl : text.length + 4 = e := by rw [htx, List.length_take]; omega
    have hrl : rest.length ≤ 100000 := by rw [hrs, List.length_drop]; omega
    rw [← htx, ← hrs] at hc hR
    unfold cutV at hc
    dsimp only at hc
    have HC := Lib.hid hc
    have hho := fun W h => headof_any text (by omega) W h
    have hfew := head_few text (by omega)
    obtain ⟨⟨c, fs, ok⟩, hhd⟩ : ∃ x, x = headOfL (lnsF [] text) := ⟨_, rfl⟩
    rw [← hhd] at hho hfew hR
    unfold HdPost at hho
    dsimp only at hho hfew hR
    have HHO := Lib.hid hho
    have HFEW := Lib.hid hfew
    obtain ⟨⟨n0, sz⟩, hsz⟩ : ∃ x, x = sizeOfL c fs := ⟨_, rfl⟩
    obtain ⟨⟨cl, ico⟩, hcl⟩ : ∃ x, x = closesL c fs := ⟨_, rfl⟩
    have HSO := Lib.hid fun V b W (h : FldsAt W V fs b) => sizeof_any c V fs b (by have := HFEW.out.1; omega) (fun f hf => (HFEW.out.2 f hf).1) (fun f hf => (HFEW.out.2 f hf).2) W h
    have HCL := Lib.hid fun V b W (h : FldsAt W V fs b) => closes10_any c V fs b (by have := HFEW.out.1; omega) (fun f hf => (HFEW.out.2 f hf).1) W h
    have HOT := Lib.hid fun V b W (h : FldsAt W V fs b) => others_any c V fs b HFEW.out.1 (fun f hf => (HFEW.out.2 f hf).1) W h
    rw [← hsz] at HSO hR
    rw [← hcl] at HCL hR
    dsimp only at hR
    obtain ⟨n, hn⟩ : ∃ n, n = (if head = true then 0 else n0) := ⟨_, rfl⟩
    rw [← hn] at hR
    have HR := Lib.hid hR
    have HN := Lib.hid hn
    have hlt := run_len_S (P := Tryd.prog) Tryd.underlying9 3 text
    have hlr := run_len_S (P := Tryd.prog) Tryd.underlying9 3 rest
    obtain ⟨T, hT⟩ : ∃ T, T = text.length := ⟨_, rfl⟩
    obtain ⟨L, hL⟩ : ∃ L, L = rest.length := ⟨_, rfl⟩
    rw [← hT] at hlt htl
    rw [← hL] at hlr hrl
    have HT := Lib.hid (And.intro htl hle)
    have HL := Lib.hid hL
    have HSL := Lib.hid fun (m : Nat) (h : m ≤ rest.length) W => slice_take (P := Tryd.prog) Tryd.underlying9 rest m h W
    have hT5 : T ≤ 100000 := by omega
    clear hR hRD hE hc hB0 hr0 hm hs hho hfew hhd hsz hcl hn hT hL htx hrs htl hle
    go_enter Tryd.func9, Tryd.ntmps9
    go_wp2_with fail
    all_goals try rw [← hW0, ← hb4]
    clear hW0 hb4
    refine (HC.out _ HM0.out).mono ?_
    rintro e W1 ⟨rfl, hB⟩
    have H1 := Lib.hid (And.intro (H0.out.1.trans (hB.mono H0.out.1.size)) (And.intro (H0.out.2.below hB H0.out.2.lt) (HM0.out.below hB)))
    clear hB H0
    go_wp2_with fail
    refine (HHO.out _ H1.out.2.2).mono ?_
    rintro e W2 ⟨V, rfl, hO⟩
    obtain ⟨gf, hF, -⟩ := flds_at hO.1
    have H2 := Lib.hid (And.intro (H1.out.1.trans (hO.2.mono H1.out.1.size)) (And.intro (H1.out.2.1.below hO.2 H1.out.2.1.lt) hF))
    clear hO hF H1
    go_wp2_with fail
    refine (HSO.out _ _ _ H2.out.2.2).mono ?_
    rintro e W3 ⟨rfl, hB⟩
    have H3 := Lib.hid (And.intro (H2.out.1.trans (hB.mono H2.out.1.size)) (And.intro (H2.out.2.1.below hB H2.out.2.1.lt) (H2.out.2.2.below hB)))
    clear hB H2
    go_wp2_with fail
    refine (HCL.out _ _ _ H3.out.2.2).mono ?_
    rintro e W4 ⟨rfl, hB⟩
    have H4 := Lib.hid (And.intro (H3.out.1.trans (hB.mono H3.out.1.size)) (And.intro (H3.out.2.1.below hB H3.out.2.1.lt) (H3.out.2.2.below hB)))
    clear hB H3
    cases ok with
    | false =>
      have HP : Hid (RD = .form) := Lib.hid (by rw [HR.out]; rw [if_neg]; simp)
      have hr := H4.out.2.1
      have d0 : W4.cell? ⟨b4, 0, none⟩ = some (.int .i64 0) := cell_of_row W4 _ 0 _ 29 (0, 0) hr
      have df0 : W4.frozen? ⟨b4, 0, none⟩ = false := Row.frozen hr 0
      have d1 : W4.cell? ⟨b4, 1, none⟩ = some (.slice none 0 0) := cell_of_row W4 _ 1 _ 29 (0, 0) hr
      have df1 : W4.frozen? ⟨b4, 1, none⟩ = false := Row.frozen hr 1
      have d2 : W4.cell? ⟨b4, 2, none⟩ = some (.string ⟨#[]⟩) := cell_of_row W4 _ 2 _ 29 (0, 0) hr
      have df2 : W4.frozen? ⟨b4, 2, none⟩ = false := Row.frozen hr 2
      have hr2 := Lib.hid hr
      clear hr
      go_wp2
      exact HZ.out W4 _ 8 hr2.out H4.out.1 rfl rfl rfl rfl (.inr ⟨rfl, HP.out⟩)
    | true =>
    cases sz with
    | false =>
      have HP : Hid (RD = .form) := Lib.hid (by rw [HR.out]; rw [if_neg]; simp)
      have hr := H4.out.2.1
      have d0 : W4.cell? ⟨b4, 0, none⟩ = some (.int .i64 0) := cell_of_row W4 _ 0 _ 29 (0, 0) hr
      have df0 : W4.frozen? ⟨b4, 0, none⟩ = false := Row.frozen hr 0
      have d1 : W4.cell? ⟨b4, 1, none⟩ = some (.slice none 0 0) := cell_of_row W4 _ 1 _ 29 (0, 0) hr
      have df1 : W4.frozen? ⟨b4, 1, none⟩ = false := Row.frozen hr 1
      have d2 : W4.cell? ⟨b4, 2, none⟩ = some (.string ⟨#[]⟩) := cell_of_row W4 _ 2 _ 29 (0, 0) hr
      have df2 : W4.frozen? ⟨b4, 2, none⟩ = false := Row.frozen hr 2
      have hr2 := Lib.hid hr
      clear hr
      go_wp2
      exact HZ.out W4 _ 8 hr2.out H4.out.1 rfl rfl rfl rfl (.inr ⟨rfl, HP.out⟩)
    | true =>
    cases ico with
    | false =>
      have HP : Hid (RD = .form) := Lib.hid (by rw [HR.out]; rw [if_neg]; simp)
      have hr := H4.out.2.1
      have d0 : W4.cell? ⟨b4, 0, none⟩ = some (.int .i64 0) := cell_of_row W4 _ 0 _ 29 (0, 0) hr
      have df0 : W4.frozen? ⟨b4, 0, none⟩ = false := Row.frozen hr 0
      have d1 : W4.cell? ⟨b4, 1, none⟩ = some (.slice none 0 0) := cell_of_row W4 _ 1 _ 29 (0, 0) hr
      have df1 : W4.frozen? ⟨b4, 1, none⟩ = false := Row.frozen hr 1
      have d2 : W4.cell? ⟨b4, 2, none⟩ = some (.string ⟨#[]⟩) := cell_of_row W4 _ 2 _ 29 (0, 0) hr
      have df2 : W4.frozen? ⟨b4, 2, none⟩ = false := Row.frozen hr 2
      have hr2 := Lib.hid hr
      clear hr
      go_wp2
      exact HZ.out W4 _ 8 hr2.out H4.out.1 rfl rfl rfl rfl (.inr ⟨rfl, HP.out⟩)
    | true =>
    have HR2 : Hid (RD = endL rest (T + 4) c fs n cl) := Lib.hid (by rw [HR.out, HT.out.1]; rw [if_pos]; rfl)
    clear HR
    cases head with
    | true =>
      obtain rfl : n = 0 := by rw [HN.out]; rfl
      have hw1 : IntKind.i64.wrap ((T : Int) + 4) = (T : Int) + 4 := by rw [IntKind.wrap_i64]; omega
      have hlt2 : ¬ L < 0 := Nat.not_lt_zero _
      have g1 : decide ((L : Int) < ((0 : Nat) : Int)) = false := decide_eq_false (by omega)
      have g1' : decide (L < 0) = false := decide_eq_false hlt2
      have HP : Hid (RD = .ok c (othersL c fs) ([]) cl (T + 4 + 0)) := Lib.hid (by rw [HR2.out]; unfold endL; rw [← HL.out, if_neg hlt2]; first | done | rfl)
      have hw2 : IntKind.i64.wrap ((T : Int) + 4 + ((0 : Nat) : Int)) = ((T + 4 + 0 : Nat) : Int) := by rw [IntKind.wrap_i64]; omega
      have hsl : ∀ W, (Instr.slice 9 (S rest) none (some (.int .i64 0)) none).run Tryd.prog W = .ok (S []) W := fun W => HSL.out 0 (Nat.zero_le _) W
      clear hlt2
      go_wp2
      obtain ⟨Wq, hWq⟩ : ∃ Wq, Wq = W4.drew := ⟨_, rfl⟩
      have hBq : Below W4.heap.size W4 Wq := by rw [hWq]; exact ⟨rfl, rfl, rfl, Nat.le_refl _, fun _ _ => rfl⟩
      have HQ := Lib.hid (And.intro (H4.out.1.trans (hBq.mono H4.out.1.size)) (And.intro (H4.out.2.1.below hBq H4.out.2.1.lt) (H4.out.2.2.below hBq)))
      clear hBq H4
      refine wp_region_noPanic ?_
      refine wp_region_held_drew (S := fun _ => True) (by kernel_rfl) trivial (fun _ => ?_)
      rw [← hWq]
      clear hWq
      refine take_at (i := 0) (d := some 63) (v := .int .i64 (c : Int)) rfl (by kernel_rfl) (by kernel_rfl) (by kernel_rfl) (fun _ _ _ h => h) (fun oi ho => ?_) trivial ?_
      · obtain rfl := Option.some.inj ho
        exact Or.inl ⟨by rfl, fun wx hSw => by go_simp⟩
      simp only [Act.put, List.setIfInBounds_toArray, List.set_cons_zero, List.set_cons_succ]
      refine take_at (i := 1) (d := some 64) (v := .int .i64 (c : Int)) rfl (by kernel_rfl) (by kernel_rfl) (by kernel_rfl) (fun _ _ _ h => h) (fun oi ho => ?_) trivial ?_
      · obtain rfl := Option.some.inj ho
        exact Or.inl ⟨by rfl, fun wx hSw => by go_simp⟩
      simp only [Act.put, List.setIfInBounds_toArray, List.set_cons_zero, List.set_cons_succ]
      refine take_at (i := 2) (d := some 65) (v := V) rfl (by kernel_rfl) (by kernel_rfl) (by kernel_rfl) (fun _ _ _ h => h) (fun oi ho => ?_) trivial ?_
      · obtain rfl := Option.some.inj ho
        exact Or.inl ⟨by rfl, fun wx hSw => by go_simp⟩
      simp only [Act.put, List.setIfInBounds_toArray, List.set_cons_zero, List.set_cons_succ]
      refine take_at (i := 4) (d := some 67) (v := S rest) rfl (by kernel_rfl) (by kernel_rfl) (by kernel_rfl) (fun _ _ _ h => h) (fun oi ho => ?_) trivial ?_
      · obtain rfl := Option.some.inj ho
        exact Or.inl ⟨by rfl, fun wx hSw => by go_simp⟩
      simp only [Act.put, List.setIfInBounds_toArray, List.set_cons_zero, List.set_cons_succ]
      refine take_at (i := 5) (d := some 68) (v := .int .i64 ((0 : Nat) : Int)) rfl (by kernel_rfl) (by kernel_rfl) (by kernel_rfl) (fun _ _ _ h => h) (fun oi ho => ?_) trivial ?_
      · obtain rfl := Option.some.inj ho
        exact Or.inl ⟨by rfl, fun wx hSw => by go_simp⟩
      simp only [Act.put, List.setIfInBounds_toArray, List.set_cons_zero, List.set_cons_succ]
      refine take_at (i := 6) (d := some 69) (v := S []) rfl (by kernel_rfl) (by kernel_rfl) (by kernel_rfl) (fun _ _ _ h => h) (fun oi ho => ?_) trivial ?_
      · obtain rfl := Option.some.inj ho
        exact Or.inl ⟨by rfl, fun wx hSw => by go_simp⟩
      simp only [Act.put, List.setIfInBounds_toArray, List.set_cons_zero, List.set_cons_succ]
      refine ready_call (i := 3) (d := some 66) (f := 27) (args := #[.int .i64 (c : Int), V]) rfl (by kernel_rfl) (fun oi ho => ?_) ?_
      · obtain rfl := Option.some.inj ho
        exact ⟨by rfl, by go_simp⟩
      refine (HOT.out _ _ _ HQ.out.2.2).mono ?_
      rintro e W6 ⟨V6, rfl, hO⟩
      have H6 : Hid (Row W6 b4 #[.int .i64 0, .slice none 0 0, .string ⟨#[]⟩] 29 ∧ Below w.heap.size w W6 ∧ W6.ownsRow Wq.heap.size 26 2 V6 (othersL c fs).length (fcells (othersL c fs))) := Lib.hid ⟨HQ.out.2.1.below hO.2 HQ.out.2.1.lt, HQ.out.1.trans (hO.2.mono HQ.out.1.size), hO.1⟩
      clear hO
      refine ⟨_, rfl, trivial, ?_⟩
      simp only [Act.put, List.setIfInBounds_toArray, List.set_cons_zero, List.set_cons_succ]
      obtain ⟨g6, hF6, -⟩ := flds_at H6.out.2.2
      obtain ⟨a6, q6, hv6⟩ := hF6.form
      subst hv6
      clear hF6
      refine take_at (i := 7) (d := some 70) (v := .agg #[.int .i64 (c : Int), .slice a6 (othersL c fs).length q6, S []]) rfl (by kernel_rfl) (by kernel_rfl) (by kernel_rfl) (fun _ _ _ h => h) (fun oi ho => ?_) trivial ?_
      · obtain rfl := Option.some.inj ho
        exact Or.inl ⟨by rfl, fun wx hSw => by go_simp⟩
      simp only [Act.put, List.setIfInBounds_toArray, List.set_cons_zero, List.set_cons_succ]
      have hr := H6.out.1
      have d0 : W6.cell? ⟨b4, 0, none⟩ = some (.int .i64 0) := cell_of_row W6 _ 0 _ 29 (0, 0) hr
      have df0 : W6.frozen? ⟨b4, 0, none⟩ = false := Row.frozen hr 0
      have d1 : W6.cell? ⟨b4, 1, none⟩ = some (.slice none 0 0) := cell_of_row W6 _ 1 _ 29 (0, 0) hr
      have df1 : W6.frozen? ⟨b4, 1, none⟩ = false := Row.frozen hr 1
      have d2 : W6.cell? ⟨b4, 2, none⟩ = some (.string ⟨#[]⟩) := cell_of_row W6 _ 2 _ 29 (0, 0) hr
      have df2 : W6.frozen? ⟨b4, 2, none⟩ = false := Row.frozen hr 2
      have hr2 := Lib.hid hr
      refine ready_skip (i := 8) (d := none) (w' := put3 W6 b4 (.int .i64 (c : Int)) (.slice a6 (othersL c fs).length q6) (S [])) rfl (by kernel_rfl) (fun oi ho => ?_) trivial ?_
      · obtain rfl := Option.some.inj ho
        exact ⟨by rfl, by unfold put3; go_simp⟩
      refine wpAnyH_done (by kernel_rfl) ?_ _
      refine NoPanic.normal ?_
      clear d0 d1 d2 df0 df1 df2 hr hsl
      obtain ⟨W7, hW7⟩ : ∃ W, W = put3 W6 b4 (.int .i64 (c : Int)) (.slice a6 (othersL c fs).length q6) (S []) := ⟨_, rfl⟩
      have hr7 : Row W7 b4 #[.int .i64 (c : Int), .slice a6 (othersL c fs).length q6, S []] 29 := by rw [hW7]; exact put3_row hr2.out _ _ _
      have hB7 : Below w.heap.size w W7 := by rw [hW7]; exact put3_below H6.out.2.1 (Nat.le_of_eq HB4.out.symm) _ _ _
      have ho7 : W7.ownsRow Wq.heap.size 26 2 (.slice a6 (othersL c fs).length q6) (othersL c fs).length (fcells (othersL c fs)) := by rw [hW7]; exact own_put3 H6.out.2.2 HQ.out.2.1.lt _ _ _
      have e0 : W7.cell? ⟨b4, 0, none⟩ = some (.int .i64 (c : Int)) := cell_of_row W7 _ 0 _ 29 (0, 0) hr7
      have ef0 : W7.frozen? ⟨b4, 0, none⟩ = false := Row.frozen hr7 0
      have e1 : W7.cell? ⟨b4, 1, none⟩ = some (.slice a6 (othersL c fs).length q6) := cell_of_row W7 _ 1 _ 29 (0, 0) hr7
      have ef1 : W7.frozen? ⟨b4, 1, none⟩ = false := Row.frozen hr7 1
      have e2 : W7.cell? ⟨b4, 2, none⟩ = some (S []) := cell_of_row W7 _ 2 _ 29 (0, 0) hr7
      have ef2 : W7.frozen? ⟨b4, 2, none⟩ = false := Row.frozen hr7 2
      have H7 := Lib.hid (And.intro hr7 (And.intro hB7 ho7))
      rw [← hW7]
      clear hW7 hr7 hB7 ho7
      go_wp2
      refine bodyPost_ret (rp_end rfl _ (put3 W7 b4 (.int .i64 (c : Int)) (.slice a6 (othersL c fs).length q6) (S [])) b4 _ rfl (put3_row H7.out.1 _ _ _) rfl) rfl ?_
      rw [HP.out]
      unfold ReadV
      obtain ⟨g8, hF8, -⟩ := flds_at (own_put3 (b := b4) H7.out.2.2 HQ.out.2.1.lt (.int .i64 (c : Int)) (.slice a6 (othersL c fs).length q6) (S []))
      exact ⟨put3_below H7.out.2.1 (Nat.le_of_eq HB4.out.symm) _ _ _, _, g8, rfl, hF8⟩
    | false =>
      obtain rfl : n = n0 := by rw [HN.out]; rfl
      have hw1 : IntKind.i64.wrap ((T : Int) + 4) = (T : Int) + 4 := by rw [IntKind.wrap_i64]; omega
      by_cases hlt2 : L < n
      case pos =>
        have g1 : decide ((L : Int) < (n : Int)) = true := decide_eq_true (by omega)
        have g1' : decide (L < n) = true := decide_eq_true hlt2
        have HP : Hid (RD = .short) := Lib.hid (by rw [HR2.out]; unfold endL; rw [← HL.out, if_pos hlt2])
        clear hlt2
        have hr := H4.out.2.1
        have d0 : W4.cell? ⟨b4, 0, none⟩ = some (.int .i64 0) := cell_of_row W4 _ 0 _ 29 (0, 0) hr
        have df0 : W4.frozen? ⟨b4, 0, none⟩ = false := Row.frozen hr 0
        have d1 : W4.cell? ⟨b4, 1, none⟩ = some (.slice none 0 0) := cell_of_row W4 _ 1 _ 29 (0, 0) hr
        have df1 : W4.frozen? ⟨b4, 1, none⟩ = false := Row.frozen hr 1
        have d2 : W4.cell? ⟨b4, 2, none⟩ = some (.string ⟨#[]⟩) := cell_of_row W4 _ 2 _ 29 (0, 0) hr
        have df2 : W4.frozen? ⟨b4, 2, none⟩ = false := Row.frozen hr 2
        have hr2 := Lib.hid hr
        clear hr
        go_wp2
        exact HZ.out W4 _ 7 hr2.out H4.out.1 rfl rfl rfl rfl (.inl ⟨rfl, HP.out⟩)
      have g1 : decide ((L : Int) < (n : Int)) = false := decide_eq_false (by omega)
      have g1' : decide (L < n) = false := decide_eq_false hlt2
      have HP : Hid (RD = .ok c (othersL c fs) ((rest.take n)) cl (T + 4 + n)) := Lib.hid (by rw [HR2.out]; unfold endL; rw [← HL.out, if_neg hlt2]; first | done | rfl)
      have hw2 : IntKind.i64.wrap ((T : Int) + 4 + (n : Int)) = ((T + 4 + n : Nat) : Int) := by rw [IntKind.wrap_i64]; omega
      have hsl := HSL.out n (by rw [← HL.out]; omega)
      clear hlt2
      go_wp2
      obtain ⟨Wq, hWq⟩ : ∃ Wq, Wq = W4.drew := ⟨_, rfl⟩
      have hBq : Below W4.heap.size W4 Wq := by rw [hWq]; exact ⟨rfl, rfl, rfl, Nat.le_refl _, fun _ _ => rfl⟩
      have HQ := Lib.hid (And.intro (H4.out.1.trans (hBq.mono H4.out.1.size)) (And.intro (H4.out.2.1.below hBq H4.out.2.1.lt) (H4.out.2.2.below hBq)))
      clear hBq H4
      refine wp_region_noPanic ?_
      refine wp_region_held_drew (S := fun _ => True) (by kernel_rfl) trivial (fun _ => ?_)
      rw [← hWq]
      clear hWq
      refine take_at (i := 0) (d := some 63) (v := .int .i64 (c : Int)) rfl (by kernel_rfl) (by kernel_rfl) (by kernel_rfl) (fun _ _ _ h => h) (fun oi ho => ?_) trivial ?_
      · obtain rfl := Option.some.inj ho
        exact Or.inl ⟨by rfl, fun wx hSw => by go_simp⟩
      simp only [Act.put, List.setIfInBounds_toArray, List.set_cons_zero, List.set_cons_succ]
      refine take_at (i := 1) (d := some 64) (v := .int .i64 (c : Int)) rfl (by kernel_rfl) (by kernel_rfl) (by kernel_rfl) (fun _ _ _ h => h) (fun oi ho => ?_) trivial ?_
      · obtain rfl := Option.some.inj ho
        exact Or.inl ⟨by rfl, fun wx hSw => by go_simp⟩
      simp only [Act.put, List.setIfInBounds_toArray, List.set_cons_zero, List.set_cons_succ]
      refine take_at (i := 2) (d := some 65) (v := V) rfl (by kernel_rfl) (by kernel_rfl) (by kernel_rfl) (fun _ _ _ h => h) (fun oi ho => ?_) trivial ?_
      · obtain rfl := Option.some.inj ho
        exact Or.inl ⟨by rfl, fun wx hSw => by go_simp⟩
      simp only [Act.put, List.setIfInBounds_toArray, List.set_cons_zero, List.set_cons_succ]
      refine take_at (i := 4) (d := some 67) (v := S rest) rfl (by kernel_rfl) (by kernel_rfl) (by kernel_rfl) (fun _ _ _ h => h) (fun oi ho => ?_) trivial ?_
      · obtain rfl := Option.some.inj ho
        exact Or.inl ⟨by rfl, fun wx hSw => by go_simp⟩
      simp only [Act.put, List.setIfInBounds_toArray, List.set_cons_zero, List.set_cons_succ]
      refine take_at (i := 5) (d := some 68) (v := .int .i64 (n : Int)) rfl (by kernel_rfl) (by kernel_rfl) (by kernel_rfl) (fun _ _ _ h => h) (fun oi ho => ?_) trivial ?_
      · obtain rfl := Option.some.inj ho
        exact Or.inl ⟨by rfl, fun wx hSw => by go_simp⟩
      simp only [Act.put, List.setIfInBounds_toArray, List.set_cons_zero, List.set_cons_succ]
      refine take_at (i := 6) (d := some 69) (v := S (rest.take n)) rfl (by kernel_rfl) (by kernel_rfl) (by kernel_rfl) (fun _ _ _ h => h) (fun oi ho => ?_) trivial ?_
      · obtain rfl := Option.some.inj ho
        exact Or.inl ⟨by rfl, fun wx hSw => by go_simp⟩
      simp only [Act.put, List.setIfInBounds_toArray, List.set_cons_zero, List.set_cons_succ]
      refine ready_call (i := 3) (d := some 66) (f := 27) (args := #[.int .i64 (c : Int), V]) rfl (by kernel_rfl) (fun oi ho => ?_) ?_
      · obtain rfl := Option.some.inj ho
        exact ⟨by rfl, by go_simp⟩
      refine (HOT.out _ _ _ HQ.out.2.2).mono ?_
      rintro e W6 ⟨V6, rfl, hO⟩
      have H6 : Hid (Row W6 b4 #[.int .i64 0, .slice none 0 0, .string ⟨#[]⟩] 29 ∧ Below w.heap.size w W6 ∧ W6.ownsRow Wq.heap.size 26 2 V6 (othersL c fs).length (fcells (othersL c fs))) := Lib.hid ⟨HQ.out.2.1.below hO.2 HQ.out.2.1.lt, HQ.out.1.trans (hO.2.mono HQ.out.1.size), hO.1⟩
      clear hO
      refine ⟨_, rfl, trivial, ?_⟩
      simp only [Act.put, List.setIfInBounds_toArray, List.set_cons_zero, List.set_cons_succ]
      obtain ⟨g6, hF6, -⟩ := flds_at H6.out.2.2
      obtain ⟨a6, q6, hv6⟩ := hF6.form
      subst hv6
      clear hF6
      refine take_at (i := 7) (d := some 70) (v := .agg #[.int .i64 (c : Int), .slice a6 (othersL c fs).length q6, S (rest.take n)]) rfl (by kernel_rfl) (by kernel_rfl) (by kernel_rfl) (fun _ _ _ h => h) (fun oi ho => ?_) trivial ?_
      · obtain rfl := Option.some.inj ho
        exact Or.inl ⟨by rfl, fun wx hSw => by go_simp⟩
      simp only [Act.put, List.setIfInBounds_toArray, List.set_cons_zero, List.set_cons_succ]
      have hr := H6.out.1
      have d0 : W6.cell? ⟨b4, 0, none⟩ = some (.int .i64 0) := cell_of_row W6 _ 0 _ 29 (0, 0) hr
      have df0 : W6.frozen? ⟨b4, 0, none⟩ = false := Row.frozen hr 0
      have d1 : W6.cell? ⟨b4, 1, none⟩ = some (.slice none 0 0) := cell_of_row W6 _ 1 _ 29 (0, 0) hr
      have df1 : W6.frozen? ⟨b4, 1, none⟩ = false := Row.frozen hr 1
      have d2 : W6.cell? ⟨b4, 2, none⟩ = some (.string ⟨#[]⟩) := cell_of_row W6 _ 2 _ 29 (0, 0) hr
      have df2 : W6.frozen? ⟨b4, 2, none⟩ = false := Row.frozen hr 2
      have hr2 := Lib.hid hr
      refine ready_skip (i := 8) (d := none) (w' := put3 W6 b4 (.int .i64 (c : Int)) (.slice a6 (othersL c fs).length q6) (S (rest.take n))) rfl (by kernel_rfl) (fun oi ho => ?_) trivial ?_
      · obtain rfl := Option.some.inj ho
        exact ⟨by rfl, by unfold put3; go_simp⟩
      refine wpAnyH_done (by kernel_rfl) ?_ _
      refine NoPanic.normal ?_
      clear d0 d1 d2 df0 df1 df2 hr hsl
      obtain ⟨W7, hW7⟩ : ∃ W, W = put3 W6 b4 (.int .i64 (c : Int)) (.slice a6 (othersL c fs).length q6) (S (rest.take n)) := ⟨_, rfl⟩
      have hr7 : Row W7 b4 #[.int .i64 (c : Int), .slice a6 (othersL c fs).length q6, S (rest.take n)] 29 := by rw [hW7]; exact put3_row hr2.out _ _ _
      have hB7 : Below w.heap.size w W7 := by rw [hW7]; exact put3_below H6.out.2.1 (Nat.le_of_eq HB4.out.symm) _ _ _
      have ho7 : W7.ownsRow Wq.heap.size 26 2 (.slice a6 (othersL c fs).length q6) (othersL c fs).length (fcells (othersL c fs)) := by rw [hW7]; exact own_put3 H6.out.2.2 HQ.out.2.1.lt _ _ _
      have e0 : W7.cell? ⟨b4, 0, none⟩ = some (.int .i64 (c : Int)) := cell_of_row W7 _ 0 _ 29 (0, 0) hr7
      have ef0 : W7.frozen? ⟨b4, 0, none⟩ = false := Row.frozen hr7 0
      have e1 : W7.cell? ⟨b4, 1, none⟩ = some (.slice a6 (othersL c fs).length q6) := cell_of_row W7 _ 1 _ 29 (0, 0) hr7
      have ef1 : W7.frozen? ⟨b4, 1, none⟩ = false := Row.frozen hr7 1
      have e2 : W7.cell? ⟨b4, 2, none⟩ = some (S (rest.take n)) := cell_of_row W7 _ 2 _ 29 (0, 0) hr7
      have ef2 : W7.frozen? ⟨b4, 2, none⟩ = false := Row.frozen hr7 2
      have H7 := Lib.hid (And.intro hr7 (And.intro hB7 ho7))
      rw [← hW7]
      clear hW7 hr7 hB7 ho7
      go_wp2
      refine bodyPost_ret (rp_end rfl _ (put3 W7 b4 (.int .i64 (c : Int)) (.slice a6 (othersL c fs).length q6) (S (rest.take n))) b4 _ rfl (put3_row H7.out.1 _ _ _) rfl) rfl ?_
      rw [HP.out]
      unfold ReadV
      obtain ⟨g8, hF8, -⟩ := flds_at (own_put3 (b := b4) H7.out.2.2 HQ.out.2.1.lt (.int .i64 (c : Int)) (.slice a6 (othersL c fs).length q6) (S (rest.take n)))
      exact ⟨put3_below H7.out.2.1 (Nat.le_of_eq HB4.out.symm) _ _ _, _, g8, rfl, hF8⟩
end Go.Proofs.YtfdbmbgpcioogaaDoor
/- The landed writeField and Bytes walked. (mkpx8.py writes it.) -/
namespace Go.Proofs.YtfdbmbgpcioogaaDoor
open Go.RowKit Go.Shelf
attribute [local go_sem] store_one S_match S_store eguard_BN nguard_BN

set_option maxRecDepth 100000 in
set_option maxHeartbeats 1000000 in
theorem wfield_any (g : Nat) (x n v : List UInt8) (hl : x.length + n.length + v.length ≤ 900000) (w : World) (h : Bld g x w) :
    Calls Tryd.prog 19 #[.pointer (some ⟨g, 0, none⟩), S n, S v] w fun e w' => e = .returned (.tuple #[]) ∧ Bld g (x ++ (fieldL (n, v) ++ [13, 10])) w' ∧ Below g w w' := by
  have z1 : binOp .add 9 (S n) (.string ⟨#[58, 32]⟩) = pure (S (n ++ [58, 32])) := S_add 9 n [58, 32] (by show _ + 2 ≤ _; omega)
  obtain ⟨Z1, hZ1⟩ : ∃ X, X = n ++ [58, 32] := ⟨_, rfl⟩
  rw [← hZ1] at z1
  have l1 : Z1.length = n.length + 2 := by rw [hZ1, List.length_append]; rfl
  have z2 : binOp .add 9 (S Z1) (S v) = pure (S (Z1 ++ v)) := S_add 9 Z1 v (by omega)
  obtain ⟨Z2, hZ2⟩ : ∃ X, X = Z1 ++ v := ⟨_, rfl⟩
  rw [← hZ2] at z2
  have l2 : Z2.length = Z1.length + v.length := by rw [hZ2, List.length_append]
  have z3 : binOp .add 9 (S Z2) (.string ⟨#[13, 10]⟩) = pure (S (Z2 ++ [13, 10])) := S_add 9 Z2 [13, 10] (by show _ + 2 ≤ _; omega)
  obtain ⟨Z3, hZ3⟩ : ∃ X, X = Z2 ++ [13, 10] := ⟨_, rfl⟩
  rw [← hZ3] at z3
  have l3 : Z3.length = Z2.length + 2 := by rw [hZ3, List.length_append]; rfl
  have hZ : fieldL (n, v) ++ [13, 10] = Z3 := by rw [hZ3, hZ2, hZ1]; unfold fieldL; simp
  rw [hZ]
  have HW := Lib.hid (wstr_any g x Z3 (by omega) w h)
  clear hZ hZ1 hZ2 hZ3 l1 l2 l3 hl h
  go_enter Tryd.func19, Tryd.ntmps19
  go_wp2_with fail
  refine HW.out.mono ?_
  rintro e W1 ⟨rfl, hB⟩
  have H1 := Lib.hid hB
  clear hB
  go_wp2
  refine bodyPost_end (results_none rfl _ _ _) rfl ?_
  exact ⟨rfl, H1.out⟩
/-- A text that is built since W2. -/
structure BtAt (W2 : World) (g : Nat) (x : List UInt8) (W : World) : Prop where
  bel : Below g W2 W
  bld : Bld g x W
theorem BtAt.keep {W2 W W' : World} {g : Nat} {x : List UInt8} (h : BtAt W2 g x W) (hb : Below W.heap.size W W') : BtAt W2 g x W' :=
  ⟨h.bel.trans (hb.mono (Nat.le_of_lt h.bld.lt)), Bld.below h.bld hb⟩
theorem BtAt.put {W2 W W' : World} {g : Nat} {x y : List UInt8} (h : BtAt W2 g x W) (hn : Bld g y W') (hb : Below g W W') : BtAt W2 g y W' := ⟨h.bel.trans hb, hn⟩
theorem joinE_one (a : List (List UInt8)) (l : List UInt8) : joinE (a ++ [l]) = joinE a ++ (l ++ [13, 10]) := by rw [joinE_app]; simp [joinE]
theorem stL_join (c : Int) : joinE [stL c] = stL c ++ [13, 10] := rfl
/-- Lines so far, of those that are to come: there is room. -/
theorem join_room {a t LS : List (List UInt8)} {l : List UInt8} (h : (a ++ [l]) ++ t = LS) : (joinE a).length + l.length + 2 ≤ (joinE LS).length := by
  rw [← h, joinE_app, joinE_one, List.length_append, List.length_append, List.length_append]
  show _ ≤ _ + (_ + 2) + _
  omega
def oneB (b : Bool) (l : List UInt8) : List (List UInt8) := if b = true then [l] else []
theorem lines_are (c : Int) (fs : List Fld) (n : Nat) (close : Bool) : ((stL c :: fs.map fieldL) ++ oneB (!nobB c) (fieldL (lenF n))) ++ oneB close (fieldL clsF) = stL c :: lnsR c fs n close := by
  unfold lnsR moreL oneB
  cases nobB c <;> cases close <;> simp
theorem take_lines {c : Int} {fs : List Fld} {i : Nat} {f : Fld} (hf : fs[i]? = some f) : stL c :: (fs.take (i + 1)).map fieldL = (stL c :: (fs.take i).map fieldL) ++ [fieldL f] := by
  rw [List.take_add_one, hf, List.map_append]; rfl
theorem rest_lines {c : Int} {fs : List Fld} {i : Nat} {f : Fld} (hf : fs[i]? = some f) : ((stL c :: (fs.take i).map fieldL) ++ [fieldL f]) ++ (fs.drop (i + 1)).map fieldL = stL c :: fs.map fieldL := by
  rw [← take_lines hf, List.cons_append, ← List.map_append, List.take_append_drop]
set_option maxRecDepth 100000 in
set_option maxHeartbeats 4000000 in
theorem bytes10l_any (c : Int) (fs : List Fld) (body : List UInt8) (head close : Bool) (V : Value) (b o : Nat) (w : World) (hA : FA w V fs b o) (hl : rpLen fs body ≤ 80000) (hT : PowAt w) :
    Calls Tryd.prog 8 #[.agg (rpC c V body), .bool head, .bool close] w fun e w' => e = .returned (bytesV (bytesO c fs body head close)) ∧ Below w.heap.size w w' := by
  have hrg := fun W h => right_any c fs body V b o W h hl
  unfold rpC at hrg ⊢
  obtain ⟨O, hO⟩ : ∃ O, O = bytesO c fs body head close := ⟨_, rfl⟩
  rw [← hO]
  obtain ⟨b1, hb1⟩ : ∃ b, b = w.heap.size := ⟨_, rfl⟩
  obtain ⟨W1, hW1⟩ : ∃ W, W = w.alloc (.cells #[.int .i64 c, V, S body] 29) := ⟨_, rfl⟩
  have hB1 : Below w.heap.size w W1 := by rw [hW1]; exact (Below.refl _ w).alloc (Nat.le_refl _) _
  have hM1 : RtAt w b1 c V body fs b o W1 := ⟨by rw [hW1, hb1]; exact row_new _ _ _, hA.below hB1, hB1⟩
  have HM := Lib.hid hM1
  have c0 : W1.cell? ⟨b1, 0, none⟩ = some (.int .i64 c) := cell_of_row W1 _ 0 _ _ (0, 0) hM1.row
  have c1 : W1.cell? ⟨b1, 1, none⟩ = some V := cell_of_row W1 _ 1 _ _ (0, 0) hM1.row
  have c2 : W1.cell? ⟨b1, 2, none⟩ = some (S body) := cell_of_row W1 _ 2 _ _ (0, 0) hM1.row
  have HT := Lib.hid fun W (h : Below w.heap.size w W) => outI.keep w W hT h
  have HRG := Lib.hid (hrg W1 hM1.fa)
  unfold bytesO at hO
  have hOr : mayB c fs body close = (rightB c fs body && !(close && c == 101)) := rfl
  rw [hOr] at hO
  obtain ⟨R, hR⟩ : ∃ R, R = rightB c fs body := ⟨_, rfl⟩
  rw [← hR] at hO HRG
  have HO := Lib.hid (And.intro hO hR)
  have HL := Lib.hid hl
  clear hO hR hOr hM1 hB1 hA hrg hl hT
  cases R with
  | false =>
    have HP : Hid (O = none) := Lib.hid (by rw [HO.out.1]; rfl)
    go_enter Tryd.func8, Tryd.ntmps8
    go_wp2_with fail
    all_goals try rw [← hW1, ← hb1]
    all_goals try go_wp2_with fail
    clear hW1 hb1 c0 c1 c2
    refine HRG.out.mono ?_
    rintro e W2 ⟨rfl, hB⟩
    have H2 := Lib.hid (HM.out.below hB)
    clear hB
    go_wp2
    go_ret2
    exact ⟨by rw [HP.out]; rfl, H2.out.bel⟩
  | true =>
  have HRP : Hid (RightP c fs body) := Lib.hid (right_iff.1 HO.out.2.symm)
  obtain ⟨u, rfl⟩ : ∃ u : Nat, c = (u : Int) := ⟨c.toNat, by have := HRP.out.lo; omega⟩
  by_cases h101 : close = true ∧ u = 101
  case pos =>
    obtain ⟨rfl, hu⟩ := h101
    have g1 : ((u : Int) == 101) = true := by rw [beq_iff_eq]; omega
    have HP : Hid (O = none) := Lib.hid (by rw [HO.out.1, g1]; rfl)
    clear hu
    go_enter Tryd.func8, Tryd.ntmps8
    go_wp2_with fail
    all_goals try rw [← hW1, ← hb1]
    all_goals try go_wp2_with fail
    clear hW1 hb1 c0 c1 c2
    refine HRG.out.mono ?_
    rintro e W2 ⟨rfl, hB⟩
    have H2 := Lib.hid (HM.out.below hB)
    clear hB
    have d0 : W2.cell? ⟨b1, 0, none⟩ = some (.int .i64 (u : Int)) := cell_of_row W2 _ 0 _ _ (0, 0) H2.out.row
    go_wp2
    go_ret2
    exact ⟨by rw [HP.out]; rfl, H2.out.bel⟩
  have HOK : Hid (O = some (bytesB (u : Int) fs body head close)) := Lib.hid (by
    rw [HO.out.1, if_pos]
    cases hcl : close with
    | false => rfl
    | true =>
      have : u ≠ 101 := fun e => h101 ⟨hcl, e⟩
      simp; omega)
  have g101 : close = true → (((u : Int) == 101) = false) := fun h => by
    rw [beq_eq_false_iff_ne]
    intro e
    exact h101 ⟨h, by omega⟩
  have HG101 := Lib.hid g101
  clear g101 h101 HO
  -- the lines
  obtain ⟨LS, hLS⟩ : ∃ LS, LS = stL (u : Int) :: lnsR (u : Int) fs body.length close := ⟨_, rfl⟩
  have HLS : Hid (((stL (u : Int) :: fs.map fieldL) ++ oneB (!nobB (u : Int)) (fieldL (lenF body.length))) ++ oneB close (fieldL clsF) = LS) := Lib.hid (by rw [hLS]; exact lines_are _ _ _ _)
  have HLL : Hid ((joinE LS).length ≤ 80200 ∧ body.length ≤ 65536) := Lib.hid (by
    have h1 := lines_len (u : Int) fs body.length close HRP.out.lo HRP.out.hi HRP.out.len
    have h2 := HL.out
    unfold rpLen at h2
    rw [hLS]
    exact ⟨by omega, HRP.out.len⟩)
  have HBY : Hid (bytesB (u : Int) fs body head close = (joinE LS ++ [13, 10]) ++ (if head = true then [] else body)) := Lib.hid (by unfold bytesB headB; rw [← hLS])
  clear hLS
  have HU : Hid (100 ≤ u ∧ u ≤ 599) := Lib.hid (by have h1 := HRP.out.lo; have h2 := HRP.out.hi; omega)
  have hdl := dec_len 3 u (by have := HU.out; omega)
  obtain ⟨D, hD⟩ : ∃ D, D = Lib.decDigits u := ⟨_, rfl⟩
  have HIT := Lib.hid fun W hP => outI.itoa (u : Int) W (by omega) (by have := HU.out; omega) hP
  rw [itoa_nat, ← hD] at HIT
  have HRS := Lib.hid fun W => reason_any (u : Int) W
  have hrl := (rsn_ok (u : Int)).2
  obtain ⟨Rs, hRs⟩ : ∃ Rs, Rs = rsnF (u : Int) := ⟨_, rfl⟩
  rw [← hRs] at HRS hrl
  rw [← hD] at hdl
  have z1 : binOp .add 9 (.string ⟨#[72, 84, 84, 80, 47, 49, 46, 49, 32]⟩) (S D) = pure (S (httpS ++ D)) := S_add 9 httpS D (by show 9 + _ ≤ _; omega)
  obtain ⟨Z1, hZ1⟩ : ∃ X, X = httpS ++ D := ⟨_, rfl⟩
  rw [← hZ1] at z1
  have l1 : Z1.length = 9 + D.length := by rw [hZ1, List.length_append]; rfl
  have z2 : binOp .add 9 (S Z1) (.string ⟨#[32]⟩) = pure (S (Z1 ++ [32])) := S_add 9 Z1 [32] (by show _ + 1 ≤ _; omega)
  obtain ⟨Z2, hZ2⟩ : ∃ X, X = Z1 ++ [32] := ⟨_, rfl⟩
  rw [← hZ2] at z2
  have l2 : Z2.length = Z1.length + 1 := by rw [hZ2, List.length_append]; rfl
  have z3 : binOp .add 9 (S Z2) (S Rs) = pure (S (Z2 ++ Rs)) := S_add 9 Z2 Rs (by omega)
  obtain ⟨Z3, hZ3⟩ : ∃ X, X = Z2 ++ Rs := ⟨_, rfl⟩
  rw [← hZ3] at z3
  have l3 : Z3.length = Z2.length + Rs.length := by rw [hZ3, List.length_append]
  have z4 : binOp .add 9 (S Z3) (.string ⟨#[13, 10]⟩) = pure (S (Z3 ++ [13, 10])) := S_add 9 Z3 [13, 10] (by show _ + 2 ≤ _; omega)
  obtain ⟨Z4, hZ4⟩ : ∃ X, X = Z3 ++ [13, 10] := ⟨_, rfl⟩
  rw [← hZ4] at z4
  have HZ : Hid (Z4 = joinE (stL (u : Int) :: (fs.take 0).map fieldL) ∧ Z4.length ≤ 1000) := Lib.hid (by
    refine ⟨?_, by rw [hZ4, List.length_append]; show _ + 2 ≤ _; omega⟩
    rw [List.take_zero, List.map_nil, stL_join, hZ4, hZ3, hZ2, hZ1]
    unfold stL
    rw [Int.toNat_natCast, ← hD, ← hRs]; simp)
  have hlV := HM.out.fa.len 3
  obtain ⟨N, hN⟩ : ∃ N, N = fs.length := ⟨_, rfl⟩
  rw [← hN] at hlV
  have hN5 : N ≤ 20000 := by
    have h1 := fsLen_count fs
    have h2 := HL.out
    unfold rpLen at h2
    omega
  have HN := Lib.hid hN
  clear hN hD hRs hZ1 hZ2 hZ3 hZ4 l1 l2 l3 hdl hrl
  have HBR := Lib.hid fun W => bare10_any (u : Int) W
  obtain ⟨nb, hnb⟩ : ∃ nb, nb = nobB (u : Int) := ⟨_, rfl⟩
  rw [← hnb] at HBR HLS
  clear hnb
  cases close with
  | true =>
    have g1 := HG101.out rfl
    go_enter Tryd.func8, Tryd.ntmps8
    go_wp2_with fail
    all_goals try rw [← hW1, ← hb1]
    all_goals try go_wp2_with fail
    clear hW1 hb1 c0 c1 c2
    refine HRG.out.mono ?_
    rintro e W2 ⟨rfl, hB⟩
    have H2 := Lib.hid (HM.out.below hB)
    clear hB
    have d0 : W2.cell? ⟨b1, 0, none⟩ = some (.int .i64 (u : Int)) := cell_of_row W2 _ 0 _ _ (0, 0) H2.out.row
    obtain ⟨g, hg⟩ : ∃ g, g = W2.heap.size := ⟨_, rfl⟩
    have HGE : Hid (W2.heap.size ≤ g) := Lib.hid (by omega)
    obtain ⟨W3, hW3⟩ : ∃ W, W = W2.alloc (.cells #[.pointer none, .slice none 0 0] 48) := ⟨_, rfl⟩
    obtain ⟨Wq, hWq⟩ : ∃ Wq, Wq = W3.drew := ⟨_, rfl⟩
    have HQ : Hid (BtAt W2 g [] Wq) := Lib.hid (by
      have h1 : BtAt W2 g [] W3 := ⟨by rw [hg, hW3]; exact (Below.refl _ W2).alloc (Nat.le_refl _) _, by rw [hg, hW3]; exact bld_new W2⟩
      exact h1.keep (by rw [hWq]; exact ⟨rfl, rfl, rfl, Nat.le_refl _, fun _ _ => rfl⟩))
    have HS : Hid (∀ x W, BtAt W2 g x W → RtAt w b1 (u : Int) V body fs b o W) := Lib.hid fun x W h => H2.out.below (by have := h.bel; rwa [hg] at this)
    have hSr : Hid (∀ x W, BtAt W2 g x W → W.cell? ⟨b1, 0, none⟩ = some (.int .i64 (u : Int))) := Lib.hid fun x W h => cell_of_row W _ 0 _ _ (0, 0) (HS.out x W h).row
    have hSQ := hSr.out _ Wq HQ.out
    go_wp2
    all_goals try rw [← hW3, ← hg]
    clear hW3 hg d0
    refine wp_region_noPanic ?_
    refine wp_region_held_drew (S := fun W => W.cell? ⟨b1, 0, none⟩ = some (.int .i64 (u : Int))) (by kernel_rfl) (by rw [← hWq]; exact hSQ) (fun _ => ?_)
    rw [← hWq]
    clear hWq
    refine take_at (i := 0) (d := some 22) (v := .pointer (some ⟨b1, 0, none⟩)) rfl (by kernel_rfl) (by kernel_rfl) (by kernel_rfl) (fun _ _ _ h => h) (fun oi ho => ?_) hSQ ?_
    · obtain rfl := Option.some.inj ho
      exact Or.inl ⟨by rfl, fun wx hSw => by go_simp⟩
    simp only [Act.put, List.setIfInBounds_toArray, List.set_cons_zero, List.set_cons_succ]
    refine take_at (i := 1) (d := some 23) (v := .int .i64 (u : Int)) rfl (by kernel_rfl) (by kernel_rfl) (by kernel_rfl) (fun _ _ _ h => h) (fun oi ho => ?_) hSQ ?_
    · obtain rfl := Option.some.inj ho
      exact Or.inl ⟨by rfl, fun wx hSw => by go_simp⟩
    simp only [Act.put, List.setIfInBounds_toArray, List.set_cons_zero, List.set_cons_succ]
    refine take_at (i := 5) (d := some 27) (v := .pointer (some ⟨b1, 0, none⟩)) rfl (by kernel_rfl) (by kernel_rfl) (by kernel_rfl) (fun _ _ _ h => h) (fun oi ho => ?_) hSQ ?_
    · obtain rfl := Option.some.inj ho
      exact Or.inl ⟨by rfl, fun wx hSw => by go_simp⟩
    simp only [Act.put, List.setIfInBounds_toArray, List.set_cons_zero, List.set_cons_succ]
    refine take_at (i := 6) (d := some 28) (v := .int .i64 (u : Int)) rfl (by kernel_rfl) (by kernel_rfl) (by kernel_rfl) (fun _ _ _ h => h) (fun oi ho => ?_) hSQ ?_
    · obtain rfl := Option.some.inj ho
      exact Or.inl ⟨by rfl, fun wx hSw => by go_simp⟩
    simp only [Act.put, List.setIfInBounds_toArray, List.set_cons_zero, List.set_cons_succ]
    refine ready_call (i := 2) (d := some 24) (f := 18) (args := #[.int .i64 (u : Int)]) rfl (by kernel_rfl) (fun oi ho => ?_) ?_
    · obtain rfl := Option.some.inj ho
      exact ⟨by rfl, by go_simp⟩
    refine (HIT.out Wq (HT.out Wq (HS.out _ _ HQ.out).bel)).mono ?_
    rintro e W4 ⟨rfl, hB⟩
    have H4 := Lib.hid (HQ.out.keep hB)
    have hS4 := hSr.out _ W4 H4.out
    clear hB hSQ
    refine ⟨_, rfl, hS4, ?_⟩
    simp only [Act.put, List.setIfInBounds_toArray, List.set_cons_zero, List.set_cons_succ]
    refine take_at (i := 3) (d := some 25) (v := S Z1) rfl (by kernel_rfl) (by kernel_rfl) (by kernel_rfl) (fun _ _ _ h => h) (fun oi ho => ?_) hS4 ?_
    · obtain rfl := Option.some.inj ho
      exact Or.inl ⟨by rfl, fun wx hSw => by go_simp⟩
    simp only [Act.put, List.setIfInBounds_toArray, List.set_cons_zero, List.set_cons_succ]
    refine take_at (i := 4) (d := some 26) (v := S Z2) rfl (by kernel_rfl) (by kernel_rfl) (by kernel_rfl) (fun _ _ _ h => h) (fun oi ho => ?_) hS4 ?_
    · obtain rfl := Option.some.inj ho
      exact Or.inl ⟨by rfl, fun wx hSw => by go_simp⟩
    simp only [Act.put, List.setIfInBounds_toArray, List.set_cons_zero, List.set_cons_succ]
    refine ready_call (i := 7) (d := some 29) (f := 12) (args := #[.int .i64 (u : Int)]) rfl (by kernel_rfl) (fun oi ho => ?_) ?_
    · obtain rfl := Option.some.inj ho
      exact ⟨by rfl, by go_simp⟩
    refine (HRS.out W4).mono ?_
    rintro e W5 ⟨rfl, h5⟩
    subst h5
    refine ⟨_, rfl, hS4, ?_⟩
    simp only [Act.put, List.setIfInBounds_toArray, List.set_cons_zero, List.set_cons_succ]
    refine take_at (i := 8) (d := some 30) (v := S Z3) rfl (by kernel_rfl) (by kernel_rfl) (by kernel_rfl) (fun _ _ _ h => h) (fun oi ho => ?_) hS4 ?_
    · obtain rfl := Option.some.inj ho
      exact Or.inl ⟨by rfl, fun wx hSw => by go_simp⟩
    simp only [Act.put, List.setIfInBounds_toArray, List.set_cons_zero, List.set_cons_succ]
    refine take_at (i := 9) (d := some 31) (v := S Z4) rfl (by kernel_rfl) (by kernel_rfl) (by kernel_rfl) (fun _ _ _ h => h) (fun oi ho => ?_) hS4 ?_
    · obtain rfl := Option.some.inj ho
      exact Or.inl ⟨by rfl, fun wx hSw => by go_simp⟩
    simp only [Act.put, List.setIfInBounds_toArray, List.set_cons_zero, List.set_cons_succ]
    refine ready_call (i := 10) (d := some 32) (f := 17) (args := #[.pointer (some ⟨g, 0, none⟩), S Z4]) rfl (by kernel_rfl) (fun oi ho => ?_) ?_
    · obtain rfl := Option.some.inj ho
      exact ⟨by rfl, by go_simp⟩
    refine (wstr_any g [] Z4 (by have := HZ.out.2; simp; omega) W5 H4.out.bld).mono ?_
    rintro e W6 ⟨rfl, hbl, hB⟩
    have H6 := Lib.hid (H4.out.put hbl hB)
    have hS6 := hSr.out _ W6 H6.out
    clear hbl hB hS4
    refine ⟨_, rfl, hS6, ?_⟩
    simp only [Act.put, List.setIfInBounds_toArray, List.set_cons_zero, List.set_cons_succ]
    refine wpAnyH_done (by kernel_rfl) ?_ _
    refine NoPanic.normal ?_
    clear hS6
    rw [List.nil_append] at H6
    have d1 : W6.cell? ⟨b1, 1, none⟩ = some V := cell_of_row W6 _ 1 _ _ (0, 0) (HS.out _ _ H6.out).row
    go_wp2_with fail
    clear d1
    go_loopw [36] (fun iv wr => ∃ i : Nat, i ≤ N ∧ iv = .int .i64 (i : Int) ∧ Hid (BtAt W2 g (joinE (stL (u : Int) :: (fs.take i).map fieldL)) wr)) (fun iv _ => N - (intOf iv).toNat)
    case atStart => exact ⟨0, Nat.zero_le _, rfl, Lib.hid (by rw [← HZ.out.1]; exact H6.out)⟩
    case round =>
      obtain ⟨i, hi, rfl, HR⟩ := hrel
      by_cases hlt : i < N
      case pos =>
        have g3 : decide ((i : Int) < (N : Int)) = true := decide_eq_true (by omega)
        obtain ⟨⟨n, v⟩, hf⟩ : ∃ f, fs[i]? = some f := ⟨fs[i]'(by have := HN.out; omega), List.getElem?_eq_getElem _⟩
        have hfa := (HS.out _ _ HR.out).fa
        have hix := hfa.index i (by have := HN.out; omega)
        have hcl := hfa.cell i _ hf
        have hwi : IntKind.i64.wrap ((i : Int) + 1) = (i : Int) + 1 := by rw [IntKind.wrap_i64]; omega
        obtain ⟨kk, hkk⟩ : ∃ kk, kk = o + i * 2 := ⟨_, rfl⟩
        rw [← hkk] at hix hcl
        have k0 : wr.cell? ⟨b, kk, none⟩ = some (S n) := hcl.1
        have k1 : wr.cell? ⟨b, kk + 1, none⟩ = some (S v) := hcl.2
        have HJ : Hid (joinE (stL (u : Int) :: (fs.take (i + 1)).map fieldL) = joinE (stL (u : Int) :: (fs.take i).map fieldL) ++ (fieldL (n, v) ++ [13, 10]) ∧ (joinE (stL (u : Int) :: (fs.take i).map fieldL)).length + n.length + v.length ≤ 900000) := Lib.hid (by
          refine ⟨by rw [take_lines hf, joinE_one], ?_⟩
          have h1 := join_room (LS := LS) (show ((stL (u : Int) :: (fs.take i).map fieldL) ++ [fieldL (n, v)]) ++ ((fs.drop (i + 1)).map fieldL ++ (oneB (!nb) (fieldL (lenF body.length)) ++ oneB true (fieldL clsF))) = LS by
            rw [← List.append_assoc, rest_lines hf, ← List.append_assoc]; exact HLS.out)
          have h2 := HLL.out.1
          have h3 : (fieldL (n, v)).length = n.length + v.length + 2 := by unfold fieldL; rw [List.length_append, List.length_cons, List.length_cons]; dsimp only; omega
          omega)
        obtain ⟨W8, hW8⟩ : ∃ W, W = wr.alloc (.cells #[S n, S v] 26) := ⟨_, rfl⟩
        obtain ⟨b8, hb8⟩ : ∃ b, b = wr.heap.size := ⟨_, rfl⟩
        have hr8 : Row W8 b8 #[S n, S v] 26 := by rw [hW8, hb8]; exact row_new _ _ _
        have H8 : Hid (BtAt W2 g (joinE (stL (u : Int) :: (fs.take i).map fieldL)) W8) := Lib.hid (HR.out.keep (by rw [hW8]; exact (Below.refl _ wr).alloc (Nat.le_refl _) _))
        have e0 : W8.cell? ⟨b8, 0, none⟩ = some (S n) := cell_of_row _ _ 0 _ _ (0, 0) hr8
        have e1 : W8.cell? ⟨b8, 1, none⟩ = some (S v) := cell_of_row _ _ 1 _ _ (0, 0) hr8
        have HWF := Lib.hid (wfield_any g _ n v HJ.out.2 W8 H8.out.bld)
        clear hfa hcl hf hkk hr8
        go_wp2_with fail
        all_goals try rw [← hW8, ← hb8]
        all_goals try go_wp2_with fail
        clear hW8 hb8 k0 k1 e0 e1
        refine HWF.out.mono ?_
        rintro e W9 ⟨rfl, hbl, hB⟩
        have H9 : Hid (BtAt W2 g (joinE (stL (u : Int) :: (fs.take (i + 1)).map fieldL)) W9) := Lib.hid (H8.out.put (by rw [HJ.out.1]; exact hbl) hB)
        clear hbl hB
        go_wp2
        exact ⟨⟨i + 1, by omega, by go_num, H9⟩, by simp [intOf]; omega⟩
      case neg =>
        obtain rfl : i = N := by omega
        have g3 : decide ((i : Int) < (i : Int)) = false := decide_eq_false (by omega)
        obtain ⟨x0, hx0⟩ : ∃ x, x = joinE (stL (u : Int) :: fs.map fieldL) := ⟨_, rfl⟩
        have HX0 := Lib.hid hx0
        have HE : Hid (BtAt W2 g x0 wr) := Lib.hid (by have h := HR.out; rw [HN.out, List.take_length, ← hx0] at h; exact h)
        clear hx0 HR
        have d0 := hSr.out _ wr HE.out
        go_wp2_with fail
        clear d0
        refine (HBR.out _).mono ?_
        rintro e W' ⟨rfl, h5⟩
        subst h5
        have HGW : Hid (w.heap.size ≤ g) := Lib.hid (by
          have h1 := H2.out.bel.size
          have h2 := HGE.out
          omega)
        cases nb with
        | false =>
          have d2 : W'.cell? ⟨b1, 2, none⟩ = some (S body) := cell_of_row W' _ 2 _ _ (0, 0) (HS.out _ _ HE.out).row
          have hlB := run_len_S (P := Tryd.prog) Tryd.underlying9 3 body
          obtain ⟨K, hK⟩ : ∃ K, K = body.length := ⟨_, rfl⟩
          rw [← hK] at hlB
          have HK := Lib.hid hK
          have HIK := Lib.hid fun W hP => outI.itoa (K : Int) W (by omega) (by have := HLL.out.2; omega) hP
          rw [itoa_nat] at HIK
          clear hK
          go_wp2_with fail
          clear d2
          refine (HIK.out _ (HT.out _ (HS.out _ _ HE.out).bel)).mono ?_
          rintro e W10 ⟨rfl, hB⟩
          have H10 := Lib.hid (HE.out.keep hB)
          clear hB
          have HLE : Hid ((stL (u : Int) :: fs.map fieldL) ++ [fieldL (lenF body.length)] ++ oneB true (fieldL clsF) = LS) := Lib.hid HLS.out
          have HWF := Lib.hid (wfield_any g x0 [67, 111, 110, 116, 101, 110, 116, 45, 76, 101, 110, 103, 116, 104] (Lib.decDigits K) (by
            have h1 := join_room HLE.out
            have h2 := HLL.out.1
            have h3 : (fieldL (lenF body.length)).length = (Lib.decDigits body.length).length + 16 := by
              have e : fieldL (lenF body.length) = [67, 111, 110, 116, 101, 110, 116, 45, 76, 101, 110, 103, 116, 104, 58, 32] ++ Lib.decDigits body.length := rfl
              rw [e, List.length_append]
              show 16 + _ = _
              omega
            rw [← HX0.out] at h1
            rw [← HK.out] at h3
            show _ + 14 + _ ≤ _
            rw [HK.out]
            rw [HK.out] at h3
            omega) W10 H10.out.bld)
          go_wp2_with fail
          refine HWF.out.mono ?_
          rintro e W11 ⟨rfl, hbl, hB⟩
          obtain ⟨x1, hx1⟩ : ∃ x, x = joinE ((stL (u : Int) :: fs.map fieldL) ++ [fieldL (lenF body.length)]) := ⟨_, rfl⟩
          have HX1 := Lib.hid hx1
          have HE1 : Hid (BtAt W2 g x1 W11) := Lib.hid (H10.out.put (by
            rw [hx1, joinE_one, ← HX0.out]
            have e : fieldL ([67, 111, 110, 116, 101, 110, 116, 45, 76, 101, 110, 103, 116, 104], Lib.decDigits K) = fieldL (lenF body.length) := by rw [HK.out]; rfl
            rw [← e]; exact hbl) hB)
          clear hbl hB hx1
          have HWC := Lib.hid (wfield_any g x1 [67, 111, 110, 110, 101, 99, 116, 105, 111, 110] [99, 108, 111, 115, 101] (by
            have h1 := join_room (t := []) (show (((stL (u : Int) :: fs.map fieldL) ++ [fieldL (lenF body.length)]) ++ [fieldL clsF]) ++ [] = LS by rw [List.append_nil]; exact HLE.out)
            have h2 := HLL.out.1
            rw [← HX1.out] at h1
            show _ + 10 + 5 ≤ _
            omega) W11 HE1.out.bld)
          go_wp2_with fail
          refine HWC.out.mono ?_
          rintro e W12 ⟨rfl, hbl, hB⟩
          have HE2 : Hid (BtAt W2 g (joinE LS) W12) := Lib.hid (HE1.out.put (by
            have e : ((stL (u : Int) :: fs.map fieldL) ++ [fieldL (lenF body.length)]) ++ [fieldL clsF] = LS := HLE.out
            rw [← e, joinE_one, ← HX1.out]; exact hbl) hB)
          clear hbl hB
          cases head with
          | true =>
            have HWE := Lib.hid (wstr_any g (joinE LS) [13, 10] (by have := HLL.out.1; show _ + 2 ≤ _; omega) W12 HE2.out.bld)
            go_wp2_with fail
            refine HWE.out.mono ?_
            rintro e W13 ⟨rfl, hbl, hB⟩
            have HE3 := Lib.hid (HE2.out.put hbl hB)
            clear hbl hB
            have HST := Lib.hid (bstr_any g _ W13 HE3.out.bld)
            go_wp2_with fail
            refine HST.out.mono ?_
            rintro e W15 ⟨rfl, hB⟩
            have HB15 := Lib.hid ((HS.out _ _ HE3.out).bel.trans (hB.mono HGW.out))
            clear hB
            have HP : Hid (O = some (joinE LS ++ [13, 10])) := Lib.hid (by rw [HOK.out, HBY.out]; simp)
            go_wp2
            go_ret2
            exact ⟨by rw [HP.out]; rfl, HB15.out⟩
          | false =>
            have HWE := Lib.hid (wstr_any g (joinE LS) [13, 10] (by have := HLL.out.1; show _ + 2 ≤ _; omega) W12 HE2.out.bld)
            go_wp2_with fail
            refine HWE.out.mono ?_
            rintro e W13 ⟨rfl, hbl, hB⟩
            have HE3 := Lib.hid (HE2.out.put hbl hB)
            clear hbl hB
            have d3 : W13.cell? ⟨b1, 2, none⟩ = some (S body) := cell_of_row W13 _ 2 _ _ (0, 0) (HS.out _ _ HE3.out).row
            have HWB := Lib.hid (wstr_any g (joinE LS ++ [13, 10]) body (by have h1 := HLL.out.1; have h2 := HLL.out.2; rw [List.length_append]; show _ + 2 + _ ≤ _; omega) W13 HE3.out.bld)
            go_wp2_with fail
            clear d3
            refine HWB.out.mono ?_
            rintro e W14 ⟨rfl, hbl, hB⟩
            have HE4 := Lib.hid (HE3.out.put hbl hB)
            clear hbl hB
            have HST := Lib.hid (bstr_any g _ W14 HE4.out.bld)
            go_wp2_with fail
            refine HST.out.mono ?_
            rintro e W15 ⟨rfl, hB⟩
            have HB15 := Lib.hid ((HS.out _ _ HE4.out).bel.trans (hB.mono HGW.out))
            clear hB
            have HP : Hid (O = some (joinE LS ++ 13 :: 10 :: body)) := Lib.hid (by rw [HOK.out, HBY.out]; simp)
            go_wp2
            go_ret2
            exact ⟨by rw [HP.out]; rfl, HB15.out⟩
        | true =>
          have HWC := Lib.hid (wfield_any g x0 [67, 111, 110, 110, 101, 99, 116, 105, 111, 110] [99, 108, 111, 115, 101] (by
            have h1 := join_room (t := []) (show ((stL (u : Int) :: fs.map fieldL) ++ [fieldL clsF]) ++ [] = LS by rw [List.append_nil]; exact (by have := HLS.out; simpa [oneB] using this))
            have h2 := HLL.out.1
            rw [← HX0.out] at h1
            show _ + 10 + 5 ≤ _
            omega) W' HE.out.bld)
          go_wp2_with fail
          refine HWC.out.mono ?_
          rintro e W12 ⟨rfl, hbl, hB⟩
          have HE2 : Hid (BtAt W2 g (joinE LS) W12) := Lib.hid (HE.out.put (by
            have e : (stL (u : Int) :: fs.map fieldL) ++ [fieldL clsF] = LS := (by have := HLS.out; simpa [oneB] using this)
            rw [← e, joinE_one, ← HX0.out]; exact hbl) hB)
          clear hbl hB
          cases head with
          | true =>
            have HWE := Lib.hid (wstr_any g (joinE LS) [13, 10] (by have := HLL.out.1; show _ + 2 ≤ _; omega) W12 HE2.out.bld)
            go_wp2_with fail
            refine HWE.out.mono ?_
            rintro e W13 ⟨rfl, hbl, hB⟩
            have HE3 := Lib.hid (HE2.out.put hbl hB)
            clear hbl hB
            have HST := Lib.hid (bstr_any g _ W13 HE3.out.bld)
            go_wp2_with fail
            refine HST.out.mono ?_
            rintro e W15 ⟨rfl, hB⟩
            have HB15 := Lib.hid ((HS.out _ _ HE3.out).bel.trans (hB.mono HGW.out))
            clear hB
            have HP : Hid (O = some (joinE LS ++ [13, 10])) := Lib.hid (by rw [HOK.out, HBY.out]; simp)
            go_wp2
            go_ret2
            exact ⟨by rw [HP.out]; rfl, HB15.out⟩
          | false =>
            have HWE := Lib.hid (wstr_any g (joinE LS) [13, 10] (by have := HLL.out.1; show _ + 2 ≤ _; omega) W12 HE2.out.bld)
            go_wp2_with fail
            refine HWE.out.mono ?_
            rintro e W13 ⟨rfl, hbl, hB⟩
            have HE3 := Lib.hid (HE2.out.put hbl hB)
            clear hbl hB
            have d3 : W13.cell? ⟨b1, 2, none⟩ = some (S body) := cell_of_row W13 _ 2 _ _ (0, 0) (HS.out _ _ HE3.out).row
            have HWB := Lib.hid (wstr_any g (joinE LS ++ [13, 10]) body (by have h1 := HLL.out.1; have h2 := HLL.out.2; rw [List.length_append]; show _ + 2 + _ ≤ _; omega) W13 HE3.out.bld)
            go_wp2_with fail
            clear d3
            refine HWB.out.mono ?_
            rintro e W14 ⟨rfl, hbl, hB⟩
            have HE4 := Lib.hid (HE3.out.put hbl hB)
            clear hbl hB
            have HST := Lib.hid (bstr_any g _ W14 HE4.out.bld)
            go_wp2_with fail
            refine HST.out.mono ?_
            rintro e W15 ⟨rfl, hB⟩
            have HB15 := Lib.hid ((HS.out _ _ HE4.out).bel.trans (hB.mono HGW.out))
            clear hB
            have HP : Hid (O = some (joinE LS ++ 13 :: 10 :: body)) := Lib.hid (by rw [HOK.out, HBY.out]; simp)
            go_wp2
            go_ret2
            exact ⟨by rw [HP.out]; rfl, HB15.out⟩
  | false =>
    go_enter Tryd.func8, Tryd.ntmps8
    go_wp2_with fail
    all_goals try rw [← hW1, ← hb1]
    all_goals try go_wp2_with fail
    clear hW1 hb1 c0 c1 c2
    refine HRG.out.mono ?_
    rintro e W2 ⟨rfl, hB⟩
    have H2 := Lib.hid (HM.out.below hB)
    clear hB
    have d0 : W2.cell? ⟨b1, 0, none⟩ = some (.int .i64 (u : Int)) := cell_of_row W2 _ 0 _ _ (0, 0) H2.out.row
    obtain ⟨g, hg⟩ : ∃ g, g = W2.heap.size := ⟨_, rfl⟩
    have HGE : Hid (W2.heap.size ≤ g) := Lib.hid (by omega)
    obtain ⟨W3, hW3⟩ : ∃ W, W = W2.alloc (.cells #[.pointer none, .slice none 0 0] 48) := ⟨_, rfl⟩
    obtain ⟨Wq, hWq⟩ : ∃ Wq, Wq = W3.drew := ⟨_, rfl⟩
    have HQ : Hid (BtAt W2 g [] Wq) := Lib.hid (by
      have h1 : BtAt W2 g [] W3 := ⟨by rw [hg, hW3]; exact (Below.refl _ W2).alloc (Nat.le_refl _) _, by rw [hg, hW3]; exact bld_new W2⟩
      exact h1.keep (by rw [hWq]; exact ⟨rfl, rfl, rfl, Nat.le_refl _, fun _ _ => rfl⟩))
    have HS : Hid (∀ x W, BtAt W2 g x W → RtAt w b1 (u : Int) V body fs b o W) := Lib.hid fun x W h => H2.out.below (by have := h.bel; rwa [hg] at this)
    have hSr : Hid (∀ x W, BtAt W2 g x W → W.cell? ⟨b1, 0, none⟩ = some (.int .i64 (u : Int))) := Lib.hid fun x W h => cell_of_row W _ 0 _ _ (0, 0) (HS.out x W h).row
    have hSQ := hSr.out _ Wq HQ.out
    go_wp2
    all_goals try rw [← hW3, ← hg]
    clear hW3 hg d0
    refine wp_region_noPanic ?_
    refine wp_region_held_drew (S := fun W => W.cell? ⟨b1, 0, none⟩ = some (.int .i64 (u : Int))) (by kernel_rfl) (by rw [← hWq]; exact hSQ) (fun _ => ?_)
    rw [← hWq]
    clear hWq
    refine take_at (i := 0) (d := some 22) (v := .pointer (some ⟨b1, 0, none⟩)) rfl (by kernel_rfl) (by kernel_rfl) (by kernel_rfl) (fun _ _ _ h => h) (fun oi ho => ?_) hSQ ?_
    · obtain rfl := Option.some.inj ho
      exact Or.inl ⟨by rfl, fun wx hSw => by go_simp⟩
    simp only [Act.put, List.setIfInBounds_toArray, List.set_cons_zero, List.set_cons_succ]
    refine take_at (i := 1) (d := some 23) (v := .int .i64 (u : Int)) rfl (by kernel_rfl) (by kernel_rfl) (by kernel_rfl) (fun _ _ _ h => h) (fun oi ho => ?_) hSQ ?_
    · obtain rfl := Option.some.inj ho
      exact Or.inl ⟨by rfl, fun wx hSw => by go_simp⟩
    simp only [Act.put, List.setIfInBounds_toArray, List.set_cons_zero, List.set_cons_succ]
    refine take_at (i := 5) (d := some 27) (v := .pointer (some ⟨b1, 0, none⟩)) rfl (by kernel_rfl) (by kernel_rfl) (by kernel_rfl) (fun _ _ _ h => h) (fun oi ho => ?_) hSQ ?_
    · obtain rfl := Option.some.inj ho
      exact Or.inl ⟨by rfl, fun wx hSw => by go_simp⟩
    simp only [Act.put, List.setIfInBounds_toArray, List.set_cons_zero, List.set_cons_succ]
    refine take_at (i := 6) (d := some 28) (v := .int .i64 (u : Int)) rfl (by kernel_rfl) (by kernel_rfl) (by kernel_rfl) (fun _ _ _ h => h) (fun oi ho => ?_) hSQ ?_
    · obtain rfl := Option.some.inj ho
      exact Or.inl ⟨by rfl, fun wx hSw => by go_simp⟩
    simp only [Act.put, List.setIfInBounds_toArray, List.set_cons_zero, List.set_cons_succ]
    refine ready_call (i := 2) (d := some 24) (f := 18) (args := #[.int .i64 (u : Int)]) rfl (by kernel_rfl) (fun oi ho => ?_) ?_
    · obtain rfl := Option.some.inj ho
      exact ⟨by rfl, by go_simp⟩
    refine (HIT.out Wq (HT.out Wq (HS.out _ _ HQ.out).bel)).mono ?_
    rintro e W4 ⟨rfl, hB⟩
    have H4 := Lib.hid (HQ.out.keep hB)
    have hS4 := hSr.out _ W4 H4.out
    clear hB hSQ
    refine ⟨_, rfl, hS4, ?_⟩
    simp only [Act.put, List.setIfInBounds_toArray, List.set_cons_zero, List.set_cons_succ]
    refine take_at (i := 3) (d := some 25) (v := S Z1) rfl (by kernel_rfl) (by kernel_rfl) (by kernel_rfl) (fun _ _ _ h => h) (fun oi ho => ?_) hS4 ?_
    · obtain rfl := Option.some.inj ho
      exact Or.inl ⟨by rfl, fun wx hSw => by go_simp⟩
    simp only [Act.put, List.setIfInBounds_toArray, List.set_cons_zero, List.set_cons_succ]
    refine take_at (i := 4) (d := some 26) (v := S Z2) rfl (by kernel_rfl) (by kernel_rfl) (by kernel_rfl) (fun _ _ _ h => h) (fun oi ho => ?_) hS4 ?_
    · obtain rfl := Option.some.inj ho
      exact Or.inl ⟨by rfl, fun wx hSw => by go_simp⟩
    simp only [Act.put, List.setIfInBounds_toArray, List.set_cons_zero, List.set_cons_succ]
    refine ready_call (i := 7) (d := some 29) (f := 12) (args := #[.int .i64 (u : Int)]) rfl (by kernel_rfl) (fun oi ho => ?_) ?_
    · obtain rfl := Option.some.inj ho
      exact ⟨by rfl, by go_simp⟩
    refine (HRS.out W4).mono ?_
    rintro e W5 ⟨rfl, h5⟩
    subst h5
    refine ⟨_, rfl, hS4, ?_⟩
    simp only [Act.put, List.setIfInBounds_toArray, List.set_cons_zero, List.set_cons_succ]
    refine take_at (i := 8) (d := some 30) (v := S Z3) rfl (by kernel_rfl) (by kernel_rfl) (by kernel_rfl) (fun _ _ _ h => h) (fun oi ho => ?_) hS4 ?_
    · obtain rfl := Option.some.inj ho
      exact Or.inl ⟨by rfl, fun wx hSw => by go_simp⟩
    simp only [Act.put, List.setIfInBounds_toArray, List.set_cons_zero, List.set_cons_succ]
    refine take_at (i := 9) (d := some 31) (v := S Z4) rfl (by kernel_rfl) (by kernel_rfl) (by kernel_rfl) (fun _ _ _ h => h) (fun oi ho => ?_) hS4 ?_
    · obtain rfl := Option.some.inj ho
      exact Or.inl ⟨by rfl, fun wx hSw => by go_simp⟩
    simp only [Act.put, List.setIfInBounds_toArray, List.set_cons_zero, List.set_cons_succ]
    refine ready_call (i := 10) (d := some 32) (f := 17) (args := #[.pointer (some ⟨g, 0, none⟩), S Z4]) rfl (by kernel_rfl) (fun oi ho => ?_) ?_
    · obtain rfl := Option.some.inj ho
      exact ⟨by rfl, by go_simp⟩
    refine (wstr_any g [] Z4 (by have := HZ.out.2; simp; omega) W5 H4.out.bld).mono ?_
    rintro e W6 ⟨rfl, hbl, hB⟩
    have H6 := Lib.hid (H4.out.put hbl hB)
    have hS6 := hSr.out _ W6 H6.out
    clear hbl hB hS4
    refine ⟨_, rfl, hS6, ?_⟩
    simp only [Act.put, List.setIfInBounds_toArray, List.set_cons_zero, List.set_cons_succ]
    refine wpAnyH_done (by kernel_rfl) ?_ _
    refine NoPanic.normal ?_
    clear hS6
    rw [List.nil_append] at H6
    have d1 : W6.cell? ⟨b1, 1, none⟩ = some V := cell_of_row W6 _ 1 _ _ (0, 0) (HS.out _ _ H6.out).row
    go_wp2_with fail
    clear d1
    go_loopw [36] (fun iv wr => ∃ i : Nat, i ≤ N ∧ iv = .int .i64 (i : Int) ∧ Hid (BtAt W2 g (joinE (stL (u : Int) :: (fs.take i).map fieldL)) wr)) (fun iv _ => N - (intOf iv).toNat)
    case atStart => exact ⟨0, Nat.zero_le _, rfl, Lib.hid (by rw [← HZ.out.1]; exact H6.out)⟩
    case round =>
      obtain ⟨i, hi, rfl, HR⟩ := hrel
      by_cases hlt : i < N
      case pos =>
        have g3 : decide ((i : Int) < (N : Int)) = true := decide_eq_true (by omega)
        obtain ⟨⟨n, v⟩, hf⟩ : ∃ f, fs[i]? = some f := ⟨fs[i]'(by have := HN.out; omega), List.getElem?_eq_getElem _⟩
        have hfa := (HS.out _ _ HR.out).fa
        have hix := hfa.index i (by have := HN.out; omega)
        have hcl := hfa.cell i _ hf
        have hwi : IntKind.i64.wrap ((i : Int) + 1) = (i : Int) + 1 := by rw [IntKind.wrap_i64]; omega
        obtain ⟨kk, hkk⟩ : ∃ kk, kk = o + i * 2 := ⟨_, rfl⟩
        rw [← hkk] at hix hcl
        have k0 : wr.cell? ⟨b, kk, none⟩ = some (S n) := hcl.1
        have k1 : wr.cell? ⟨b, kk + 1, none⟩ = some (S v) := hcl.2
        have HJ : Hid (joinE (stL (u : Int) :: (fs.take (i + 1)).map fieldL) = joinE (stL (u : Int) :: (fs.take i).map fieldL) ++ (fieldL (n, v) ++ [13, 10]) ∧ (joinE (stL (u : Int) :: (fs.take i).map fieldL)).length + n.length + v.length ≤ 900000) := Lib.hid (by
          refine ⟨by rw [take_lines hf, joinE_one], ?_⟩
          have h1 := join_room (LS := LS) (show ((stL (u : Int) :: (fs.take i).map fieldL) ++ [fieldL (n, v)]) ++ ((fs.drop (i + 1)).map fieldL ++ (oneB (!nb) (fieldL (lenF body.length)) ++ oneB false (fieldL clsF))) = LS by
            rw [← List.append_assoc, rest_lines hf, ← List.append_assoc]; exact HLS.out)
          have h2 := HLL.out.1
          have h3 : (fieldL (n, v)).length = n.length + v.length + 2 := by unfold fieldL; rw [List.length_append, List.length_cons, List.length_cons]; dsimp only; omega
          omega)
        obtain ⟨W8, hW8⟩ : ∃ W, W = wr.alloc (.cells #[S n, S v] 26) := ⟨_, rfl⟩
        obtain ⟨b8, hb8⟩ : ∃ b, b = wr.heap.size := ⟨_, rfl⟩
        have hr8 : Row W8 b8 #[S n, S v] 26 := by rw [hW8, hb8]; exact row_new _ _ _
        have H8 : Hid (BtAt W2 g (joinE (stL (u : Int) :: (fs.take i).map fieldL)) W8) := Lib.hid (HR.out.keep (by rw [hW8]; exact (Below.refl _ wr).alloc (Nat.le_refl _) _))
        have e0 : W8.cell? ⟨b8, 0, none⟩ = some (S n) := cell_of_row _ _ 0 _ _ (0, 0) hr8
        have e1 : W8.cell? ⟨b8, 1, none⟩ = some (S v) := cell_of_row _ _ 1 _ _ (0, 0) hr8
        have HWF := Lib.hid (wfield_any g _ n v HJ.out.2 W8 H8.out.bld)
        clear hfa hcl hf hkk hr8
        go_wp2_with fail
        all_goals try rw [← hW8, ← hb8]
        all_goals try go_wp2_with fail
        clear hW8 hb8 k0 k1 e0 e1
        refine HWF.out.mono ?_
        rintro e W9 ⟨rfl, hbl, hB⟩
        have H9 : Hid (BtAt W2 g (joinE (stL (u : Int) :: (fs.take (i + 1)).map fieldL)) W9) := Lib.hid (H8.out.put (by rw [HJ.out.1]; exact hbl) hB)
        clear hbl hB
        go_wp2
        exact ⟨⟨i + 1, by omega, by go_num, H9⟩, by simp [intOf]; omega⟩
      case neg =>
        obtain rfl : i = N := by omega
        have g3 : decide ((i : Int) < (i : Int)) = false := decide_eq_false (by omega)
        obtain ⟨x0, hx0⟩ : ∃ x, x = joinE (stL (u : Int) :: fs.map fieldL) := ⟨_, rfl⟩
        have HX0 := Lib.hid hx0
        have HE : Hid (BtAt W2 g x0 wr) := Lib.hid (by have h := HR.out; rw [HN.out, List.take_length, ← hx0] at h; exact h)
        clear hx0 HR
        have d0 := hSr.out _ wr HE.out
        go_wp2_with fail
        clear d0
        refine (HBR.out _).mono ?_
        rintro e W' ⟨rfl, h5⟩
        subst h5
        have HGW : Hid (w.heap.size ≤ g) := Lib.hid (by
          have h1 := H2.out.bel.size
          have h2 := HGE.out
          omega)
        cases nb with
        | false =>
          have d2 : W'.cell? ⟨b1, 2, none⟩ = some (S body) := cell_of_row W' _ 2 _ _ (0, 0) (HS.out _ _ HE.out).row
          have hlB := run_len_S (P := Tryd.prog) Tryd.underlying9 3 body
          obtain ⟨K, hK⟩ : ∃ K, K = body.length := ⟨_, rfl⟩
          rw [← hK] at hlB
          have HK := Lib.hid hK
          have HIK := Lib.hid fun W hP => outI.itoa (K : Int) W (by omega) (by have := HLL.out.2; omega) hP
          rw [itoa_nat] at HIK
          clear hK
          go_wp2_with fail
          clear d2
          refine (HIK.out _ (HT.out _ (HS.out _ _ HE.out).bel)).mono ?_
          rintro e W10 ⟨rfl, hB⟩
          have H10 := Lib.hid (HE.out.keep hB)
          clear hB
          have HLE : Hid ((stL (u : Int) :: fs.map fieldL) ++ [fieldL (lenF body.length)] ++ oneB false (fieldL clsF) = LS) := Lib.hid HLS.out
          have HWF := Lib.hid (wfield_any g x0 [67, 111, 110, 116, 101, 110, 116, 45, 76, 101, 110, 103, 116, 104] (Lib.decDigits K) (by
            have h1 := join_room HLE.out
            have h2 := HLL.out.1
            have h3 : (fieldL (lenF body.length)).length = (Lib.decDigits body.length).length + 16 := by
              have e : fieldL (lenF body.length) = [67, 111, 110, 116, 101, 110, 116, 45, 76, 101, 110, 103, 116, 104, 58, 32] ++ Lib.decDigits body.length := rfl
              rw [e, List.length_append]
              show 16 + _ = _
              omega
            rw [← HX0.out] at h1
            rw [← HK.out] at h3
            show _ + 14 + _ ≤ _
            rw [HK.out]
            rw [HK.out] at h3
            omega) W10 H10.out.bld)
          go_wp2_with fail
          refine HWF.out.mono ?_
          rintro e W11 ⟨rfl, hbl, hB⟩
          obtain ⟨x1, hx1⟩ : ∃ x, x = joinE ((stL (u : Int) :: fs.map fieldL) ++ [fieldL (lenF body.length)]) := ⟨_, rfl⟩
          have HX1 := Lib.hid hx1
          have HE1 : Hid (BtAt W2 g x1 W11) := Lib.hid (H10.out.put (by
            rw [hx1, joinE_one, ← HX0.out]
            have e : fieldL ([67, 111, 110, 116, 101, 110, 116, 45, 76, 101, 110, 103, 116, 104], Lib.decDigits K) = fieldL (lenF body.length) := by rw [HK.out]; rfl
            rw [← e]; exact hbl) hB)
          clear hbl hB hx1
          have HE2 : Hid (BtAt W2 g (joinE LS) W11) := Lib.hid (by
            have e : ((stL (u : Int) :: fs.map fieldL) ++ [fieldL (lenF body.length)]) = LS := by have := HLE.out; simpa [oneB] using this
            rw [← e, ← HX1.out]; exact HE1.out)
          cases head with
          | true =>
            have HWE := Lib.hid (wstr_any g (joinE LS) [13, 10] (by have := HLL.out.1; show _ + 2 ≤ _; omega) W11 HE2.out.bld)
            go_wp2_with fail
            refine HWE.out.mono ?_
            rintro e W13 ⟨rfl, hbl, hB⟩
            have HE3 := Lib.hid (HE2.out.put hbl hB)
            clear hbl hB
            have HST := Lib.hid (bstr_any g _ W13 HE3.out.bld)
            go_wp2_with fail
            refine HST.out.mono ?_
            rintro e W15 ⟨rfl, hB⟩
            have HB15 := Lib.hid ((HS.out _ _ HE3.out).bel.trans (hB.mono HGW.out))
            clear hB
            have HP : Hid (O = some (joinE LS ++ [13, 10])) := Lib.hid (by rw [HOK.out, HBY.out]; simp)
            go_wp2
            go_ret2
            exact ⟨by rw [HP.out]; rfl, HB15.out⟩
          | false =>
            have HWE := Lib.hid (wstr_any g (joinE LS) [13, 10] (by have := HLL.out.1; show _ + 2 ≤ _; omega) W11 HE2.out.bld)
            go_wp2_with fail
            refine HWE.out.mono ?_
            rintro e W13 ⟨rfl, hbl, hB⟩
            have HE3 := Lib.hid (HE2.out.put hbl hB)
            clear hbl hB
            have d3 : W13.cell? ⟨b1, 2, none⟩ = some (S body) := cell_of_row W13 _ 2 _ _ (0, 0) (HS.out _ _ HE3.out).row
            have HWB := Lib.hid (wstr_any g (joinE LS ++ [13, 10]) body (by have h1 := HLL.out.1; have h2 := HLL.out.2; rw [List.length_append]; show _ + 2 + _ ≤ _; omega) W13 HE3.out.bld)
            go_wp2_with fail
            clear d3
            refine HWB.out.mono ?_
            rintro e W14 ⟨rfl, hbl, hB⟩
            have HE4 := Lib.hid (HE3.out.put hbl hB)
            clear hbl hB
            have HST := Lib.hid (bstr_any g _ W14 HE4.out.bld)
            go_wp2_with fail
            refine HST.out.mono ?_
            rintro e W15 ⟨rfl, hB⟩
            have HB15 := Lib.hid ((HS.out _ _ HE4.out).bel.trans (hB.mono HGW.out))
            clear hB
            have HP : Hid (O = some (joinE LS ++ 13 :: 10 :: body)) := Lib.hid (by rw [HOK.out, HBY.out]; simp)
            go_wp2
            go_ret2
            exact ⟨by rw [HP.out]; rfl, HB15.out⟩
        | true =>
          have HE2 : Hid (BtAt W2 g (joinE LS) W') := Lib.hid (by
            have e : (stL (u : Int) :: fs.map fieldL) = LS := by have := HLS.out; simpa [oneB] using this
            rw [← e, ← HX0.out]; exact HE.out)
          cases head with
          | true =>
            have HWE := Lib.hid (wstr_any g (joinE LS) [13, 10] (by have := HLL.out.1; show _ + 2 ≤ _; omega) W' HE2.out.bld)
            go_wp2_with fail
            refine HWE.out.mono ?_
            rintro e W13 ⟨rfl, hbl, hB⟩
            have HE3 := Lib.hid (HE2.out.put hbl hB)
            clear hbl hB
            have HST := Lib.hid (bstr_any g _ W13 HE3.out.bld)
            go_wp2_with fail
            refine HST.out.mono ?_
            rintro e W15 ⟨rfl, hB⟩
            have HB15 := Lib.hid ((HS.out _ _ HE3.out).bel.trans (hB.mono HGW.out))
            clear hB
            have HP : Hid (O = some (joinE LS ++ [13, 10])) := Lib.hid (by rw [HOK.out, HBY.out]; simp)
            go_wp2
            go_ret2
            exact ⟨by rw [HP.out]; rfl, HB15.out⟩
          | false =>
            have HWE := Lib.hid (wstr_any g (joinE LS) [13, 10] (by have := HLL.out.1; show _ + 2 ≤ _; omega) W' HE2.out.bld)
            go_wp2_with fail
            refine HWE.out.mono ?_
            rintro e W13 ⟨rfl, hbl, hB⟩
            have HE3 := Lib.hid (HE2.out.put hbl hB)
            clear hbl hB
            have d3 : W13.cell? ⟨b1, 2, none⟩ = some (S body) := cell_of_row W13 _ 2 _ _ (0, 0) (HS.out _ _ HE3.out).row
            have HWB := Lib.hid (wstr_any g (joinE LS ++ [13, 10]) body (by have h1 := HLL.out.1; have h2 := HLL.out.2; rw [List.length_append]; show _ + 2 + _ ≤ _; omega) W13 HE3.out.bld)
            go_wp2_with fail
            clear d3
            refine HWB.out.mono ?_
            rintro e W14 ⟨rfl, hbl, hB⟩
            have HE4 := Lib.hid (HE3.out.put hbl hB)
            clear hbl hB
            have HST := Lib.hid (bstr_any g _ W14 HE4.out.bld)
            go_wp2_with fail
            refine HST.out.mono ?_
            rintro e W15 ⟨rfl, hB⟩
            have HB15 := Lib.hid ((HS.out _ _ HE4.out).bel.trans (hB.mono HGW.out))
            clear hB
            have HP : Hid (O = some (joinE LS ++ 13 :: 10 :: body)) := Lib.hid (by rw [HOK.out, HBY.out]; simp)
            go_wp2
            go_ret2
            exact ⟨by rw [HP.out]; rfl, HB15.out⟩
end Go.Proofs.YtfdbmbgpcioogaaDoor
/- The landed package does what is asked of it. -/
namespace Go.Proofs.YtfdbmbgpcioogaaDoor
open Go.RowKit

theorem replyI {w : World} (h : w.ShapedOpen Tryd.prog) (hT : PowAt w) : ReplyI w where
  reason := fun c w' _ => (reason_any c w').mono (by rintro e W ⟨h, rfl⟩; exact ⟨h, Below.refl _ _⟩)
  right := fun c fs body V b o w' _ hA hl => right_any c fs body V b o w' hA hl
  bytes := fun c fs body head close V b o w' hb hA hl => bytes10l_any c fs body head close V b o w' hA hl (outI.keep w w' hT hb)
  read := fun s head w' hb hs => read10l_any s head hs w' ((max_of h).below hb)
/-- What a row says of the numerals' table. -/
theorem pow_of {l : List (String × DataW Unit)} (hm : ("internal/strconv.uint64pow10", Rows.laid_internal_strconv_uint64pow10) ∈ l) {W : World} (h : laidMet Tryd.prog l W) : PowAt W := by
  obtain ⟨g', t', cs, fuel, p, hg', ht', hvar, hd⟩ := Lib.laidMet.reads h (n := "internal/strconv.uint64pow10") (d := Rows.laid_internal_strconv_uint64pow10) hm
  obtain rfl := Option.some.inj (hg'.symm.trans (show Tryd.prog.globalNamed "internal/strconv.uint64pow10" = some 1 by kernel_rfl))
  obtain rfl := Option.some.inj ((show (Tryd.prog.globals[1]?).map (·.type) = some 125 by kernel_rfl).symm.trans ht')
  unfold PowAt Lib.TabIs
  have hc := Lib.cells_of_tab (k := .u64) (n := 20) (zs := Lib.pow10Tab) Tryd.underlying125 Tryd.underlying87 (by kernel_rfl) (by kernel_rfl) (show DataW.trod _ Tryd.prog W 0 _ false fuel 125 cs.toList = some (Lib.tabData .u64 Lib.pow10Tab, p) from hd)
  rw [hvar, ← hc]
end Go.Proofs.YtfdbmbgpcioogaaDoor
/- Two facts of the program. -/
namespace Go.Proofs.YtfdbmbgpcioogaaDoor
open Go.ChangeShapes Go.WideShapes Go.ChangeAt Go.RowKit
theorem Tryd.own : ownKnob Tryd.prog.godebug = none := by kernel_rfl
theorem Tryd.laidOut : laidOutB Tryd.prog = true := by kernel_rfl
end Go.Proofs.YtfdbmbgpcioogaaDoor
/- A lifted proof that is handed both: what is listed lies as it was laid, and the first world's shape. -/
namespace Go.Proofs.YtfdbmbgpcioogaaDoor
open Go
variable {H : Type} {enc : TypeId × Value → H}
theorem returns_both {a : Assume} {C : Checked} {os : Os} {f : FuncId} {fn : Func} {s : ChangeSpec} {conds : List PathCond} {apart fresh handsOn again : Bool} {X : World → Array Value → Prop}
    (hX : ∀ (w w' : World) (args : Array Value), w.heap = w'.heap → X w args → X w' args)
    (own : ownKnob C.prog.godebug = none) (started : os.Started) (noInit : C.prog.inits.idxOf? f = none) (hfn : C.prog.funcs[f]? = some fn)
    (witness : ∃ (w : World) (tape : Tape) (i : Input), w.os = os ∧ (w.forCall tape i).Shaped C.prog ∧ i.vars = [] ∧ Input.okWide C.prog (w.forCall tape i) .any w.heap.size f i ∧
      ((s.pre enc C.prog fn conds apart (w.forCall tape i).memory i.args ∧ X (w.forCall tape i).memory i.args) ∧ sizedMet enc C.prog fn (OpenSpec.ofChange s) apart (w.forCall tape i).memory i.args) ∧ a.holds C.prog (lone (Frame.enter C.prog f i.args .normal) [] (w.forCall tape i)))
    (contract : ∀ (W : World) (base : Nat) (args : Array Value) (ds gs : List (DataW H)) (before : List MemPlace),
      (∀ (j : Nat) t v, fn.params[j]? = some t → args[j]? = some v → Value.okWide C.prog W .any base t v) →
      DataW.Whole enc C.prog fn.params.toList s.vars apart W args.toList ds gs before →
      conds.all (PathCond.test C.prog ⟨fn.params.toList, ds, s.plain.varTypes C.prog, gs⟩) = true →
      (DataW.weightsEach C.prog (fn.params.toList ++ s.plain.varTypes C.prog) (ds ++ gs)).all (· ≤ reachBytes) = true → X W args →
      W.ShapedOpen C.prog →
      a.holds C.prog (lone (Frame.enter C.prog f args .normal) [] W) →
      Calls C.prog f args W fun e W' => ∃ v, e = .returned v ∧ s.post enc C.prog fn apart fresh handsOn again W args v W') :
    ReturnsInHanded a C os f .any (fun w args => (s.pre enc C.prog fn conds apart w args ∧ X w args) ∧ sizedMet enc C.prog fn (OpenSpec.ofChange s) apart w args) (s.post enc C.prog fn apart fresh handsOn again) := by
  refine returnsInHanded_of_calls own started noInit witness ?_
  intro w tape i _ hsh _ hok hpre hholds
  obtain ⟨_, _, _, fn', hfn', _, _, _, _, hval⟩ := hok
  have e : fn' = fn := Option.some.inj (hfn'.symm.trans hfn)
  subst e
  obtain ⟨⟨⟨ds, gs, before, hw, hc⟩, hx⟩, hz⟩ := hpre
  have hw' := DataW.Whole.of_heap (w' := w.forCall tape i) (by rfl) hw
  refine (contract (w.forCall tape i) w.heap.size i.args ds gs before hval hw' hc (hz.weights hw) (hX _ _ _ (by rfl) hx) hsh hholds).mono fun e W' ⟨v, he, hp⟩ => ?_
  subst he
  exact ChangeSpec.post_blind hp
end Go.Proofs.YtfdbmbgpcioogaaDoor
