/- Texts of this proof that several statements share, one behind the other. -/
import Derived.Test.YtfdbmbgpcioogaaGreatDoorJb
import Derived.Lib.ItoaNum
import Derived.Test.YtfdbmbgpcioogaaGreatDoorProg
import Derived.Shelf.RegionOpenPlain
import Derived.Test.YtfdbmbgpcioogaaGreatDoorShelf
import Derived.Shelf.Small.Strs
import Derived.Test.YtfdbmbgpcioogaaGreatDoorJa
import Derived.Shelf.Strings.SlTrimAscii
import Derived.ProofKit
import Derived.Handed
import Derived.OpenShut
import Derived.SliceStrings
/- A request's bytes: lines laid end to end, and what is parsed of them. -/
namespace Go.Proofs.YtfdbmbgpcioogaaGreatDoor
open Go.RowKit

/-- Lines, each with its end. -/
def joinE : List (List UInt8) → List UInt8
  | [] => []
  | l :: r => l ++ 13 :: 10 :: joinE r
/-- Lines with ends between them. -/
def joinL : List UInt8 → List (List UInt8) → List UInt8
  | l, [] => l
  | l, k :: r => l ++ 13 :: 10 :: joinL k r
theorem ln_cut (cur r : List UInt8) : lnsF cur (13 :: 10 :: r) = cur :: lnsF [] r := by rw [lnsF, if_pos ⟨rfl, rfl⟩]
theorem ln_on {cur r : List UInt8} {c d : UInt8} (h : c ≠ 13) : lnsF cur (c :: d :: r) = lnsF (cur ++ [c]) (d :: r) := by rw [lnsF, if_neg (fun e => h e.1)]
theorem lns_one : ∀ (l cur : List UInt8), 13 ∉ l → lnsF cur l = [cur ++ l]
  | [], cur, _ => by rw [lnsF, List.append_nil]
  | [c], cur, _ => by rw [lnsF]
  | c :: d :: r, cur, h => by
    rw [ln_on (fun e => h (by rw [e]; exact List.mem_cons_self)), lns_one (d :: r) _ (fun e => h (List.mem_cons_of_mem _ e)), List.append_assoc]; rfl
theorem lns_more (t : List UInt8) : ∀ (l cur : List UInt8), 13 ∉ l → lnsF cur (l ++ 13 :: 10 :: t) = (cur ++ l) :: lnsF [] t
  | [], cur, _ => by rw [List.nil_append, ln_cut, List.append_nil]
  | [c], cur, h => by
    have hc : c ≠ 13 := fun e => h (by rw [e]; exact List.mem_cons_self)
    show lnsF cur (c :: 13 :: 10 :: t) = _
    rw [ln_on hc, ln_cut]
  | c :: d :: r, cur, h => by
    have hc : c ≠ 13 := fun e => h (by rw [e]; exact List.mem_cons_self)
    show lnsF cur (c :: d :: (r ++ 13 :: 10 :: t)) = _
    rw [ln_on hc]
    have := lns_more t (d :: r) (cur ++ [c]) (fun e => h (List.mem_cons_of_mem _ e))
    rw [show d :: (r ++ 13 :: 10 :: t) = (d :: r) ++ 13 :: 10 :: t from rfl, this, List.append_assoc]; rfl
theorem lns_join : ∀ (ls : List (List UInt8)) (l : List UInt8), 13 ∉ l → (∀ k ∈ ls, 13 ∉ k) → lnsF [] (joinL l ls) = l :: ls
  | [], l, h, _ => by rw [joinL, lns_one l [] h, List.nil_append]
  | k :: ls, l, h, hk => by
    rw [joinL, lns_more _ l [] h, List.nil_append, lns_join ls k (hk k List.mem_cons_self) (fun j hj => hk j (List.mem_cons_of_mem _ hj))]
theorem end_skip (t : List UInt8) : ∀ l : List UInt8, 13 ∉ l → endF (l ++ t) = (endF t).map (· + l.length)
  | [], _ => by rw [List.nil_append]; cases endF t <;> rfl
  | c :: l, h => by
    have hc : c ≠ 13 := fun e => h (by rw [e]; exact List.mem_cons_self)
    have ih := end_skip t l (fun e => h (List.mem_cons_of_mem _ e))
    rw [List.cons_append, endF, if_neg, ih]
    · cases endF t with
      | none => rfl
      | some n => exact congrArg some (by simp only [List.length_cons]; omega)
    · intro e
      rw [List.take_succ_cons] at e
      injection e with e1 _
      exact hc e1
theorem end_next {c : UInt8} (r : List UInt8) (hc : c ≠ 13) : endF (13 :: 10 :: c :: r) = (endF (c :: r)).map (· + 2) := by
  rw [endF, if_neg, endF, if_neg]
  · cases endF (c :: r) <;> rfl
  · intro e
    rw [List.take_succ_cons] at e
    injection e with e1 _
    exact absurd e1 (by decide)
  · intro e
    rw [List.take_succ_cons, List.take_succ_cons, List.take_succ_cons] at e
    injection e with _ e1
    injection e1 with _ e2
    injection e2 with e3 _
    exact hc e3
theorem end_stop (x : List UInt8) : endF (13 :: 10 :: 13 :: 10 :: x) = some 4 := by rw [endF, if_pos (show List.take 4 (13 :: 10 :: 13 :: 10 :: x) = [13, 10, 13, 10] from rfl)]
theorem end_join (x : List UInt8) : ∀ (ls : List (List UInt8)) (l : List UInt8), 13 ∉ l → (∀ k ∈ ls, 13 ∉ k ∧ k ≠ []) → endF (joinL l ls ++ 13 :: 10 :: 13 :: 10 :: x) = some ((joinL l ls).length + 4)
  | [], l, h, _ => by
    rw [joinL, end_skip _ l h, end_stop]
    simp only [Option.map_some]; congr 1; omega
  | k :: ls, l, h, hk => by
    obtain ⟨h1, h2⟩ := hk k List.mem_cons_self
    have ih := end_join x ls k h1 (fun j hj => hk j (List.mem_cons_of_mem _ hj))
    cases k with
    | nil => exact absurd rfl h2
    | cons c k =>
      have hc : c ≠ 13 := fun e => h1 (by rw [e]; exact List.mem_cons_self)
      obtain ⟨r, hr⟩ : ∃ r, joinL (c :: k) ls = c :: r := by
        cases ls with
        | nil => exact ⟨k, rfl⟩
        | cons a b => exact ⟨k ++ 13 :: 10 :: joinL a b, rfl⟩
      rw [hr] at ih
      rw [joinL, hr, List.append_assoc, end_skip _ l h]
      show (endF (13 :: 10 :: c :: (r ++ 13 :: 10 :: 13 :: 10 :: x))).map (· + l.length) = _
      rw [end_next _ hc]
      have e : endF (c :: (r ++ 13 :: 10 :: 13 :: 10 :: x)) = some ((c :: r).length + 4) := ih
      rw [e]
      simp only [Option.map_some, List.length_append, List.length_cons]
      congr 1; omega

/-! Numerals. -/
theorem numGo_append (b : List UInt8) : ∀ (a : List UInt8) (n : Nat), numGo n (a ++ b) = (numGo n a).bind fun m => numGo m b
  | [], n => rfl
  | c :: a, n => by
    rw [List.cons_append, numGo, numGo]
    split
    · exact numGo_append b a _
    · rfl
theorem num_dec (u : Nat) : u ≤ 5000 → numGo 0 (Lib.decDigits u) = some u := by
  induction u using Nat.strongRecOn with
  | _ u ih =>
    intro hu
    have dig : ∀ d, d < 10 → (UInt8.ofNat (48 + d)).toNat = 48 + d := fun d hd => by rw [UInt8.toNat_ofNat']; exact Nat.mod_eq_of_lt (by omega)
    rw [Lib.decDigits]
    split
    · rename_i h
      rw [numGo, dig u h, if_pos (by omega), numGo]
      congr 1; omega
    · rename_i h
      rw [numGo_append, ih (u / 10) (by omega) (by omega)]
      show numGo (u / 10) [UInt8.ofNat (48 + u % 10)] = some u
      rw [numGo, dig (u % 10) (by omega), if_pos (by omega), numGo]
      congr 1; omega
theorem dec_digits (u : Nat) : ∀ c ∈ Lib.decDigits u, 48 ≤ c.toNat ∧ c.toNat ≤ 57 := by
  induction u using Nat.strongRecOn with
  | _ u ih =>
    have dig : ∀ d, d < 10 → (UInt8.ofNat (48 + d)).toNat = 48 + d := fun d hd => by rw [UInt8.toNat_ofNat']; exact Nat.mod_eq_of_lt (by omega)
    intro c hc
    rw [Lib.decDigits] at hc
    split at hc
    · rename_i h
      obtain rfl := List.mem_singleton.1 hc
      rw [dig u h]; omega
    · rename_i h
      rcases List.mem_append.1 hc with hc | hc
      · exact ih (u / 10) (by omega) c hc
      · obtain rfl := List.mem_singleton.1 hc
        rw [dig (u % 10) (by omega)]; omega
theorem dec_ne (u : Nat) : Lib.decDigits u ≠ [] := by
  rw [Lib.decDigits]
  split
  · simp
  · simp
theorem dec_len : ∀ (k u : Nat), u < 10 ^ k → (Lib.decDigits u).length ≤ max k 1
  | 0, u, h => by
    rw [Lib.decDigits, dif_pos (by simpa using Nat.lt_of_lt_of_le h (by decide))]; simp
  | k + 1, u, h => by
    rw [Lib.decDigits]
    split
    · rw [List.length_singleton]; omega
    · rename_i h10
      have := dec_len k (u / 10) (by rw [Nat.pow_succ] at h; omega)
      have hk : 1 ≤ k := by
        rcases Nat.eq_zero_or_pos k with h0 | h0
        · subst h0; rw [Nat.zero_add, Nat.pow_one] at h; omega
        · exact h0
      simp only [List.length_append, List.length_singleton]; omega
theorem itoa_nat (k : Nat) : Lib.itoa (k : Int) = Lib.decDigits k := by
  unfold Lib.itoa
  rw [if_neg (by omega)]; rfl
theorem digit_ok {c : UInt8} (h : 48 ≤ c.toNat ∧ c.toNat ≤ 57) : badB c = false ∧ blankB c = false := by
  constructor
  · unfold badB; rw [Bool.and_eq_false_iff]; right; rw [Bool.or_eq_false_iff]; exact ⟨decide_eq_false (by omega), by rw [beq_eq_false_iff_ne]; omega⟩
  · unfold blankB; rw [Bool.or_eq_false_iff]; exact ⟨by rw [beq_eq_false_iff_ne]; omega, by rw [beq_eq_false_iff_ne]; omega⟩
theorem dec_clean (u : Nat) : Clean (Lib.decDigits u) ∧ (Lib.decDigits u).any badB = false := by
  have h := dec_digits u
  refine ⟨⟨fun c r e => (digit_ok (h c (by rw [e]; exact List.mem_cons_self))).2, fun r c e => (digit_ok (h c (by rw [e]; simp))).2⟩, ?_⟩
  rw [List.any_eq_false]
  intro c hc
  rw [(digit_ok (h c hc)).1]; simp

/-! A request that may be. -/
/-- A field as a line. -/
def fieldL (f : List UInt8 × List UInt8) : List UInt8 := f.1 ++ 58 :: 32 :: f.2
def tgtL (p q : List UInt8) : List UInt8 := if q = [] then p else (p ++ [63]) ++ q
def hereF : List UInt8 × List UInt8 := ([72, 111, 115, 116], [104, 101, 114, 101])
def lenF (k : Nat) : List UInt8 × List UInt8 := ([67, 111, 110, 116, 101, 110, 116, 45, 76, 101, 110, 103, 116, 104], Lib.decDigits k)
/-- A field that says nothing of a request. -/
structure Plain (f : List UInt8 × List UInt8) : Prop where
  parse : parseF (f.1 ++ 58 :: f.2) = (f.1, f.2, true)
  host : alikeF f.1 hostL = false
  clen : alikeF f.1 clL = false
  te : alikeF f.1 teL = false
  co : alikeF f.1 coL = false
theorem tok_cr {n : List UInt8} (h : tokF n = true) : 13 ∉ n ∧ n ≠ [] := by
  unfold tokF at h
  rw [Bool.and_eq_true, List.all_eq_true, decide_eq_true_eq] at h
  exact ⟨fun e => absurd (h.1 13 e) (by decide), fun e => by rw [e] at h; simp at h⟩
theorem bad_cr {v : List UInt8} (h : v.any badB = false) : 13 ∉ v := fun e => by
  rw [List.any_eq_false] at h
  exact h 13 e (by decide)
theorem field_line {n v : List UInt8} (h : tokF n = true) (hv : v.any badB = false) (hc : Clean v) : parseF (fieldL (n, v)) = (n, v, true) ∧ 13 ∉ fieldL (n, v) ∧ fieldL (n, v) ≠ [] := by
  have hb : (32 :: v).any badB = false := by rw [List.any_cons, hv]; rfl
  have e : bareF (32 :: v) = v := by
    have := bare_front (p := [32]) (s := v) (by decide)
    rw [show (32 :: v) = [32] ++ v from rfl, this, clean_self hc]
  refine ⟨?_, ?_, ?_⟩
  · show parseF (n ++ 58 :: (32 :: v)) = _
    rw [parse_of h hb, e]
  · show 13 ∉ n ++ 58 :: 32 :: v
    rw [List.mem_append]
    rintro (h1 | h1)
    · exact (tok_cr h).1 h1
    · rcases List.mem_cons.1 h1 with h2 | h2
      · exact absurd h2 (by decide)
      · rcases List.mem_cons.1 h2 with h3 | h3
        · exact absurd h3 (by decide)
        · exact bad_cr hv h3
  · show n ++ 58 :: 32 :: v ≠ []
    simp
theorem Plain.line {f : List UInt8 × List UInt8} (h : Plain f) : parseF (fieldL f) = (f.1, f.2, true) ∧ 13 ∉ fieldL f ∧ fieldL f ≠ [] := by
  obtain ⟨h1, h2, h3, _⟩ := parse_true h.parse
  exact field_line h1 h3 h2
theorem here_line : parseF (fieldL hereF) = ([72, 111, 115, 116], [104, 101, 114, 101], true) ∧ 13 ∉ fieldL hereF ∧ fieldL hereF ≠ [] :=
  field_line (n := [72, 111, 115, 116]) (v := [104, 101, 114, 101]) (by decide) (by decide) ⟨fun c r e => by cases e; decide, fun r c e => by
    have : [104, 101, 114, 101] = ([104, 101, 114] : List UInt8) ++ [101] := rfl
    rw [this] at e
    have := (List.append_inj' e rfl).2
    cases this; decide⟩
theorem len_line (k : Nat) : parseF (fieldL (lenF k)) = ((lenF k).1, Lib.decDigits k, true) ∧ 13 ∉ fieldL (lenF k) ∧ fieldL (lenF k) ≠ [] :=
  field_line (by decide) (dec_clean k).2 (dec_clean k).1
theorem lineH_plain {f : List UInt8 × List UInt8} (h : Plain f) (s : Hs) : lineH s (fieldL f) = some { s with fs := s.fs ++ [f] } := by
  have hp := h.line.1
  unfold lineH
  rw [hp]
  dsimp only
  rw [if_neg (by simp), if_neg (by rw [h.te]; simp), if_neg (by rw [h.clen]; simp)]
  simp only [h.host, h.te, h.clen, h.co, Bool.toNat_false, Nat.add_zero, Bool.false_and, Bool.or_false]
  simp
theorem lineH_here (s : Hs) : lineH s (fieldL hereF) = some { s with fs := s.fs ++ [hereF], hosts := s.hosts + 1 } := by
  have hp := here_line.1
  have a1 : alikeF [72, 111, 115, 116] hostL = true := by decide
  have a2 : alikeF [72, 111, 115, 116] teL = false := by decide
  have a3 : alikeF [72, 111, 115, 116] clL = false := by decide
  have a4 : alikeF [72, 111, 115, 116] coL = false := by decide
  unfold lineH
  rw [hp]
  dsimp only
  rw [if_neg (by simp), if_neg (by rw [a2]; simp), if_neg (by rw [a3]; simp)]
  simp only [a1, a2, a3, a4, Bool.toNat_false, Bool.toNat_true, Nat.add_zero, Bool.false_and, Bool.or_false]
  simp [hereF]
theorem lineH_len {k : Nat} (hk : k ≤ 5000) (s : Hs) (hs : s.len = none) : lineH s (fieldL (lenF k)) = some { s with fs := s.fs ++ [lenF k], len := some k, text := Lib.decDigits k } := by
  have hp := (len_line k).1
  have a1 : alikeF (lenF k).1 hostL = false := by show alikeF [67, 111, 110, 116, 101, 110, 116, 45, 76, 101, 110, 103, 116, 104] hostL = false; decide
  have a2 : alikeF (lenF k).1 teL = false := by show alikeF [67, 111, 110, 116, 101, 110, 116, 45, 76, 101, 110, 103, 116, 104] teL = false; decide
  have a3 : alikeF (lenF k).1 clL = true := by show alikeF [67, 111, 110, 116, 101, 110, 116, 45, 76, 101, 110, 103, 116, 104] clL = true; decide
  have a4 : alikeF (lenF k).1 coL = false := by show alikeF [67, 111, 110, 116, 101, 110, 116, 45, 76, 101, 110, 103, 116, 104] coL = false; decide
  have hn : numF (Lib.decDigits k) = some k := by unfold numF; rw [if_neg (dec_ne k), num_dec k hk]
  unfold lineH
  rw [hp]
  dsimp only
  rw [if_neg (by simp), if_neg (by rw [a2]; simp), if_neg (by rw [hn, hs]; simp)]
  simp only [a1, a2, a3, a4, hn, Bool.toNat_false, Nat.add_zero, Bool.false_and, Bool.or_false]
  simp [lenF]
theorem linesH_plain (r : List (List UInt8)) : ∀ (fs : List (List UInt8 × List UInt8)) (s : Hs), (∀ f ∈ fs, Plain f) → linesH s (fs.map fieldL ++ r) = linesH { s with fs := s.fs ++ fs } r
  | [], s, _ => by simp
  | f :: fs, s, h => by
    rw [List.map_cons, List.cons_append, linesH, lineH_plain (h f List.mem_cons_self)]
    dsimp only
    rw [linesH_plain r fs _ (fun j hj => h j (List.mem_cons_of_mem _ hj))]
    simp
/-- A request that may be. -/
structure MayR (r : Rq) : Prop where
  m : tokF r.m = true
  path : ∃ q, targetF r.p = (r.p, q, true)
  query : (targetF ((r.p ++ [63]) ++ r.q)).2.2 = true
  body : r.body.length ≤ 4096
  most : r.fs.length ≤ 30
  plain : ∀ f ∈ r.fs, Plain f
def fsLen (fs : List (List UInt8 × List UInt8)) : Nat := (fs.map fun f => f.1.length + f.2.length + 4).sum
theorem target_may {r : Rq} (h : MayR r) : targetF (tgtL r.p r.q) = (r.p, r.q, true) ∧ 63 ∉ r.p := by
  obtain ⟨q0, hp⟩ := h.path
  obtain ⟨h1, h2, _, h4, h5, _⟩ := target_true hp
  refine ⟨?_, h4⟩
  unfold tgtL
  split
  · rename_i hq
    rw [hq]
    exact target_path h1 h5 h2 h4
  · obtain ⟨⟨a, b, c⟩, hx⟩ : ∃ x, targetF ((r.p ++ [63]) ++ r.q) = x := ⟨_, rfl⟩
    have hq := h.query
    rw [hx] at hq
    dsimp only at hq
    subst hq
    obtain ⟨_, _, _, _, _, _, _, hl, ho⟩ := target_true hx
    have hoq := (okT_mark _ r.p r.q (Nat.le_refl _) h4 (by rw [List.append_assoc] at ho; exact ho)).2
    exact target_query h1 (by simp at hl; omega) h2 hoq h4
/-- The lines of a request's head behind the first one. -/
def linesR (r : Rq) : List (List UInt8) := fieldL hereF :: (r.fs.map fieldL ++ [fieldL (lenF r.body.length)])
def lineR (r : Rq) : List UInt8 := r.m ++ 32 :: (tgtL r.p r.q ++ http1)
def bytesR (r : Rq) : List UInt8 := joinL (lineR r) (linesR r) ++ 13 :: 10 :: 13 :: 10 :: r.body
def wantR (r : Rq) : Rq := ⟨r.m, r.p, r.q, 11, hereF :: (r.fs ++ [lenF r.body.length]), r.body, false⟩
theorem line_may {r : Rq} (h : MayR r) : lineF (lineR r) = (r.m, tgtL r.p r.q, 11, true) ∧ 13 ∉ lineR r := by
  obtain ⟨hv, hne⟩ := target_vis (target_may h).1
  refine ⟨?_, ?_⟩
  · have := lineF_of h.m hv hne (.inr rfl : http1 = http0 ∨ http1 = http1)
    rw [if_neg (by decide)] at this
    exact this
  · show 13 ∉ r.m ++ 32 :: (tgtL r.p r.q ++ http1)
    rw [List.mem_append]
    rintro (h1 | h1)
    · exact (tok_cr h.m).1 h1
    · rcases List.mem_cons.1 h1 with h2 | h2
      · exact absurd h2 (by decide)
      · rcases List.mem_append.1 h2 with h3 | h3
        · rw [List.all_eq_true] at hv; exact absurd (hv 13 h3) (by decide)
        · exact absurd h3 (by decide)
theorem head_may {r : Rq} (h : MayR r) : headL (lineR r :: linesR r) = .ok ⟨r.m, r.p, r.q, 11, (wantR r).fs, [], false⟩ (some r.body.length) := by
  have hl := (line_may h).1
  have ht := (target_may h).1
  have hmost := h.most
  have hbody := h.body
  have hls : linesH ⟨[], 0, 0, none, [], ((lineF (lineR r)).2.2.1 == 10)⟩ (linesR r) = some ⟨hereF :: (r.fs ++ [lenF r.body.length]), 1, 0, some r.body.length, Lib.decDigits r.body.length, false⟩ := by
    rw [hl]
    unfold linesR
    rw [linesH, lineH_here]
    dsimp only
    rw [linesH_plain _ _ _ h.plain, linesH, lineH_len (by omega) _ rfl]
    dsimp only
    rw [linesH]
    simp
  unfold headL
  dsimp only
  rw [hls, hl]
  dsimp only
  rw [ht, if_neg (by unfold linesR; simp; omega), if_neg (by simp)]
  dsimp only
  rw [if_neg (by simp), if_neg (by simp), if_neg (by simpa using hbody)]
  rfl
theorem joinL_len : ∀ (ls : List (List UInt8)) (l : List UInt8), (joinL l ls).length = l.length + (ls.map fun k => k.length + 2).sum
  | [], l => by simp [joinL]
  | k :: ls, l => by
    rw [joinL, List.length_append, List.length_cons, List.length_cons, joinL_len ls k, List.map_cons, List.sum_cons]; omega
theorem fields_len : ∀ fs : List (List UInt8 × List UInt8), ((fs.map fieldL).map fun k => k.length + 2).sum = fsLen fs
  | [] => rfl
  | f :: fs => by
    have ih := fields_len fs
    unfold fsLen at ih ⊢
    rw [List.map_cons, List.map_cons, List.sum_cons, ih, List.map_cons, List.sum_cons]
    show (f.1 ++ 58 :: 32 :: f.2).length + 2 + _ = _
    rw [List.length_append, List.length_cons, List.length_cons]; omega
theorem head_len {r : Rq} (h : MayR r) (hn : r.m.length + r.p.length + r.q.length + fsLen r.fs ≤ 1900) : (joinL (lineR r) (linesR r)).length + 4 ≤ 2048 := by
  rw [joinL_len]
  have hd : (Lib.decDigits r.body.length).length ≤ 4 := by
    have := dec_len 4 r.body.length (by have := h.body; omega)
    omega
  have h1 : (lineR r).length ≤ r.m.length + r.p.length + r.q.length + 11 := by
    unfold lineR tgtL
    split
    · simp [http1]; omega
    · simp [http1]; omega
  have h2 : ((linesR r).map fun k => k.length + 2).sum = 12 + fsLen r.fs + (18 + (Lib.decDigits r.body.length).length) := by
    unfold linesR
    rw [List.map_cons, List.sum_cons, List.map_append, List.sum_append, fields_len]
    simp [fieldL, hereF, lenF]; omega
  omega
/-- A request's bytes are parsed as it is; what stands behind is left. -/
theorem step_may {r : Rq} (h : MayR r) (hn : r.m.length + r.p.length + r.q.length + fsLen r.fs ≤ 1900) (x : List UInt8) : stepS (bytesR r ++ x) = .req (wantR r) x := by
  have hcr := (line_may h).2
  have hls : ∀ k ∈ linesR r, 13 ∉ k ∧ k ≠ [] := by
    intro k hk
    unfold linesR at hk
    rcases List.mem_cons.1 hk with rfl | hk
    · exact here_line.2
    · rcases List.mem_append.1 hk with hk | hk
      · obtain ⟨f, hf, rfl⟩ := List.mem_map.1 hk
        exact (h.plain f hf).line.2
      · obtain rfl := List.mem_singleton.1 hk
        exact (len_line _).2
  have he : endF (bytesR r ++ x) = some ((joinL (lineR r) (linesR r)).length + 4) := by
    unfold bytesR
    rw [List.append_assoc]
    exact end_join (r.body ++ x) (linesR r) (lineR r) hcr hls
  have hlen := head_len h hn
  have htk : (bytesR r ++ x).take ((joinL (lineR r) (linesR r)).length + 4 - 4) = joinL (lineR r) (linesR r) := by
    unfold bytesR
    rw [Nat.add_sub_cancel, List.append_assoc, List.take_left]
  have hdr : (bytesR r ++ x).drop ((joinL (lineR r) (linesR r)).length + 4) = r.body ++ x := by
    unfold bytesR
    rw [List.append_assoc, List.drop_append, List.drop_of_length_le (by omega), Nat.add_sub_cancel_left]; rfl
  unfold stepS
  rw [he]
  dsimp only
  rw [if_neg (by omega), htk, hdr]
  unfold headR
  rw [lns_join (linesR r) (lineR r) hcr (fun k hk => (hls k hk).1), head_may h]
  dsimp only
  unfold bodyS
  dsimp only
  rw [if_neg (by rw [List.length_append]; omega), List.take_left, List.drop_left]
  rfl
theorem next_may {r : Rq} (h : MayR r) (hn : r.m.length + r.p.length + r.q.length + fsLen r.fs ≤ 1900) (x : List UInt8) : PSt.next ⟨bytesR r ++ x, 0⟩ = (some (wantR r), ⟨x, 0⟩) := by
  unfold PSt.next
  rw [if_pos rfl]
  dsimp only
  rw [step_may h hn]
end Go.Proofs.YtfdbmbgpcioogaaGreatDoor
/- A reply's line, and what the statements ask of it. -/
namespace Go.Proofs.YtfdbmbgpcioogaaGreatDoor
open Go.RowKit

/-- HTTP/1.1 and a blank. -/
def httpS : List UInt8 := [72, 84, 84, 80, 47, 49, 46, 49, 32]
def digB (c : UInt8) : Bool := decide (48 ≤ c.toNat) && decide (c.toNat ≤ 57)
def codeN (a b c : UInt8) : Nat := 100 * (a.toNat - 48) + 10 * (b.toNat - 48) + (c.toNat - 48)
def statusF (s : List UInt8) : Nat × List UInt8 × Bool :=
  match s.drop 9 with
  | a :: b :: c :: 32 :: r => if s.take 9 = httpS ∧ digB a = true ∧ digB b = true ∧ digB c = true ∧ 49 ≤ a.toNat ∧ a.toNat ≤ 53 ∧ r.any badB = false then (codeN a b c, r, true) else (0, [], false)
  | _ => (0, [], false)
def statusV (p : Nat × List UInt8 × Bool) : Value := .tuple #[.int .i64 (p.1 : Int), S p.2.1, .bool p.2.2]
/-- The three digits of a code. -/
def dig3 (n : Nat) : List UInt8 := [UInt8.ofNat (48 + n / 100), UInt8.ofNat (48 + n / 10 % 10), UInt8.ofNat (48 + n % 10)]
theorem dec3 {n : Nat} (h1 : 100 ≤ n) (h2 : n ≤ 999) : Lib.decDigits n = dig3 n := by
  rw [Lib.decDigits, dif_neg (by omega), Lib.decDigits, dif_neg (by omega), Lib.decDigits, dif_pos (by omega)]
  unfold dig3
  have e : n / 10 / 10 = n / 100 := by omega
  rw [e]; rfl
theorem itoa3 {n : Nat} (h1 : 100 ≤ n) (h2 : n ≤ 999) : Lib.itoa (n : Int) = dig3 n := by
  unfold Lib.itoa
  rw [if_neg (by omega), show (n : Int).toNat = n by omega, dec3 h1 h2]
theorem dig_nat {k : Nat} (h : k ≤ 9) : (UInt8.ofNat (48 + k)).toNat = 48 + k := by
  rw [UInt8.toNat_ofNat']; omega
theorem status_false {s r : List UInt8} {c : Nat} (h : statusF s = (c, r, false)) : c = 0 ∧ r = [] := by
  unfold statusF at h
  split at h
  · split at h
    · cases h
    · cases h; exact ⟨rfl, rfl⟩
  · cases h; exact ⟨rfl, rfl⟩
theorem dig_of {a : UInt8} (h : digB a = true) : 48 ≤ a.toNat ∧ a.toNat ≤ 57 ∧ a = UInt8.ofNat (48 + (a.toNat - 48)) := by
  unfold digB at h
  rw [Bool.and_eq_true, decide_eq_true_eq, decide_eq_true_eq] at h
  refine ⟨h.1, h.2, ?_⟩
  rw [show 48 + (a.toNat - 48) = a.toNat by omega, UInt8.ofNat_toNat]
/-- What is read of a reply's line is put together as it. -/
theorem status_true {s r : List UInt8} {c : Nat} (h : statusF s = (c, r, true)) : 100 ≤ c ∧ c ≤ 599 ∧ r.any badB = false ∧ s = httpS ++ (dig3 c ++ 32 :: r) ∧ r.length ≤ s.length := by
  unfold statusF at h
  split at h
  · rename_i x a b c' r' hd
    split at h
    · rename_i hc
      obtain ⟨h9, ha, hb, hc', h1, h5, hr⟩ := hc
      cases h
      obtain ⟨a1, a2, a3⟩ := dig_of ha
      obtain ⟨b1, b2, b3⟩ := dig_of hb
      obtain ⟨c1, c2, c3⟩ := dig_of hc'
      have hs : s = httpS ++ (a :: b :: c' :: 32 :: r) := by rw [← h9, ← hd, List.take_append_drop]
      refine ⟨by unfold codeN; omega, by unfold codeN; omega, hr, ?_, by rw [hs]; simp; omega⟩
      have e1 : codeN a b c' / 100 = a.toNat - 48 := by unfold codeN; omega
      have e2 : codeN a b c' / 10 % 10 = b.toNat - 48 := by unfold codeN; omega
      have e3 : codeN a b c' % 10 = c'.toNat - 48 := by unfold codeN; omega
      rw [hs]
      unfold dig3
      rw [e1, e2, e3, ← a3, ← b3, ← c3]; rfl
    · cases h
  · cases h
/-- A code of three digits and a reason. -/
theorem status_code {n : Nat} (r : List UInt8) (h1 : 100 ≤ n) (h2 : n ≤ 999) : statusF (httpS ++ (dig3 n ++ 32 :: r)) = if n ≤ 599 ∧ r.any badB = false then (n, r, true) else (0, [], false) := by
  have hd : (httpS ++ (dig3 n ++ 32 :: r)).drop 9 = UInt8.ofNat (48 + n / 100) :: UInt8.ofNat (48 + n / 10 % 10) :: UInt8.ofNat (48 + n % 10) :: 32 :: r := rfl
  have ht : (httpS ++ (dig3 n ++ 32 :: r)).take 9 = httpS := rfl
  have ea := dig_nat (k := n / 100) (by omega)
  have eb := dig_nat (k := n / 10 % 10) (by omega)
  have ec := dig_nat (k := n % 10) (by omega)
  have dg : ∀ k, k ≤ 9 → digB (UInt8.ofNat (48 + k)) = true := fun k hk => by
    unfold digB; rw [dig_nat hk, decide_eq_true (by omega), decide_eq_true (by omega)]; rfl
  unfold statusF
  rw [hd]
  simp only
  rw [ht]
  have hcode : codeN (UInt8.ofNat (48 + n / 100)) (UInt8.ofNat (48 + n / 10 % 10)) (UInt8.ofNat (48 + n % 10)) = n := by unfold codeN; rw [ea, eb, ec]; omega
  rw [hcode]
  by_cases hc : n ≤ 599 ∧ r.any badB = false
  · rw [if_pos hc, if_pos ⟨rfl, dg _ (by omega), dg _ (by omega), dg _ (by omega), by rw [ea]; omega, by rw [ea]; omega, hc.2⟩]
  · rw [if_neg hc, if_neg]
    rintro ⟨_, _, _, _, _, h5, hr⟩
    rw [ea] at h5
    exact hc ⟨by omega, hr⟩
end Go.Proofs.YtfdbmbgpcioogaaGreatDoor
/- Replies as list functions: which may be, their bytes, what is read of bytes. -/
namespace Go.Proofs.YtfdbmbgpcioogaaGreatDoor
open Go.RowKit

/-- A code's reason. -/
def rsnF (c : Int) : List UInt8 :=
  if c = 101 then [83, 119, 105, 116, 99, 104, 105, 110, 103, 32, 80, 114, 111, 116, 111, 99, 111, 108, 115]
  else if c = 200 then [79, 75]
  else if c = 400 then [66, 97, 100, 32, 82, 101, 113, 117, 101, 115, 116]
  else if c = 403 then [70, 111, 114, 98, 105, 100, 100, 101, 110]
  else if c = 404 then [78, 111, 116, 32, 70, 111, 117, 110, 100]
  else if c = 405 then [77, 101, 116, 104, 111, 100, 32, 78, 111, 116, 32, 65, 108, 108, 111, 119, 101, 100]
  else if c = 413 then [67, 111, 110, 116, 101, 110, 116, 32, 84, 111, 111, 32, 76, 97, 114, 103, 101]
  else if c = 426 then [85, 112, 103, 114, 97, 100, 101, 32, 82, 101, 113, 117, 105, 114, 101, 100]
  else if c = 431 then [82, 101, 113, 117, 101, 115, 116, 32, 72, 101, 97, 100, 101, 114, 32, 70, 105, 101, 108, 100, 115, 32, 84, 111, 111, 32, 76, 97, 114, 103, 101]
  else [83, 116, 97, 116, 117, 115]
theorem rsn_ok (c : Int) : (rsnF c).any badB = false ∧ (rsnF c).length ≤ 40 := by
  unfold rsnF
  iterate 9 (split; · exact ⟨by decide, by decide⟩)
  exact ⟨by decide, by decide⟩
/-- A code whose replies have no body. -/
def nobB (c : Int) : Bool := decide (c < 200) || c == 204 || c == 304
abbrev Fld := List UInt8 × List UInt8
def fldOk (c : Int) (f : Fld) : Bool := (parseF (f.1 ++ 58 :: f.2) == (f.1, f.2, true)) && (!(alikeF f.1 clL) && (!(alikeF f.1 teL) && (c == 101 || !(alikeF f.1 coL))))
def rightB (c : Int) (fs : List Fld) (body : List UInt8) : Bool :=
  (decide (100 ≤ c) && decide (c ≤ 599) && decide (body.length ≤ 65536)) && ((!(nobB c) || decide (body.length = 0)) && fs.all (fldOk c))
/-- The first line. -/
def stL (c : Int) : List UInt8 := httpS ++ (Lib.decDigits c.toNat ++ 32 :: rsnF c)
def clsF : Fld := ([67, 111, 110, 110, 101, 99, 116, 105, 111, 110], closeL)
def moreL (c : Int) (n : Nat) (close : Bool) : List Fld := (if nobB c = true then [] else [lenF n]) ++ (if close = true then [clsF] else [])
def lnsR (c : Int) (fs : List Fld) (n : Nat) (close : Bool) : List (List UInt8) := (fs ++ moreL c n close).map fieldL
def headB (c : Int) (fs : List Fld) (n : Nat) (close : Bool) : List UInt8 := joinE (stL c :: lnsR c fs n close) ++ [13, 10]
def bytesB (c : Int) (fs : List Fld) (body : List UInt8) (head close : Bool) : List UInt8 := headB c fs body.length close ++ (if head = true then [] else body)
def mayB (c : Int) (fs : List Fld) (body : List UInt8) (close : Bool) : Bool := rightB c fs body && !(close && c == 101)
/-- A Content-Length. -/
def szGo : Nat → List UInt8 → Option Nat
  | n, [] => some n
  | n, c :: r => if 48 ≤ c.toNat ∧ c.toNat ≤ 57 then szGo (10 * n + (c.toNat - 48)) r else none
def szF (s : List UInt8) : Option Nat := if s.length = 0 ∨ 6 < s.length then none else szGo 0 s
structure Ps where
  fs : List Fld
  lens : Nat
  cls : Nat
  n : Nat
def stepP (code : Nat) (p : Ps) (l : List UInt8) : Option Ps :=
  if (parseF l).2.2 = false ∨ alikeF (parseF l).1 teL = true then none
  else if alikeF (parseF l).1 clL = true then match szF (parseF l).2.1 with
    | none => none
    | some k => some ⟨p.fs, p.lens + 1, p.cls, k⟩
  else if code ≠ 101 ∧ alikeF (parseF l).1 coL = true then if (parseF l).2.1 = closeL then some ⟨p.fs, p.lens, p.cls + 1, p.n⟩ else none
  else some ⟨p.fs ++ [((parseF l).1, (parseF l).2.1)], p.lens, p.cls, p.n⟩
def goP (code : Nat) : Ps → List (List UInt8) → Option Ps
  | p, [] => some p
  | p, l :: r => match stepP code p l with
    | none => none
    | some q => goP code q r
/-- What is read: too short, not of the form, or a reply. -/
inductive Rd where
  | short
  | form
  | ok (c : Nat) (fs : List Fld) (body : List UInt8) (close : Bool) (n : Nat)
def headP (ls : List (List UInt8)) : Option (Nat × Ps) := match ls with
  | [] => none
  | l0 :: r => if (statusF l0).2.2 = false then none else match goP (statusF l0).1 ⟨[], 0, 0, 0⟩ r with
    | none => none
    | some p => if 1 < p.lens ∨ 1 < p.cls ∨ nobB (statusF l0).1 ≠ decide (p.lens = 0) then none else some ((statusF l0).1, p)
def restP (s : List UInt8) (e : Nat) (head : Bool) (c : Nat) (p : Ps) : Rd :=
  if s.length < e + (if head = true then 0 else p.n) then .short
  else .ok c p.fs ((s.drop e).take (if head = true then 0 else p.n)) (decide (p.cls = 1)) (e + (if head = true then 0 else p.n))
def readF (s : List UInt8) (head : Bool) : Rd := match endF s with
  | none => if s.length < 65536 then .short else .form
  | some e => match headP (lnsF [] (s.take (e - 4))) with
    | none => .form
    | some (c, p) => restP s e head c p

/-! Of what has bytes just that is read. -/
theorem dec_dec (c : Int) (h1 : 100 ≤ c) (h2 : c ≤ 599) : statusF (stL c) = (c.toNat, rsnF c, true) := by
  unfold stL
  rw [dec3 (by omega) (by omega), status_code _ (by omega) (by omega), if_pos ⟨by omega, (rsn_ok c).1⟩]
theorem st_cr (c : Int) : 13 ∉ stL c := by
  unfold stL
  rw [List.mem_append]
  rintro (h | h)
  · exact absurd h (by decide)
  · rcases List.mem_append.1 h with h | h
    · have := dec_digits _ _ h
      exact absurd this (by decide)
    · rcases List.mem_cons.1 h with h | h
      · exact absurd h (by decide)
      · exact bad_cr (rsn_ok c).1 h
structure Okf (c : Int) (f : Fld) : Prop where
  parse : parseF (f.1 ++ 58 :: f.2) = (f.1, f.2, true)
  cl : alikeF f.1 clL = false
  te : alikeF f.1 teL = false
  co : c = 101 ∨ alikeF f.1 coL = false
theorem okf_iff {c : Int} {f : Fld} : fldOk c f = true ↔ Okf c f := by
  unfold fldOk
  constructor
  · intro h
    simp only [Bool.and_eq_true, beq_iff_eq, Bool.not_eq_true', Bool.or_eq_true] at h
    exact ⟨h.1, h.2.1, h.2.2.1, h.2.2.2⟩
  · intro h
    simp only [Bool.and_eq_true, beq_iff_eq, Bool.not_eq_true', Bool.or_eq_true]
    exact ⟨h.parse, h.cl, h.te, h.co⟩
theorem Okf.line {c : Int} {f : Fld} (h : Okf c f) : parseF (fieldL f) = (f.1, f.2, true) ∧ 13 ∉ fieldL f ∧ fieldL f ≠ [] := by
  obtain ⟨h1, h2, h3, _⟩ := parse_true h.parse
  exact field_line h1 h3 h2
structure RightP (c : Int) (fs : List Fld) (body : List UInt8) : Prop where
  lo : 100 ≤ c
  hi : c ≤ 599
  len : body.length ≤ 65536
  nob : nobB c = true → body = []
  all : ∀ f ∈ fs, Okf c f
theorem right_iff {c : Int} {fs : List Fld} {body : List UInt8} : rightB c fs body = true ↔ RightP c fs body := by
  unfold rightB
  simp only [Bool.and_eq_true, decide_eq_true_eq, Bool.or_eq_true, Bool.not_eq_true', List.all_eq_true]
  constructor
  · rintro ⟨⟨⟨h1, h2⟩, h3⟩, h4, h5⟩
    refine ⟨h1, h2, h3, fun hn => ?_, fun f hf => okf_iff.1 (h5 f hf)⟩
    rcases h4 with h4 | h4
    · rw [hn] at h4; cases h4
    · exact List.length_eq_zero_iff.1 h4
  · rintro ⟨h1, h2, h3, h4, h5⟩
    refine ⟨⟨⟨h1, h2⟩, h3⟩, ?_, fun f hf => okf_iff.2 (h5 f hf)⟩
    cases hn : nobB c with
    | false => exact .inl rfl
    | true => exact .inr (by rw [h4 hn]; rfl)
theorem szGo_append (b : List UInt8) : ∀ (a : List UInt8) (n : Nat), szGo n (a ++ b) = (szGo n a).bind fun m => szGo m b
  | [], n => rfl
  | c :: a, n => by
    rw [List.cons_append, szGo, szGo]
    split
    · exact szGo_append b a _
    · rfl
theorem sz_dec (u : Nat) : szGo 0 (Lib.decDigits u) = some u := by
  rw [Lib.decDigits]
  split
  · rename_i h
    show szGo 0 [UInt8.ofNat (48 + u)] = _
    have : (UInt8.ofNat (48 + u)).toNat = 48 + u := dig_nat (by omega)
    rw [szGo, if_pos (by omega), szGo]; congr 1; omega
  · rename_i h
    rw [szGo_append, sz_dec (u / 10)]
    show szGo (u / 10) [UInt8.ofNat (48 + u % 10)] = _
    have : (UInt8.ofNat (48 + u % 10)).toNat = 48 + u % 10 := dig_nat (by omega)
    rw [szGo, if_pos (by omega), szGo]; congr 1; omega
termination_by u
theorem szF_dec {u : Nat} (h : u ≤ 65536) : szF (Lib.decDigits u) = some u := by
  unfold szF
  have h1 := dec_len 6 u (by omega)
  have h2 := dec_ne u
  have h3 := List.length_pos_iff.2 h2
  rw [if_neg (by omega), sz_dec]
theorem stepP_plain {c : Nat} {f : Fld} (h : Okf (c : Int) f) (p : Ps) : stepP c p (fieldL f) = some ⟨p.fs ++ [f], p.lens, p.cls, p.n⟩ := by
  unfold stepP
  rw [h.line.1]
  dsimp only
  rw [if_neg (by rw [h.te]; simp), if_neg (by rw [h.cl]; simp), if_neg (by
    rintro ⟨h1, h2⟩
    rcases h.co with h3 | h3
    · exact h1 (by omega)
    · rw [h3] at h2; cases h2)]
theorem stepP_len {c u : Nat} (hu : u ≤ 65536) (p : Ps) : stepP c p (fieldL (lenF u)) = some ⟨p.fs, p.lens + 1, p.cls, u⟩ := by
  have a2 : alikeF (lenF u).1 teL = false := by show alikeF [67, 111, 110, 116, 101, 110, 116, 45, 76, 101, 110, 103, 116, 104] teL = false; decide
  have a3 : alikeF (lenF u).1 clL = true := by show alikeF [67, 111, 110, 116, 101, 110, 116, 45, 76, 101, 110, 103, 116, 104] clL = true; decide
  unfold stepP
  rw [(len_line u).1]
  dsimp only
  rw [if_neg (by rw [a2]; simp), if_pos a3, szF_dec hu]
theorem cls_line : parseF (fieldL clsF) = (clsF.1, closeL, true) ∧ 13 ∉ fieldL clsF ∧ fieldL clsF ≠ [] := by
  have e : closeL = [99, 108, 111, 115] ++ [101] := rfl
  exact field_line (n := clsF.1) (v := closeL) (by decide) (by decide) ⟨fun c r h => by cases h; decide, fun r c h => by
    rw [e] at h
    have := (List.append_inj' h rfl).2
    cases this; decide⟩
theorem stepP_cls {c : Nat} (hc : c ≠ 101) (p : Ps) : stepP c p (fieldL clsF) = some ⟨p.fs, p.lens, p.cls + 1, p.n⟩ := by
  have a1 : alikeF clsF.1 teL = false := by decide
  have a2 : alikeF clsF.1 clL = false := by decide
  have a3 : alikeF clsF.1 coL = true := by decide
  unfold stepP
  rw [cls_line.1]
  dsimp only
  rw [if_neg (by rw [a1]; simp), if_neg (by rw [a2]; simp), if_pos ⟨hc, a3⟩, if_pos rfl]
theorem goP_plain {c : Nat} (r : List (List UInt8)) : ∀ (fs : List Fld) (p : Ps), (∀ f ∈ fs, Okf (c : Int) f) → goP c p (fs.map fieldL ++ r) = goP c ⟨p.fs ++ fs, p.lens, p.cls, p.n⟩ r
  | [], p, _ => by simp
  | f :: fs, p, h => by
    rw [List.map_cons, List.cons_append, goP, stepP_plain (h f List.mem_cons_self)]
    dsimp only
    rw [goP_plain r fs _ (fun j hj => h j (List.mem_cons_of_mem _ hj))]
    simp
theorem may_iff {c : Int} {fs : List Fld} {body : List UInt8} {close : Bool} : mayB c fs body close = true ↔ RightP c fs body ∧ ¬ (close = true ∧ c = 101) := by
  unfold mayB
  rw [Bool.and_eq_true, right_iff, Bool.not_eq_true', Bool.and_eq_false_iff, beq_eq_false_iff_ne]
  refine and_congr_right fun _ => ?_
  cases close <;> simp
theorem goP_more {c u : Nat} (hu : u ≤ 65536) {close : Bool} (hc : ¬ (close = true ∧ (c : Int) = 101)) (fs : List Fld) :
    goP c ⟨fs, 0, 0, 0⟩ ((moreL (c : Int) u close).map fieldL) = some ⟨fs, if nobB (c : Int) = true then 0 else 1, if close = true then 1 else 0, if nobB (c : Int) = true then 0 else u⟩ := by
  unfold moreL
  have h2 : close = true → c ≠ 101 := fun h e => hc ⟨h, by omega⟩
  by_cases hn : nobB (c : Int) = true
  · rw [if_pos hn, if_pos hn, if_pos hn, List.nil_append]
    by_cases hcl : close = true
    · rw [if_pos hcl, if_pos hcl, List.map_cons, List.map_nil, goP, stepP_cls (h2 hcl)]; rfl
    · rw [if_neg hcl, if_neg hcl]; rfl
  · rw [if_neg hn, if_neg hn, if_neg hn]
    by_cases hcl : close = true
    · rw [if_pos hcl, if_pos hcl, List.singleton_append, List.map_cons, List.map_cons, List.map_nil, goP, stepP_len hu]
      dsimp only
      rw [goP, stepP_cls (h2 hcl)]; rfl
    · rw [if_neg hcl, if_neg hcl, List.append_nil, List.map_cons, List.map_nil, goP, stepP_len hu]; rfl
theorem more_line (c : Int) (n : Nat) (close : Bool) : ∀ f ∈ moreL c n close, 13 ∉ fieldL f ∧ fieldL f ≠ [] := fun f hf => by
  unfold moreL at hf
  rcases List.mem_append.1 hf with h | h
  · split at h
    · cases h
    · rw [List.mem_singleton] at h; subst h; exact (len_line n).2
  · split at h
    · rw [List.mem_singleton] at h; subst h; exact cls_line.2
    · cases h
theorem lnsR_line {c : Int} {fs : List Fld} {n : Nat} {close : Bool} (h : ∀ f ∈ fs, Okf c f) : ∀ k ∈ lnsR c fs n close, 13 ∉ k ∧ k ≠ [] := fun k hk => by
  unfold lnsR at hk
  obtain ⟨f, hf, rfl⟩ := List.mem_map.1 hk
  rcases List.mem_append.1 hf with h1 | h1
  · exact (h f h1).line.2
  · exact more_line _ _ _ f h1
theorem joinE_joinL : ∀ (ls : List (List UInt8)) (l : List UInt8), joinE (l :: ls) = joinL l ls ++ [13, 10]
  | [], l => rfl
  | k :: ls, l => by rw [joinE, joinE_joinL ls k, joinL, List.append_assoc]; rfl
/-- The head, without its last four bytes. -/
def topB (c : Int) (fs : List Fld) (n : Nat) (close : Bool) : List UInt8 := joinL (stL c) (lnsR c fs n close)
theorem head_top (c : Int) (fs : List Fld) (n : Nat) (close : Bool) : headB c fs n close = topB c fs n close ++ [13, 10, 13, 10] := by
  unfold headB topB
  rw [joinE_joinL, List.append_assoc]; rfl
set_option maxRecDepth 100000 in
theorem headP_bytes {c : Int} {fs : List Fld} {body : List UInt8} {close : Bool} (h : RightP c fs body) (hc : ¬ (close = true ∧ c = 101)) :
    headP (lnsF [] (topB c fs body.length close)) = some (c.toNat, ⟨fs, if nobB c = true then 0 else 1, if close = true then 1 else 0, body.length⟩) := by
  have hl := lnsR_line (n := body.length) (close := close) h.all
  unfold topB
  rw [lns_join _ _ (st_cr c) (fun k hk => (hl k hk).1)]
  unfold headP
  dsimp only
  rw [dec_dec c h.lo h.hi]
  dsimp only
  obtain ⟨u, rfl⟩ : ∃ u : Nat, c = (u : Int) := ⟨c.toNat, by have := h.lo; omega⟩
  rw [if_neg (by simp)]
  unfold lnsR
  rw [List.map_append, Int.toNat_natCast, goP_plain _ _ _ h.all, List.nil_append, goP_more h.len hc]
  dsimp only
  obtain ⟨k, hk⟩ : ∃ k, k = body.length := ⟨_, rfl⟩
  have hn : (if nobB (u : Int) = true then 0 else k) = k := by
    split
    · rename_i hn; rw [hk, h.nob hn]; rfl
    · rfl
  rw [← hk, hn, if_neg]
  rintro (h1 | h1 | h1)
  · split at h1 <;> omega
  · split at h1 <;> omega
  · cases hb : nobB (u : Int)
    · rw [hb] at h1; exact h1 rfl
    · rw [hb] at h1; exact h1 rfl
theorem read_bytes {c : Int} {fs : List Fld} {body : List UInt8} {head close : Bool} (h : RightP c fs body) (hc : ¬ (close = true ∧ c = 101)) (behind : List UInt8) :
    readF (bytesB c fs body head close ++ behind) head = .ok c.toNat fs (if head = true then [] else body) close (bytesB c fs body head close).length := by
  have hl := lnsR_line (n := body.length) (close := close) h.all
  have e : bytesB c fs body head close ++ behind = topB c fs body.length close ++ 13 :: 10 :: 13 :: 10 :: ((if head = true then [] else body) ++ behind) := by
    unfold bytesB
    rw [head_top]; simp
  have hend : endF (bytesB c fs body head close ++ behind) = some ((topB c fs body.length close).length + 4) := by rw [e]; exact end_join _ _ _ (st_cr c) hl
  have hlen : (bytesB c fs body head close).length = (topB c fs body.length close).length + 4 + (if head = true then 0 else body.length) := by
    unfold bytesB
    rw [head_top, List.length_append, List.length_append]
    split
    · rfl
    · rfl
  unfold readF
  rw [hend]
  dsimp only
  have ht : (bytesB c fs body head close ++ behind).take ((topB c fs body.length close).length + 4 - 4) = topB c fs body.length close := by
    rw [e, Nat.add_sub_cancel, List.take_left']; rfl
  rw [ht, headP_bytes h hc]
  dsimp only
  unfold restP
  dsimp only
  rw [← hlen, if_neg (by rw [List.length_append]; omega)]
  have hd : (bytesB c fs body head close ++ behind).drop ((topB c fs body.length close).length + 4) = (if head = true then [] else body) ++ behind := by
    rw [e, ← List.drop_drop, List.drop_left']
    · rfl
    · rfl
  rw [hd]
  have hcl : decide ((if close = true then 1 else 0) = 1) = close := by cases close <;> rfl
  rw [hcl]
  congr 1
  split
  · rfl
  · rw [List.take_left']; rfl
/-- Of every beginning of its bytes it is too short, or too long to have no head. -/
theorem read_short {c : Int} {fs : List Fld} {body : List UInt8} {head close : Bool} (h : RightP c fs body) (hc : ¬ (close = true ∧ c = 101)) {k : Nat} (hk : k < (bytesB c fs body head close).length) :
    readF ((bytesB c fs body head close).take k) head = .short ∨ (65536 ≤ k ∧ readF ((bytesB c fs body head close).take k) head = .form) := by
  have hr := read_bytes (head := head) h hc []
  rw [List.append_nil] at hr
  obtain ⟨b, hb⟩ : ∃ b, b = bytesB c fs body head close := ⟨_, rfl⟩
  rw [← hb] at hr hk ⊢
  have hlen : (b.take k).length = k := by rw [List.length_take]; omega
  cases he : endF (b.take k) with
  | none =>
    unfold readF
    rw [he]
    dsimp only
    rw [hlen]
    by_cases hk2 : k < 65536
    · rw [if_pos hk2]; exact .inl rfl
    · rw [if_neg hk2]; exact .inr ⟨by omega, rfl⟩
  | some e =>
    have hle := endF_le _ _ he
    rw [hlen] at hle
    have he2 : endF b = some e := by
      have := endF_append (b.take k) (b.drop k) e he
      rwa [List.take_append_drop] at this
    left
    unfold readF at hr ⊢
    rw [he2] at hr
    rw [he]
    dsimp only at hr ⊢
    rw [List.take_take, Nat.min_eq_left (by omega)]
    cases hh : headP (lnsF [] (b.take (e - 4))) with
    | none => rw [hh] at hr; cases hr
    | some q =>
      obtain ⟨c', p⟩ := q
      rw [hh] at hr
      dsimp only at hr ⊢
      unfold restP at hr ⊢
      obtain ⟨k0, hk0⟩ : ∃ k0, k0 = (if head = true then 0 else p.n) := ⟨_, rfl⟩
      rw [← hk0] at hr ⊢
      split at hr
      · cases hr
      · injection hr with _ _ _ _ h5
        rw [if_pos (by rw [hlen]; omega)]
/-- What was read of a head's lines. -/
structure GoodP (code : Nat) (p : Ps) : Prop where
  all : ∀ f ∈ p.fs, Okf (code : Int) f
  cls : 0 < p.cls → code ≠ 101
  n : p.lens = 0 → p.n = 0
theorem stepP_good {code : Nat} {p q : Ps} {l : List UInt8} (hp : GoodP code p) (h : stepP code p l = some q) : GoodP code q := by
  unfold stepP at h
  obtain ⟨⟨nm, v, ok⟩, hx⟩ : ∃ x, parseF l = x := ⟨_, rfl⟩
  rw [hx] at h
  dsimp only at h
  split at h
  · cases h
  · rename_i h1
    cases ok with
    | false => exact absurd (.inl rfl) h1
    | true =>
      split at h
      · cases hs : szF v with
        | none => rw [hs] at h; cases h
        | some k =>
          rw [hs] at h
          cases h
          exact ⟨hp.all, hp.cls, fun h => by dsimp only at h; omega⟩
      · rename_i h2
        split at h
        · rename_i h3
          split at h
          · cases h
            exact ⟨hp.all, fun _ => h3.1, hp.n⟩
          · cases h
        · rename_i h3
          cases h
          refine ⟨fun f hf => ?_, hp.cls, hp.n⟩
          rcases List.mem_append.1 hf with hf | hf
          · exact hp.all f hf
          · rw [List.mem_singleton] at hf
            subst hf
            obtain ⟨a1, a2, a3, _⟩ := parse_true hx
            refine ⟨?_, ?_, ?_, ?_⟩
            · show parseF (nm ++ 58 :: v) = (nm, v, true)
              rw [parse_of a1 a3, clean_self a2]
            · simpa using h2
            · simpa using fun e => h1 (.inr e)
            · by_cases e : code = 101
              · exact .inl (by omega)
              · exact .inr (by simpa using fun e' => h3 ⟨e, e'⟩)
theorem goP_good {code : Nat} : ∀ (ls : List (List UInt8)) {p q : Ps}, GoodP code p → goP code p ls = some q → GoodP code q
  | [], p, q, hp, h => by cases h; exact hp
  | l :: r, p, q, hp, h => by
    rw [goP] at h
    cases hs : stepP code p l with
    | none => rw [hs] at h; cases h
    | some p1 =>
      rw [hs] at h
      exact goP_good r (stepP_good hp hs) h
theorem headP_good {ls : List (List UInt8)} {c : Nat} {p : Ps} (h : headP ls = some (c, p)) : GoodP c p ∧ 100 ≤ c ∧ c ≤ 599 ∧ p.lens ≤ 1 ∧ p.cls ≤ 1 ∧ nobB (c : Int) = decide (p.lens = 0) := by
  unfold headP at h
  cases ls with
  | nil => cases h
  | cons l0 r =>
    dsimp only at h
    obtain ⟨⟨c0, rs, ok⟩, hx⟩ : ∃ x, statusF l0 = x := ⟨_, rfl⟩
    rw [hx] at h
    dsimp only at h
    split at h
    · cases h
    · rename_i h1
      cases ok with
      | false => exact absurd rfl h1
      | true =>
        cases hg : goP c0 ⟨[], 0, 0, 0⟩ r with
        | none => rw [hg] at h; cases h
        | some q =>
          rw [hg] at h
          dsimp only at h
          split at h
          · cases h
          · rename_i h2
            cases h
            obtain ⟨b1, b2, _⟩ := status_true hx
            refine ⟨goP_good r ⟨fun f hf => (by cases hf), fun h => absurd h (by simp), fun _ => rfl⟩ hg, b1, b2, ?_, ?_, ?_⟩
            · exact Nat.not_lt.1 fun e => h2 (.inl e)
            · exact Nat.not_lt.1 fun e => h2 (.inr (.inl e))
            · exact Classical.not_not.1 fun e => h2 (.inr (.inr e))
theorem read_ok {s : List UInt8} {head : Bool} {c : Nat} {fs : List Fld} {body : List UInt8} {close : Bool} {n : Nat} (hs : s.length ≤ 65536) (h : readF s head = .ok c fs body close n) : n ≤ s.length ∧ RightP (c : Int) fs body ∧ ¬ (close = true ∧ (c : Int) = 101) := by
  unfold readF at h
  cases he : endF s with
  | none => rw [he] at h; dsimp only at h; split at h <;> cases h
  | some e =>
    rw [he] at h
    dsimp only at h
    have hle := endF_le _ _ he
    cases hh : headP (lnsF [] (s.take (e - 4))) with
    | none => rw [hh] at h; cases h
    | some q =>
      obtain ⟨c', p⟩ := q
      rw [hh] at h
      dsimp only at h
      obtain ⟨hg, g1, g2, g3, g4, g5⟩ := headP_good hh
      unfold restP at h
      obtain ⟨k0, hk0⟩ : ∃ k0, k0 = (if head = true then 0 else p.n) := ⟨_, rfl⟩
      rw [← hk0] at h
      split at h
      · cases h
      · rename_i h1
        injection h with h2 h3 h4 h5 h6
        subst h2 h3
        refine ⟨by omega, ⟨by omega, by omega, ?_, fun hn => ?_, hg.all⟩, ?_⟩
        · rw [← h4, List.length_take, List.length_drop]; omega
        · rw [g5, decide_eq_true_eq] at hn
          have : k0 = 0 := by rw [hk0, hg.n hn]; split <;> rfl
          rw [← h4, this, List.take_zero]
        · rintro ⟨e1, e2⟩
          rw [← h5, decide_eq_true_eq] at e1
          exact hg.cls (by omega) (by omega)
end Go.Proofs.YtfdbmbgpcioogaaGreatDoor
/- What is asked of the package of replies. -/
namespace Go.Proofs.YtfdbmbgpcioogaaGreatDoor
open Go.RowKit

/-- A reply's cells. -/
def rpC (c : Int) (V : Value) (body : List UInt8) : Array Value := #[.int .i64 c, V, S body]
def zeroRp : Array Value := #[.int .i64 0, .slice none 0 0, .string ⟨#[]⟩]
def bytesV (o : Option (List UInt8)) : Value := match o with
  | none => .tuple #[S [], .int .i64 1]
  | some s => .tuple #[S s, .int .i64 0]
def bytesO (c : Int) (fs : List Fld) (body : List UInt8) (head close : Bool) : Option (List UInt8) := if mayB c fs body close = true then some (bytesB c fs body head close) else none
/-- What Read hands back. -/
def ReadV (r : Rd) (e : Ending) (w w' : World) : Prop := Below w.heap.size w w' ∧ match r with
  | .short => e = .returned (.tuple #[.agg zeroRp, .bool false, .int .i64 0, .int .i64 7])
  | .form => e = .returned (.tuple #[.agg zeroRp, .bool false, .int .i64 0, .int .i64 8])
  | .ok c fs body close n => ∃ V g, e = .returned (.tuple #[.agg (rpC (c : Int) V body), .bool close, .int .i64 (n : Int), .int .i64 0]) ∧ FldsAt w' V fs g
/-- How much there is in a reply. -/
def rpLen (fs : List Fld) (body : List UInt8) : Nat := fsLen fs + body.length
structure ReplyI (w0 : World) : Prop where
  reason : ∀ (c : Int) (w : World), Below w0.heap.size w0 w → Calls Tryz.prog 11 #[.int .i64 c] w fun e w' => e = .returned (S (rsnF c)) ∧ Below w.heap.size w w'
  right : ∀ (c : Int) (fs : List Fld) (body : List UInt8) (V : Value) (b o : Nat) (w : World), Below w0.heap.size w0 w → FA w V fs b o → rpLen fs body ≤ 80000 →
    Calls Tryz.prog 9 #[.agg (rpC c V body)] w fun e w' => e = .returned (.bool (rightB c fs body)) ∧ Below w.heap.size w w'
  bytes : ∀ (c : Int) (fs : List Fld) (body : List UInt8) (head close : Bool) (V : Value) (b o : Nat) (w : World), Below w0.heap.size w0 w → FA w V fs b o → rpLen fs body ≤ 80000 →
    Calls Tryz.prog 7 #[.agg (rpC c V body), .bool head, .bool close] w fun e w' => e = .returned (bytesV (bytesO c fs body head close)) ∧ Below w.heap.size w w'
  read : ∀ (s : List UInt8) (head : Bool) (w : World), Below w0.heap.size w0 w → s.length ≤ 100000 →
    Calls Tryz.prog 15 #[S s, .bool head] w fun e w' => ReadV (readF s head) e w w'
theorem ReplyI.up {w W : World} (C : ReplyI w) (h : Below w.heap.size w W) : ReplyI W where
  reason := fun c w' h' => C.reason c w' (h.trans (h'.mono h.size))
  right := fun c fs body V b o w' h' => C.right c fs body V b o w' (h.trans (h'.mono h.size))
  bytes := fun c fs body head close V b o w' h' => C.bytes c fs body head close V b o w' (h.trans (h'.mono h.size))
  read := fun s head w' h' => C.read s head w' (h.trans (h'.mono h.size))
end Go.Proofs.YtfdbmbgpcioogaaGreatDoor
/- Bytes compared with numbers. -/
namespace Go.Proofs.YtfdbmbgpcioogaaGreatDoor
open Go.RowKit

theorem B_geq (t : TypeId) (x : UInt8) (k : Int) : binOp .geq t (B x) (.int .u8 k) = pure (.bool (decide (k ≤ (x.toNat : Int)))) := rfl
theorem B_leq (t : TypeId) (x : UInt8) (k : Int) : binOp .leq t (B x) (.int .u8 k) = pure (.bool (decide ((x.toNat : Int) ≤ k))) := rfl
theorem B_add32 (t : TypeId) (x : UInt8) (h : x.toNat ≤ 90) : binOp .add t (B x) (.int .u8 32) = pure (B (x + 32)) := by
  have e : ((x + 32).toNat : Int) = (x.toNat : Int) + 32 := by rw [UInt8.toNat_add]; show (((x.toNat + 32) % 256 : Nat) : Int) = _; omega
  have hw : IntKind.u8.wrap ((x.toNat : Int) + 32) = (x.toNat : Int) + 32 := by rw [IntKind.wrap_u8]; omega
  simp only [B, e]
  show pure (Value.int .u8 (IntKind.u8.wrap ((x.toNat : Int) + 32))) = _
  rw [hw]
theorem neqN (x y : UInt8) : ((x.toNat : Int) != (y.toNat : Int)) = !(x == y) := by
  rw [bne, beqB]
theorem eguard_BN (o1 o2 : Operand) (x : UInt8) (k : Int) : eqGuard .eql 5 o1 o2 (B x) (.int .u8 k) = pure () := rfl
theorem nguard_BN (o1 o2 : Operand) (x : UInt8) (k : Int) : eqGuard .neq 5 o1 o2 (B x) (.int .u8 k) = pure () := rfl
theorem B_neqN (t : TypeId) (x : UInt8) (k : Int) : binOp .neq t (B x) (.int .u8 k) = pure (.bool ((x.toNat : Int) != k)) := rfl
theorem B_eqlN (t : TypeId) (x : UInt8) (k : Int) : binOp .eql t (B x) (.int .u8 k) = pure (.bool ((x.toNat : Int) == k)) := rfl
theorem bad_facts (c : UInt8) : (badB c = false ∧ ((c.toNat : Int) != 9) = false ∧ (c.toNat != 9) = false) ∨
    (badB c = true ∧ ((c.toNat : Int) != 9) = true ∧ (c.toNat != 9) = true ∧ decide ((c.toNat : Int) < 32) = true ∧ decide (c.toNat < 32) = true) ∨
    (badB c = true ∧ ((c.toNat : Int) != 9) = true ∧ (c.toNat != 9) = true ∧ decide ((c.toNat : Int) < 32) = false ∧ decide (c.toNat < 32) = false ∧ ((c.toNat : Int) == 127) = true ∧ (c.toNat == 127) = true) ∨
    (badB c = false ∧ ((c.toNat : Int) != 9) = true ∧ (c.toNat != 9) = true ∧ decide ((c.toNat : Int) < 32) = false ∧ decide (c.toNat < 32) = false ∧ ((c.toNat : Int) == 127) = false ∧ (c.toNat == 127) = false) := by
  have e9 : ((c.toNat : Int) != 9) = (c.toNat != 9) := by rw [Bool.eq_iff_iff, bne_iff_ne, bne_iff_ne]; omega
  have e32 : decide ((c.toNat : Int) < 32) = decide (c.toNat < 32) := by rw [Bool.eq_iff_iff, decide_eq_true_iff, decide_eq_true_iff]; omega
  have e127 : ((c.toNat : Int) == 127) = (c.toNat == 127) := by rw [Bool.eq_iff_iff, beq_iff_eq, beq_iff_eq]; omega
  unfold badB
  rw [e9, e32, e127]
  cases h9 : c.toNat != 9 <;> cases h32 : decide (c.toNat < 32) <;> cases h127 : c.toNat == 127 <;> simp
theorem colon_facts (c : UInt8) : (c = 58 ∧ ((c.toNat : Int) != 58) = false ∧ (c.toNat != 58) = false) ∨ (c ≠ 58 ∧ ((c.toNat : Int) != 58) = true ∧ (c.toNat != 58) = true) := by
  by_cases h : c = 58
  · subst h; exact .inl ⟨rfl, rfl, rfl⟩
  · have h2 : c.toNat ≠ 58 := fun e => h (UInt8.toNat_inj.1 (by rw [e]; rfl))
    exact .inr ⟨h, by rw [bne_iff_ne]; omega, by rw [bne_iff_ne]; exact h2⟩
theorem blank_facts (c : UInt8) : (blankB c = true ∧ ((c.toNat : Int) == 9) = true ∧ (c.toNat == 9) = true) ∨ (blankB c = true ∧ ((c.toNat : Int) == 9) = false ∧ (c.toNat == 9) = false ∧ ((c.toNat : Int) == 32) = true ∧ (c.toNat == 32) = true) ∨
    (blankB c = false ∧ ((c.toNat : Int) == 9) = false ∧ (c.toNat == 9) = false ∧ ((c.toNat : Int) == 32) = false ∧ (c.toNat == 32) = false) := by
  unfold blankB
  have e9 : ((c.toNat : Int) == 9) = (c.toNat == 9) := by rw [Bool.eq_iff_iff, beq_iff_eq, beq_iff_eq]; omega
  have e32 : ((c.toNat : Int) == 32) = (c.toNat == 32) := by rw [Bool.eq_iff_iff, beq_iff_eq, beq_iff_eq]; omega
  rw [e9, e32]
  cases h9 : c.toNat == 9 <;> cases h32 : c.toNat == 32 <;> simp
theorem comma_facts (c : UInt8) : (c = 44 ∧ ((c.toNat : Int) == 44) = true ∧ (c.toNat == 44) = true) ∨ (c ≠ 44 ∧ ((c.toNat : Int) == 44) = false ∧ (c.toNat == 44) = false) := by
  by_cases h : c = 44
  · subst h; exact .inl ⟨rfl, rfl, rfl⟩
  · have h2 : c.toNat ≠ 44 := fun e => h (UInt8.toNat_inj.1 (by rw [e]; rfl))
    exact .inr ⟨h, by rw [beq_eq_false_iff_ne]; omega, by rw [beq_eq_false_iff_ne]; exact h2⟩
theorem B_sub65 (t : TypeId) (x : UInt8) (h : 65 ≤ x.toNat) : binOp .sub t (B x) (.int .u8 65) = pure (.int .u8 ((x.toNat : Int) - 65)) := by
  have := x.toNat_lt
  have hw : IntKind.u8.wrap ((x.toNat : Int) - 65) = (x.toNat : Int) - 65 := by rw [IntKind.wrap_u8]; omega
  simp only [B]
  show pure (Value.int .u8 (IntKind.u8.wrap ((x.toNat : Int) - 65))) = _
  rw [hw]
theorem add97 (t : TypeId) (x : UInt8) (h : 65 ≤ x.toNat) (h2 : x.toNat ≤ 90) : binOp .add t (.int .u8 ((x.toNat : Int) - 65)) (.int .u8 97) = pure (B (x + 32)) := by
  have e : ((x + 32).toNat : Int) = (x.toNat : Int) + 32 := by rw [UInt8.toNat_add]; show (((x.toNat + 32) % 256 : Nat) : Int) = _; omega
  have hw : IntKind.u8.wrap ((x.toNat : Int) - 65 + 97) = (x.toNat : Int) + 32 := by rw [IntKind.wrap_u8]; omega
  simp only [B, e]
  show pure (Value.int .u8 (IntKind.u8.wrap ((x.toNat : Int) - 65 + 97))) = _
  rw [hw]
end Go.Proofs.YtfdbmbgpcioogaaGreatDoor
/- The document's tokens walked. -/
namespace Go.Proofs.YtfdbmbgpcioogaaGreatDoor
open Go.RowKit

section
attribute [local go_sem] store_one S_match S_store S_add eql_S guard_S neql_S nguard_S B_eql eguard_B
theorem tok_index (i : Nat) (x : UInt8) (hx : tokAll[i]? = some x) (w : World) : (Instr.index 9 (.string ⟨([65, 66, 67, 68, 69, 70, 71, 72, 73, 74, 75, 76, 77, 78, 79, 80, 81, 82, 83, 84, 85, 86, 87, 88, 89, 90, 97, 98, 99, 100, 101, 102, 103, 104, 105, 106, 107, 108].append [109, 110, 111, 112, 113, 114, 115, 116, 117, 118, 119, 120, 121, 122, 48, 49, 50, 51, 52, 53, 54, 55, 56, 57, 33, 35, 36, 37, 38, 39, 42, 43, 45, 46, 94, 95, 96, 124, 126]).toArray⟩) (.int .i64 (i : Int))).run Tryz.prog w = .ok (B x) w :=
  index_text Tryz.underlying9 _ tokAll rfl i x hx w
theorem lit_B (s : ByteArray) (i : Nat) (h : i < s.size) (x : UInt8) (hl : s.data.toList[i]? = some x) : Value.int .u8 (((s[i]'h).toNat : Nat) : Int) = B x := by
  have e : s[i]'h = x := by
    rw [get_text s i h] at hl
    exact Option.some.inj hl
  rw [e, B]
set_option maxRecDepth 100000 in
set_option maxHeartbeats 400000 in
theorem tokens_any (c : UInt8) (w : World) : Calls Tryz.prog 39 #[B c] w fun e w' => e = .returned (.bool (tokB c)) ∧ w' = w := by
  go_enter Tryz.func39, Tryz.ntmps39
  go_wp2
  go_loopw [3] (fun iv wr => ∃ i : Nat, i ≤ 77 ∧ iv = .int .i64 (i : Int) ∧ wr = w ∧ (tokAll.take i).contains c = false) (fun iv _ => 77 - (intOf iv).toNat)
  case atStart => exact ⟨0, by omega, rfl, rfl, rfl⟩
  case round =>
    obtain ⟨i, hi, rfl, rfl, hn⟩ := hrel
    by_cases hlt : i < 77
    · obtain ⟨x, hx⟩ : ∃ x, tokAll[i]? = some x := ⟨tokAll[i]'hlt, List.getElem?_eq_getElem _⟩
      have hnx := take_contains hx hn
      clear hn
      have hx2 := beqB x c
      cases hxc : (x == c) with
      | true =>
        rw [hxc] at hnx hx2
        have HN : Hid (tokB c = true) := Lib.hid (by
          unfold tokB
          rw [← List.take_append_drop (i + 1) tokAll, List.contains_eq_any_beq, List.any_append, ← List.contains_eq_any_beq, hnx, Bool.true_or])
        clear hnx
        go_wp2
        rw [lit_B _ i _ x hx]
        go_simp
        go_wp2
        go_ret
        exact ⟨by rw [HN.out]; rfl, rfl⟩
      | false =>
        rw [hxc] at hnx hx2
        have HN := Lib.hid hnx
        clear hnx
        go_wp2
        rw [lit_B _ i _ x hx]
        go_simp
        go_wp2
        exact ⟨⟨i + 1, by omega, by go_num, by trivial, HN.out⟩, by simp [intOf]; omega⟩
    · obtain rfl : i = 77 := by omega
      have HN : Hid (tokB c = false) := Lib.hid (by rw [List.take_of_length_le (by decide)] at hn; exact hn)
      clear hn
      go_wp2
      go_ret
      exact ⟨by rw [HN.out]; rfl, rfl⟩
end
end Go.Proofs.YtfdbmbgpcioogaaGreatDoor
/- The document's Token walked. -/
namespace Go.Proofs.YtfdbmbgpcioogaaGreatDoor
open Go.RowKit
attribute [local go_sem] store_one S_match S_store
end Go.Proofs.YtfdbmbgpcioogaaGreatDoor
/- The document's in, hex, and Status walked. -/
namespace Go.Proofs.YtfdbmbgpcioogaaGreatDoor
open Go.RowKit
attribute [local go_sem] store_one S_match S_store eguard_BN nguard_BN

theorem B_lssN (t : TypeId) (x : UInt8) (k : Int) : binOp .lss t (B x) (.int .u8 k) = pure (.bool (decide ((x.toNat : Int) < k))) := rfl
theorem B_gtrN (t : TypeId) (x : UInt8) (k : Int) : binOp .gtr t (B x) (.int .u8 k) = pure (.bool (decide (k < (x.toNat : Int)))) := rfl
/-! The document's Status. -/
theorem status_short {s : List UInt8} (h : s.length < 13) : statusF s = (0, [], false) := by
  unfold statusF
  split
  · rename_i a b c r hd
    have := congrArg List.length hd
    simp at this
    omega
  · rfl
theorem four_of {s : List UInt8} (h : 13 ≤ s.length) : ∃ p a b c d r, s = p ++ (a :: b :: c :: d :: r) ∧ p.length = 9 ∧ p = s.take 9 := by
  have hd : s.drop 9 = s.drop 9 := rfl
  rcases h9 : s.drop 9 with _ | ⟨a, _ | ⟨b, _ | ⟨c, _ | ⟨d, r⟩⟩⟩⟩
  · have := congrArg List.length h9; simp at this; omega
  · have := congrArg List.length h9; simp at this; omega
  · have := congrArg List.length h9; simp at this; omega
  · have := congrArg List.length h9; simp at this; omega
  · exact ⟨s.take 9, a, b, c, d, r, by rw [← h9, List.take_append_drop], by rw [List.length_take]; omega, rfl⟩
/-- Of the first k digits the number. -/
def valN (x : Nat → UInt8) : Nat → Nat
  | 0 => 0
  | k + 1 => 10 * valN x k + (x k).toNat - 48
end Go.Proofs.YtfdbmbgpcioogaaGreatDoor
/- The document's Bare, size, number, Reason (stage 10) walked. -/
namespace Go.Proofs.YtfdbmbgpcioogaaGreatDoor
open Go.RowKit
attribute [local go_sem] store_one S_match S_store eguard_BN nguard_BN

set_option maxRecDepth 100000 in
set_option maxHeartbeats 400000 in
theorem dbare10_any (c : Int) (w : World) : Calls Tryz.prog 23 #[.int .i64 c] w fun e w' => e = .returned (.bool (nobB c)) ∧ w' = w := by
  by_cases h0 : c < 200
  · have g0 : decide (c < 200) = true := decide_eq_true h0
    have HP : Hid (nobB c = true) := Lib.hid (by unfold nobB; rw [g0]; rfl)
    clear h0
    go_enter Tryz.func23, Tryz.ntmps23
    go_wp2
    go_ret
    exact ⟨by rw [HP.out]; rfl, rfl⟩
  · have g0 : decide (c < 200) = false := decide_eq_false h0
    have HG := Lib.hid g0
    clear h0
    by_cases h1 : c = 204
    · have g1 : (c == 204) = true := beq_iff_eq.2 h1
      have HP : Hid (nobB c = true) := Lib.hid (by unfold nobB; rw [g1]; simp)
      clear h1
      go_enter Tryz.func23, Tryz.ntmps23
      go_wp2
      go_ret
      exact ⟨by rw [HP.out]; rfl, rfl⟩
    · have g1 : (c == 204) = false := beq_eq_false_iff_ne.2 h1
      have HG1 := Lib.hid g1
      clear h1
      have HP : Hid (nobB c = (c == 304)) := Lib.hid (by unfold nobB; rw [HG.out, HG1.out]; rfl)
      go_enter Tryz.func23, Tryz.ntmps23
      go_wp2
      go_ret
      exact ⟨by rw [HP.out]; rfl, rfl⟩
theorem sz_no {n : Nat} {c : UInt8} {r : List UInt8} (h : ¬ (48 ≤ c.toNat ∧ c.toNat ≤ 57)) : szGo n (c :: r) = none := by rw [szGo, if_neg h]
theorem sz_on {n : Nat} {c : UInt8} {r : List UInt8} (h : 48 ≤ c.toNat ∧ c.toNat ≤ 57) : szGo n (c :: r) = szGo (10 * n + (c.toNat - 48)) r := by rw [szGo, if_pos h]
theorem B_lssP (t : TypeId) (x : UInt8) (k : Int) : binOp .lss t (B x) (.int .u8 k) = pure (.bool (decide ((x.toNat : Int) < k))) := rfl
theorem B_gtrP (t : TypeId) (x : UInt8) (k : Int) : binOp .gtr t (B x) (.int .u8 k) = pure (.bool (decide (k < (x.toNat : Int)))) := rfl
def optW (o : Option Nat) : Value := match o with
  | none => .int .i64 (-1)
  | some x => .int .i64 (x : Int)
set_option maxRecDepth 100000 in
set_option maxHeartbeats 1000000 in
theorem dsize_any (s : List UInt8) (hs : s.length ≤ 1000000) (w : World) : Calls Tryz.prog 43 #[S s] w fun e w' => e = .returned (optW (szF s)) ∧ w' = w := by
  have hlen := run_len_S (P := Tryz.prog) Tryz.underlying9 3 s
  by_cases h0 : s.length = 0
  · have g0 : ((s.length : Int) == 0) = true := by rw [beq_iff_eq]; omega
    have HP : Hid (szF s = none) := Lib.hid (by unfold szF; rw [if_pos (.inl h0)])
    clear h0
    go_enter Tryz.func43, Tryz.ntmps43
    go_wp2
    go_ret
    exact ⟨by rw [HP.out]; rfl, rfl⟩
  have g0 : ((s.length : Int) == 0) = false := by rw [beq_eq_false_iff_ne]; omega
  by_cases h6 : 6 < s.length
  · have g6 : decide ((6 : Int) < (s.length : Int)) = true := decide_eq_true (by omega)
    have HP : Hid (szF s = none) := Lib.hid (by unfold szF; rw [if_pos (.inr h6)])
    clear h0 h6
    go_enter Tryz.func43, Tryz.ntmps43
    go_wp2
    go_ret
    exact ⟨by rw [HP.out]; rfl, rfl⟩
  have g6 : decide ((6 : Int) < (s.length : Int)) = false := decide_eq_false (by omega)
  obtain ⟨L, hL⟩ : ∃ L, L = s.length := ⟨_, rfl⟩
  rw [← hL] at hlen hs g0 h0 g6 h6
  have HL := Lib.hid hL
  clear hL
  obtain ⟨O, hO⟩ : ∃ O, O = szF s := ⟨_, rfl⟩
  rw [← hO]
  have hO2 : O = szGo 0 s := by rw [hO]; unfold szF; rw [if_neg (by have := HL.out; omega)]
  have h0' : decide (L = 0) = false := decide_eq_false h0
  clear hO h0
  go_enter Tryz.func43, Tryz.ntmps43
  go_wp2
  go_loopw [3, 4] (fun nv iv wr => ∃ n i : Nat, i ≤ L ∧ n < 10 ^ i ∧ nv = .int .i64 (n : Int) ∧ iv = .int .i64 (i : Int) ∧ wr = w ∧ O = szGo n (s.drop i)) (fun _ iv _ => L - (intOf iv).toNat)
  case atStart => exact ⟨0, 0, Nat.zero_le _, by omega, rfl, rfl, rfl, by rw [List.drop_zero]; exact hO2⟩
  case round =>
    obtain ⟨n, i, hi, hn5, rfl, rfl, hwr, hn⟩ := hrel
    subst hwr
    clear hO2
    have hn6 : n < 1000000 := Nat.lt_of_lt_of_le hn5 (Nat.pow_le_pow_right (by omega : 0 < 10) (by omega : i ≤ 6))
    have HN5 : Hid (∀ y : Nat, y ≤ 9 → 10 * n + y < 10 ^ (i + 1)) := Lib.hid fun y hy => by rw [Nat.pow_succ]; omega
    clear hn5
    have hw1 : IntKind.i64.wrap ((i : Int) + 1) = (i : Int) + 1 := by rw [IntKind.wrap_i64]; omega
    by_cases hlt : i < L
    · obtain ⟨c, hc⟩ : ∃ c, s[i]? = some c := ⟨s[i]'(by have := HL.out; omega), List.getElem?_eq_getElem _⟩
      have hidx : ∀ w, (Instr.index 9 (S s) (.int .i64 (i : Int))).run Tryz.prog w = .ok (B c) w := fun w => index_S (P := Tryz.prog) Tryz.underlying9 s i c hc w
      have hdr : s.drop i = c :: s.drop (i + 1) := by
        rw [List.drop_eq_getElem_cons (by rw [← HL.out]; exact hlt), (List.getElem?_eq_some_iff.1 hc).2]
      rw [hdr] at hn
      have q1 := B_lssP 5 c 48
      have q2 := B_gtrP 5 c 57
      rcases (by omega : c.toNat < 48 ∨ (48 ≤ c.toNat ∧ c.toNat ≤ 57) ∨ 57 < c.toNat) with a | a | a
      · have HP : Hid (O = none) := Lib.hid (by rw [hn, sz_no (by omega)])
        rw [decide_eq_true (by omega)] at q1
        clear hn hc hdr a q2
        go_wp2
        go_ret
        exact ⟨by rw [HP.out]; rfl, rfl⟩
      · rw [decide_eq_false (by omega)] at q1 q2
        rw [sz_on a] at hn
        have c0 : ∀ w, (convert 5 3 (B c)).run Tryz.prog w = .ok (.int .i64 (c.toNat : Int)) w := fun w => conv_byte (P := Tryz.prog) Tryz.underlying5 Tryz.underlying3 c w
        obtain ⟨y, hy⟩ : ∃ y : Nat, y = c.toNat := ⟨_, rfl⟩
        rw [← hy] at c0 hn a
        have hw2 : IntKind.i64.wrap (10 * (n : Int)) = 10 * (n : Int) := by rw [IntKind.wrap_i64]; omega
        have hw3 : IntKind.i64.wrap (10 * (n : Int) + (y : Int)) = 10 * (n : Int) + (y : Int) := by rw [IntKind.wrap_i64]; omega
        obtain ⟨z, hz⟩ : ∃ z : Nat, z = 10 * n + (y - 48) := ⟨_, rfl⟩
        have hw5 : IntKind.i64.wrap (10 * (n : Int) + (y : Int) - 48) = (z : Int) := by rw [IntKind.wrap_i64]; omega
        have HZ : Hid (z < 10 ^ (i + 1)) := Lib.hid (by rw [hz]; exact HN5.out _ (by omega))
        rw [← hz] at hn
        have HX := Lib.hid hn
        clear hn hc hdr a hz hy
        go_wp2
        exact ⟨⟨z, i + 1, by omega, HZ.out, rfl, by go_num, by trivial, HX.out⟩, by simp [intOf]; omega⟩
      · have HP : Hid (O = none) := Lib.hid (by rw [hn, sz_no (by omega)])
        rw [decide_eq_false (by omega)] at q1
        rw [decide_eq_true (by omega)] at q2
        clear hn hc hdr a
        go_wp2
        go_ret
        exact ⟨by rw [HP.out]; rfl, rfl⟩
    · have HP : Hid (O = some n) := Lib.hid (by rw [hn, List.drop_of_length_le (by have := HL.out; omega)]; rfl)
      clear hn
      go_wp2
      go_ret
      exact ⟨by rw [HP.out]; rfl, rfl⟩
end Go.Proofs.YtfdbmbgpcioogaaGreatDoor
/- The document's number and Reason (stage 10) walked. -/
namespace Go.Proofs.YtfdbmbgpcioogaaGreatDoor
open Go.RowKit
attribute [local go_sem] store_one B_match B_store S_match S_store eguard_BN nguard_BN

theorem conv_byte1 {W : World} {b : Nat} {c : UInt8} {q : Nat} (h : Row W b #[B c] 5) : (convert 43 9 (.slice (some ⟨b, 0, none⟩) 1 q)).run Tryz.prog W = .ok (S [c]) W := by
  refine run_convert_bytes_back (P := Tryz.prog) _ 43 9 5 ⟨b, 0, none⟩ q [c] Tryz.underlying43 Tryz.underlying5 Tryz.underlying9 (fun j hj => ?_)
  obtain rfl : j = 0 := by simpa using hj
  rw [Addr.add_mid]
  exact cell_of_row _ _ 0 _ 5 (0, 0) h
set_option maxRecDepth 100000 in
set_option maxHeartbeats 400000 in
theorem dnumber10_any (n : Nat) : n ≤ 100000000 → ∀ w, Calls Tryz.prog 22 #[.int .i64 (n : Int)] w fun e w' => e = .returned (S (Lib.decDigits n)) ∧ Below w.heap.size w w' := by
  induction n using Nat.strongRecOn with
  | _ n ih =>
  intro hn w
  by_cases h10 : n < 10
  · have g0 : decide ((n : Int) < 10) = true := decide_eq_true (by omega)
    have hd : Lib.decDigits n = [UInt8.ofNat (48 + n)] := by rw [Lib.decDigits, dif_pos h10]
    rw [hd]
    obtain ⟨c, hc⟩ : ∃ c, c = UInt8.ofNat (48 + n) := ⟨_, rfl⟩
    rw [← hc]
    have hcn : c.toNat = 48 + n := by rw [hc]; exact dig_nat (by omega)
    have hw1 : IntKind.i64.wrap (48 + (n : Int)) = ((c.toNat : Nat) : Int) := by rw [IntKind.wrap_i64]; omega
    have hcv := fun q => conv_byte1 (c := c) (q := q) (row_new w #[B c] 5)
    have hcc : ∀ w, (convert 3 5 (.int .i64 ((c.toNat : Nat) : Int))).run Tryz.prog w = .ok (B c) w := fun w => by
      have := conv_num (P := Tryz.prog) Tryz.underlying5 Tryz.underlying3 c.toNat w
      rw [UInt8.ofNat_toNat] at this
      exact this
    clear hd hc hcn h10 ih
    go_enter Tryz.func22, Tryz.ntmps22
    go_wp2
    go_ret
    exact ⟨rfl, (Below.refl _ w).alloc (Nat.le_refl _) _⟩
  · have g0 : decide ((n : Int) < 10) = false := decide_eq_false (by omega)
    have hd : Lib.decDigits n = Lib.decDigits (n / 10) ++ Lib.decDigits (n % 10) := by
      rw [Lib.decDigits, dif_neg h10]
      rw [show Lib.decDigits (n % 10) = [UInt8.ofNat (48 + n % 10)] by rw [Lib.decDigits, dif_pos (by omega)]]
    have h1 := ih (n / 10) (by omega) (by omega)
    have h2 := ih (n % 10) (by omega) (by omega)
    have hl1 := dec_len 8 (n / 10) (by omega)
    have hl2 := dec_len 1 (n % 10) (by omega)
    rw [hd]
    obtain ⟨X, hX⟩ : ∃ X, X = Lib.decDigits (n / 10) := ⟨_, rfl⟩
    obtain ⟨Y, hY⟩ : ∃ Y, Y = Lib.decDigits (n % 10) := ⟨_, rfl⟩
    rw [← hX] at h1 hl1 ⊢
    rw [← hY] at h2 hl2 ⊢
    have hadd : binOp .add 9 (S X) (S Y) = pure (S (X ++ Y)) := S_add 9 X Y (by omega)
    have q1 : (n : Int).tdiv 10 = ((n / 10 : Nat) : Int) := by rw [Int.tdiv_eq_ediv_of_nonneg (by omega)]; omega
    have q2 : (n : Int).tmod 10 = ((n % 10 : Nat) : Int) := by rw [Int.tmod_eq_emod_of_nonneg (by omega)]; omega
    obtain ⟨a, ha⟩ : ∃ a : Nat, a = n / 10 := ⟨_, rfl⟩
    obtain ⟨b, hb⟩ : ∃ b : Nat, b = n % 10 := ⟨_, rfl⟩
    rw [← ha] at q1 h1
    rw [← hb] at q2 h2
    have hw1 : IntKind.i64.wrap ((a : Nat) : Int) = (a : Int) := by rw [IntKind.wrap_i64]; omega
    have H1 := Lib.hid h1
    have H2 := Lib.hid h2
    have r1 : (n : Int) / 10 = (a : Int) := by omega
    have r2 : (n : Int) % 10 = (b : Int) := by omega
    clear hd ih h10 hX hY ha hb h1 h2 hl1 hl2
    go_enter Tryz.func22, Tryz.ntmps22
    go_wp2_with fail
    refine (H1.out _).mono ?_
    rintro e W1 ⟨rfl, hB1⟩
    have HB1 := Lib.hid hB1
    clear hB1
    go_wp2_with fail
    refine (H2.out _).mono ?_
    rintro e W2 ⟨rfl, hB2⟩
    have HB2 := Lib.hid hB2
    clear hB2
    go_wp2
    go_ret
    exact ⟨rfl, HB1.out.trans (HB2.out.mono HB1.out.size)⟩
end Go.Proofs.YtfdbmbgpcioogaaGreatDoor
/- The document's Reason and Same (stage 10) walked. (mkpd.py writes it.) -/
namespace Go.Proofs.YtfdbmbgpcioogaaGreatDoor
open Go.RowKit
attribute [local go_sem] store_one S_match S_store eguard_BN nguard_BN

def cdsL : List Nat := [101, 200, 400, 403, 404, 405, 413, 426, 431]
def nmsL : List (List UInt8) := [[83, 119, 105, 116, 99, 104, 105, 110, 103, 32, 80, 114, 111, 116, 111, 99, 111, 108, 115], [79, 75], [66, 97, 100, 32, 82, 101, 113, 117, 101, 115, 116], [70, 111, 114, 98, 105, 100, 100, 101, 110], [78, 111, 116, 32, 70, 111, 117, 110, 100], [77, 101, 116, 104, 111, 100, 32, 78, 111, 116, 32, 65, 108, 108, 111, 119, 101, 100], [67, 111, 110, 116, 101, 110, 116, 32, 84, 111, 111, 32, 76, 97, 114, 103, 101], [85, 112, 103, 114, 97, 100, 101, 32, 82, 101, 113, 117, 105, 114, 101, 100], [82, 101, 113, 117, 101, 115, 116, 32, 72, 101, 97, 100, 101, 114, 32, 70, 105, 101, 108, 100, 115, 32, 84, 111, 111, 32, 76, 97, 114, 103, 101]]
theorem rsn_hit : ∀ (i : Nat) (c : Nat) (x : List UInt8), cdsL[i]? = some c → nmsL[i]? = some x → rsnF (c : Int) = x := by
  intro i c x h1 h2
  match i with
  | 0 =>
    simp only [cdsL, nmsL, List.getElem?_cons_zero, Option.some.injEq] at h1 h2
    subst h1 h2; decide
  | 1 =>
    simp only [cdsL, nmsL, List.getElem?_cons_zero, List.getElem?_cons_succ, Option.some.injEq] at h1 h2
    subst h1 h2; decide
  | 2 =>
    simp only [cdsL, nmsL, List.getElem?_cons_zero, List.getElem?_cons_succ, Option.some.injEq] at h1 h2
    subst h1 h2; decide
  | 3 =>
    simp only [cdsL, nmsL, List.getElem?_cons_zero, List.getElem?_cons_succ, Option.some.injEq] at h1 h2
    subst h1 h2; decide
  | 4 =>
    simp only [cdsL, nmsL, List.getElem?_cons_zero, List.getElem?_cons_succ, Option.some.injEq] at h1 h2
    subst h1 h2; decide
  | 5 =>
    simp only [cdsL, nmsL, List.getElem?_cons_zero, List.getElem?_cons_succ, Option.some.injEq] at h1 h2
    subst h1 h2; decide
  | 6 =>
    simp only [cdsL, nmsL, List.getElem?_cons_zero, List.getElem?_cons_succ, Option.some.injEq] at h1 h2
    subst h1 h2; decide
  | 7 =>
    simp only [cdsL, nmsL, List.getElem?_cons_zero, List.getElem?_cons_succ, Option.some.injEq] at h1 h2
    subst h1 h2; decide
  | 8 =>
    simp only [cdsL, nmsL, List.getElem?_cons_zero, List.getElem?_cons_succ, Option.some.injEq] at h1 h2
    subst h1 h2; decide
  | i + 9 => simp [cdsL] at h1
theorem rsn_miss (c : Int) (h : ∀ (j d : Nat), cdsL[j]? = some d → c ≠ (d : Int)) : rsnF c = [83, 116, 97, 116, 117, 115] := by
  unfold rsnF
  rw [if_neg (show c ≠ 101 from h 0 101 rfl)]
  rw [if_neg (show c ≠ 200 from h 1 200 rfl)]
  rw [if_neg (show c ≠ 400 from h 2 400 rfl)]
  rw [if_neg (show c ≠ 403 from h 3 403 rfl)]
  rw [if_neg (show c ≠ 404 from h 4 404 rfl)]
  rw [if_neg (show c ≠ 405 from h 5 405 rfl)]
  rw [if_neg (show c ≠ 413 from h 6 413 rfl)]
  rw [if_neg (show c ≠ 426 from h 7 426 rfl)]
  rw [if_neg (show c ≠ 431 from h 8 431 rfl)]
set_option maxRecDepth 100000 in
set_option maxHeartbeats 1000000 in
theorem dreason_any (c : Int) (w : World) : Calls Tryz.prog 12 #[.int .i64 c] w fun e w' => e = .returned (S (rsnF c)) ∧ Below w.heap.size w w' := by
  obtain ⟨b1, hb1⟩ : ∃ b, b = w.heap.size := ⟨_, rfl⟩
  obtain ⟨b2, hb2⟩ : ∃ b, b = w.heap.size + 1 := ⟨_, rfl⟩
  obtain ⟨W2, hW2⟩ : ∃ W, W = (w.alloc (.cells (cdsL.map fun n => .int .i64 (n : Int)).toArray 3)).alloc (.cells (nmsL.map S).toArray 9) := ⟨_, rfl⟩
  have hW2' : W2 = (w.alloc (.cells #[.int .i64 101, .int .i64 200, .int .i64 400, .int .i64 403, .int .i64 404, .int .i64 405, .int .i64 413, .int .i64 426, .int .i64 431] 3)).alloc (.cells #[.string ⟨#[83, 119, 105, 116, 99, 104, 105, 110, 103, 32, 80, 114, 111, 116, 111, 99, 111, 108, 115]⟩, .string ⟨#[79, 75]⟩, .string ⟨#[66, 97, 100, 32, 82, 101, 113, 117, 101, 115, 116]⟩, .string ⟨#[70, 111, 114, 98, 105, 100, 100, 101, 110]⟩, .string ⟨#[78, 111, 116, 32, 70, 111, 117, 110, 100]⟩, .string ⟨#[77, 101, 116, 104, 111, 100, 32, 78, 111, 116, 32, 65, 108, 108, 111, 119, 101, 100]⟩, .string ⟨#[67, 111, 110, 116, 101, 110, 116, 32, 84, 111, 111, 32, 76, 97, 114, 103, 101]⟩, .string ⟨#[85, 112, 103, 114, 97, 100, 101, 32, 82, 101, 113, 117, 105, 114, 101, 100]⟩, .string ⟨#[82, 101, 113, 117, 101, 115, 116, 32, 72, 101, 97, 100, 101, 114, 32, 70, 105, 101, 108, 100, 115, 32, 84, 111, 111, 32, 76, 97, 114, 103, 101]⟩] 9) := hW2
  have hr1 : Row W2 b1 (cdsL.map fun n => .int .i64 (n : Int)).toArray 3 := by rw [hW2, hb1]; exact (row_new w _ _).alloc _
  have hr2 : Row W2 b2 (nmsL.map S).toArray 9 := by
    have := row_new (w.alloc (.cells (cdsL.map fun n => .int .i64 (n : Int)).toArray 3)) (nmsL.map S).toArray 9
    rw [alloc_size] at this
    rw [hW2, hb2]; exact this
  have HB2 : Hid (Below w.heap.size w W2) := Lib.hid (by rw [hW2]; exact ((Below.refl _ w).alloc (Nat.le_refl _) _).alloc (by simp) _)
  have HR := Lib.hid (And.intro hr1 hr2)
  clear hr1 hr2 hW2
  go_enter Tryz.func12, Tryz.ntmps12
  go_wp2_with fail
  all_goals try rw [← hW2', ← hb2, ← hb1]
  clear hW2' hb1 hb2
  go_loopw [5] (fun iv wr => ∃ i : Nat, i ≤ 9 ∧ iv = .int .i64 (i : Int) ∧ wr = W2 ∧ Hid (∀ (j d : Nat), j < i → cdsL[j]? = some d → c ≠ (d : Int))) (fun iv _ => 9 - (intOf iv).toNat)
  case atStart => exact ⟨0, Nat.zero_le _, rfl, rfl, Lib.hid fun j d hj => absurd hj (by omega)⟩
  case round =>
    obtain ⟨i, hi, rfl, hwr, HN⟩ := hrel
    subst hwr
    have hw1 : IntKind.i64.wrap ((i : Int) + 1) = (i : Int) + 1 := by rw [IntKind.wrap_i64]; omega
    by_cases hlt : i < 9
    · obtain ⟨d, hd⟩ : ∃ d, cdsL[i]? = some d := ⟨cdsL[i]'(by show i < 9; omega), List.getElem?_eq_getElem _⟩
      obtain ⟨x, hx⟩ : ∃ x, nmsL[i]? = some x := ⟨nmsL[i]'(by show i < 9; omega), List.getElem?_eq_getElem _⟩
      have g1 : decide ((i : Int) < 9) = true := decide_eq_true (by omega)
      have c0 : wr.cell? ⟨b1, i, none⟩ = some (.int .i64 (d : Int)) := by
        rw [cell_of_row wr b1 i _ 3 (0, 0) HR.out.1, List.getElem?_toArray, List.getElem?_map, hd]; rfl
      have c1 : wr.cell? ⟨b2, i, none⟩ = some (S x) := by
        rw [cell_of_row wr b2 i _ 9 (0, 0) HR.out.2, List.getElem?_toArray, List.getElem?_map, hx]; rfl
      by_cases hc : c = (d : Int)
      · have q1 : ((d : Int) == c) = true := by rw [beq_iff_eq]; omega
        have HP : Hid (rsnF c = x) := Lib.hid (by rw [hc]; exact rsn_hit i d x hd hx)
        clear hc hd hx
        go_wp2
        go_ret
        exact ⟨by rw [HP.out]; rfl, HB2.out⟩
      · have q1 : ((d : Int) == c) = false := by rw [beq_eq_false_iff_ne]; omega
        have HN2 : Hid (∀ (j d : Nat), j < i + 1 → cdsL[j]? = some d → c ≠ (d : Int)) := Lib.hid fun j d' hj hd' => by
          by_cases e : j = i
          · subst e; rw [hd] at hd'; cases hd'; exact hc
          · exact HN.out j d' (by omega) hd'
        clear hc hd hx c1
        go_wp2
        exact ⟨⟨i + 1, by omega, by go_num, by trivial, HN2⟩, by simp [intOf]; omega⟩
    · obtain rfl : i = 9 := by omega
      have HP : Hid (rsnF c = [83, 116, 97, 116, 117, 115]) := Lib.hid (rsn_miss c fun j d hd => HN.out j d (List.getElem?_eq_some_iff.1 hd).1 hd)
      go_wp2
      go_ret
      exact ⟨by rw [HP.out]; rfl, HB2.out⟩
set_option maxRecDepth 100000 in
set_option maxHeartbeats 2000000 in
theorem dsame10_true (c : Int) (body : List UInt8) (fs : List Fld) (Va Vb : Value) (ga oa gb ob : Nat) (hlen : fs.length ≤ 1000000) (w : World) (ha : FA w Va fs ga oa) (hb : FA w Vb fs gb ob) :
    Calls Tryz.prog 16 #[.agg (rpC c Va body), .agg (rpC c Vb body)] w fun e w' => e = .returned (.bool true) ∧ Below w.heap.size w w' := by
  unfold rpC
  obtain ⟨b1, hb1⟩ : ∃ b, b = w.heap.size := ⟨_, rfl⟩
  obtain ⟨b2, hb2⟩ : ∃ b, b = w.heap.size + 1 := ⟨_, rfl⟩
  obtain ⟨W2, hW2⟩ : ∃ W, W = (w.alloc (.cells #[.int .i64 c, Va, S body] 24)).alloc (.cells #[.int .i64 c, Vb, S body] 24) := ⟨_, rfl⟩
  have hr1 : Row W2 b1 #[.int .i64 c, Va, S body] 24 := by rw [hW2, hb1]; exact (row_new w _ _).alloc _
  have hr2 : Row W2 b2 #[.int .i64 c, Vb, S body] 24 := by
    have := row_new (w.alloc (.cells #[.int .i64 c, Va, S body] 24)) #[.int .i64 c, Vb, S body] 24
    rw [alloc_size] at this
    rw [hW2, hb2]; exact this
  have hB2 : Below w.heap.size w W2 := by rw [hW2]; exact ((Below.refl _ w).alloc (Nat.le_refl _) _).alloc (by simp) _
  have hla := ha.len 3
  have hlb := hb.len 3
  have HH := Lib.hid (And.intro ha (And.intro hb (And.intro hr1 (And.intro hr2 hB2))))
  obtain ⟨N, hN⟩ : ∃ N, N = fs.length := ⟨_, rfl⟩
  rw [← hN] at hla hlb hlen
  have HN := Lib.hid hN
  clear hN ha hb hB2
  have c4 : W2.cell? ⟨b1, 1, none⟩ = some (Va) := cell_of_row W2 _ 1 _ 24 (0, 0) hr1
  have d4 : W2.cell? ⟨b2, 1, none⟩ = some (Vb) := cell_of_row W2 _ 1 _ 24 (0, 0) hr2
  clear hr1 hr2
  go_enter Tryz.func16, Tryz.ntmps16
  go_wp2_with fail
  all_goals try rw [← hW2, ← hb2, ← hb1]
  clear hW2 hb1 hb2 c4 d4
  go_loopw [5] (fun iv wr => ∃ i : Nat, i ≤ N ∧ iv = .int .i64 (i : Int) ∧ Below W2.heap.size W2 wr) (fun iv _ => N - (intOf iv).toNat)
  case atStart => exact ⟨0, Nat.zero_le _, rfl, Below.refl _ _⟩
  case round =>
    obtain ⟨i, hi, rfl, hB⟩ := hrel
    have hr1 := HH.out.2.2.1.below hB HH.out.2.2.1.lt
    have hr2 := HH.out.2.2.2.1.below hB HH.out.2.2.2.1.lt
    have HB : Hid (Below w.heap.size w wr) := Lib.hid (HH.out.2.2.2.2.trans (hB.mono HH.out.2.2.2.2.size))
    have HB2 := Lib.hid hB
    clear hB
    by_cases hlt : i < N
    · have g1 : decide ((i : Int) < (N : Int)) = true := decide_eq_true (by omega)
      obtain ⟨⟨n, u⟩, hf⟩ : ∃ f, fs[i]? = some f := ⟨fs[i]'(by have := HN.out; omega), List.getElem?_eq_getElem _⟩
      have ha := HH.out.1.below HB.out
      have hb := HH.out.2.1.below HB.out
      have hia := ha.index i (by have := HN.out; omega)
      have hib := hb.index i (by have := HN.out; omega)
      have ca := ha.cell i _ hf
      have cb := hb.cell i _ hf
      obtain ⟨ka, hka⟩ : ∃ k, k = oa + i * 2 := ⟨_, rfl⟩
      obtain ⟨kb, hkb⟩ : ∃ k, k = ob + i * 2 := ⟨_, rfl⟩
      rw [← hka] at hia ca
      rw [← hkb] at hib cb
      have ca0 : wr.cell? ⟨ga, ka, none⟩ = some (S n) := ca.1
      have ca1 : wr.cell? ⟨ga, ka + 1, none⟩ = some (S u) := ca.2
      have cb0 : wr.cell? ⟨gb, kb, none⟩ = some (S n) := cb.1
      have cb1 : wr.cell? ⟨gb, kb + 1, none⟩ = some (S u) := cb.2
      have ea0 : wr.drew.cell? ⟨ga, ka, none⟩ = some (S n) := ca.1
      have ea1 : wr.drew.cell? ⟨ga, ka + 1, none⟩ = some (S u) := ca.2
      have eb0 : wr.drew.cell? ⟨gb, kb, none⟩ = some (S n) := cb.1
      have eb1 : wr.drew.cell? ⟨gb, kb + 1, none⟩ = some (S u) := cb.2
      have hw1 : IntKind.i64.wrap ((i : Int) + 1) = (i : Int) + 1 := by rw [IntKind.wrap_i64]; omega
      have q1 := eq_self n
      have q2 := eq_self u
      have c4 : wr.cell? ⟨b1, 1, none⟩ = some (Va) := cell_of_row wr _ 1 _ 24 (0, 0) hr1
      have d4 : wr.cell? ⟨b2, 1, none⟩ = some (Vb) := cell_of_row wr _ 1 _ 24 (0, 0) hr2
      have x4 : wr.drew.cell? ⟨b1, 1, none⟩ = some (Va) := cell_of_row wr.drew _ 1 _ 24 (0, 0) hr1.drew
      have y4 : wr.drew.cell? ⟨b2, 1, none⟩ = some (Vb) := cell_of_row wr.drew _ 1 _ 24 (0, 0) hr2.drew
      clear ha hb ca cb hr1 hr2 hf hka hkb
      have hmx : Tryz.prog.follows .mixedOrders = true := by kernel_rfl
      go_wp2
      go_region
      go_wp2
      exact ⟨⟨i + 1, by omega, by go_num, HB2.out.trans ⟨rfl, rfl, rfl, Nat.le_refl _, fun _ _ => rfl⟩⟩, by simp [intOf]; omega⟩
    · have g1 : decide ((i : Int) < (N : Int)) = false := decide_eq_false (by omega)
      have e0 : ∀ x, binOp .eql 9 (S x) (S x) = pure (.bool true) := fun x => by rw [eql_S]; simp
      have g0 := guard_S 9
      have n1 : (c == c) = true := by simp
      have c0 : wr.cell? ⟨b1, 0, none⟩ = some (.int .i64 c) := cell_of_row wr _ 0 _ 24 (0, 0) hr1
      have c1 : wr.cell? ⟨b1, 1, none⟩ = some (Va) := cell_of_row wr _ 1 _ 24 (0, 0) hr1
      have c2 : wr.cell? ⟨b1, 2, none⟩ = some (S body) := cell_of_row wr _ 2 _ 24 (0, 0) hr1
      have d0 : wr.cell? ⟨b2, 0, none⟩ = some (.int .i64 c) := cell_of_row wr _ 0 _ 24 (0, 0) hr2
      have d1 : wr.cell? ⟨b2, 1, none⟩ = some (Vb) := cell_of_row wr _ 1 _ 24 (0, 0) hr2
      have d2 : wr.cell? ⟨b2, 2, none⟩ = some (S body) := cell_of_row wr _ 2 _ 24 (0, 0) hr2
      clear hr1 hr2
      go_wp2
      go_ret
      exact ⟨rfl, HB.out⟩
end Go.Proofs.YtfdbmbgpcioogaaGreatDoor
/- The landed Token walked. -/
namespace Go.Proofs.YtfdbmbgpcioogaaGreatDoor
open Go.RowKit
attribute [local go_sem] store_one S_match S_store eguard_BN nguard_BN

theorem mark_any (c : UInt8) (w : World) : Calls Tryz.prog 91 #[.string ⟨#[33, 35, 36, 37, 38, 39, 42, 43, 45, 46, 94, 95, 96, 124, 126]⟩, B c] w fun e w' => e = .returned (.int .i64 (Lib.indexByte markL c)) ∧ w' = w := by
  have h := Any.strings_IndexByte Tryz.lays137 ⟨#[33, 35, 36, 37, 38, 39, 42, 43, 45, 46, 94, 95, 96, 124, 126]⟩ (c.toNat : Int) w
  have e : (c.toNat : Int).toNat.toUInt8 = c := by simp
  rw [e] at h
  exact h
set_option maxRecDepth 100000 in
set_option maxHeartbeats 1000000 in
theorem intoken_any (c : UInt8) (w : World) : Calls Tryz.prog 71 #[B c] w fun e w' => e = .returned (.bool (tokB c)) ∧ w' = w := by
  have h1 := B_geq 5 c 65
  have h2 := B_leq 5 c 90
  have h3 := B_geq 5 c 97
  have h4 := B_leq 5 c 122
  have h5 := B_geq 5 c 48
  have h6 := B_leq 5 c 57
  have hE : inTok c.toNat = ((decide (65 ≤ c.toNat) && decide (c.toNat ≤ 90) || decide (97 ≤ c.toNat) && decide (c.toNat ≤ 122)) || (decide (48 ≤ c.toNat) && decide (c.toNat ≤ 57)) || markL.contains c) := by
    unfold inTok; simp only [UInt8.ofNat_toNat]
  rw [Lib.contains_iff_indexByte] at hE
  obtain ⟨j, hj⟩ : ∃ j, j = Lib.indexByte markL c := ⟨_, rfl⟩
  have hmk := mark_any c
  rw [← hj] at hE hmk
  have HM := Lib.hid hmk
  rw [tok_eq, hE]
  clear hE hmk hj
  have fin : ∀ (tk : Bool), Calls Tryz.prog 71 #[B c] w (fun e w' => e = .returned (.bool tk) ∧ w' = w) → ((decide (65 ≤ c.toNat) && decide (c.toNat ≤ 90) || decide (97 ≤ c.toNat) && decide (c.toNat ≤ 122)) || (decide (48 ≤ c.toNat) && decide (c.toNat ≤ 57)) || decide (0 ≤ j)) = tk →
      Calls Tryz.prog 71 #[B c] w (fun e w' => e = .returned (.bool ((decide (65 ≤ c.toNat) && decide (c.toNat ≤ 90) || decide (97 ≤ c.toNat) && decide (c.toNat ≤ 122)) || (decide (48 ≤ c.toNat) && decide (c.toNat ≤ 57)) || decide (0 ≤ j))) ∧ w' = w) := fun tk h e => by rw [e]; exact h
  have hcs : c.toNat < 48 ∨ (48 ≤ c.toNat ∧ c.toNat ≤ 57) ∨ (57 < c.toNat ∧ c.toNat < 65) ∨ (65 ≤ c.toNat ∧ c.toNat ≤ 90) ∨ (90 < c.toNat ∧ c.toNat < 97) ∨ (97 ≤ c.toNat ∧ c.toNat ≤ 122) ∨ 122 < c.toNat := by omega
  rcases hcs with a | a | a | a | a | a | a
  · refine fin (decide (0 ≤ j)) ?_ (by simp; omega)
    rw [decide_eq_false (by omega)] at h1 h3 h5
    clear h2 h4 h6 a fin
    go_enter Tryz.func71, Tryz.ntmps71
    go_wp2_with fail
    refine (HM.out w).mono ?_
    rintro e w1 ⟨rfl, rfl⟩
    go_wp2
    go_ret
    exact ⟨rfl, rfl⟩
  · refine fin (true) ?_ (by simp; omega)
    rw [decide_eq_false (by omega)] at h1 h3
    rw [decide_eq_true (by omega)] at h5 h6
    clear h2 h4 a fin
    go_enter Tryz.func71, Tryz.ntmps71
    go_wp2
    go_ret
    exact ⟨rfl, rfl⟩
  · refine fin (decide (0 ≤ j)) ?_ (by simp; omega)
    rw [decide_eq_false (by omega)] at h1 h3 h6
    rw [decide_eq_true (by omega)] at h5
    clear h2 h4 a fin
    go_enter Tryz.func71, Tryz.ntmps71
    go_wp2_with fail
    refine (HM.out w).mono ?_
    rintro e w1 ⟨rfl, rfl⟩
    go_wp2
    go_ret
    exact ⟨rfl, rfl⟩
  · refine fin (true) ?_ (by simp; omega)
    rw [decide_eq_true (by omega)] at h1 h2
    rw [decide_eq_true (by omega)] at h5
    rw [decide_eq_false (by omega)] at h6
    clear h3 h4 a fin
    go_enter Tryz.func71, Tryz.ntmps71
    go_wp2
    go_ret
    exact ⟨rfl, rfl⟩
  · refine fin (decide (0 ≤ j)) ?_ (by simp; omega)
    rw [decide_eq_true (by omega)] at h1 h5
    rw [decide_eq_false (by omega)] at h2 h3 h6
    clear h4 a fin
    go_enter Tryz.func71, Tryz.ntmps71
    go_wp2_with fail
    refine (HM.out w).mono ?_
    rintro e w1 ⟨rfl, rfl⟩
    go_wp2
    go_ret
    exact ⟨rfl, rfl⟩
  · refine fin (true) ?_ (by simp; omega)
    rw [decide_eq_true (by omega)] at h1 h3 h4 h5
    rw [decide_eq_false (by omega)] at h2 h6
    clear a fin
    go_enter Tryz.func71, Tryz.ntmps71
    go_wp2
    go_ret
    exact ⟨rfl, rfl⟩
  · refine fin (decide (0 ≤ j)) ?_ (by simp; omega)
    rw [decide_eq_true (by omega)] at h1 h3 h5
    rw [decide_eq_false (by omega)] at h2 h4 h6
    clear a fin
    go_enter Tryz.func71, Tryz.ntmps71
    go_wp2_with fail
    refine (HM.out w).mono ?_
    rintro e w1 ⟨rfl, rfl⟩
    go_wp2
    go_ret
    exact ⟨rfl, rfl⟩
set_option maxRecDepth 100000 in
set_option maxHeartbeats 400000 in
/-- All of a text's bytes asked. -/
theorem all_any {f : Nat} {p : UInt8 → Bool} (hf : ∀ c w, Calls Tryz.prog f #[B c] w fun e w' => e = .returned (.bool (p c)) ∧ w' = w) (he : ∀ args w, (callFunc f args).run Tryz.prog w = .ok (.enter f args) w)
    (s : List UInt8) (hs : s.length ≤ 100000) (w : World) : Calls Tryz.prog 52 #[S s, .func (.func f) #[] #[]] w fun e w' => e = .returned (.bool (s.all p)) ∧ w' = w := by
  have hlenS := run_len_S (P := Tryz.prog) Tryz.underlying9 3 s
  have HF := Lib.hid hf
  obtain ⟨L, hL⟩ : ∃ L, L = s.length := ⟨_, rfl⟩
  rw [← hL] at hlenS hs
  have HL := Lib.hid hL
  clear hf hL
  go_enter Tryz.func52, Tryz.ntmps52
  go_wp2
  go_loopw [8] (fun iv wr => ∃ i : Nat, i ≤ L ∧ iv = .int .i64 (i : Int) ∧ wr = w ∧ (s.take i).all p = true) (fun iv _ => L - (intOf iv).toNat)
  case atStart => exact ⟨0, by omega, rfl, rfl, rfl⟩
  case round =>
    obtain ⟨i, hi, rfl, rfl, hn⟩ := hrel
    by_cases hlt : i < L
    · obtain ⟨c, hc⟩ : ∃ c, s[i]? = some c := ⟨s[i]'(by have := HL.out; omega), List.getElem?_eq_getElem _⟩
      have hidx : ∀ w, (Instr.index 9 (S s) (.int .i64 (i : Int))).run Tryz.prog w = .ok (B c) w := fun w => index_S (P := Tryz.prog) Tryz.underlying9 s i c hc w
      have hnx := all_take_next hc hn
      have HF2 := Lib.hid (HF.out c wr)
      clear hn hc
      cases hb : p c with
      | true =>
        have HN := Lib.hid (hnx.trans hb)
        have HB := Lib.hid hb
        clear hnx hb
        go_wp2_with fail
        refine HF2.out.mono ?_
        rintro e w1 ⟨rfl, hw1⟩
        obtain rfl := hw1.symm
        rw [HB.out]
        go_wp2
        exact ⟨⟨i + 1, by omega, by go_num, by trivial, HN.out⟩, by simp [intOf]; omega⟩
      | false =>
        have HN : Hid (s.all p = false) := Lib.hid (by rw [hb] at hnx; exact all_of_take hnx)
        have HB := Lib.hid hb
        clear hnx hb
        go_wp2_with fail
        refine HF2.out.mono ?_
        rintro e w1 ⟨rfl, hw1⟩
        obtain rfl := hw1.symm
        rw [HB.out]
        go_wp2
        go_ret
        exact ⟨by rw [HN.out]; rfl, rfl⟩
    · obtain rfl : i = L := by omega
      have HN : Hid (s.all p = true) := Lib.hid (by rw [HL.out, List.take_length] at hn; exact hn)
      clear hn
      go_wp2
      go_ret
      exact ⟨by rw [HN.out]; rfl, rfl⟩
theorem all_tok (s : List UInt8) (hs : s.length ≤ 100000) (w : World) : Calls Tryz.prog 52 #[S s, .func (.func 71) #[] #[]] w fun e w' => e = .returned (.bool (s.all tokB)) ∧ w' = w :=
  all_any intoken_any (enters_of Tryz.func71 (by kernel_rfl) rfl) s hs w
set_option maxRecDepth 100000 in
set_option maxHeartbeats 400000 in
theorem token15_any (s : List UInt8) (hs : s.length ≤ 100000) (w : World) : Calls Tryz.prog 51 #[S s] w fun e w' => e = .returned (.bool (tokF s)) ∧ w' = w := by
  have hc := all_tok s hs w
  have hn : binOp .neq 9 (S s) (.string ⟨#[]⟩) = pure (.bool (s != [])) := neql_S 9 s []
  have hg : ∀ x y, eqGuard .neq 9 x y (S s) (.string ⟨#[]⟩) = pure () := fun x y => nguard_S 9 x y s []
  unfold tokF
  cases s with
  | nil =>
    rw [show (([] : List UInt8) != []) = false from rfl] at hn
    go_enter Tryz.func51, Tryz.ntmps51
    go_wp2
    go_ret
    exact ⟨rfl, rfl⟩
  | cons c r =>
    rw [show ((c :: r) != []) = true from rfl] at hn
    have e : ((c :: r).all tokB && decide (0 < (c :: r).length)) = (c :: r).all tokB := by simp
    rw [e]
    generalize c :: r = s at *
    have HC := Lib.hid hc
    clear hc e
    go_enter Tryz.func51, Tryz.ntmps51
    go_wp2_with fail
    refine HC.out.mono ?_
    rintro e w1 ⟨rfl, rfl⟩
    go_wp2
    go_ret
    exact ⟨rfl, rfl⟩
end Go.Proofs.YtfdbmbgpcioogaaGreatDoor
/- The landed field's Parse walked. -/
namespace Go.Proofs.YtfdbmbgpcioogaaGreatDoor
open Go.RowKit
attribute [local go_sem] store_one S_match S_store eguard_BN nguard_BN

set_option maxRecDepth 100000 in
set_option maxHeartbeats 1000000 in
theorem invalue_any (c : UInt8) (w : World) : Calls Tryz.prog 53 #[B c] w fun e w' => e = .returned (.bool (valB c)) ∧ w' = w := by
  have h1 := B_eqlN 5 c 9
  have h2 := B_geq 5 c 32
  have h3 := B_neqN 5 c 127
  have hcs : c.toNat = 9 ∨ (c.toNat ≠ 9 ∧ c.toNat < 32) ∨ (32 ≤ c.toNat ∧ c.toNat = 127) ∨ (32 ≤ c.toNat ∧ c.toNat ≠ 127) := by omega
  rcases hcs with a | a | a | a
  · have hv : valB c = true := by unfold valB badB; simp; omega
    rw [show ((c.toNat : Int) == 9) = true by rw [beq_iff_eq]; omega] at h1
    rw [hv]
    clear h2 h3 a hv
    go_enter Tryz.func53, Tryz.ntmps53
    go_wp2
    go_ret
    exact ⟨rfl, rfl⟩
  · have hv : valB c = false := by unfold valB badB; simp; omega
    rw [show ((c.toNat : Int) == 9) = false by rw [beq_eq_false_iff_ne]; omega] at h1
    rw [decide_eq_false (by omega)] at h2
    rw [hv]
    clear h3 a hv
    go_enter Tryz.func53, Tryz.ntmps53
    go_wp2
    go_ret
    exact ⟨rfl, rfl⟩
  · have hv : valB c = false := by unfold valB badB; simp; omega
    rw [show ((c.toNat : Int) == 9) = false by rw [beq_eq_false_iff_ne]; omega] at h1
    rw [decide_eq_true (by omega)] at h2
    rw [show ((c.toNat : Int) != 127) = false by rw [bne_eq_false_iff_eq]; omega] at h3
    rw [hv]
    clear a hv
    go_enter Tryz.func53, Tryz.ntmps53
    go_wp2
    go_ret
    exact ⟨rfl, rfl⟩
  · have hv : valB c = true := by unfold valB badB; simp; omega
    rw [show ((c.toNat : Int) == 9) = false by rw [beq_eq_false_iff_ne]; omega] at h1
    rw [decide_eq_true (by omega)] at h2
    rw [show ((c.toNat : Int) != 127) = true by rw [bne_iff_ne]; omega] at h3
    rw [hv]
    clear a hv
    go_enter Tryz.func53, Tryz.ntmps53
    go_wp2
    go_ret
    exact ⟨rfl, rfl⟩
theorem all_val (s : List UInt8) (hs : s.length ≤ 100000) (w : World) : Calls Tryz.prog 52 #[S s, .func (.func 53) #[] #[]] w fun e w' => e = .returned (.bool (s.all valB)) ∧ w' = w :=
  all_any invalue_any (enters_of Tryz.func53 (by kernel_rfl) rfl) s hs w
theorem index_S1 (s : List UInt8) (k : UInt8) (w : World) : Calls Tryz.prog 55 #[S s, S [k]] w fun e w' => e = .returned (.int .i64 (Lib.indexByte s k)) ∧ w' = w :=
  Tryz.stringslite_Index_one ⟨s.toArray⟩ k w
set_option maxRecDepth 100000 in
set_option maxHeartbeats 400000 in
theorem cut34_hit (k : UInt8) (a b : List UInt8) (h : k ∉ a) (hs : a.length + b.length ≤ 100000) (w : World) :
    Calls Tryz.prog 44 #[S (a ++ k :: b), S [k]] w fun e w' => e = .returned (.tuple #[S a, S b, .bool true]) ∧ Drawn w w' := by
  have hix := index_S1 (a ++ k :: b) k w
  rw [index_hit b h] at hix
  have hl := run_len_S (P := Tryz.prog) Tryz.underlying9 3 [k]
  have hln : (a ++ k :: b).length = a.length + b.length + 1 := by simp; omega
  have hs1 := slice_take (P := Tryz.prog) Tryz.underlying9 (a ++ k :: b) a.length (by omega)
  have hs2 := slice_drop (P := Tryz.prog) Tryz.underlying9 (a ++ k :: b) (a.length + 1) (by omega)
  rw [List.take_left] at hs1
  rw [show (a ++ k :: b).drop (a.length + 1) = b by rw [List.drop_append]; simp] at hs2
  generalize a ++ k :: b = T at *
  generalize hn : a.length = n at *
  have hn5 : n ≤ 100000 := by omega
  have hs3 : ∀ w, (Instr.slice 9 (S T) (some (.int .i64 ((n : Int) + 1))) none none).run Tryz.prog w = .ok (S b) w := fun w => by
    have := hs2 w
    rwa [show ((n + 1 : Nat) : Int) = (n : Int) + 1 by omega] at this
  have hg : decide ((0 : Int) ≤ (n : Int)) = true := decide_eq_true (by omega)
  have hl1 : ∀ w, (Builtin.len_ #[9] 3 #[S [k]]).run Tryz.prog w = .ok (.int .i64 1) w := hl
  clear hl hln h hn hs hs2
  go_enter Tryz.func44, Tryz.ntmps44
  go_wp2_with fail
  refine hix.mono ?_
  rintro e w1 ⟨rfl, rfl⟩
  go_wp2
  have hmx : Tryz.prog.follows .mixedOrders = true := by kernel_rfl
  go_region_o
  go_wp2
  go_ret3
  exact ⟨rfl, 1, rfl⟩
set_option maxRecDepth 100000 in
set_option maxHeartbeats 400000 in
theorem cut34_miss (k : UInt8) (s : List UInt8) (h : k ∉ s) (w : World) :
    Calls Tryz.prog 44 #[S s, S [k]] w fun e w' => e = .returned (.tuple #[S s, S [], .bool false]) ∧ Drawn w w' := by
  have hix := index_S1 s k w
  rw [index_miss h] at hix
  clear h
  go_enter Tryz.func44, Tryz.ntmps44
  go_wp2_with fail
  refine hix.mono ?_
  rintro e w1 ⟨rfl, rfl⟩
  go_wp2
  go_ret3
  exact ⟨rfl, 0, rfl⟩
/-- strings.Cut at one byte. -/
theorem cut_hit (k : UInt8) (a b : List UInt8) (h : k ∉ a) (hs : a.length + b.length ≤ 100000) (w : World) :
    Calls Tryz.prog 29 #[S (a ++ k :: b), S [k]] w fun e w' => e = .returned (.tuple #[S a, S b, .bool true]) ∧ Drawn w w' := by
  have hc := cut34_hit k a b h hs w
  generalize a ++ k :: b = T at *
  clear h hs
  go_enter Tryz.func29, Tryz.ntmps29
  go_wp2_with fail
  refine hc.mono ?_
  rintro e w1 ⟨rfl, hD⟩
  go_wp2
  go_ret3
  exact ⟨rfl, hD⟩
theorem cut_miss (k : UInt8) (s : List UInt8) (h : k ∉ s) (w : World) :
    Calls Tryz.prog 29 #[S s, S [k]] w fun e w' => e = .returned (.tuple #[S s, S [], .bool false]) ∧ Drawn w w' := by
  have hc := cut34_miss k s h w
  clear h
  go_enter Tryz.func29, Tryz.ntmps29
  go_wp2_with fail
  refine hc.mono ?_
  rintro e w1 ⟨rfl, hD⟩
  go_wp2
  go_ret3
  exact ⟨rfl, hD⟩
theorem trim_any (s : List UInt8) (hs : s.length ≤ 100000) (w : World) : Calls Tryz.prog 47 #[S s, S [9, 32]] w fun e w' => e = .returned (S (bareF s)) ∧ Below w.heap.size w w' := by
  have h := Any.strings_Trim_laid Tryz.lays160 (by kernel_rfl) ⟨s.toArray⟩ ⟨#[9, 32]⟩ w (by show s.length ≤ _; omega) (by decide) (Go.Proofs.ascii_of_all (by decide))
  rw [← trim_bare]
  exact h
/-- A result of a struct of two texts, and one more. -/
theorem struct_end {fn : Func} {p u : Tmp} {i : TypeInfo} (hi : Tryz.prog.info? 35 = some i) (hs : i.size = 2) (h : fn.results = #[.cell p 35, .tmp u]) (tmps : Array Value) (w : World) (g : Nat) (cs : Array Value) (hp : tmps.getD p undef = .pointer (some ⟨g, 0, none⟩)) (hg : Row w g cs 35) (h2 : cs.size = 2) :
    (results fn tmps).run Tryz.prog w = .ok (.tuple #[.agg cs, tmps.getD u undef]) w :=
  results_row_tmp h tmps w g 35 cs (0, 0) _ hp hg Tryz.underlying35 rfl (by rw [hi, Option.map_some, hs, h2])
theorem infoFld : ∃ i, Tryz.prog.info? 35 = some i ∧ i.size = 2 := by
  have h : (Tryz.prog.info? 35).map (·.size) = some 2 := by kernel_rfl
  cases hi : Tryz.prog.info? 35 with
  | none => simp [hi] at h
  | some i => exact ⟨i, rfl, by simpa [hi] using h⟩
set_option maxRecDepth 100000 in
set_option maxHeartbeats 1000000 in
theorem parse10_any (s : List UInt8) (hs : s.length ≤ 100000) (w : World) : Calls Tryz.prog 37 #[S s] w fun e w' => e = .returned (parseV (parseF s)) ∧ Below w.heap.size w w' := by
  obtain ⟨i23, hi23, hs23⟩ := infoFld
  obtain ⟨W1, hW1⟩ : ∃ W1, W1 = w.alloc (.cells #[.string ⟨#[]⟩, .string ⟨#[]⟩] 35) := ⟨_, rfl⟩
  obtain ⟨b, hb⟩ : ∃ b, b = w.heap.size := ⟨_, rfl⟩
  have hr1 : Row W1 b #[.string ⟨#[]⟩, .string ⟨#[]⟩] 35 := by rw [hW1, hb]; exact row_new w _ _
  have hb1 : Below b w W1 := by rw [hW1, hb]; exact (Below.refl _ w).alloc (Nat.le_refl _) _
  have HI := Lib.hid (And.intro hi23 hs23)
  have hend : Hid (∀ (W : World) (n v : List UInt8) (k : Bool) (tmps : Array Value), Row W b #[.string ⟨#[]⟩, .string ⟨#[]⟩] 35 → Below b w W → tmps.getD 2 undef = .pointer (some ⟨b, 0, none⟩) → tmps.getD 3 undef = .bool k → parseF s = (n, v, k) →
      bodyPost Tryz.prog Tryz.f37 (fun e w' => e = .returned (parseV (parseF s)) ∧ Below w.heap.size w w') .ret { tmps := tmps, defers := [] } ((W.setCell ⟨b, 0, none⟩ (S n)).setCell ⟨b, 1, none⟩ (S v))) := Lib.hid fun W n v k tmps hr hB h2 h3 hp => by
    refine bodyPost_ret (struct_end HI.out.1 HI.out.2 rfl _ _ b _ h2 ((hr.set 0 (S n)).set 1 (S v)) rfl) rfl ?_
    rw [hp]
    refine ⟨by rw [h3]; rfl, ?_⟩
    rw [← hb]
    exact (hB.setCell (p := ⟨b, 0, none⟩) (Nat.le_refl _) _).setCell (p := ⟨b, 1, none⟩) (Nat.le_refl _) _
  have H1 := Lib.hid (And.intro hr1 (And.intro hb1 hb))
  clear hr1 hb1 hi23 hs23
  have lit58 : S [58] = .string ⟨#[58]⟩ := rfl
  rcases cut_cases 58 s with ⟨n, r, rfl, hab⟩ | hm
  · have hl : n.length + r.length ≤ 100000 := by rw [List.length_append, List.length_cons] at hs; omega
    have hc := cut_hit 58 n r hab hl W1
    have hP := parse_cut n r hab
    have HT := Lib.hid (token15_any n (by omega))
    have HV := Lib.hid (all_val r (by omega))
    have HM : Hid (∀ w, Calls Tryz.prog 47 #[S r, .string ⟨#[9, 32]⟩] w fun e w' => e = .returned (S (bareF r)) ∧ Below w.heap.size w w') := Lib.hid (trim_any r (by omega))
    rw [lit58] at hc
    generalize n ++ 58 :: r = T at *
    clear hs hab hl lit58
    have HC := Lib.hid hc
    clear hc
    cases ht : tokF n with
    | false =>
      rw [ht, Bool.false_and, if_neg Bool.false_ne_true] at hP
      rw [ht] at HT
      have HP := Lib.hid hP
      clear hP ht HV HM
      go_enter Tryz.func37, Tryz.ntmps37
      go_wp2_with fail
      rw [← hb, ← hW1]
      clear hb hW1
      refine HC.out.mono ?_
      rintro e W2 ⟨rfl, hD⟩
      have HD := Lib.hid hD
      clear hD
      go_wp2_with fail
      refine (HT.out W2).mono ?_
      rintro e w1 ⟨rfl, hw1⟩
      obtain rfl := hw1.symm
      have hr2 := H1.out.1.below HD.out.below H1.out.1.lt
      have r0 : W2.cell? ⟨b, 0, none⟩ = some (.string ⟨#[]⟩) := cell_of_row W2 _ 0 _ 35 (0, 0) hr2
      have r1 : W2.cell? ⟨b, 1, none⟩ = some (.string ⟨#[]⟩) := cell_of_row W2 _ 1 _ 35 (0, 0) hr2
      have f0 : W2.frozen? ⟨b, 0, none⟩ = false := Row.frozen hr2 0
      have f1 : W2.frozen? ⟨b, 1, none⟩ = false := Row.frozen hr2 1
      have HR := Lib.hid hr2
      clear hr2
      go_wp2
      exact hend.out _ [] [] false _ HR.out (H1.out.2.1.trans (HD.out.below.mono (by have := H1.out.1.lt; omega))) rfl rfl HP.out
    | true =>
      rw [ht, Bool.true_and] at hP
      rw [ht] at HT
      cases hv : r.all valB with
      | false =>
        rw [hv, if_neg Bool.false_ne_true] at hP
        rw [hv] at HV
        have HP := Lib.hid hP
        clear hP ht hv HM
        go_enter Tryz.func37, Tryz.ntmps37
        go_wp2_with fail
        rw [← hb, ← hW1]
        clear hb hW1
        refine HC.out.mono ?_
        rintro e W2 ⟨rfl, hD⟩
        have HD := Lib.hid hD
        clear hD
        go_wp2_with fail
        refine (HT.out W2).mono ?_
        rintro e w1 ⟨rfl, hw1⟩
        obtain rfl := hw1.symm
        go_wp2_with fail
        refine (HV.out W2).mono ?_
        rintro e w2 ⟨rfl, hw2⟩
        obtain rfl := hw2.symm
        have hr2 := H1.out.1.below HD.out.below H1.out.1.lt
        have r0 : W2.cell? ⟨b, 0, none⟩ = some (.string ⟨#[]⟩) := cell_of_row W2 _ 0 _ 35 (0, 0) hr2
        have r1 : W2.cell? ⟨b, 1, none⟩ = some (.string ⟨#[]⟩) := cell_of_row W2 _ 1 _ 35 (0, 0) hr2
        have f0 : W2.frozen? ⟨b, 0, none⟩ = false := Row.frozen hr2 0
        have f1 : W2.frozen? ⟨b, 1, none⟩ = false := Row.frozen hr2 1
        have HR := Lib.hid hr2
        clear hr2
        go_wp2
        exact hend.out _ [] [] false _ HR.out (H1.out.2.1.trans (HD.out.below.mono (by have := H1.out.1.lt; omega))) rfl rfl HP.out
      | true =>
        rw [hv, if_pos rfl] at hP
        rw [hv] at HV
        have HP := Lib.hid hP
        clear hP ht hv
        go_enter Tryz.func37, Tryz.ntmps37
        go_wp2_with fail
        rw [← hb, ← hW1]
        clear hb hW1
        refine HC.out.mono ?_
        rintro e W2 ⟨rfl, hD⟩
        have HD := Lib.hid hD
        clear hD
        go_wp2_with fail
        refine (HT.out W2).mono ?_
        rintro e w1 ⟨rfl, hw1⟩
        obtain rfl := hw1.symm
        go_wp2_with fail
        refine (HV.out W2).mono ?_
        rintro e w2 ⟨rfl, hw2⟩
        obtain rfl := hw2.symm
        go_wp2_with fail
        refine (HM.out W2).mono ?_
        rintro e w3 ⟨rfl, hB⟩
        have hr2 := H1.out.1.below HD.out.below H1.out.1.lt
        have hr3 := hr2.below hB hr2.lt
        have HB3 : Hid (Below b w w3) := Lib.hid ((H1.out.2.1.trans (HD.out.below.mono (by have := H1.out.1.lt; omega))).trans (hB.mono (by have := hr2.lt; omega)))
        have r0 : w3.cell? ⟨b, 0, none⟩ = some (.string ⟨#[]⟩) := cell_of_row w3 _ 0 _ 35 (0, 0) hr3
        have r1 : w3.cell? ⟨b, 1, none⟩ = some (.string ⟨#[]⟩) := cell_of_row w3 _ 1 _ 35 (0, 0) hr3
        have f0 : w3.frozen? ⟨b, 0, none⟩ = false := Row.frozen hr3 0
        have f1 : w3.frozen? ⟨b, 1, none⟩ = false := Row.frozen hr3 1
        have HR := Lib.hid hr3
        clear hr2 hr3 hB
        go_wp2
        exact hend.out _ n (bareF r) true _ HR.out HB3.out rfl rfl HP.out
  · have hc := cut_miss 58 s hm W1
    have HP := Lib.hid (parse_miss hm)
    rw [lit58] at hc
    have HC := Lib.hid hc
    clear hc hm lit58
    go_enter Tryz.func37, Tryz.ntmps37
    go_wp2_with fail
    rw [← hb, ← hW1]
    clear hb hW1
    refine HC.out.mono ?_
    rintro e W2 ⟨rfl, hD⟩
    have HD := Lib.hid hD
    have hr2 := H1.out.1.below HD.out.below H1.out.1.lt
    have r0 : W2.cell? ⟨b, 0, none⟩ = some (.string ⟨#[]⟩) := cell_of_row W2 _ 0 _ 35 (0, 0) hr2
    have r1 : W2.cell? ⟨b, 1, none⟩ = some (.string ⟨#[]⟩) := cell_of_row W2 _ 1 _ 35 (0, 0) hr2
    have f0 : W2.frozen? ⟨b, 0, none⟩ = false := Row.frozen hr2 0
    have f1 : W2.frozen? ⟨b, 1, none⟩ = false := Row.frozen hr2 1
    have HR := Lib.hid hr2
    clear hD hr2
    go_wp2
    exact hend.out _ [] [] false _ HR.out (H1.out.2.1.trans (HD.out.below.mono (by have := H1.out.1.lt; omega))) rfl rfl HP.out
end Go.Proofs.YtfdbmbgpcioogaaGreatDoor
/- The document's Parse of a field's line walked. (mkref06.py writes it.) -/
namespace Go.Proofs.YtfdbmbgpcioogaaGreatDoor
open Go.RowKit
attribute [local go_sem] store_one S_match S_store

set_option maxRecDepth 100000 in
set_option maxHeartbeats 1000000 in
theorem bare_any (s : List UInt8) (hs : s.length ≤ 100000) (w : World) : Calls Tryz.prog 40 #[S s] w fun e w' => e = .returned (S (bareF s)) ∧ w' = w := by
  have HLS : Hid (∀ r w, (Builtin.len_ #[9] 3 #[S r]).run Tryz.prog w = .ok (.int .i64 (r.length : Int)) w) := Lib.hid fun r => run_len_S (P := Tryz.prog) Tryz.underlying9 3 r
  go_enter Tryz.func40, Tryz.ntmps40
  go_wp2
  go_loopw [0] (fun sv wr => ∃ r : List UInt8, r.length ≤ s.length ∧ sv = S r ∧ wr = w ∧ bareF s = bareF r) (fun sv _ => slen sv)
  case atStart => exact ⟨s, Nat.le_refl _, rfl, rfl, rfl⟩
  case round =>
    obtain ⟨r, hr, rfl, rfl, hb⟩ := hrel
    cases r with
    | nil =>
      have HB : Hid (bareF s = backF [] ∧ ([] : List UInt8).length ≤ s.length) := Lib.hid ⟨by rw [hb]; rfl, hr⟩
      have hl0 : ∀ w, (Builtin.len_ #[9] 3 #[S []]).run Tryz.prog w = .ok (.int .i64 0) w := HLS.out []
      clear hb hr
      go_wp2
      go_loopw [0] (fun sv wx => ∃ q : List UInt8, q.length ≤ s.length ∧ sv = S q ∧ wx = wr ∧ bareF s = backF q) (fun sv _ => slen sv)
      case atStart => exact ⟨_, HB.out.2, rfl, rfl, HB.out.1⟩
      case round =>
        obtain ⟨q, hq, rfl, rfl, hb⟩ := hrel
        rcases List.eq_nil_or_concat q with rfl | ⟨p, c, rfl⟩
        · have HN : Hid (bareF s = []) := Lib.hid (by rw [hb]; rfl)
          have hl0 : ∀ w, (Builtin.len_ #[9] 3 #[S []]).run Tryz.prog w = .ok (.int .i64 0) w := HLS.out []
          clear hb
          go_wp2
          go_ret
          exact ⟨by rw [HN.out]; rfl, rfl⟩
        · have hq2 : p.length + 1 ≤ s.length := by simpa using hq
          obtain ⟨u, hu⟩ : ∃ u, u = p ++ [c] := ⟨_, rfl⟩
          obtain ⟨L, hL⟩ : ∃ L, L = p.length := ⟨_, rfl⟩
          have hlu : ∀ w, (Builtin.len_ #[9] 3 #[S u]).run Tryz.prog w = .ok (.int .i64 ((L : Int) + 1)) w := fun w => by
            have := HLS.out u w
            rw [hu, List.length_append, List.length_singleton, ← hL] at this
            rw [hu]; exact this
          have hpos : decide ((0 : Int) < (L : Int) + 1) = true := decide_eq_true (by omega)
          have hpos' : decide (0 < L + 1) = true := decide_eq_true (by omega)
          have hw : wrap64 (L : Int) = (L : Int) := by
            unfold wrap64; omega
          obtain ⟨x, hx⟩ : ∃ x : Nat, x = c.toNat := ⟨_, rfl⟩
          have hidx : ∀ w, (Instr.index 9 (S u) (.int .i64 (L : Int))).run Tryz.prog w = .ok (.int .u8 (x : Int)) w := fun w => by
            rw [hx, hu, hL]
            exact index_S (P := Tryz.prog) Tryz.underlying9 _ p.length c (by simp) w
          have hsl : ∀ w, (Instr.slice 9 (S u) none (some (.int .i64 (L : Int))) none).run Tryz.prog w = .ok (S p) w := fun w => by
            have := slice_take (P := Tryz.prog) Tryz.underlying9 (p ++ [c]) p.length (by simp) w
            rw [List.take_left] at this
            rw [hu, hL]; exact this
          have hsu : slen (S u) = L + 1 := by rw [slen_S, hu, List.length_append, List.length_singleton, hL]
          have hsp : slen (S p) = L := by rw [slen_S, hL]
          have hbf := blank_facts c
          rw [← hx] at hbf
          clear hx
          rcases hbf with ⟨h1, h2, h3⟩ | ⟨h1, h2, h3, h4, h5⟩ | ⟨h1, h2, h3, h4, h5⟩
          · have HN : Hid (bareF s = backF p ∧ p.length ≤ s.length) := Lib.hid ⟨by rw [hb, List.concat_eq_append, backF_end h1], by omega⟩
            rw [List.concat_eq_append, ← hu] at *
            clear hb hu hL hq hq2 h1
            go_wp2
            exact ⟨⟨p, HN.out.2, by first | rfl | trivial, by first | rfl | trivial, HN.out.1⟩, by simp [hsu, hsp]⟩
          · have HN : Hid (bareF s = backF p ∧ p.length ≤ s.length) := Lib.hid ⟨by rw [hb, List.concat_eq_append, backF_end h1], by omega⟩
            rw [List.concat_eq_append, ← hu] at *
            clear hb hu hL hq hq2 h1
            go_wp2
            exact ⟨⟨p, HN.out.2, by first | rfl | trivial, by first | rfl | trivial, HN.out.1⟩, by simp [hsu, hsp]⟩
          · have HN : Hid (bareF s = u) := Lib.hid (by rw [hb, List.concat_eq_append, backF_stop h1, hu])
            rw [List.concat_eq_append, ← hu] at *
            clear hb hu hL hq hq2 h1
            go_wp2
            go_ret
            exact ⟨by rw [HN.out]; rfl, rfl⟩
    | cons c t =>
      obtain ⟨u, hu⟩ : ∃ u, u = c :: t := ⟨_, rfl⟩
      obtain ⟨L, hL⟩ : ∃ L, L = t.length := ⟨_, rfl⟩
      have hlu : ∀ w, (Builtin.len_ #[9] 3 #[S u]).run Tryz.prog w = .ok (.int .i64 ((L : Int) + 1)) w := fun w => by
        have := HLS.out u w
        rw [hu, List.length_cons, ← hL] at this
        rw [hu]; exact this
      have hpos : decide ((0 : Int) < (L : Int) + 1) = true := decide_eq_true (by omega)
      have hpos' : decide (0 < L + 1) = true := decide_eq_true (by omega)
      obtain ⟨x, hx⟩ : ∃ x : Nat, x = c.toNat := ⟨_, rfl⟩
      have hidx : ∀ w, (Instr.index 9 (S u) (.int .i64 0)).run Tryz.prog w = .ok (.int .u8 (x : Int)) w := fun w => by
        rw [hx, hu]
        exact index_S (P := Tryz.prog) Tryz.underlying9 (c :: t) 0 c rfl w
      have hsl : ∀ w, (Instr.slice 9 (S u) (some (.int .i64 1)) none none).run Tryz.prog w = .ok (S t) w := fun w => by
        rw [hu]
        exact slice_drop (P := Tryz.prog) Tryz.underlying9 (c :: t) 1 (by simp) w
      have hsu : slen (S u) = L + 1 := by rw [slen_S, hu, List.length_cons, hL]
      have hst : slen (S t) = L := by rw [slen_S, hL]
      have hbf := blank_facts c
      rw [← hx] at hbf
      clear hx
      rcases hbf with ⟨h1, h2, h3⟩ | ⟨h1, h2, h3, h4, h5⟩ | ⟨h1, h2, h3, h4, h5⟩
      · have HN : Hid (bareF s = bareF t ∧ t.length ≤ s.length) := Lib.hid ⟨by rw [hb, bareF_front h1], by rw [List.length_cons] at hr; omega⟩
        rw [← hu] at *
        clear hb hu hL hr h1
        go_wp2
        exact ⟨⟨t, HN.out.2, by first | rfl | trivial, by first | rfl | trivial, HN.out.1⟩, by simp [hsu, hst]⟩
      · have HN : Hid (bareF s = bareF t ∧ t.length ≤ s.length) := Lib.hid ⟨by rw [hb, bareF_front h1], by rw [List.length_cons] at hr; omega⟩
        rw [← hu] at *
        clear hb hu hL hr h1
        go_wp2
        exact ⟨⟨t, HN.out.2, by first | rfl | trivial, by first | rfl | trivial, HN.out.1⟩, by simp [hsu, hst]⟩
      · have HB : Hid (bareF s = backF u ∧ u.length ≤ s.length) := Lib.hid ⟨by rw [hb, bareF_stop h1, hu], by rw [hu]; exact hr⟩
        rw [← hu] at *
        clear hb hu hL hr h1 hsl hsu hst
        go_wp2
        clear hlu hidx hpos hpos' h2 h3 h4 h5
        go_loopw [0] (fun sv wx => ∃ q : List UInt8, q.length ≤ s.length ∧ sv = S q ∧ wx = wr ∧ bareF s = backF q) (fun sv _ => slen sv)
        case atStart => exact ⟨_, HB.out.2, rfl, rfl, HB.out.1⟩
        case round =>
          obtain ⟨q, hq, rfl, rfl, hb⟩ := hrel
          rcases List.eq_nil_or_concat q with rfl | ⟨p, c, rfl⟩
          · have HN : Hid (bareF s = []) := Lib.hid (by rw [hb]; rfl)
            have hl0 : ∀ w, (Builtin.len_ #[9] 3 #[S []]).run Tryz.prog w = .ok (.int .i64 0) w := HLS.out []
            clear hb
            go_wp2
            go_ret
            exact ⟨by rw [HN.out]; rfl, rfl⟩
          · have hq2 : p.length + 1 ≤ s.length := by simpa using hq
            obtain ⟨u, hu⟩ : ∃ u, u = p ++ [c] := ⟨_, rfl⟩
            obtain ⟨L, hL⟩ : ∃ L, L = p.length := ⟨_, rfl⟩
            have hlu : ∀ w, (Builtin.len_ #[9] 3 #[S u]).run Tryz.prog w = .ok (.int .i64 ((L : Int) + 1)) w := fun w => by
              have := HLS.out u w
              rw [hu, List.length_append, List.length_singleton, ← hL] at this
              rw [hu]; exact this
            have hpos : decide ((0 : Int) < (L : Int) + 1) = true := decide_eq_true (by omega)
            have hpos' : decide (0 < L + 1) = true := decide_eq_true (by omega)
            have hw : wrap64 (L : Int) = (L : Int) := by
              unfold wrap64; omega
            obtain ⟨x, hx⟩ : ∃ x : Nat, x = c.toNat := ⟨_, rfl⟩
            have hidx : ∀ w, (Instr.index 9 (S u) (.int .i64 (L : Int))).run Tryz.prog w = .ok (.int .u8 (x : Int)) w := fun w => by
              rw [hx, hu, hL]
              exact index_S (P := Tryz.prog) Tryz.underlying9 _ p.length c (by simp) w
            have hsl : ∀ w, (Instr.slice 9 (S u) none (some (.int .i64 (L : Int))) none).run Tryz.prog w = .ok (S p) w := fun w => by
              have := slice_take (P := Tryz.prog) Tryz.underlying9 (p ++ [c]) p.length (by simp) w
              rw [List.take_left] at this
              rw [hu, hL]; exact this
            have hsu : slen (S u) = L + 1 := by rw [slen_S, hu, List.length_append, List.length_singleton, hL]
            have hsp : slen (S p) = L := by rw [slen_S, hL]
            have hbf := blank_facts c
            rw [← hx] at hbf
            clear hx
            rcases hbf with ⟨h1, h2, h3⟩ | ⟨h1, h2, h3, h4, h5⟩ | ⟨h1, h2, h3, h4, h5⟩
            · have HN : Hid (bareF s = backF p ∧ p.length ≤ s.length) := Lib.hid ⟨by rw [hb, List.concat_eq_append, backF_end h1], by omega⟩
              rw [List.concat_eq_append, ← hu] at *
              clear hb hu hL hq hq2 h1
              go_wp2
              exact ⟨⟨p, HN.out.2, by first | rfl | trivial, by first | rfl | trivial, HN.out.1⟩, by simp [hsu, hsp]⟩
            · have HN : Hid (bareF s = backF p ∧ p.length ≤ s.length) := Lib.hid ⟨by rw [hb, List.concat_eq_append, backF_end h1], by omega⟩
              rw [List.concat_eq_append, ← hu] at *
              clear hb hu hL hq hq2 h1
              go_wp2
              exact ⟨⟨p, HN.out.2, by first | rfl | trivial, by first | rfl | trivial, HN.out.1⟩, by simp [hsu, hsp]⟩
            · have HN : Hid (bareF s = u) := Lib.hid (by rw [hb, List.concat_eq_append, backF_stop h1, hu])
              rw [List.concat_eq_append, ← hu] at *
              clear hb hu hL hq hq2 h1
              go_wp2
              go_ret
              exact ⟨by rw [HN.out]; rfl, rfl⟩
set_option maxRecDepth 100000 in
set_option maxHeartbeats 1000000 in
theorem parse_any (s : List UInt8) (hs : s.length ≤ 100000) (w : World) : Calls Tryz.prog 26 #[S s] w fun e w' => e = .returned (parseV (parseF s)) ∧ Below w.heap.size w w' := by
  have hlenS := run_len_S (P := Tryz.prog) Tryz.underlying9 3 s
  obtain ⟨i23, hi23, hs23⟩ := infoFld
  obtain ⟨W1, hW1⟩ : ∃ W1, W1 = w.alloc (.cells #[.string ⟨#[]⟩, .string ⟨#[]⟩] 35) := ⟨_, rfl⟩
  obtain ⟨b, hb⟩ : ∃ b, b = w.heap.size := ⟨_, rfl⟩
  have hr1 : Row W1 b #[.string ⟨#[]⟩, .string ⟨#[]⟩] 35 := by rw [hW1, hb]; exact row_new w _ _
  have hb1 : Below b w W1 := by rw [hW1, hb]; exact (Below.refl _ w).alloc (Nat.le_refl _) _
  have H1 := Lib.hid (And.intro hr1 (And.intro hb1 hb))
  have r0 : W1.cell? ⟨b, 0, none⟩ = some (.string ⟨#[]⟩) := cell_of_row W1 _ 0 _ 35 (0, 0) hr1
  have r1 : W1.cell? ⟨b, 1, none⟩ = some (.string ⟨#[]⟩) := cell_of_row W1 _ 1 _ 35 (0, 0) hr1
  have f0 : W1.frozen? ⟨b, 0, none⟩ = false := Row.frozen hr1 0
  have f1 : W1.frozen? ⟨b, 1, none⟩ = false := Row.frozen hr1 1
  have HI := Lib.hid (And.intro hi23 hs23)
  have hnone : Hid (∀ tmps : Array Value, tmps.getD 2 undef = .pointer (some ⟨b, 0, none⟩) → tmps.getD 3 undef = .bool false → parseF s = ([], [], false) →
      bodyPost Tryz.prog Tryz.f26 (fun e w' => e = .returned (parseV (parseF s)) ∧ Below w.heap.size w w') .ret { tmps := tmps, defers := [] } ((W1.setCell ⟨b, 0, none⟩ (.string ⟨#[]⟩)).setCell ⟨b, 1, none⟩ (.string ⟨#[]⟩))) := Lib.hid fun tmps h2 h3 hp => by
    refine bodyPost_ret (struct_end HI.out.1 HI.out.2 rfl _ _ b _ h2 ((H1.out.1.set 0 (.string ⟨#[]⟩)).set 1 (.string ⟨#[]⟩)) rfl) rfl ?_
    rw [hp]
    refine ⟨by rw [h3]; rfl, ?_⟩
    have hbb := H1.out.2.2
    rw [← hbb]
    exact (H1.out.2.1.setCell (p := ⟨b, 0, none⟩) (Nat.le_refl _) _).setCell (p := ⟨b, 1, none⟩) (Nat.le_refl _) _
  clear hr1 hb1 hi23 hs23
  go_enter Tryz.func26, Tryz.ntmps26
  go_wp2
  rw [← hb, ← hW1]
  clear hb hW1
  go_loopw [4] (fun iv wr => ∃ i : Nat, i ≤ s.length ∧ iv = .int .i64 (i : Int) ∧ wr = W1 ∧ (s.take i).all tokB = true) (fun iv _ => s.length - (intOf iv).toNat)
  case atStart => exact ⟨0, by omega, rfl, rfl, rfl⟩
  case round =>
    obtain ⟨i, hi, rfl, hwr, hn⟩ := hrel
    subst hwr
    by_cases hlt : i < s.length
    · obtain ⟨c, hc⟩ : ∃ c, s[i]? = some c := ⟨s[i], List.getElem?_eq_getElem hlt⟩
      obtain ⟨x, hx⟩ : ∃ x : Nat, x = c.toNat := ⟨_, rfl⟩
      have hidx : ∀ w, (Instr.index 9 (S s) (.int .i64 (i : Int))).run Tryz.prog w = .ok (.int .u8 (x : Int)) w := fun w => by
        rw [hx]; exact index_S (P := Tryz.prog) Tryz.underlying9 s i c hc w
      have hcall : Calls Tryz.prog 39 #[.int .u8 (x : Int)] wr fun e w' => e = .returned (.bool (tokB c)) ∧ w' = wr := by
        rw [hx]; exact tokens_any c wr
      have hnx := all_take_next hc hn
      cases hb : tokB c with
      | true =>
        rw [hb] at hnx hcall
        have HN := Lib.hid hnx
        have HC := Lib.hid hcall
        clear hnx hb hn hc hx hcall
        go_wp2_with fail
        refine HC.out.mono ?_
        rintro e w1 ⟨rfl, hw1⟩
        obtain rfl := hw1.symm
        go_wp2
        exact ⟨⟨i + 1, by omega, by go_num, by trivial, HN.out⟩, by simp [intOf]; omega⟩
      | false =>
        rw [hb] at hcall
        have hN : nameLen s = i := nameLen_stop hn (by omega) (fun d hd => by rw [hc] at hd; cases hd; exact hb)
        have HC := Lib.hid hcall
        have hne : ((i : Int) == (s.length : Int)) = false := by rw [beq_eq_false_iff_ne]; omega
        have hne' : (i == s.length) = false := by rw [beq_eq_false_iff_ne]; omega
        by_cases h0 : i = 0
        · have HP : Hid (parseF s = ([], [], false)) := Lib.hid (by unfold parseF; rw [if_pos (.inl (by rw [hN, h0]))])
          have hz : ((i : Int) == 0) = true := by rw [beq_iff_eq]; omega
          have hz' : (i == 0) = true := by rw [beq_iff_eq]; exact h0
          clear hnx hb hn hc hx hcall hN h0
          go_wp2_with fail
          refine HC.out.mono ?_
          rintro e w1 ⟨rfl, hw1⟩
          obtain rfl := hw1.symm
          go_wp2
          exact hnone.out _ rfl rfl HP.out
        · have hz : ((i : Int) == 0) = false := by rw [beq_eq_false_iff_ne]; omega
          have hz' : (i == 0) = false := by rw [beq_eq_false_iff_ne]; exact h0
          have hz2 : decide (i = 0) = false := decide_eq_false h0
          have hcf := colon_facts c
          rw [← hx] at hcf
          rcases hcf with ⟨h58, hq, hq'⟩ | ⟨h58, hq, hq'⟩
          · have hw1 : IntKind.i64.wrap ((i : Int) + 1) = (i : Int) + 1 := by rw [IntKind.wrap_i64]; omega
            have HX := Lib.hid (And.intro hN (And.intro h0 (by rw [hN, hc, h58] : s[nameLen s]? = some 58)))
            clear hnx hb hn hc hx hcall hN h0 h58
            go_wp2_with fail
            refine HC.out.mono ?_
            rintro e w1 ⟨rfl, hw1⟩
            obtain rfl := hw1.symm
            clear hw1
            go_wp2
            go_loopw [5] (fun jv wx => ∃ j : Nat, i + 1 ≤ j ∧ j ≤ s.length ∧ jv = .int .i64 (j : Int) ∧ wx = wr ∧ ((s.drop (i + 1)).take (j - (i + 1))).any badB = false) (fun jv _ => s.length - (intOf jv).toNat)
            case atStart => exact ⟨i + 1, Nat.le_refl _, by omega, by go_num, rfl, by simp⟩
            case round =>
              obtain ⟨j, hj1, hj2, rfl, hwx, hbd⟩ := hrel
              subst hwx
              clear hidx hq hq' hz hz' hz2 hne hne' hlt
              by_cases hjl : j < s.length
              · obtain ⟨d, hd⟩ : ∃ d, s[j]? = some d := ⟨s[j], List.getElem?_eq_getElem hjl⟩
                obtain ⟨y, hy⟩ : ∃ y : Nat, y = d.toNat := ⟨_, rfl⟩
                have hidy : ∀ w, (Instr.index 9 (S s) (.int .i64 (j : Int))).run Tryz.prog w = .ok (.int .u8 (y : Int)) w := fun w => by
                  rw [hy]; exact index_S (P := Tryz.prog) Tryz.underlying9 s j d hd w
                have hnx := any_drop_next hd hj1 hbd
                have hbf := bad_facts d
                rw [← hy] at hbf
                clear hbd hd hy
                rcases hbf with ⟨h1, h2, h3⟩ | ⟨h1, h2, h3, h4, h5⟩ | ⟨h1, h2, h3, h4, h5, h6, h7⟩ | ⟨h1, h2, h3, h4, h5, h6, h7⟩
                · rw [h1] at hnx
                  have HN := Lib.hid hnx
                  clear hnx h1
                  go_wp2
                  exact ⟨⟨j + 1, by omega, by omega, by go_num, by trivial, HN.out⟩, by simp [intOf]; omega⟩
                · rw [h1] at hnx
                  have HP : Hid (parseF s = ([], [], false)) := Lib.hid (by unfold parseF; rw [if_pos (.inr (.inr (by rw [HX.out.1]; exact any_of_take hnx)))])
                  clear hnx h1
                  go_wp2
                  exact hnone.out _ rfl rfl HP.out
                · rw [h1] at hnx
                  have HP : Hid (parseF s = ([], [], false)) := Lib.hid (by unfold parseF; rw [if_pos (.inr (.inr (by rw [HX.out.1]; exact any_of_take hnx)))])
                  clear hnx h1
                  go_wp2
                  exact hnone.out _ rfl rfl HP.out
                · rw [h1] at hnx
                  have HN := Lib.hid hnx
                  clear hnx h1
                  go_wp2
                  exact ⟨⟨j + 1, by omega, by omega, by go_num, by trivial, HN.out⟩, by simp [intOf]; omega⟩
              · obtain rfl : j = s.length := by omega
                have HP : Hid (parseF s = (s.take i, bareF (s.drop (i + 1)), true)) := Lib.hid (by
                  rw [List.take_of_length_le (by rw [List.length_drop]; omega)] at hbd
                  unfold parseF
                  rw [HX.out.1, if_neg (by
                    rintro (h | h | h)
                    · exact HX.out.2.1 h
                    · have := HX.out.2.2; rw [HX.out.1] at this; exact h this
                    · rw [hbd] at h; cases h)])
                clear hbd
                have hw2 : IntKind.i64.wrap ((i : Int) + 1) = (i : Int) + 1 := by rw [IntKind.wrap_i64]; omega
                have hs1 : ∀ w, (Instr.slice 9 (S s) none (some (.int .i64 (i : Int))) none).run Tryz.prog w = .ok (S (s.take i)) w := fun w => slice_take (P := Tryz.prog) Tryz.underlying9 s i (by omega) w
                have hs2 : ∀ w, (Instr.slice 9 (S s) (some (.int .i64 ((i : Int) + 1))) none none).run Tryz.prog w = .ok (S (s.drop (i + 1))) w := fun w => slice_drop (P := Tryz.prog) Tryz.underlying9 s (i + 1) (by omega) w
                have HBA : Hid (∀ w, Calls Tryz.prog 40 #[S (s.drop (i + 1))] w fun e w' => e = .returned (S (bareF (s.drop (i + 1)))) ∧ w' = w) := Lib.hid fun w => bare_any _ (by rw [List.length_drop]; omega) w
                generalize bareF (s.drop (i + 1)) = V at *
                generalize s.drop (i + 1) = D at *
                generalize s.take i = N at *
                go_wp2
                refine wp_region_noPanic ?_
                refine wp_region_held_drew (S := fun _ => True) (by kernel_rfl) trivial (fun _ => ?_)
                refine take_at (i := 0) (d := some 58) (v := S s) rfl (by kernel_rfl) (by kernel_rfl) (by kernel_rfl) (fun _ _ _ h => h) (fun oi ho => ?_) trivial ?_
                · obtain rfl := Option.some.inj ho
                  exact Or.inl ⟨by rfl, fun wx hSw => by go_simp⟩
                simp only [Act.put, List.setIfInBounds_toArray, List.set_cons_zero, List.set_cons_succ]
                refine take_at (i := 1) (d := some 59) (v := .int .i64 (i : Int)) rfl (by kernel_rfl) (by kernel_rfl) (by kernel_rfl) (fun _ _ _ h => h) (fun oi ho => ?_) trivial ?_
                · obtain rfl := Option.some.inj ho
                  exact Or.inl ⟨by rfl, fun wx hSw => by go_simp⟩
                simp only [Act.put, List.setIfInBounds_toArray, List.set_cons_zero, List.set_cons_succ]
                refine take_at (i := 2) (d := some 60) (v := S N) rfl (by kernel_rfl) (by kernel_rfl) (by kernel_rfl) (fun _ _ _ h => h) (fun oi ho => ?_) trivial ?_
                · obtain rfl := Option.some.inj ho
                  exact Or.inl ⟨by rfl, fun wx hSw => by go_simp⟩
                simp only [Act.put, List.setIfInBounds_toArray, List.set_cons_zero, List.set_cons_succ]
                refine take_at (i := 3) (d := some 61) (v := S s) rfl (by kernel_rfl) (by kernel_rfl) (by kernel_rfl) (fun _ _ _ h => h) (fun oi ho => ?_) trivial ?_
                · obtain rfl := Option.some.inj ho
                  exact Or.inl ⟨by rfl, fun wx hSw => by go_simp⟩
                simp only [Act.put, List.setIfInBounds_toArray, List.set_cons_zero, List.set_cons_succ]
                refine take_at (i := 4) (d := some 62) (v := .int .i64 (i : Int)) rfl (by kernel_rfl) (by kernel_rfl) (by kernel_rfl) (fun _ _ _ h => h) (fun oi ho => ?_) trivial ?_
                · obtain rfl := Option.some.inj ho
                  exact Or.inl ⟨by rfl, fun wx hSw => by go_simp⟩
                simp only [Act.put, List.setIfInBounds_toArray, List.set_cons_zero, List.set_cons_succ]
                refine take_at (i := 5) (d := some 63) (v := .int .i64 ((i : Int) + 1)) rfl (by kernel_rfl) (by kernel_rfl) (by kernel_rfl) (fun _ _ _ h => h) (fun oi ho => ?_) trivial ?_
                · obtain rfl := Option.some.inj ho
                  exact Or.inl ⟨by rfl, fun wx hSw => by go_simp⟩
                simp only [Act.put, List.setIfInBounds_toArray, List.set_cons_zero, List.set_cons_succ]
                refine take_at (i := 6) (d := some 64) (v := S D) rfl (by kernel_rfl) (by kernel_rfl) (by kernel_rfl) (fun _ _ _ h => h) (fun oi ho => ?_) trivial ?_
                · obtain rfl := Option.some.inj ho
                  exact Or.inl ⟨by rfl, fun wx hSw => by go_simp⟩
                simp only [Act.put, List.setIfInBounds_toArray, List.set_cons_zero, List.set_cons_succ]
                refine ready_call (i := 7) (d := some 65) (f := 40) (args := #[S D]) rfl (by kernel_rfl) (fun oi ho => ?_) ?_
                · obtain rfl := Option.some.inj ho
                  exact ⟨by rfl, by go_simp⟩
                refine (HBA.out _).mono ?_
                rintro e w2 ⟨rfl, hw2⟩
                obtain rfl := hw2.symm
                refine ⟨_, rfl, trivial, ?_⟩
                simp only [Act.put, List.setIfInBounds_toArray, List.set_cons_zero, List.set_cons_succ]
                refine take_at (i := 8) (d := some 66) (v := .agg #[S N, S V]) rfl (by kernel_rfl) (by kernel_rfl) (by kernel_rfl) (fun _ _ _ h => h) (fun oi ho => ?_) trivial ?_
                · obtain rfl := Option.some.inj ho
                  exact Or.inl ⟨by rfl, fun wx hSw => by go_simp⟩
                simp only [Act.put, List.setIfInBounds_toArray, List.set_cons_zero, List.set_cons_succ]
                refine ready_skip (i := 9) (d := none) (w' := (wr.drew.setCell ⟨b, 0, none⟩ (S N)).setCell ⟨b, 1, none⟩ (S V)) rfl (by kernel_rfl) (fun oi ho => ?_) trivial ?_
                · obtain rfl := Option.some.inj ho
                  exact ⟨by rfl, by go_simp⟩
                refine take_at (i := 10) (d := some 3) (v := .bool true) rfl (by kernel_rfl) (by kernel_rfl) (by kernel_rfl) (fun _ _ _ h => h) (fun oi ho => ?_) trivial ?_
                · obtain rfl := Option.some.inj ho
                  exact Or.inl ⟨by rfl, fun wx hSw => by go_simp⟩
                simp only [Act.put, List.setIfInBounds_toArray, List.set_cons_zero, List.set_cons_succ]
                refine wpAnyH_done (by kernel_rfl) ?_ _
                refine NoPanic.normal ?_
                go_wp2
                refine bodyPost_ret (struct_end HI.out.1 HI.out.2 rfl _ _ b _ rfl (((H1.out.1.set 0 (S N)).set 1 (S V)).drew) rfl) rfl ?_
                rw [HP.out]
                refine ⟨rfl, ?_⟩
                have hbb := H1.out.2.2
                rw [← hbb]
                exact ((H1.out.2.1.setCell (p := ⟨b, 0, none⟩) (Nat.le_refl _) _).setCell (p := ⟨b, 1, none⟩) (Nat.le_refl _) _).trans ⟨rfl, rfl, rfl, Nat.le_refl _, fun _ _ => rfl⟩
          · have HP : Hid (parseF s = ([], [], false)) := Lib.hid (by unfold parseF; rw [if_pos (.inr (.inl (by rw [hN, hc]; intro e; exact h58 (Option.some.inj e))))])
            clear hnx hb hn hc hx hcall hN h0 h58
            go_wp2_with fail
            refine HC.out.mono ?_
            rintro e w1 ⟨rfl, hw1⟩
            obtain rfl := hw1.symm
            go_wp2
            exact hnone.out _ rfl rfl HP.out
    · obtain rfl : i = s.length := by omega
      have hN : nameLen s = s.length := nameLen_stop hn (Nat.le_refl _) (fun d hd => by simp at hd)
      have HP : Hid (parseF s = ([], [], false)) := Lib.hid (by unfold parseF; rw [if_pos (.inr (.inl (by rw [hN]; simp)))])
      clear hn hN
      have hq : ((s.length : Int) == (s.length : Int)) = true := by simp
      cases hz : ((s.length : Int) == 0) with
      | true =>
        have hz' : (s.length == 0) = true := by rw [beq_iff_eq] at hz ⊢; omega
        go_wp2
        exact hnone.out _ rfl rfl HP.out
      | false =>
        have hz' : (s.length == 0) = false := by rw [beq_eq_false_iff_ne] at hz ⊢; omega
        have hz2 : decide (s.length = 0) = false := decide_eq_false (by rw [beq_eq_false_iff_ne] at hz'; exact hz')
        go_wp2
        exact hnone.out _ rfl rfl HP.out
end Go.Proofs.YtfdbmbgpcioogaaGreatDoor
/- Slices that came in, opened: of numbers, of texts. Over any program. -/
namespace Go.Proofs.YtfdbmbgpcioogaaGreatDoor
open Go.ChangeShapes Go.WideShapes Go.ChangeAt Go.RowKit
open Go.WideMaps Go.WideElems
variable {P : Program}

theorem S_of (s : ByteArray) : Value.string s = S s.data.toList := by rw [S]
theorem B_of (n : Int) (h0 : 0 ≤ n) (h1 : n ≤ 255) : Value.int .u8 n = B (UInt8.ofNat n.toNat) := by
  have e : ((UInt8.ofNat n.toNat).toNat : Int) = n := by rw [UInt8.toNat_ofNat']; omega
  rw [B, e]

theorem came_nums {t e : TypeId} {k : IntKind} (hu : P.underlying t = some (.slice e)) (he : P.underlying e = some (.int k)) (hcs : P.cellsOf e = 1) (hz : ∀ w, (sizeOf e).run P w = .ok 1 w)
    {H : Type} {enc : TypeId × Value → H} {W : World} {a0 : Option Addr} {len cap fuel : Nat} {x : DataW H × List MemPlace}
    (hf : DataW.trod enc P W 0 (fun _ => true) true fuel t [.slice a0 len cap] = some x) :
    ∃ (ad : Nat → Addr) (z : Nat → Int), Came P W t (.slice a0 len cap) len ad (fun i => .int k (z i)) ∧ ∀ i, i < len → (Lit.int k (z i)).wf = true := by
  have hlen : ∀ T w', (Builtin.len_ #[t] T #[.slice a0 len cap]).run P w' = .ok (.int .i64 (len : Int)) w' := fun T w' => by
    simp [Builtin.len_, run_underlying hu, Result.andThen, goInt]
  rcases open_ints hu he hcs hf with ⟨hcs, _⟩ | ⟨a, len', cap', zs, hcs, _, hl, _, hzs, _, hcell, hwz⟩
  · simp only [List.cons.injEq, Value.slice.injEq, and_true] at hcs
    obtain ⟨rfl, rfl, rfl⟩ := hcs
    exact ⟨fun _ => ⟨0, 0, none⟩, fun _ => 0, ⟨hlen, fun i h => absurd h (by omega), fun i h => absurd h (by omega)⟩, fun i h => absurd h (by omega)⟩
  · simp only [List.cons.injEq, Value.slice.injEq, and_true] at hcs
    obtain ⟨rfl, rfl, rfl⟩ := hcs
    simp only [if_true] at hzs
    refine ⟨fun i => a.add i, fun i => zs.getD i 0, ⟨hlen, fun i hi w' => ?_, fun i hi => hcell i (by omega)⟩, fun i hi => ?_⟩
    · have h1 : (0 : Int) ≤ (i : Int) ∧ (i : Int) < (len : Int) := by omega
      simp [Instr.indexAt, run_underlying hu, asIntOf, hz, h1, go_sem]
      intro hge; omega
    · refine hwz _ ?_
      show zs.getD i 0 ∈ zs
      rw [List.getD_eq_getElem?_getD, List.getElem?_eq_getElem (by omega)]
      exact List.getElem_mem _
theorem came_texts {t e : TypeId} (hu : P.underlying t = some (.slice e)) (he : P.underlying e = some .string) (hcs : P.cellsOf e = 1) (hz : ∀ w, (sizeOf e).run P w = .ok 1 w)
    {H : Type} {enc : TypeId × Value → H} {W : World} {a0 : Option Addr} {len cap fuel : Nat} {x : DataW H × List MemPlace}
    (hf : DataW.trod enc P W 0 (fun _ => true) true fuel t [.slice a0 len cap] = some x) :
    ∃ (ad : Nat → Addr) (z : Nat → List UInt8), Came P W t (.slice a0 len cap) len ad (fun i => S (z i)) := by
  have hlen : ∀ T w', (Builtin.len_ #[t] T #[.slice a0 len cap]).run P w' = .ok (.int .i64 (len : Int)) w' := fun T w' => by
    simp [Builtin.len_, run_underlying hu, Result.andThen, goInt]
  rcases open_strings hu he hcs hf with ⟨hcs, _⟩ | ⟨a, len', cap', ss, hcs, _, hl, _, hss, _, hcell, _⟩
  · simp only [List.cons.injEq, Value.slice.injEq, and_true] at hcs
    obtain ⟨rfl, rfl, rfl⟩ := hcs
    exact ⟨fun _ => ⟨0, 0, none⟩, fun _ => [], ⟨hlen, fun i h => absurd h (by omega), fun i h => absurd h (by omega)⟩⟩
  · simp only [List.cons.injEq, Value.slice.injEq, and_true] at hcs
    obtain ⟨rfl, rfl, rfl⟩ := hcs
    simp only [if_true] at hss
    refine ⟨fun i => a.add i, fun i => (ss.getD i ByteArray.empty).data.toList, ⟨hlen, fun i hi w' => ?_, fun i hi => ?_⟩⟩
    · have h1 : (0 : Int) ≤ (i : Int) ∧ (i : Int) < (len : Int) := by omega
      simp [Instr.indexAt, run_underlying hu, asIntOf, hz, h1, go_sem]
      intro hge; omega
    · rw [hcell i (by omega), S_of]
end Go.Proofs.YtfdbmbgpcioogaaGreatDoor
