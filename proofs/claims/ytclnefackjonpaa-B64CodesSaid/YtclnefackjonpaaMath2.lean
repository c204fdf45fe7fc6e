/- Decode of Encode is the text; what Decode tells has just those letters. -/
import Derived.Test.YtclnefackjonpaaMath
namespace Go.Proofs.Ytclnefackjonpaa

theorem strip1_one (l : List UInt8) (c : UInt8) : strip1 (l ++ [c]) = if c = 61 then l else l ++ [c] := by
  unfold strip1; simp
theorem strip_ends (l : List UInt8) (c d : UInt8) : strip (l ++ [c, d]) = if d = 61 then (if c = 61 then l else l ++ [c]) else l ++ [c, d] := by
  unfold strip
  rw [show l ++ [c, d] = (l ++ [c]) ++ [d] by simp, strip1_one (l ++ [c])]
  split
  · rw [strip1_one]
  · rename_i h; rw [strip1_one (l ++ [c]), if_neg h]
theorem enc_mod (s : List UInt8) : (enc s).length % 4 = 0 := by rw [enc_length]; omega

/-- Numbers of letters make bytes, and bytes make these numbers. -/
theorem u8 (n : Nat) (h : n < 256) : (UInt8.ofNat n).toNat = n := by rw [UInt8.toNat_ofNat']; omega

theorem back : ∀ s : List UInt8, dec (enc s) = some s
  | [] => rfl
  | [x] => by
    have hx := x.toNat_lt
    have e : enc [x] = [ltr (x.toNat * 65536 / 262144 % 64), ltr (x.toNat * 65536 / 4096 % 64)] ++ [61, 61] := by
      simp [enc, quad_eq, qd, n3]
    unfold dec
    rw [if_pos (enc_mod _), e, strip_ends, if_pos rfl, if_pos rfl]
    unfold runs
    rw [two_letters _ _ _ _ (num_ltr _ (by omega)) (num_ltr _ (by omega))]
    have h0 : (x.toNat * 65536 / 262144 % 64 * 64 + x.toNat * 65536 / 4096 % 64) % 16 = 0 := by omega
    have h1 : (x.toNat * 65536 / 262144 % 64 * 64 + x.toNat * 65536 / 4096 % 64) / 16 = x.toNat := by omega
    rw [h0, h1]
    simp [fin]
  | [x, y] => by
    have hx := x.toNat_lt
    have hy := y.toNat_lt
    obtain ⟨X, hX⟩ : ∃ X, X = x.toNat * 65536 + y.toNat * 256 := ⟨_, rfl⟩
    have e : enc [x, y] = [ltr (X / 262144 % 64), ltr (X / 4096 % 64)] ++ [ltr (X / 64 % 64), 61] := by
      simp [enc, quad_eq, qd, n3, hX]
    unfold dec
    rw [if_pos (enc_mod _), e, strip_ends, if_pos rfl, if_neg (ltr_ne _ (by omega))]
    unfold runs
    rw [List.cons_append, List.cons_append, List.nil_append, three_letters _ _ _ _ _ _ (num_ltr _ (by omega)) (num_ltr _ (by omega)) (num_ltr _ (by omega))]
    have h0 : ((X / 262144 % 64 * 64 + X / 4096 % 64) % 16 * 64 + X / 64 % 64) % 4 = 0 := by omega
    have h1 : (X / 262144 % 64 * 64 + X / 4096 % 64) / 16 = x.toNat := by omega
    have h2 : ((X / 262144 % 64 * 64 + X / 4096 % 64) % 16 * 64 + X / 64 % 64) / 4 = y.toNat := by omega
    rw [h0, h1, h2]
    simp [fin]
  | x :: y :: z :: r => by
    have hx := x.toNat_lt
    have hy := y.toNat_lt
    have hz := z.toNat_lt
    obtain ⟨X, hX⟩ : ∃ X, X = x.toNat * 65536 + y.toNat * 256 + z.toNat := ⟨_, rfl⟩
    have e : quad [x, y, z] = [ltr (X / 262144 % 64), ltr (X / 4096 % 64)] ++ [ltr (X / 64 % 64), ltr (X % 64)] := by
      simp [quad_eq, qd, n3, hX]
    have hs : strip (enc (x :: y :: z :: r)) = quad [x, y, z] ++ strip (enc r) := by
      rw [enc3]
      by_cases hr : 2 ≤ (enc r).length
      · rw [strip_append _ _ hr]
      · have : (enc r).length = 0 := by have := enc_mod r; omega
        have h0 : enc r = [] := List.eq_nil_of_length_eq_zero this
        rw [h0, List.append_nil, e, strip_ends, if_neg (ltr_ne _ (by omega))]
        rfl
    have ih := back r
    unfold dec at ih ⊢
    rw [if_pos (enc_mod _)] at ih ⊢
    rw [hs, e]
    unfold runs at ih ⊢
    rw [List.append_assoc, List.cons_append, List.cons_append, List.nil_append, List.cons_append, List.cons_append, List.nil_append,
      four_letters _ _ _ _ _ _ _ _ (num_ltr _ (by omega)) (num_ltr _ (by omega)) (num_ltr _ (by omega)) (num_ltr _ (by omega))]
    have h0 : ((((X / 262144 % 64 * 64 + X / 4096 % 64) % 16 * 64 + X / 64 % 64) % 4 * 64 + X % 64) % 1) = 0 := by omega
    have h1 : (X / 262144 % 64 * 64 + X / 4096 % 64) / 16 = x.toNat := by omega
    have h2 : ((X / 262144 % 64 * 64 + X / 4096 % 64) % 16 * 64 + X / 64 % 64) / 4 = y.toNat := by omega
    have h3 : (((X / 262144 % 64 * 64 + X / 4096 % 64) % 16 * 64 + X / 64 % 64) % 4 * 64 + X % 64) / 1 = z.toNat := by omega
    rw [h0, h1, h2, h3]
    have hp := fold_pre [x, y, z] (strip (enc r)) 0 0 []
    rw [List.append_nil] at hp
    simp only [UInt8.ofNat_toNat]
    rw [hp, fin_pre, ih]
    rfl

theorem some_of_fold {c : UInt8} {st : Option St} {l : List UInt8} (h : (l.foldl step (step st c)) ≠ none) : ∃ x, numO c = some x := by
  cases hn : numO c with
  | some x => exact ⟨x, rfl⟩
  | none => rw [step_bad _ _ hn, fold_none] at h; exact absurd rfl h
theorem fin_some {st : Option St} {b : List UInt8} (h : fin st = some b) : st ≠ none := by
  intro e; rw [e] at h; cases h

/-- The four numbers of letters that are bytes. -/
theorem quad_full (x0 x1 x2 x3 : Nat) (a b c d : UInt8) (h0 : numO a = some x0) (h1 : numO b = some x1) (h2 : numO c = some x2) (h3 : numO d = some x3) :
    quad [UInt8.ofNat ((x0 * 64 + x1) / 16), UInt8.ofNat (((x0 * 64 + x1) % 16 * 64 + x2) / 4), UInt8.ofNat ((((x0 * 64 + x1) % 16 * 64 + x2) % 4 * 64 + x3) / 1)] = [a, b, c, d] := by
  obtain ⟨l0, e0⟩ := num_some h0
  obtain ⟨l1, e1⟩ := num_some h1
  obtain ⟨l2, e2⟩ := num_some h2
  obtain ⟨l3, e3⟩ := num_some h3
  have hn : n3 [UInt8.ofNat ((x0 * 64 + x1) / 16), UInt8.ofNat (((x0 * 64 + x1) % 16 * 64 + x2) / 4), UInt8.ofNat ((((x0 * 64 + x1) % 16 * 64 + x2) % 4 * 64 + x3) / 1)] = x0 * 262144 + x1 * 4096 + x2 * 64 + x3 := by
    unfold n3
    simp only [List.getD_cons_zero, List.getD_cons_succ]
    rw [u8 _ (by omega), u8 _ (by omega), u8 _ (by omega)]
    omega
  rw [quad_eq, ← e0, ← e1, ← e2, ← e3]
  simp only [qd, hn, List.length_cons, List.length_nil]
  have g0 : (x0 * 262144 + x1 * 4096 + x2 * 64 + x3) / 262144 % 64 = x0 := by omega
  have g1 : (x0 * 262144 + x1 * 4096 + x2 * 64 + x3) / 4096 % 64 = x1 := by omega
  have g2 : (x0 * 262144 + x1 * 4096 + x2 * 64 + x3) / 64 % 64 = x2 := by omega
  have g3 : (x0 * 262144 + x1 * 4096 + x2 * 64 + x3) % 64 = x3 := by omega
  simp [g0, g1, g2, g3]

theorem quad_three (x0 x1 x2 : Nat) (a b c : UInt8) (h0 : numO a = some x0) (h1 : numO b = some x1) (h2 : numO c = some x2) (hz : ((x0 * 64 + x1) % 16 * 64 + x2) % 4 = 0) :
    quad [UInt8.ofNat ((x0 * 64 + x1) / 16), UInt8.ofNat (((x0 * 64 + x1) % 16 * 64 + x2) / 4)] = [a, b, c, 61] := by
  obtain ⟨l0, e0⟩ := num_some h0
  obtain ⟨l1, e1⟩ := num_some h1
  obtain ⟨l2, e2⟩ := num_some h2
  have hn : n3 [UInt8.ofNat ((x0 * 64 + x1) / 16), UInt8.ofNat (((x0 * 64 + x1) % 16 * 64 + x2) / 4)] = x0 * 262144 + x1 * 4096 + x2 * 64 := by
    unfold n3
    simp only [List.getD_cons_zero, List.getD_cons_succ, List.getD_nil]
    rw [u8 _ (by omega), u8 _ (by omega)]
    show _ + _ + 0 = _
    omega
  rw [quad_eq, ← e0, ← e1, ← e2]
  simp only [qd, hn, List.length_cons, List.length_nil]
  have g0 : (x0 * 262144 + x1 * 4096 + x2 * 64) / 262144 % 64 = x0 := by omega
  have g1 : (x0 * 262144 + x1 * 4096 + x2 * 64) / 4096 % 64 = x1 := by omega
  have g2 : (x0 * 262144 + x1 * 4096 + x2 * 64) / 64 % 64 = x2 := by omega
  simp [g0, g1, g2]
theorem quad_two (x0 x1 : Nat) (a b : UInt8) (h0 : numO a = some x0) (h1 : numO b = some x1) (hz : (x0 * 64 + x1) % 16 = 0) :
    quad [UInt8.ofNat ((x0 * 64 + x1) / 16)] = [a, b, 61, 61] := by
  obtain ⟨l0, e0⟩ := num_some h0
  obtain ⟨l1, e1⟩ := num_some h1
  have hn : n3 [UInt8.ofNat ((x0 * 64 + x1) / 16)] = x0 * 262144 + x1 * 4096 := by
    unfold n3
    simp only [List.getD_cons_zero, List.getD_cons_succ, List.getD_nil]
    rw [u8 _ (by omega)]
    show _ + 0 * 256 + 0 = _
    omega
  rw [quad_eq, ← e0, ← e1]
  simp only [qd, hn, List.length_cons, List.length_nil]
  have g0 : (x0 * 262144 + x1 * 4096) / 262144 % 64 = x0 := by omega
  have g1 : (x0 * 262144 + x1 * 4096) / 4096 % 64 = x1 := by omega
  simp [g0, g1]
theorem fin_two {b n : Nat} {out x : List UInt8} (h : fin (some (b, n, out)) = some x) : b = 0 ∧ x = out := by
  cases b with
  | zero => exact ⟨rfl, (Option.some.inj h).symm⟩
  | succ b => cases h

theorem forth : ∀ t b : List UInt8, dec t = some b → enc b = t
  | [], b, h => by
    obtain rfl := Option.some.inj h
    rfl
  | [_], b, h => by cases h
  | [_, _], b, h => by cases h
  | [_, _, _], b, h => by cases h
  | a :: a1 :: c :: d :: r, b, h => by
    unfold dec at h
    by_cases hm : (a :: a1 :: c :: d :: r).length % 4 = 0
    · rw [if_pos hm] at h
      by_cases hr : 2 ≤ r.length
      · have hs : strip (a :: a1 :: c :: d :: r) = a :: a1 :: c :: d :: strip r := strip_append [a, a1, c, d] r hr
        rw [hs] at h
        unfold runs at h
        have hne := fin_some h
        have hne1 := hne
        simp only [List.foldl_cons] at hne1
        obtain ⟨x0, h0⟩ : ∃ x, numO a = some x := some_of_fold (l := [a1, c, d] ++ strip r) (by simpa using hne1)
        obtain ⟨x1, h1⟩ : ∃ x, numO a1 = some x := some_of_fold (l := [c, d] ++ strip r) (by simpa using hne1)
        obtain ⟨x2, h2⟩ : ∃ x, numO c = some x := some_of_fold (l := [d] ++ strip r) (by simpa using hne1)
        obtain ⟨x3, h3⟩ : ∃ x, numO d = some x := some_of_fold (l := strip r) (by simpa using hne1)
        rw [four_letters x0 x1 x2 x3 _ _ _ _ h0 h1 h2 h3, Nat.mod_one] at h
        have hp := fold_pre [UInt8.ofNat ((x0 * 64 + x1) / 16), UInt8.ofNat (((x0 * 64 + x1) % 16 * 64 + x2) / 4), UInt8.ofNat ((((x0 * 64 + x1) % 16 * 64 + x2) % 4 * 64 + x3) / 1)] (strip r) 0 0 []
        rw [List.append_nil] at hp
        rw [hp, fin_pre] at h
        have hd : dec r = fin ((strip r).foldl step (some (0, 0, []))) := by
          unfold dec runs
          rw [if_pos (by simp only [List.length_cons] at hm; omega)]
        rw [← hd] at h
        cases hb : dec r with
        | none => rw [hb] at h; cases h
        | some b' =>
          rw [hb] at h
          obtain rfl := Option.some.inj h
          simp only [List.cons_append, List.nil_append]
          rw [enc3, forth r b' hb, quad_full x0 x1 x2 x3 a a1 c d h0 h1 h2 h3]
          rfl
      · have hr0 : r = [] := List.eq_nil_of_length_eq_zero (by simp only [List.length_cons] at hm; omega)
        subst hr0
        have hs : strip [a, a1, c, d] = _ := strip_ends [a, a1] c d
        rw [hs] at h
        by_cases hd : d = 61
        · rw [if_pos hd] at h
          by_cases hc : c = 61
          · rw [if_pos hc] at h
            unfold runs at h
            have hne := fin_some h
            simp only [List.foldl_cons] at hne
            obtain ⟨x0, h0⟩ : ∃ x, numO a = some x := some_of_fold (l := [a1]) (by simpa using hne)
            obtain ⟨x1, h1⟩ : ∃ x, numO a1 = some x := some_of_fold (l := []) (by simpa using hne)
            rw [two_letters _ _ _ _ h0 h1] at h
            obtain ⟨hz, rfl⟩ := fin_two h
            rw [hc, hd, enc, quad_two _ _ _ _ h0 h1 hz]
          · rw [if_neg hc] at h
            unfold runs at h
            rw [List.cons_append, List.cons_append, List.nil_append] at h
            have hne := fin_some h
            simp only [List.foldl_cons] at hne
            obtain ⟨x0, h0⟩ : ∃ x, numO a = some x := some_of_fold (l := [a1, c]) (by simpa using hne)
            obtain ⟨x1, h1⟩ : ∃ x, numO a1 = some x := some_of_fold (l := [c]) (by simpa using hne)
            obtain ⟨x2, h2⟩ : ∃ x, numO c = some x := some_of_fold (l := []) (by simpa using hne)
            rw [three_letters _ _ _ _ _ _ h0 h1 h2] at h
            obtain ⟨hz, rfl⟩ := fin_two h
            rw [hd, enc, quad_three _ _ _ _ _ _ h0 h1 h2 hz]
        · rw [if_neg hd] at h
          unfold runs at h
          rw [List.cons_append, List.cons_append, List.nil_append] at h
          have hne := fin_some h
          simp only [List.foldl_cons] at hne
          obtain ⟨x0, h0⟩ : ∃ x, numO a = some x := some_of_fold (l := [a1, c, d]) (by simpa using hne)
          obtain ⟨x1, h1⟩ : ∃ x, numO a1 = some x := some_of_fold (l := [c, d]) (by simpa using hne)
          obtain ⟨x2, h2⟩ : ∃ x, numO c = some x := some_of_fold (l := [d]) (by simpa using hne)
          obtain ⟨x3, h3⟩ : ∃ x, numO d = some x := some_of_fold (l := []) (by simpa using hne)
          rw [four_letters x0 x1 x2 x3 _ _ _ _ h0 h1 h2 h3] at h
          obtain ⟨_, rfl⟩ := fin_two h
          rw [enc3, quad_full x0 x1 x2 x3 a a1 c d h0 h1 h2 h3]
          rfl
    · rw [if_neg hm] at h; cases h
end Go.Proofs.Ytclnefackjonpaa
