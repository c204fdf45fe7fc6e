/- LineStatus walked, over any packages that do what is asked of them. (mkls.py writes it.) -/
import Derived.Test.YtemlbegafkmgbaaDoorLj
import Derived.Deep.Fields
namespace Go.Proofs.YtemlbegafkmgbaaDoor
open Go.RowKit
attribute [local go_sem] store_one S_match S_store

theorem fine_of (r : List UInt8) : ∃ n v, parseF ([97, 58] ++ r) = (n, v, !(r.any badB)) := by
  have h := parse_cut [97] r (by decide)
  rw [show [97, 58] ++ r = [97] ++ 58 :: r by simp, h, show tokF [97] = true by decide, Bool.true_and, val_bad]
  cases r.any badB <;> exact ⟨_, _, rfl⟩
set_option maxRecDepth 100000 in
set_option maxHeartbeats 4000000 in
theorem status_any (L : LineI) (T : World → Prop) (O : OutI T) (code : Int) (hc0 : -9223372036854775808 ≤ code) (hc1 : code ≤ 9223372036854775807) (r s : List UInt8) (_hr : r.length ≤ maxLen) (_hs : s.length ≤ maxLen) (w : World) (hT : T w) :
    Calls Tryd.prog 8 #[.int .i64 code, S r, S s] w fun e w' => e = .returned (.bool true) ∧ Below w.heap.size w w' := by
  have hlr := run_len_S (P := Tryd.prog) Tryd.underlying9 3 r
  have hls := run_len_S (P := Tryd.prog) Tryd.underlying9 3 s
  by_cases hr : 1000 < r.length
  · have j1 : decide ((1000 : Int) < (r.length : Int)) = true := decide_eq_true (by omega)
    go_enter Tryd.func8, Tryd.ntmps8
    go_wp2_with fail
    refine (awake_line L _).mono ?_
    rintro e W1 ⟨rfl, hB⟩
    have HB := Lib.hid hB
    clear hB
    go_wp2
    go_ret
    exact ⟨rfl, HB.out⟩
  have j1 : decide ((1000 : Int) < (r.length : Int)) = false := decide_eq_false (by omega)
  by_cases hs : 1000 < s.length
  · have j2 : decide ((1000 : Int) < (s.length : Int)) = true := decide_eq_true (by omega)
    go_enter Tryd.func8, Tryd.ntmps8
    go_wp2_with fail
    refine (awake_line L _).mono ?_
    rintro e W1 ⟨rfl, hB⟩
    have HB := Lib.hid hB
    clear hB
    go_wp2
    go_ret
    exact ⟨rfl, HB.out⟩
  have j2 : decide ((1000 : Int) < (s.length : Int)) = false := decide_eq_false (by omega)
  obtain ⟨fn, fv, hfine⟩ := fine_of r
  have a0 : binOp .add 9 (.string ⟨#[97, 58]⟩) (S r) = pure (S ([97, 58] ++ r)) := S_add 9 [97, 58] r (by simp; omega)
  obtain ⟨R, hR⟩ : ∃ R, R = [97, 58] ++ r := ⟨_, rfl⟩
  rw [← hR] at a0 hfine
  have HF : Hid (∀ W, Calls Tryd.prog 19 #[S R] W fun e w' => e = .returned (.tuple #[.agg #[S fn, S fv], .bool (!(r.any badB))]) ∧ Below W.heap.size W w') := Lib.hid fun W => by
    have := O.fparse R W (by rw [hR]; simp; omega)
    rw [hfine] at this; exact this
  have hIl := itoa_len hc0 hc1
  obtain ⟨I, hI⟩ : ∃ I, I = Lib.itoa code := ⟨_, rfl⟩
  rw [← hI] at hIl
  have HI : Hid (∀ W, Below w.heap.size w W → Calls Tryd.prog 17 #[.int .i64 code] W fun e w' => e = .returned (S I) ∧ Below W.heap.size W w') := Lib.hid fun W hB => by
    have := O.itoa code W hc0 hc1 (O.keep w W hT hB)
    rw [← hI] at this; exact this
  obtain ⟨X1, hX1⟩ : ∃ X, X = httpS ++ I := ⟨_, rfl⟩
  obtain ⟨X2, hX2⟩ : ∃ X, X = X1 ++ [32] := ⟨_, rfl⟩
  obtain ⟨X3, hX3⟩ : ∃ X, X = X2 ++ r := ⟨_, rfl⟩
  have l1 : X1.length = 9 + I.length := by rw [hX1, List.length_append]; rfl
  have l2 : X2.length = 10 + I.length := by rw [hX2, List.length_append, l1]; simp; omega
  have l3 : X3.length = 10 + I.length + r.length := by rw [hX3, List.length_append, l2]
  have a1 : binOp .add 9 (.string ⟨#[72, 84, 84, 80, 47, 49, 46, 49, 32]⟩) (S I) = pure (S X1) := by rw [hX1]; exact S_add 9 httpS I (by simp [httpS]; omega)
  have a2 : binOp .add 9 (S X1) (.string ⟨#[32]⟩) = pure (S X2) := by rw [hX2]; exact S_add 9 X1 [32] (by simp; omega)
  have a3 : binOp .add 9 (S X2) (S r) = pure (S X3) := by rw [hX3]; exact S_add 9 X2 r (by omega)
  have HX : Hid (X3 = httpS ++ (I ++ 32 :: r)) := Lib.hid (by rw [hX3, hX2, hX1]; simp)
  have HS : Hid (∀ W, Calls Tryd.prog 11 #[S X3] W fun e w' => e = .returned (statusV (statusF X3)) ∧ Below W.heap.size W w') := Lib.hid fun W => L.status X3 W (by omega)
  -- what is read of s
  obtain ⟨d, t, k, hst⟩ : ∃ d t k, statusF s = (d, t, k) := ⟨_, _, _, rfl⟩
  have HS2 : Hid (∀ W, Calls Tryd.prog 11 #[S s] W fun e w' => e = .returned (.tuple #[.int .i64 (d : Int), S t, .bool k]) ∧ Below W.heap.size W w') := Lib.hid fun W => by
    have := L.status s W (by omega)
    rw [hst] at this; exact this
  have HD : Hid (k = true → ∃ Y1 Y2, (∀ W, Below w.heap.size w W → Calls Tryd.prog 17 #[.int .i64 (d : Int)] W fun e w' => e = .returned (S (dig3 d)) ∧ Below W.heap.size W w') ∧
      binOp .add 9 (.string ⟨#[72, 84, 84, 80, 47, 49, 46, 49, 32]⟩) (S (dig3 d)) = pure (S Y1) ∧ binOp .add 9 (S Y1) (.string ⟨#[32]⟩) = pure (S Y2) ∧ binOp .add 9 (S Y2) (S t) = pure (S s)) := Lib.hid fun hk => by
    rw [hk] at hst
    obtain ⟨h1, h2, _, h4, h5⟩ := status_true hst
    refine ⟨httpS ++ dig3 d, (httpS ++ dig3 d) ++ [32], fun W hB => ?_, S_add 9 httpS (dig3 d) (by simp [httpS, dig3]), S_add 9 (httpS ++ dig3 d) [32] (by simp [httpS, dig3]), ?_⟩
    · have := O.itoa (d : Int) W (by omega) (by omega) (O.keep w W hT hB)
      rw [itoa3 h1 (by omega)] at this; exact this
    · have := S_add 9 ((httpS ++ dig3 d) ++ [32]) t (by simp [httpS, dig3]; omega)
      rw [this, h4]; simp
  have HC : Hid (-9223372036854775808 ≤ code ∧ code ≤ 9223372036854775807 ∧ I = Lib.itoa code) := Lib.hid ⟨hc0, hc1, hI⟩
  clear hX1 hX2 hX3 l1 l2 l3 hR hIl hI _hr _hs hr hs hst hfine hc0 hc1 hT
  by_cases hlo : code < 100
  · have g1 : decide ((100 : Int) ≤ code) = false := decide_eq_false (by omega)
    have g2 : decide (code < 100) = true := decide_eq_true hlo
    have g3 : decide ((999 : Int) < code) = false := decide_eq_false (by omega)
    obtain ⟨c, t5, k5, hS5⟩ : ∃ c t k, statusF X3 = (c, t, k) := ⟨_, _, _, rfl⟩
    cases k5 with
    | false =>
      go_enter Tryd.func8, Tryd.ntmps8
      go_wp2_with fail
      refine (awake_line L _).mono ?_
      rintro e W1 ⟨rfl, hB⟩
      have H1 := Lib.hid hB
      clear hB
      go_wp2_with fail
      refine (HF.out _).mono ?_
      rintro e W2 ⟨rfl, hB⟩
      have H2 := Lib.hid (H1.out.trans (hB.mono H1.out.size))
      clear hB H1
      go_wp2_with fail
      obtain ⟨W3, hW3⟩ : ∃ W3, W3 = W2.alloc (.cells #[S fn, S fv] 38) := ⟨_, rfl⟩
      rw [← hW3]
      have H3 : Hid (Below w.heap.size w W3) := Lib.hid (by rw [hW3]; exact H2.out.alloc H2.out.size _)
      clear hW3 H2
      refine (HI.out _ H3.out).mono ?_
      rintro e W4 ⟨rfl, hB⟩
      have H4 := Lib.hid (H3.out.trans (hB.mono H3.out.size))
      clear hB H3
      go_wp2_with fail
      refine (HS.out _).mono ?_
      rintro e W5 ⟨rfl, hB⟩
      have H5 := Lib.hid (H4.out.trans (hB.mono H4.out.size))
      clear hB H4
      rw [hS5]
      clear hS5
      dsimp only [statusV]
      go_wp2_with fail
      refine (HS2.out _).mono ?_
      rintro e W6 ⟨rfl, hB⟩
      have H6 := Lib.hid (H5.out.trans (hB.mono H5.out.size))
      clear hB H5
      cases k with
      | false =>
        go_wp2
        go_ret
        exact ⟨rfl, H6.out⟩
      | true =>
        obtain ⟨Y1, Y2, hit, b1, b2, b3⟩ := HD.out rfl
        have HIT := Lib.hid hit
        have b4 : binOp .eql 9 (S s) (S s) = pure (.bool true) := by rw [eql_S]; simp
        have b5 : ∀ x y, eqGuard .eql 9 x y (S s) (S s) = pure () := fun x y => guard_S 9 x y s s
        clear hit
        go_wp2_with fail
        refine (HIT.out _ H6.out).mono ?_
        rintro e W7 ⟨rfl, hB⟩
        have H7 := Lib.hid (H6.out.trans (hB.mono H6.out.size))
        clear hB H6
        go_wp2
        go_ret
        exact ⟨rfl, H7.out⟩
    | true =>
      have h100 := (status_true hS5).1
      have g4 : ((c : Int) != code) = true := by rw [bne_iff_ne]; omega
      clear h100 hlo
      go_enter Tryd.func8, Tryd.ntmps8
      go_wp2_with fail
      refine (awake_line L _).mono ?_
      rintro e W1 ⟨rfl, hB⟩
      have H1 := Lib.hid hB
      clear hB
      go_wp2_with fail
      refine (HF.out _).mono ?_
      rintro e W2 ⟨rfl, hB⟩
      have H2 := Lib.hid (H1.out.trans (hB.mono H1.out.size))
      clear hB H1
      go_wp2_with fail
      obtain ⟨W3, hW3⟩ : ∃ W3, W3 = W2.alloc (.cells #[S fn, S fv] 38) := ⟨_, rfl⟩
      rw [← hW3]
      have H3 : Hid (Below w.heap.size w W3) := Lib.hid (by rw [hW3]; exact H2.out.alloc H2.out.size _)
      clear hW3 H2
      refine (HI.out _ H3.out).mono ?_
      rintro e W4 ⟨rfl, hB⟩
      have H4 := Lib.hid (H3.out.trans (hB.mono H3.out.size))
      clear hB H3
      go_wp2_with fail
      refine (HS.out _).mono ?_
      rintro e W5 ⟨rfl, hB⟩
      have H5 := Lib.hid (H4.out.trans (hB.mono H4.out.size))
      clear hB H4
      rw [hS5]
      clear hS5
      dsimp only [statusV]
      go_wp2
      go_ret
      exact ⟨rfl, H5.out⟩
  by_cases hhi : 999 < code
  · have g1 : decide ((100 : Int) ≤ code) = true := decide_eq_true (by omega)
    have g2 : decide (code ≤ 599) = false := decide_eq_false (by omega)
    have g3 : decide ((999 : Int) < code) = true := decide_eq_true hhi
    obtain ⟨c, t5, k5, hS5⟩ : ∃ c t k, statusF X3 = (c, t, k) := ⟨_, _, _, rfl⟩
    cases k5 with
    | false =>
      go_enter Tryd.func8, Tryd.ntmps8
      go_wp2_with fail
      refine (awake_line L _).mono ?_
      rintro e W1 ⟨rfl, hB⟩
      have H1 := Lib.hid hB
      clear hB
      go_wp2_with fail
      refine (HF.out _).mono ?_
      rintro e W2 ⟨rfl, hB⟩
      have H2 := Lib.hid (H1.out.trans (hB.mono H1.out.size))
      clear hB H1
      go_wp2_with fail
      obtain ⟨W3, hW3⟩ : ∃ W3, W3 = W2.alloc (.cells #[S fn, S fv] 38) := ⟨_, rfl⟩
      rw [← hW3]
      have H3 : Hid (Below w.heap.size w W3) := Lib.hid (by rw [hW3]; exact H2.out.alloc H2.out.size _)
      clear hW3 H2
      refine (HI.out _ H3.out).mono ?_
      rintro e W4 ⟨rfl, hB⟩
      have H4 := Lib.hid (H3.out.trans (hB.mono H3.out.size))
      clear hB H3
      go_wp2_with fail
      refine (HS.out _).mono ?_
      rintro e W5 ⟨rfl, hB⟩
      have H5 := Lib.hid (H4.out.trans (hB.mono H4.out.size))
      clear hB H4
      rw [hS5]
      clear hS5
      dsimp only [statusV]
      go_wp2_with fail
      refine (HS2.out _).mono ?_
      rintro e W6 ⟨rfl, hB⟩
      have H6 := Lib.hid (H5.out.trans (hB.mono H5.out.size))
      clear hB H5
      cases k with
      | false =>
        go_wp2
        go_ret
        exact ⟨rfl, H6.out⟩
      | true =>
        obtain ⟨Y1, Y2, hit, b1, b2, b3⟩ := HD.out rfl
        have HIT := Lib.hid hit
        have b4 : binOp .eql 9 (S s) (S s) = pure (.bool true) := by rw [eql_S]; simp
        have b5 : ∀ x y, eqGuard .eql 9 x y (S s) (S s) = pure () := fun x y => guard_S 9 x y s s
        clear hit
        go_wp2_with fail
        refine (HIT.out _ H6.out).mono ?_
        rintro e W7 ⟨rfl, hB⟩
        have H7 := Lib.hid (H6.out.trans (hB.mono H6.out.size))
        clear hB H6
        go_wp2
        go_ret
        exact ⟨rfl, H7.out⟩
    | true =>
      have h599 := (status_true hS5).2.1
      have g4 : ((c : Int) != code) = true := by rw [bne_iff_ne]; omega
      clear h599 hlo hhi
      go_enter Tryd.func8, Tryd.ntmps8
      go_wp2_with fail
      refine (awake_line L _).mono ?_
      rintro e W1 ⟨rfl, hB⟩
      have H1 := Lib.hid hB
      clear hB
      go_wp2_with fail
      refine (HF.out _).mono ?_
      rintro e W2 ⟨rfl, hB⟩
      have H2 := Lib.hid (H1.out.trans (hB.mono H1.out.size))
      clear hB H1
      go_wp2_with fail
      obtain ⟨W3, hW3⟩ : ∃ W3, W3 = W2.alloc (.cells #[S fn, S fv] 38) := ⟨_, rfl⟩
      rw [← hW3]
      have H3 : Hid (Below w.heap.size w W3) := Lib.hid (by rw [hW3]; exact H2.out.alloc H2.out.size _)
      clear hW3 H2
      refine (HI.out _ H3.out).mono ?_
      rintro e W4 ⟨rfl, hB⟩
      have H4 := Lib.hid (H3.out.trans (hB.mono H3.out.size))
      clear hB H3
      go_wp2_with fail
      refine (HS.out _).mono ?_
      rintro e W5 ⟨rfl, hB⟩
      have H5 := Lib.hid (H4.out.trans (hB.mono H4.out.size))
      clear hB H4
      rw [hS5]
      clear hS5
      dsimp only [statusV]
      go_wp2
      go_ret
      exact ⟨rfl, H5.out⟩
  obtain ⟨n, hn⟩ : ∃ n : Nat, code = (n : Int) := ⟨code.toNat, by omega⟩
  subst hn
  have hS := status_code (n := n) r (by omega) (by omega)
  have g1 : decide ((100 : Int) ≤ (n : Int)) = true := decide_eq_true (by omega)
  have hXX : X3 = httpS ++ (dig3 n ++ 32 :: r) := by rw [HX.out, HC.out.2.2, itoa3 (by omega) (by omega)]
  rw [← hXX] at hS
  clear hXX
  by_cases h6 : n ≤ 599
  · have g2 : decide ((n : Int) ≤ 599) = true := decide_eq_true (by omega)
    cases hbad : r.any badB with
    | false =>
      have hS5 : statusF X3 = (n, r, true) := by rw [hS, if_pos ⟨h6, hbad⟩]
      have g4 : ((n : Int) != (n : Int)) = false := by simp
      have g5 : binOp .neq 9 (S r) (S r) = pure (.bool false) := by rw [neql_S]; simp
      have g6 := nguard_S 9
      clear hS h6 hlo hhi
      go_enter Tryd.func8, Tryd.ntmps8
      go_wp2_with fail
      refine (awake_line L _).mono ?_
      rintro e W1 ⟨rfl, hB⟩
      have H1 := Lib.hid hB
      clear hB
      go_wp2_with fail
      refine (HF.out _).mono ?_
      rintro e W2 ⟨rfl, hB⟩
      have H2 := Lib.hid (H1.out.trans (hB.mono H1.out.size))
      clear hB H1
      rw [hbad, Bool.not_false]
      go_wp2_with fail
      obtain ⟨W3, hW3⟩ : ∃ W3, W3 = W2.alloc (.cells #[S fn, S fv] 38) := ⟨_, rfl⟩
      rw [← hW3]
      have H3 : Hid (Below w.heap.size w W3) := Lib.hid (by rw [hW3]; exact H2.out.alloc H2.out.size _)
      clear hW3 H2
      refine (HI.out _ H3.out).mono ?_
      rintro e W4 ⟨rfl, hB⟩
      have H4 := Lib.hid (H3.out.trans (hB.mono H3.out.size))
      clear hB H3
      go_wp2_with fail
      refine (HS.out _).mono ?_
      rintro e W5 ⟨rfl, hB⟩
      have H5 := Lib.hid (H4.out.trans (hB.mono H4.out.size))
      clear hB H4
      rw [hS5]
      clear hS5
      dsimp only [statusV]
      go_wp2_with fail
      refine (HS2.out _).mono ?_
      rintro e W6 ⟨rfl, hB⟩
      have H6 := Lib.hid (H5.out.trans (hB.mono H5.out.size))
      clear hB H5
      cases k with
      | false =>
        go_wp2
        go_ret
        exact ⟨rfl, H6.out⟩
      | true =>
        obtain ⟨Y1, Y2, hit, b1, b2, b3⟩ := HD.out rfl
        have HIT := Lib.hid hit
        have b4 : binOp .eql 9 (S s) (S s) = pure (.bool true) := by rw [eql_S]; simp
        have b5 : ∀ x y, eqGuard .eql 9 x y (S s) (S s) = pure () := fun x y => guard_S 9 x y s s
        clear hit
        go_wp2_with fail
        refine (HIT.out _ H6.out).mono ?_
        rintro e W7 ⟨rfl, hB⟩
        have H7 := Lib.hid (H6.out.trans (hB.mono H6.out.size))
        clear hB H6
        go_wp2
        go_ret
        exact ⟨rfl, H7.out⟩
    | true =>
      have hS5 : statusF X3 = (0, [], false) := by rw [hS, if_neg (fun h => by rw [hbad] at h; cases h.2)]
      clear hS h6 hlo hhi
      go_enter Tryd.func8, Tryd.ntmps8
      go_wp2_with fail
      refine (awake_line L _).mono ?_
      rintro e W1 ⟨rfl, hB⟩
      have H1 := Lib.hid hB
      clear hB
      go_wp2_with fail
      refine (HF.out _).mono ?_
      rintro e W2 ⟨rfl, hB⟩
      have H2 := Lib.hid (H1.out.trans (hB.mono H1.out.size))
      clear hB H1
      rw [hbad, Bool.not_true]
      go_wp2_with fail
      obtain ⟨W3, hW3⟩ : ∃ W3, W3 = W2.alloc (.cells #[S fn, S fv] 38) := ⟨_, rfl⟩
      rw [← hW3]
      have H3 : Hid (Below w.heap.size w W3) := Lib.hid (by rw [hW3]; exact H2.out.alloc H2.out.size _)
      clear hW3 H2
      refine (HI.out _ H3.out).mono ?_
      rintro e W4 ⟨rfl, hB⟩
      have H4 := Lib.hid (H3.out.trans (hB.mono H3.out.size))
      clear hB H3
      go_wp2_with fail
      refine (HS.out _).mono ?_
      rintro e W5 ⟨rfl, hB⟩
      have H5 := Lib.hid (H4.out.trans (hB.mono H4.out.size))
      clear hB H4
      rw [hS5]
      clear hS5
      dsimp only [statusV]
      go_wp2_with fail
      refine (HS2.out _).mono ?_
      rintro e W6 ⟨rfl, hB⟩
      have H6 := Lib.hid (H5.out.trans (hB.mono H5.out.size))
      clear hB H5
      cases k with
      | false =>
        go_wp2
        go_ret
        exact ⟨rfl, H6.out⟩
      | true =>
        obtain ⟨Y1, Y2, hit, b1, b2, b3⟩ := HD.out rfl
        have HIT := Lib.hid hit
        have b4 : binOp .eql 9 (S s) (S s) = pure (.bool true) := by rw [eql_S]; simp
        have b5 : ∀ x y, eqGuard .eql 9 x y (S s) (S s) = pure () := fun x y => guard_S 9 x y s s
        clear hit
        go_wp2_with fail
        refine (HIT.out _ H6.out).mono ?_
        rintro e W7 ⟨rfl, hB⟩
        have H7 := Lib.hid (H6.out.trans (hB.mono H6.out.size))
        clear hB H6
        go_wp2
        go_ret
        exact ⟨rfl, H7.out⟩
  · have g2 : decide ((n : Int) ≤ 599) = false := decide_eq_false (by omega)
    have hS5 : statusF X3 = (0, [], false) := by rw [hS, if_neg (fun h => h6 h.1)]
    clear hS h6 hlo hhi
    go_enter Tryd.func8, Tryd.ntmps8
    go_wp2_with fail
    refine (awake_line L _).mono ?_
    rintro e W1 ⟨rfl, hB⟩
    have H1 := Lib.hid hB
    clear hB
    go_wp2_with fail
    refine (HF.out _).mono ?_
    rintro e W2 ⟨rfl, hB⟩
    have H2 := Lib.hid (H1.out.trans (hB.mono H1.out.size))
    clear hB H1
    go_wp2_with fail
    obtain ⟨W3, hW3⟩ : ∃ W3, W3 = W2.alloc (.cells #[S fn, S fv] 38) := ⟨_, rfl⟩
    rw [← hW3]
    have H3 : Hid (Below w.heap.size w W3) := Lib.hid (by rw [hW3]; exact H2.out.alloc H2.out.size _)
    clear hW3 H2
    refine (HI.out _ H3.out).mono ?_
    rintro e W4 ⟨rfl, hB⟩
    have H4 := Lib.hid (H3.out.trans (hB.mono H3.out.size))
    clear hB H3
    go_wp2_with fail
    refine (HS.out _).mono ?_
    rintro e W5 ⟨rfl, hB⟩
    have H5 := Lib.hid (H4.out.trans (hB.mono H4.out.size))
    clear hB H4
    rw [hS5]
    clear hS5
    dsimp only [statusV]
    go_wp2_with fail
    refine (HS2.out _).mono ?_
    rintro e W6 ⟨rfl, hB⟩
    have H6 := Lib.hid (H5.out.trans (hB.mono H5.out.size))
    clear hB H5
    cases k with
    | false =>
      go_wp2
      go_ret
      exact ⟨rfl, H6.out⟩
    | true =>
      obtain ⟨Y1, Y2, hit, b1, b2, b3⟩ := HD.out rfl
      have HIT := Lib.hid hit
      have b4 : binOp .eql 9 (S s) (S s) = pure (.bool true) := by rw [eql_S]; simp
      have b5 : ∀ x y, eqGuard .eql 9 x y (S s) (S s) = pure () := fun x y => guard_S 9 x y s s
      clear hit
      go_wp2_with fail
      refine (HIT.out _ H6.out).mono ?_
      rintro e W7 ⟨rfl, hB⟩
      have H7 := Lib.hid (H6.out.trans (hB.mono H6.out.size))
      clear hB H6
      go_wp2
      go_ret
      exact ⟨rfl, H7.out⟩
end Go.Proofs.YtemlbegafkmgbaaDoor
