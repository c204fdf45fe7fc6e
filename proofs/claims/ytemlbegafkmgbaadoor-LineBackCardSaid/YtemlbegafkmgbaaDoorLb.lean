/- LineBack walked, over any packages that do what is asked of them. (mklb.py writes it.) -/
import Derived.Test.YtemlbegafkmgbaaDoorLj
namespace Go.Proofs.YtemlbegafkmgbaaDoor
open Go.RowKit
attribute [local go_sem] store_one S_match S_store

def verS : List UInt8 := [32, 72, 84, 84, 80, 47, 49, 46]
theorem ver0 : verS ++ [48] = http0 := rfl
theorem ver1 : verS ++ [49] = http1 := rfl
set_option maxRecDepth 100000 in
set_option maxHeartbeats 4000000 in
theorem lback_any (L : LineI) (T : World → Prop) (O : OutI T) (m0 t0 s : List UInt8) (_hm : m0.length ≤ maxLen) (_ht : t0.length ≤ maxLen) (_hs : s.length ≤ maxLen) (w : World) :
    Calls Tryd.prog 6 #[S m0, S t0, S s] w fun e w' => e = .returned (.bool true) ∧ Below w.heap.size w w' := by
  have hlm := run_len_S (P := Tryd.prog) Tryd.underlying9 3 m0
  have hlt := run_len_S (P := Tryd.prog) Tryd.underlying9 3 t0
  have hls := run_len_S (P := Tryd.prog) Tryd.underlying9 3 s
  by_cases hm : 1000 < m0.length
  · have j0 : decide ((1000 : Int) < (m0.length : Int)) = true := decide_eq_true (by omega)
    go_enter Tryd.func6, Tryd.ntmps6
    go_wp2_with fail
    refine (awake_line L _).mono ?_
    rintro e W1 ⟨rfl, hB⟩
    have HB := Lib.hid hB
    clear hB
    go_wp2
    go_ret
    exact ⟨rfl, HB.out⟩
  have j0 : decide ((1000 : Int) < (m0.length : Int)) = false := decide_eq_false (by omega)
  by_cases ht : 1000 < t0.length
  · have j1 : decide ((1000 : Int) < (t0.length : Int)) = true := decide_eq_true (by omega)
    go_enter Tryd.func6, Tryd.ntmps6
    go_wp2_with fail
    refine (awake_line L _).mono ?_
    rintro e W1 ⟨rfl, hB⟩
    have HB := Lib.hid hB
    clear hB
    go_wp2
    go_ret
    exact ⟨rfl, HB.out⟩
  have j1 : decide ((1000 : Int) < (t0.length : Int)) = false := decide_eq_false (by omega)
  by_cases hs : 1000 < s.length
  · have j2 : decide ((1000 : Int) < (s.length : Int)) = true := decide_eq_true (by omega)
    go_enter Tryd.func6, Tryd.ntmps6
    go_wp2_with fail
    refine (awake_line L _).mono ?_
    rintro e W1 ⟨rfl, hB⟩
    have HB := Lib.hid hB
    clear hB
    go_wp2
    go_ret
    exact ⟨rfl, HB.out⟩
  have j2 : decide ((1000 : Int) < (s.length : Int)) = false := decide_eq_false (by omega)
  obtain ⟨X1, hX1⟩ : ∃ X, X = m0 ++ [32] := ⟨_, rfl⟩
  obtain ⟨X2, hX2⟩ : ∃ X, X = X1 ++ t0 := ⟨_, rfl⟩
  obtain ⟨X3, hX3⟩ : ∃ X, X = X2 ++ verS := ⟨_, rfl⟩
  have l1 : X1.length = m0.length + 1 := by rw [hX1, List.length_append]; rfl
  have l2 : X2.length = m0.length + 1 + t0.length := by rw [hX2, List.length_append, l1]
  have l3 : X3.length = m0.length + 1 + t0.length + 8 := by rw [hX3, List.length_append, l2]; rfl
  have a1 : binOp .add 9 (S m0) (.string ⟨#[32]⟩) = pure (S X1) := by rw [hX1]; exact S_add 9 m0 [32] (by simp; omega)
  have a2 : binOp .add 9 (S X1) (S t0) = pure (S X2) := by rw [hX2]; exact S_add 9 X1 t0 (by omega)
  have a3 : binOp .add 9 (S X2) (.string ⟨#[32, 72, 84, 84, 80, 47, 49, 46]⟩) = pure (S X3) := by rw [hX3]; exact S_add 9 X2 verS (by simp [verS]; omega)
  have HX : Hid (X2 = m0 ++ 32 :: t0 ∧ X3 = X2 ++ verS ∧ X2.length ≤ 2001 ∧ X3.length ≤ 2009) := Lib.hid ⟨by rw [hX2, hX1]; simp, hX3, by omega, by omega⟩
  have HLn : Hid (m0.length ≤ 1000 ∧ t0.length ≤ 1000 ∧ s.length ≤ 1000) := Lib.hid ⟨by omega, by omega, by omega⟩
  obtain ⟨tm, htm⟩ : ∃ b, tokF m0 = b := ⟨_, rfl⟩
  obtain ⟨p, q, is, htg⟩ : ∃ p q b, targetF t0 = (p, q, b) := ⟨_, _, _, rfl⟩
  have HTK : Hid (∀ W, Calls Tryd.prog 18 #[S m0] W fun e w' => e = .returned (.bool tm) ∧ Below W.heap.size W w') := Lib.hid fun W => by
    have := O.token m0 W (by omega)
    rw [htm] at this; exact this
  have HTG : Hid (∀ W, Calls Tryd.prog 10 #[S t0] W fun e w' => e = .returned (.tuple #[S p, S q, .bool is]) ∧ Below W.heap.size W w') := Lib.hid fun W => by
    have := L.target t0 W (by omega)
    rw [htg] at this; exact this
  have HM : Hid (tokF m0 = tm ∧ targetF t0 = (p, q, is)) := Lib.hid ⟨htm, htg⟩
  have e0 : ∀ x, binOp .neq 9 (S x) (S x) = pure (.bool false) := fun x => by rw [neql_S]; simp
  have g0 := nguard_S 9
  have g1 : ∀ a b x, eqGuard .eql 9 a b (S x) (.string ⟨#[]⟩) = pure () := fun a b x => guard_S 9 a b x []
  have g2 : ∀ a b x, eqGuard .neq 9 a b (S x) (.string ⟨#[]⟩) = pure () := fun a b x => nguard_S 9 a b x []
  have n0 : binOp .neq 9 (S []) (.string ⟨#[]⟩) = pure (.bool false) := neql_S 9 [] []
  clear hX1 hX2 hX3 l1 l2 l3 htm htg _hm _ht _hs hm ht hs
  go_enter Tryd.func6, Tryd.ntmps6
  go_wp2_with fail
  refine (awake_line L _).mono ?_
  rintro e W1 ⟨rfl, hB⟩
  have H1 := Lib.hid hB
  clear hB
  go_wp2
  go_loopw [7] (fun iv wr => (iv = .int .i64 10 ∨ iv = .int .i64 11 ∨ iv = .int .i64 12) ∧ Below w.heap.size w wr) (fun iv _ => (12 - intOf iv).toNat)
  case atStart => exact ⟨.inl rfl, H1.out⟩
  case round =>
    obtain ⟨hv, hB⟩ := hrel
    have H2 := Lib.hid hB
    clear hB
    rcases hv with rfl | rfl | rfl
    · have X4e : X3 ++ [48] = (m0 ++ 32 :: t0) ++ http0 := by rw [HX.out.2.1, HX.out.1, List.append_assoc, ver0]
      obtain ⟨X4, hX4⟩ : ∃ X, X = X3 ++ [48] := ⟨_, rfl⟩
      rw [← hX4] at X4e
      have a4 : binOp .add 9 (S X3) (S [48]) = pure (S X4) := by rw [hX4]; exact S_add 9 X3 _ (by have := HX.out; simp; omega)
      have hl4 : X4.length ≤ 2010 := by rw [hX4, List.length_append]; have := HX.out; simp; omega
      have HIT : Hid (∀ W, Calls Tryd.prog 17 #[.int .i64 0] W fun e w' => e = .returned (S [48]) ∧ Below W.heap.size W w') := Lib.hid fun W => O.small 0 W (by omega)
      obtain ⟨m, t, n, ok, hP⟩ : ∃ m t n b, lineF X4 = (m, t, n, b) := ⟨_, _, _, _, rfl⟩
      have HPC : Hid (∀ W, Calls Tryd.prog 9 #[S X4] W fun e w' => e = .returned (lineV (m, t, n, ok)) ∧ Below W.heap.size W w') := Lib.hid fun W => by
        have := L.parse X4 W (by omega)
        rw [hP] at this; exact this
      cases ok with
      | true =>
        rw [X4e] at hP
        obtain ⟨f1, f2, f3, f4⟩ := lineF_back (v := 10) (.inl ⟨rfl, rfl⟩) hP
        have f5 : (m ++ [32]) ++ t = X2 := by rw [HX.out.1, ← f1]; simp
        have fl : m.length + 1 + t.length ≤ 2001 := by
          have := congrArg List.length f5
          have h2 := HX.out.2.2.1
          rw [List.length_append, List.length_append, List.length_singleton] at this
          omega
        obtain ⟨M1, hM1⟩ : ∃ X, X = m ++ [32] := ⟨_, rfl⟩
        have b1 : binOp .add 9 (S m) (.string ⟨#[32]⟩) = pure (S M1) := by rw [hM1]; exact S_add 9 m [32] (by simp; omega)
        have b2 : binOp .add 9 (S M1) (S t) = pure (S X2) := by
          rw [← f5, ← hM1]
          exact S_add 9 M1 t (by rw [hM1, List.length_append]; simp; omega)
        have n1 : binOp .eql 9 (S t) (.string ⟨#[]⟩) = pure (.bool false) := by
          refine (eql_S 9 t []).trans ?_
          rw [beq_eq_false_iff_ne.2 f4]
        have HTM : Hid (∀ W, Calls Tryd.prog 18 #[S m] W fun e w' => e = .returned (.bool true) ∧ Below W.heap.size W w') := Lib.hid fun W => by
          have := O.token m W (by omega)
          rw [f3] at this; exact this
        -- where both may be, they are those
        have hAB : tm = true → is = true → m = m0 ∧ t = t0 := fun h1 h2 => by
          have h3 := HM.out.1
          have h4 := HM.out.2
          rw [h1] at h3
          rw [h2] at h4
          obtain ⟨hv1, hv2⟩ := target_vis h4
          have h5 := lineF_of (q := http0) h3 hv1 hv2 (.inl rfl)
          rw [show m0 ++ 32 :: (t0 ++ http0) = (m0 ++ 32 :: t0) ++ http0 by simp, hP] at h5
          exact ⟨(Prod.mk.inj h5).1, (Prod.mk.inj (Prod.mk.inj h5).2).1⟩
        subst f2
        have HAB := Lib.hid hAB
        clear hAB X4e hX4 hl4 hP f1 f3 f4 f5 fl hM1
        go_wp2_with fail
        refine (HIT.out _).mono ?_
        rintro e W3 ⟨rfl, hB⟩
        have H3 := Lib.hid (H2.out.trans (hB.mono H2.out.size))
        clear hB
        clear HIT
        go_wp2_with fail
        refine (HPC.out _).mono ?_
        rintro e W4 ⟨rfl, hB⟩
        have H4 := Lib.hid (H3.out.trans (hB.mono H3.out.size))
        clear hB
        clear HPC
        dsimp only [lineV]
        go_wp2_with fail
        refine (HTM.out _).mono ?_
        rintro e W5 ⟨rfl, hB⟩
        have H5 := Lib.hid (H4.out.trans (hB.mono H4.out.size))
        clear hB
        clear HTM
        go_wp2_with fail
        refine (HTG.out _).mono ?_
        rintro e W6 ⟨rfl, hB⟩
        have H6 := Lib.hid (H5.out.trans (hB.mono H5.out.size))
        clear hB
        go_wp2_with fail
        refine (HTK.out _).mono ?_
        rintro e W7 ⟨rfl, hB⟩
        have H7 := Lib.hid (H6.out.trans (hB.mono H6.out.size))
        clear hB
        cases tm with
        | false =>
          go_wp2
          exact ⟨⟨.inr (.inl rfl), H7.out⟩, by simp [intOf]⟩
        | true =>
          cases is with
          | false =>
            go_wp2
            exact ⟨⟨.inr (.inl rfl), H7.out⟩, by simp [intOf]⟩
          | true =>
            obtain ⟨rfl, rfl⟩ := HAB.out rfl rfl
            go_wp2
            exact ⟨⟨.inr (.inl rfl), H7.out⟩, by simp [intOf]⟩
      | false =>
        obtain ⟨rfl, rfl, rfl⟩ := lineF_false hP
        have hAB : tm = true → is = true → False := fun h1 h2 => by
          have h3 := HM.out.1
          have h4 := HM.out.2
          rw [h1] at h3
          rw [h2] at h4
          obtain ⟨hv1, hv2⟩ := target_vis h4
          have h5 := lineF_of (q := http0) h3 hv1 hv2 (.inl rfl)
          rw [show m0 ++ 32 :: (t0 ++ http0) = (m0 ++ 32 :: t0) ++ http0 by simp, ← X4e, hP] at h5
          cases h5
        have HAB := Lib.hid hAB
        clear hAB X4e hX4 hl4 hP
        go_wp2_with fail
        refine (HIT.out _).mono ?_
        rintro e W3 ⟨rfl, hB⟩
        have H3 := Lib.hid (H2.out.trans (hB.mono H2.out.size))
        clear hB
        clear HIT
        go_wp2_with fail
        refine (HPC.out _).mono ?_
        rintro e W4 ⟨rfl, hB⟩
        have H4 := Lib.hid (H3.out.trans (hB.mono H3.out.size))
        clear hB
        clear HPC
        dsimp only [lineV]
        go_wp2_with fail
        refine (HTG.out _).mono ?_
        rintro e W6 ⟨rfl, hB⟩
        have H6 := Lib.hid (H4.out.trans (hB.mono H4.out.size))
        clear hB
        go_wp2_with fail
        refine (HTK.out _).mono ?_
        rintro e W7 ⟨rfl, hB⟩
        have H7 := Lib.hid (H6.out.trans (hB.mono H6.out.size))
        clear hB
        cases tm with
        | false =>
          go_wp2
          exact ⟨⟨.inr (.inl rfl), H7.out⟩, by simp [intOf]⟩
        | true =>
          cases is with
          | false =>
            go_wp2
            exact ⟨⟨.inr (.inl rfl), H7.out⟩, by simp [intOf]⟩
          | true => exact (HAB.out rfl rfl).elim
    · have X4e : X3 ++ [49] = (m0 ++ 32 :: t0) ++ http1 := by rw [HX.out.2.1, HX.out.1, List.append_assoc, ver1]
      obtain ⟨X4, hX4⟩ : ∃ X, X = X3 ++ [49] := ⟨_, rfl⟩
      rw [← hX4] at X4e
      have a4 : binOp .add 9 (S X3) (S [49]) = pure (S X4) := by rw [hX4]; exact S_add 9 X3 _ (by have := HX.out; simp; omega)
      have hl4 : X4.length ≤ 2010 := by rw [hX4, List.length_append]; have := HX.out; simp; omega
      have HIT : Hid (∀ W, Calls Tryd.prog 17 #[.int .i64 1] W fun e w' => e = .returned (S [49]) ∧ Below W.heap.size W w') := Lib.hid fun W => O.small 1 W (by omega)
      obtain ⟨m, t, n, ok, hP⟩ : ∃ m t n b, lineF X4 = (m, t, n, b) := ⟨_, _, _, _, rfl⟩
      have HPC : Hid (∀ W, Calls Tryd.prog 9 #[S X4] W fun e w' => e = .returned (lineV (m, t, n, ok)) ∧ Below W.heap.size W w') := Lib.hid fun W => by
        have := L.parse X4 W (by omega)
        rw [hP] at this; exact this
      cases ok with
      | true =>
        rw [X4e] at hP
        obtain ⟨f1, f2, f3, f4⟩ := lineF_back (v := 11) (.inr ⟨rfl, rfl⟩) hP
        have f5 : (m ++ [32]) ++ t = X2 := by rw [HX.out.1, ← f1]; simp
        have fl : m.length + 1 + t.length ≤ 2001 := by
          have := congrArg List.length f5
          have h2 := HX.out.2.2.1
          rw [List.length_append, List.length_append, List.length_singleton] at this
          omega
        obtain ⟨M1, hM1⟩ : ∃ X, X = m ++ [32] := ⟨_, rfl⟩
        have b1 : binOp .add 9 (S m) (.string ⟨#[32]⟩) = pure (S M1) := by rw [hM1]; exact S_add 9 m [32] (by simp; omega)
        have b2 : binOp .add 9 (S M1) (S t) = pure (S X2) := by
          rw [← f5, ← hM1]
          exact S_add 9 M1 t (by rw [hM1, List.length_append]; simp; omega)
        have n1 : binOp .eql 9 (S t) (.string ⟨#[]⟩) = pure (.bool false) := by
          refine (eql_S 9 t []).trans ?_
          rw [beq_eq_false_iff_ne.2 f4]
        have HTM : Hid (∀ W, Calls Tryd.prog 18 #[S m] W fun e w' => e = .returned (.bool true) ∧ Below W.heap.size W w') := Lib.hid fun W => by
          have := O.token m W (by omega)
          rw [f3] at this; exact this
        -- where both may be, they are those
        have hAB : tm = true → is = true → m = m0 ∧ t = t0 := fun h1 h2 => by
          have h3 := HM.out.1
          have h4 := HM.out.2
          rw [h1] at h3
          rw [h2] at h4
          obtain ⟨hv1, hv2⟩ := target_vis h4
          have h5 := lineF_of (q := http1) h3 hv1 hv2 (.inr rfl)
          rw [show m0 ++ 32 :: (t0 ++ http1) = (m0 ++ 32 :: t0) ++ http1 by simp, hP] at h5
          exact ⟨(Prod.mk.inj h5).1, (Prod.mk.inj (Prod.mk.inj h5).2).1⟩
        subst f2
        have HAB := Lib.hid hAB
        clear hAB X4e hX4 hl4 hP f1 f3 f4 f5 fl hM1
        go_wp2_with fail
        refine (HIT.out _).mono ?_
        rintro e W3 ⟨rfl, hB⟩
        have H3 := Lib.hid (H2.out.trans (hB.mono H2.out.size))
        clear hB
        clear HIT
        go_wp2_with fail
        refine (HPC.out _).mono ?_
        rintro e W4 ⟨rfl, hB⟩
        have H4 := Lib.hid (H3.out.trans (hB.mono H3.out.size))
        clear hB
        clear HPC
        dsimp only [lineV]
        go_wp2_with fail
        refine (HTM.out _).mono ?_
        rintro e W5 ⟨rfl, hB⟩
        have H5 := Lib.hid (H4.out.trans (hB.mono H4.out.size))
        clear hB
        clear HTM
        go_wp2_with fail
        refine (HTG.out _).mono ?_
        rintro e W6 ⟨rfl, hB⟩
        have H6 := Lib.hid (H5.out.trans (hB.mono H5.out.size))
        clear hB
        go_wp2_with fail
        refine (HTK.out _).mono ?_
        rintro e W7 ⟨rfl, hB⟩
        have H7 := Lib.hid (H6.out.trans (hB.mono H6.out.size))
        clear hB
        cases tm with
        | false =>
          go_wp2
          exact ⟨⟨.inr (.inr rfl), H7.out⟩, by simp [intOf]⟩
        | true =>
          cases is with
          | false =>
            go_wp2
            exact ⟨⟨.inr (.inr rfl), H7.out⟩, by simp [intOf]⟩
          | true =>
            obtain ⟨rfl, rfl⟩ := HAB.out rfl rfl
            go_wp2
            exact ⟨⟨.inr (.inr rfl), H7.out⟩, by simp [intOf]⟩
      | false =>
        obtain ⟨rfl, rfl, rfl⟩ := lineF_false hP
        have hAB : tm = true → is = true → False := fun h1 h2 => by
          have h3 := HM.out.1
          have h4 := HM.out.2
          rw [h1] at h3
          rw [h2] at h4
          obtain ⟨hv1, hv2⟩ := target_vis h4
          have h5 := lineF_of (q := http1) h3 hv1 hv2 (.inr rfl)
          rw [show m0 ++ 32 :: (t0 ++ http1) = (m0 ++ 32 :: t0) ++ http1 by simp, ← X4e, hP] at h5
          cases h5
        have HAB := Lib.hid hAB
        clear hAB X4e hX4 hl4 hP
        go_wp2_with fail
        refine (HIT.out _).mono ?_
        rintro e W3 ⟨rfl, hB⟩
        have H3 := Lib.hid (H2.out.trans (hB.mono H2.out.size))
        clear hB
        clear HIT
        go_wp2_with fail
        refine (HPC.out _).mono ?_
        rintro e W4 ⟨rfl, hB⟩
        have H4 := Lib.hid (H3.out.trans (hB.mono H3.out.size))
        clear hB
        clear HPC
        dsimp only [lineV]
        go_wp2_with fail
        refine (HTG.out _).mono ?_
        rintro e W6 ⟨rfl, hB⟩
        have H6 := Lib.hid (H4.out.trans (hB.mono H4.out.size))
        clear hB
        go_wp2_with fail
        refine (HTK.out _).mono ?_
        rintro e W7 ⟨rfl, hB⟩
        have H7 := Lib.hid (H6.out.trans (hB.mono H6.out.size))
        clear hB
        cases tm with
        | false =>
          go_wp2
          exact ⟨⟨.inr (.inr rfl), H7.out⟩, by simp [intOf]⟩
        | true =>
          cases is with
          | false =>
            go_wp2
            exact ⟨⟨.inr (.inr rfl), H7.out⟩, by simp [intOf]⟩
          | true => exact (HAB.out rfl rfl).elim
    · obtain ⟨m, t, n, ok, hP⟩ : ∃ m t n b, lineF s = (m, t, n, b) := ⟨_, _, _, _, rfl⟩
      have HPC : Hid (∀ W, Calls Tryd.prog 9 #[S s] W fun e w' => e = .returned (lineV (m, t, n, ok)) ∧ Below W.heap.size W w') := Lib.hid fun W => by
        have := L.parse s W (by have := HLn.out; omega)
        rw [hP] at this; exact this
      cases ok with
      | false =>
        clear hP
        go_wp2_with fail
        refine (HPC.out _).mono ?_
        rintro e W3 ⟨rfl, hB⟩
        have H3 := Lib.hid (H2.out.trans (hB.mono H2.out.size))
        clear hB
        dsimp only [lineV]
        go_wp2
        go_ret
        exact ⟨rfl, H3.out⟩
      | true =>
        obtain ⟨_, _, _, h4⟩ := lineF_true hP
        have e1 : binOp .eql 9 (S s) (S s) = pure (.bool true) := by rw [eql_S]; simp
        have e2 : ∀ x y, eqGuard .eql 9 x y (S s) (S s) = pure () := fun x y => guard_S 9 x y s s
        have hsl := HLn.out.2.2
        rcases h4 with ⟨rfl, h4⟩ | ⟨rfl, h4⟩
        · have f5 : (((m ++ [32]) ++ t) ++ verS) ++ [48] = s := by rw [h4, ← ver0]; simp
          have fl : m.length + 1 + t.length + 9 ≤ 1000 := by
            have := congrArg List.length f5
            rw [List.length_append, List.length_append, List.length_append, List.length_append, List.length_singleton, List.length_singleton, show verS.length = 8 from rfl] at this
            omega
          obtain ⟨M1, hM1⟩ : ∃ X, X = m ++ [32] := ⟨_, rfl⟩
          obtain ⟨M2, hM2⟩ : ∃ X, X = M1 ++ t := ⟨_, rfl⟩
          obtain ⟨M3, hM3⟩ : ∃ X, X = M2 ++ verS := ⟨_, rfl⟩
          have l1 : M1.length = m.length + 1 := by rw [hM1, List.length_append]; rfl
          have l2 : M2.length = m.length + 1 + t.length := by rw [hM2, List.length_append, l1]
          have l3 : M3.length = m.length + 1 + t.length + 8 := by rw [hM3, List.length_append, l2]; rfl
          have b1 : binOp .add 9 (S m) (.string ⟨#[32]⟩) = pure (S M1) := by rw [hM1]; exact S_add 9 m [32] (by simp; omega)
          have b2 : binOp .add 9 (S M1) (S t) = pure (S M2) := by rw [hM2]; exact S_add 9 M1 t (by omega)
          have b3 : binOp .add 9 (S M2) (.string ⟨#[32, 72, 84, 84, 80, 47, 49, 46]⟩) = pure (S M3) := by rw [hM3]; exact S_add 9 M2 verS (by simp [verS]; omega)
          have b4 : binOp .add 9 (S M3) (S [48]) = pure (S s) := by
            rw [S_add 9 M3 _ (by simp; omega), hM3, hM2, hM1, f5]
          have HIT : Hid (∀ W, Calls Tryd.prog 17 #[.int .i64 0] W fun e w' => e = .returned (S [48]) ∧ Below W.heap.size W w') := Lib.hid fun W => O.small 0 W (by omega)
          have HPD : Hid (∀ W, Calls Tryd.prog 9 #[S s] W fun e w' => e = .returned (.tuple #[S m, S t, .int .i64 10, .bool true]) ∧ Below W.heap.size W w') := HPC
          clear HPC hP h4 f5 fl hM1 hM2 hM3 l1 l2 l3 hsl
          go_wp2_with fail
          refine (HPD.out _).mono ?_
          rintro e W3 ⟨rfl, hB⟩
          have H3 := Lib.hid (H2.out.trans (hB.mono H2.out.size))
          clear hB
          go_wp2_with fail
          refine (HIT.out _).mono ?_
          rintro e W4 ⟨rfl, hB⟩
          have H4 := Lib.hid (H3.out.trans (hB.mono H3.out.size))
          clear hB
          go_wp2
          go_ret
          exact ⟨rfl, H4.out⟩
        · have f5 : (((m ++ [32]) ++ t) ++ verS) ++ [49] = s := by rw [h4, ← ver1]; simp
          have fl : m.length + 1 + t.length + 9 ≤ 1000 := by
            have := congrArg List.length f5
            rw [List.length_append, List.length_append, List.length_append, List.length_append, List.length_singleton, List.length_singleton, show verS.length = 8 from rfl] at this
            omega
          obtain ⟨M1, hM1⟩ : ∃ X, X = m ++ [32] := ⟨_, rfl⟩
          obtain ⟨M2, hM2⟩ : ∃ X, X = M1 ++ t := ⟨_, rfl⟩
          obtain ⟨M3, hM3⟩ : ∃ X, X = M2 ++ verS := ⟨_, rfl⟩
          have l1 : M1.length = m.length + 1 := by rw [hM1, List.length_append]; rfl
          have l2 : M2.length = m.length + 1 + t.length := by rw [hM2, List.length_append, l1]
          have l3 : M3.length = m.length + 1 + t.length + 8 := by rw [hM3, List.length_append, l2]; rfl
          have b1 : binOp .add 9 (S m) (.string ⟨#[32]⟩) = pure (S M1) := by rw [hM1]; exact S_add 9 m [32] (by simp; omega)
          have b2 : binOp .add 9 (S M1) (S t) = pure (S M2) := by rw [hM2]; exact S_add 9 M1 t (by omega)
          have b3 : binOp .add 9 (S M2) (.string ⟨#[32, 72, 84, 84, 80, 47, 49, 46]⟩) = pure (S M3) := by rw [hM3]; exact S_add 9 M2 verS (by simp [verS]; omega)
          have b4 : binOp .add 9 (S M3) (S [49]) = pure (S s) := by
            rw [S_add 9 M3 _ (by simp; omega), hM3, hM2, hM1, f5]
          have HIT : Hid (∀ W, Calls Tryd.prog 17 #[.int .i64 1] W fun e w' => e = .returned (S [49]) ∧ Below W.heap.size W w') := Lib.hid fun W => O.small 1 W (by omega)
          have HPD : Hid (∀ W, Calls Tryd.prog 9 #[S s] W fun e w' => e = .returned (.tuple #[S m, S t, .int .i64 11, .bool true]) ∧ Below W.heap.size W w') := HPC
          clear HPC hP h4 f5 fl hM1 hM2 hM3 l1 l2 l3 hsl
          go_wp2_with fail
          refine (HPD.out _).mono ?_
          rintro e W3 ⟨rfl, hB⟩
          have H3 := Lib.hid (H2.out.trans (hB.mono H2.out.size))
          clear hB
          go_wp2_with fail
          refine (HIT.out _).mono ?_
          rintro e W4 ⟨rfl, hB⟩
          have H4 := Lib.hid (H3.out.trans (hB.mono H3.out.size))
          clear hB
          go_wp2
          go_ret
          exact ⟨rfl, H4.out⟩
end Go.Proofs.YtemlbegafkmgbaaDoor
