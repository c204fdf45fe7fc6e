/- The landed package of lines does what is asked of it: Parse, Target, Status. (mklz.py writes it.) -/
import Derived.Test.YtemlbegafkmgbaaDoorLi
import Derived.Test.YtemlbegafkmgbaaDoorLv
namespace Go.Proofs.YtemlbegafkmgbaaDoor
open Go.RowKit
attribute [local go_sem] store_one S_match S_store eguard_BN nguard_BN
theorem results_t4 {fn : Func} {t u v x : Tmp} (h : fn.results = #[.tmp t, .tmp u, .tmp v, .tmp x]) (tmps : Array Value) (P : Program) (w : World) :
    (results fn tmps).run P w = .ok (.tuple #[tmps.getD t undef, tmps.getD u undef, tmps.getD v undef, tmps.getD x undef]) w := by
  simp [results, h, go_sem]

set_option maxRecDepth 100000 in
set_option maxHeartbeats 1000000 in
theorem lparse_any (s : List UInt8) (w : World) (hs : s.length ≤ 100000) : Calls Tryd.prog 9 #[S s] w fun e w' => e = .returned (lineV (lineF s)) ∧ Below w.heap.size w w' := by
  have lit : S [32] = .string ⟨#[32]⟩ := rfl
  have lit0 : S [] = .string ⟨#[]⟩ := rfl

  have fin : ∀ (m r t l : List UInt8) (b1 b2 : Bool), m.length ≤ 100000 → t.length ≤ 100000 →
      (∀ w, Calls Tryd.prog 20 #[S s, .string ⟨#[32]⟩] w fun e w' => e = .returned (.tuple #[S m, S r, .bool b1]) ∧ Drawn w w') →
      (∀ w, Calls Tryd.prog 20 #[S r, .string ⟨#[32]⟩] w fun e w' => e = .returned (.tuple #[S t, S l, .bool b2]) ∧ Drawn w w') →
      lineF s = (if (tokF m && (t.all visB && t != []) && verN l != 0) = true then (m, t, verN l, true) else ([], [], 0, false)) →
      Calls Tryd.prog 9 #[S s] w fun e w' => e = .returned (lineV (lineF s)) ∧ Below w.heap.size w w' := by
    intro m r t l b1 b2 hm ht h1 h2 hE
    rw [hE]
    have H1 := Lib.hid h1
    have H2 := Lib.hid h2
    have H3 := Lib.hid (fun w => version_any l w)
    have H4 := Lib.hid (fun w => token15_any m hm w)
    have H5 := Lib.hid (fun w => istarget_any t ht w)
    obtain ⟨n, hn⟩ : ∃ n, n = verN l := ⟨_, rfl⟩
    rw [← hn] at H3
    rw [← hn]
    clear h1 h2 hE hs lit lit0 hm ht hn
    cases a : tokF m with
    | false =>
      rw [a] at H4
      rw [Bool.false_and, Bool.false_and, if_neg Bool.false_ne_true]
      clear a H5
      go_enter Tryd.func9, Tryd.ntmps9
      go_wp2_with fail
      refine (H1.out w).mono ?_
      rintro e W1 ⟨rfl, hd1⟩
      have D1 := Lib.hid hd1
      clear hd1 H1
      go_wp2_with fail
      refine (H2.out W1).mono ?_
      rintro e W2 ⟨rfl, hd2⟩
      have D2 := Lib.hid (D1.out.trans hd2)
      clear hd2 H2 D1
      go_wp2_with fail
      refine (H3.out W2).mono ?_
      rintro e w1 ⟨rfl, hw1⟩
      obtain rfl := hw1.symm
      clear hw1
      go_wp2_with fail
      refine (H4.out W2).mono ?_
      rintro e w1 ⟨rfl, hw1⟩
      obtain rfl := hw1.symm
      clear hw1
      go_wp2
      refine bodyPost_ret (results_t4 rfl _ _ _) rfl ?_
      exact ⟨rfl, D2.out.below⟩
    | true =>
      rw [a] at H4
      rw [Bool.true_and]
      cases b : (t.all visB && t != []) with
      | false =>
        rw [b] at H5
        rw [Bool.false_and, if_neg Bool.false_ne_true]
        clear a b
        go_enter Tryd.func9, Tryd.ntmps9
        go_wp2_with fail
        refine (H1.out w).mono ?_
        rintro e W1 ⟨rfl, hd1⟩
        have D1 := Lib.hid hd1
        clear hd1 H1
        go_wp2_with fail
        refine (H2.out W1).mono ?_
        rintro e W2 ⟨rfl, hd2⟩
        have D2 := Lib.hid (D1.out.trans hd2)
        clear hd2 H2 D1
        go_wp2_with fail
        refine (H3.out W2).mono ?_
        rintro e w1 ⟨rfl, hw1⟩
        obtain rfl := hw1.symm
        clear hw1
        go_wp2_with fail
        refine (H4.out W2).mono ?_
        rintro e w1 ⟨rfl, hw1⟩
        obtain rfl := hw1.symm
        clear hw1
        go_wp2_with fail
        refine (H5.out W2).mono ?_
        rintro e w1 ⟨rfl, hw1⟩
        obtain rfl := hw1.symm
        clear hw1
        go_wp2
        refine bodyPost_ret (results_t4 rfl _ _ _) rfl ?_
        exact ⟨rfl, D2.out.below⟩
      | true =>
        rw [b] at H5
        rw [Bool.true_and]
        clear a b
        by_cases c : n = 0
        · have q : ((n : Int) == 0) = true := by rw [beq_iff_eq]; omega
          rw [show (n != 0) = false by rw [c]; rfl, if_neg Bool.false_ne_true]
          clear c
          go_enter Tryd.func9, Tryd.ntmps9
          go_wp2_with fail
          refine (H1.out w).mono ?_
          rintro e W1 ⟨rfl, hd1⟩
          have D1 := Lib.hid hd1
          clear hd1 H1
          go_wp2_with fail
          refine (H2.out W1).mono ?_
          rintro e W2 ⟨rfl, hd2⟩
          have D2 := Lib.hid (D1.out.trans hd2)
          clear hd2 H2 D1
          go_wp2_with fail
          refine (H3.out W2).mono ?_
          rintro e w1 ⟨rfl, hw1⟩
          obtain rfl := hw1.symm
          clear hw1
          go_wp2_with fail
          refine (H4.out W2).mono ?_
          rintro e w1 ⟨rfl, hw1⟩
          obtain rfl := hw1.symm
          clear hw1
          go_wp2_with fail
          refine (H5.out W2).mono ?_
          rintro e w1 ⟨rfl, hw1⟩
          obtain rfl := hw1.symm
          clear hw1
          go_wp2
          refine bodyPost_ret (results_t4 rfl _ _ _) rfl ?_
          exact ⟨rfl, D2.out.below⟩
        · have q : ((n : Int) == 0) = false := by rw [beq_eq_false_iff_ne]; omega
          rw [show (n != 0) = true from bne_iff_ne.2 c, if_pos rfl]
          clear c
          go_enter Tryd.func9, Tryd.ntmps9
          go_wp2_with fail
          refine (H1.out w).mono ?_
          rintro e W1 ⟨rfl, hd1⟩
          have D1 := Lib.hid hd1
          clear hd1 H1
          go_wp2_with fail
          refine (H2.out W1).mono ?_
          rintro e W2 ⟨rfl, hd2⟩
          have D2 := Lib.hid (D1.out.trans hd2)
          clear hd2 H2 D1
          go_wp2_with fail
          refine (H3.out W2).mono ?_
          rintro e w1 ⟨rfl, hw1⟩
          obtain rfl := hw1.symm
          clear hw1
          go_wp2_with fail
          refine (H4.out W2).mono ?_
          rintro e w1 ⟨rfl, hw1⟩
          obtain rfl := hw1.symm
          clear hw1
          go_wp2_with fail
          refine (H5.out W2).mono ?_
          rintro e w1 ⟨rfl, hw1⟩
          obtain rfl := hw1.symm
          clear hw1
          go_wp2
          refine bodyPost_ret (results_t4 rfl _ _ _) rfl ?_
          exact ⟨rfl, D2.out.below⟩
  rcases cut_cases 32 s with ⟨m, r, rfl, hab⟩ | hm
  · rw [List.length_append, List.length_cons] at hs
    rcases cut_cases 32 r with ⟨t, l, rfl, hab2⟩ | hm2
    · rw [List.length_append, List.length_cons] at hs
      exact fin m (t ++ 32 :: l) t l true true (by omega) (by omega) (fun w => cut_hit 32 m _ hab (by rw [List.length_append, List.length_cons]; omega) w) (fun w => cut_hit 32 t l hab2 (by omega) w) (line_two hab hab2)
    · exact fin m r r [] true false (by omega) (by omega) (fun w => cut_hit 32 m _ hab (by omega) w) (fun w => cut_miss 32 r hm2 w) (by
        rw [line_miss2 hab hm2, show verN [] = 0 by decide, show ((0 : Nat) != 0) = false from rfl, Bool.and_false, if_neg Bool.false_ne_true])
  · exact fin s [] [] [] false false hs (by simp) (fun w => cut_miss 32 s hm w) (fun w => cut_miss 32 [] (by simp) w) (by
      rw [line_miss hm, show (([] : List UInt8).all visB && ([] : List UInt8) != []) = false from rfl, Bool.and_false, Bool.false_and, if_neg Bool.false_ne_true])
set_option maxRecDepth 100000 in
set_option maxHeartbeats 1000000 in
theorem ltarget_any (s : List UInt8) (w : World) (hs : s.length ≤ 100000) : Calls Tryd.prog 10 #[S s] w fun e w' => e = .returned (targetV (targetF s)) ∧ Below w.heap.size w w' := by
  have hlen := run_len_S (P := Tryd.prog) Tryd.underlying9 3 s
  by_cases h5 : 512 < s.length
  · have g1 : decide ((512 : Int) < (s.length : Int)) = true := decide_eq_true (by omega)
    rw [target_long h5]
    clear h5 hs
    go_enter Tryd.func10, Tryd.ntmps10
    go_wp2
    go_ret3
    exact ⟨rfl, Below.refl _ _⟩
  have g1 : decide ((512 : Int) < (s.length : Int)) = false := decide_eq_false (by omega)
  have hpf : ∀ w, Calls Tryd.prog 23 #[S s, .string ⟨#[47]⟩] w fun e w' => e = .returned (.bool (Lib.hasPrefix s [47])) ∧ w' = w := fun w => Any.strings_HasPrefix Tryd.lays99 ⟨s.toArray⟩ ⟨#[47]⟩ w
  have hpe : Lib.hasPrefix s [47] = (s[0]? == some 47) := by
    cases s with
    | nil => rfl
    | cons c r =>
      have e : Lib.hasPrefix (c :: r) [47] = ((47 : UInt8) == c) := by
        show ((47 : UInt8) == c && true) = _
        rw [Bool.and_true]
      rw [e, show ((c :: r)[0]? == some 47) = (c == 47) from rfl, Bool.eq_iff_iff, beq_iff_eq, beq_iff_eq]
      exact eq_comm
  rw [hpe] at hpf
  have HF := Lib.hid hpf
  clear hpf hpe
  by_cases h0 : s[0]? ≠ some 47

  · rw [target_bad h0]
    rw [show (s[0]? == some 47) = false from beq_eq_false_iff_ne.2 h0] at HF
    clear h5 h0 hs
    go_enter Tryd.func10, Tryd.ntmps10
    go_wp2_with fail
    refine (HF.out w).mono ?_
    rintro e w1 ⟨rfl, hw1⟩
    obtain rfl := hw1.symm
    clear hw1
    go_wp2
    go_ret3
    exact ⟨rfl, Below.refl _ _⟩
  replace h0 := Classical.not_not.1 h0
  rw [show (s[0]? == some 47) = true from beq_iff_eq.2 h0] at HF
  have fin : ∀ (a b : List UInt8) (b1 : Bool), a.length ≤ 100000 → b.length ≤ 100000 →
      (∀ w, Calls Tryd.prog 20 #[S s, .string ⟨#[63]⟩] w fun e w' => e = .returned (.tuple #[S a, S b, .bool b1]) ∧ Drawn w w') →
      targetF s = (if (wrF pathB a && wrF queryB b) = true then (a, b, true) else ([], [], false)) →
      Calls Tryd.prog 10 #[S s] w fun e w' => e = .returned (targetV (targetF s)) ∧ Below w.heap.size w w' := by
    intro a b b1 ha hb h1 hE
    rw [hE]
    have H1 := Lib.hid h1
    have H2 := Lib.hid (fun w => written_path a ha w)
    have H3 := Lib.hid (fun w => written_query b hb w)
    clear h1 hE hs h5 h0 ha hb
    cases x : wrF pathB a with
    | false =>
      rw [x] at H2
      rw [Bool.false_and, if_neg Bool.false_ne_true]
      clear x H3
      go_enter Tryd.func10, Tryd.ntmps10
      go_wp2_with fail
      refine (HF.out w).mono ?_
      rintro e w1 ⟨rfl, hw1⟩
      obtain rfl := hw1.symm
      clear hw1
      go_wp2_with fail
      refine (H1.out w).mono ?_
      rintro e W1 ⟨rfl, hd1⟩
      have D1 := Lib.hid hd1
      clear hd1 H1
      go_wp2_with fail
      refine (H2.out W1).mono ?_
      rintro e w1 ⟨rfl, hw1⟩
      obtain rfl := hw1.symm
      clear hw1
      go_wp2
      go_ret3
      exact ⟨rfl, D1.out.below⟩
    | true =>
      rw [x] at H2
      rw [Bool.true_and]
      cases y : wrF queryB b with
      | false =>
        rw [y] at H3
        rw [if_neg Bool.false_ne_true]
        clear x y
        go_enter Tryd.func10, Tryd.ntmps10
        go_wp2_with fail
        refine (HF.out w).mono ?_
        rintro e w1 ⟨rfl, hw1⟩
        obtain rfl := hw1.symm
        clear hw1
        go_wp2_with fail
        refine (H1.out w).mono ?_
        rintro e W1 ⟨rfl, hd1⟩
        have D1 := Lib.hid hd1
        clear hd1 H1
        go_wp2_with fail
        refine (H2.out W1).mono ?_
        rintro e w1 ⟨rfl, hw1⟩
        obtain rfl := hw1.symm
        clear hw1
        go_wp2_with fail
        refine (H3.out W1).mono ?_
        rintro e w1 ⟨rfl, hw1⟩
        obtain rfl := hw1.symm
        clear hw1
        go_wp2
        go_ret3
        exact ⟨rfl, D1.out.below⟩
      | true =>
        rw [y] at H3
        rw [if_pos rfl]
        clear x y
        go_enter Tryd.func10, Tryd.ntmps10
        go_wp2_with fail
        refine (HF.out w).mono ?_
        rintro e w1 ⟨rfl, hw1⟩
        obtain rfl := hw1.symm
        clear hw1
        go_wp2_with fail
        refine (H1.out w).mono ?_
        rintro e W1 ⟨rfl, hd1⟩
        have D1 := Lib.hid hd1
        clear hd1 H1
        go_wp2_with fail
        refine (H2.out W1).mono ?_
        rintro e w1 ⟨rfl, hw1⟩
        obtain rfl := hw1.symm
        clear hw1
        go_wp2_with fail
        refine (H3.out W1).mono ?_
        rintro e w1 ⟨rfl, hw1⟩
        obtain rfl := hw1.symm
        clear hw1
        go_wp2
        go_ret3
        exact ⟨rfl, D1.out.below⟩
  rcases cut_cases 63 s with ⟨a, b, rfl, hab⟩ | hm
  · have hl := hs
    rw [List.length_append, List.length_cons] at hl
    exact fin a b true (by omega) (by omega) (fun w => cut_hit 63 a b hab (by omega) w) (targ_hit h0 (by omega) hab)
  · exact fin s [] false hs (by simp) (fun w => cut_miss 63 s hm w) (targ_miss h0 (by omega) hm)
set_option maxRecDepth 100000 in
set_option maxHeartbeats 1000000 in
theorem lstatus_any (s : List UInt8) (w : World) (hs : s.length ≤ 100000) : Calls Tryd.prog 11 #[S s] w fun e w' => e = .returned (statusV (statusF s)) ∧ Below w.heap.size w w' := by
  have fin : ∀ (v r d q : List UInt8) (b1 b2 : Bool), d.length ≤ 100000 → q.length ≤ 99998 →
      (∀ w, Calls Tryd.prog 20 #[S s, .string ⟨#[32]⟩] w fun e w' => e = .returned (.tuple #[S v, S r, .bool b1]) ∧ Drawn w w') →
      (∀ w, Calls Tryd.prog 20 #[S r, .string ⟨#[32]⟩] w fun e w' => e = .returned (.tuple #[S d, S q, .bool b2]) ∧ Drawn w w') →
      statusF s = (if (v == hver1 && codeOfF d != 0 && b2 && q.all valB) = true then (codeOfF d, q, true) else (0, [], false)) →
      Calls Tryd.prog 11 #[S s] w fun e w' => e = .returned (statusV (statusF s)) ∧ Below w.heap.size w w' := by
    intro v r d q b1 b2 hd hq h1 h2 hE
    rw [hE]
    have H1 := Lib.hid h1
    have H2 := Lib.hid h2
    have H3 := Lib.hid (fun w => code_any d hd w)
    have H4 := Lib.hid (fun w => isreason_any q hq w)
    have hn : binOp .neq 9 (S v) (.string ⟨#[72, 84, 84, 80, 47, 49, 46, 49]⟩) = pure (.bool (v != hver1)) := neql_S 9 v hver1
    have hg : ∀ x y, eqGuard .neq 9 x y (S v) (.string ⟨#[72, 84, 84, 80, 47, 49, 46, 49]⟩) = pure () := fun x y => nguard_S 9 x y v hver1
    obtain ⟨n, hnn⟩ : ∃ n, n = codeOfF d := ⟨_, rfl⟩
    rw [← hnn] at H3
    rw [← hnn]
    clear h1 h2 hE hs hd hq hnn
    by_cases a : v = hver1
    · rw [show (v == hver1) = true from beq_iff_eq.2 a, Bool.true_and]
      rw [show (v != hver1) = false by rw [a]; rfl] at hn
      clear a
      by_cases c : n = 0
      · have k : ((n : Int) == 0) = true := by rw [beq_iff_eq]; omega
        rw [show (n != 0) = false by rw [c]; rfl, Bool.false_and, Bool.false_and, if_neg Bool.false_ne_true]
        clear c H4
        go_enter Tryd.func11, Tryd.ntmps11
        go_wp2_with fail
        refine (H1.out w).mono ?_
        rintro e W1 ⟨rfl, hd1⟩
        have D1 := Lib.hid hd1
        clear hd1 H1
        go_wp2_with fail
        refine (H2.out W1).mono ?_
        rintro e W2 ⟨rfl, hd2⟩
        have D2 := Lib.hid (D1.out.trans hd2)
        clear hd2 H2 D1
        go_wp2_with fail
        refine (H3.out W2).mono ?_
        rintro e W3 ⟨rfl, hd3⟩
        have D3 := Lib.hid (D2.out.trans hd3)
        clear hd3 H3 D2
        go_wp2
        go_ret3
        exact ⟨rfl, D3.out.below⟩
      · have k : ((n : Int) == 0) = false := by rw [beq_eq_false_iff_ne]; omega
        rw [show (n != 0) = true from bne_iff_ne.2 c, Bool.true_and]
        clear c
        cases b2 with
        | false =>
          rw [Bool.false_and, if_neg Bool.false_ne_true]
          clear H4
          go_enter Tryd.func11, Tryd.ntmps11
          go_wp2_with fail
          refine (H1.out w).mono ?_
          rintro e W1 ⟨rfl, hd1⟩
          have D1 := Lib.hid hd1
          clear hd1 H1
          go_wp2_with fail
          refine (H2.out W1).mono ?_
          rintro e W2 ⟨rfl, hd2⟩
          have D2 := Lib.hid (D1.out.trans hd2)
          clear hd2 H2 D1
          go_wp2_with fail
          refine (H3.out W2).mono ?_
          rintro e W3 ⟨rfl, hd3⟩
          have D3 := Lib.hid (D2.out.trans hd3)
          clear hd3 H3 D2
          go_wp2
          go_ret3
          exact ⟨rfl, D3.out.below⟩
        | true =>
          rw [Bool.true_and]
          cases y : q.all valB with
          | false =>
            rw [y] at H4
            rw [if_neg Bool.false_ne_true]
            clear y
            go_enter Tryd.func11, Tryd.ntmps11
            go_wp2_with fail
            refine (H1.out w).mono ?_
            rintro e W1 ⟨rfl, hd1⟩
            have D1 := Lib.hid hd1
            clear hd1 H1
            go_wp2_with fail
            refine (H2.out W1).mono ?_
            rintro e W2 ⟨rfl, hd2⟩
            have D2 := Lib.hid (D1.out.trans hd2)
            clear hd2 H2 D1
            go_wp2_with fail
            refine (H3.out W2).mono ?_
            rintro e W3 ⟨rfl, hd3⟩
            have D3 := Lib.hid (D2.out.trans hd3)
            clear hd3 H3 D2
            go_wp2_with fail
            refine (H4.out W3).mono ?_
            rintro e W4 ⟨rfl, hb4⟩
            have D4 := Lib.hid (D3.out.below.trans (hb4.mono D3.out.below.size))
            clear hb4 H4 D3
            go_wp2
            go_ret3
            exact ⟨rfl, D4.out⟩
          | true =>
            rw [y] at H4
            rw [if_pos rfl]
            clear y
            go_enter Tryd.func11, Tryd.ntmps11
            go_wp2_with fail
            refine (H1.out w).mono ?_
            rintro e W1 ⟨rfl, hd1⟩
            have D1 := Lib.hid hd1
            clear hd1 H1
            go_wp2_with fail
            refine (H2.out W1).mono ?_
            rintro e W2 ⟨rfl, hd2⟩
            have D2 := Lib.hid (D1.out.trans hd2)
            clear hd2 H2 D1
            go_wp2_with fail
            refine (H3.out W2).mono ?_
            rintro e W3 ⟨rfl, hd3⟩
            have D3 := Lib.hid (D2.out.trans hd3)
            clear hd3 H3 D2
            go_wp2_with fail
            refine (H4.out W3).mono ?_
            rintro e W4 ⟨rfl, hb4⟩
            have D4 := Lib.hid (D3.out.below.trans (hb4.mono D3.out.below.size))
            clear hb4 H4 D3
            go_wp2
            go_ret3
            exact ⟨rfl, D4.out⟩
    · rw [show (v == hver1) = false from beq_eq_false_iff_ne.2 a, Bool.false_and, Bool.false_and, Bool.false_and, if_neg Bool.false_ne_true]
      rw [show (v != hver1) = true from bne_iff_ne.2 a] at hn
      clear a H4
      go_enter Tryd.func11, Tryd.ntmps11
      go_wp2_with fail
      refine (H1.out w).mono ?_
      rintro e W1 ⟨rfl, hd1⟩
      have D1 := Lib.hid hd1
      clear hd1 H1
      go_wp2_with fail
      refine (H2.out W1).mono ?_
      rintro e W2 ⟨rfl, hd2⟩
      have D2 := Lib.hid (D1.out.trans hd2)
      clear hd2 H2 D1
      go_wp2_with fail
      refine (H3.out W2).mono ?_
      rintro e W3 ⟨rfl, hd3⟩
      have D3 := Lib.hid (D2.out.trans hd3)
      clear hd3 H3 D2
      go_wp2
      go_ret3
      exact ⟨rfl, D3.out.below⟩
  rcases cut_cases 32 s with ⟨v, r, rfl, hab⟩ | hm
  · rw [List.length_append, List.length_cons] at hs
    rcases cut_cases 32 r with ⟨d, q, rfl, hab2⟩ | hm2
    · rw [List.length_append, List.length_cons] at hs
      exact fin v (d ++ 32 :: q) d q true true (by omega) (by omega) (fun w => cut_hit 32 v _ hab (by rw [List.length_append, List.length_cons]; omega) w) (fun w => cut_hit 32 d q hab2 (by omega) w) (by rw [stat_two hab hab2, Bool.and_true])
    · exact fin v r r [] true false (by omega) (by simp) (fun w => cut_hit 32 v _ hab (by omega) w) (fun w => cut_miss 32 r hm2 w) (by
        rw [stat_miss2 hab hm2, Bool.and_false, Bool.false_and, if_neg Bool.false_ne_true])
  · exact fin s [] [] [] false false (by simp) (by simp) (fun w => cut_miss 32 s hm w) (fun w => cut_miss 32 [] (by simp) w) (by
      rw [stat_miss hm, Bool.and_false, Bool.false_and, if_neg Bool.false_ne_true])
theorem lineI : LineI where
  parse := lparse_any
  target := ltarget_any
  status := lstatus_any
end Go.Proofs.YtemlbegafkmgbaaDoor
