/- LineTargets walked, over any package that does what is asked of it. (mklt.py writes it.) -/
import Derived.Test.YtemlbegafkmgbaaDoorLg
namespace Go.Proofs.YtemlbegafkmgbaaDoor
open Go.RowKit
attribute [local go_sem] store_one S_match S_store eguard_BN nguard_BN

theorem rem_any (a b : Nat) (hb : 1 ≤ b) (w : World) : (binOp .rem 3 (.int .i64 (a : Int)) (.int .i64 (b : Int))).run Tryd.prog w = .ok (.int .i64 ((a % b : Nat) : Int)) w := by
  have h0 : (b : Int) ≠ 0 := by omega
  have e : ((a : Int).tmod (b : Int)) = ((a % b : Nat) : Int) := by rw [Int.tmod_eq_emod_of_nonneg (by omega)]; omega
  simp [binOp, e, go_sem]
  omega
theorem conv_u16 (n : Nat) (h : n ≤ 65535) (w : World) : (convert 35 3 (.int .u16 (n : Int))).run Tryd.prog w = .ok (.int .i64 (n : Int)) w := by
  have e : IntKind.i64.wrap (n : Int) = (n : Int) := by rw [IntKind.wrap_i64]; omega
  simp [convert, run_underlying Tryd.underlying35, run_underlying Tryd.underlying3, e, go_sem]
theorem eq37 (c : UInt8) : binOp .eql 5 (B c) (.int .u8 37) = pure (.bool (c == 37)) := by
  rw [B_eqlN]
  by_cases h : c = 37
  · rw [h]; rfl
  · rw [B_eql37 c h, beq_eq_false_iff_ne.2 h]
set_option maxRecDepth 100000 in
set_option maxHeartbeats 4000000 in
theorem ltargets_any (L : LineI) (s t : List UInt8) (cut : Nat) (_hs : s.length ≤ maxLen) (_ht : t.length ≤ maxLen) (hcut : cut ≤ 65535) (w : World) :
    Calls Tryd.prog 7 #[S s, S t, .int .u16 (cut : Int)] w fun e w' => e = .returned (.bool true) ∧ Below w.heap.size w w' := by
  have hls := run_len_S (P := Tryd.prog) Tryd.underlying9 3 s
  have hlt := run_len_S (P := Tryd.prog) Tryd.underlying9 3 t
  by_cases h0 : 600 < s.length
  · have j0 : decide ((600 : Int) < (s.length : Int)) = true := decide_eq_true (by omega)
    go_enter Tryd.func7, Tryd.ntmps7
    go_wp2_with fail
    refine (awake_line L _).mono ?_
    rintro e W1 ⟨rfl, hB⟩
    have HB := Lib.hid hB
    clear hB
    go_wp2
    go_ret
    exact ⟨rfl, HB.out⟩
  have j0 : decide ((600 : Int) < (s.length : Int)) = false := decide_eq_false (by omega)
  by_cases h1 : 600 < t.length
  · have j1 : decide ((600 : Int) < (t.length : Int)) = true := decide_eq_true (by omega)
    go_enter Tryd.func7, Tryd.ntmps7
    go_wp2_with fail
    refine (awake_line L _).mono ?_
    rintro e W1 ⟨rfl, hB⟩
    have HB := Lib.hid hB
    clear hB
    go_wp2
    go_ret
    exact ⟨rfl, HB.out⟩
  have j1 : decide ((600 : Int) < (t.length : Int)) = false := decide_eq_false (by omega)
  have HT : Hid (∀ (z : List UInt8) (W : World), z.length ≤ 100000 → Calls Tryd.prog 10 #[S z] W fun e w' => e = .returned (targetV (targetF z)) ∧ Below W.heap.size W w') := Lib.hid L.target
  have hs6 : s.length ≤ 600 := by omega
  have ht6 : t.length ≤ 600 := by omega
  obtain ⟨p, q, k, hP⟩ : ∃ p q k, targetF s = (p, q, k) := ⟨_, _, _, rfl⟩
  have HP : Hid (∀ W, Calls Tryd.prog 10 #[S s] W fun e w' => e = .returned (.tuple #[S p, S q, .bool k]) ∧ Below W.heap.size W w') := Lib.hid fun W => by
    have := L.target s W (by omega)
    rw [hP] at this; exact this
  have g0 := nguard_S 9
  have g1 : ∀ a b x, eqGuard .eql 9 a b (S x) (.string ⟨#[]⟩) = pure () := fun a b x => guard_S 9 a b x []
  have g2 := guard_S 9
  have e0 : ∀ x, binOp .neq 9 (S x) (S x) = pure (.bool false) := fun x => by rw [neql_S]; simp
  clear h0 h1 _hs _ht
  cases k with
  | false =>
    obtain ⟨rfl, rfl⟩ := target_false hP
    have n0 : binOp .eql 9 (S []) (.string ⟨#[]⟩) = pure (.bool true) := eql_S 9 [] []
    clear hP
    go_enter Tryd.func7, Tryd.ntmps7
    go_wp2_with fail
    refine (awake_line L _).mono ?_
    rintro e W1 ⟨rfl, hB⟩
    have H1 := Lib.hid hB
    clear hB
    go_wp2_with fail
    refine (HP.out _).mono ?_
    rintro e W2 ⟨rfl, hB⟩
    have H2 := Lib.hid (H1.out.trans (hB.mono H1.out.size))
    clear hB
    go_wp2
    go_ret
    exact ⟨rfl, H2.out⟩
  | true =>
    obtain ⟨t1, t2, t3, t4, t5, t6, t7, t8, _⟩ := target_true hP
    have hp1 : 1 ≤ p.length := by
      cases p with
      | nil => cases t1
      | cons => simp
    have n0 : binOp .eql 9 (S p) (.string ⟨#[]⟩) = pure (.bool false) := by
      refine (eql_S 9 p []).trans ?_
      rw [beq_eq_false_iff_ne.2 (fun h => by rw [h] at hp1; simp at hp1)]
    have hlp := run_len_S (P := Tryd.prog) Tryd.underlying9 3 p
    have hlq := run_len_S (P := Tryd.prog) Tryd.underlying9 3 q
    obtain ⟨X1, hX1⟩ : ∃ X, X = p ++ [63] := ⟨_, rfl⟩
    obtain ⟨X2, hX2⟩ : ∃ X, X = X1 ++ q := ⟨_, rfl⟩
    have l1 : X1.length = p.length + 1 := by rw [hX1, List.length_append]; rfl
    have l2 : X2.length = p.length + 1 + q.length := by rw [hX2, List.length_append, l1]
    have a1 : binOp .add 9 (S p) (.string ⟨#[63]⟩) = pure (S X1) := by rw [hX1]; exact S_add 9 p [63] (by simp; omega)
    have a2 : binOp .add 9 (S X1) (S q) = pure (S X2) := by rw [hX2]; exact S_add 9 X1 q (by omega)
    -- the cut
    obtain ⟨P, hPl⟩ : ∃ P, P = p.length := ⟨_, rfl⟩
    obtain ⟨r, hr⟩ : ∃ r, r = cut % P := ⟨_, rfl⟩
    have hrl : r < P := by rw [hr]; exact Nat.mod_lt _ (by omega)
    have hrem : ∀ w, (binOp .rem 3 (.int .i64 (cut : Int)) (.int .i64 (P : Int))).run Tryd.prog w = .ok (.int .i64 (r : Int)) w := fun w => by rw [hr]; exact rem_any cut P (by omega) w
    have hP0 : ¬ P = 0 := by omega
    have hP1 : (P : Int) ≠ 0 := by omega
    have hP2 : ((P : Int) == 0) = false := by rw [beq_eq_false_iff_ne]; omega
    have hmod : (cut : Int).tmod (P : Int) = (r : Int) := by rw [Int.tmod_eq_emod_of_nonneg (by omega), hr]; omega
    have hwr : IntKind.i64.wrap (r : Int) = (r : Int) := by rw [IntKind.wrap_i64]; omega
    have hcv := conv_u16 cut hcut
    obtain ⟨kk, hkk⟩ : ∃ kk, kk = 1 + r := ⟨_, rfl⟩
    have hw0 : IntKind.i64.wrap (1 + (r : Int)) = (kk : Int) := by rw [IntKind.wrap_i64]; omega
    have hw1 : IntKind.i64.wrap ((kk : Int) - 1) = (r : Int) := by rw [IntKind.wrap_i64]; omega
    have hsl : ∀ w, (Instr.slice 9 (S p) none (some (.int .i64 (kk : Int))) none).run Tryd.prog w = .ok (S (p.take kk)) w := fun w => slice_take (P := Tryd.prog) Tryd.underlying9 p kk (by omega) w
    have htk := okT_take _ p kk (Nat.le_refl _) t2 (by omega) (by omega)
    obtain ⟨c1, hc1⟩ : ∃ c, p[r]? = some c := ⟨p[r]'(by omega), List.getElem?_eq_getElem _⟩
    have hi1 : ∀ w, (Instr.index 9 (S p) (.int .i64 (r : Int))).run Tryd.prog w = .ok (B c1) w := fun w => index_S (P := Tryd.prog) Tryd.underlying9 p r c1 hc1 w
    have q1 := eq37 c1
    rw [show kk - 1 = r by omega, hc1, show (some c1 == some (37 : UInt8)) = (c1 == 37) by simp] at htk
    have h0t : (p.take kk)[0]? = some 47 := by rw [List.getElem?_take, if_pos (by omega)]; exact t1
    have hqt : 63 ∉ p.take kk := fun h => t4 (List.mem_of_mem_take h)
    have hlt5 : (p.take kk).length ≤ 512 := by rw [List.length_take]; omega
    obtain ⟨pt, hpt⟩ : ∃ b, okT (p.take kk) = b := ⟨_, rfl⟩
    rw [hpt] at htk
    obtain ⟨pp, HPT⟩ : ∃ pp : List UInt8, Hid (∀ W, Calls Tryd.prog 10 #[S (p.take kk)] W fun e w' => e = .returned (.tuple #[S pp, S [], .bool pt]) ∧ Below W.heap.size W w') := by
      cases pt with
      | true =>
        refine ⟨p.take kk, Lib.hid fun W => ?_⟩
        have := L.target (p.take kk) W (by omega)
        rw [target_path h0t hlt5 hpt hqt] at this; exact this
      | false =>
        refine ⟨[], Lib.hid fun W => ?_⟩
        have := L.target (p.take kk) W (by omega)
        rw [target_none hpt] at this; exact this
    -- the other text
    obtain ⟨x, y, k3, hX⟩ : ∃ x y k, targetF t = (x, y, k) := ⟨_, _, _, rfl⟩
    have HX : Hid (∀ W, Calls Tryd.prog 10 #[S t] W fun e w' => e = .returned (.tuple #[S x, S y, .bool k3]) ∧ Below W.heap.size W w') := Lib.hid fun W => by
      have := L.target t W (by omega)
      rw [hX] at this; exact this
    have hxl : x.length ≤ 512 := by
      cases k3 with
      | true => exact (target_true hX).2.2.2.2.1
      | false => rw [(target_false hX).1]; simp
    obtain ⟨X3, hX3⟩ : ∃ X, X = p ++ x := ⟨_, rfl⟩
    have l3 : X3.length = p.length + x.length := by rw [hX3, List.length_append]
    have a3 : binOp .add 9 (S p) (S x) = pure (S X3) := by rw [hX3]; exact S_add 9 p x (by omega)
    have hl3 := run_len_S (P := Tryd.prog) Tryd.underlying9 3 X3
    obtain ⟨z1, z2, z3, hZ⟩ : ∃ a b c, targetF X3 = (a, b, c) := ⟨_, _, _, rfl⟩
    have HZ : Hid (∀ W, Calls Tryd.prog 10 #[S X3] W fun e w' => e = .returned (.tuple #[S z1, S z2, .bool z3]) ∧ Below W.heap.size W w') := Lib.hid fun W => by
      have := L.target X3 W (by omega)
      rw [hZ] at this; exact this
    have HZ2 : Hid (k3 = true → X3.length ≤ 512 → z1 = X3 ∧ z3 = true) := Lib.hid fun h1 h2 => by
      rw [h1] at hX
      obtain ⟨u1, u2, _, u4, _⟩ := target_true hX
      have := target_path (p := X3) (by rw [hX3, List.getElem?_append_left (by omega)]; exact t1) h2 (by rw [hX3, okT_append _ p x (Nat.le_refl _) t2]; exact u2) (fun h => by
        rw [hX3] at h
        rcases List.mem_append.1 h with h | h
        · exact t4 h
        · exact u4 h)
      rw [hZ] at this
      exact ⟨(Prod.mk.inj this).1, (Prod.mk.inj (Prod.mk.inj this).2).2⟩
    have hX3l : X3.length ≤ 1024 := by omega
    have hql : q.length ≤ 512 := t6
    have hw2 : IntKind.i64.wrap ((P : Int) + 1) = (P : Int) + 1 := by rw [IntKind.wrap_i64]; omega
    have hw3 : IntKind.i64.wrap ((P : Int) + 1 + (q.length : Int)) = (P : Int) + 1 + (q.length : Int) := by rw [IntKind.wrap_i64]; omega
    have HQ : Hid ((P + 1 + q.length ≤ 512 → targetF X2 = (p, q, true)) ∧ (512 < P + 1 + q.length → targetF X2 = ([], [], false)) ∧ X2.length ≤ 2000) := Lib.hid
      ⟨fun h => by rw [hX2, hX1]; exact target_query t1 (by omega) t2 t3 t4, fun h => target_long (by omega), by omega⟩
    have HI2 : Hid (1 < kk → ∃ c2, (∀ w, (Instr.index 9 (S p) (.int .i64 ((kk - 2 : Nat) : Int))).run Tryd.prog w = .ok (B c2) w) ∧ pt = !((c1 == 37) || (c2 == 37))) := Lib.hid fun h => by
      obtain ⟨c2, hc2⟩ : ∃ c, p[kk - 2]? = some c := ⟨p[kk - 2]'(by omega), List.getElem?_eq_getElem _⟩
      refine ⟨c2, fun w => index_S (P := Tryd.prog) Tryd.underlying9 p (kk - 2) c2 hc2 w, ?_⟩
      rw [htk, hc2, decide_eq_true (by omega), Bool.true_and, show (some c2 == some (37 : UInt8)) = (c2 == 37) by simp]
    have HI1 : Hid (kk = 1 → pt = !(c1 == 37)) := Lib.hid fun h => by rw [htk, h]; simp
    have hkb : 1 ≤ kk ∧ kk ≤ 512 ∧ P ≤ 512 ∧ r ≤ 512 := by omega
    rw [← hPl] at hlp
    have HM := Lib.hid (And.intro hPl hkb)
    have hPb : P < 1000 := by omega
    have hkb2 : kk < 1000 := by omega
    have hrb : r < 1000 := by omega
    clear hP hX1 hX2 hX3 l1 l2 l3 t1 t2 t3 t4 t5 t6 t7 t8 hp1 hPl hr hrl hkk htk hc1 h0t hqt hlt5 hpt hX hZ hxl hkb hs6 ht6
    generalize p.take kk = PK at *
    go_enter Tryd.func7, Tryd.ntmps7
    go_wp2_with fail
    refine (awake_line L _).mono ?_
    rintro e W1 ⟨rfl, hB⟩
    have H1 := Lib.hid hB
    clear hB
    go_wp2_with fail
    refine (HP.out _).mono ?_
    rintro e W2 ⟨rfl, hB⟩
    have H2 := Lib.hid (H1.out.trans (hB.mono H1.out.size))
    clear hB H1
    go_wp2_with fail
    refine (HT.out X2 _ (by have := HQ.out.2.2; omega)).mono ?_
    rintro e W3 ⟨rfl, hB⟩
    have H3 := Lib.hid (H2.out.trans (hB.mono H2.out.size))
    clear hB H2
    by_cases h5 : P + 1 + q.length ≤ 512
    · rw [HQ.out.1 h5]
      dsimp only [targetV]
      have g8 : decide ((P : Int) + 1 + (q.length : Int) ≤ 512) = true := decide_eq_true (by omega)
      clear h5
      go_wp2_with fail
      refine (HPT.out _).mono ?_
      rintro e W4 ⟨rfl, hB⟩
      have H4 := Lib.hid (H3.out.trans (hB.mono H3.out.size))
      clear hB H3
      by_cases hk1 : kk = 1
      · have hpt := HI1.out hk1
        have g7 : decide ((1 : Int) < (kk : Int)) = false := decide_eq_false (by omega)
        clear hk1
        cases hc37 : c1 == 37 with
        | true =>
          rw [hc37] at hpt q1
          subst hpt
          clear hc37
          go_wp2_with fail
          refine (HX.out _).mono ?_
          rintro e W5 ⟨rfl, hB⟩
          have H5 := Lib.hid (H4.out.trans (hB.mono H4.out.size))
          clear hB H4
          go_wp2_with fail
          refine (HZ.out _).mono ?_
          rintro e W6 ⟨rfl, hB⟩
          have H6 := Lib.hid (H5.out.trans (hB.mono H5.out.size))
          clear hB H5
          cases k3 with
          | false =>
            go_wp2
            go_ret
            exact ⟨rfl, H6.out⟩
          | true =>
            by_cases h5 : 512 < X3.length
            · have g9 : decide ((512 : Int) < (X3.length : Int)) = true := decide_eq_true (by omega)
              clear h5
              go_wp2
              go_ret
              exact ⟨rfl, H6.out⟩
            · have g9 : decide ((512 : Int) < (X3.length : Int)) = false := decide_eq_false (by omega)
              obtain ⟨hz1, hz3⟩ := HZ2.out rfl (by omega)
              subst hz1 hz3
              have e9 : binOp .eql 9 (S z1) (S z1) = pure (.bool true) := by rw [eql_S]; simp
              clear h5
              go_wp2
              go_ret
              exact ⟨rfl, H6.out⟩
        | false =>
          rw [hc37] at hpt q1
          subst hpt
          clear hc37
          go_wp2_with fail
          refine (HX.out _).mono ?_
          rintro e W5 ⟨rfl, hB⟩
          have H5 := Lib.hid (H4.out.trans (hB.mono H4.out.size))
          clear hB H4
          go_wp2_with fail
          refine (HZ.out _).mono ?_
          rintro e W6 ⟨rfl, hB⟩
          have H6 := Lib.hid (H5.out.trans (hB.mono H5.out.size))
          clear hB H5
          cases k3 with
          | false =>
            go_wp2
            go_ret
            exact ⟨rfl, H6.out⟩
          | true =>
            by_cases h5 : 512 < X3.length
            · have g9 : decide ((512 : Int) < (X3.length : Int)) = true := decide_eq_true (by omega)
              clear h5
              go_wp2
              go_ret
              exact ⟨rfl, H6.out⟩
            · have g9 : decide ((512 : Int) < (X3.length : Int)) = false := decide_eq_false (by omega)
              obtain ⟨hz1, hz3⟩ := HZ2.out rfl (by omega)
              subst hz1 hz3
              have e9 : binOp .eql 9 (S z1) (S z1) = pure (.bool true) := by rw [eql_S]; simp
              clear h5
              go_wp2
              go_ret
              exact ⟨rfl, H6.out⟩
      · obtain ⟨c2, hi2, hpt⟩ := HI2.out (by have := HM.out.2.1; omega)
        have g7 : decide ((1 : Int) < (kk : Int)) = true := decide_eq_true (by have := HM.out.2.1; omega)
        have hw4 : IntKind.i64.wrap ((kk : Int) - 2) = ((kk - 2 : Nat) : Int) := by rw [IntKind.wrap_i64]; have := HM.out.2.1; omega
        have q2 := eq37 c2
        generalize kk - 2 = k2 at *
        clear hk1
        cases hc37 : c1 == 37 with
        | true =>
          rw [hc37] at hpt q1
          subst hpt
          clear hc37
          go_wp2_with fail
          refine (HX.out _).mono ?_
          rintro e W5 ⟨rfl, hB⟩
          have H5 := Lib.hid (H4.out.trans (hB.mono H4.out.size))
          clear hB H4
          go_wp2_with fail
          refine (HZ.out _).mono ?_
          rintro e W6 ⟨rfl, hB⟩
          have H6 := Lib.hid (H5.out.trans (hB.mono H5.out.size))
          clear hB H5
          cases k3 with
          | false =>
            go_wp2
            go_ret
            exact ⟨rfl, H6.out⟩
          | true =>
            by_cases h5 : 512 < X3.length
            · have g9 : decide ((512 : Int) < (X3.length : Int)) = true := decide_eq_true (by omega)
              clear h5
              go_wp2
              go_ret
              exact ⟨rfl, H6.out⟩
            · have g9 : decide ((512 : Int) < (X3.length : Int)) = false := decide_eq_false (by omega)
              obtain ⟨hz1, hz3⟩ := HZ2.out rfl (by omega)
              subst hz1 hz3
              have e9 : binOp .eql 9 (S z1) (S z1) = pure (.bool true) := by rw [eql_S]; simp
              clear h5
              go_wp2
              go_ret
              exact ⟨rfl, H6.out⟩
        | false =>
          rw [hc37, Bool.false_or] at hpt
          rw [hc37] at q1
          clear hc37
          cases hc2 : c2 == 37 with
          | true =>
            rw [hc2] at hpt q2
            subst hpt
            clear hc2
            go_wp2_with fail
            refine (HX.out _).mono ?_
            rintro e W5 ⟨rfl, hB⟩
            have H5 := Lib.hid (H4.out.trans (hB.mono H4.out.size))
            clear hB H4
            go_wp2_with fail
            refine (HZ.out _).mono ?_
            rintro e W6 ⟨rfl, hB⟩
            have H6 := Lib.hid (H5.out.trans (hB.mono H5.out.size))
            clear hB H5
            cases k3 with
            | false =>
              go_wp2
              go_ret
              exact ⟨rfl, H6.out⟩
            | true =>
              by_cases h5 : 512 < X3.length
              · have g9 : decide ((512 : Int) < (X3.length : Int)) = true := decide_eq_true (by omega)
                clear h5
                go_wp2
                go_ret
                exact ⟨rfl, H6.out⟩
              · have g9 : decide ((512 : Int) < (X3.length : Int)) = false := decide_eq_false (by omega)
                obtain ⟨hz1, hz3⟩ := HZ2.out rfl (by omega)
                subst hz1 hz3
                have e9 : binOp .eql 9 (S z1) (S z1) = pure (.bool true) := by rw [eql_S]; simp
                clear h5
                go_wp2
                go_ret
                exact ⟨rfl, H6.out⟩
          | false =>
            rw [hc2] at hpt q2
            subst hpt
            clear hc2
            go_wp2_with fail
            refine (HX.out _).mono ?_
            rintro e W5 ⟨rfl, hB⟩
            have H5 := Lib.hid (H4.out.trans (hB.mono H4.out.size))
            clear hB H4
            go_wp2_with fail
            refine (HZ.out _).mono ?_
            rintro e W6 ⟨rfl, hB⟩
            have H6 := Lib.hid (H5.out.trans (hB.mono H5.out.size))
            clear hB H5
            cases k3 with
            | false =>
              go_wp2
              go_ret
              exact ⟨rfl, H6.out⟩
            | true =>
              by_cases h5 : 512 < X3.length
              · have g9 : decide ((512 : Int) < (X3.length : Int)) = true := decide_eq_true (by omega)
                clear h5
                go_wp2
                go_ret
                exact ⟨rfl, H6.out⟩
              · have g9 : decide ((512 : Int) < (X3.length : Int)) = false := decide_eq_false (by omega)
                obtain ⟨hz1, hz3⟩ := HZ2.out rfl (by omega)
                subst hz1 hz3
                have e9 : binOp .eql 9 (S z1) (S z1) = pure (.bool true) := by rw [eql_S]; simp
                clear h5
                go_wp2
                go_ret
                exact ⟨rfl, H6.out⟩
    · rw [HQ.out.2.1 (by omega)]
      dsimp only [targetV]
      have g8 : decide ((P : Int) + 1 + (q.length : Int) ≤ 512) = false := decide_eq_false (by omega)
      clear h5
      go_wp2_with fail
      refine (HPT.out _).mono ?_
      rintro e W4 ⟨rfl, hB⟩
      have H4 := Lib.hid (H3.out.trans (hB.mono H3.out.size))
      clear hB H3
      by_cases hk1 : kk = 1
      · have hpt := HI1.out hk1
        have g7 : decide ((1 : Int) < (kk : Int)) = false := decide_eq_false (by omega)
        clear hk1
        cases hc37 : c1 == 37 with
        | true =>
          rw [hc37] at hpt q1
          subst hpt
          clear hc37
          go_wp2_with fail
          refine (HX.out _).mono ?_
          rintro e W5 ⟨rfl, hB⟩
          have H5 := Lib.hid (H4.out.trans (hB.mono H4.out.size))
          clear hB H4
          go_wp2_with fail
          refine (HZ.out _).mono ?_
          rintro e W6 ⟨rfl, hB⟩
          have H6 := Lib.hid (H5.out.trans (hB.mono H5.out.size))
          clear hB H5
          cases k3 with
          | false =>
            go_wp2
            go_ret
            exact ⟨rfl, H6.out⟩
          | true =>
            by_cases h5 : 512 < X3.length
            · have g9 : decide ((512 : Int) < (X3.length : Int)) = true := decide_eq_true (by omega)
              clear h5
              go_wp2
              go_ret
              exact ⟨rfl, H6.out⟩
            · have g9 : decide ((512 : Int) < (X3.length : Int)) = false := decide_eq_false (by omega)
              obtain ⟨hz1, hz3⟩ := HZ2.out rfl (by omega)
              subst hz1 hz3
              have e9 : binOp .eql 9 (S z1) (S z1) = pure (.bool true) := by rw [eql_S]; simp
              clear h5
              go_wp2
              go_ret
              exact ⟨rfl, H6.out⟩
        | false =>
          rw [hc37] at hpt q1
          subst hpt
          clear hc37
          go_wp2_with fail
          refine (HX.out _).mono ?_
          rintro e W5 ⟨rfl, hB⟩
          have H5 := Lib.hid (H4.out.trans (hB.mono H4.out.size))
          clear hB H4
          go_wp2_with fail
          refine (HZ.out _).mono ?_
          rintro e W6 ⟨rfl, hB⟩
          have H6 := Lib.hid (H5.out.trans (hB.mono H5.out.size))
          clear hB H5
          cases k3 with
          | false =>
            go_wp2
            go_ret
            exact ⟨rfl, H6.out⟩
          | true =>
            by_cases h5 : 512 < X3.length
            · have g9 : decide ((512 : Int) < (X3.length : Int)) = true := decide_eq_true (by omega)
              clear h5
              go_wp2
              go_ret
              exact ⟨rfl, H6.out⟩
            · have g9 : decide ((512 : Int) < (X3.length : Int)) = false := decide_eq_false (by omega)
              obtain ⟨hz1, hz3⟩ := HZ2.out rfl (by omega)
              subst hz1 hz3
              have e9 : binOp .eql 9 (S z1) (S z1) = pure (.bool true) := by rw [eql_S]; simp
              clear h5
              go_wp2
              go_ret
              exact ⟨rfl, H6.out⟩
      · obtain ⟨c2, hi2, hpt⟩ := HI2.out (by have := HM.out.2.1; omega)
        have g7 : decide ((1 : Int) < (kk : Int)) = true := decide_eq_true (by have := HM.out.2.1; omega)
        have hw4 : IntKind.i64.wrap ((kk : Int) - 2) = ((kk - 2 : Nat) : Int) := by rw [IntKind.wrap_i64]; have := HM.out.2.1; omega
        have q2 := eq37 c2
        generalize kk - 2 = k2 at *
        clear hk1
        cases hc37 : c1 == 37 with
        | true =>
          rw [hc37] at hpt q1
          subst hpt
          clear hc37
          go_wp2_with fail
          refine (HX.out _).mono ?_
          rintro e W5 ⟨rfl, hB⟩
          have H5 := Lib.hid (H4.out.trans (hB.mono H4.out.size))
          clear hB H4
          go_wp2_with fail
          refine (HZ.out _).mono ?_
          rintro e W6 ⟨rfl, hB⟩
          have H6 := Lib.hid (H5.out.trans (hB.mono H5.out.size))
          clear hB H5
          cases k3 with
          | false =>
            go_wp2
            go_ret
            exact ⟨rfl, H6.out⟩
          | true =>
            by_cases h5 : 512 < X3.length
            · have g9 : decide ((512 : Int) < (X3.length : Int)) = true := decide_eq_true (by omega)
              clear h5
              go_wp2
              go_ret
              exact ⟨rfl, H6.out⟩
            · have g9 : decide ((512 : Int) < (X3.length : Int)) = false := decide_eq_false (by omega)
              obtain ⟨hz1, hz3⟩ := HZ2.out rfl (by omega)
              subst hz1 hz3
              have e9 : binOp .eql 9 (S z1) (S z1) = pure (.bool true) := by rw [eql_S]; simp
              clear h5
              go_wp2
              go_ret
              exact ⟨rfl, H6.out⟩
        | false =>
          rw [hc37, Bool.false_or] at hpt
          rw [hc37] at q1
          clear hc37
          cases hc2 : c2 == 37 with
          | true =>
            rw [hc2] at hpt q2
            subst hpt
            clear hc2
            go_wp2_with fail
            refine (HX.out _).mono ?_
            rintro e W5 ⟨rfl, hB⟩
            have H5 := Lib.hid (H4.out.trans (hB.mono H4.out.size))
            clear hB H4
            go_wp2_with fail
            refine (HZ.out _).mono ?_
            rintro e W6 ⟨rfl, hB⟩
            have H6 := Lib.hid (H5.out.trans (hB.mono H5.out.size))
            clear hB H5
            cases k3 with
            | false =>
              go_wp2
              go_ret
              exact ⟨rfl, H6.out⟩
            | true =>
              by_cases h5 : 512 < X3.length
              · have g9 : decide ((512 : Int) < (X3.length : Int)) = true := decide_eq_true (by omega)
                clear h5
                go_wp2
                go_ret
                exact ⟨rfl, H6.out⟩
              · have g9 : decide ((512 : Int) < (X3.length : Int)) = false := decide_eq_false (by omega)
                obtain ⟨hz1, hz3⟩ := HZ2.out rfl (by omega)
                subst hz1 hz3
                have e9 : binOp .eql 9 (S z1) (S z1) = pure (.bool true) := by rw [eql_S]; simp
                clear h5
                go_wp2
                go_ret
                exact ⟨rfl, H6.out⟩
          | false =>
            rw [hc2] at hpt q2
            subst hpt
            clear hc2
            go_wp2_with fail
            refine (HX.out _).mono ?_
            rintro e W5 ⟨rfl, hB⟩
            have H5 := Lib.hid (H4.out.trans (hB.mono H4.out.size))
            clear hB H4
            go_wp2_with fail
            refine (HZ.out _).mono ?_
            rintro e W6 ⟨rfl, hB⟩
            have H6 := Lib.hid (H5.out.trans (hB.mono H5.out.size))
            clear hB H5
            cases k3 with
            | false =>
              go_wp2
              go_ret
              exact ⟨rfl, H6.out⟩
            | true =>
              by_cases h5 : 512 < X3.length
              · have g9 : decide ((512 : Int) < (X3.length : Int)) = true := decide_eq_true (by omega)
                clear h5
                go_wp2
                go_ret
                exact ⟨rfl, H6.out⟩
              · have g9 : decide ((512 : Int) < (X3.length : Int)) = false := decide_eq_false (by omega)
                obtain ⟨hz1, hz3⟩ := HZ2.out rfl (by omega)
                subst hz1 hz3
                have e9 : binOp .eql 9 (S z1) (S z1) = pure (.bool true) := by rw [eql_S]; simp
                clear h5
                go_wp2
                go_ret
                exact ⟨rfl, H6.out⟩
end Go.Proofs.YtemlbegafkmgbaaDoor
