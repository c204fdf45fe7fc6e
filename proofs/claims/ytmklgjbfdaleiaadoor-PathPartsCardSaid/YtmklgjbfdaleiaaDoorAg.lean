/- The law's PathBack (stage 11) walked. (mkag.py writes it.) -/
import Derived.Test.YtmklgjbfdaleiaaDoorAf
namespace Go.Proofs.YtmklgjbfdaleiaaDoor
open Go.RowKit
attribute [local go_sem] store_one B_match B_store S_match S_store eguard_BN nguard_BN

set_option maxRecDepth 100000 in
set_option maxHeartbeats 2000000 in
theorem back11_any {w : World} (C : PathI w) (hT : TargetI) (l : List (List UInt8)) (V : Value) (b o : Nat) (hV : TA w V l b o) (s : List UInt8) :
    Calls Tryd.prog 7 #[V, S s] w fun e w' => e = .returned (.bool true) ∧ Below w.heap.size w w' := by
  have HC := Lib.hid C
  have HT := Lib.hid hT
  have HAW := Lib.hid (awake11_any C)
  have hlV := hV.len 3
  have hlS := run_len_S (P := Tryd.prog) Tryd.underlying9 3 s
  obtain ⟨N, hN⟩ : ∃ N, N = l.length := ⟨_, rfl⟩
  obtain ⟨L, hL⟩ : ∃ L, L = s.length := ⟨_, rfl⟩
  rw [← hN] at hlV
  rw [← hL] at hlS
  have HV := Lib.hid (And.intro hV hN)
  have HL := Lib.hid hL
  clear C hT hV hN hL
  go_enter Tryd.func7, Tryd.ntmps7
  go_wp2_with fail
  refine HAW.out.mono ?_
  rintro e W1 ⟨rfl, hB⟩
  have H1 := Lib.hid hB
  clear hB HAW
  go_wp2_with fail
  go_loopw [5, 6] (fun nv iv wr => ∃ (i n : Nat), i ≤ N ∧ i ≤ 101 ∧ nv = .int .i64 (n : Int) ∧ iv = .int .i64 (i : Int) ∧ Hid (Below w.heap.size w wr ∧ n = grS 2000 (l.take i))) (fun _ iv _ => N - (intOf iv).toNat)
  case atStart => exact ⟨0, 0, Nat.zero_le _, Nat.zero_le _, rfl, rfl, Lib.hid ⟨H1.out, by simp [grS]⟩⟩
  case round =>
    obtain ⟨i, n, hi, hi1, rfl, rfl, HI⟩ := hrel
    have hn : n ≤ 2001 * 101 := by
      have h1 := grS_le 2000 (l.take i)
      rw [List.length_take, ← HI.out.2] at h1
      have h2 : 2001 * min i l.length ≤ 2001 * 101 := Nat.mul_le_mul_left _ (by omega)
      omega
    have hwi : IntKind.i64.wrap ((i : Int) + 1) = (i : Int) + 1 := by rw [IntKind.wrap_i64]; omega
    by_cases hgo : i < N ∧ i ≤ 100
    case pos =>
      have g1 : decide ((i : Int) < (N : Int)) = true := decide_eq_true (by omega)
      have g2 : decide ((i : Int) ≤ 100) = true := decide_eq_true (by omega)
      obtain ⟨x, hx⟩ : ∃ x, l[i]? = some x := ⟨l[i]'(by have := HV.out.2; omega), List.getElem?_eq_getElem _⟩
      have hix := HV.out.1.index i (by have := HV.out.2; omega)
      have k0 := (HV.out.1.below HI.out.1).cell i x hx
      obtain ⟨kk, hkk⟩ : ∃ k, k = o + i := ⟨_, rfl⟩
      rw [← hkk] at hix k0
      have hl1 := run_len_S (P := Tryd.prog) Tryd.underlying9 3 x
      obtain ⟨lx, hlx⟩ : ∃ a, a = x.length := ⟨_, rfl⟩
      rw [← hlx] at hl1
      have HIN := Lib.hid hgo
      obtain ⟨hlt, h600⟩ := hgo
      obtain ⟨m1, hm1⟩ : ∃ m, m = min lx 2001 := ⟨_, rfl⟩
      have hmn : ∀ w, (Builtin.min_ #[3, 3] 3 #[.int .i64 (lx : Int), .int .i64 2001]).run Tryd.prog w = .ok (.int .i64 (m1 : Int)) w := fun w => by
        rw [run_min_int2]
        congr 2
        omega
      have HX : Hid (n + m1 = grS 2000 (l.take (i + 1))) := Lib.hid (by rw [grS_next hx, hm1, hlx, HI.out.2])
      have w1 : IntKind.i64.wrap ((n : Int) + (m1 : Int)) = ((n + m1 : Nat) : Int) := by rw [IntKind.wrap_i64]; omega
      clear hx hkk hlx hm1
      go_wp2
      exact ⟨⟨i + 1, n + m1, by have := HIN.out; omega, by have := HIN.out; omega, by first | rfl | go_num, by go_num, Lib.hid ⟨HI.out.1, HX.out⟩⟩, by have := HIN.out; simp [intOf]; omega⟩
    case neg =>
      by_cases h600 : 100 < N
      · have g3 : decide ((100 : Int) < (N : Int)) = true := decide_eq_true (by omega)
        by_cases hlt : i < N
        · have g1 : decide ((i : Int) < (N : Int)) = true := decide_eq_true (by omega)
          have g2 : decide ((i : Int) ≤ 100) = false := decide_eq_false (by omega)
          have h2 : ¬ i ≤ 100 := fun e => hgo ⟨hlt, e⟩
          clear hgo
          go_wp2
          go_ret
          exact ⟨rfl, HI.out.1⟩
        · have g1 : decide ((i : Int) < (N : Int)) = false := decide_eq_false (by omega)
          clear hgo
          go_wp2
          go_ret
          exact ⟨rfl, HI.out.1⟩
      have hiN : i = N := by omega
      subst hiN
      have g1 : decide ((i : Int) < (i : Int)) = false := decide_eq_false (by omega)
      have g3 : decide ((100 : Int) < (i : Int)) = false := decide_eq_false (by omega)
      by_cases h5 : 2000 < n
      · have g4 : decide ((2000 : Int) < (n : Int)) = true := decide_eq_true (by omega)
        clear hgo
        go_wp2
        go_ret
        exact ⟨rfl, HI.out.1⟩
      have g4 : decide ((2000 : Int) < (n : Int)) = false := decide_eq_false (by omega)
      by_cases h6 : 2000 < L
      · have g5 : decide ((2000 : Int) < (L : Int)) = true := decide_eq_true (by omega)
        clear hgo
        go_wp2
        go_ret
        exact ⟨rfl, HI.out.1⟩
      have g5 : decide ((2000 : Int) < (L : Int)) = false := decide_eq_false (by omega)
      have HSM : Hid (sumL l ≤ 2000 ∧ l.length ≤ 100 ∧ s.length ≤ 2000) := Lib.hid (by
        have h1 := HI.out.2
        rw [HV.out.2, List.take_length] at h1
        have h2 := grS_small 2000 l (by omega)
        exact ⟨by omega, by have := HV.out.2; omega, by rw [← HL.out]; omega⟩)
      have HJ := Lib.hid (HC.out.join l V b o wr HI.out.1 (HV.out.1.below HI.out.1) (by have := HSM.out; omega) (by have := HSM.out; omega))
      obtain ⟨J, hJ⟩ : ∃ J, J = joinF l := ⟨_, rfl⟩
      rw [← hJ] at HJ
      clear hgo
      obtain ⟨M, hM⟩ : ∃ M, M = splitF s := ⟨_, rfl⟩
      have HM := Lib.hid hM.symm
      clear hM
      go_wp2_with fail
      refine HJ.out.mono ?_
      rintro e W2 ⟨rfl, hB⟩
      have H2 := Lib.hid (HI.out.1.trans (hB.mono HI.out.1.size))
      clear hB HJ
      cases J with
      | none =>
        unfold joinV
        have q1 : binOp .neq 9 (S []) (.string ⟨#[]⟩) = pure (.bool false) := neql_S 9 [] []
        have n1 : ∀ x y, eqGuard .neq 9 x y (S []) (.string ⟨#[]⟩) = pure () := fun x y => nguard_S 9 x y [] []
        cases M with
        | none =>
          have HSN := Lib.hid (split_no HC.out s (by have := HSM.out; omega) HM.out W2 H2.out)
          go_wp2_with fail
          refine HSN.out.mono ?_
          rintro e W6 ⟨VM, rfl, hX⟩
          have hlM := fun w' => (ta_own hX.1).choose_spec.len 3 w'
          have H6 := Lib.hid (H2.out.trans (hX.2.mono H2.out.size))
          clear hX HSN
          go_wp2
          go_ret
          exact ⟨rfl, H6.out⟩
        | some m =>
          have HSM2 := Lib.hid (split_some HM.out)
          have HSY := Lib.hid (split_yes HC.out s m (by have := HSM.out; omega) HM.out W2 H2.out)
          go_wp2_with fail
          refine HSY.out.mono ?_
          rintro e W6 ⟨VM, rfl, hX⟩
          have H6 := Lib.hid (And.intro (H2.out.trans (hX.2.mono H2.out.size)) hX)
          clear hX HSY
          obtain ⟨bm, htm⟩ := ta_own H6.out.2.1
          have hjm := HC.out.join m VM bm 0 W6 H6.out.1 htm (by have := HSM2.out.2.2.1; have := HSM.out; omega) (by have := HSM2.out.2.2.1; have := HSM.out; omega)
          obtain ⟨K, hK⟩ : ∃ K, K = joinF m := ⟨_, rfl⟩
          rw [← hK] at hjm
          have HJM := Lib.hid hjm
          have HK := Lib.hid hK.symm
          clear hjm htm hK
          go_wp2_with fail
          refine HJM.out.mono ?_
          rintro e W7 ⟨rfl, hB⟩
          have H7 := Lib.hid (And.intro (H6.out.1.trans (hB.mono H6.out.1.size)) (H6.out.2.below hB))
          clear hB HJM H6
          cases K with
          | none =>
            unfold joinV
            have h170 : 170 < L := by
              rcases Nat.lt_or_ge 170 L with h | h
              · exact h
              · have h1 := split_join HM.out (by rw [← HL.out]; exact h)
                rw [HK.out] at h1; cases h1
            have g6 : decide ((170 : Int) < (L : Int)) = true := decide_eq_true (by omega)
            go_wp2
            go_ret
            exact ⟨rfl, H7.out.1⟩
          | some q =>
            unfold joinV
            have HQ := Lib.hid (join_path HK.out)
            have HSQ := Lib.hid (split_yes HC.out q m (by have := HQ.out.1.2.1; omega) HQ.out.2 W7 H7.out.1)
            go_wp2_with fail
            refine HSQ.out.mono ?_
            rintro e W8 ⟨VK, rfl, hX⟩
            have H8 := Lib.hid (And.intro (H7.out.1.trans (hX.2.mono H7.out.1.size)) (And.intro hX (H7.out.2.below hX.2)))
            clear hX HSQ H7
            have HSA := Lib.hid (same_at m (by have := HSM2.out.2.2.1; have := HSM.out; omega) VK VM W8 W7 w H8.out.2.1 (by obtain ⟨bb, hb⟩ := ta_own H8.out.2.2.1; exact ⟨bb, 0, hb⟩))
            go_wp2_with fail
            refine HSA.out.mono ?_
            rintro e W9 ⟨rfl, hB⟩
            have H9 := Lib.hid (H8.out.1.trans (hB.mono H8.out.1.size))
            clear hB HSA
            go_wp2
            go_ret
            exact ⟨rfl, H9.out⟩
      | some p =>
        unfold joinV
        have HP := Lib.hid (join_path hJ.symm)
        have HS1 := Lib.hid (split_yes HC.out p l (by have := HP.out.1.2.1; omega) HP.out.2 W2 H2.out)
        go_wp2_with fail
        refine HS1.out.mono ?_
        rintro e W3 ⟨VL, rfl, hX⟩
        have H3 := Lib.hid (And.intro (H2.out.trans (hX.2.mono H2.out.size)) hX)
        clear hX HS1
        have htg := HT.out p W3 (by have := HP.out.1.2.1; omega)
        rw [path_target HP.out.1] at htg
        unfold targetV at htg
        have HTG := Lib.hid htg
        clear htg
        go_wp2_with fail
        refine HTG.out.mono ?_
        rintro e W4 ⟨rfl, hB⟩
        have H4 := Lib.hid (And.intro (H3.out.1.trans (hB.mono H3.out.1.size)) (H3.out.2.below hB))
        clear hB HTG H3
        have HSA1 := Lib.hid (same11_true l (by have := HSM.out; omega) V VL b o (ta_own H4.out.2.1).choose 0 W4 (HV.out.1.below H4.out.1) (ta_own H4.out.2.1).choose_spec)
        go_wp2_with fail
        refine HSA1.out.mono ?_
        rintro e W5 ⟨rfl, hB⟩
        have H5 := Lib.hid (H4.out.1.trans (hB.mono H4.out.1.size))
        clear hB HSA1
        cases M with
        | none =>
          have HSN := Lib.hid (split_no HC.out s (by have := HSM.out; omega) HM.out W5 H5.out)
          go_wp2_with fail
          refine HSN.out.mono ?_
          rintro e W6 ⟨VM, rfl, hX⟩
          have hlM := fun w' => (ta_own hX.1).choose_spec.len 3 w'
          have H6 := Lib.hid (H5.out.trans (hX.2.mono H5.out.size))
          clear hX HSN
          go_wp2
          go_ret
          exact ⟨rfl, H6.out⟩
        | some m =>
          have HSM2 := Lib.hid (split_some HM.out)
          have HSY := Lib.hid (split_yes HC.out s m (by have := HSM.out; omega) HM.out W5 H5.out)
          go_wp2_with fail
          refine HSY.out.mono ?_
          rintro e W6 ⟨VM, rfl, hX⟩
          have H6 := Lib.hid (And.intro (H5.out.trans (hX.2.mono H5.out.size)) hX)
          clear hX HSY
          obtain ⟨bm, htm⟩ := ta_own H6.out.2.1
          have hjm := HC.out.join m VM bm 0 W6 H6.out.1 htm (by have := HSM2.out.2.2.1; have := HSM.out; omega) (by have := HSM2.out.2.2.1; have := HSM.out; omega)
          obtain ⟨K, hK⟩ : ∃ K, K = joinF m := ⟨_, rfl⟩
          rw [← hK] at hjm
          have HJM := Lib.hid hjm
          have HK := Lib.hid hK.symm
          clear hjm htm hK
          go_wp2_with fail
          refine HJM.out.mono ?_
          rintro e W7 ⟨rfl, hB⟩
          have H7 := Lib.hid (And.intro (H6.out.1.trans (hB.mono H6.out.1.size)) (H6.out.2.below hB))
          clear hB HJM H6
          cases K with
          | none =>
            unfold joinV
            have h170 : 170 < L := by
              rcases Nat.lt_or_ge 170 L with h | h
              · exact h
              · have h1 := split_join HM.out (by rw [← HL.out]; exact h)
                rw [HK.out] at h1; cases h1
            have g6 : decide ((170 : Int) < (L : Int)) = true := decide_eq_true (by omega)
            go_wp2
            go_ret
            exact ⟨rfl, H7.out.1⟩
          | some q =>
            unfold joinV
            have HQ := Lib.hid (join_path HK.out)
            have HSQ := Lib.hid (split_yes HC.out q m (by have := HQ.out.1.2.1; omega) HQ.out.2 W7 H7.out.1)
            go_wp2_with fail
            refine HSQ.out.mono ?_
            rintro e W8 ⟨VK, rfl, hX⟩
            have H8 := Lib.hid (And.intro (H7.out.1.trans (hX.2.mono H7.out.1.size)) (And.intro hX (H7.out.2.below hX.2)))
            clear hX HSQ H7
            have HSA := Lib.hid (same_at m (by have := HSM2.out.2.2.1; have := HSM.out; omega) VK VM W8 W7 w H8.out.2.1 (by obtain ⟨bb, hb⟩ := ta_own H8.out.2.2.1; exact ⟨bb, 0, hb⟩))
            go_wp2_with fail
            refine HSA.out.mono ?_
            rintro e W9 ⟨rfl, hB⟩
            have H9 := Lib.hid (H8.out.1.trans (hB.mono H8.out.1.size))
            clear hB HSA
            go_wp2
            go_ret
            exact ⟨rfl, H9.out⟩
end Go.Proofs.YtmklgjbfdaleiaaDoor
