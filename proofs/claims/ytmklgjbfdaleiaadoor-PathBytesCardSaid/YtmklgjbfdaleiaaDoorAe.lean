/- The law's awake, PathSplits, PathJoins, PathBytes, PathKnown (stage 11) walked. (mkae.py writes it.) -/
import Derived.Test.YtmklgjbfdaleiaaDoorAd
namespace Go.Proofs.YtmklgjbfdaleiaaDoor
open Go.RowKit
attribute [local go_sem] store_one B_match B_store S_match S_store eguard_BN nguard_BN

theorem split_at {w : World} (C : PathI w) (s : List UInt8) (o : Option (List (List UInt8))) (hs : s.length ≤ 100000) (h : splitF s = o) (W : World) (hW : Below w.heap.size w W) :
    Calls Tryd.prog 9 #[S s] W fun e w' => ∃ V, e = .returned (.tuple #[V, .bool o.isSome]) ∧ TxAt W V (o.getD []) w' := by
  subst h
  exact (C.split s W hW hs).mono (by rintro e w' ⟨V, he, hO, hB⟩; exact ⟨V, he, hO, hB⟩)
theorem same_at (l : List (List UInt8)) (hl : l.length ≤ 1000000) (Va Vb : Value) (w w1 _w2 : World) (ha : TxAt w1 Va l w) (hb : ∃ b o, TA w Vb l b o) :
    Calls Tryd.prog 12 #[Va, Vb] w fun e w' => e = .returned (.bool true) ∧ Below w.heap.size w w' := by
  obtain ⟨ba, h1⟩ := ta_own ha.1
  obtain ⟨bb, ob, h2⟩ := hb
  exact same11_true l hl Va Vb ba 0 bb ob w h1 h2
set_option maxRecDepth 100000 in
set_option maxHeartbeats 1000000 in
theorem awake11_any {w : World} (C : PathI w) : Calls Tryd.prog 11 #[] w fun e w' => e = .returned (.bool true) ∧ Below w.heap.size w w' := by
  have HC := Lib.hid C
  have H0 := Lib.hid (split_at C [47, 97, 47, 98, 37, 50, 48, 99, 47] (some [[97], [98, 32, 99], []]) (by decide) (by decide) w (Below.refl _ _))
  have HJ : Hid (joinF [[97], [98, 32, 99], []] = some [47, 97, 47, 98, 37, 50, 48, 99, 47]) := Lib.hid (by decide)
  clear C
  go_enter Tryd.func11, Tryd.ntmps11
  go_wp2_with fail
  refine H0.out.mono ?_
  rintro e W1 ⟨V, rfl, hX⟩
  have H1 := Lib.hid hX
  clear hX H0
  have hr := row_new W1 #[.string ⟨#[97]⟩, .string ⟨#[98, 32, 99]⟩, .string ⟨#[]⟩] 9
  have HB2 : Hid (Below w.heap.size w (W1.alloc (.cells #[.string ⟨#[97]⟩, .string ⟨#[98, 32, 99]⟩, .string ⟨#[]⟩] 9))) := Lib.hid (H1.out.2.alloc H1.out.2.size _)
  have hj := HC.out.join [[97], [98, 32, 99], []] (.slice (some ⟨W1.heap.size, 0, none⟩) 3 3) W1.heap.size 0 _ HB2.out (ta_row hr rfl) (by decide) (by decide)
  rw [HJ.out] at hj
  have HJJ := Lib.hid hj
  clear hj hr
  go_wp2_with fail
  refine HJJ.out.mono ?_
  rintro e W3 ⟨rfl, hB⟩
  have H3 := Lib.hid (And.intro (H1.out.below (((Below.refl _ W1).alloc (Nat.le_refl _) _).trans (hB.mono (by simp)))) (HB2.out.trans (hB.mono HB2.out.size)))
  clear hB HJJ
  unfold joinV
  have hr := row_new W3 #[.string ⟨#[97]⟩, .string ⟨#[98, 32, 99]⟩, .string ⟨#[]⟩] 9
  have HB4 : Hid (Below W3.heap.size W3 (W3.alloc (.cells #[.string ⟨#[97]⟩, .string ⟨#[98, 32, 99]⟩, .string ⟨#[]⟩] 9))) := Lib.hid ((Below.refl _ W3).alloc (Nat.le_refl _) _)
  have HS := Lib.hid (same_at [[97], [98, 32, 99], []] (by decide) V (.slice (some ⟨W3.heap.size, 0, none⟩) 3 3) _ w w (H3.out.1.below HB4.out) ⟨_, _, ta_row hr rfl⟩)
  have q1 : binOp .eql 9 (S [47, 97, 47, 98, 37, 50, 48, 99, 47]) (.string ⟨#[47, 97, 47, 98, 37, 50, 48, 99, 47]⟩) = pure (.bool true) := eql_S 9 [47, 97, 47, 98, 37, 50, 48, 99, 47] [47, 97, 47, 98, 37, 50, 48, 99, 47]
  have n1 : ∀ x y, eqGuard .eql 9 x y (S [47, 97, 47, 98, 37, 50, 48, 99, 47]) (.string ⟨#[47, 97, 47, 98, 37, 50, 48, 99, 47]⟩) = pure () := fun x y => guard_S 9 x y _ [47, 97, 47, 98, 37, 50, 48, 99, 47]
  clear hr
  go_wp2_with fail
  refine HS.out.mono ?_
  rintro e W5 ⟨rfl, hB⟩
  have H5 := Lib.hid (H3.out.2.trans ((HB4.out.trans (hB.mono (by simp))).mono H3.out.2.size))
  clear hB HS
  go_wp2
  go_ret
  exact ⟨rfl, H5.out⟩
set_option maxRecDepth 100000 in
set_option maxHeartbeats 1000000 in
theorem splits11_any {w : World} (C : PathI w) (s : List UInt8) : Calls Tryd.prog 4 #[S s] w fun e w' => e = .returned (.bool true) ∧ Below w.heap.size w w' := by
  have HC := Lib.hid C
  have HAW := Lib.hid (awake11_any C)
  have hlen := run_len_S (P := Tryd.prog) Tryd.underlying9 3 s
  obtain ⟨L, hL⟩ : ∃ L, L = s.length := ⟨_, rfl⟩
  rw [← hL] at hlen
  have HL := Lib.hid hL
  clear C hL
  go_enter Tryd.func4, Tryd.ntmps4
  go_wp2_with fail
  refine HAW.out.mono ?_
  rintro e W1 ⟨rfl, hB⟩
  have H1 := Lib.hid hB
  clear hB HAW
  by_cases h2 : 2000 < L
  · have g1 : decide ((2000 : Int) < (L : Int)) = true := decide_eq_true (by omega)
    go_wp2
    go_ret
    exact ⟨rfl, H1.out⟩
  have g1 : decide ((2000 : Int) < (L : Int)) = false := decide_eq_false (by omega)
  obtain ⟨O, hO⟩ : ∃ O, O = splitF s := ⟨_, rfl⟩
  have HS := Lib.hid (split_at HC.out s O (by rw [← HL.out]; omega) hO.symm W1 H1.out)
  have HD := Lib.hid fun W => dsplit11_any s (by rw [← HL.out]; omega) W
  rw [← hO] at HD
  have HFEW : Hid ((O.getD []).length ≤ 1000000) := Lib.hid (by
    rw [hO]
    cases h : splitF s with
    | none => simp
    | some l =>
      obtain ⟨_, _, h3, _⟩ := split_some h
      have := HL.out
      show l.length ≤ _
      omega)
  clear hO h2
  go_wp2_with fail
  refine HS.out.mono ?_
  rintro e W2 ⟨V, rfl, hX⟩
  have H2 := Lib.hid (And.intro hX (H1.out.trans (hX.2.mono H1.out.size)))
  clear hX HS
  go_wp2_with fail
  refine (HD.out W2).mono ?_
  rintro e W3 ⟨U, rfl, hU, hB⟩
  have H3 := Lib.hid (And.intro (H2.out.1.below hB) (And.intro (H2.out.2.trans (hB.mono H2.out.2.size)) hU))
  clear hU hB HD
  have HSM := Lib.hid (same_at (O.getD []) HFEW.out V U W3 W1 w H3.out.1 (by obtain ⟨b, hb⟩ := ta_own H3.out.2.2; exact ⟨b, 0, hb⟩))
  have b0 : ∀ w, (binOp .eql 4 (.bool O.isSome) (.bool O.isSome)).run Tryd.prog w = .ok (.bool true) w := fun w => by cases O.isSome <;> rfl
  obtain ⟨z, hz⟩ : ∃ z, z = O.isSome := ⟨_, rfl⟩
  rw [← hz] at b0 ⊢
  clear hz
  go_wp2_with fail
  refine HSM.out.mono ?_
  rintro e W4 ⟨rfl, hB⟩
  have H4 := Lib.hid (H3.out.2.1.trans (hB.mono H3.out.2.1.size))
  clear hB HSM
  cases z with
  | true =>
    go_wp2
    go_ret
    exact ⟨rfl, H4.out⟩
  | false =>
    go_wp2
    go_ret
    exact ⟨rfl, H4.out⟩
def grS (m : Nat) (l : List (List UInt8)) : Nat := (l.map fun s => min s.length (m + 1)).sum
theorem grS_next {m : Nat} {l : List (List UInt8)} {i : Nat} {s : List UInt8} (h : l[i]? = some s) : grS m (l.take (i + 1)) = grS m (l.take i) + min s.length (m + 1) := by
  unfold grS
  rw [List.take_add_one, h]
  simp
theorem grS_small (m : Nat) : ∀ l : List (List UInt8), grS m l ≤ m → sumL l = grS m l
  | [], _ => rfl
  | s :: l, h => by
    have e : grS m (s :: l) = min s.length (m + 1) + grS m l := rfl
    have e2 : sumL (s :: l) = s.length + sumL l := rfl
    rw [e] at h
    rw [e, e2, grS_small m l (by omega)]; omega
theorem grS_le (m : Nat) : ∀ l : List (List UInt8), grS m l ≤ (m + 1) * l.length
  | [] => by simp [grS]
  | s :: l => by
    have e : grS m (s :: l) = min s.length (m + 1) + grS m l := rfl
    have := grS_le m l
    rw [e, List.length_cons, Nat.mul_add]; omega
set_option maxRecDepth 100000 in
set_option maxHeartbeats 1000000 in
theorem joins11_any {w : World} (C : PathI w) (l : List (List UInt8)) (V : Value) (b o : Nat) (hV : TA w V l b o) : Calls Tryd.prog 5 #[V] w fun e w' => e = .returned (.bool true) ∧ Below w.heap.size w w' := by
  have HC := Lib.hid C
  have HAW := Lib.hid (awake11_any C)
  have hlV := hV.len 3
  obtain ⟨N, hN⟩ : ∃ N, N = l.length := ⟨_, rfl⟩
  rw [← hN] at hlV
  have HV := Lib.hid (And.intro hV hN)
  clear C hV hN
  go_enter Tryd.func5, Tryd.ntmps5
  go_wp2_with fail
  refine HAW.out.mono ?_
  rintro e W1 ⟨rfl, hB⟩
  have H1 := Lib.hid hB
  clear hB HAW
  go_wp2_with fail
  go_loopw [3, 4] (fun nv iv wr => ∃ (i n : Nat), i ≤ N ∧ i ≤ 601 ∧ nv = .int .i64 (n : Int) ∧ iv = .int .i64 (i : Int) ∧ Hid (Below w.heap.size w wr ∧ n = grS 5000 (l.take i))) (fun _ iv _ => N - (intOf iv).toNat)
  case atStart => exact ⟨0, 0, Nat.zero_le _, Nat.zero_le _, rfl, rfl, Lib.hid ⟨H1.out, by simp [grS]⟩⟩
  case round =>
    obtain ⟨i, n, hi, hi1, rfl, rfl, HI⟩ := hrel
    have hn : n ≤ 5001 * 601 := by
      have h1 := grS_le 5000 (l.take i)
      rw [List.length_take, ← HI.out.2] at h1
      have h2 : 5001 * min i l.length ≤ 5001 * 601 := Nat.mul_le_mul_left _ (by omega)
      omega
    have hwi : IntKind.i64.wrap ((i : Int) + 1) = (i : Int) + 1 := by rw [IntKind.wrap_i64]; omega
    by_cases hgo : i < N ∧ i ≤ 600
    case pos =>
      have g1 : decide ((i : Int) < (N : Int)) = true := decide_eq_true (by omega)
      have g2 : decide ((i : Int) ≤ 600) = true := decide_eq_true (by omega)
      obtain ⟨x, hx⟩ : ∃ x, l[i]? = some x := ⟨l[i]'(by have := HV.out.2; omega), List.getElem?_eq_getElem _⟩
      have hix := HV.out.1.index i (by have := HV.out.2; omega)
      have k0 := (HV.out.1.below HI.out.1).cell i x hx
      obtain ⟨kk, hkk⟩ : ∃ k, k = o + i := ⟨_, rfl⟩
      rw [← hkk] at hix k0
      have hl1 := run_len_S (P := Tryd.prog) Tryd.underlying9 3 x
      obtain ⟨lx, hlx⟩ : ∃ a, a = x.length := ⟨_, rfl⟩
      rw [← hlx] at hl1
      have HIN := Lib.hid hgo
      obtain ⟨hlt, h600⟩ := hgo
      obtain ⟨m1, hm1⟩ : ∃ m, m = min lx 5001 := ⟨_, rfl⟩
      have hmn : ∀ w, (Builtin.min_ #[3, 3] 3 #[.int .i64 (lx : Int), .int .i64 5001]).run Tryd.prog w = .ok (.int .i64 (m1 : Int)) w := fun w => by
        rw [run_min_int2]
        congr 2
        omega
      have HX : Hid (n + m1 = grS 5000 (l.take (i + 1))) := Lib.hid (by rw [grS_next hx, hm1, hlx, HI.out.2])
      have w1 : IntKind.i64.wrap ((n : Int) + (m1 : Int)) = ((n + m1 : Nat) : Int) := by rw [IntKind.wrap_i64]; omega
      clear hx hkk hlx hm1
      go_wp2
      exact ⟨⟨i + 1, n + m1, by have := HIN.out; omega, by have := HIN.out; omega, by first | rfl | go_num, by go_num, Lib.hid ⟨HI.out.1, HX.out⟩⟩, by have := HIN.out; simp [intOf]; omega⟩
    case neg =>
      by_cases h600 : 600 < N
      · have g3 : decide ((600 : Int) < (N : Int)) = true := decide_eq_true (by omega)
        by_cases hlt : i < N
        · have g1 : decide ((i : Int) < (N : Int)) = true := decide_eq_true (by omega)
          have g2 : decide ((i : Int) ≤ 600) = false := decide_eq_false (by omega)
          have h2 : ¬ i ≤ 600 := fun e => hgo ⟨hlt, e⟩
          clear hgo
          go_wp2
          go_ret
          exact ⟨rfl, HI.out.1⟩
        · have g1 : decide ((i : Int) < (N : Int)) = false := decide_eq_false (by omega)
          clear hgo
          go_wp2
          go_ret
          exact ⟨rfl, HI.out.1⟩
      have hiN : i = N := by omega
      subst hiN
      have g1 : decide ((i : Int) < (i : Int)) = false := decide_eq_false (by omega)
      have g3 : decide ((600 : Int) < (i : Int)) = false := decide_eq_false (by omega)
      by_cases h5 : 5000 < n
      · have g4 : decide ((5000 : Int) < (n : Int)) = true := decide_eq_true (by omega)
        clear hgo
        go_wp2
        go_ret
        exact ⟨rfl, HI.out.1⟩
      have g4 : decide ((5000 : Int) < (n : Int)) = false := decide_eq_false (by omega)
      have HSM : Hid (sumL l ≤ 5000 ∧ l.length ≤ 600) := Lib.hid (by
        have h1 := HI.out.2
        rw [HV.out.2, List.take_length] at h1
        have h2 := grS_small 5000 l (by omega)
        exact ⟨by omega, by have := HV.out.2; omega⟩)
      have HJ := Lib.hid (HC.out.join l V b o wr HI.out.1 (HV.out.1.below HI.out.1) (by have := HSM.out; omega) (by have := HSM.out; omega))
      have HD := Lib.hid fun W (h : TA W V l b o) => djoin11_any l V b o (by have := HSM.out; omega) (by have := HSM.out; omega) W h
      clear hgo
      obtain ⟨J, hJ⟩ : ∃ J, J = joinF l := ⟨_, rfl⟩
      rw [← hJ] at HJ HD
      clear hJ
      go_wp2_with fail
      refine HJ.out.mono ?_
      rintro e W2 ⟨rfl, hB⟩
      have H2 := Lib.hid (HI.out.1.trans (hB.mono HI.out.1.size))
      clear hB HJ
      cases J with
      | none =>
        unfold joinV
        have q1 : binOp .eql 9 (S []) (S []) = pure (.bool true) := by rw [eql_S]; simp
        have n1 : ∀ x y, eqGuard .eql 9 x y (S []) (S []) = pure () := fun x y => guard_S 9 x y [] []
        go_wp2_with fail
        refine (HD.out W2 (HV.out.1.below H2.out)).mono ?_
        rintro e W3 ⟨rfl, hB⟩
        have H3 := Lib.hid (H2.out.trans (hB.mono H2.out.size))
        clear hB HD
        unfold joinV
        go_wp2
        go_ret
        exact ⟨rfl, H3.out⟩
      | some p =>
        unfold joinV
        have q1 : binOp .eql 9 (S p) (S p) = pure (.bool true) := by rw [eql_S]; simp
        have n1 : ∀ x y, eqGuard .eql 9 x y (S p) (S p) = pure () := fun x y => guard_S 9 x y p p
        go_wp2_with fail
        refine (HD.out W2 (HV.out.1.below H2.out)).mono ?_
        rintro e W3 ⟨rfl, hB⟩
        have H3 := Lib.hid (H2.out.trans (hB.mono H2.out.size))
        clear hB HD
        unfold joinV
        go_wp2
        go_ret
        exact ⟨rfl, H3.out⟩
end Go.Proofs.YtmklgjbfdaleiaaDoor
