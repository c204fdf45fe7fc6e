/- The document's Line walked: of a chunk's head, and of trailers. (mkcd.py writes it.) -/
import Derived.Test.YtplajlccnnbifaaGreatDoorCn
import Derived.Test.YtplajlccnnbifaaGreatDoorQs
namespace Go.Proofs.YtplajlccnnbifaaGreatDoor
open Go.RowKit
attribute [local go_sem] store_one S_match S_store eguard_BN nguard_BN
theorem res4 {fn : Func} {t u v x : Tmp} (h : fn.results = #[.tmp t, .tmp u, .tmp v, .tmp x]) (tmps : Array Value) (P : Program) (w : World) :
    (results fn tmps).run P w = .ok (.tuple #[tmps.getD t undef, tmps.getD u undef, tmps.getD v undef, tmps.getD x undef]) w := by
  simp [results, h, go_sem]
theorem lnV_of {p q : List UInt8 × Nat × Nat × Bool} (h : p = q) : lnV p = lnV q := by rw [h]

set_option maxRecDepth 100000 in
set_option maxHeartbeats 1000000 in
theorem dline_head (s : List UInt8) (a : Nat) (hs : s.length ≤ 100000) (ha : a ≤ s.length) (w : World) : Calls Tryz.prog 56 #[S s, .int .i64 (a : Int), .int .i64 2048, .int .i64 (-1)] w fun e w' => e = .returned (lnV (lnGo 2048 (-1) a [] (s.drop a))) ∧ w' = w := by
  have hlen := run_len_S (P := Tryz.prog) Tryz.underlying9 3 s
  obtain ⟨L, hL⟩ : ∃ L, L = s.length := ⟨_, rfl⟩
  rw [← hL] at hlen hs ha
  have HL := Lib.hid hL
  clear hL
  have nb : ∀ (x y : Bool) w, (binOp .neq 4 (.bool x) (.bool y)).run Tryz.prog w = .ok (.bool (x != y)) w := fun x y w => by cases x <;> cases y <;> rfl
  obtain ⟨O, hO⟩ : ∃ O, O = lnGo 2048 (-1) a [] (s.drop a) := ⟨_, rfl⟩
  rw [← hO]
  go_enter Tryz.func56, Tryz.ntmps56
  go_wp2
  go_loopw [12] (fun iv wr => ∃ i : Nat, a ≤ i ∧ i ≤ L ∧ iv = .int .i64 (i : Int) ∧ wr = w ∧ O = lnGo 2048 (-1) i (curL s a i) (s.drop i)) (fun iv _ => L - (intOf iv).toNat)
  case atStart => exact ⟨a, Nat.le_refl _, ha, rfl, rfl, by rw [cur_start]; exact hO⟩
  case round =>
    obtain ⟨i, hai, hi, rfl, hwr, hn⟩ := hrel
    subst hwr
    clear hO
    by_cases hlt : i < L
    · obtain ⟨c, hc⟩ : ∃ c, s[i]? = some c := ⟨s[i]'(by have := HL.out; omega), List.getElem?_eq_getElem _⟩
      have hidx : ∀ w, (Instr.index 9 (S s) (.int .i64 (i : Int))).run Tryz.prog w = .ok (B c) w := fun w => index_S (P := Tryz.prog) Tryz.underlying9 s i c hc w
      have hdr : s.drop i = c :: s.drop (i + 1) := by
        rw [List.drop_eq_getElem_cons (by rw [← HL.out]; exact hlt), (List.getElem?_eq_some_iff.1 hc).2]
      have hw1 : IntKind.i64.wrap ((i : Int) + 1) = (i : Int) + 1 := by rw [IntKind.wrap_i64]; omega
      have q10 : binOp .eql 5 (B c) (.int .u8 10) = pure (.bool (c == 10)) := B_eql 5 c 10
      have hnx := cur_next hc hai
      rw [hdr, lnGo] at hn
      rw [if_neg (by omega)] at hn
      have hw2 : IntKind.i64.wrap ((i : Int) - (a : Int)) = (i : Int) - (a : Int) := by rw [IntKind.wrap_i64]; omega
      by_cases hia : i = a
      · have g0 : decide ((a : Int) < (i : Int)) = false := decide_eq_false (by omega)
        have g0' : ¬ a < i := by omega
        have hcu : curL s a i = [] := by rw [hia, cur_start]
        rw [hcu] at hn
        cases hlf : (c == 10) with
        | true =>
          rw [hlf] at q10 hn
          rw [if_pos (by decide)] at hn
          have HP := Lib.hid hn
          clear hn hc hdr hnx hlf hcu hia
          go_wp2
          refine bodyPost_ret (res4 rfl _ _ _) rfl ?_
          exact ⟨by rw [HP.out]; first | rfl | (simp only [lnV]; go_num) | trivial, rfl⟩
        | false =>
          rw [hlf] at q10 hn
          rw [if_neg (by decide), if_neg (by decide)] at hn
          rw [hcu] at hnx
          have g3 : decide ((2048 : Int) ≤ (i : Int) - (a : Int)) = false := decide_eq_false (by omega)
          rw [if_neg (by simp)] at hn
          rw [← hnx] at hn
          have HX := Lib.hid hn
          clear hn hc hdr hnx hlf hcu hia
          go_wp2
          exact ⟨⟨i + 1, by omega, by omega, by go_num, by trivial, HX.out⟩, by simp [intOf]; omega⟩
      · have g0 : decide ((a : Int) < (i : Int)) = true := decide_eq_true (by omega)
        have g0' : a < i := by omega
        obtain ⟨j, hj⟩ : ∃ j, i = j + 1 := ⟨i - 1, by omega⟩
        obtain ⟨x, hx⟩ : ∃ x, s[j]? = some x := ⟨s[j]'(by have := HL.out; omega), List.getElem?_eq_getElem _⟩
        have hidj : ∀ w, (Instr.index 9 (S s) (.int .i64 ((i : Int) - 1))).run Tryz.prog w = .ok (B x) w := fun w => by
          rw [show (i : Int) - 1 = ((j : Nat) : Int) by omega]
          exact index_S (P := Tryz.prog) Tryz.underlying9 s j x hx w
        have hw3 : IntKind.i64.wrap ((i : Int) - 1) = (i : Int) - 1 := by rw [IntKind.wrap_i64]; omega
        have q13 : binOp .eql 5 (B x) (.int .u8 13) = pure (.bool (x == 13)) := B_eql 5 x 13
        have hce := cur_end hx (by omega : a ≤ j)
        rw [← hj] at hce
        rw [hce.1, hce.2] at hn
        cases hcr : (x == 13) with
        | true =>
          rw [hcr] at q13 hn
          cases hlf : (c == 10) with
          | true =>
            rw [hlf] at q10 hn
            rw [if_neg (by decide), if_pos rfl] at hn
            have hsl : ∀ w, (Instr.slice 9 (S s) (some (.int .i64 (a : Int))) (some (.int .i64 ((i : Int) - 1))) none).run Tryz.prog w = .ok (S (curL s a j)) w := fun w => by
              rw [show (i : Int) - 1 = ((j : Nat) : Int) by omega]
              exact slice_mid (P := Tryz.prog) Tryz.underlying9 s a j (by omega) (by have := HL.out; omega) w
            have HP := Lib.hid hn
            clear hn hc hdr hnx hlf hcr hce hx hj hia
            go_wp2
            refine bodyPost_ret (res4 rfl _ _ _) rfl ?_
            exact ⟨by rw [HP.out]; first | rfl | (simp only [lnV]; go_num) | trivial, rfl⟩
          | false =>
            rw [hlf] at q10 hn
            rw [if_pos (by decide)] at hn
            have HP := Lib.hid hn
            clear hn hc hdr hnx hlf hcr hce hx hj hia
            go_wp2
            refine bodyPost_ret (res4 rfl _ _ _) rfl ?_
            exact ⟨by rw [HP.out]; first | rfl | (simp only [lnV]; go_num) | trivial, rfl⟩
        | false =>
          rw [hcr] at q13 hn
          cases hlf : (c == 10) with
          | true =>
            rw [hlf] at q10 hn
            rw [if_pos (by decide)] at hn
            have HP := Lib.hid hn
            clear hn hc hdr hnx hlf hcr hce hx hj hia
            go_wp2
            refine bodyPost_ret (res4 rfl _ _ _) rfl ?_
            exact ⟨by rw [HP.out]; first | rfl | (simp only [lnV]; go_num) | trivial, rfl⟩
          | false =>
            rw [hlf] at q10 hn
            rw [if_neg (by decide), if_neg (by decide)] at hn
            have hcl : (curL s a i).length = i - a := cur_len (by have := HL.out; omega)
            by_cases hm : 2048 ≤ i - a
            · have g3 : decide ((2048 : Int) ≤ (i : Int) - (a : Int)) = true := decide_eq_true (by omega)
              rw [if_pos (by rw [hcl]; omega)] at hn
              have HP := Lib.hid hn
              clear hn hc hdr hnx hlf hcr hce hx hj hia hcl hm
              go_wp2
              refine bodyPost_ret (res4 rfl _ _ _) rfl ?_
              exact ⟨by rw [HP.out]; first | rfl | (simp only [lnV]; go_num) | trivial, rfl⟩
            · have g3 : decide ((2048 : Int) ≤ (i : Int) - (a : Int)) = false := decide_eq_false (by omega)
              rw [if_neg (by rw [hcl]; omega), ← hnx] at hn
              have HX := Lib.hid hn
              clear hn hc hdr hnx hlf hcr hce hx hj hia hcl hm
              go_wp2
              exact ⟨⟨i + 1, by omega, by omega, by go_num, by trivial, HX.out⟩, by simp [intOf]; omega⟩
    · obtain rfl : i = L := by omega
      have HP : Hid (O = ([], i, 0, false)) := Lib.hid (by rw [hn, List.drop_of_length_le (by rw [← HL.out]; exact Nat.le_refl _), lnGo])
      clear hn
      go_wp2
      refine bodyPost_ret (res4 rfl _ _ _) rfl ?_
      exact ⟨by rw [HP.out]; first | rfl | (simp only [lnV]; go_num) | trivial, rfl⟩
set_option maxRecDepth 100000 in
set_option maxHeartbeats 1000000 in
theorem dline_tail (s : List UInt8) (a : Nat) (last : Nat) (hs : s.length ≤ 100000) (ha : a ≤ s.length) (hl : last ≤ 200000) (w : World) : Calls Tryz.prog 56 #[S s, .int .i64 (a : Int), .int .i64 (-1), .int .i64 (last : Int)] w fun e w' => e = .returned (lnV (lnGo (-1) (last : Int) a [] (s.drop a))) ∧ w' = w := by
  have hlen := run_len_S (P := Tryz.prog) Tryz.underlying9 3 s
  obtain ⟨L, hL⟩ : ∃ L, L = s.length := ⟨_, rfl⟩
  rw [← hL] at hlen hs ha
  have HL := Lib.hid hL
  clear hL
  have nb : ∀ (x y : Bool) w, (binOp .neq 4 (.bool x) (.bool y)).run Tryz.prog w = .ok (.bool (x != y)) w := fun x y w => by cases x <;> cases y <;> rfl
  obtain ⟨O, hO⟩ : ∃ O, O = lnGo (-1) (last : Int) a [] (s.drop a) := ⟨_, rfl⟩
  rw [← hO]
  go_enter Tryz.func56, Tryz.ntmps56
  go_wp2
  go_loopw [12] (fun iv wr => ∃ i : Nat, a ≤ i ∧ i ≤ L ∧ iv = .int .i64 (i : Int) ∧ wr = w ∧ O = lnGo (-1) (last : Int) i (curL s a i) (s.drop i)) (fun iv _ => L - (intOf iv).toNat)
  case atStart => exact ⟨a, Nat.le_refl _, ha, rfl, rfl, by rw [cur_start]; exact hO⟩
  case round =>
    obtain ⟨i, hai, hi, rfl, hwr, hn⟩ := hrel
    subst hwr
    clear hO
    by_cases hlt : i < L
    · obtain ⟨c, hc⟩ : ∃ c, s[i]? = some c := ⟨s[i]'(by have := HL.out; omega), List.getElem?_eq_getElem _⟩
      have hidx : ∀ w, (Instr.index 9 (S s) (.int .i64 (i : Int))).run Tryz.prog w = .ok (B c) w := fun w => index_S (P := Tryz.prog) Tryz.underlying9 s i c hc w
      have hdr : s.drop i = c :: s.drop (i + 1) := by
        rw [List.drop_eq_getElem_cons (by rw [← HL.out]; exact hlt), (List.getElem?_eq_some_iff.1 hc).2]
      have hw1 : IntKind.i64.wrap ((i : Int) + 1) = (i : Int) + 1 := by rw [IntKind.wrap_i64]; omega
      have q10 : binOp .eql 5 (B c) (.int .u8 10) = pure (.bool (c == 10)) := B_eql 5 c 10
      have hnx := cur_next hc hai
      rw [hdr, lnGo] at hn
      by_cases hst : last ≤ i
      · rw [if_pos ⟨by omega, by omega⟩] at hn
        have l1 : decide ((0 : Int) ≤ (last : Int)) = true := decide_eq_true (by omega)
        have l2 : decide ((last : Int) ≤ (i : Int)) = true := decide_eq_true (by omega)
        have HP := Lib.hid hn
        clear hn hc hdr hnx q10 hidx
        go_wp2
        refine bodyPost_ret (res4 rfl _ _ _) rfl ?_
        exact ⟨by rw [HP.out]; first | rfl | (simp only [lnV]; go_num) | trivial, rfl⟩
      rw [if_neg (by omega)] at hn
      have l1 : decide ((0 : Int) ≤ (last : Int)) = true := decide_eq_true (by omega)
      have l2 : decide ((last : Int) ≤ (i : Int)) = false := decide_eq_false (by omega)
      by_cases hia : i = a
      · have g0 : decide ((a : Int) < (i : Int)) = false := decide_eq_false (by omega)
        have g0' : ¬ a < i := by omega
        have hcu : curL s a i = [] := by rw [hia, cur_start]
        rw [hcu] at hn
        cases hlf : (c == 10) with
        | true =>
          rw [hlf] at q10 hn
          rw [if_pos (by decide)] at hn
          have HP := Lib.hid hn
          clear hn hc hdr hnx hlf hcu hia
          go_wp2
          refine bodyPost_ret (res4 rfl _ _ _) rfl ?_
          exact ⟨by rw [HP.out]; first | rfl | (simp only [lnV]; go_num) | trivial, rfl⟩
        | false =>
          rw [hlf] at q10 hn
          rw [if_neg (by decide), if_neg (by decide)] at hn
          rw [hcu] at hnx
          rw [if_neg (by omega)] at hn
          rw [← hnx] at hn
          have HX := Lib.hid hn
          clear hn hc hdr hnx hlf hcu hia
          go_wp2
          exact ⟨⟨i + 1, by omega, by omega, by go_num, by trivial, HX.out⟩, by simp [intOf]; omega⟩
      · have g0 : decide ((a : Int) < (i : Int)) = true := decide_eq_true (by omega)
        have g0' : a < i := by omega
        obtain ⟨j, hj⟩ : ∃ j, i = j + 1 := ⟨i - 1, by omega⟩
        obtain ⟨x, hx⟩ : ∃ x, s[j]? = some x := ⟨s[j]'(by have := HL.out; omega), List.getElem?_eq_getElem _⟩
        have hidj : ∀ w, (Instr.index 9 (S s) (.int .i64 ((i : Int) - 1))).run Tryz.prog w = .ok (B x) w := fun w => by
          rw [show (i : Int) - 1 = ((j : Nat) : Int) by omega]
          exact index_S (P := Tryz.prog) Tryz.underlying9 s j x hx w
        have hw3 : IntKind.i64.wrap ((i : Int) - 1) = (i : Int) - 1 := by rw [IntKind.wrap_i64]; omega
        have q13 : binOp .eql 5 (B x) (.int .u8 13) = pure (.bool (x == 13)) := B_eql 5 x 13
        have hce := cur_end hx (by omega : a ≤ j)
        rw [← hj] at hce
        rw [hce.1, hce.2] at hn
        cases hcr : (x == 13) with
        | true =>
          rw [hcr] at q13 hn
          cases hlf : (c == 10) with
          | true =>
            rw [hlf] at q10 hn
            rw [if_neg (by decide), if_pos rfl] at hn
            have hsl : ∀ w, (Instr.slice 9 (S s) (some (.int .i64 (a : Int))) (some (.int .i64 ((i : Int) - 1))) none).run Tryz.prog w = .ok (S (curL s a j)) w := fun w => by
              rw [show (i : Int) - 1 = ((j : Nat) : Int) by omega]
              exact slice_mid (P := Tryz.prog) Tryz.underlying9 s a j (by omega) (by have := HL.out; omega) w
            have HP := Lib.hid hn
            clear hn hc hdr hnx hlf hcr hce hx hj hia
            go_wp2
            refine bodyPost_ret (res4 rfl _ _ _) rfl ?_
            exact ⟨by rw [HP.out]; first | rfl | (simp only [lnV]; go_num) | trivial, rfl⟩
          | false =>
            rw [hlf] at q10 hn
            rw [if_pos (by decide)] at hn
            have HP := Lib.hid hn
            clear hn hc hdr hnx hlf hcr hce hx hj hia
            go_wp2
            refine bodyPost_ret (res4 rfl _ _ _) rfl ?_
            exact ⟨by rw [HP.out]; first | rfl | (simp only [lnV]; go_num) | trivial, rfl⟩
        | false =>
          rw [hcr] at q13 hn
          cases hlf : (c == 10) with
          | true =>
            rw [hlf] at q10 hn
            rw [if_pos (by decide)] at hn
            have HP := Lib.hid hn
            clear hn hc hdr hnx hlf hcr hce hx hj hia
            go_wp2
            refine bodyPost_ret (res4 rfl _ _ _) rfl ?_
            exact ⟨by rw [HP.out]; first | rfl | (simp only [lnV]; go_num) | trivial, rfl⟩
          | false =>
            rw [hlf] at q10 hn
            rw [if_neg (by decide), if_neg (by decide)] at hn
            rw [if_neg (by omega), ← hnx] at hn
            have HX := Lib.hid hn
            clear hn hc hdr hnx hlf hcr hce hx hj hia
            go_wp2
            exact ⟨⟨i + 1, by omega, by omega, by go_num, by trivial, HX.out⟩, by simp [intOf]; omega⟩
    · obtain rfl : i = L := by omega
      have HP : Hid (O = ([], i, 0, false)) := Lib.hid (by rw [hn, List.drop_of_length_le (by rw [← HL.out]; exact Nat.le_refl _), lnGo])
      clear hn
      go_wp2
      refine bodyPost_ret (res4 rfl _ _ _) rfl ?_
      exact ⟨by rw [HP.out]; first | rfl | (simp only [lnV]; go_num) | trivial, rfl⟩
end Go.Proofs.YtplajlccnnbifaaGreatDoor
