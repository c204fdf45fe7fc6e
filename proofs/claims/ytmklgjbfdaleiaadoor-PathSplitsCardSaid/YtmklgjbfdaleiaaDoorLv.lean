/- The landed package of lines walked: its bytes and its loops. (mklv.py writes it.) -/
import Derived.Test.YtmklgjbfdaleiaaDoorLu
import Derived.Test.YtmklgjbfdaleiaaDoorQp
namespace Go.Proofs.YtmklgjbfdaleiaaDoor
open Go.RowKit
attribute [local go_sem] store_one S_match S_store eguard_BN nguard_BN

theorem B_lss (t : TypeId) (x : UInt8) (k : Int) : binOp .lss t (B x) (.int .u8 k) = pure (.bool (decide ((x.toNat : Int) < k))) := rfl
theorem B_gtr (t : TypeId) (x : UInt8) (k : Int) : binOp .gtr t (B x) (.int .u8 k) = pure (.bool (decide (k < (x.toNat : Int)))) := rfl
theorem hex_small : ∀ n : Fin 256, hexB (UInt8.ofNat n.1) = ((decide (48 ≤ n.1) && decide (n.1 ≤ 57)) || (decide (97 ≤ n.1) && decide (n.1 ≤ 102)) || (decide (65 ≤ n.1) && decide (n.1 ≤ 70))) := by decide +kernel
theorem hex_eq (c : UInt8) : hexB c = ((decide (48 ≤ c.toNat) && decide (c.toNat ≤ 57)) || (decide (97 ≤ c.toNat) && decide (c.toNat ≤ 102)) || (decide (65 ≤ c.toNat) && decide (c.toNat ≤ 70))) := by
  have := hex_small ⟨c.toNat, c.toNat_lt⟩
  simp only [UInt8.ofNat_toNat] at this
  exact this
def pmarkL : List UInt8 := [45, 46, 95, 126, 33, 36, 38, 39, 40, 41, 42, 43, 44, 59, 61, 58, 64, 47]
theorem path_small : ∀ n : Fin 256, pathB (UInt8.ofNat n.1) = ((decide (65 ≤ n.1) && decide (n.1 ≤ 90)) || (decide (97 ≤ n.1) && decide (n.1 ≤ 122)) || (decide (48 ≤ n.1) && decide (n.1 ≤ 57)) || pmarkL.contains (UInt8.ofNat n.1)) := by decide +kernel
theorem path_eq (c : UInt8) : pathB c = ((decide (65 ≤ c.toNat) && decide (c.toNat ≤ 90)) || (decide (97 ≤ c.toNat) && decide (c.toNat ≤ 122)) || (decide (48 ≤ c.toNat) && decide (c.toNat ≤ 57)) || pmarkL.contains c) := by
  have := path_small ⟨c.toNat, c.toNat_lt⟩
  simp only [UInt8.ofNat_toNat] at this
  exact this

set_option maxRecDepth 100000 in
set_option maxHeartbeats 1000000 in
theorem inten_any (c : UInt8) (w : World) : Calls Tryd.prog 39 #[B c] w fun e w' => e = .returned (.bool (digB c)) ∧ w' = w := by
  have h1 := B_geq 5 c 48
  have h2 := B_leq 5 c 57
  rcases (by omega : c.toNat < 48 ∨ (48 ≤ c.toNat ∧ c.toNat ≤ 57) ∨ 57 < c.toNat) with a | a | a
  · rw [show digB c = false by unfold digB; simp; omega]
    rw [decide_eq_false (by omega)] at h1
    clear h2 a
    go_enter Tryd.func39, Tryd.ntmps39
    go_wp2
    go_ret
    exact ⟨rfl, rfl⟩
  · rw [show digB c = true by unfold digB; simp; omega]
    rw [decide_eq_true (by omega)] at h1 h2
    clear a
    go_enter Tryd.func39, Tryd.ntmps39
    go_wp2
    go_ret
    exact ⟨rfl, rfl⟩
  · rw [show digB c = false by unfold digB; simp; omega]
    rw [decide_eq_true (by omega)] at h1
    rw [decide_eq_false (by omega)] at h2
    clear a
    go_enter Tryd.func39, Tryd.ntmps39
    go_wp2
    go_ret
    exact ⟨rfl, rfl⟩
set_option maxRecDepth 100000 in
set_option maxHeartbeats 1000000 in
theorem insix_any (c : UInt8) (w : World) : Calls Tryd.prog 48 #[B c] w fun e w' => e = .returned (.bool (hexB c)) ∧ w' = w := by
  have h1 := B_geq 5 c 97
  have h2 := B_leq 5 c 102
  have h3 := B_geq 5 c 65
  have h4 := B_leq 5 c 70
  have HT := Lib.hid (fun w => inten_any c w)
  have hE := hex_eq c
  rcases (by omega : c.toNat < 48 ∨ (48 ≤ c.toNat ∧ c.toNat ≤ 57) ∨ (57 < c.toNat ∧ c.toNat < 65) ∨ (65 ≤ c.toNat ∧ c.toNat ≤ 70) ∨ (70 < c.toNat ∧ c.toNat < 97) ∨ (97 ≤ c.toNat ∧ c.toNat ≤ 102) ∨ 102 < c.toNat) with a | a | a | a | a | a | a
  · rw [show hexB c = false by rw [hE]; simp; omega]
    rw [decide_eq_false (by omega)] at h1 h3
    rw [show digB c = false by unfold digB; simp; omega] at HT
    clear h2 h4 a hE
    go_enter Tryd.func48, Tryd.ntmps48
    go_wp2_with fail
    refine (HT.out w).mono ?_
    rintro e w1 ⟨rfl, hw1⟩
    obtain rfl := hw1.symm
    clear hw1
    go_wp2
    go_ret
    exact ⟨rfl, rfl⟩
  · rw [show hexB c = true by rw [hE]; simp; omega]
    rw [show digB c = true by unfold digB; simp; omega] at HT
    clear h1 h2 h3 h4 a hE
    go_enter Tryd.func48, Tryd.ntmps48
    go_wp2_with fail
    refine (HT.out w).mono ?_
    rintro e w1 ⟨rfl, hw1⟩
    obtain rfl := hw1.symm
    clear hw1
    go_wp2
    go_ret
    exact ⟨rfl, rfl⟩
  · rw [show hexB c = false by rw [hE]; simp; omega]
    rw [decide_eq_false (by omega)] at h1 h3
    rw [show digB c = false by unfold digB; simp; omega] at HT
    clear h2 h4 a hE
    go_enter Tryd.func48, Tryd.ntmps48
    go_wp2_with fail
    refine (HT.out w).mono ?_
    rintro e w1 ⟨rfl, hw1⟩
    obtain rfl := hw1.symm
    clear hw1
    go_wp2
    go_ret
    exact ⟨rfl, rfl⟩
  · rw [show hexB c = true by rw [hE]; simp; omega]
    rw [decide_eq_false (by omega)] at h1
    rw [decide_eq_true (by omega)] at h3 h4
    rw [show digB c = false by unfold digB; simp; omega] at HT
    clear h2 a hE
    go_enter Tryd.func48, Tryd.ntmps48
    go_wp2_with fail
    refine (HT.out w).mono ?_
    rintro e w1 ⟨rfl, hw1⟩
    obtain rfl := hw1.symm
    clear hw1
    go_wp2
    go_ret
    exact ⟨rfl, rfl⟩
  · rw [show hexB c = false by rw [hE]; simp; omega]
    rw [decide_eq_false (by omega)] at h1
    rw [decide_eq_true (by omega)] at h3
    rw [decide_eq_false (by omega)] at h4
    rw [show digB c = false by unfold digB; simp; omega] at HT
    clear h2 a hE
    go_enter Tryd.func48, Tryd.ntmps48
    go_wp2_with fail
    refine (HT.out w).mono ?_
    rintro e w1 ⟨rfl, hw1⟩
    obtain rfl := hw1.symm
    clear hw1
    go_wp2
    go_ret
    exact ⟨rfl, rfl⟩
  · rw [show hexB c = true by rw [hE]; simp; omega]
    rw [decide_eq_true (by omega)] at h1 h2
    rw [show digB c = false by unfold digB; simp; omega] at HT
    clear h3 h4 a hE
    go_enter Tryd.func48, Tryd.ntmps48
    go_wp2_with fail
    refine (HT.out w).mono ?_
    rintro e w1 ⟨rfl, hw1⟩
    obtain rfl := hw1.symm
    clear hw1
    go_wp2
    go_ret
    exact ⟨rfl, rfl⟩
  · rw [show hexB c = false by rw [hE]; simp; omega]
    rw [decide_eq_true (by omega)] at h1 h3
    rw [decide_eq_false (by omega)] at h2 h4
    rw [show digB c = false by unfold digB; simp; omega] at HT
    clear a hE
    go_enter Tryd.func48, Tryd.ntmps48
    go_wp2_with fail
    refine (HT.out w).mono ?_
    rintro e w1 ⟨rfl, hw1⟩
    obtain rfl := hw1.symm
    clear hw1
    go_wp2
    go_ret
    exact ⟨rfl, rfl⟩
theorem pmark_any (c : UInt8) (w : World) : Calls Tryd.prog 40 #[.string ⟨#[45, 46, 95, 126, 33, 36, 38, 39, 40, 41, 42, 43, 44, 59, 61, 58, 64, 47]⟩, B c] w fun e w' => e = .returned (.int .i64 (Lib.indexByte pmarkL c)) ∧ w' = w := by
  have h := Any.strings_IndexByte Tryd.lays137 ⟨#[45, 46, 95, 126, 33, 36, 38, 39, 40, 41, 42, 43, 44, 59, 61, 58, 64, 47]⟩ (c.toNat : Int) w
  have e : (c.toNat : Int).toNat.toUInt8 = c := by simp
  rw [e] at h
  exact h
set_option maxRecDepth 100000 in
set_option maxHeartbeats 1000000 in
theorem inpath_any (c : UInt8) (w : World) : Calls Tryd.prog 27 #[B c] w fun e w' => e = .returned (.bool (pathB c)) ∧ w' = w := by
  have h1 := B_geq 5 c 65
  have h2 := B_leq 5 c 90
  have h3 := B_geq 5 c 97
  have h4 := B_leq 5 c 122
  have HT := Lib.hid (fun w => inten_any c w)
  have hE := path_eq c
  rw [Lib.contains_iff_indexByte] at hE
  obtain ⟨j, hj⟩ : ∃ j, j = Lib.indexByte pmarkL c := ⟨_, rfl⟩
  have hmk := pmark_any c
  rw [← hj] at hE hmk
  have HM := Lib.hid hmk
  clear hmk hj
  rcases (by omega : c.toNat < 48 ∨ (48 ≤ c.toNat ∧ c.toNat ≤ 57) ∨ (57 < c.toNat ∧ c.toNat < 65) ∨ (65 ≤ c.toNat ∧ c.toNat ≤ 90) ∨ (90 < c.toNat ∧ c.toNat < 97) ∨ (97 ≤ c.toNat ∧ c.toNat ≤ 122) ∨ 122 < c.toNat) with a | a | a | a | a | a | a
  · rw [show pathB c = decide (0 ≤ j) by rw [hE]; simp; omega]
    rw [decide_eq_false (by omega)] at h1 h3
    rw [show digB c = false by unfold digB; simp; omega] at HT
    clear h2 h4 a hE
    go_enter Tryd.func27, Tryd.ntmps27
    go_wp2_with fail
    refine (HT.out w).mono ?_
    rintro e w1 ⟨rfl, hw1⟩
    obtain rfl := hw1.symm
    clear hw1
    go_wp2_with fail
    refine (HM.out w).mono ?_
    rintro e w1 ⟨rfl, hw1⟩
    obtain rfl := hw1.symm
    clear hw1
    go_wp2
    go_ret
    exact ⟨rfl, rfl⟩
  · rw [show pathB c = true by rw [hE]; simp; omega]
    rw [decide_eq_false (by omega)] at h1 h3
    rw [show digB c = true by unfold digB; simp; omega] at HT
    clear h2 h4 a hE HM
    go_enter Tryd.func27, Tryd.ntmps27
    go_wp2_with fail
    refine (HT.out w).mono ?_
    rintro e w1 ⟨rfl, hw1⟩
    obtain rfl := hw1.symm
    clear hw1
    go_wp2
    go_ret
    exact ⟨rfl, rfl⟩
  · rw [show pathB c = decide (0 ≤ j) by rw [hE]; simp; omega]
    rw [decide_eq_false (by omega)] at h1 h3
    rw [show digB c = false by unfold digB; simp; omega] at HT
    clear h2 h4 a hE
    go_enter Tryd.func27, Tryd.ntmps27
    go_wp2_with fail
    refine (HT.out w).mono ?_
    rintro e w1 ⟨rfl, hw1⟩
    obtain rfl := hw1.symm
    clear hw1
    go_wp2_with fail
    refine (HM.out w).mono ?_
    rintro e w1 ⟨rfl, hw1⟩
    obtain rfl := hw1.symm
    clear hw1
    go_wp2
    go_ret
    exact ⟨rfl, rfl⟩
  · rw [show pathB c = true by rw [hE]; simp; omega]
    rw [decide_eq_true (by omega)] at h1 h2
    clear h3 h4 a hE HM HT
    go_enter Tryd.func27, Tryd.ntmps27
    go_wp2
    go_ret
    exact ⟨rfl, rfl⟩
  · rw [show pathB c = decide (0 ≤ j) by rw [hE]; simp; omega]
    rw [decide_eq_true (by omega)] at h1
    rw [decide_eq_false (by omega)] at h2 h3
    rw [show digB c = false by unfold digB; simp; omega] at HT
    clear h4 a hE
    go_enter Tryd.func27, Tryd.ntmps27
    go_wp2_with fail
    refine (HT.out w).mono ?_
    rintro e w1 ⟨rfl, hw1⟩
    obtain rfl := hw1.symm
    clear hw1
    go_wp2_with fail
    refine (HM.out w).mono ?_
    rintro e w1 ⟨rfl, hw1⟩
    obtain rfl := hw1.symm
    clear hw1
    go_wp2
    go_ret
    exact ⟨rfl, rfl⟩
  · rw [show pathB c = true by rw [hE]; simp; omega]
    rw [decide_eq_true (by omega)] at h1 h3 h4
    rw [decide_eq_false (by omega)] at h2
    clear a hE HM HT
    go_enter Tryd.func27, Tryd.ntmps27
    go_wp2
    go_ret
    exact ⟨rfl, rfl⟩
  · rw [show pathB c = decide (0 ≤ j) by rw [hE]; simp; omega]
    rw [decide_eq_true (by omega)] at h1 h3
    rw [decide_eq_false (by omega)] at h2 h4
    rw [show digB c = false by unfold digB; simp; omega] at HT
    clear a hE
    go_enter Tryd.func27, Tryd.ntmps27
    go_wp2_with fail
    refine (HT.out w).mono ?_
    rintro e w1 ⟨rfl, hw1⟩
    obtain rfl := hw1.symm
    clear hw1
    go_wp2_with fail
    refine (HM.out w).mono ?_
    rintro e w1 ⟨rfl, hw1⟩
    obtain rfl := hw1.symm
    clear hw1
    go_wp2
    go_ret
    exact ⟨rfl, rfl⟩
set_option maxRecDepth 100000 in
set_option maxHeartbeats 1000000 in
theorem inquery_any (c : UInt8) (w : World) : Calls Tryd.prog 28 #[B c] w fun e w' => e = .returned (.bool (queryB c)) ∧ w' = w := by
  have h1 := B_eqlN 5 c 63
  have HP := Lib.hid (fun w => inpath_any c w)
  by_cases a : c = 63
  · rw [show queryB c = true by rw [a]; rfl]
    rw [show ((c.toNat : Int) == 63) = true by rw [a]; rfl] at h1
    clear a HP
    go_enter Tryd.func28, Tryd.ntmps28
    go_wp2
    go_ret
    exact ⟨rfl, rfl⟩
  · rw [show queryB c = pathB c by unfold queryB; rw [show (c == 63) = false from beq_eq_false_iff_ne.2 a, Bool.false_or]]
    rw [show ((c.toNat : Int) == 63) = false by rw [beq_eq_false_iff_ne]; intro e; exact a (UInt8.toNat_inj.1 (by rw [show (63 : UInt8).toNat = 63 from rfl]; omega))] at h1
    clear a
    go_enter Tryd.func28, Tryd.ntmps28
    go_wp2_with fail
    refine (HP.out w).mono ?_
    rintro e w1 ⟨rfl, hw1⟩
    obtain rfl := hw1.symm
    clear hw1
    go_wp2
    go_ret
    exact ⟨rfl, rfl⟩
set_option maxRecDepth 100000 in
set_option maxHeartbeats 1000000 in
theorem escapes_any (s : List UInt8) (hs : s.length ≤ 100000) (w : World) : Calls Tryd.prog 38 #[S s] w fun e w' => e = .returned (.bool (escF s)) ∧ w' = w := by
  have hlen := run_len_S (P := Tryd.prog) Tryd.underlying9 3 s
  by_cases h2 : 2 < s.length
  · obtain ⟨c, x, y, r, rfl⟩ : ∃ c x y r, s = c :: x :: y :: r := by
      match s, h2 with
      | [], h => exact absurd h (by simp)
      | [_], h => exact absurd h (by simp)
      | [_, _], h => exact absurd h (by simp)
      | c :: x :: y :: r, _ => exact ⟨c, x, y, r, rfl⟩
    have g1 : decide ((2 : Int) < ((c :: x :: y :: r).length : Int)) = true := decide_eq_true (by omega)
    have i0 : ∀ w, (Instr.index 9 (S (c :: x :: y :: r)) (.int .i64 0)).run Tryd.prog w = .ok (B c) w := fun w => index_S (P := Tryd.prog) Tryd.underlying9 _ 0 c rfl w
    have i1 : ∀ w, (Instr.index 9 (S (c :: x :: y :: r)) (.int .i64 1)).run Tryd.prog w = .ok (B x) w := fun w => index_S (P := Tryd.prog) Tryd.underlying9 _ 1 x rfl w
    have i2 : ∀ w, (Instr.index 9 (S (c :: x :: y :: r)) (.int .i64 2)).run Tryd.prog w = .ok (B y) w := fun w => index_S (P := Tryd.prog) Tryd.underlying9 _ 2 y rfl w
    have HX := Lib.hid (fun w => insix_any x w)
    have HY := Lib.hid (fun w => insix_any y w)
    have q := B_eqlN 5 c 37
    have hE : escF (c :: x :: y :: r) = (c == 37 && hexB x && hexB y) := rfl
    rw [hE]
    clear hE h2
    generalize (c :: x :: y :: r) = s at *
    generalize s.length = L at *
    by_cases a : c = 37
    · rw [show ((c.toNat : Int) == 37) = true by rw [a]; rfl] at q
      rw [show (c == 37) = true by rw [a]; rfl, Bool.true_and]
      cases hx : hexB x with
      | true =>
        rw [hx] at HX
        rw [Bool.true_and]
        clear a hx
        go_enter Tryd.func38, Tryd.ntmps38
        go_wp2_with fail
        refine (HX.out w).mono ?_
        rintro e w1 ⟨rfl, hw1⟩
        obtain rfl := hw1.symm
        clear hw1
        go_wp2_with fail
        refine (HY.out w).mono ?_
        rintro e w1 ⟨rfl, hw1⟩
        obtain rfl := hw1.symm
        clear hw1
        go_wp2
        go_ret
        exact ⟨rfl, rfl⟩
      | false =>
        rw [hx] at HX
        rw [Bool.false_and]
        clear a hx HY
        go_enter Tryd.func38, Tryd.ntmps38
        go_wp2_with fail
        refine (HX.out w).mono ?_
        rintro e w1 ⟨rfl, hw1⟩
        obtain rfl := hw1.symm
        clear hw1
        go_wp2
        go_ret
        exact ⟨rfl, rfl⟩
    · rw [show ((c.toNat : Int) == 37) = false by rw [beq_eq_false_iff_ne]; intro e; exact a (UInt8.toNat_inj.1 (by rw [show (37 : UInt8).toNat = 37 from rfl]; omega))] at q
      rw [show (c == 37) = false from beq_eq_false_iff_ne.2 a, Bool.false_and, Bool.false_and]
      clear a HX HY
      go_enter Tryd.func38, Tryd.ntmps38
      go_wp2
      go_ret
      exact ⟨rfl, rfl⟩
  · have g1 : decide ((2 : Int) < (s.length : Int)) = false := decide_eq_false (by omega)
    have hE : escF s = false := by
      match s, h2 with
      | [], _ => rfl
      | [_], _ => rfl
      | [_, _], _ => rfl
      | c :: x :: y :: r, h => exact absurd (by simp) h
    rw [hE]
    clear hE h2
    go_enter Tryd.func38, Tryd.ntmps38
    go_wp2
    go_ret
    exact ⟨rfl, rfl⟩
set_option maxRecDepth 100000 in
set_option maxHeartbeats 1000000 in
theorem written_any {f : Nat} {p : UInt8 → Bool} (hf : ∀ c w, Calls Tryd.prog f #[B c] w fun e w' => e = .returned (.bool (p c)) ∧ w' = w) (he : ∀ args w, (callFunc f args).run Tryd.prog w = .ok (.enter f args) w)
    (s : List UInt8) (hs : s.length ≤ 100000) (w : World) : Calls Tryd.prog 26 #[S s, .func (.func f) #[] #[]] w fun e w' => e = .returned (.bool (wrF p s)) ∧ w' = w := by
  have hlenS := run_len_S (P := Tryd.prog) Tryd.underlying9 3 s
  have HF := Lib.hid hf
  obtain ⟨L, hL⟩ : ∃ L, L = s.length := ⟨_, rfl⟩
  rw [← hL] at hlenS hs
  have HL := Lib.hid hL
  clear hf hL
  go_enter Tryd.func26, Tryd.ntmps26
  go_wp2
  go_loopw [8] (fun iv wr => ∃ i : Nat, i ≤ L ∧ iv = .int .i64 (i : Int) ∧ wr = w ∧ wrF p s = wrF p (s.drop i)) (fun iv _ => L - (intOf iv).toNat)
  case atStart => exact ⟨0, by omega, rfl, rfl, rfl⟩
  case round =>
    obtain ⟨i, hi, rfl, rfl, hn⟩ := hrel
    by_cases hlt : i < L
    · obtain ⟨c, hc⟩ : ∃ c, s[i]? = some c := ⟨s[i]'(by have := HL.out; omega), List.getElem?_eq_getElem _⟩
      have hidx : ∀ w, (Instr.index 9 (S s) (.int .i64 (i : Int))).run Tryd.prog w = .ok (B c) w := fun w => index_S (P := Tryd.prog) Tryd.underlying9 s i c hc w
      have hsl : ∀ w, (Instr.slice 9 (S s) (some (.int .i64 (i : Int))) none none).run Tryd.prog w = .ok (S (s.drop i)) w := fun w => slice_drop (P := Tryd.prog) Tryd.underlying9 s i (by have := HL.out; omega) w
      have hdr : s.drop i = c :: s.drop (i + 1) := by
        rw [List.drop_eq_getElem_cons (by rw [← HL.out]; exact hlt), (List.getElem?_eq_some_iff.1 hc).2]
      have hnx : wrF p s = ((p c || escF (s.drop i)) && wrF p (s.drop (i + 1))) := by rw [hn, hdr]; rfl
      have HE := Lib.hid (fun w => escapes_any (s.drop i) (by rw [List.length_drop]; have := HL.out; omega) w)
      have HF2 := Lib.hid (HF.out c wr)
      clear hn hc hdr
      cases hb : p c with
      | true =>
        have HN : Hid (wrF p s = wrF p (s.drop (i + 1))) := Lib.hid (by rw [hnx, hb, Bool.true_or, Bool.true_and])
        have HB := Lib.hid hb
        clear hnx hb HE hsl
        go_wp2_with fail
        refine HF2.out.mono ?_
        rintro e w1 ⟨rfl, hw1⟩
        obtain rfl := hw1.symm
        rw [HB.out]
        clear hw1
        go_wp2
        exact ⟨⟨i + 1, by omega, by go_num, by trivial, HN.out⟩, by simp [intOf]; omega⟩
      | false =>
        have HB := Lib.hid hb
        cases hes : escF (s.drop i) with
        | true =>
          have HN : Hid (wrF p s = wrF p (s.drop (i + 1))) := Lib.hid (by rw [hnx, hb, hes, Bool.false_or, Bool.true_and])
          rw [hes] at HE
          clear hnx hb hes
          go_wp2_with fail
          refine HF2.out.mono ?_
          rintro e w1 ⟨rfl, hw1⟩
          obtain rfl := hw1.symm
          rw [HB.out]
          clear hw1
          go_wp2_with fail
          refine (HE.out _).mono ?_
          rintro e w1 ⟨rfl, hw1⟩
          obtain rfl := hw1.symm
          clear hw1
          go_wp2
          exact ⟨⟨i + 1, by omega, by go_num, by trivial, HN.out⟩, by simp [intOf]; omega⟩
        | false =>
          have HN : Hid (wrF p s = false) := Lib.hid (by rw [hnx, hb, hes, Bool.false_or, Bool.false_and])
          rw [hes] at HE
          clear hnx hb hes
          go_wp2_with fail
          refine HF2.out.mono ?_
          rintro e w1 ⟨rfl, hw1⟩
          obtain rfl := hw1.symm
          rw [HB.out]
          clear hw1
          go_wp2_with fail
          refine (HE.out _).mono ?_
          rintro e w1 ⟨rfl, hw1⟩
          obtain rfl := hw1.symm
          clear hw1
          go_wp2
          go_ret
          exact ⟨by rw [HN.out]; rfl, rfl⟩
    · obtain rfl : i = L := by omega
      have HN : Hid (wrF p s = true) := Lib.hid (by rw [hn, HL.out, List.drop_length]; rfl)
      clear hn
      go_wp2
      go_ret
      exact ⟨by rw [HN.out]; rfl, rfl⟩
theorem written_path (s : List UInt8) (hs : s.length ≤ 100000) (w : World) : Calls Tryd.prog 26 #[S s, .func (.func 27) #[] #[]] w fun e w' => e = .returned (.bool (wrF pathB s)) ∧ w' = w :=
  written_any inpath_any (enters_of Tryd.func27 (by kernel_rfl) rfl) s hs w
theorem written_query (s : List UInt8) (hs : s.length ≤ 100000) (w : World) : Calls Tryd.prog 26 #[S s, .func (.func 28) #[] #[]] w fun e w' => e = .returned (.bool (wrF queryB s)) ∧ w' = w :=
  written_any inquery_any (enters_of Tryd.func28 (by kernel_rfl) rfl) s hs w
theorem B_sub48 (t : TypeId) (x : UInt8) (h : 48 ≤ x.toNat) : binOp .sub t (B x) (.int .u8 48) = pure (B (x - 48)) := by
  have := x.toNat_lt
  have e : (x - 48).toNat = x.toNat - 48 := by rw [UInt8.toNat_sub_of_le _ _ (by rw [UInt8.le_iff_toNat_le]; exact h)]; rfl
  have hw : IntKind.u8.wrap ((x.toNat : Int) - 48) = ((x.toNat - 48 : Nat) : Int) := by rw [IntKind.wrap_u8]; omega
  simp only [B, e]
  show pure (Value.int .u8 (IntKind.u8.wrap ((x.toNat : Int) - 48))) = _
  rw [hw]
end Go.Proofs.YtmklgjbfdaleiaaDoor
