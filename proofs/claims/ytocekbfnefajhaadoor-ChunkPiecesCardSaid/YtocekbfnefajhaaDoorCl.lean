/- ChunkLong walked, over any package that does what is asked of it. (mkcl.py writes it.) -/
import Derived.Test.YtocekbfnefajhaaDoorCo
namespace Go.Proofs.YtocekbfnefajhaaDoor
open Go.RowKit
attribute [local go_sem] store_one S_match S_store

theorem conv_cat {W : World} {b : Nat} {c : UInt8} {q : Nat} (h : Row W b #[B c] 5) : (convert 35 9 (.slice (some ⟨b, 0, none⟩) 1 q)).run Tryd.prog W = .ok (S [c]) W := by
  refine run_convert_bytes_back (P := Tryd.prog) _ 35 9 5 ⟨b, 0, none⟩ q [c] Tryd.underlying35 Tryd.underlying5 Tryd.underlying9 (fun j hj => ?_)
  obtain rfl : j = 0 := by simpa using hj
  rw [Addr.add_mid]
  exact cell_of_row _ _ 0 _ 5 (0, 0) h
theorem cv8 (n : Nat) (h : n ≤ 255) (w : World) : (convert 5 3 (.int .u8 (n : Int))).run Tryd.prog w = .ok (.int .i64 (n : Int)) w := by
  have e : IntKind.i64.wrap (n : Int) = (n : Int) := by rw [IntKind.wrap_i64]; omega
  simp [convert, run_underlying Tryd.underlying5, run_underlying Tryd.underlying3, e, go_sem]
theorem cv16 (n : Nat) (h : n ≤ 65535) (w : World) : (convert 34 3 (.int .u16 (n : Int))).run Tryd.prog w = .ok (.int .i64 (n : Int)) w := by
  have e : IntKind.i64.wrap (n : Int) = (n : Int) := by rw [IntKind.wrap_i64]; omega
  simp [convert, run_underlying Tryd.underlying34, run_underlying Tryd.underlying3, e, go_sem]
/-- Trailers a:b. -/
def tailN : Nat → List UInt8
  | 0 => []
  | i + 1 => tailN i ++ [97, 58, 98, 13, 10]
theorem tailN_len : ∀ i, (tailN i).length = 5 * i
  | 0 => rfl
  | i + 1 => by rw [tailN, List.length_append, tailN_len i]; simp; omega
set_option maxRecDepth 100000 in
set_option maxHeartbeats 4000000 in
theorem clong_any {RA : World → (Nat → Prop) → Nat → Cst → Prop} (C : ChunkI RA) (D : DocReads) (c : UInt8) (n m : Nat) (hn : n ≤ 65535) (hm : m ≤ 65535) (f : Nat) (hf : f ≤ 255) (s : List UInt8) (_hs : s.length ≤ maxLen) (w : World) :
    Calls Tryd.prog 5 #[B c, .int .u16 (n : Int), .int .u16 (m : Int), .int .u8 (f : Int), S s] w fun e w' => e = .returned (.bool true) ∧ Below w.heap.size w w' := by
  have hlen := run_len_S (P := Tryd.prog) Tryd.underlying9 3 s
  have hBc : B c = .int .u8 (c.toNat : Int) := rfl
  obtain ⟨x, hx⟩ : ∃ x : Nat, x = c.toNat := ⟨_, rfl⟩
  rw [← hx] at hBc
  have hca : ∀ W n q, Row W n #[.int .u8 (x : Int)] 5 → (convert 35 9 (.slice (some ⟨n, 0, none⟩) 1 q)).run Tryd.prog W = .ok (S [c]) W := fun W n q h => conv_cat (by rw [hBc]; exact h)
  have HC := Lib.hid C
  by_cases h3 : 300 < s.length
  · have j1 : decide ((300 : Int) < (s.length : Int)) = true := decide_eq_true (by omega)
    rw [hBc]
    clear hca hBc
    go_enter Tryd.func5, Tryd.ntmps5
    go_wp2_with fail
    refine (awake_chunk HC.out _).mono ?_
    rintro e W1 ⟨rfl, hB⟩
    have HB := Lib.hid hB
    clear hB
    go_wp2
    go_ret
    exact ⟨rfl, HB.out⟩
  have j1 : decide ((300 : Int) < (s.length : Int)) = false := decide_eq_false (by omega)
  have HRD : Hid (∀ (y : List UInt8) (W : World), y.length ≤ 100000 → Calls Tryd.prog 4 #[S y] W fun e w' => e = .returned (.bool true) ∧ Below W.heap.size W w') := Lib.hid fun y W h => creads_any C D y (by unfold maxLen; omega) W
  have HRP := Lib.hid (fun k hk W => rep_any c k hk W)
  obtain ⟨k, hk⟩ : ∃ k, k = f % 41 := ⟨_, rfl⟩
  obtain ⟨a, ha⟩ : ∃ a, a = n % 4096 := ⟨_, rfl⟩
  obtain ⟨b, hb⟩ : ∃ b, b = m % 4096 := ⟨_, rfl⟩
  have hk40 : k ≤ 40 := by omega
  have ha40 : a ≤ 4095 := by omega
  have hb40 : b ≤ 4095 := by omega
  have r1 : (f : Int) % 41 = (k : Int) := by omega
  have r2 : (n : Int) % 4096 = (a : Int) := by omega
  have r3 : (m : Int) % 4096 = (b : Int) := by omega
  have r1' : (f : Int).tmod 41 = (k : Int) := by rw [Int.tmod_eq_emod_of_nonneg (by omega)]; omega
  have r2' : (n : Int).tmod 4096 = (a : Int) := by rw [Int.tmod_eq_emod_of_nonneg (by omega)]; omega
  have r3' : (m : Int).tmod 4096 = (b : Int) := by rw [Int.tmod_eq_emod_of_nonneg (by omega)]; omega
  have c1 := cv8 k (by omega)
  have c2 := cv16 a (by omega)
  have c3 := cv16 b (by omega)
  have HSL := Lib.hid (show s.length ≤ 300 by omega)
  have HR1 : Hid (∀ W, Calls Tryd.prog 13 #[S [c], .int .i64 (a : Int)] W fun e w' => e = .returned (S (List.replicate a c)) ∧ Below W.heap.size W w') := Lib.hid fun W => rep_any c a (by omega) W
  have HR2 : Hid (∀ W, Calls Tryd.prog 13 #[S [c], .int .i64 (b : Int)] W fun e w' => e = .returned (S (List.replicate b c)) ∧ Below W.heap.size W w') := Lib.hid fun W => rep_any c b (by omega) W
  have HL1 : Hid ((List.replicate a c).length = a) := Lib.hid List.length_replicate
  have HL2 : Hid ((List.replicate b c).length = b) := Lib.hid List.length_replicate
  have hcx : B c = .int .u8 (x : Int) := hBc
  generalize List.replicate a c = R1 at *
  generalize List.replicate b c = R2 at *
  generalize [c] = X at *
  rw [hBc]
  clear hk ha hb h3 _hs C D hx hBc hcx hn hm hf HRP
  go_enter Tryd.func5, Tryd.ntmps5
  go_wp2_with fail
  refine (awake_chunk HC.out _).mono ?_
  rintro e W1 ⟨rfl, hB⟩
  have H1 := Lib.hid hB
  clear hB
  have q1 : Row (W1.alloc (.cells #[.int .u8 (x : Int)] 5)) W1.heap.size #[.int .u8 (x : Int)] 5 := row_new _ _ _
  have k1 := fun q => hca _ _ q q1
  clear hca q1
  go_wp2
  have HB2 := Lib.hid (H1.out.alloc H1.out.size (.cells #[.int .u8 (x : Int)] 5))
  clear k1
  generalize W1.alloc (.cells #[.int .u8 (x : Int)] 5) = W2 at *
  go_loopw [12, 13] (fun tv iv wr => ∃ i : Nat, i ≤ k ∧ tv = S (tailN i) ∧ iv = .int .i64 (i : Int) ∧ wr = W2) (fun _ iv _ => k - (intOf iv).toNat)
  case atStart => exact ⟨0, Nat.zero_le _, rfl, rfl, rfl⟩
  case round =>
    obtain ⟨i, hi, rfl, rfl, hwr⟩ := hrel
    subst hwr
    have hT := tailN_len i
    by_cases hlt : i < k
    · have aT : binOp .add 9 (S (tailN i)) (.string ⟨#[97, 58, 98, 13, 10]⟩) = pure (S (tailN (i + 1))) := S_add 9 (tailN i) [97, 58, 98, 13, 10] (by rw [hT]; simp; omega)
      clear hT
      go_wp2
      exact ⟨⟨i + 1, by omega, rfl, by go_num, by trivial⟩, by simp [intOf]; omega⟩
    · obtain rfl : i = k := by omega
      obtain ⟨T, hT0⟩ : ∃ T, T = tailN i := ⟨_, rfl⟩
      rw [← hT0] at hT ⊢
      have HT := Lib.hid (show T.length ≤ 200 by omega)
      clear hT hT0
      obtain ⟨Y1, hY1⟩ : ∃ Y, Y = [49, 59] ++ R1 := ⟨_, rfl⟩
      obtain ⟨Y2, hY2⟩ : ∃ Y, Y = Y1 ++ [13, 10, 122, 13, 10] := ⟨_, rfl⟩
      obtain ⟨Y3, hY3⟩ : ∃ Y, Y = Y2 ++ s := ⟨_, rfl⟩
      obtain ⟨Z1, hZ1⟩ : ∃ Y, Y = [48, 13, 10] ++ T := ⟨_, rfl⟩
      obtain ⟨Z2, hZ2⟩ : ∃ Y, Y = Z1 ++ [120, 58] := ⟨_, rfl⟩
      obtain ⟨Z3, hZ3⟩ : ∃ Y, Y = Z2 ++ R2 := ⟨_, rfl⟩
      obtain ⟨Z4, hZ4⟩ : ∃ Y, Y = Z3 ++ [13, 10, 13, 10] := ⟨_, rfl⟩
      obtain ⟨Z5, hZ5⟩ : ∃ Y, Y = Z4 ++ s := ⟨_, rfl⟩
      obtain ⟨U1, hU1⟩ : ∃ Y, Y = Z1 ++ s := ⟨_, rfl⟩
      have lY1 : Y1.length ≤ 5000 := by have := HL1.out; rw [hY1, List.length_append]; simp; omega
      have lY2 : Y2.length ≤ 6000 := by rw [hY2, List.length_append]; simp; omega
      have lY3 : Y3.length ≤ 7000 := by have := HSL.out; rw [hY3, List.length_append]; omega
      have lZ1 : Z1.length ≤ 300 := by have := HT.out; rw [hZ1, List.length_append]; simp; omega
      have lZ2 : Z2.length ≤ 400 := by rw [hZ2, List.length_append]; simp; omega
      have lZ3 : Z3.length ≤ 5000 := by have := HL2.out; rw [hZ3, List.length_append]; omega
      have lZ4 : Z4.length ≤ 6000 := by rw [hZ4, List.length_append]; simp; omega
      have lZ5 : Z5.length ≤ 7000 := by have := HSL.out; rw [hZ5, List.length_append]; omega
      have lU1 : U1.length ≤ 7000 := by have := HSL.out; rw [hU1, List.length_append]; omega
      have a1 : binOp .add 9 (.string ⟨#[49, 59]⟩) (S R1) = pure (S Y1) := by rw [hY1]; exact S_add 9 [49, 59] R1 (by have := HL1.out; simp; omega)
      have a2 : binOp .add 9 (S Y1) (.string ⟨#[13, 10, 122, 13, 10]⟩) = pure (S Y2) := by rw [hY2]; exact S_add 9 Y1 [13, 10, 122, 13, 10] (by simp; omega)
      have a3 : binOp .add 9 (S Y2) (S s) = pure (S Y3) := by rw [hY3]; exact S_add 9 Y2 s (by have := HSL.out; omega)
      have b1 : binOp .add 9 (.string ⟨#[48, 13, 10]⟩) (S T) = pure (S Z1) := by rw [hZ1]; exact S_add 9 [48, 13, 10] T (by have := HT.out; simp; omega)
      have b2 : binOp .add 9 (S Z1) (.string ⟨#[120, 58]⟩) = pure (S Z2) := by rw [hZ2]; exact S_add 9 Z1 [120, 58] (by simp; omega)
      have b3 : binOp .add 9 (S Z2) (S R2) = pure (S Z3) := by rw [hZ3]; exact S_add 9 Z2 R2 (by have := HL2.out; omega)
      have b4 : binOp .add 9 (S Z3) (.string ⟨#[13, 10, 13, 10]⟩) = pure (S Z4) := by rw [hZ4]; exact S_add 9 Z3 [13, 10, 13, 10] (by simp; omega)
      have b5 : binOp .add 9 (S Z4) (S s) = pure (S Z5) := by rw [hZ5]; exact S_add 9 Z4 s (by have := HSL.out; omega)
      have b6 : binOp .add 9 (S Z1) (S s) = pure (S U1) := by rw [hU1]; exact S_add 9 Z1 s (by have := HSL.out; omega)
      have P1 := Lib.hid (fun W => HRD.out Y3 W (by omega))
      have P2 := Lib.hid (fun W => HRD.out Z5 W (by omega))
      have P3 := Lib.hid (fun W => HRD.out U1 W (by omega))
      clear hY1 hY2 hY3 hZ1 hZ2 hZ3 hZ4 hZ5 hU1 lY1 lY2 lY3 lZ1 lZ2 lZ3 lZ4 lZ5 lU1 HRD
      go_wp2_with fail
      refine (HR1.out _).mono ?_
      rintro e W3 ⟨rfl, h⟩
      have H3 := Lib.hid (HB2.out.trans (h.mono HB2.out.size))
      clear h
      go_wp2_with fail
      refine (P1.out _).mono ?_
      rintro e W4 ⟨rfl, h⟩
      have H4 := Lib.hid (H3.out.trans (h.mono H3.out.size))
      clear h
      go_wp2_with fail
      refine (HR2.out _).mono ?_
      rintro e W5 ⟨rfl, h⟩
      have H5 := Lib.hid (H4.out.trans (h.mono H4.out.size))
      clear h
      go_wp2_with fail
      refine (P2.out _).mono ?_
      rintro e W6 ⟨rfl, h⟩
      have H6 := Lib.hid (H5.out.trans (h.mono H5.out.size))
      clear h
      go_wp2_with fail
      refine (P3.out _).mono ?_
      rintro e W7 ⟨rfl, h⟩
      have H7 := Lib.hid (H6.out.trans (h.mono H6.out.size))
      clear h
      go_wp2
      go_ret
      exact ⟨rfl, H7.out⟩
end Go.Proofs.YtocekbfnefajhaaDoor
