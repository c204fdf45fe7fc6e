/- RequestFields walked, over any package that does what is asked of it. (mkrf.py writes it.) -/
import Derived.Test.YtplajlccnnbifaaGreatDoorRs1
import Derived.Test.YtplajlccnnbifaaGreatDoorRr
namespace Go.Proofs.YtplajlccnnbifaaGreatDoor
open Go.RowKit
attribute [local go_sem] store_one S_match S_store

theorem cv8 (n : Nat) (h : n ≤ 255) (w : World) : (convert 5 3 (.int .u8 (n : Int))).run Tryz.prog w = .ok (.int .i64 (n : Int)) w := by
  have e : IntKind.i64.wrap (n : Int) = (n : Int) := by rw [IntKind.wrap_i64]; omega
  simp [convert, run_underlying Tryz.underlying5, run_underlying Tryz.underlying3, e, go_sem]
theorem cv16 (n : Nat) (h : n ≤ 65535) (w : World) : (convert 33 3 (.int .u16 (n : Int))).run Tryz.prog w = .ok (.int .i64 (n : Int)) w := by
  have e : IntKind.i64.wrap (n : Int) = (n : Int) := by rw [IntKind.wrap_i64]; omega
  simp [convert, run_underlying Tryz.underlying33, run_underlying Tryz.underlying3, e, go_sem]
/-- A head with fields a. -/
def manyN : Nat → List UInt8
  | 0 => [71, 69, 84, 32, 47, 32, 72, 84, 84, 80, 47, 49, 46, 49, 13, 10, 72, 111, 115, 116, 58, 32, 120, 13, 10]
  | i + 1 => manyN i ++ [97, 58, 13, 10]
theorem manyN_len : ∀ i, (manyN i).length = 25 + 4 * i
  | 0 => rfl
  | i + 1 => by rw [manyN, List.length_append, manyN_len i]; simp; omega
set_option maxRecDepth 100000 in
set_option maxHeartbeats 4000000 in
theorem rfields_any {RA : World → (Nat → Prop) → Nat → PSt → Prop} {w : World} (C : RequestI w RA) (f : Nat) (hf : f ≤ 255) (n : Nat) (hn : n ≤ 65535) (s : List UInt8) :
    Calls Tryz.prog 4 #[.int .u8 (f : Int), .int .u16 (n : Int), S s] w fun e w' => e = .returned (.bool true) ∧ Below w.heap.size w w' := by
  have hlen := run_len_S (P := Tryz.prog) Tryz.underlying9 3 s
  have HAW := Lib.hid (awake_request C)
  have HRD : Hid (∀ (y : List UInt8) (W : World), Below w.heap.size w W → Calls Tryz.prog 14 #[S y] W fun e w' => e = .returned (.bool true) ∧ Below W.heap.size W w') := Lib.hid fun y W hW => rreads_any (C.up hW) y
  clear C
  by_cases h3 : 300 < s.length
  · have j1 : decide ((300 : Int) < (s.length : Int)) = true := decide_eq_true (by omega)
    go_enter Tryz.func4, Tryz.ntmps4
    go_wp2_with fail
    refine HAW.out.mono ?_
    rintro e W1 ⟨rfl, hB⟩
    have HB := Lib.hid hB
    clear hB
    go_wp2
    go_ret
    exact ⟨rfl, HB.out⟩
  have j1 : decide ((300 : Int) < (s.length : Int)) = false := decide_eq_false (by omega)
  obtain ⟨k, hk⟩ : ∃ k, k = f % 41 := ⟨_, rfl⟩
  obtain ⟨a, ha⟩ : ∃ a, a = n % 4096 := ⟨_, rfl⟩
  have hk40 : k ≤ 40 := by omega
  have ha40 : a ≤ 4095 := by omega
  have r1 : (f : Int) % 41 = (k : Int) := by omega
  have r2 : (n : Int) % 4096 = (a : Int) := by omega
  have r1' : (f : Int).tmod 41 = (k : Int) := by rw [Int.tmod_eq_emod_of_nonneg (by omega)]; omega
  have r2' : (n : Int).tmod 4096 = (a : Int) := by rw [Int.tmod_eq_emod_of_nonneg (by omega)]; omega
  have c1 := cv8 k (by omega)
  have c2 := cv16 a (by omega)
  have HSL := Lib.hid (show s.length ≤ 300 by omega)
  have HR1 : Hid (∀ W, Calls Tryz.prog 11 #[.string ⟨#[121]⟩, .int .i64 (a : Int)] W fun e w' => e = .returned (S (List.replicate a 121)) ∧ Below W.heap.size W w') := Lib.hid fun W => rep_any 121 a (by omega) W
  have HR2 : Hid (∀ W, Calls Tryz.prog 11 #[.string ⟨#[32]⟩, .int .i64 (a : Int)] W fun e w' => e = .returned (S (List.replicate a 32)) ∧ Below W.heap.size W w') := Lib.hid fun W => rep_any 32 a (by omega) W
  have HL1 : Hid ((List.replicate a (121 : UInt8)).length = a) := Lib.hid List.length_replicate
  have HL2 : Hid ((List.replicate a (32 : UInt8)).length = a) := Lib.hid List.length_replicate
  generalize List.replicate a (121 : UInt8) = R1 at *
  generalize List.replicate a (32 : UInt8) = R2 at *
  clear hk ha h3 hn hf
  go_enter Tryz.func4, Tryz.ntmps4
  go_wp2_with fail
  refine HAW.out.mono ?_
  rintro e W2 ⟨rfl, hB⟩
  have HB2 := Lib.hid hB
  clear hB
  go_wp2
  go_loopw [7, 8] (fun tv iv wr => ∃ i : Nat, i ≤ k ∧ tv = S (manyN i) ∧ iv = .int .i64 (i : Int) ∧ wr = W2) (fun _ iv _ => k - (intOf iv).toNat)
  case atStart => exact ⟨0, Nat.zero_le _, rfl, rfl, rfl⟩
  case round =>
    obtain ⟨i, hi, rfl, rfl, hwr⟩ := hrel
    subst hwr
    have hT := manyN_len i
    by_cases hlt : i < k
    · have aT : binOp .add 9 (S (manyN i)) (.string ⟨#[97, 58, 13, 10]⟩) = pure (S (manyN (i + 1))) := S_add 9 (manyN i) [97, 58, 13, 10] (by rw [hT]; simp; omega)
      clear hT
      go_wp2
      exact ⟨⟨i + 1, by omega, rfl, by go_num, by trivial⟩, by simp [intOf]; omega⟩
    · obtain rfl : i = k := by omega
      obtain ⟨T, hT0⟩ : ∃ T, T = manyN i := ⟨_, rfl⟩
      rw [← hT0] at hT ⊢
      have HT := Lib.hid (show T.length ≤ 200 by omega)
      clear hT hT0
      obtain ⟨Y1, hY1⟩ : ∃ Y, Y = T ++ [13, 10] := ⟨_, rfl⟩
      obtain ⟨Y2, hY2⟩ : ∃ Y, Y = Y1 ++ s := ⟨_, rfl⟩
      obtain ⟨Z1, hZ1⟩ : ∃ Y, Y = T ++ [98, 58] := ⟨_, rfl⟩
      obtain ⟨Z2, hZ2⟩ : ∃ Y, Y = Z1 ++ R1 := ⟨_, rfl⟩
      obtain ⟨Z3, hZ3⟩ : ∃ Y, Y = Z2 ++ [13, 10, 13, 10] := ⟨_, rfl⟩
      obtain ⟨Z4, hZ4⟩ : ∃ Y, Y = Z3 ++ s := ⟨_, rfl⟩
      obtain ⟨U1, hU1⟩ : ∃ Y, Y = [71, 69, 84, 32, 47, 32, 72, 84, 84, 80, 47, 49, 46, 49, 13, 10, 72, 111, 115, 116, 58] ++ R2 := ⟨_, rfl⟩
      have lY1 : Y1.length ≤ 300 := by have := HT.out; rw [hY1, List.length_append]; simp; omega
      have lZ1 : Z1.length ≤ 300 := by have := HT.out; rw [hZ1, List.length_append]; simp; omega
      have lZ2 : Z2.length ≤ 5000 := by have := HL1.out; rw [hZ2, List.length_append]; omega
      have lZ3 : Z3.length ≤ 6000 := by rw [hZ3, List.length_append]; simp; omega
      have a1 : binOp .add 9 (S T) (.string ⟨#[13, 10]⟩) = pure (S Y1) := by rw [hY1]; exact S_add 9 T [13, 10] (by have := HT.out; simp; omega)
      have a2 : binOp .add 9 (S Y1) (S s) = pure (S Y2) := by rw [hY2]; exact S_add 9 Y1 s (by have := HSL.out; omega)
      have b1 : binOp .add 9 (S T) (.string ⟨#[98, 58]⟩) = pure (S Z1) := by rw [hZ1]; exact S_add 9 T [98, 58] (by have := HT.out; simp; omega)
      have b2 : binOp .add 9 (S Z1) (S R1) = pure (S Z2) := by rw [hZ2]; exact S_add 9 Z1 R1 (by have := HL1.out; omega)
      have b3 : binOp .add 9 (S Z2) (.string ⟨#[13, 10, 13, 10]⟩) = pure (S Z3) := by rw [hZ3]; exact S_add 9 Z2 [13, 10, 13, 10] (by simp; omega)
      have b4 : binOp .add 9 (S Z3) (S s) = pure (S Z4) := by rw [hZ4]; exact S_add 9 Z3 s (by have := HSL.out; omega)
      have d1 : binOp .add 9 (.string ⟨#[71, 69, 84, 32, 47, 32, 72, 84, 84, 80, 47, 49, 46, 49, 13, 10, 72, 111, 115, 116, 58]⟩) (S R2) = pure (S U1) := by rw [hU1]; exact S_add 9 [71, 69, 84, 32, 47, 32, 72, 84, 84, 80, 47, 49, 46, 49, 13, 10, 72, 111, 115, 116, 58] R2 (by have := HL2.out; simp; omega)
      clear hY1 hY2 hZ1 hZ2 hZ3 hZ4 hU1 lY1 lZ1 lZ2 lZ3
      go_wp2_with fail
      refine (HRD.out Y2 _ HB2.out).mono ?_
      rintro e W3 ⟨rfl, h⟩
      have H3 := Lib.hid (HB2.out.trans (h.mono HB2.out.size))
      clear h
      go_wp2_with fail
      refine (HR1.out _).mono ?_
      rintro e W4 ⟨rfl, h⟩
      have H4 := Lib.hid (H3.out.trans (h.mono H3.out.size))
      clear h H3
      go_wp2_with fail
      refine (HRD.out Z4 _ H4.out).mono ?_
      rintro e W5 ⟨rfl, h⟩
      have H5 := Lib.hid (H4.out.trans (h.mono H4.out.size))
      clear h H4
      go_wp2_with fail
      refine (HR2.out _).mono ?_
      rintro e W6 ⟨rfl, h⟩
      have H6 := Lib.hid (H5.out.trans (h.mono H5.out.size))
      clear h H5
      go_wp2_with fail
      refine (HRD.out U1 _ H6.out).mono ?_
      rintro e W7 ⟨rfl, h⟩
      have H7 := Lib.hid (H6.out.trans (h.mono H6.out.size))
      clear h H6
      go_wp2
      go_ret
      exact ⟨rfl, H7.out⟩
end Go.Proofs.YtplajlccnnbifaaGreatDoor
