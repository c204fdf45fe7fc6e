/- The document's end and number (stage 9) walked. -/
import Derived.Test.YtplajlccnnbifaaGreatDoorJb
import Derived.Test.YtplajlccnnbifaaGreatDoorQs
namespace Go.Proofs.YtplajlccnnbifaaGreatDoor
open Go.RowKit
attribute [local go_sem] store_one S_match S_store eguard_BN nguard_BN

def optV (o : Option Nat) : Value := match o with
  | none => .int .i64 (-1)
  | some x => .int .i64 (x : Int)
theorem endF_short : ∀ (s : List UInt8), s.length < 4 → endF s = none
  | [], _ => rfl
  | c :: r, h => by
    rw [endF, if_neg, endF_short r (by simp only [List.length_cons] at h; omega)]
    · rfl
    · intro e
      have := congrArg List.length e
      simp only [List.length_take, List.length_cons, List.length_nil] at this h
      omega
theorem endF_here {c : UInt8} {r : List UInt8} (h : (c :: r).take 4 = [13, 10, 13, 10]) : endF (c :: r) = some 4 := by rw [endF, if_pos h]
theorem endF_on {c : UInt8} {r : List UInt8} (h : (c :: r).take 4 ≠ [13, 10, 13, 10]) : endF (c :: r) = (endF r).map (· + 1) := by rw [endF, if_neg h]
set_option maxRecDepth 100000 in
set_option maxHeartbeats 1000000 in
theorem dend_any (s : List UInt8) (hs : s.length ≤ 100000) (w : World) : Calls Tryz.prog 31 #[S s] w fun e w' => e = .returned (optV (endF s)) ∧ w' = w := by
  have hlen := run_len_S (P := Tryz.prog) Tryz.underlying9 3 s
  obtain ⟨L, hL⟩ : ∃ L, L = s.length := ⟨_, rfl⟩
  rw [← hL] at hlen hs
  have HL := Lib.hid hL
  clear hL
  obtain ⟨O, hO⟩ : ∃ O, O = endF s := ⟨_, rfl⟩
  rw [← hO]
  go_enter Tryz.func31, Tryz.ntmps31
  go_wp2
  go_loopw [3] (fun iv wr => ∃ i : Nat, i ≤ L ∧ iv = .int .i64 (i : Int) ∧ wr = w ∧ O = (endF (s.drop i)).map (· + i)) (fun iv _ => L - (intOf iv).toNat)
  case atStart => exact ⟨0, Nat.zero_le _, rfl, rfl, by rw [List.drop_zero, hO]; cases endF s <;> rfl⟩
  case round =>
    obtain ⟨i, hi, rfl, hwr, hn⟩ := hrel
    subst hwr
    clear hO
    have hw4 : IntKind.i64.wrap ((i : Int) + 4) = (i : Int) + 4 := by rw [IntKind.wrap_i64]; omega
    have hw1 : IntKind.i64.wrap ((i : Int) + 1) = (i : Int) + 1 := by rw [IntKind.wrap_i64]; omega
    by_cases hlt : i + 4 ≤ L
    · have g1 : decide ((i : Int) + 4 ≤ (L : Int)) = true := decide_eq_true (by omega)
      obtain ⟨c, hc⟩ : ∃ c, s[i]? = some c := ⟨s[i]'(by have := HL.out; omega), List.getElem?_eq_getElem _⟩
      have hdr : s.drop i = c :: s.drop (i + 1) := by
        rw [List.drop_eq_getElem_cons (by rw [← HL.out]; omega), (List.getElem?_eq_some_iff.1 hc).2]
      have hsl : ∀ w, (Instr.slice 9 (S s) (some (.int .i64 (i : Int))) (some (.int .i64 ((i : Int) + 4))) none).run Tryz.prog w = .ok (S ((s.drop i).take 4)) w := fun w => by
        have := slice_mid (P := Tryz.prog) Tryz.underlying9 s i (i + 4) (by omega) (by have := HL.out; omega) w
        rwa [show i + 4 - i = 4 by omega, show ((i + 4 : Nat) : Int) = (i : Int) + 4 by omega] at this
      obtain ⟨X, hX⟩ : ∃ X, X = (s.drop i).take 4 := ⟨_, rfl⟩
      rw [← hX] at hsl
      have e0 : binOp .eql 9 (S X) (.string ⟨#[13, 10, 13, 10]⟩) = pure (.bool (X == [13, 10, 13, 10])) := eql_S 9 X [13, 10, 13, 10]
      have g0 : ∀ x y, eqGuard .eql 9 x y (S X) (.string ⟨#[13, 10, 13, 10]⟩) = pure () := fun x y => guard_S 9 x y X [13, 10, 13, 10]
      by_cases hx : X = [13, 10, 13, 10]
      · rw [show (X == [13, 10, 13, 10]) = true from beq_iff_eq.2 hx] at e0
        have HP : Hid (O = some (4 + i)) := Lib.hid (by
          rw [hn, hdr, endF_here (by rw [← hdr, ← hX]; exact hx)]; rfl)
        have HRR : Hid ((i : Int) + 4 = ((4 + i : Nat) : Int)) := Lib.hid (by omega)
        clear hn hc hdr hX hx
        go_wp2
        go_ret
        exact ⟨by rw [HP.out]; show Ending.returned (.int .i64 ((i : Int) + 4)) = .returned (.int .i64 ((4 + i : Nat) : Int)); rw [HRR.out], rfl⟩
      · rw [show (X == [13, 10, 13, 10]) = false from beq_eq_false_iff_ne.2 hx] at e0
        have HX : Hid (O = (endF (s.drop (i + 1))).map (· + (i + 1))) := Lib.hid (by
          rw [hn, hdr, endF_on (by rw [← hdr, ← hX]; exact hx)]
          cases endF (s.drop (i + 1)) with
          | none => rfl
          | some k => show some (k + 1 + i) = some (k + (i + 1)); congr 1; omega)
        clear hn hc hdr hX hx
        go_wp2
        exact ⟨⟨i + 1, by omega, by go_num, by trivial, HX.out⟩, by simp [intOf]; omega⟩
    · have g1 : decide ((i : Int) + 4 ≤ (L : Int)) = false := decide_eq_false (by omega)
      have HP : Hid (O = none) := Lib.hid (by rw [hn, endF_short _ (by rw [List.length_drop]; have := HL.out; omega)]; rfl)
      clear hn
      go_wp2
      go_ret
      exact ⟨by rw [HP.out]; rfl, rfl⟩
theorem num_no {n : Nat} {c : UInt8} {r : List UInt8} (h : ¬ (48 ≤ c.toNat ∧ c.toNat ≤ 57)) : numGo n (c :: r) = none := by rw [numGo, if_neg h]
theorem num_on {n : Nat} {c : UInt8} {r : List UInt8} (h : 48 ≤ c.toNat ∧ c.toNat ≤ 57) : numGo n (c :: r) = numGo (min (10 * n + (c.toNat - 48)) 5000) r := by rw [numGo, if_pos h]
theorem B_lss9 (t : TypeId) (x : UInt8) (k : Int) : binOp .lss t (B x) (.int .u8 k) = pure (.bool (decide ((x.toNat : Int) < k))) := rfl
theorem B_gtr9 (t : TypeId) (x : UInt8) (k : Int) : binOp .gtr t (B x) (.int .u8 k) = pure (.bool (decide (k < (x.toNat : Int)))) := rfl
set_option maxRecDepth 100000 in
set_option maxHeartbeats 1000000 in
theorem dnumber_any (s : List UInt8) (hs : s.length ≤ 100000) (w : World) : Calls Tryz.prog 54 #[S s] w fun e w' => e = .returned (optV (numF s)) ∧ w' = w := by
  have hlen := run_len_S (P := Tryz.prog) Tryz.underlying9 3 s
  by_cases h0 : s.length = 0
  · have g0 : ((s.length : Int) == 0) = true := by rw [beq_iff_eq]; omega
    have HP : Hid (numF s = none) := Lib.hid (by rw [List.length_eq_zero_iff.1 h0]; rfl)
    clear h0
    go_enter Tryz.func54, Tryz.ntmps54
    go_wp2
    go_ret
    exact ⟨by rw [HP.out]; rfl, rfl⟩
  have g0 : ((s.length : Int) == 0) = false := by rw [beq_eq_false_iff_ne]; omega
  obtain ⟨L, hL⟩ : ∃ L, L = s.length := ⟨_, rfl⟩
  rw [← hL] at hlen hs g0 h0
  have HL := Lib.hid hL
  clear hL
  obtain ⟨O, hO⟩ : ∃ O, O = numF s := ⟨_, rfl⟩
  rw [← hO]
  have hO2 : O = numGo 0 s := by rw [hO]; unfold numF; rw [if_neg (by intro e; rw [e] at HL; exact h0 HL.out)]
  have h0' : decide (L = 0) = false := decide_eq_false h0
  clear hO h0
  go_enter Tryz.func54, Tryz.ntmps54
  go_wp2
  go_loopw [3, 4] (fun nv iv wr => ∃ n i : Nat, i ≤ L ∧ n ≤ 5000 ∧ nv = .int .i64 (n : Int) ∧ iv = .int .i64 (i : Int) ∧ wr = w ∧ O = numGo n (s.drop i)) (fun _ iv _ => L - (intOf iv).toNat)
  case atStart => exact ⟨0, 0, Nat.zero_le _, Nat.zero_le _, rfl, rfl, rfl, by rw [List.drop_zero]; exact hO2⟩
  case round =>
    obtain ⟨n, i, hi, hn5, rfl, rfl, hwr, hn⟩ := hrel
    subst hwr
    clear hO2
    have hw1 : IntKind.i64.wrap ((i : Int) + 1) = (i : Int) + 1 := by rw [IntKind.wrap_i64]; omega
    by_cases hlt : i < L
    · obtain ⟨c, hc⟩ : ∃ c, s[i]? = some c := ⟨s[i]'(by have := HL.out; omega), List.getElem?_eq_getElem _⟩
      have hidx : ∀ w, (Instr.index 9 (S s) (.int .i64 (i : Int))).run Tryz.prog w = .ok (B c) w := fun w => index_S (P := Tryz.prog) Tryz.underlying9 s i c hc w
      have hdr : s.drop i = c :: s.drop (i + 1) := by
        rw [List.drop_eq_getElem_cons (by rw [← HL.out]; exact hlt), (List.getElem?_eq_some_iff.1 hc).2]
      rw [hdr] at hn
      have q1 := B_lss9 5 c 48
      have q2 := B_gtr9 5 c 57
      rcases (by omega : c.toNat < 48 ∨ (48 ≤ c.toNat ∧ c.toNat ≤ 57) ∨ 57 < c.toNat) with a | a | a
      · have HP : Hid (O = none) := Lib.hid (by rw [hn, num_no (by omega)])
        rw [decide_eq_true (by omega)] at q1
        clear hn hc hdr a q2
        go_wp2
        go_ret
        exact ⟨by rw [HP.out]; rfl, rfl⟩
      · rw [decide_eq_false (by omega)] at q1 q2
        rw [num_on a] at hn
        have c0 : ∀ w, (convert 5 3 (B c)).run Tryz.prog w = .ok (.int .i64 (c.toNat : Int)) w := fun w => conv_byte (P := Tryz.prog) Tryz.underlying5 Tryz.underlying3 c w
        obtain ⟨y, hy⟩ : ∃ y : Nat, y = c.toNat := ⟨_, rfl⟩
        rw [← hy] at c0 hn a
        have hw2 : IntKind.i64.wrap (10 * (n : Int)) = 10 * (n : Int) := by rw [IntKind.wrap_i64]; omega
        have hw3 : IntKind.i64.wrap (10 * (n : Int) + (y : Int)) = 10 * (n : Int) + (y : Int) := by rw [IntKind.wrap_i64]; omega
        obtain ⟨z, hz⟩ : ∃ z : Nat, z = 10 * n + (y - 48) := ⟨_, rfl⟩
        have hw5 : IntKind.i64.wrap (10 * (n : Int) + (y : Int) - 48) = (z : Int) := by rw [IntKind.wrap_i64]; omega
        rw [← hz] at hn
        by_cases h5 : 5000 < z
        · have g5 : decide ((5000 : Int) < (z : Int)) = true := decide_eq_true (by omega)
          have HX : Hid (O = numGo 5000 (s.drop (i + 1))) := Lib.hid (by rw [hn, Nat.min_eq_right (by omega)])
          clear hn hc hdr hy hz a
          go_wp2
          exact ⟨⟨5000, i + 1, by omega, Nat.le_refl _, rfl, by go_num, by trivial, HX.out⟩, by simp [intOf]; omega⟩
        · have g5 : decide ((5000 : Int) < (z : Int)) = false := decide_eq_false (by omega)
          have HX : Hid (O = numGo z (s.drop (i + 1))) := Lib.hid (by rw [hn, Nat.min_eq_left (by omega)])
          clear hn hc hdr hy hz a
          go_wp2
          exact ⟨⟨z, i + 1, by omega, by omega, rfl, by go_num, by trivial, HX.out⟩, by simp [intOf]; omega⟩
      · have HP : Hid (O = none) := Lib.hid (by rw [hn, num_no (by omega)])
        rw [decide_eq_false (by omega)] at q1
        rw [decide_eq_true (by omega)] at q2
        clear hn hc hdr a
        go_wp2
        go_ret
        exact ⟨by rw [HP.out]; rfl, rfl⟩
    · obtain rfl : i = L := by omega
      have HP : Hid (O = some n) := Lib.hid (by rw [hn, List.drop_of_length_le (by rw [← HL.out]; exact Nat.le_refl _), numGo])
      clear hn
      go_wp2
      go_ret
      exact ⟨by rw [HP.out]; rfl, rfl⟩
end Go.Proofs.YtplajlccnnbifaaGreatDoor
