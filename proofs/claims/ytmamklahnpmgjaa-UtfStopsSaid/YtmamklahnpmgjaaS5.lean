/- The walks of the document's Rune and Runes. -/
import Derived.Test.YtmamklahnpmgjaaS4
namespace Go.Proofs.Ytmamklahnpmgjaa
open Go.RowKit

/-- The lowest bits of those behind, one behind the other. -/
def low (x : Nat) (t : List UInt8) : Nat := t.foldl (fun x c => 64 * x + c.toNat % 64) x
theorem low_snoc (x : Nat) (t : List UInt8) (c : UInt8) : low x (t ++ [c]) = 64 * low x t + c.toNat % 64 := by simp [low]
theorem low_lt : ∀ (t : List UInt8) (x : Nat), low x t < (x + 1) * 64 ^ t.length
  | [], x => by simp [low]
  | c :: t, x => by
    have ih := low_lt t (64 * x + c.toNat % 64)
    have : low x (c :: t) = low (64 * x + c.toNat % 64) t := rfl
    rw [this, List.length_cons, Nat.pow_succ]
    refine Nat.lt_of_lt_of_le ih ?_
    have h1 : 64 * x + c.toNat % 64 + 1 ≤ (x + 1) * 64 := by omega
    calc (64 * x + c.toNat % 64 + 1) * 64 ^ t.length ≤ (x + 1) * 64 * 64 ^ t.length := Nat.mul_le_mul_right _ h1
      _ = (x + 1) * (64 ^ t.length * 64) := by rw [Nat.mul_assoc, Nat.mul_comm 64]
/-- The lowest bits of the first byte of so many. -/
def first (n x : Nat) : Nat := if n = 1 then x else if n = 2 then x % 32 else if n = 3 then x % 16 else x % 8
/-- A character's number. -/
def runeN : List UInt8 → Nat
  | [] => 0
  | a :: t => low (first (t.length + 1) a.toNat) t
theorem first_le (n x : Nat) (h : x < 256) : first n x < 256 := by unfold first; split <;> (try split) <;> (try split) <;> omega

theorem conv5 (b : UInt8) (w : World) : (convert 5 3 (B b)).run Try.prog w = .ok (.int .i64 (b.toNat : Int)) w := conv_byte Try.underlying5 Try.underlying3 b w
attribute [local go_sem] store_one B_match B_store conv5

theorem low_small (x : Nat) (t : List UInt8) (k : Nat) (hx : x < 256) (ht : t.length ≤ 3) : low x (t.take k) < 67108864 := by
  have h1 := low_lt (t.take k) x
  have h2 : (t.take k).length ≤ 3 := by rw [List.length_take]; omega
  have h3 : (64 : Nat) ^ (t.take k).length ≤ 64 ^ 3 := Nat.pow_le_pow_right (by decide) h2
  have h4 : (x + 1) * 64 ^ (t.take k).length ≤ 256 * 64 ^ 3 := Nat.mul_le_mul (by omega) h3
  omega

set_option maxRecDepth 100000 in
set_option maxHeartbeats 4000000 in
theorem rune_any (a : UInt8) (t : List UInt8) (ht : t.length ≤ 3) (w : World) : Calls Try.prog 23 #[S (a :: t)] w fun e w' => e = .returned (.int .i64 (runeN (a :: t))) ∧ w = w' := by
  have hlenS := run_len_S (P := Try.prog) Try.underlying9 3 (a :: t)
  have hi0 : ∀ w, (Instr.index 9 (S (a :: t)) (.int .i64 0)).run Try.prog w = .ok (B a) w := fun w => index_S (P := Try.prog) Try.underlying9 (a :: t) 0 a rfl w
  have ha := a.toNat_lt
  have hgo : ∀ (c : Nat), (t.length + 1 = c) → 2 ≤ c → c ≤ 4 → Calls Try.prog 23 #[S (a :: t)] w fun e w' => e = .returned (.int .i64 (runeN (a :: t))) ∧ w = w' := by
    intro c hc h2 h4
    have hl : ∀ w, (Builtin.len_ #[9] 3 #[S (a :: t)]).run Try.prog w = .ok (.int .i64 (c : Int)) w := fun w => by
      have := hlenS w
      rw [List.length_cons, hc] at this
      exact this
    have HRN : Hid (runeN (a :: t) = low (first c a.toNat) t) := Lib.hid (by rw [runeN, hc])
    have hfl := first_le c a.toNat ha
    have hround : ∀ i, 1 ≤ i → i < c → ∃ d, (a :: t)[i]? = some d ∧ low (first c a.toNat) (t.take i) = 64 * low (first c a.toNat) (t.take (i - 1)) + d.toNat % 64 := by
      intro i h1 hi
      obtain ⟨j, rfl⟩ : ∃ j, i = j + 1 := ⟨i - 1, by omega⟩
      have hj : j < t.length := by omega
      refine ⟨t[j], ?_, ?_⟩
      · rw [List.getElem?_cons_succ, List.getElem?_eq_getElem hj]
      · rw [Nat.add_sub_cancel, List.take_add_one, List.getElem?_eq_getElem hj, Option.toList_some, low_snoc]
    have hsm := fun k => low_small (first c a.toNat) t k hfl ht
    have HX := Lib.hid (And.intro hround hsm)
    have HE : Hid (t.take (c - 1) = t) := Lib.hid (by rw [List.take_of_length_le (by omega)])
    clear hlenS hround hsm hc ht hfl
    have hc234 : c = 2 ∨ c = 3 ∨ c = 4 := by omega
    rcases hc234 with rfl | rfl | rfl
    · have hfe : first 2 a.toNat = a.toNat % 32 := rfl
      obtain ⟨x0, hx0⟩ : ∃ x0, x0 = a.toNat % 32 := ⟨_, rfl⟩
      have hmod : (a.toNat : Int) % 32 = (x0 : Int) := by omega
      rw [hfe, ← hx0] at HRN HX
      have HM := Lib.hid hmod
      clear hfe hx0 hmod
      rw [show (((2 : Nat)) : Int) = 2 from rfl] at hl
      go_enter Try.func23, Try.ntmps23
      go_wp2
      go_loop [3, 4] (fun xv iv => ∃ i : Nat, 1 ≤ i ∧ i ≤ 2 ∧ iv = .int .i64 i ∧ xv = .int .i64 (low x0 (t.take (i - 1)))) (fun _ iv => 2 - (intOf iv).toNat)
      case atStart => exact ⟨1, by omega, by omega, rfl, by rw [Nat.sub_self, List.take_zero, HM.out]; rfl⟩
      case round =>
        obtain ⟨i, h1, hi, rfl, rfl⟩ := hrel
        have hlow := HX.out.2 (i - 1)
        by_cases hlt : i < 2
        · obtain ⟨d, hd, hs⟩ := HX.out.1 i h1 hlt
          have hidx : ∀ w, (Instr.index 9 (S (a :: t)) (.int .i64 (i : Int))).run Try.prog w = .ok (B d) w := fun w => index_S (P := Try.prog) Try.underlying9 (a :: t) i d hd w
          have d8 := d.toNat_lt
          have HS := Lib.hid hs
          clear hd hs
          generalize low x0 (t.take (i - 1)) = x1 at *
          go_wp2
          go_round
          case rel => exact ⟨i + 1, by omega, by omega, by go_num, by rw [Nat.add_sub_cancel, HS.out]; congr 1⟩
          case measure => simp [intOf]; omega
        · obtain rfl : i = 2 := by omega
          have hEE : t.take (2 - 1) = t := HE.out
          rw [hEE]
          clear hEE
          rw [show (((2 : Nat)) : Int) = 2 from rfl]
          go_wp2
          go_ret
          exact ⟨by rw [HRN.out]; rfl, rfl⟩
    · have hfe : first 3 a.toNat = a.toNat % 16 := rfl
      obtain ⟨x0, hx0⟩ : ∃ x0, x0 = a.toNat % 16 := ⟨_, rfl⟩
      have hmod : (a.toNat : Int) % 16 = (x0 : Int) := by omega
      rw [hfe, ← hx0] at HRN HX
      have HM := Lib.hid hmod
      clear hfe hx0 hmod
      rw [show (((3 : Nat)) : Int) = 3 from rfl] at hl
      go_enter Try.func23, Try.ntmps23
      go_wp2
      go_loop [3, 4] (fun xv iv => ∃ i : Nat, 1 ≤ i ∧ i ≤ 3 ∧ iv = .int .i64 i ∧ xv = .int .i64 (low x0 (t.take (i - 1)))) (fun _ iv => 3 - (intOf iv).toNat)
      case atStart => exact ⟨1, by omega, by omega, rfl, by rw [Nat.sub_self, List.take_zero, HM.out]; rfl⟩
      case round =>
        obtain ⟨i, h1, hi, rfl, rfl⟩ := hrel
        have hlow := HX.out.2 (i - 1)
        by_cases hlt : i < 3
        · obtain ⟨d, hd, hs⟩ := HX.out.1 i h1 hlt
          have hidx : ∀ w, (Instr.index 9 (S (a :: t)) (.int .i64 (i : Int))).run Try.prog w = .ok (B d) w := fun w => index_S (P := Try.prog) Try.underlying9 (a :: t) i d hd w
          have d8 := d.toNat_lt
          have HS := Lib.hid hs
          clear hd hs
          generalize low x0 (t.take (i - 1)) = x1 at *
          go_wp2
          go_round
          case rel => exact ⟨i + 1, by omega, by omega, by go_num, by rw [Nat.add_sub_cancel, HS.out]; congr 1⟩
          case measure => simp [intOf]; omega
        · obtain rfl : i = 3 := by omega
          have hEE : t.take (3 - 1) = t := HE.out
          rw [hEE]
          clear hEE
          rw [show (((3 : Nat)) : Int) = 3 from rfl]
          go_wp2
          go_ret
          exact ⟨by rw [HRN.out]; rfl, rfl⟩
    · have hfe : first 4 a.toNat = a.toNat % 8 := rfl
      obtain ⟨x0, hx0⟩ : ∃ x0, x0 = a.toNat % 8 := ⟨_, rfl⟩
      have hmod : (a.toNat : Int) % 8 = (x0 : Int) := by omega
      rw [hfe, ← hx0] at HRN HX
      have HM := Lib.hid hmod
      clear hfe hx0 hmod
      rw [show (((4 : Nat)) : Int) = 4 from rfl] at hl
      go_enter Try.func23, Try.ntmps23
      go_wp2
      go_loop [3, 4] (fun xv iv => ∃ i : Nat, 1 ≤ i ∧ i ≤ 4 ∧ iv = .int .i64 i ∧ xv = .int .i64 (low x0 (t.take (i - 1)))) (fun _ iv => 4 - (intOf iv).toNat)
      case atStart => exact ⟨1, by omega, by omega, rfl, by rw [Nat.sub_self, List.take_zero, HM.out]; rfl⟩
      case round =>
        obtain ⟨i, h1, hi, rfl, rfl⟩ := hrel
        have hlow := HX.out.2 (i - 1)
        by_cases hlt : i < 4
        · obtain ⟨d, hd, hs⟩ := HX.out.1 i h1 hlt
          have hidx : ∀ w, (Instr.index 9 (S (a :: t)) (.int .i64 (i : Int))).run Try.prog w = .ok (B d) w := fun w => index_S (P := Try.prog) Try.underlying9 (a :: t) i d hd w
          have d8 := d.toNat_lt
          have HS := Lib.hid hs
          clear hd hs
          generalize low x0 (t.take (i - 1)) = x1 at *
          go_wp2
          go_round
          case rel => exact ⟨i + 1, by omega, by omega, by go_num, by rw [Nat.add_sub_cancel, HS.out]; congr 1⟩
          case measure => simp [intOf]; omega
        · obtain rfl : i = 4 := by omega
          have hEE : t.take (4 - 1) = t := HE.out
          rw [hEE]
          clear hEE
          rw [show (((4 : Nat)) : Int) = 4 from rfl]
          go_wp2
          go_ret
          exact ⟨by rw [HRN.out]; rfl, rfl⟩
  rcases Nat.eq_zero_or_pos t.length with h | h
  · obtain rfl : t = [] := List.eq_nil_of_length_eq_zero h
    clear hgo h ht
    go_enter Try.func23, Try.ntmps23
    go_wp2
    go_ret
    exact ⟨rfl, rfl⟩
  · exact hgo (t.length + 1) rfl (by omega) (by omega)
end Go.Proofs.Ytmamklahnpmgjaa
