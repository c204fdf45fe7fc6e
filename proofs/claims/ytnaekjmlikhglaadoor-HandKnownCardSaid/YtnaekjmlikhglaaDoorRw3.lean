/- The landed field.Alike walked. (mkrw3.py writes it.) -/
import Derived.Test.YtnaekjmlikhglaaDoorQg
namespace Go.Proofs.YtnaekjmlikhglaaDoor
open Go.RowKit
attribute [local go_sem] store_one S_match S_store eguard_BN nguard_BN

set_option maxRecDepth 100000 in
set_option maxHeartbeats 400000 in
theorem small_any (c : UInt8) (w : World) : Calls Tryd.prog 56 #[B c] w fun e w' => e = .returned (B (lowB c)) ∧ w' = w := by
  have h1 := B_geq 5 c 65
  have h2 := B_leq 5 c 90
  by_cases ha : 65 ≤ c.toNat
  · by_cases hb : c.toNat ≤ 90
    · have hl : lowB c = c + 32 := by unfold lowB; rw [if_pos ⟨ha, hb⟩]
      have h3 := B_sub65 5 c ha
      have h4 := add97 5 c ha hb
      rw [decide_eq_true (by omega)] at h1 h2
      rw [hl]
      generalize hz : (c.toNat : Int) - 65 = z at h3 h4
      clear hl ha hb hz
      go_enter Tryd.func56, Tryd.ntmps56
      go_wp2
      go_ret
      exact ⟨rfl, rfl⟩
    · have hl : lowB c = c := by unfold lowB; rw [if_neg (fun h => hb h.2)]
      rw [decide_eq_true (by omega)] at h1
      rw [decide_eq_false (by omega)] at h2
      rw [hl]
      clear hl ha hb
      go_enter Tryd.func56, Tryd.ntmps56
      go_wp2
      go_ret
      exact ⟨rfl, rfl⟩
  · have hl : lowB c = c := by unfold lowB; rw [if_neg (fun h => ha h.1)]
    rw [decide_eq_false (by omega)] at h1
    rw [hl]
    clear hl ha h2
    go_enter Tryd.func56, Tryd.ntmps56
    go_wp2
    go_ret
    exact ⟨rfl, rfl⟩
set_option maxRecDepth 100000 in
set_option maxHeartbeats 400000 in
theorem alike16_any (a b : List UInt8) (ha : a.length ≤ 100000) (_hb : b.length ≤ 100000) (w : World) : Calls Tryd.prog 46 #[S a, S b] w fun e w' => e = .returned (.bool (alikeF a b)) ∧ Drawn w w' := by
  have hla := run_len_S (P := Tryd.prog) Tryd.underlying9 3 a
  have hlb := run_len_S (P := Tryd.prog) Tryd.underlying9 3 b
  have HC : Hid (∀ z w, Calls Tryd.prog 56 #[B z] w fun e w' => e = .returned (.int .u8 ((lowB z).toNat : Int)) ∧ Drawn w w') := Lib.hid fun z w => (small_any z w).mono (by rintro e w' ⟨he, rfl⟩; exact ⟨he, Drawn.refl _⟩)
  by_cases hne : a.length = b.length
  · have hq : ((a.length : Int) != (b.length : Int)) = false := by rw [hne]; simp
    have hq' : (a.length != b.length) = false := by rw [hne]; simp
    obtain ⟨L, hL⟩ : ∃ L, L = a.length := ⟨_, rfl⟩
    rw [← hne, ← hL] at hlb
    rw [← hL] at hla
    have HL := Lib.hid (And.intro hL hne)
    rw [← hL] at ha
    clear hq hq' hL hne
    have hq : ((L : Int) != (L : Int)) = false := by simp
    go_enter Tryd.func46, Tryd.ntmps46
    go_wp2
    go_loopw [13] (fun iv wr => ∃ i : Nat, i ≤ L ∧ iv = .int .i64 (i : Int) ∧ Drawn w wr ∧ (a.take i).map lowB = (b.take i).map lowB) (fun iv _ => L - (intOf iv).toNat)
    case atStart => exact ⟨0, Nat.zero_le _, rfl, Drawn.refl _, rfl⟩
    case round =>
      obtain ⟨i, hi, rfl, hD, hm⟩ := hrel
      by_cases hlt : i < L
      · obtain ⟨x, hx⟩ : ∃ x, a[i]? = some x := ⟨a[i]'(by have := HL.out.1; omega), List.getElem?_eq_getElem _⟩
        obtain ⟨y, hy⟩ : ∃ y, b[i]? = some y := ⟨b[i]'(by have := HL.out; omega), List.getElem?_eq_getElem _⟩
        have hix : ∀ w, (Instr.index 9 (S a) (.int .i64 (i : Int))).run Tryd.prog w = .ok (B x) w := fun w => index_S (P := Tryd.prog) Tryd.underlying9 a i x hx w
        have hiy : ∀ w, (Instr.index 9 (S b) (.int .i64 (i : Int))).run Tryd.prog w = .ok (B y) w := fun w => index_S (P := Tryd.prog) Tryd.underlying9 b i y hy w
        have hn := neqN (lowB x) (lowB y)
        by_cases he : lowB x = lowB y
        · have HN := Lib.hid (And.intro hD (map_take_next hx hy hm he))
          rw [beq_iff_eq.2 he, Bool.not_true] at hn
          clear hD hm hx hy he
          go_wp2
          go_quiet (first | (go_at_call 56; exact Calls.quiet_of (HC.out _ _)))
          go_wp2
          exact ⟨⟨i + 1, by omega, by go_num, HN.out.1.trans ⟨_, rfl⟩, HN.out.2⟩, by simp [intOf]; omega⟩
        · have HN := Lib.hid (And.intro hD (alike_stop hx hy he))
          rw [beq_eq_false_iff_ne.2 he, Bool.not_false] at hn
          clear hD hm hx hy he
          go_wp2
          go_quiet (first | (go_at_call 56; exact Calls.quiet_of (HC.out _ _)))
          go_wp2
          go_ret
          exact ⟨by rw [HN.out.2]; rfl, HN.out.1.trans ⟨_, rfl⟩⟩
      · obtain rfl : i = L := by omega
        have HN : Hid (Drawn w wr ∧ alikeF a b = true) := Lib.hid ⟨hD, by
          rw [List.take_of_length_le (by have := HL.out.1; omega), List.take_of_length_le (by have := HL.out; omega)] at hm
          unfold alikeF; rw [hm]; simp⟩
        clear hm hD
        go_wp2
        go_ret
        exact ⟨by rw [HN.out.2]; rfl, HN.out.1⟩
  · have hq : ((a.length : Int) != (b.length : Int)) = true := by rw [bne_iff_ne]; omega
    have hq' : (a.length != b.length) = true := by rw [bne_iff_ne]; exact hne
    have HN := Lib.hid (alike_len hne)
    clear hne
    go_enter Tryd.func46, Tryd.ntmps46
    go_wp2
    go_ret
    exact ⟨by rw [HN.out]; rfl, Drawn.refl _⟩
end Go.Proofs.YtnaekjmlikhglaaDoor
