/- The walk of the package's number. -/
import Derived.Test.YtmamklahnpmgjaaS5
import Derived.Test.YtmamklahnpmgjaaW4
import Derived.Test.YtmamklahnpmgjaaGen3
namespace Go.Proofs.Ytmamklahnpmgjaa
open Go.RowKit

theorem wraps_i32 (n : Int) (h₀ : 0 ≤ n) (h₁ : n < 2 ^ 30) : IntKind.i32.wrap n = n := by rw [IntKind.wrap_i32]; omega
theorem wraps_u8 (n : Int) (h₀ : 0 ≤ n) (h₁ : n < 2 ^ 8) : IntKind.u8.wrap n = n := by rw [IntKind.wrap_u8]; omega
theorem conv21 (b : UInt8) (w : World) : (convert 5 21 (B b)).run Try.prog w = .ok (.int .i32 (b.toNat : Int)) w := by
  have := b.toNat_lt
  have e : IntKind.i32.wrap (b.toNat : Int) = (b.toNat : Int) := by rw [IntKind.wrap_i32]; omega
  simp [convert, B, run_underlying Try.underlying5, run_underlying Try.underlying21, e, go_sem]
theorem B_and31 (t : TypeId) (a : UInt8) : binOp .and t (B a) (.int .u8 31) = pure (.int .u8 ((a.toNat % 32 : Nat) : Int)) := by
  have := a.toNat_lt
  have e : bits .and .u8 (a.toNat : Int) 31 = (a.toNat : Int) % 32 := bits_mask .u8 8 (by decide) wraps_u8 5 (by decide) (a.toNat : Int) (by omega) (by omega)
  simp [B, binOp, e, go_sem]
theorem B_and15 (t : TypeId) (a : UInt8) : binOp .and t (B a) (.int .u8 15) = pure (.int .u8 ((a.toNat % 16 : Nat) : Int)) := by
  have := a.toNat_lt
  have e : bits .and .u8 (a.toNat : Int) 15 = (a.toNat : Int) % 16 := bits_mask .u8 8 (by decide) wraps_u8 4 (by decide) (a.toNat : Int) (by omega) (by omega)
  simp [B, binOp, e, go_sem]
theorem B_and7 (t : TypeId) (a : UInt8) : binOp .and t (B a) (.int .u8 7) = pure (.int .u8 ((a.toNat % 8 : Nat) : Int)) := by
  have := a.toNat_lt
  have e : bits .and .u8 (a.toNat : Int) 7 = (a.toNat : Int) % 8 := bits_mask .u8 8 (by decide) wraps_u8 3 (by decide) (a.toNat : Int) (by omega) (by omega)
  simp [B, binOp, e, go_sem]
theorem B_and63 (t : TypeId) (a : UInt8) : binOp .and t (B a) (.int .u8 63) = pure (.int .u8 ((a.toNat % 64 : Nat) : Int)) := by
  have := a.toNat_lt
  have e : bits .and .u8 (a.toNat : Int) 63 = (a.toNat : Int) % 64 := bits_mask .u8 8 (by decide) wraps_u8 6 (by decide) (a.toNat : Int) (by omega) (by omega)
  simp [B, binOp, e, go_sem]
attribute [local go_sem] store_one conv21
set_option maxRecDepth 100000 in
set_option maxHeartbeats 4000000 in
theorem number_any (a : UInt8) (t : List UInt8) (ht : t.length ≤ 3) (w : World) : Calls Try.prog 25 #[S (a :: t)] w fun e w' => e = .returned (.int .i32 (runeN (a :: t))) ∧ Drawn w w' := by
  have hlenS := run_len_S (P := Try.prog) Try.underlying9 3 (a :: t)
  have hi0 : ∀ w, (Instr.index 9 (S (a :: t)) (.int .i64 0)).run Try.prog w = .ok (B a) w := fun w => index_S (P := Try.prog) Try.underlying9 (a :: t) 0 a rfl w
  have ha := a.toNat_lt
  have hgo : ∀ (c : Nat), (t.length + 1 = c) → 2 ≤ c → c ≤ 4 → Calls Try.prog 25 #[S (a :: t)] w fun e w' => e = .returned (.int .i32 (runeN (a :: t))) ∧ Drawn w w' := by
    intro c hc h2 h4
    have hl : ∀ w, (Builtin.len_ #[9] 3 #[S (a :: t)]).run Try.prog w = .ok (.int .i64 (c : Int)) w := fun w => by
      have := hlenS w
      rw [List.length_cons, hc] at this
      exact this
    have HRN : Hid (runeN (a :: t) = low (first c a.toNat) t) := Lib.hid (by rw [runeN, hc])
    have hfl := first_le c a.toNat ha
    have hround : ∀ i, 1 ≤ i → i < c → ∃ d, (a :: t)[i]? = some d ∧ low (first c a.toNat) (t.take i) = 64 * low (first c a.toNat) (t.take (i - 1)) + d.toNat % 64 := by
      intro i h1 hi
      obtain ⟨j, rfl⟩ : ∃ j, i = j + 1 := ⟨i - 1, by omega⟩
      have hj : j < t.length := by omega
      refine ⟨t[j], ?_, ?_⟩
      · rw [List.getElem?_cons_succ, List.getElem?_eq_getElem hj]
      · rw [Nat.add_sub_cancel, List.take_add_one, List.getElem?_eq_getElem hj, Option.toList_some, low_snoc]
    have hsm := fun k => low_small (first c a.toNat) t k hfl ht
    have HX := Lib.hid (And.intro hround hsm)
    have HE : Hid (t.take (c - 1) = t) := Lib.hid (by rw [List.take_of_length_le (by omega)])
    clear hlenS hround hsm hc ht hfl
    have hc234 : c = 2 ∨ c = 3 ∨ c = 4 := by omega
    rcases hc234 with rfl | rfl | rfl
    · have hand := B_and31 5 a
      have hx0 : a.toNat % 32 < 32 := by omega
      have hfe : first 2 a.toNat = a.toNat % 32 := rfl
      rw [hfe] at HRN HX
      clear hfe
      generalize a.toNat % 32 = x0 at *
      rw [show (((2 : Nat)) : Int) = 2 from rfl] at hl
      go_enter Try.func25, Try.ntmps25
      go_wp2
      go_quiet (fail)
      clear hand
      go_wp2
      go_loopw [3, 4] (fun xv iv wr => ∃ i : Nat, 1 ≤ i ∧ i ≤ 2 ∧ iv = .int .i64 i ∧ xv = .int .i32 (low x0 (t.take (i - 1))) ∧ Drawn w wr) (fun _ iv _ => 2 - (intOf iv).toNat)
      case atStart => exact ⟨1, by omega, by omega, rfl, by rw [Nat.sub_self, List.take_zero]; rfl, ⟨nq, rfl⟩⟩
      case round =>
        obtain ⟨i, h1, hi, rfl, rfl, hB⟩ := hrel
        have HB := Lib.hid hB
        clear hB
        by_cases hlt : i < 2
        · obtain ⟨d, hd, hs⟩ := HX.out.1 i h1 hlt
          have hidx : ∀ w, (Instr.index 9 (S (a :: t)) (.int .i64 (i : Int))).run Try.prog w = .ok (B d) w := fun w => index_S (P := Try.prog) Try.underlying9 (a :: t) i d hd w
          have hand := B_and63 5 d
          have hd6 : d.toNat % 64 < 64 := by omega
          have hlow := HX.out.2 i
          have HS := Lib.hid hs
          rw [hs] at hlow
          clear hd hs
          generalize low x0 (t.take (i - 1)) = x1 at *
          generalize d.toNat % 64 = y at *
          have hor : bits .or .i32 (64 * (x1 : Int)) (y : Int) = 64 * (x1 : Int) + (y : Int) := bits_join .i32 30 (by decide) wraps_i32 6 _ _ (by omega) (by omega) (by omega) (by omega) (by omega) (by omega)
          go_wp2
          exact ⟨⟨i + 1, by omega, by omega, by go_num, by rw [Nat.add_sub_cancel, HS.out, show (x1 : Int) * 64 + (y : Int) = ((64 * x1 + y : Nat) : Int) by omega], HB.out⟩, by simp [intOf]; omega⟩
        · obtain rfl : i = 2 := by omega
          have hEE : t.take (2 - 1) = t := HE.out
          rw [hEE]
          clear hEE
          rw [show (((2 : Nat)) : Int) = 2 from rfl]
          go_wp2
          go_ret
          exact ⟨by rw [HRN.out]; rfl, HB.out⟩
    · have hand := B_and15 5 a
      have hx0 : a.toNat % 16 < 16 := by omega
      have hfe : first 3 a.toNat = a.toNat % 16 := rfl
      rw [hfe] at HRN HX
      clear hfe
      generalize a.toNat % 16 = x0 at *
      rw [show (((3 : Nat)) : Int) = 3 from rfl] at hl
      go_enter Try.func25, Try.ntmps25
      go_wp2
      go_quiet (fail)
      clear hand
      go_wp2
      go_loopw [3, 4] (fun xv iv wr => ∃ i : Nat, 1 ≤ i ∧ i ≤ 3 ∧ iv = .int .i64 i ∧ xv = .int .i32 (low x0 (t.take (i - 1))) ∧ Drawn w wr) (fun _ iv _ => 3 - (intOf iv).toNat)
      case atStart => exact ⟨1, by omega, by omega, rfl, by rw [Nat.sub_self, List.take_zero]; rfl, ⟨nq, rfl⟩⟩
      case round =>
        obtain ⟨i, h1, hi, rfl, rfl, hB⟩ := hrel
        have HB := Lib.hid hB
        clear hB
        by_cases hlt : i < 3
        · obtain ⟨d, hd, hs⟩ := HX.out.1 i h1 hlt
          have hidx : ∀ w, (Instr.index 9 (S (a :: t)) (.int .i64 (i : Int))).run Try.prog w = .ok (B d) w := fun w => index_S (P := Try.prog) Try.underlying9 (a :: t) i d hd w
          have hand := B_and63 5 d
          have hd6 : d.toNat % 64 < 64 := by omega
          have hlow := HX.out.2 i
          have HS := Lib.hid hs
          rw [hs] at hlow
          clear hd hs
          generalize low x0 (t.take (i - 1)) = x1 at *
          generalize d.toNat % 64 = y at *
          have hor : bits .or .i32 (64 * (x1 : Int)) (y : Int) = 64 * (x1 : Int) + (y : Int) := bits_join .i32 30 (by decide) wraps_i32 6 _ _ (by omega) (by omega) (by omega) (by omega) (by omega) (by omega)
          go_wp2
          exact ⟨⟨i + 1, by omega, by omega, by go_num, by rw [Nat.add_sub_cancel, HS.out, show (x1 : Int) * 64 + (y : Int) = ((64 * x1 + y : Nat) : Int) by omega], HB.out⟩, by simp [intOf]; omega⟩
        · obtain rfl : i = 3 := by omega
          have hEE : t.take (3 - 1) = t := HE.out
          rw [hEE]
          clear hEE
          rw [show (((3 : Nat)) : Int) = 3 from rfl]
          go_wp2
          go_ret
          exact ⟨by rw [HRN.out]; rfl, HB.out⟩
    · have hand := B_and7 5 a
      have hx0 : a.toNat % 8 < 8 := by omega
      have hfe : first 4 a.toNat = a.toNat % 8 := rfl
      rw [hfe] at HRN HX
      clear hfe
      generalize a.toNat % 8 = x0 at *
      rw [show (((4 : Nat)) : Int) = 4 from rfl] at hl
      go_enter Try.func25, Try.ntmps25
      go_wp2
      go_quiet (fail)
      clear hand
      go_wp2
      go_loopw [3, 4] (fun xv iv wr => ∃ i : Nat, 1 ≤ i ∧ i ≤ 4 ∧ iv = .int .i64 i ∧ xv = .int .i32 (low x0 (t.take (i - 1))) ∧ Drawn w wr) (fun _ iv _ => 4 - (intOf iv).toNat)
      case atStart => exact ⟨1, by omega, by omega, rfl, by rw [Nat.sub_self, List.take_zero]; rfl, ⟨nq, rfl⟩⟩
      case round =>
        obtain ⟨i, h1, hi, rfl, rfl, hB⟩ := hrel
        have HB := Lib.hid hB
        clear hB
        by_cases hlt : i < 4
        · obtain ⟨d, hd, hs⟩ := HX.out.1 i h1 hlt
          have hidx : ∀ w, (Instr.index 9 (S (a :: t)) (.int .i64 (i : Int))).run Try.prog w = .ok (B d) w := fun w => index_S (P := Try.prog) Try.underlying9 (a :: t) i d hd w
          have hand := B_and63 5 d
          have hd6 : d.toNat % 64 < 64 := by omega
          have hlow := HX.out.2 i
          have HS := Lib.hid hs
          rw [hs] at hlow
          clear hd hs
          generalize low x0 (t.take (i - 1)) = x1 at *
          generalize d.toNat % 64 = y at *
          have hor : bits .or .i32 (64 * (x1 : Int)) (y : Int) = 64 * (x1 : Int) + (y : Int) := bits_join .i32 30 (by decide) wraps_i32 6 _ _ (by omega) (by omega) (by omega) (by omega) (by omega) (by omega)
          go_wp2
          exact ⟨⟨i + 1, by omega, by omega, by go_num, by rw [Nat.add_sub_cancel, HS.out, show (x1 : Int) * 64 + (y : Int) = ((64 * x1 + y : Nat) : Int) by omega], HB.out⟩, by simp [intOf]; omega⟩
        · obtain rfl : i = 4 := by omega
          have hEE : t.take (4 - 1) = t := HE.out
          rw [hEE]
          clear hEE
          rw [show (((4 : Nat)) : Int) = 4 from rfl]
          go_wp2
          go_ret
          exact ⟨by rw [HRN.out]; rfl, HB.out⟩
  rcases Nat.eq_zero_or_pos t.length with h | h
  · obtain rfl : t = [] := List.eq_nil_of_length_eq_zero h
    clear hgo h ht
    go_enter Try.func25, Try.ntmps25
    go_wp2
    go_ret
    exact ⟨rfl, Drawn.refl _⟩
  · exact hgo (t.length + 1) rfl (by omega) (by omega)
end Go.Proofs.Ytmamklahnpmgjaa
