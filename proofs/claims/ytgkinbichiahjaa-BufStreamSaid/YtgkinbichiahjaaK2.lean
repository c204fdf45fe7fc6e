/- New, Len, Room and Peek walked. -/
import Derived.Test.YtgkinbichiahjaaK1
namespace Go.Proofs.Ytgkinbichiahjaa
open Go.RowKit
attribute [local go_sem] store_one S_match S_store

theorem BufAt.drawn {w w' : World} {g : Nat} {A : Nat → Prop} {mk : Bool} {m : Nat} {x : List UInt8} (h : BufAt w g A mk m x) (hd : Drawn w w') : BufAt w' g A mk m x := by
  obtain ⟨n, rfl⟩ := hd
  obtain ⟨⟨v, pre, hr, ha, hp⟩, h1, h2, h3⟩ := h
  exact ⟨⟨v, pre, hr, ha, hp⟩, h1, h2, h3⟩
theorem BufAt.max {w : World} {g : Nat} {A : Nat → Prop} {mk : Bool} {m : Nat} {x : List UInt8} (h : BufAt w g A mk m x) : w.cell? ⟨g, 1, none⟩ = some (.int .i64 (m : Int)) := by
  obtain ⟨⟨v, pre, hr, _⟩, _, _, _⟩ := h
  exact cell_of_row w _ 1 _ 40 (0, 0) hr.1
theorem BufAt.made {w : World} {g : Nat} {A : Nat → Prop} {mk : Bool} {m : Nat} {x : List UInt8} (h : BufAt w g A mk m x) : w.cell? ⟨g, 0, none⟩ = some (.bool mk) := by
  obtain ⟨⟨v, pre, hr, _⟩, _, _, _⟩ := h
  exact cell_of_row w _ 0 _ 40 (0, 0) hr.1

set_option maxRecDepth 100000 in
set_option maxHeartbeats 400000 in
theorem len_any (g : Nat) (A : Nat → Prop) (mk : Bool) (m : Nat) (x : List UInt8) (w : World) (h : BufAt w g A mk m x) :
    Calls Try.prog 20 #[.pointer (some ⟨g, 0, none⟩)] w fun e w' => e = .returned (.int .i64 (x.length : Int)) ∧ Drawn w w' := by
  obtain ⟨⟨v, pre, hl, _⟩, _⟩ := h
  exact len_loose g mk m v pre x w hl

set_option maxRecDepth 100000 in
set_option maxHeartbeats 400000 in
theorem room_any (g : Nat) (A : Nat → Prop) (mk : Bool) (m : Nat) (x : List UInt8) (w : World) (h : BufAt w g A mk m x) :
    Calls Try.prog 13 #[.pointer (some ⟨g, 0, none⟩)] w fun e w' => e = .returned (.int .i64 ((m - x.length : Nat) : Int)) ∧ Drawn w w' := by
  have c1 := h.max
  have hm := h.most
  have hx := h.fits
  have HH := Lib.hid h
  have hw : IntKind.i64.wrap ((m : Int) - (x.length : Int)) = ((m - x.length : Nat) : Int) := by rw [IntKind.wrap_i64]; omega
  clear h hm hx
  go_enter Try.func13, Try.ntmps13
  go_wp2
  go_quiet (first | (go_at_call 20; exact Calls.quiet_of (len_any g A mk m x _ (HH.out.drawn ⟨_, rfl⟩))))
  go_wp2
  go_ret
  exact ⟨rfl, ⟨_, rfl⟩⟩

set_option maxRecDepth 100000 in
set_option maxHeartbeats 400000 in
theorem peek_any (g : Nat) (A : Nat → Prop) (mk : Bool) (m : Nat) (x : List UInt8) (n : Int) (w : World) (h : BufAt w g A mk m x) :
    Calls Try.prog 17 #[.pointer (some ⟨g, 0, none⟩), .int .i64 n] w fun e w' => e = .returned (S (peekF x n)) ∧ Drawn w w' := by
  obtain ⟨k, hk, hkx, hP⟩ : ∃ k : Nat, (if (if (x.length : Int) < n then (x.length : Int) else n) > 0 then (if (x.length : Int) < n then (x.length : Int) else n) else 0) = (k : Int) ∧ k ≤ x.length ∧ peekF x n = x.take k := by
    by_cases h1 : n < 1
    · exact ⟨0, by split <;> split <;> omega, Nat.zero_le _, by rw [peekF, if_pos h1, List.take_zero]⟩
    · by_cases h2 : (x.length : Int) < n
      · refine ⟨x.length, by split <;> split <;> omega, Nat.le_refl _, by rw [peekF, if_neg h1, List.take_of_length_le (by omega), List.take_of_length_le (Nat.le_refl _)]⟩
      · refine ⟨n.toNat, by split <;> split <;> omega, by omega, by rw [peekF, if_neg h1]⟩
  rw [hP]
  have hmx : ∀ w, (Builtin.max_ #[3, 3] 3 #[.int .i64 0, .int .i64 (if (x.length : Int) < n then (x.length : Int) else n)]).run Try.prog w = .ok (.int .i64 (k : Int)) w := fun w => by
    rw [run_max_int2, hk]
  have hmn : ∃ r, r = (if (x.length : Int) < n then (x.length : Int) else n) := ⟨_, rfl⟩
  obtain ⟨r, hr⟩ := hmn
  rw [← hr] at hmx
  have hmi : ∀ w, (Builtin.min_ #[3, 3] 3 #[.int .i64 n, .int .i64 (x.length : Int)]).run Try.prog w = .ok (.int .i64 r) w := fun w => by
    rw [run_min_int2, hr]
  clear hr hk hP
  go_enter Try.func17, Try.ntmps17
  go_wp2_with fail
  refine (waiting_any g A mk m x w h).mono ?_
  rintro e W1 ⟨V, rfl, hV, hD⟩
  have hl := hV.len 3
  obtain ⟨V', hs, hc⟩ := hV.take k hkx
  have hc1 := hc W1 hD
  have HD := Lib.hid hD
  clear hV hc hD
  go_wp2
  go_ret
  exact ⟨rfl, HD.out⟩
end Go.Proofs.Ytgkinbichiahjaa
