/- The document's Size walked. (mkcd.py writes it.) -/
import Derived.Test.YtplajlccnnbifaaGreatDoorCd
namespace Go.Proofs.YtplajlccnnbifaaGreatDoor
open Go.RowKit
attribute [local go_sem] store_one S_match S_store eguard_BN nguard_BN
theorem pow8 {n x : Nat} (hn : n ≤ 8) (hx : x < 16 ^ n) : x < 4294967296 := Nat.lt_of_lt_of_le hx (Nat.pow_le_pow_right (n := 16) (by omega) hn)

set_option maxRecDepth 100000 in
set_option maxHeartbeats 1000000 in
theorem dsize_any (s : List UInt8) (hs : s.length ≤ 100000) (w : World) : Calls Tryz.prog 57 #[S s] w fun e w' => e = .returned (sizeV (sizeF s)) ∧ w' = w := by
  have hlen := run_len_S (P := Tryz.prog) Tryz.underlying9 3 s
  obtain ⟨L, hL⟩ : ∃ L, L = s.length := ⟨_, rfl⟩
  rw [← hL] at hlen hs
  have HL := Lib.hid hL
  clear hL
  obtain ⟨O, hO⟩ : ∃ O, O = sizeF s := ⟨_, rfl⟩
  rw [← hO]
  go_enter Tryz.func57, Tryz.ntmps57
  go_wp2
  go_loopw [3, 4] (fun nv xv wr => ∃ n x : Nat, n ≤ L ∧ n ≤ 8 ∧ x < 16 ^ n ∧ nv = .int .i64 (n : Int) ∧ xv = .int .i64 (x : Int) ∧ wr = w ∧ O = sizeGo n x (s.drop n)) (fun nv _ _ => L - (intOf nv).toNat)
  case atStart => exact ⟨0, 0, Nat.zero_le _, by omega, by omega, rfl, rfl, rfl, by rw [List.drop_zero]; exact hO⟩
  case round =>
    obtain ⟨n, x, hn1, hn8, hx, rfl, rfl, hwr, hn⟩ := hrel
    subst hwr
    clear hO
    have hx32 := pow8 hn8 hx
    have hw1 : IntKind.i64.wrap ((n : Int) + 1) = (n : Int) + 1 := by rw [IntKind.wrap_i64]; omega
    by_cases hlt : n < L
    · obtain ⟨c, hc⟩ : ∃ c, s[n]? = some c := ⟨s[n]'(by have := HL.out; omega), List.getElem?_eq_getElem _⟩
      have hidx : ∀ w, (Instr.index 9 (S s) (.int .i64 (n : Int))).run Tryz.prog w = .ok (B c) w := fun w => index_S (P := Tryz.prog) Tryz.underlying9 s n c hc w
      have hdr : s.drop n = c :: s.drop (n + 1) := by
        rw [List.drop_eq_getElem_cons (by rw [← HL.out]; exact hlt), (List.getElem?_eq_some_iff.1 hc).2]
      rw [hdr] at hn
      have q59 := B_neqN 5 c 59
      by_cases h59 : c = 59
      · rw [show ((c.toNat : Int) != 59) = false by rw [h59]; rfl] at q59
        rw [h59] at hn
        by_cases h0 : n = 0
        · have g0 : ((n : Int) == 0) = true := by rw [beq_iff_eq]; omega
          have HP : Hid (O = none) := Lib.hid (by rw [hn, h0, size_none x (.inr ⟨_, rfl⟩)])
          clear hn hc hdr h59 h0 hx
          go_wp2
          go_ret
          exact ⟨by rw [HP.out]; rfl, rfl⟩
        · have g0 : ((n : Int) == 0) = false := by rw [beq_eq_false_iff_ne]; omega
          have HB : Hid (O = if (s.drop (n + 1)).any badB = true then none else some x) := Lib.hid (by rw [hn, size_semi h0])
          clear hn hc hdr h59 hx
          go_wp2
          go_loopw [7] (fun iv wx => ∃ i : Nat, n + 1 ≤ i ∧ i ≤ L + 1 ∧ iv = .int .i64 (i : Int) ∧ wx = wr ∧ ((s.drop (n + 1)).take (i - (n + 1))).any badB = false) (fun iv _ => L + 1 - (intOf iv).toNat)
          case atStart => exact ⟨n + 1, Nat.le_refl _, by omega, by go_num, rfl, by simp⟩
          case round =>
            obtain ⟨i, hi1, hi2, rfl, hwx, hbd⟩ := hrel
            subst hwx
            by_cases hil : i < L
            · obtain ⟨d, hd⟩ : ∃ d, s[i]? = some d := ⟨s[i]'(by have := HL.out; omega), List.getElem?_eq_getElem _⟩
              obtain ⟨y, hy⟩ : ∃ y : Nat, y = d.toNat := ⟨_, rfl⟩
              have hidy : ∀ w, (Instr.index 9 (S s) (.int .i64 (i : Int))).run Tryz.prog w = .ok (.int .u8 (y : Int)) w := fun w => by
                rw [hy]; exact index_S (P := Tryz.prog) Tryz.underlying9 s i d hd w
              have hnx := any_drop_next hd hi1 hbd
              have hbf := bad_facts d
              rw [← hy] at hbf
              have hw9 : IntKind.i64.wrap ((i : Int) + 1) = (i : Int) + 1 := by rw [IntKind.wrap_i64]; omega
              clear hbd hd hy
              rcases hbf with ⟨h1, h2, h3⟩ | ⟨h1, h2, h3, h4, h5⟩ | ⟨h1, h2, h3, h4, h5, h6, h7⟩ | ⟨h1, h2, h3, h4, h5, h6, h7⟩
              · rw [h1] at hnx
                have HN := Lib.hid hnx
                clear hnx h1
                go_wp2
                exact ⟨⟨i + 1, by omega, by omega, by go_num, by trivial, HN.out⟩, by simp [intOf]; omega⟩
              · rw [h1] at hnx
                have HP : Hid (O = none) := Lib.hid (by rw [HB.out, if_pos (any_of_take hnx)])
                clear hnx h1
                go_wp2
                go_ret
                exact ⟨by rw [HP.out]; rfl, rfl⟩
              · rw [h1] at hnx
                have HP : Hid (O = none) := Lib.hid (by rw [HB.out, if_pos (any_of_take hnx)])
                clear hnx h1
                go_wp2
                go_ret
                exact ⟨by rw [HP.out]; rfl, rfl⟩
              · rw [h1] at hnx
                have HN := Lib.hid hnx
                clear hnx h1
                go_wp2
                exact ⟨⟨i + 1, by omega, by omega, by go_num, by trivial, HN.out⟩, by simp [intOf]; omega⟩
            · have HP : Hid (O = some x) := Lib.hid (by
                rw [List.take_of_length_le (by rw [List.length_drop]; have := HL.out; omega)] at hbd
                rw [HB.out, hbd, if_neg Bool.false_ne_true])
              clear hbd
              go_wp2
              go_ret
              exact ⟨by rw [HP.out]; rfl, rfl⟩
      · rw [show ((c.toNat : Int) != 59) = true by rw [bne_iff_ne]; intro e; exact h59 (UInt8.toNat_inj.1 (by rw [show (59 : UInt8).toNat = 59 from rfl]; omega))] at q59
        have h1 := B_geq 5 c 48
        have h2 := B_leq 5 c 57
        have h3 := B_geq 5 c 97
        have h4 := B_leq 5 c 102
        have h5 := B_geq 5 c 65
        have h6 := B_leq 5 c 70
        have c0 : ∀ w, (convert 5 3 (B c)).run Tryz.prog w = .ok (.int .i64 (c.toNat : Int)) w := fun w => conv_byte (P := Tryz.prog) Tryz.underlying5 Tryz.underlying3 c w
        obtain ⟨y, hy⟩ : ∃ y : Nat, y = c.toNat := ⟨_, rfl⟩
        rw [← hy] at c0
        have hE : hexN c = if 48 ≤ c.toNat ∧ c.toNat ≤ 57 then some (c.toNat - 48) else if 97 ≤ c.toNat ∧ c.toNat ≤ 102 then some (c.toNat - 87) else if 65 ≤ c.toNat ∧ c.toNat ≤ 70 then some (c.toNat - 55) else none := rfl
        rcases (by omega : c.toNat < 48 ∨ (48 ≤ c.toNat ∧ c.toNat ≤ 57) ∨ (57 < c.toNat ∧ c.toNat < 65) ∨ (65 ≤ c.toNat ∧ c.toNat ≤ 70) ∨ (70 < c.toNat ∧ c.toNat < 97) ∨ (97 ≤ c.toNat ∧ c.toNat ≤ 102) ∨ 102 < c.toNat) with a | a | a | a | a | a | a
        · rw [decide_eq_false (by omega)] at h1 h3 h5
          clear h2 h4 h6
          have hh : hexN c = none := by rw [hE, if_neg (by omega), if_neg (by omega), if_neg (by omega)]
          have HP : Hid (O = none) := Lib.hid (by rw [hn, size_no h59 (.inl hh)])
          clear hn hc hdr hx hE hh a hy c0 h59
          go_wp2
          go_ret
          exact ⟨by rw [HP.out]; rfl, rfl⟩
        · rw [decide_eq_true (by omega)] at h1 h2
          rw [decide_eq_false (by omega)] at h3 h5
          clear h4 h6
          obtain ⟨d, hd⟩ : ∃ d : Nat, d = c.toNat - 48 := ⟨_, rfl⟩
          have hh : hexN c = some d := by rw [hE, if_pos a, hd]
          have hw5 : IntKind.i64.wrap ((y : Int) - 48) = (d : Int) := by rw [IntKind.wrap_i64]; omega
          have gd : decide ((d : Int) < 0) = false := decide_eq_false (by omega)
          by_cases h8 : 8 ≤ n
          · have g8 : decide ((8 : Int) ≤ (n : Int)) = true := decide_eq_true (by omega)
            have HP : Hid (O = none) := Lib.hid (by rw [hn, size_no h59 (.inr h8)])
            clear hn hc hdr hx hE hh a hy h59 hd
            go_wp2
            go_ret
            exact ⟨by rw [HP.out]; rfl, rfl⟩
          · have g8 : decide ((8 : Int) ≤ (n : Int)) = false := decide_eq_false (by omega)
            have hd15 := hexN_le hh
            have HX : Hid (16 * x + d < 16 ^ (n + 1) ∧ O = sizeGo (n + 1) (16 * x + d) (s.drop (n + 1))) := Lib.hid ⟨by rw [Nat.pow_succ]; omega, by rw [hn, size_one h59 hh (by omega)]⟩
            have hw7 : IntKind.i64.wrap (16 * (x : Int)) = 16 * (x : Int) := by rw [IntKind.wrap_i64]; omega
            have hw8 : IntKind.i64.wrap (16 * (x : Int) + (d : Int)) = 16 * (x : Int) + (d : Int) := by rw [IntKind.wrap_i64]; omega
            clear hn hc hdr hx hE hh a hy h59 hd
            go_wp2
            exact ⟨⟨n + 1, 16 * x + d, by omega, by omega, HX.out.1, by go_num, by go_num, by trivial, HX.out.2⟩, by simp [intOf]; omega⟩
        · rw [decide_eq_true (by omega)] at h1
          rw [decide_eq_false (by omega)] at h2 h3 h5
          clear h4 h6
          have hh : hexN c = none := by rw [hE, if_neg (by omega), if_neg (by omega), if_neg (by omega)]
          have HP : Hid (O = none) := Lib.hid (by rw [hn, size_no h59 (.inl hh)])
          clear hn hc hdr hx hE hh a hy c0 h59
          go_wp2
          go_ret
          exact ⟨by rw [HP.out]; rfl, rfl⟩
        · rw [decide_eq_true (by omega)] at h1 h5 h6
          rw [decide_eq_false (by omega)] at h2 h3
          clear h4
          obtain ⟨d, hd⟩ : ∃ d : Nat, d = c.toNat - 55 := ⟨_, rfl⟩
          have hh : hexN c = some d := by rw [hE, if_neg (by omega), if_neg (by omega), if_pos a, hd]
          have hw5 : IntKind.i64.wrap ((y : Int) - 65) = (y : Int) - 65 := by rw [IntKind.wrap_i64]; omega
          have hw6 : IntKind.i64.wrap ((y : Int) - 65 + 10) = (d : Int) := by rw [IntKind.wrap_i64]; omega
          have gd : decide ((d : Int) < 0) = false := decide_eq_false (by omega)
          by_cases h8 : 8 ≤ n
          · have g8 : decide ((8 : Int) ≤ (n : Int)) = true := decide_eq_true (by omega)
            have HP : Hid (O = none) := Lib.hid (by rw [hn, size_no h59 (.inr h8)])
            clear hn hc hdr hx hE hh a hy h59 hd
            go_wp2
            go_ret
            exact ⟨by rw [HP.out]; rfl, rfl⟩
          · have g8 : decide ((8 : Int) ≤ (n : Int)) = false := decide_eq_false (by omega)
            have hd15 := hexN_le hh
            have HX : Hid (16 * x + d < 16 ^ (n + 1) ∧ O = sizeGo (n + 1) (16 * x + d) (s.drop (n + 1))) := Lib.hid ⟨by rw [Nat.pow_succ]; omega, by rw [hn, size_one h59 hh (by omega)]⟩
            have hw7 : IntKind.i64.wrap (16 * (x : Int)) = 16 * (x : Int) := by rw [IntKind.wrap_i64]; omega
            have hw8 : IntKind.i64.wrap (16 * (x : Int) + (d : Int)) = 16 * (x : Int) + (d : Int) := by rw [IntKind.wrap_i64]; omega
            clear hn hc hdr hx hE hh a hy h59 hd
            go_wp2
            exact ⟨⟨n + 1, 16 * x + d, by omega, by omega, HX.out.1, by go_num, by go_num, by trivial, HX.out.2⟩, by simp [intOf]; omega⟩
        · rw [decide_eq_true (by omega)] at h1 h5
          rw [decide_eq_false (by omega)] at h2 h3 h6
          clear h4
          have hh : hexN c = none := by rw [hE, if_neg (by omega), if_neg (by omega), if_neg (by omega)]
          have HP : Hid (O = none) := Lib.hid (by rw [hn, size_no h59 (.inl hh)])
          clear hn hc hdr hx hE hh a hy c0 h59
          go_wp2
          go_ret
          exact ⟨by rw [HP.out]; rfl, rfl⟩
        · rw [decide_eq_true (by omega)] at h1 h3 h4 h5
          rw [decide_eq_false (by omega)] at h2 h6
          obtain ⟨d, hd⟩ : ∃ d : Nat, d = c.toNat - 87 := ⟨_, rfl⟩
          have hh : hexN c = some d := by rw [hE, if_neg (by omega), if_pos a, hd]
          have hw5 : IntKind.i64.wrap ((y : Int) - 97) = (y : Int) - 97 := by rw [IntKind.wrap_i64]; omega
          have hw6 : IntKind.i64.wrap ((y : Int) - 97 + 10) = (d : Int) := by rw [IntKind.wrap_i64]; omega
          have gd : decide ((d : Int) < 0) = false := decide_eq_false (by omega)
          by_cases h8 : 8 ≤ n
          · have g8 : decide ((8 : Int) ≤ (n : Int)) = true := decide_eq_true (by omega)
            have HP : Hid (O = none) := Lib.hid (by rw [hn, size_no h59 (.inr h8)])
            clear hn hc hdr hx hE hh a hy h59 hd
            go_wp2
            go_ret
            exact ⟨by rw [HP.out]; rfl, rfl⟩
          · have g8 : decide ((8 : Int) ≤ (n : Int)) = false := decide_eq_false (by omega)
            have hd15 := hexN_le hh
            have HX : Hid (16 * x + d < 16 ^ (n + 1) ∧ O = sizeGo (n + 1) (16 * x + d) (s.drop (n + 1))) := Lib.hid ⟨by rw [Nat.pow_succ]; omega, by rw [hn, size_one h59 hh (by omega)]⟩
            have hw7 : IntKind.i64.wrap (16 * (x : Int)) = 16 * (x : Int) := by rw [IntKind.wrap_i64]; omega
            have hw8 : IntKind.i64.wrap (16 * (x : Int) + (d : Int)) = 16 * (x : Int) + (d : Int) := by rw [IntKind.wrap_i64]; omega
            clear hn hc hdr hx hE hh a hy h59 hd
            go_wp2
            exact ⟨⟨n + 1, 16 * x + d, by omega, by omega, HX.out.1, by go_num, by go_num, by trivial, HX.out.2⟩, by simp [intOf]; omega⟩
        · rw [decide_eq_true (by omega)] at h1 h3 h5
          rw [decide_eq_false (by omega)] at h2 h4 h6
          have hh : hexN c = none := by rw [hE, if_neg (by omega), if_neg (by omega), if_neg (by omega)]
          have HP : Hid (O = none) := Lib.hid (by rw [hn, size_no h59 (.inl hh)])
          clear hn hc hdr hx hE hh a hy c0 h59
          go_wp2
          go_ret
          exact ⟨by rw [HP.out]; rfl, rfl⟩
    · have hnL : n = L := by omega
      rw [List.drop_of_length_le (by rw [hnL, ← HL.out]; exact Nat.le_refl _)] at hn
      by_cases h0 : n = 0
      · have g0 : ((n : Int) == 0) = true := by rw [beq_iff_eq]; omega
        have HP : Hid (O = none) := Lib.hid (by rw [hn, h0, size_none x (.inl rfl)])
        clear hn h0 hx hnL
        go_wp2
        go_ret
        exact ⟨by rw [HP.out]; rfl, rfl⟩
      · have g0 : ((n : Int) == 0) = false := by rw [beq_eq_false_iff_ne]; omega
        have HB : Hid (O = if (s.drop (n + 1)).any badB = true then none else some x) := Lib.hid (by
          rw [List.drop_of_length_le (by rw [hnL, ← HL.out]; omega), hn, size_end h0]; rfl)
        clear hn hx hnL
        go_wp2
        go_loopw [7] (fun iv wx => ∃ i : Nat, n + 1 ≤ i ∧ i ≤ L + 1 ∧ iv = .int .i64 (i : Int) ∧ wx = wr ∧ ((s.drop (n + 1)).take (i - (n + 1))).any badB = false) (fun iv _ => L + 1 - (intOf iv).toNat)
        case atStart => exact ⟨n + 1, Nat.le_refl _, by omega, by go_num, rfl, by simp⟩
        case round =>
          obtain ⟨i, hi1, hi2, rfl, hwx, hbd⟩ := hrel
          subst hwx
          by_cases hil : i < L
          · obtain ⟨d, hd⟩ : ∃ d, s[i]? = some d := ⟨s[i]'(by have := HL.out; omega), List.getElem?_eq_getElem _⟩
            obtain ⟨y, hy⟩ : ∃ y : Nat, y = d.toNat := ⟨_, rfl⟩
            have hidy : ∀ w, (Instr.index 9 (S s) (.int .i64 (i : Int))).run Tryz.prog w = .ok (.int .u8 (y : Int)) w := fun w => by
              rw [hy]; exact index_S (P := Tryz.prog) Tryz.underlying9 s i d hd w
            have hnx := any_drop_next hd hi1 hbd
            have hbf := bad_facts d
            rw [← hy] at hbf
            have hw9 : IntKind.i64.wrap ((i : Int) + 1) = (i : Int) + 1 := by rw [IntKind.wrap_i64]; omega
            clear hbd hd hy
            rcases hbf with ⟨h1, h2, h3⟩ | ⟨h1, h2, h3, h4, h5⟩ | ⟨h1, h2, h3, h4, h5, h6, h7⟩ | ⟨h1, h2, h3, h4, h5, h6, h7⟩
            · rw [h1] at hnx
              have HN := Lib.hid hnx
              clear hnx h1
              go_wp2
              exact ⟨⟨i + 1, by omega, by omega, by go_num, by trivial, HN.out⟩, by simp [intOf]; omega⟩
            · rw [h1] at hnx
              have HP : Hid (O = none) := Lib.hid (by rw [HB.out, if_pos (any_of_take hnx)])
              clear hnx h1
              go_wp2
              go_ret
              exact ⟨by rw [HP.out]; rfl, rfl⟩
            · rw [h1] at hnx
              have HP : Hid (O = none) := Lib.hid (by rw [HB.out, if_pos (any_of_take hnx)])
              clear hnx h1
              go_wp2
              go_ret
              exact ⟨by rw [HP.out]; rfl, rfl⟩
            · rw [h1] at hnx
              have HN := Lib.hid hnx
              clear hnx h1
              go_wp2
              exact ⟨⟨i + 1, by omega, by omega, by go_num, by trivial, HN.out⟩, by simp [intOf]; omega⟩
          · have HP : Hid (O = some x) := Lib.hid (by
              rw [List.take_of_length_le (by rw [List.length_drop]; have := HL.out; omega)] at hbd
              rw [HB.out, hbd, if_neg Bool.false_ne_true])
            clear hbd
            go_wp2
            go_ret
            exact ⟨by rw [HP.out]; rfl, rfl⟩
end Go.Proofs.YtplajlccnnbifaaGreatDoor
