/- The document's tokens walked. -/
import Derived.Test.YtplajlccnnbifaaGreatDoorJc
import Derived.Test.YtplajlccnnbifaaGreatDoorProg
namespace Go.Proofs.YtplajlccnnbifaaGreatDoor
open Go.RowKit

section
attribute [local go_sem] store_one S_match S_store S_add eql_S guard_S neql_S nguard_S B_eql eguard_B
theorem tok_index (i : Nat) (x : UInt8) (hx : tokAll[i]? = some x) (w : World) : (Instr.index 9 (.string ⟨([65, 66, 67, 68, 69, 70, 71, 72, 73, 74, 75, 76, 77, 78, 79, 80, 81, 82, 83, 84, 85, 86, 87, 88, 89, 90, 97, 98, 99, 100, 101, 102, 103, 104, 105, 106, 107, 108].append [109, 110, 111, 112, 113, 114, 115, 116, 117, 118, 119, 120, 121, 122, 48, 49, 50, 51, 52, 53, 54, 55, 56, 57, 33, 35, 36, 37, 38, 39, 42, 43, 45, 46, 94, 95, 96, 124, 126]).toArray⟩) (.int .i64 (i : Int))).run Tryz.prog w = .ok (B x) w :=
  index_text Tryz.underlying9 _ tokAll rfl i x hx w
theorem lit_B (s : ByteArray) (i : Nat) (h : i < s.size) (x : UInt8) (hl : s.data.toList[i]? = some x) : Value.int .u8 (((s[i]'h).toNat : Nat) : Int) = B x := by
  have e : s[i]'h = x := by
    rw [get_text s i h] at hl
    exact Option.some.inj hl
  rw [e, B]
set_option maxRecDepth 100000 in
set_option maxHeartbeats 400000 in
theorem tokens_any (c : UInt8) (w : World) : Calls Tryz.prog 89 #[B c] w fun e w' => e = .returned (.bool (tokB c)) ∧ w' = w := by
  go_enter Tryz.func89, Tryz.ntmps89
  go_wp2
  go_loopw [3] (fun iv wr => ∃ i : Nat, i ≤ 77 ∧ iv = .int .i64 (i : Int) ∧ wr = w ∧ (tokAll.take i).contains c = false) (fun iv _ => 77 - (intOf iv).toNat)
  case atStart => exact ⟨0, by omega, rfl, rfl, rfl⟩
  case round =>
    obtain ⟨i, hi, rfl, rfl, hn⟩ := hrel
    by_cases hlt : i < 77
    · obtain ⟨x, hx⟩ : ∃ x, tokAll[i]? = some x := ⟨tokAll[i]'hlt, List.getElem?_eq_getElem _⟩
      have hnx := take_contains hx hn
      clear hn
      have hx2 := beqB x c
      cases hxc : (x == c) with
      | true =>
        rw [hxc] at hnx hx2
        have HN : Hid (tokB c = true) := Lib.hid (by
          unfold tokB
          rw [← List.take_append_drop (i + 1) tokAll, List.contains_eq_any_beq, List.any_append, ← List.contains_eq_any_beq, hnx, Bool.true_or])
        clear hnx
        go_wp2
        rw [lit_B _ i _ x hx]
        go_simp
        go_wp2
        go_ret
        exact ⟨by rw [HN.out]; rfl, rfl⟩
      | false =>
        rw [hxc] at hnx hx2
        have HN := Lib.hid hnx
        clear hnx
        go_wp2
        rw [lit_B _ i _ x hx]
        go_simp
        go_wp2
        exact ⟨⟨i + 1, by omega, by go_num, by trivial, HN.out⟩, by simp [intOf]; omega⟩
    · obtain rfl : i = 77 := by omega
      have HN : Hid (tokB c = false) := Lib.hid (by rw [List.take_of_length_le (by decide)] at hn; exact hn)
      clear hn
      go_wp2
      go_ret
      exact ⟨by rw [HN.out]; rfl, rfl⟩
end
end Go.Proofs.YtplajlccnnbifaaGreatDoor
