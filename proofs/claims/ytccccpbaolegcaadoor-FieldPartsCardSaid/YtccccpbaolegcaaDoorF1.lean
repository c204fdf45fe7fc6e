/- The document's answers for fields: a token's characters, small letters, blanks at the ends; the reference's functions for these walked. -/
import Derived.Test.YtccccpbaolegcaaDoorGen9
import Derived.Test.YtccccpbaolegcaaDoorRows
import Derived.Deep.QuietTactic
import Derived.BigQuiet
namespace Go.Proofs.YtccccpbaolegcaaDoor
open Go.RowKit
attribute [local go_sem] store_one S_match S_store S_add eql_S guard_S neql_S nguard_S B_eql eguard_B

/-- A token's characters. -/
def tokAll : List UInt8 := [65, 66, 67, 68, 69, 70, 71, 72, 73, 74, 75, 76, 77, 78, 79, 80, 81, 82, 83, 84, 85, 86, 87, 88, 89, 90, 97, 98, 99, 100, 101, 102, 103, 104, 105, 106, 107, 108, 109, 110, 111, 112, 113, 114, 115, 116, 117, 118, 119, 120, 121, 122, 48, 49, 50, 51, 52, 53, 54, 55, 56, 57, 33, 35, 36, 37, 38, 39, 42, 43, 45, 46, 94, 95, 96, 124, 126]
def tokB (c : UInt8) : Bool := tokAll.contains c
theorem tok_index (i : Nat) (x : UInt8) (hx : tokAll[i]? = some x) (w : World) : (Instr.index 9 (.string ⟨([65, 66, 67, 68, 69, 70, 71, 72, 73, 74, 75, 76, 77, 78, 79, 80, 81, 82, 83, 84, 85, 86, 87, 88, 89, 90, 97, 98, 99, 100, 101, 102, 103, 104, 105, 106, 107, 108].append [109, 110, 111, 112, 113, 114, 115, 116, 117, 118, 119, 120, 121, 122, 48, 49, 50, 51, 52, 53, 54, 55, 56, 57, 33, 35, 36, 37, 38, 39, 42, 43, 45, 46, 94, 95, 96, 124, 126]).toArray⟩) (.int .i64 (i : Int))).run Tryd.prog w = .ok (B x) w :=
  index_text Tryd.underlying9 _ tokAll rfl i x hx w
theorem take_contains {l : List UInt8} {i : Nat} {x c : UInt8} (hx : l[i]? = some x) (hn : (l.take i).contains c = false) : (l.take (i + 1)).contains c = (x == c) := by
  obtain ⟨h, rfl⟩ := List.getElem?_eq_some_iff.1 hx
  rw [List.take_succ_eq_append_getElem h, List.contains_eq_any_beq, List.any_append, ← List.contains_eq_any_beq, hn]
  simp [Bool.beq_comm]
theorem beqB (x c : UInt8) : ((x.toNat : Int) == (c.toNat : Int)) = (x == c) := by
  rw [Bool.eq_iff_iff, beq_iff_eq, beq_iff_eq]
  exact ⟨fun h => UInt8.toNat_inj.1 (by omega), fun h => by rw [h]⟩
theorem lit_B (s : ByteArray) (i : Nat) (h : i < s.size) (x : UInt8) (hl : s.data.toList[i]? = some x) : Value.int .u8 (((s[i]'h).toNat : Nat) : Int) = B x := by
  have e : s[i]'h = x := by
    rw [get_text s i h] at hl
    exact Option.some.inj hl
  rw [e, B]
set_option maxRecDepth 100000 in
set_option maxHeartbeats 400000 in
theorem tokens_any (c : UInt8) (w : World) : Calls Tryd.prog 31 #[B c] w fun e w' => e = .returned (.bool (tokB c)) ∧ w' = w := by
  go_enter Tryd.func31, Tryd.ntmps31
  go_wp2
  go_loopw [3] (fun iv wr => ∃ i : Nat, i ≤ 77 ∧ iv = .int .i64 (i : Int) ∧ wr = w ∧ (tokAll.take i).contains c = false) (fun iv _ => 77 - (intOf iv).toNat)
  case atStart => exact ⟨0, by omega, rfl, rfl, rfl⟩
  case round =>
    obtain ⟨i, hi, rfl, rfl, hn⟩ := hrel
    by_cases hlt : i < 77
    · obtain ⟨x, hx⟩ : ∃ x, tokAll[i]? = some x := ⟨tokAll[i]'hlt, List.getElem?_eq_getElem _⟩
      have hnx := take_contains hx hn
      clear hn
      have hx2 := beqB x c
      cases hxc : (x == c) with
      | true =>
        rw [hxc] at hnx hx2
        have HN : Hid (tokB c = true) := Lib.hid (by
          unfold tokB
          rw [← List.take_append_drop (i + 1) tokAll, List.contains_eq_any_beq, List.any_append, ← List.contains_eq_any_beq, hnx, Bool.true_or])
        clear hnx
        go_wp2
        rw [lit_B _ i _ x hx]
        go_simp
        go_wp2
        go_ret
        exact ⟨by rw [HN.out]; rfl, rfl⟩
      | false =>
        rw [hxc] at hnx hx2
        have HN := Lib.hid hnx
        clear hnx
        go_wp2
        rw [lit_B _ i _ x hx]
        go_simp
        go_wp2
        exact ⟨⟨i + 1, by omega, by go_num, by trivial, HN.out⟩, by simp [intOf]; omega⟩
    · obtain rfl : i = 77 := by omega
      have HN : Hid (tokB c = false) := Lib.hid (by rw [List.take_of_length_le (by decide)] at hn; exact hn)
      clear hn
      go_wp2
      go_ret
      exact ⟨by rw [HN.out]; rfl, rfl⟩
/-- A great letter as the small one. -/
def lowB (c : UInt8) : UInt8 := if 65 ≤ c.toNat ∧ c.toNat ≤ 90 then c + 32 else c
theorem B_geq (t : TypeId) (x : UInt8) (k : Int) : binOp .geq t (B x) (.int .u8 k) = pure (.bool (decide (k ≤ (x.toNat : Int)))) := rfl
theorem B_leq (t : TypeId) (x : UInt8) (k : Int) : binOp .leq t (B x) (.int .u8 k) = pure (.bool (decide ((x.toNat : Int) ≤ k))) := rfl
theorem B_add32 (t : TypeId) (x : UInt8) (h : x.toNat ≤ 90) : binOp .add t (B x) (.int .u8 32) = pure (B (x + 32)) := by
  have e : ((x + 32).toNat : Int) = (x.toNat : Int) + 32 := by rw [UInt8.toNat_add]; show (((x.toNat + 32) % 256 : Nat) : Int) = _; omega
  have hw : IntKind.u8.wrap ((x.toNat : Int) + 32) = (x.toNat : Int) + 32 := by rw [IntKind.wrap_u8]; omega
  simp only [B, e]
  show pure (Value.int .u8 (IntKind.u8.wrap ((x.toNat : Int) + 32))) = _
  rw [hw]
set_option maxRecDepth 100000 in
set_option maxHeartbeats 400000 in
theorem low_any (c : UInt8) (w : World) : Calls Tryd.prog 33 #[B c] w fun e w' => e = .returned (B (lowB c)) ∧ w' = w := by
  have h1 := B_geq 5 c 65
  have h2 := B_leq 5 c 90
  by_cases ha : 65 ≤ c.toNat
  · by_cases hb : c.toNat ≤ 90
    · have hl : lowB c = c + 32 := by unfold lowB; rw [if_pos ⟨ha, hb⟩]
      have h3 := B_add32 5 c hb
      rw [decide_eq_true (by omega)] at h1 h2
      rw [hl]
      clear hl ha hb
      go_enter Tryd.func33, Tryd.ntmps33
      go_wp2
      go_ret
      exact ⟨rfl, rfl⟩
    · have hl : lowB c = c := by unfold lowB; rw [if_neg (fun h => hb h.2)]
      rw [decide_eq_true (by omega)] at h1
      rw [decide_eq_false (by omega)] at h2
      rw [hl]
      clear hl ha hb
      go_enter Tryd.func33, Tryd.ntmps33
      go_wp2
      go_ret
      exact ⟨rfl, rfl⟩
  · have hl : lowB c = c := by unfold lowB; rw [if_neg (fun h => ha h.1)]
    rw [decide_eq_false (by omega)] at h1
    rw [hl]
    clear hl ha h2
    go_enter Tryd.func33, Tryd.ntmps33
    go_wp2
    go_ret
    exact ⟨rfl, rfl⟩
end Go.Proofs.YtccccpbaolegcaaDoor
