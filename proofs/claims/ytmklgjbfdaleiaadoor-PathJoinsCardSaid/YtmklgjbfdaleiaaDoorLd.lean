/- The document's in, hex, and Status walked. -/
import Derived.Test.YtmklgjbfdaleiaaDoorLm3
import Derived.Test.YtmklgjbfdaleiaaDoorProg
import Derived.Test.YtmklgjbfdaleiaaDoorQt
import Derived.Shelf.RegionOpenPlain
namespace Go.Proofs.YtmklgjbfdaleiaaDoor
open Go.RowKit
attribute [local go_sem] store_one S_match S_store eguard_BN nguard_BN

theorem B_lssN (t : TypeId) (x : UInt8) (k : Int) : binOp .lss t (B x) (.int .u8 k) = pure (.bool (decide ((x.toNat : Int) < k))) := rfl
theorem B_gtrN (t : TypeId) (x : UInt8) (k : Int) : binOp .gtr t (B x) (.int .u8 k) = pure (.bool (decide (k < (x.toNat : Int)))) := rfl
set_option maxRecDepth 100000 in
set_option maxHeartbeats 400000 in
theorem in_any (c : UInt8) (l : List UInt8) (hl : l.length ≤ 100000) (w : World) : Calls Tryd.prog 35 #[B c, S l] w fun e w' => e = .returned (.bool (l.contains c)) ∧ w' = w := by
  have hlen := run_len_S (P := Tryd.prog) Tryd.underlying9 3 l
  go_enter Tryd.func35, Tryd.ntmps35
  go_wp2
  go_loopw [5] (fun iv wr => ∃ i : Nat, i ≤ l.length ∧ iv = .int .i64 (i : Int) ∧ wr = w ∧ (l.take i).contains c = false) (fun iv _ => l.length - (intOf iv).toNat)
  case atStart => exact ⟨0, by omega, rfl, rfl, rfl⟩
  case round =>
    obtain ⟨i, hi, rfl, rfl, hn⟩ := hrel
    by_cases hlt : i < l.length
    · obtain ⟨x, hx⟩ : ∃ x, l[i]? = some x := ⟨l[i], List.getElem?_eq_getElem hlt⟩
      have hidx : ∀ w, (Instr.index 9 (S l) (.int .i64 (i : Int))).run Tryd.prog w = .ok (B x) w := fun w => index_S (P := Tryd.prog) Tryd.underlying9 l i x hx w
      have hnx := take_contains hx hn
      have heq : binOp .eql 5 (B x) (B c) = pure (.bool (x == c)) := by
        show pure (Value.bool ((x.toNat : Int) == (c.toNat : Int))) = _
        rw [beqB]
      have hg : ∀ a b, eqGuard .eql 5 a b (B x) (B c) = pure () := fun a b => rfl
      have hall : (x == c) = true → l.contains c = true := fun h => by
        have := eq_of_beq h
        subst this
        exact List.contains_iff_mem.2 (List.mem_of_getElem? hx)
      clear hn hx
      cases hb : x == c with
      | true =>
        have HN := Lib.hid (hall hb)
        rw [hb] at heq
        clear hnx hall hb
        go_wp2
        go_ret
        exact ⟨by rw [HN.out]; rfl, rfl⟩
      | false =>
        rw [hb] at hnx heq
        have HN := Lib.hid hnx
        clear hnx hall hb
        go_wp2
        exact ⟨⟨i + 1, by omega, by go_num, by trivial, HN.out⟩, by simp [intOf]; omega⟩
    · obtain rfl : i = l.length := by omega
      have HN : Hid (l.contains c = false) := Lib.hid (by rw [List.take_length] at hn; exact hn)
      clear hn
      go_wp2
      go_ret
      exact ⟨by rw [HN.out]; rfl, rfl⟩
set_option maxRecDepth 100000 in
set_option maxHeartbeats 400000 in
theorem hex_any (c : UInt8) (w : World) : Calls Tryd.prog 34 #[B c] w fun e w' => e = .returned (.bool (hexB c)) ∧ w' = w := by
  have h : Calls Tryd.prog 35 #[B c, .string ⟨#[48, 49, 50, 51, 52, 53, 54, 55, 56, 57, 97, 98, 99, 100, 101, 102, 65, 66, 67, 68, 69, 70]⟩] w fun e w' => e = .returned (.bool (hexB c)) ∧ w' = w := in_any c hexAll (by decide) w
  go_enter Tryd.func34, Tryd.ntmps34
  go_wp2_with fail
  refine h.mono ?_
  rintro e w1 ⟨rfl, rfl⟩
  go_wp2
  go_ret
  exact ⟨rfl, rfl⟩
theorem path_any (c : UInt8) (w : World) : Calls Tryd.prog 35 #[B c, .string ⟨([97, 98, 99, 100, 101, 102, 103, 104, 105, 106, 107, 108, 109, 110, 111, 112, 113, 114, 115, 116, 117, 118, 119, 120, 121, 122, 65, 66, 67, 68, 69, 70, 71, 72, 73, 74, 75, 76, 77, 78].append [79, 80, 81, 82, 83, 84, 85, 86, 87, 88, 89, 90, 48, 49, 50, 51, 52, 53, 54, 55, 56, 57, 45, 46, 95, 126, 33, 36, 38, 39, 40, 41, 42, 43, 44, 59, 61, 58, 64, 47]).toArray⟩] w
    fun e w' => e = .returned (.bool (pathB c)) ∧ w' = w := in_any c pathAll (by decide) w

/-! The document's Status. -/
theorem status_short {s : List UInt8} (h : s.length < 13) : statusF s = (0, [], false) := by
  unfold statusF
  split
  · rename_i a b c r hd
    have := congrArg List.length hd
    simp at this
    omega
  · rfl
theorem four_of {s : List UInt8} (h : 13 ≤ s.length) : ∃ p a b c d r, s = p ++ (a :: b :: c :: d :: r) ∧ p.length = 9 ∧ p = s.take 9 := by
  have hd : s.drop 9 = s.drop 9 := rfl
  rcases h9 : s.drop 9 with _ | ⟨a, _ | ⟨b, _ | ⟨c, _ | ⟨d, r⟩⟩⟩⟩
  · have := congrArg List.length h9; simp at this; omega
  · have := congrArg List.length h9; simp at this; omega
  · have := congrArg List.length h9; simp at this; omega
  · have := congrArg List.length h9; simp at this; omega
  · exact ⟨s.take 9, a, b, c, d, r, by rw [← h9, List.take_append_drop], by rw [List.length_take]; omega, rfl⟩
/-- Of the first k digits the number. -/
def valN (x : Nat → UInt8) : Nat → Nat
  | 0 => 0
  | k + 1 => 10 * valN x k + (x k).toNat - 48
end Go.Proofs.YtmklgjbfdaleiaaDoor
