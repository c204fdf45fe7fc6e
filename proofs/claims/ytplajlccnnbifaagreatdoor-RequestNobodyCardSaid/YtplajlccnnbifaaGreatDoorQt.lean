/- The document's Token walked. -/
import Derived.Test.YtplajlccnnbifaaGreatDoorQs
namespace Go.Proofs.YtplajlccnnbifaaGreatDoor
open Go.RowKit
attribute [local go_sem] store_one S_match S_store
set_option maxRecDepth 100000 in
set_option maxHeartbeats 400000 in
theorem token_any (s : List UInt8) (hs : s.length ≤ 100000) (w : World) : Calls Tryz.prog 86 #[S s] w fun e w' => e = .returned (.bool (tokF s)) ∧ w' = w := by
  have hlenS := run_len_S (P := Tryz.prog) Tryz.underlying9 3 s
  go_enter Tryz.func86, Tryz.ntmps86
  go_wp2
  go_loopw [3] (fun iv wr => ∃ i : Nat, i ≤ s.length ∧ iv = .int .i64 (i : Int) ∧ wr = w ∧ (s.take i).all tokB = true) (fun iv _ => s.length - (intOf iv).toNat)
  case atStart => exact ⟨0, by omega, rfl, rfl, rfl⟩
  case round =>
    obtain ⟨i, hi, rfl, rfl, hn⟩ := hrel
    by_cases hlt : i < s.length
    · obtain ⟨c, hc⟩ : ∃ c, s[i]? = some c := ⟨s[i], List.getElem?_eq_getElem hlt⟩
      have hidx : ∀ w, (Instr.index 9 (S s) (.int .i64 (i : Int))).run Tryz.prog w = .ok (B c) w := fun w => index_S (P := Tryz.prog) Tryz.underlying9 s i c hc w
      have hnx := all_take_next hc hn
      clear hn hc
      have hcall := tokens_any c
      cases hb : tokB c with
      | true =>
        rw [hb] at hnx hcall
        have HN := Lib.hid hnx
        clear hnx hb
        go_wp2_with fail
        refine (hcall wr).mono ?_
        rintro e w1 ⟨rfl, hw1⟩
        obtain rfl := hw1.symm
        go_wp2
        exact ⟨⟨i + 1, by omega, by go_num, by trivial, HN.out⟩, by simp [intOf]; omega⟩
      | false =>
        rw [hb] at hnx hcall
        have HN : Hid (tokF s = false) := Lib.hid (by unfold tokF; rw [all_of_take hnx, Bool.false_and])
        clear hnx hb
        go_wp2_with fail
        refine (hcall wr).mono ?_
        rintro e w1 ⟨rfl, hw1⟩
        obtain rfl := hw1.symm
        go_wp2
        go_ret
        exact ⟨by rw [HN.out]; rfl, rfl⟩
    · obtain rfl : i = s.length := by omega
      rw [List.take_length] at hn
      have HN : Hid (tokF s = decide (0 < s.length)) := Lib.hid (by unfold tokF; rw [hn, Bool.true_and])
      clear hn
      by_cases h0 : 0 < s.length
      · have hb : decide ((0 : Int) < (s.length : Int)) = true := decide_eq_true (by omega)
        have hb' : decide (0 < s.length) = true := decide_eq_true h0
        go_wp2
        go_ret
        exact ⟨by rw [HN.out, hb']; rfl, rfl⟩
      · have hb : decide ((0 : Int) < (s.length : Int)) = false := decide_eq_false (by omega)
        have hb' : decide (0 < s.length) = false := decide_eq_false h0
        go_wp2
        go_ret
        exact ⟨by rw [HN.out, hb']; rfl, rfl⟩
end Go.Proofs.YtplajlccnnbifaaGreatDoor
