/- The document's May (stage 16) walked. -/
import Derived.Test.YtlmolmmhkddpaaaHb
import Derived.Test.YtlmolmmhkddpaaaEg
import Derived.Deep.QuietTactic
namespace Go.Proofs.Ytlmolmmhkddpaaa
open Go.RowKit
attribute [local go_sem] store_one B_match B_store S_match S_store

def opsL : List Nat := [0, 1, 2, 8, 9, 10]
def opsC : Array Value := #[.int .i64 0, .int .i64 1, .int .i64 2, .int .i64 8, .int .i64 9, .int .i64 10]
theorem ops_get (i v : Nat) (h : opsL[i]? = some v) : opsC[i]? = some (.int .i64 (v : Int)) := by
  have hi : i < 6 := by
    obtain ⟨hl, _⟩ := List.getElem?_eq_some_iff.1 h
    exact hl
  have : i = 0 ∨ i = 1 ∨ i = 2 ∨ i = 3 ∨ i = 4 ∨ i = 5 := by omega
  rcases this with rfl | rfl | rfl | rfl | rfl | rfl <;> (simp [opsL] at h; subst h; rfl)
theorem ops_any (op : Nat) : opsL.any (fun v => decide (v = op)) = decide (op ≤ 2 ∨ (8 ≤ op ∧ op ≤ 10)) := by
  by_cases h : op ≤ 2 ∨ (8 ≤ op ∧ op ≤ 10)
  · rw [decide_eq_true h]
    have : op = 0 ∨ op = 1 ∨ op = 2 ∨ op = 8 ∨ op = 9 ∨ op = 10 := by omega
    rcases this with rfl | rfl | rfl | rfl | rfl | rfl <;> decide
  · rw [decide_eq_false h]
    simp [opsL]
    omega
set_option maxRecDepth 100000 in
set_option maxHeartbeats 4000000 in
theorem may16_any (h : Hd) (m : Bool) (w : World) : Calls Try.prog 22 #[.agg (hrC h), .bool m] w fun e w' => e = .returned (.bool (mayF h m)) ∧ Below w.heap.size w w' := by
  obtain ⟨fin, rsv, op, masked, key, len, least⟩ := h
  obtain ⟨b, hb⟩ : ∃ b, b = w.heap.size := ⟨_, rfl⟩
  obtain ⟨W1, hW1⟩ : ∃ W, W = (w.alloc (.cells (hrC ⟨fin, rsv, op, masked, key, len, least⟩) 58)).alloc (.cells opsC 3) := ⟨_, rfl⟩
  have H1 : Hid (Row W1 b (hrC ⟨fin, rsv, op, masked, key, len, least⟩) 58 ∧ Row W1 (b + 1) opsC 3 ∧ Below w.heap.size w W1 ∧ W1.heap.size = b + 2) := Lib.hid (by
    rw [hW1, hb]
    refine ⟨(row_new w _ _).alloc _, ?_, ((Below.refl _ w).alloc (Nat.le_refl _) _).alloc (by simp) _, by simp⟩
    have h := row_new (w.alloc (.cells (hrC ⟨fin, rsv, op, masked, key, len, least⟩) 58)) opsC 3
    rw [alloc_size] at h
    exact h)
  unfold hrC opsC at hW1
  unfold hrC
  go_enter Try.func22, Try.ntmps22
  go_wp2
  rw [← hW1, ← hb]
  have HB := Lib.hid hb
  clear hW1 hb
  go_loopw [6, 7] (fun kv iv wr => ∃ (i : Nat) (Kn : Bool), i ≤ 6 ∧ kv = .bool Kn ∧ iv = .int .i64 (i : Int) ∧ Hid (Row wr b (hrC ⟨fin, rsv, op, masked, key, len, least⟩) 58 ∧ Row wr (b + 1) opsC 3 ∧ Below w.heap.size w wr ∧ Kn = (opsL.take i).any (fun v => decide (v = op)))) (fun _ iv _ => 6 - (intOf iv).toNat)
  case atStart => exact ⟨0, false, by omega, rfl, rfl, Lib.hid ⟨H1.out.1, H1.out.2.1, H1.out.2.2.1, rfl⟩⟩
  case round =>
    obtain ⟨i, Kn, hi, rfl, rfl, HI⟩ := hrel
    by_cases hlt : i < 6
    · have g1 : decide ((i : Int) < 6) = true := decide_eq_true (by omega)
      obtain ⟨v, hv⟩ : ∃ v, opsL[i]? = some v := ⟨opsL[i]'hlt, List.getElem?_eq_getElem _⟩
      have hix : ∀ W, (Instr.indexAt 49 (.slice (some ⟨b + 1, 0, none⟩) 6 6) (.int .i64 (i : Int))).run Try.prog W = .ok (.pointer (some ⟨b + 1, i, none⟩)) W := fun W => by
        have h := run_index_at (P := Try.prog) Try.underlying49 (fun w => Try.sizeOf3 w) (b + 1) 0 6 6 i hlt W
        rw [Nat.zero_add, Nat.mul_one] at h
        exact h
      have y0 : wr.cell? ⟨b + 1, i, none⟩ = some (.int .i64 (v : Int)) := by rw [cell_of_row wr _ i _ _ (0, 0) HI.out.2.1]; exact ops_get i v hv
      have y1 : wr.cell? ⟨b, 4, none⟩ = some (.int .i64 (op : Int)) := cell_of_row wr _ 4 _ _ (0, 0) HI.out.1
      obtain ⟨E, hE⟩ : ∃ E, E = decide (v = op) := ⟨_, rfl⟩
      have q1 : ((v : Int) == (op : Int)) = E := by
        rw [hE]
        by_cases h : v = op
        · rw [decide_eq_true h, beq_iff_eq]; omega
        · rw [decide_eq_false h, beq_eq_false_iff_ne]; omega
      have hw1 : IntKind.i64.wrap ((i : Int) + 1) = (i : Int) + 1 := by rw [IntKind.wrap_i64]; omega
      have HK : Hid ((Kn || E) = (opsL.take (i + 1)).any (fun v => decide (v = op))) := Lib.hid (by
        rw [List.take_add_one, hv, List.any_append, ← HI.out.2.2.2, hE]; simp)
      clear hv hE
      cases Kn with
      | true =>
        go_wp2
        go_quiet (fail)
        go_wp2
        exact ⟨⟨i + 1, true, by omega, rfl, by go_num, Lib.hid ⟨HI.out.1, HI.out.2.1, ⟨HI.out.2.2.1.os, HI.out.2.2.1.tape, HI.out.2.2.1.output, HI.out.2.2.1.size, HI.out.2.2.1.block⟩, HK.out⟩⟩, by simp [intOf]; omega⟩
      | false =>
        go_wp2
        go_quiet (fail)
        go_wp2
        exact ⟨⟨i + 1, E, by omega, rfl, by go_num, Lib.hid ⟨HI.out.1, HI.out.2.1, ⟨HI.out.2.2.1.os, HI.out.2.2.1.tape, HI.out.2.2.1.output, HI.out.2.2.1.size, HI.out.2.2.1.block⟩, HK.out⟩⟩, by simp [intOf]; omega⟩
    · have hi6 : i = 6 := by omega
      have g1 : decide ((i : Int) < 6) = false := decide_eq_false (by omega)
      have d0 : wr.cell? ⟨b, 0, none⟩ = some (.bool fin) := cell_of_row wr _ 0 _ _ (0, 0) HI.out.1
      have d1 : wr.cell? ⟨b, 1, none⟩ = some (.bool masked) := cell_of_row wr _ 1 _ _ (0, 0) HI.out.1
      have d2 : wr.cell? ⟨b, 2, none⟩ = some (.bool least) := cell_of_row wr _ 2 _ _ (0, 0) HI.out.1
      have d3 : wr.cell? ⟨b, 3, none⟩ = some (.int .i64 (rsv : Int)) := cell_of_row wr _ 3 _ _ (0, 0) HI.out.1
      have d4 : wr.cell? ⟨b, 4, none⟩ = some (.int .i64 (op : Int)) := cell_of_row wr _ 4 _ _ (0, 0) HI.out.1
      have d9 : wr.cell? ⟨b, 9, none⟩ = some (.int .u64 (len : Int)) := cell_of_row wr _ 9 _ _ (0, 0) HI.out.1
      have HM : Hid (mayF ⟨fin, rsv, op, masked, key, len, least⟩ m = (decide (rsv = 0) && (Kn && ((masked == m) && (decide (op < 8 ∨ (len ≤ 125 ∧ fin = true)) && (least && decide (len < 9223372036854775808))))))) := Lib.hid (by
        have h := HI.out.2.2.2
        rw [hi6, show opsL.take 6 = opsL from rfl, ops_any] at h
        rw [h]; rfl)
      have HBL := Lib.hid HI.out.2.2.1
      clear HI H1 hi6 hlt hi
      by_cases c1 : rsv = 0
      · have q1 : ((rsv : Int) != 0) = false := by rw [bne_eq_false_iff_eq]; omega
        have C1 := Lib.hid (decide_eq_true c1)
        clear c1
        cases Kn with
        | false =>
          go_wp2
          go_ret
          exact ⟨by rw [HM.out, C1.out]; simp, HBL.out⟩
        | true =>
          by_cases c3 : masked = m
          · subst c3
            have q3 : (masked != masked) = false := by simp
            by_cases c4 : 8 ≤ op
            · have q4 : decide ((op : Int) ≥ 8) = true := decide_eq_true (by omega)
              have q5 : decide (8 ≤ (op : Int)) = true := decide_eq_true (by omega)
              by_cases c5 : 125 < len
              · have q6 : decide ((len : Int) > 125) = true := decide_eq_true (by omega)
                have q7 : decide (125 < (len : Int)) = true := decide_eq_true (by omega)
                have c8 : ¬ (op < 8 ∨ (len ≤ 125 ∧ fin = true)) := by omega
                have C8 := Lib.hid (decide_eq_false c8)
                clear c8
                go_wp2
                go_ret
                exact ⟨by rw [HM.out, C8.out]; simp, HBL.out⟩
              · have q6 : decide ((len : Int) > 125) = false := decide_eq_false (by omega)
                have q7 : decide (125 < (len : Int)) = false := decide_eq_false (by omega)
                cases fin with
                | false =>
                  have c8 : ¬ (op < 8 ∨ (len ≤ 125 ∧ false = true)) := by simp; omega
                  have C8 := Lib.hid (decide_eq_false c8)
                  clear c8
                  go_wp2
                  go_ret
                  exact ⟨by rw [HM.out, C8.out]; simp, HBL.out⟩
                | true =>
                  have c8 : (op < 8 ∨ (len ≤ 125 ∧ true = true)) := .inr ⟨by omega, rfl⟩
                  have C8 := Lib.hid (decide_eq_true c8)
                  clear c8
                  cases least with
                  | false =>
                    go_wp2
                    go_ret
                    exact ⟨by rw [HM.out, C8.out]; simp, HBL.out⟩
                  | true =>
                    have c9 : len < 9223372036854775808 := by omega
                    have q8 : decide ((len : Int) < 9223372036854775808) = true := decide_eq_true (by omega)
                    have C9 := Lib.hid (decide_eq_true c9)
                    clear c9
                    go_wp2
                    go_ret
                    exact ⟨by rw [HM.out, C1.out, C8.out, C9.out]; simp, HBL.out⟩
            · have q4 : decide ((op : Int) ≥ 8) = false := decide_eq_false (by omega)
              have q5 : decide (8 ≤ (op : Int)) = false := decide_eq_false (by omega)
              have c8 : (op < 8 ∨ (len ≤ 125 ∧ fin = true)) := .inl (by omega)
              have C8 := Lib.hid (decide_eq_true c8)
              clear c8
              cases least with
              | false =>
                go_wp2
                go_ret
                exact ⟨by rw [HM.out, C8.out]; simp, HBL.out⟩
              | true =>
                by_cases c9 : len < 9223372036854775808
                · have q8 : decide ((len : Int) < 9223372036854775808) = true := decide_eq_true (by omega)
                  have C9 := Lib.hid (decide_eq_true c9)
                  clear c9
                  go_wp2
                  go_ret
                  exact ⟨by rw [HM.out, C1.out, C8.out, C9.out]; simp, HBL.out⟩
                · have q8 : decide ((len : Int) < 9223372036854775808) = false := decide_eq_false (by omega)
                  have C9 := Lib.hid (decide_eq_false c9)
                  clear c9
                  go_wp2
                  go_ret
                  exact ⟨by rw [HM.out, C9.out]; simp, HBL.out⟩
          · cases masked <;> cases m
            · exact absurd rfl c3
            · clear c3
              go_wp2
              go_ret
              exact ⟨by rw [HM.out]; simp, HBL.out⟩
            · clear c3
              go_wp2
              go_ret
              exact ⟨by rw [HM.out]; simp, HBL.out⟩
            · exact absurd rfl c3
      · have q1 : ((rsv : Int) != 0) = true := by rw [bne_iff_ne]; omega
        have C1 := Lib.hid (decide_eq_false c1)
        clear c1
        go_wp2
        go_ret
        exact ⟨by rw [HM.out, C1.out]; simp, HBL.out⟩
end Go.Proofs.Ytlmolmmhkddpaaa
