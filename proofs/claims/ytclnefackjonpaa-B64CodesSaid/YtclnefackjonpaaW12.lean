/- The walk of B64Codes. -/
import Derived.Test.YtclnefackjonpaaW11
namespace Go.Proofs.Ytclnefackjonpaa
open Go.RowKit
attribute [local go_sem] store_one B_match B_store

set_option maxRecDepth 100000 in
set_option maxHeartbeats 4000000 in
theorem codes_any (s t : List UInt8) (w : World) : Calls Try.prog 4 #[S s, S t] w fun e w' => e = .returned (.bool true) ∧ Below w.heap.size w w' := by
  have hlenS := run_len_S 3
  have hgd := guard_S
  go_enter Try.func4, Try.ntmps4
  go_wp2_with fail
  refine (awake_any w).mono ?_
  rintro e W1 ⟨rfl, C1⟩
  by_cases h1 : 5000 < s.length
  · have hb1 : decide (5000 < (s.length : Int)) = true := by simp; omega
    go_wp2
    go_ret
    exact ⟨rfl, C1⟩
  have hb1 : decide (5000 < (s.length : Int)) = false := by simp; omega
  by_cases h2 : 5000 < t.length
  · have hb2 : decide (5000 < (t.length : Int)) = true := by simp; omega
    go_wp2
    go_ret
    exact ⟨rfl, C1⟩
  have hb2 : decide (5000 < (t.length : Int)) = false := by simp; omega
  go_wp2_with fail
  refine (decode_any t (by omega) W1).mono ?_
  rintro e W2 ⟨rfl, B2⟩
  have C2 := C1.trans (B2.mono C1.size)
  clear B2 C1
  have heq1 := eql_S 9 (enc s) (enc s)
  rw [beq_self_eq_true] at heq1
  cases hd : dec t with
  | none =>
    have hD := Lib.hid hd
    have heq2 := eql_S 9 [] []
    rw [beq_self_eq_true] at heq2
    rw [ans_none]
    clear hd
    go_wp2_with fail
    refine (ref_decode t (by omega) W2).mono ?_
    rintro e W3 ⟨rfl, B3⟩
    rw [hD.out, ans_none]
    have C3 := C2.trans (B3.mono C2.size)
    clear B3 C2
    go_wp2_with fail
    refine (encode_any s (by omega) W3).mono ?_
    rintro e W4 ⟨rfl, B4⟩
    have C4 := C3.trans (B4.mono C3.size)
    clear B4 C3
    go_wp2_with fail
    refine (ref_encode s (by omega) W4).mono ?_
    rintro e W5 ⟨rfl, B5⟩
    go_wp2
    go_ret
    exact ⟨rfl, C4.trans (B5.mono C4.size)⟩
  | some b =>
    have hD := Lib.hid hd
    have heq2 := eql_S 9 b b
    rw [beq_self_eq_true] at heq2
    rw [ans_some]
    clear hd
    go_wp2_with fail
    refine (ref_decode t (by omega) W2).mono ?_
    rintro e W3 ⟨rfl, B3⟩
    rw [hD.out, ans_some]
    have C3 := C2.trans (B3.mono C2.size)
    clear B3 C2
    go_wp2_with fail
    refine (encode_any s (by omega) W3).mono ?_
    rintro e W4 ⟨rfl, B4⟩
    have C4 := C3.trans (B4.mono C3.size)
    clear B4 C3
    go_wp2_with fail
    refine (ref_encode s (by omega) W4).mono ?_
    rintro e W5 ⟨rfl, B5⟩
    go_wp2
    go_ret
    exact ⟨rfl, C4.trans (B5.mono C4.size)⟩
end Go.Proofs.Ytclnefackjonpaa
