/- The walk of B64Back. -/
import Derived.Test.YtclnefackjonpaaW6
namespace Go.Proofs.Ytclnefackjonpaa
open Go.RowKit
attribute [local go_sem] store_one B_match B_store

theorem neql_S (t : TypeId) (a b : List UInt8) : binOp .neq t (S a) (S b) = pure (.bool (a != b)) := by
  have e : ((⟨a.toArray⟩ : ByteArray).toList == (⟨b.toArray⟩ : ByteArray).toList) = (a == b) := by
    simp
  simp only [S, binOp, Op.stringOp]
  rw [e]
  rfl
theorem nguard_S (t : TypeId) (x y : Operand) (a b : List UInt8) : eqGuard .neq t x y (S a) (S b) = pure () := rfl
theorem ans_none : ans none = .tuple #[S [], .bool false] := rfl
theorem ans_some (b : List UInt8) : ans (some b) = .tuple #[S b, .bool true] := rfl

set_option maxRecDepth 100000 in
set_option maxHeartbeats 4000000 in
theorem back_any (s t : List UInt8) (w : World) : Calls Try.prog 5 #[S s, S t] w fun e w' => e = .returned (.bool true) ∧ Below w.heap.size w w' := by
  have hlenS := run_len_S 3
  have k0 : Value.string ⟨#[]⟩ = S [] := rfl
  have hgd := guard_S
  have hng := nguard_S
  go_enter Try.func5, Try.ntmps5
  go_wp2_with fail
  refine (awake_any w).mono ?_
  rintro e W1 ⟨rfl, C1⟩
  by_cases h1 : 5000 < s.length
  · have hb1 : decide (5000 < (s.length : Int)) = true := by simp; omega
    go_wp2
    go_ret
    exact ⟨rfl, C1⟩
  have hb1 : decide (5000 < (s.length : Int)) = false := by simp; omega
  by_cases h2 : 5000 < t.length
  · have hb2 : decide (5000 < (t.length : Int)) = true := by simp; omega
    go_wp2
    go_ret
    exact ⟨rfl, C1⟩
  have hb2 : decide (5000 < (t.length : Int)) = false := by simp; omega
  have hbk := Lib.hid (back s)
  have hfw := Lib.hid (forth t)
  have hel := enc_length s
  have hxl : (enc s).length < 1000000000 := by omega
  have hEL := Lib.hid hel
  clear hel
  go_wp2_with fail
  refine (encode_any s (by omega) W1).mono ?_
  rintro e W2 ⟨rfl, B2⟩
  have C2 := C1.trans (B2.mono C1.size)
  clear B2 C1
  go_wp2_with fail
  refine (decode_any (enc s) hxl W2).mono ?_
  rintro e W3 ⟨rfl, B3⟩
  rw [hbk.out, ans_some]
  have C3 := C2.trans (B3.mono C2.size)
  clear B3 C2
  have hn1 := neql_S 9 s s
  rw [bne_self_eq_false] at hn1
  go_wp2_with fail
  refine (encode_any s (by omega) W3).mono ?_
  rintro e W4 ⟨rfl, B4⟩
  have C4 := C3.trans (B4.mono C3.size)
  clear B4 C3
  go_wp2_with fail
  refine (letters_any s.length (by omega) W4).mono ?_
  rintro e V4 ⟨rfl, rfl⟩
  rw [← hEL.out]
  go_wp2_with fail
  refine (decode_any t (by omega) W4).mono ?_
  rintro e W5 ⟨rfl, B5⟩
  have C5 := C4.trans (B5.mono C4.size)
  clear B5 C4
  cases hd : dec t with
  | none =>
    rw [ans_none]
    have he := eql_S 9 [] []
    rw [beq_self_eq_true] at he
    clear hd
    go_wp2
    go_ret
    exact ⟨rfl, C5⟩
  | some b =>
    rw [ans_some]
    have hE := Lib.hid (hfw.out b hd)
    have hbl : b.length ≤ t.length := by
      have := enc_length b
      rw [hE.out] at this
      omega
    have he := eql_S 9 t t
    rw [beq_self_eq_true] at he
    clear hd
    go_wp2_with fail
    refine (encode_any b (by omega) W5).mono ?_
    rintro e W6 ⟨rfl, B6⟩
    rw [hE.out]
    go_wp2
    go_ret
    exact ⟨rfl, C5.trans (B6.mono C5.size)⟩
end Go.Proofs.Ytclnefackjonpaa
