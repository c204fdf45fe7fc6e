/- The walks of awake and B64Known. -/
import Derived.Test.YtclnefackjonpaaW5
namespace Go.Proofs.Ytclnefackjonpaa
open Go.RowKit
attribute [local go_sem] store_one B_match B_store

theorem decK0 : ans (dec [90, 109, 57, 118, 89, 103, 61, 61]) = .tuple #[S [102, 111, 111, 98], .bool true] := by
  rw [show dec [90, 109, 57, 118, 89, 103, 61, 61] = some [102, 111, 111, 98] by decide +kernel]
  rfl
theorem decK1 : ans (dec [90, 109, 57, 118, 89, 109, 70, 121]) = .tuple #[S [102, 111, 111, 98, 97, 114], .bool true] := by
  rw [show dec [90, 109, 57, 118, 89, 109, 70, 121] = some [102, 111, 111, 98, 97, 114] by decide +kernel]
  rfl
theorem decK2 : ans (dec [90, 104, 61, 61]) = .tuple #[S [], .bool false] := by
  rw [show dec [90, 104, 61, 61] = none by decide +kernel]
  rfl
theorem decK3 : ans (dec [90, 103]) = .tuple #[S [], .bool false] := by
  rw [show dec [90, 103] = none by decide +kernel]
  rfl
theorem decK4 : ans (dec [90, 103, 61, 65]) = .tuple #[S [], .bool false] := by
  rw [show dec [90, 103, 61, 65] = none by decide +kernel]
  rfl
theorem decK5 : ans (dec []) = .tuple #[S [], .bool true] := by
  rw [show dec [] = some [] by decide +kernel]
  rfl
theorem decK6 : ans (dec [61, 61, 61, 61]) = .tuple #[S [], .bool false] := by
  rw [show dec [61, 61, 61, 61] = none by decide +kernel]
  rfl
theorem decK7 : ans (dec [90, 103, 61, 61, 90, 103, 61, 61]) = .tuple #[S [], .bool false] := by
  rw [show dec [90, 103, 61, 61, 90, 103, 61, 61] = none by decide +kernel]
  rfl
theorem encK0 : enc [102, 111, 111, 98] = [90, 109, 57, 118, 89, 103, 61, 61] := by decide +kernel
theorem encK1 : enc [] = [] := by decide +kernel
theorem encK2 : enc [102] = [90, 103, 61, 61] := by decide +kernel
theorem encK3 : enc [102, 111] = [90, 109, 56, 61] := by decide +kernel
theorem encK4 : enc [102, 111, 111] = [90, 109, 57, 118] := by decide +kernel

set_option maxRecDepth 100000 in
set_option maxHeartbeats 4000000 in
theorem awake_any (w : World) : Calls Try.prog 8 #[] w fun e w' => e = .returned (.bool true) ∧ Below w.heap.size w w' := by
  have k0 : Value.string ⟨#[90, 109, 57, 118, 89, 103, 61, 61]⟩ = S [90, 109, 57, 118, 89, 103, 61, 61] := rfl
  have k1 : Value.string ⟨#[102, 111, 111, 98]⟩ = S [102, 111, 111, 98] := rfl
  have hgd := guard_S
  have heq0 := eql_S 9 [102, 111, 111, 98] [102, 111, 111, 98]
  have heq1 := eql_S 9 [90, 109, 57, 118, 89, 103, 61, 61] [90, 109, 57, 118, 89, 103, 61, 61]
  rw [beq_self_eq_true] at heq0 heq1
  go_enter Try.func8, Try.ntmps8
  go_wp2_with fail
  refine (decode_any [90, 109, 57, 118, 89, 103, 61, 61] (by decide) w).mono ?_
  rintro e W1 ⟨rfl, B1⟩
  rw [decK0]
  have C1 := B1
  clear B1
  go_wp2_with fail
  refine (encode_any [102, 111, 111, 98] (by decide) W1).mono ?_
  rintro e W2 ⟨rfl, B2⟩
  rw [encK0]
  have C2 := C1.trans (B2.mono C1.size)
  clear C1 B2
  go_wp2_with fail
  refine (letters_any 4 (by decide) W2).mono ?_
  rintro e V2 ⟨rfl, rfl⟩
  go_wp2
  go_ret
  exact ⟨rfl, C2⟩

set_option maxRecDepth 100000 in
set_option maxHeartbeats 4000000 in
theorem known_any (w : World) : Calls Try.prog 3 #[] w fun e w' => e = .returned (.bool true) ∧ Below w.heap.size w w' := by
  have k0 : Value.string ⟨#[90, 109, 57, 118, 89, 109, 70, 121]⟩ = S [90, 109, 57, 118, 89, 109, 70, 121] := rfl
  have k1 : Value.string ⟨#[90, 104, 61, 61]⟩ = S [90, 104, 61, 61] := rfl
  have k2 : Value.string ⟨#[90, 103]⟩ = S [90, 103] := rfl
  have k3 : Value.string ⟨#[90, 103, 61, 65]⟩ = S [90, 103, 61, 65] := rfl
  have k4 : Value.string ⟨#[]⟩ = S [] := rfl
  have k5 : Value.string ⟨#[61, 61, 61, 61]⟩ = S [61, 61, 61, 61] := rfl
  have k6 : Value.string ⟨#[90, 103, 61, 61, 90, 103, 61, 61]⟩ = S [90, 103, 61, 61, 90, 103, 61, 61] := rfl
  have k7 : Value.string ⟨#[102]⟩ = S [102] := rfl
  have k8 : Value.string ⟨#[90, 103, 61, 61]⟩ = S [90, 103, 61, 61] := rfl
  have k9 : Value.string ⟨#[102, 111]⟩ = S [102, 111] := rfl
  have k10 : Value.string ⟨#[90, 109, 56, 61]⟩ = S [90, 109, 56, 61] := rfl
  have k11 : Value.string ⟨#[102, 111, 111]⟩ = S [102, 111, 111] := rfl
  have k12 : Value.string ⟨#[90, 109, 57, 118]⟩ = S [90, 109, 57, 118] := rfl
  have k13 : Value.string ⟨#[102, 111, 111, 98, 97, 114]⟩ = S [102, 111, 111, 98, 97, 114] := rfl
  have hgd := guard_S
  have heq0 := eql_S 9 [] []
  have heq1 := eql_S 9 [90, 103, 61, 61] [90, 103, 61, 61]
  have heq2 := eql_S 9 [90, 109, 56, 61] [90, 109, 56, 61]
  have heq3 := eql_S 9 [90, 109, 57, 118] [90, 109, 57, 118]
  have heq4 := eql_S 9 [102, 111, 111, 98, 97, 114] [102, 111, 111, 98, 97, 114]
  rw [beq_self_eq_true] at heq0 heq1 heq2 heq3 heq4
  go_enter Try.func3, Try.ntmps3
  go_wp2_with fail
  refine (decode_any [90, 109, 57, 118, 89, 109, 70, 121] (by decide) w).mono ?_
  rintro e W1 ⟨rfl, B1⟩
  rw [decK1]
  have C1 := B1
  clear B1
  go_wp2_with fail
  refine (decode_any [90, 104, 61, 61] (by decide) W1).mono ?_
  rintro e W2 ⟨rfl, B2⟩
  rw [decK2]
  have C2 := C1.trans (B2.mono C1.size)
  clear C1 B2
  go_wp2_with fail
  refine (decode_any [90, 103] (by decide) W2).mono ?_
  rintro e W3 ⟨rfl, B3⟩
  rw [decK3]
  have C3 := C2.trans (B3.mono C2.size)
  clear C2 B3
  go_wp2_with fail
  refine (decode_any [90, 103, 61, 65] (by decide) W3).mono ?_
  rintro e W4 ⟨rfl, B4⟩
  rw [decK4]
  have C4 := C3.trans (B4.mono C3.size)
  clear C3 B4
  go_wp2_with fail
  refine (decode_any [] (by decide) W4).mono ?_
  rintro e W5 ⟨rfl, B5⟩
  rw [decK5]
  have C5 := C4.trans (B5.mono C4.size)
  clear C4 B5
  go_wp2_with fail
  refine (decode_any [61, 61, 61, 61] (by decide) W5).mono ?_
  rintro e W6 ⟨rfl, B6⟩
  rw [decK6]
  have C6 := C5.trans (B6.mono C5.size)
  clear C5 B6
  go_wp2_with fail
  refine (decode_any [90, 103, 61, 61, 90, 103, 61, 61] (by decide) W6).mono ?_
  rintro e W7 ⟨rfl, B7⟩
  rw [decK7]
  have C7 := C6.trans (B7.mono C6.size)
  clear C6 B7
  go_wp2_with fail
  refine (awake_any W7).mono ?_
  rintro e W8 ⟨rfl, B8⟩
  have C8 := C7.trans (B8.mono C7.size)
  clear C7 B8
  go_wp2_with fail
  refine (encode_any [] (by decide) W8).mono ?_
  rintro e W9 ⟨rfl, B9⟩
  rw [encK1]
  have C9 := C8.trans (B9.mono C8.size)
  clear C8 B9
  go_wp2_with fail
  refine (encode_any [102] (by decide) W9).mono ?_
  rintro e W10 ⟨rfl, B10⟩
  rw [encK2]
  have C10 := C9.trans (B10.mono C9.size)
  clear C9 B10
  go_wp2_with fail
  refine (encode_any [102, 111] (by decide) W10).mono ?_
  rintro e W11 ⟨rfl, B11⟩
  rw [encK3]
  have C11 := C10.trans (B11.mono C10.size)
  clear C10 B11
  go_wp2_with fail
  refine (encode_any [102, 111, 111] (by decide) W11).mono ?_
  rintro e W12 ⟨rfl, B12⟩
  rw [encK4]
  have C12 := C11.trans (B12.mono C11.size)
  clear C11 B12
  go_wp2_with fail
  refine (letters_any 0 (by decide) W12).mono ?_
  rintro e V12 ⟨rfl, rfl⟩
  go_wp2_with fail
  refine (letters_neg W12).mono ?_
  rintro e V12 ⟨rfl, rfl⟩
  go_wp2_with fail
  refine (letters_any 20 (by decide) W12).mono ?_
  rintro e V12 ⟨rfl, rfl⟩
  go_wp2
  go_ret
  exact ⟨rfl, C12⟩
end Go.Proofs.Ytclnefackjonpaa
