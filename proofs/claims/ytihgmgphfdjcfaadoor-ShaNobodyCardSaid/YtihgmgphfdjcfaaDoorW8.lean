/- The walks of awake and of ShaKnown. -/
import Derived.Test.YtihgmgphfdjcfaaDoorW7
namespace Go.Proofs.YtihgmgphfdjcfaaDoor
open Go.RowKit
attribute [local go_sem] U_add U_xor U_and U_or U_not U_shl U_shr store_one U_match B_match U_store B_store

/-- Texts are held against each other. -/
theorem eql_S (t : TypeId) (a b : List UInt8) : binOp .eql t (S a) (S b) = pure (.bool (a == b)) := by
  have e : ((⟨a.toArray⟩ : ByteArray).toList == (⟨b.toArray⟩ : ByteArray).toList) = (a == b) := by
    simp
  simp only [S, binOp, Op.stringOp]
  rw [e]

theorem guard_S (t : TypeId) (x y : Operand) (a b : List UInt8) : eqGuard .eql t x y (S a) (S b) = pure () := rfl

/-- The bytes of a whole variable, as a text. -/
theorem conv_row {w : World} {g : Nat} {l : List UInt8} {t : TypeId} (R : Row w g (bcells l) t) (hl : l.length = 20) (c : Nat) :
    (convert 25 9 (.slice (some ⟨g, 0, none⟩) 20 c)).run Tryd.prog w = .ok (S l) w := by
  have := run_bytes_cells w g l t R c
  rw [hl] at this; exact this
theorem shaL_length (t : List UInt8) : (shaL t).length = 20 := by rw [shaL, wbs_length]

set_option maxRecDepth 100000 in
set_option maxHeartbeats 2000000 in
theorem awake_any (w : World) (hs : Start w) : Calls Tryd.prog 10 #[] w fun e w' => e = .returned (.bool true) ∧ Below w.heap.size w w' := by
  have hz1 := z22
  have habc : Value.string ⟨#[97, 98, 99]⟩ = S [97, 98, 99] := rfl
  have hsum : Value.string ⟨#[169, 153, 62, 54, 71, 6, 129, 106, 186, 62, 37, 113, 120, 80, 194, 108, 156, 208, 216, 157]⟩ = S (shaL [97, 98, 99]) := by rw [sha_abc]; rfl
  have hgd := guard_S
  have heq := eql_S 9 (shaL [97, 98, 99]) (shaL [97, 98, 99])
  rw [beq_self_eq_true] at heq
  have HS1 : Hid ((Tryd.prog.info? 22).map (·.size) = some (bcells (shaL [97, 98, 99])).size) := by unfold Hid; rw [bcells_size, shaL_length]; exact i22
  have HS2 : Hid (Z20.size = (bcells (shaL [97, 98, 99])).size) := by unfold Hid; rw [bcells_size, shaL_length]; rfl
  generalize hL : shaL [97, 98, 99] = L at *
  have HL := Lib.hid hL
  have hlen : L.length = 20 := by rw [← hL]; exact shaL_length _
  have HLEN := Lib.hid hlen
  clear hL hlen
  go_enter Tryd.func10, Tryd.ntmps10
  go_wp2_with (first
    | (go_at_call 9; refine (sum_any [97, 98, 99] _ hs (by simp)).mono ?_; rintro e W1 ⟨rfl, B1⟩; rw [HL.out]; have RN := row_new W1 Z20 22)
    | (refine wpList_store_var rfl rfl 22 (.tmp 1) (.tmp 2) (by with_reducible rfl) W1.heap.size (bcells L) rfl rfl RN HS1.out HS2.out (bcells_one _) ?_; intro W2 R2 K2; have hcv := conv_row R2 HLEN.out))
  go_ret
  refine ⟨rfl, ?_⟩
  have z1 := B1.size
  exact (B1.trans ((Below.refl _ _).alloc z1 _)).trans (K2.below (by rw [alloc_size]; omega) z1)

set_option maxRecDepth 100000 in
set_option maxHeartbeats 2000000 in
theorem known_any (w : World) (hs : Start w) : Calls Tryd.prog 3 #[] w fun e w' => e = .returned (.bool true) ∧ Below w.heap.size w w' := by
  have hz1 := z22
  have hnone : Value.string ⟨#[]⟩ = S [] := rfl
  have h3 : Value.string ⟨#[97, 98, 99, 100, 98, 99, 100, 101, 99, 100, 101, 102, 100, 101, 102, 103, 101, 102, 103, 104, 102, 103, 104, 105, 103, 104, 105, 106, 104, 105, 106, 107, 105, 106, 107, 108, 106, 107, 108, 109, 107, 108, 109, 110, 108, 109, 110, 111, 109, 110, 111, 112, 110, 111, 112, 113]⟩ = S text3 := rfl
  have hsum1 : Value.string ⟨#[218, 57, 163, 238, 94, 107, 75, 13, 50, 85, 191, 239, 149, 96, 24, 144, 175, 216, 7, 9]⟩ = S (shaL []) := by rw [sha_none]; rfl
  have hsum2 : Value.string ⟨#[132, 152, 62, 68, 28, 59, 210, 110, 186, 174, 74, 161, 249, 81, 41, 229, 229, 70, 112, 241]⟩ = S (shaL text3) := by rw [sha_text3]; rfl
  have hgd := guard_S
  have heq1 := eql_S 9 (shaL []) (shaL [])
  rw [beq_self_eq_true] at heq1
  have heq2 := eql_S 9 (shaL text3) (shaL text3)
  rw [beq_self_eq_true] at heq2
  have HT3 : Hid (text3.length < 100000000000000) := by unfold Hid; decide
  have HS1 : Hid ((Tryd.prog.info? 22).map (·.size) = some (bcells (shaL [])).size) := by unfold Hid; rw [bcells_size, shaL_length]; exact i22
  have HS2 : Hid (Z20.size = (bcells (shaL [])).size) := by unfold Hid; rw [bcells_size, shaL_length]; rfl
  have HS3 : Hid ((Tryd.prog.info? 22).map (·.size) = some (bcells (shaL text3)).size) := by unfold Hid; rw [bcells_size, shaL_length]; exact i22
  have HS4 : Hid (Z20.size = (bcells (shaL text3)).size) := by unfold Hid; rw [bcells_size, shaL_length]; rfl
  generalize hL : shaL [] = L at *
  generalize hM : shaL text3 = M at *
  generalize hX : text3 = X at *
  have HL := Lib.hid hL
  have HM := Lib.hid hM
  have HX := Lib.hid hX
  have hlen : L.length = 20 := by rw [← hL]; exact shaL_length _
  have hlen2 : M.length = 20 := by rw [← hM]; exact shaL_length _
  have HLEN := Lib.hid hlen
  have HLEN2 := Lib.hid hlen2
  clear hL hlen hM hlen2 hX
  go_enter Tryd.func3, Tryd.ntmps3
  go_wp2_with fail
  refine (sum_any [] _ hs (by simp)).mono ?_
  rintro e W1 ⟨rfl, B1⟩
  rw [HL.out]
  have RN := row_new W1 Z20 22
  have S1 := hs.below B1 hs.lt
  go_wp2_with (first
    | (refine wpList_store_var rfl rfl 22 (.tmp 1) (.tmp 3) (by with_reducible rfl) W1.heap.size (bcells L) rfl rfl RN HS1.out HS2.out (bcells_one _) ?_; intro W2 R2 K2)
    | fail)
  have S2 := (S1.alloc (.cells Z20 22)).keeps K2 (Nat.ne_of_gt S1.lt)
  refine (sum_any X _ S2 HT3.out).mono ?_
  rintro e W3 ⟨rfl, B3⟩
  rw [HM.out]
  have RN3 := row_new W3 Z20 22
  have S3 := S2.below B3 S2.lt
  have R3 := R2.below B3 R2.lt
  go_wp2_with (first
    | (refine wpList_store_var rfl rfl 22 (.tmp 2) (.tmp 4) (by with_reducible rfl) W3.heap.size (bcells M) rfl rfl RN3 HS3.out HS4.out (bcells_one _) ?_; intro W4 R4 K4)
    | fail)
  have S4 := (S3.alloc (.cells Z20 22)).keeps K4 (Nat.ne_of_gt S3.lt)
  have R34 := (Row.alloc R3 (.cells Z20 22)).keeps K4 (Nat.ne_of_lt R3.lt)
  refine (awake_any _ S4).mono ?_
  rintro e W5 ⟨rfl, B5⟩
  have R5L := R34.below B5 R34.lt
  have R5M := R4.below B5 R4.lt
  have hc1 := conv_row R5L HLEN.out
  have hc2 := conv_row R5M HLEN2.out
  go_wp2
  go_ret
  refine ⟨rfl, ?_⟩
  have z1 := B1.size
  have y1 : (W1.alloc (.cells Z20 22)).heap.size = W1.heap.size + 1 := alloc_size _ _
  have z2 := K2.size
  have z3 := B3.size
  have y3 : (W3.alloc (.cells Z20 22)).heap.size = W3.heap.size + 1 := alloc_size _ _
  have z4 := K4.size
  have b2 := (B1.trans ((Below.refl _ _).alloc z1 _)).trans (K2.below (by omega) z1)
  have b4 := ((b2.trans (B3.mono (by omega))).trans ((Below.refl _ _).alloc (by omega) _)).trans (K4.below (k := w.heap.size) (by omega) (by omega))
  exact b4.trans (B5.mono (by omega))

end Go.Proofs.YtihgmgphfdjcfaaDoor
