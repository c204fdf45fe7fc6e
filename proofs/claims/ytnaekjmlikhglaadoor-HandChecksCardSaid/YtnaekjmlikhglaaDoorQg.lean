/- Texts of this proof, one behind the other. -/
import Derived.Test.YtnaekjmlikhglaaDoorQm
import Derived.Test.YtnaekjmlikhglaaDoorProg
import Derived.Test.YtnaekjmlikhglaaDoorShelf
import Derived.Shelf.Small.Strs
/- Bytes compared with numbers. -/
namespace Go.Proofs.YtnaekjmlikhglaaDoor
open Go.RowKit

theorem B_geq (t : TypeId) (x : UInt8) (k : Int) : binOp .geq t (B x) (.int .u8 k) = pure (.bool (decide (k ≤ (x.toNat : Int)))) := rfl
theorem B_leq (t : TypeId) (x : UInt8) (k : Int) : binOp .leq t (B x) (.int .u8 k) = pure (.bool (decide ((x.toNat : Int) ≤ k))) := rfl
theorem B_add32 (t : TypeId) (x : UInt8) (h : x.toNat ≤ 90) : binOp .add t (B x) (.int .u8 32) = pure (B (x + 32)) := by
  have e : ((x + 32).toNat : Int) = (x.toNat : Int) + 32 := by rw [UInt8.toNat_add]; show (((x.toNat + 32) % 256 : Nat) : Int) = _; omega
  have hw : IntKind.u8.wrap ((x.toNat : Int) + 32) = (x.toNat : Int) + 32 := by rw [IntKind.wrap_u8]; omega
  simp only [B, e]
  show pure (Value.int .u8 (IntKind.u8.wrap ((x.toNat : Int) + 32))) = _
  rw [hw]
theorem neqN (x y : UInt8) : ((x.toNat : Int) != (y.toNat : Int)) = !(x == y) := by
  rw [bne, beqB]
theorem eguard_BN (o1 o2 : Operand) (x : UInt8) (k : Int) : eqGuard .eql 5 o1 o2 (B x) (.int .u8 k) = pure () := rfl
theorem nguard_BN (o1 o2 : Operand) (x : UInt8) (k : Int) : eqGuard .neq 5 o1 o2 (B x) (.int .u8 k) = pure () := rfl
theorem B_neqN (t : TypeId) (x : UInt8) (k : Int) : binOp .neq t (B x) (.int .u8 k) = pure (.bool ((x.toNat : Int) != k)) := rfl
theorem B_eqlN (t : TypeId) (x : UInt8) (k : Int) : binOp .eql t (B x) (.int .u8 k) = pure (.bool ((x.toNat : Int) == k)) := rfl
theorem bad_facts (c : UInt8) : (badB c = false ∧ ((c.toNat : Int) != 9) = false ∧ (c.toNat != 9) = false) ∨
    (badB c = true ∧ ((c.toNat : Int) != 9) = true ∧ (c.toNat != 9) = true ∧ decide ((c.toNat : Int) < 32) = true ∧ decide (c.toNat < 32) = true) ∨
    (badB c = true ∧ ((c.toNat : Int) != 9) = true ∧ (c.toNat != 9) = true ∧ decide ((c.toNat : Int) < 32) = false ∧ decide (c.toNat < 32) = false ∧ ((c.toNat : Int) == 127) = true ∧ (c.toNat == 127) = true) ∨
    (badB c = false ∧ ((c.toNat : Int) != 9) = true ∧ (c.toNat != 9) = true ∧ decide ((c.toNat : Int) < 32) = false ∧ decide (c.toNat < 32) = false ∧ ((c.toNat : Int) == 127) = false ∧ (c.toNat == 127) = false) := by
  have e9 : ((c.toNat : Int) != 9) = (c.toNat != 9) := by rw [Bool.eq_iff_iff, bne_iff_ne, bne_iff_ne]; omega
  have e32 : decide ((c.toNat : Int) < 32) = decide (c.toNat < 32) := by rw [Bool.eq_iff_iff, decide_eq_true_iff, decide_eq_true_iff]; omega
  have e127 : ((c.toNat : Int) == 127) = (c.toNat == 127) := by rw [Bool.eq_iff_iff, beq_iff_eq, beq_iff_eq]; omega
  unfold badB
  rw [e9, e32, e127]
  cases h9 : c.toNat != 9 <;> cases h32 : decide (c.toNat < 32) <;> cases h127 : c.toNat == 127 <;> simp
theorem colon_facts (c : UInt8) : (c = 58 ∧ ((c.toNat : Int) != 58) = false ∧ (c.toNat != 58) = false) ∨ (c ≠ 58 ∧ ((c.toNat : Int) != 58) = true ∧ (c.toNat != 58) = true) := by
  by_cases h : c = 58
  · subst h; exact .inl ⟨rfl, rfl, rfl⟩
  · have h2 : c.toNat ≠ 58 := fun e => h (UInt8.toNat_inj.1 (by rw [e]; rfl))
    exact .inr ⟨h, by rw [bne_iff_ne]; omega, by rw [bne_iff_ne]; exact h2⟩
theorem blank_facts (c : UInt8) : (blankB c = true ∧ ((c.toNat : Int) == 9) = true ∧ (c.toNat == 9) = true) ∨ (blankB c = true ∧ ((c.toNat : Int) == 9) = false ∧ (c.toNat == 9) = false ∧ ((c.toNat : Int) == 32) = true ∧ (c.toNat == 32) = true) ∨
    (blankB c = false ∧ ((c.toNat : Int) == 9) = false ∧ (c.toNat == 9) = false ∧ ((c.toNat : Int) == 32) = false ∧ (c.toNat == 32) = false) := by
  unfold blankB
  have e9 : ((c.toNat : Int) == 9) = (c.toNat == 9) := by rw [Bool.eq_iff_iff, beq_iff_eq, beq_iff_eq]; omega
  have e32 : ((c.toNat : Int) == 32) = (c.toNat == 32) := by rw [Bool.eq_iff_iff, beq_iff_eq, beq_iff_eq]; omega
  rw [e9, e32]
  cases h9 : c.toNat == 9 <;> cases h32 : c.toNat == 32 <;> simp
theorem comma_facts (c : UInt8) : (c = 44 ∧ ((c.toNat : Int) == 44) = true ∧ (c.toNat == 44) = true) ∨ (c ≠ 44 ∧ ((c.toNat : Int) == 44) = false ∧ (c.toNat == 44) = false) := by
  by_cases h : c = 44
  · subst h; exact .inl ⟨rfl, rfl, rfl⟩
  · have h2 : c.toNat ≠ 44 := fun e => h (UInt8.toNat_inj.1 (by rw [e]; rfl))
    exact .inr ⟨h, by rw [beq_eq_false_iff_ne]; omega, by rw [beq_eq_false_iff_ne]; exact h2⟩
theorem B_sub65 (t : TypeId) (x : UInt8) (h : 65 ≤ x.toNat) : binOp .sub t (B x) (.int .u8 65) = pure (.int .u8 ((x.toNat : Int) - 65)) := by
  have := x.toNat_lt
  have hw : IntKind.u8.wrap ((x.toNat : Int) - 65) = (x.toNat : Int) - 65 := by rw [IntKind.wrap_u8]; omega
  simp only [B]
  show pure (Value.int .u8 (IntKind.u8.wrap ((x.toNat : Int) - 65))) = _
  rw [hw]
theorem add97 (t : TypeId) (x : UInt8) (h : 65 ≤ x.toNat) (h2 : x.toNat ≤ 90) : binOp .add t (.int .u8 ((x.toNat : Int) - 65)) (.int .u8 97) = pure (B (x + 32)) := by
  have e : ((x + 32).toNat : Int) = (x.toNat : Int) + 32 := by rw [UInt8.toNat_add]; show (((x.toNat + 32) % 256 : Nat) : Int) = _; omega
  have hw : IntKind.u8.wrap ((x.toNat : Int) - 65 + 97) = (x.toNat : Int) + 32 := by rw [IntKind.wrap_u8]; omega
  simp only [B, e]
  show pure (Value.int .u8 (IntKind.u8.wrap ((x.toNat : Int) - 65 + 97))) = _
  rw [hw]
end Go.Proofs.YtnaekjmlikhglaaDoor
/- The document's tokens walked. -/
namespace Go.Proofs.YtnaekjmlikhglaaDoor
open Go.RowKit

section
attribute [local go_sem] store_one S_match S_store S_add eql_S guard_S neql_S nguard_S B_eql eguard_B
theorem tok_index (i : Nat) (x : UInt8) (hx : tokAll[i]? = some x) (w : World) : (Instr.index 9 (.string ⟨([65, 66, 67, 68, 69, 70, 71, 72, 73, 74, 75, 76, 77, 78, 79, 80, 81, 82, 83, 84, 85, 86, 87, 88, 89, 90, 97, 98, 99, 100, 101, 102, 103, 104, 105, 106, 107, 108].append [109, 110, 111, 112, 113, 114, 115, 116, 117, 118, 119, 120, 121, 122, 48, 49, 50, 51, 52, 53, 54, 55, 56, 57, 33, 35, 36, 37, 38, 39, 42, 43, 45, 46, 94, 95, 96, 124, 126]).toArray⟩) (.int .i64 (i : Int))).run Tryd.prog w = .ok (B x) w :=
  index_text Tryd.underlying9 _ tokAll rfl i x hx w
theorem lit_B (s : ByteArray) (i : Nat) (h : i < s.size) (x : UInt8) (hl : s.data.toList[i]? = some x) : Value.int .u8 (((s[i]'h).toNat : Nat) : Int) = B x := by
  have e : s[i]'h = x := by
    rw [get_text s i h] at hl
    exact Option.some.inj hl
  rw [e, B]
end
end Go.Proofs.YtnaekjmlikhglaaDoor
/- The landed Token walked. -/
namespace Go.Proofs.YtnaekjmlikhglaaDoor
open Go.RowKit
attribute [local go_sem] store_one S_match S_store eguard_BN nguard_BN

theorem mark_any (c : UInt8) (w : World) : Calls Tryd.prog 67 #[.string ⟨#[33, 35, 36, 37, 38, 39, 42, 43, 45, 46, 94, 95, 96, 124, 126]⟩, B c] w fun e w' => e = .returned (.int .i64 (Lib.indexByte markL c)) ∧ w' = w := by
  have h := Any.strings_IndexByte Tryd.lays137 ⟨#[33, 35, 36, 37, 38, 39, 42, 43, 45, 46, 94, 95, 96, 124, 126]⟩ (c.toNat : Int) w
  have e : (c.toNat : Int).toNat.toUInt8 = c := by simp
  rw [e] at h
  exact h
end Go.Proofs.YtnaekjmlikhglaaDoor
