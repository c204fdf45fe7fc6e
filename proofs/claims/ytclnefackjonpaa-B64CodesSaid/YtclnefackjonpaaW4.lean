/- The walks of withoutFiller and Decode. -/
import Derived.Test.YtclnefackjonpaaW3
import Derived.Lib.DecodeN
namespace Go.Proofs.Ytclnefackjonpaa
open Go.RowKit

theorem suffix_one (l : List UInt8) : Lib.trimSuffix l [61] = strip1 l := by
  rcases List.eq_nil_or_concat l with rfl | ⟨r, c, rfl⟩
  · rfl
  · rw [List.concat_eq_append, strip1_one]
    unfold Lib.trimSuffix Lib.hasSuffix
    have e : ([61] : List UInt8).isSuffixOf (r ++ [c]) = (61 == c) := by
      simp [List.isSuffixOf, List.isPrefixOf]
    rw [e]
    by_cases h : c = 61
    · subst h; simp
    · have h2 : ¬ 61 = c := fun e => h e.symm
      simp [h, h2]

theorem strip1_le (l : List UInt8) : (strip1 l).length ≤ l.length := by unfold strip1; split <;> simp
theorem without_any (t : List UInt8) (ht : t.length < 1000000000) (w : World) : Calls Try.prog 13 #[S t] w fun e w' => e = .returned (S (strip t)) ∧ w = w' := by
  have hs (l : List UInt8) (hl : l.length < 1000000000) (w : World) : Calls Try.prog 18 #[S l, .string ⟨#[61]⟩] w fun e w' => e = .returned (S (strip1 l)) ∧ w' = w := by
    refine (Try.strings_TrimSuffix ⟨l.toArray⟩ ⟨#[61]⟩ w (by rw [S_size]; omega)).mono ?_
    rintro e w' ⟨rfl, rfl⟩
    rw [← suffix_one]
    exact ⟨rfl, rfl⟩
  have h1 : (strip1 t).length < 1000000000 := Nat.lt_of_le_of_lt (strip1_le t) ht
  go_enter Try.func13, Try.ntmps13
  go_wp2_with fail
  refine (hs t ht w).mono ?_
  rintro e w' ⟨rfl, hw⟩
  rw [hw]
  clear hw
  go_wp2_with fail
  refine (hs (strip1 t) h1 w).mono ?_
  rintro e w' ⟨rfl, hw⟩
  rw [hw]
  clear hw
  go_wp2
  go_ret
  exact ⟨rfl, rfl⟩

theorem decode_ge (s : ByteArray) (i : Nat) (h : 128 ≤ (s.get! i).toNat) : 128 ≤ (Utf8.decode s i).1 ∧ (Utf8.decode s i).1 ≤ 1114111 := by
  rw [Lib.decode_at]
  generalize (s.get! i).toNat = b0 at *
  generalize (s.get! (i + 1)).toNat = b1
  generalize (s.get! (i + 2)).toNat = b2
  generalize (s.get! (i + 3)).toNat = b3
  generalize s.size - i = n
  unfold Lib.decodeN
  repeat' split
  all_goals (constructor <;> simp only <;> omega)
end Go.Proofs.Ytclnefackjonpaa
