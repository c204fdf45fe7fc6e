/- What the statements ask of the packages beside that of lines. T: what a world is asked to hold (the table that the numerals are written by). -/
import Derived.Test.YtemlbegafkmgbaaDoorLi
namespace Go.Proofs.YtemlbegafkmgbaaDoor
open Go.RowKit

structure OutI (T : World → Prop) : Prop where
  token : ∀ (s : List UInt8) (w : World), s.length ≤ 100000 → Calls Tryd.prog 18 #[S s] w fun e w' => e = .returned (.bool (tokF s)) ∧ Below w.heap.size w w'
  fparse : ∀ (s : List UInt8) (w : World), s.length ≤ 100000 → Calls Tryd.prog 19 #[S s] w fun e w' => e = .returned (parseV (parseF s)) ∧ Below w.heap.size w w'
  itoa : ∀ (n : Int) (w : World), -9223372036854775808 ≤ n → n ≤ 9223372036854775807 → T w → Calls Tryd.prog 17 #[.int .i64 n] w fun e w' => e = .returned (S (Lib.itoa n)) ∧ Below w.heap.size w w'
  small : ∀ (n : Nat) (w : World), n < 10 → Calls Tryd.prog 17 #[.int .i64 (n : Int)] w fun e w' => e = .returned (S [UInt8.ofNat (48 + n)]) ∧ Below w.heap.size w w'
  keep : ∀ w w' : World, T w → Below w.heap.size w w' → T w'
theorem digits_len : ∀ (f u : Nat), u < 10 ^ f → (Lib.decDigits u).length ≤ f + 1
  | 0, u, h => by
    obtain rfl : u = 0 := by omega
    rw [Lib.decDigits, dif_pos (by omega)]; simp
  | f + 1, u, h => by
    rw [Lib.decDigits]
    split
    · simp
    · rw [List.length_append]
      have h2 : u / 10 < 10 ^ f := by
        rw [Nat.pow_succ] at h
        omega
      have := digits_len f (u / 10) h2
      simp; omega
theorem itoa_len {n : Int} (h0 : -9223372036854775808 ≤ n) (h1 : n ≤ 9223372036854775807) : (Lib.itoa n).length ≤ 100 := by
  unfold Lib.itoa
  split
  · have := digits_len 20 n.natAbs (by omega)
    rw [List.length_cons]; omega
  · have := digits_len 20 n.toNat (by omega)
    omega
end Go.Proofs.YtemlbegafkmgbaaDoor
