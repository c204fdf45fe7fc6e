/- A reply's line, and what the statements ask of it. -/
import Derived.Test.YtmklgjbfdaleiaaDoorLm2
namespace Go.Proofs.YtmklgjbfdaleiaaDoor
open Go.RowKit

/-- HTTP/1.1 and a blank. -/
def httpS : List UInt8 := [72, 84, 84, 80, 47, 49, 46, 49, 32]
def digB (c : UInt8) : Bool := decide (48 ≤ c.toNat) && decide (c.toNat ≤ 57)
def codeN (a b c : UInt8) : Nat := 100 * (a.toNat - 48) + 10 * (b.toNat - 48) + (c.toNat - 48)
def statusF (s : List UInt8) : Nat × List UInt8 × Bool :=
  match s.drop 9 with
  | a :: b :: c :: 32 :: r => if s.take 9 = httpS ∧ digB a = true ∧ digB b = true ∧ digB c = true ∧ 49 ≤ a.toNat ∧ a.toNat ≤ 53 ∧ r.any badB = false then (codeN a b c, r, true) else (0, [], false)
  | _ => (0, [], false)
def statusV (p : Nat × List UInt8 × Bool) : Value := .tuple #[.int .i64 (p.1 : Int), S p.2.1, .bool p.2.2]
/-- The three digits of a code. -/
def dig3 (n : Nat) : List UInt8 := [UInt8.ofNat (48 + n / 100), UInt8.ofNat (48 + n / 10 % 10), UInt8.ofNat (48 + n % 10)]
theorem dec3 {n : Nat} (h1 : 100 ≤ n) (h2 : n ≤ 999) : Lib.decDigits n = dig3 n := by
  rw [Lib.decDigits, dif_neg (by omega), Lib.decDigits, dif_neg (by omega), Lib.decDigits, dif_pos (by omega)]
  unfold dig3
  have e : n / 10 / 10 = n / 100 := by omega
  rw [e]; rfl
theorem itoa3 {n : Nat} (h1 : 100 ≤ n) (h2 : n ≤ 999) : Lib.itoa (n : Int) = dig3 n := by
  unfold Lib.itoa
  rw [if_neg (by omega), show (n : Int).toNat = n by omega, dec3 h1 h2]
theorem dig_nat {k : Nat} (h : k ≤ 9) : (UInt8.ofNat (48 + k)).toNat = 48 + k := by
  rw [UInt8.toNat_ofNat']; omega
theorem status_false {s r : List UInt8} {c : Nat} (h : statusF s = (c, r, false)) : c = 0 ∧ r = [] := by
  unfold statusF at h
  split at h
  · split at h
    · cases h
    · cases h; exact ⟨rfl, rfl⟩
  · cases h; exact ⟨rfl, rfl⟩
theorem dig_of {a : UInt8} (h : digB a = true) : 48 ≤ a.toNat ∧ a.toNat ≤ 57 ∧ a = UInt8.ofNat (48 + (a.toNat - 48)) := by
  unfold digB at h
  rw [Bool.and_eq_true, decide_eq_true_eq, decide_eq_true_eq] at h
  refine ⟨h.1, h.2, ?_⟩
  rw [show 48 + (a.toNat - 48) = a.toNat by omega, UInt8.ofNat_toNat]
/-- What is read of a reply's line is put together as it. -/
theorem status_true {s r : List UInt8} {c : Nat} (h : statusF s = (c, r, true)) : 100 ≤ c ∧ c ≤ 599 ∧ r.any badB = false ∧ s = httpS ++ (dig3 c ++ 32 :: r) ∧ r.length ≤ s.length := by
  unfold statusF at h
  split at h
  · rename_i x a b c' r' hd
    split at h
    · rename_i hc
      obtain ⟨h9, ha, hb, hc', h1, h5, hr⟩ := hc
      cases h
      obtain ⟨a1, a2, a3⟩ := dig_of ha
      obtain ⟨b1, b2, b3⟩ := dig_of hb
      obtain ⟨c1, c2, c3⟩ := dig_of hc'
      have hs : s = httpS ++ (a :: b :: c' :: 32 :: r) := by rw [← h9, ← hd, List.take_append_drop]
      refine ⟨by unfold codeN; omega, by unfold codeN; omega, hr, ?_, by rw [hs]; simp; omega⟩
      have e1 : codeN a b c' / 100 = a.toNat - 48 := by unfold codeN; omega
      have e2 : codeN a b c' / 10 % 10 = b.toNat - 48 := by unfold codeN; omega
      have e3 : codeN a b c' % 10 = c'.toNat - 48 := by unfold codeN; omega
      rw [hs]
      unfold dig3
      rw [e1, e2, e3, ← a3, ← b3, ← c3]; rfl
    · cases h
  · cases h
/-- A code of three digits and a reason. -/
theorem status_code {n : Nat} (r : List UInt8) (h1 : 100 ≤ n) (h2 : n ≤ 999) : statusF (httpS ++ (dig3 n ++ 32 :: r)) = if n ≤ 599 ∧ r.any badB = false then (n, r, true) else (0, [], false) := by
  have hd : (httpS ++ (dig3 n ++ 32 :: r)).drop 9 = UInt8.ofNat (48 + n / 100) :: UInt8.ofNat (48 + n / 10 % 10) :: UInt8.ofNat (48 + n % 10) :: 32 :: r := rfl
  have ht : (httpS ++ (dig3 n ++ 32 :: r)).take 9 = httpS := rfl
  have ea := dig_nat (k := n / 100) (by omega)
  have eb := dig_nat (k := n / 10 % 10) (by omega)
  have ec := dig_nat (k := n % 10) (by omega)
  have dg : ∀ k, k ≤ 9 → digB (UInt8.ofNat (48 + k)) = true := fun k hk => by
    unfold digB; rw [dig_nat hk, decide_eq_true (by omega), decide_eq_true (by omega)]; rfl
  unfold statusF
  rw [hd]
  simp only
  rw [ht]
  have hcode : codeN (UInt8.ofNat (48 + n / 100)) (UInt8.ofNat (48 + n / 10 % 10)) (UInt8.ofNat (48 + n % 10)) = n := by unfold codeN; rw [ea, eb, ec]; omega
  rw [hcode]
  by_cases hc : n ≤ 599 ∧ r.any badB = false
  · rw [if_pos hc, if_pos ⟨rfl, dg _ (by omega), dg _ (by omega), dg _ (by omega), by rw [ea]; omega, by rw [ea]; omega, hc.2⟩]
  · rw [if_neg hc, if_neg]
    rintro ⟨_, _, _, _, _, h5, hr⟩
    rw [ea] at h5
    exact hc ⟨by omega, hr⟩
end Go.Proofs.YtmklgjbfdaleiaaDoor
