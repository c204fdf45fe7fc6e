/- The walk of ShaWrites. -/
import Derived.Test.YtihgmgphfdjcfaaDoorV
import Derived.Test.YtihgmgphfdjcfaaDoorR3
namespace Go.Proofs.YtihgmgphfdjcfaaDoor
open Go.RowKit

/-- How long the first pieces are together, none counted for more than 5001. -/
def msum (z : Nat → List UInt8) : Nat → Nat
  | 0 => 0
  | k + 1 => msum z k + min (z k).length 5001
/-- The first pieces, one behind the other. -/
def cat (z : Nat → List UInt8) : Nat → List UInt8
  | 0 => []
  | k + 1 => cat z k ++ z k
theorem msum_le (z : Nat → List UInt8) : ∀ k, msum z k ≤ 5001 * k
  | 0 => Nat.le_refl _
  | k + 1 => by have := msum_le z k; rw [msum]; omega
theorem msum_step (z : Nat → List UInt8) (k : Nat) : ∀ j, msum z k ≤ msum z (k + j)
  | 0 => Nat.le_refl _
  | j + 1 => Nat.le_trans (msum_step z k j) (by rw [← Nat.add_assoc, msum]; omega)
theorem cat_length (z : Nat → List UInt8) : ∀ k, msum z k ≤ 5000 → (cat z k).length = msum z k
  | 0, _ => rfl
  | k + 1, h => by
    rw [msum] at h ⊢
    have ih := cat_length z k (by omega)
    rw [cat, List.length_append, ih]
    omega

attribute [local go_sem] U_add U_xor U_and U_or U_not U_shl U_shr store_one U_match B_match U_store B_store

set_option maxRecDepth 100000 in
set_option maxHeartbeats 2000000 in
theorem writes_any (V : Value) (n : Nat) (ad : Nat → Addr) (z : Nat → List UInt8) (w : World) (hs : Start w) (hV : Came w 27 V n ad (fun i => S (z i))) :
    Calls Tryd.prog 5 #[V] w fun e w' => e = .returned (.bool true) ∧ Below w.heap.size w w' := by
  have HV := Lib.hid hV
  clear hV
  go_enter Tryd.func5, Tryd.ntmps5
  go_wp2_with fail
  refine (awake_any w hs).mono ?_
  rintro e W1 ⟨rfl, B1⟩
  have S1 := hs.below B1 hs.lt
  have V1 := Lib.hid (HV.out.below B1)
  have hlenV := HV.out.len 3
  have hlenS := run_len_S 3
  go_wp2
  go_loop [3, 4] (fun nv iv => ∃ k : Nat, k ≤ n ∧ k ≤ 101 ∧ iv = .int .i64 k ∧ nv = .int .i64 (msum z k)) (fun _ iv => n - (intOf iv).toNat)
  case atStart => exact ⟨0, Nat.zero_le _, Nat.zero_le _, rfl, rfl⟩
  case round =>
    obtain ⟨k, hk, hk1, rfl, rfl⟩ := hrel
    have hm := msum_le z k
    by_cases hlt : k < n
    · by_cases h100 : k ≤ 100
      · have hx := HV.out.index k hlt
        have hcell : W1.cell? (ad k) = some (S (z k)) := V1.out.cell k hlt
        go_wp2
        go_round
        case rel => exact ⟨k + 1, by omega, by omega, by go_num, by rw [msum]; congr 1; omega⟩
        case measure => simp [intOf]; omega
      · have hb : decide (100 < (n : Int)) = true := by simp; omega
        go_wp2
        go_ret
        exact ⟨rfl, B1⟩
    · obtain rfl : k = n := by omega
      by_cases hb0 : 100 < k
      · have hb : decide (100 < (k : Int)) = true := by simp; omega
        go_wp2
        go_ret
        exact ⟨rfl, B1⟩
      have hb : decide (100 < (k : Int)) = false := by simp; omega
      by_cases hc0 : 5000 < msum z k
      · have hc : decide (5000 < (msum z k : Int)) = true := by simp; omega
        go_wp2
        go_ret
        exact ⟨rfl, B1⟩
      have hc : decide (5000 < (msum z k : Int)) = false := by simp; omega
      go_wp2_with fail
      have z1 := B1.size
      refine (new_any W1).mono ?_
      rintro e W2 ⟨rfl, hW2⟩
      have I2 : IsHash W1.heap.size [] W2 := by rw [hW2]; exact isHash_new _ _ (row_new _ _ _)
      have S2 : Start W2 := by rw [hW2]; exact S1.alloc _
      have B2 : Below w.heap.size w W2 := by rw [hW2]; exact B1.alloc z1 _
      clear hW2
      generalize W1.heap.size = bh at *
      clear B1 S1 V1 hb hc
      have hempty : Value.string ⟨#[]⟩ = S [] := rfl
      have H3 := Lib.hid (And.intro I2 (And.intro S2 B2))
      clear I2 S2 B2
      go_wp2
      go_loopw [6, 7] (fun av iv wr => ∃ j, j ≤ k ∧ iv = .int .i64 (j : Nat) ∧ av = S (cat z j) ∧ IsHash bh (cat z j) wr ∧ Start wr ∧ Below w.heap.size w wr) (fun _ iv _ => k - (intOf iv).toNat)
      case atStart => exact ⟨0, Nat.zero_le _, rfl, rfl, H3.out⟩
      case round =>
        obtain ⟨j, hj, rfl, rfl, hI, hS, hB⟩ := hrel
        have hb1 := hs.lt
        have m1 : msum z j ≤ msum z k := by have := msum_step z j (k - j); rwa [show j + (k - j) = k by omega] at this
        have L0 := cat_length z j (by omega)
        have hl0 : (cat z j).length ≤ 5000 := by omega
        clear m1 L0
        have heq := eq_sum
        have hgd := guard22
        by_cases hlt : j < k
        · have m1 : msum z (j + 1) ≤ msum z k := by have := msum_step z (j + 1) (k - (j + 1)); rwa [show j + 1 + (k - (j + 1)) = k by omega] at this
          have L1 := cat_length z (j + 1) (by omega)
          rw [cat, List.length_append] at L1
          have hl1 : (cat z j).length + (z j).length ≤ 5000 := by omega
          clear m1 L1
          have hx := HV.out.index j hlt
          have hcell : wr.cell? (ad j) = some (S (z j)) := (HV.out.below hB).cell j hlt
          have HI := Lib.hid (And.intro hI (And.intro hS hB))
          clear hI hS hB
          go_wp2_with fail
          obtain ⟨q1, q2, q3⟩ := HI.out
          refine (write_any bh (cat z j) (z j) wr q1 q2 (by omega)).mono ?_
          rintro e V1 ⟨rfl, M1, K1⟩
          have p1 := M1.isHash
          have p2 := q2.keeps K1 (by omega)
          have p3 := q3.trans (K1.below (k := w.heap.size) q3.size z1)
          have hcell2 : V1.cell? (ad j) = some (S (z j)) := (HV.out.below p3).cell j hlt
          have hadd := S_add 9 (cat z j) (z j) (by omega)
          have HC : Hid (cat z (j + 1) = cat z j ++ z j) := rfl
          have hl2 : (cat z j ++ z j).length ≤ 5000 := by rw [List.length_append]; omega
          generalize cat z j ++ z j = C at *
          clear M1 q1 q2 q3 hcell hempty
          have HP := Lib.hid (And.intro p1 (And.intro p2 p3))
          clear p1 p2 p3
          go_wp2_with fail
          obtain ⟨p1, p2, p3⟩ := HP.out
          refine (hashSum_any bh C V1 p1 p2 (by omega)).mono ?_
          rintro e V3 ⟨rfl, C3⟩
          have a1 := p1.below C3 p1.lt
          have a2 := p2.below C3 p2.lt
          have a3 := p3.trans (C3.mono p3.size)
          clear p1 p2 p3 C3
          go_wp2_with fail
          refine (ref_any C (by omega) V3).mono ?_
          rintro e V4 ⟨rfl, C4⟩
          have b1 := a1.below C4 a1.lt
          have b2 := a2.below C4 a2.lt
          have b3 := a3.trans (C4.mono a3.size)
          clear a1 a2 a3 C4
          go_wp2_with fail
          refine (len_any bh C V4 b1).mono ?_
          rintro e V5 ⟨rfl, rfl⟩
          go_wp2
          go_roundw
          case rel => exact ⟨j + 1, by omega, by go_num, by rw [HC.out], by rw [HC.out]; exact b1, b2, b3⟩
          case measure => simp [intOf]; omega
        · obtain rfl : j = k := by omega
          have HI := Lib.hid (And.intro hI (And.intro hS hB))
          clear hI hS hB
          go_wp2_with fail
          obtain ⟨q1, q2, q3⟩ := HI.out
          refine (hashSum_any bh (cat z j) wr q1 q2 (by omega)).mono ?_
          rintro e V3 ⟨rfl, C3⟩
          have a3 := q3.trans (C3.mono q3.size)
          clear q1 q2 q3 C3
          go_wp2_with fail
          refine (ref_any (cat z j) (by omega) V3).mono ?_
          rintro e V4 ⟨rfl, C4⟩
          go_wp2
          go_ret
          exact ⟨rfl, a3.trans (C4.mono a3.size)⟩
end Go.Proofs.YtihgmgphfdjcfaaDoor
