/- The walk of appendPart: the four letters of a part. -/
import Derived.Test.YtclnefackjonpaaBase3
namespace Go.Proofs.Ytclnefackjonpaa
open Go.RowKit
attribute [local go_sem] store_one B_match B_store convB

theorem wraps_i64 (n : Int) (h₀ : 0 ≤ n) (h₁ : n < 2 ^ 62) : IntKind.i64.wrap n = n := by rw [IntKind.wrap_i64]; omega
theorem i64_or16 (x y : Int) (hx0 : 0 ≤ x) (hx1 : x < 4611686018427387904) (hm : x % 65536 = 0) (hy0 : 0 ≤ y) (hy : y < 65536) : bits .or .i64 x y = x + y :=
  bits_join .i64 62 (by decide) wraps_i64 16 x y hx0 hm hx1 hy0 hy (by omega)
theorem i64_or8 (x y : Int) (hx0 : 0 ≤ x) (hx1 : x < 4611686018427387904) (hm : x % 256 = 0) (hy0 : 0 ≤ y) (hy : y < 256) : bits .or .i64 x y = x + y :=
  bits_join .i64 62 (by decide) wraps_i64 8 x y hx0 hm hx1 hy0 hy (by omega)
theorem i64_or6 (x y : Int) (hx0 : 0 ≤ x) (hx1 : x < 4611686018427387904) (hm : x % 64 = 0) (hy0 : 0 ≤ y) (hy : y < 64) : bits .or .i64 x y = x + y :=
  bits_join .i64 62 (by decide) wraps_i64 6 x y hx0 hm hx1 hy0 hy (by omega)
theorem i64_and63 (x : Int) (hx0 : 0 ≤ x) (hx1 : x < 4611686018427387904) : bits .and .i64 x 63 = x % 64 :=
  bits_mask .i64 62 (by decide) wraps_i64 6 (by decide) x hx0 hx1
theorem or_part1 (a b : Nat) (ha : a < 256) (hb : b < 256) : bits .or .i64 ((a : Int) * 65536) ((b : Int) * 256) = (a : Int) * 65536 + (b : Int) * 256 :=
  i64_or16 _ _ (by omega) (by omega) (by omega) (by omega) (by omega)
theorem or_part2 (a b c N : Nat) (ha : a < 256) (hb : b < 256) (hc : c < 256) (hN : N = a * 65536 + b * 256 + c) : bits .or .i64 ((a : Int) * 65536 + (b : Int) * 256) (c : Int) = (N : Int) := by
  rw [i64_or8 _ _ (by omega) (by omega) (by omega) (by omega) (by omega)]; omega
theorem index_text (s : ByteArray) (l : List UInt8) (hl : s.data.toList = l) (n : Nat) (x : UInt8) (hx : l[n]? = some x) (w : World) : (Instr.index 9 (.string s) (.int .i64 (n : Int))).run Try.prog w = .ok (B x) w := by
  subst hl
  obtain ⟨hlt, rfl⟩ := List.getElem?_eq_some_iff.1 hx
  have hs : n < s.size := by
    have := hlt
    rw [Array.length_toList] at this
    exact this
  rw [run_index_string (w := w) 9 s .i64 n Try.underlying9, dif_pos ⟨Int.natCast_nonneg _, by omega⟩]
  simp [B]
  rfl
theorem alpha_get : ∀ k : Fin 64, (alpha[k.val]?) = some (ltr k.val) := by decide +kernel
theorem ltr_index (n : Nat) (h : n < 64) (w : World) : (Instr.index 9 (.string ⟨#[65, 66, 67, 68, 69, 70, 71, 72, 73, 74, 75, 76, 77, 78, 79, 80, 81, 82, 83, 84, 85, 86, 87, 88, 89, 90, 97, 98, 99, 100, 101, 102, 103, 104, 105, 106, 107, 108, 109, 110, 111, 112, 113, 114, 115, 116, 117, 118, 119, 120, 121, 122, 48, 49, 50, 51, 52, 53, 54, 55, 56, 57, 43, 47]⟩) (.int .i64 (n : Int))).run Try.prog w = .ok (B (ltr n)) w :=
  index_text _ alpha rfl n _ (alpha_get ⟨n, h⟩) w

set_option maxRecDepth 100000 in
set_option maxHeartbeats 2000000 in
theorem part_any (base : Nat) (v : Value) (l p : List UInt8) (w : World) (hown : Own base v (l.map B) w) (hl : l.length < 900000000000) (hp : p.length ≤ 3) (hb : base ≤ w.heap.size) :
    Calls Try.prog 15 #[v, S p] w fun e w' => ∃ v', e = .returned v' ∧ Own base v' ((l ++ quad p).map B) w' ∧ Below base w w' := by
  obtain ⟨x0, x1, x2, W1, hn, hcp, R1, B1⟩ := copy_part w p hp
  have c0 := R1.byte _ rfl 0 (by simp)
  have c1 := R1.byte _ rfl 1 (by simp)
  have c2 := R1.byte _ rfl 2 (by simp)
  simp only [List.getElem?_cons_zero, List.getElem?_cons_succ, Option.getD_some] at c0 c1 c2
  have l0 := x0.toNat_lt
  have l1 := x1.toNat_lt
  have l2 := x2.toNat_lt
  have hN : n3 p < 16777216 := by omega
  have e1 := or_part1 _ _ l0 l1
  have e2 := or_part2 _ _ _ _ l0 l1 l2 hn
  obtain ⟨N, HNN⟩ : ∃ N, N = n3 p := ⟨_, rfl⟩
  rw [← HNN] at e2 hN
  have HN := Lib.hid HNN
  clear hn HNN
  have hlenS := run_len_S 3 p
  go_enter Try.func15, Try.ntmps15
  go_wp2
  clear e1 e2 c0 c1 c2 hcp
  have HW := Lib.hid (And.intro (show Own base v (l.map B) W1 from hown.below B1 (fun k hk => (hown.lt k hk).2)) (B1.mono hb))
  go_loopw [0, 24] (fun vv iv wr => ∃ k, k ≤ 4 ∧ iv = .int .i64 (k : Nat) ∧ Own base vv ((l ++ qds p k).map B) wr ∧ Below base w wr) (fun _ iv _ => 4 - (intOf iv).toNat)
  case atStart => exact ⟨0, by omega, rfl, by rw [qds, List.append_nil]; exact HW.out.1, HW.out.2⟩
  case round =>
    obtain ⟨k, hk, rfl, ho, hB⟩ := hrel
    by_cases hlt : k < 4
    · have hlen : (l ++ qds p k).length < 1000000000000 := by rw [List.length_append, qds_length]; omega
      have hsz : base ≤ wr.heap.size := Nat.le_trans hb hB.size
      have HQ : Hid (qds p (k + 1) = qds p k ++ [qd p k]) := Lib.hid rfl
      by_cases hf : p.length < k
      · have HD : Hid (qd p k = 61) := Lib.hid (by rw [qd, if_pos hf])
        go_wp2_with (first
          | (refine wpList_push_text rfl (.tmp 31) (.const (.string ⟨#[61]⟩)) (by with_reducible rfl) base _ rfl (l ++ qds p k) ho 61 rfl hlen hsz ?_; intro v' W2 o2 g2)
          | fail)
        go_roundw
        case rel => exact ⟨k + 1, by omega, by go_num, by rw [HQ.out, HD.out, ← List.append_assoc]; exact o2, below_own hB ho g2 (Nat.le_refl _) hsz⟩
        case measure => simp [intOf]; omega
      · obtain ⟨m, hm⟩ : ∃ m, m = N / 2 ^ (18 - 6 * k) % 64 := ⟨_, rfl⟩
        have hm64 : m < 64 := by rw [hm]; exact Nat.mod_lt _ (by decide)
        have hbits : bits .and .i64 ((N : Int) / 2 ^ (18 - 6 * k)) 63 = (m : Int) := by
          have e : ((N : Int) / 2 ^ (18 - 6 * k)) = ((N / 2 ^ (18 - 6 * k) : Nat) : Int) := by push_cast; rfl
          have hle : N / 2 ^ (18 - 6 * k) ≤ N := Nat.div_le_self _ _
          rw [e, i64_and63 _ (Int.natCast_nonneg _) (by omega), hm]; push_cast; rfl
        have hidx := ltr_index m hm64
        have HM := Lib.hid hm
        clear hm
        have HD : Hid (qd p k = ltr m) := Lib.hid (by rw [qd, if_neg hf, HM.out, HN.out])
        generalize ltr m = L at *
        go_wp2_with (first
          | (at_builtin; refine wpList_add_byte rfl (.tmp 33) (.tmp 41) rfl base wr _ rfl (l ++ qds p k) ho L _ rfl rfl rfl hlen hsz ?_; intro v' W2 o2 g2)
          | fail)
        go_roundw
        case rel => exact ⟨k + 1, by omega, by go_num, by rw [HQ.out, HD.out, ← List.append_assoc]; exact o2, below_own hB ho g2 (Nat.le_refl _) hsz⟩
        case measure => simp [intOf]; omega
    · obtain rfl : k = 4 := by omega
      go_wp2
      go_ret
      exact ⟨_, rfl, ho, hB⟩
end Go.Proofs.Ytclnefackjonpaa
