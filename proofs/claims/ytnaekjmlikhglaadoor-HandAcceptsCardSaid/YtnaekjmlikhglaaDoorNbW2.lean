/- Texts of this proof, one behind the other. -/
import Derived.Test.YtnaekjmlikhglaaDoorNbBase4
import Derived.Test.YtnaekjmlikhglaaDoorNbMath4
/- The walk of appendPart: the four letters of a part. -/
namespace Go.Proofs.YtnaekjmlikhglaaDoor.bb
open Go.RowKit
attribute [local go_sem] store_one B_match B_store convB

theorem wraps_i64 (n : Int) (h₀ : 0 ≤ n) (h₁ : n < 2 ^ 62) : IntKind.i64.wrap n = n := by rw [IntKind.wrap_i64]; omega
theorem i64_or16 (x y : Int) (hx0 : 0 ≤ x) (hx1 : x < 4611686018427387904) (hm : x % 65536 = 0) (hy0 : 0 ≤ y) (hy : y < 65536) : bits .or .i64 x y = x + y :=
  bits_join .i64 62 (by decide) wraps_i64 16 x y hx0 hm hx1 hy0 hy (by omega)
theorem i64_or8 (x y : Int) (hx0 : 0 ≤ x) (hx1 : x < 4611686018427387904) (hm : x % 256 = 0) (hy0 : 0 ≤ y) (hy : y < 256) : bits .or .i64 x y = x + y :=
  bits_join .i64 62 (by decide) wraps_i64 8 x y hx0 hm hx1 hy0 hy (by omega)
theorem i64_or6 (x y : Int) (hx0 : 0 ≤ x) (hx1 : x < 4611686018427387904) (hm : x % 64 = 0) (hy0 : 0 ≤ y) (hy : y < 64) : bits .or .i64 x y = x + y :=
  bits_join .i64 62 (by decide) wraps_i64 6 x y hx0 hm hx1 hy0 hy (by omega)
theorem i64_and63 (x : Int) (hx0 : 0 ≤ x) (hx1 : x < 4611686018427387904) : bits .and .i64 x 63 = x % 64 :=
  bits_mask .i64 62 (by decide) wraps_i64 6 (by decide) x hx0 hx1
theorem or_part1 (a b : Nat) (ha : a < 256) (hb : b < 256) : bits .or .i64 ((a : Int) * 65536) ((b : Int) * 256) = (a : Int) * 65536 + (b : Int) * 256 :=
  i64_or16 _ _ (by omega) (by omega) (by omega) (by omega) (by omega)
theorem or_part2 (a b c N : Nat) (ha : a < 256) (hb : b < 256) (hc : c < 256) (hN : N = a * 65536 + b * 256 + c) : bits .or .i64 ((a : Int) * 65536 + (b : Int) * 256) (c : Int) = (N : Int) := by
  rw [i64_or8 _ _ (by omega) (by omega) (by omega) (by omega) (by omega)]; omega
theorem index_text (s : ByteArray) (l : List UInt8) (hl : s.data.toList = l) (n : Nat) (x : UInt8) (hx : l[n]? = some x) (w : World) : (Instr.index 9 (.string s) (.int .i64 (n : Int))).run Tryd.prog w = .ok (B x) w := by
  subst hl
  obtain ⟨hlt, rfl⟩ := List.getElem?_eq_some_iff.1 hx
  have hs : n < s.size := by
    have := hlt
    rw [Array.length_toList] at this
    exact this
  rw [run_index_string (w := w) 9 s .i64 n Tryd.underlying9, dif_pos ⟨Int.natCast_nonneg _, by omega⟩]
  simp [B]
  rfl
theorem alpha_get : ∀ k : Fin 64, (alpha[k.val]?) = some (ltr k.val) := by decide +kernel
theorem ltr_index (n : Nat) (h : n < 64) (w : World) : (Instr.index 9 (.string ⟨#[65, 66, 67, 68, 69, 70, 71, 72, 73, 74, 75, 76, 77, 78, 79, 80, 81, 82, 83, 84, 85, 86, 87, 88, 89, 90, 97, 98, 99, 100, 101, 102, 103, 104, 105, 106, 107, 108, 109, 110, 111, 112, 113, 114, 115, 116, 117, 118, 119, 120, 121, 122, 48, 49, 50, 51, 52, 53, 54, 55, 56, 57, 43, 47]⟩) (.int .i64 (n : Int))).run Tryd.prog w = .ok (B (ltr n)) w :=
  index_text _ alpha rfl n _ (alpha_get ⟨n, h⟩) w

set_option maxRecDepth 100000 in
set_option maxHeartbeats 2000000 in
theorem part_any (base : Nat) (v : Value) (l p : List UInt8) (w : World) (hown : Own base v (l.map B) w) (hl : l.length < 900000000000) (hp : p.length ≤ 3) (hb : base ≤ w.heap.size) :
    Calls Tryd.prog 45 #[v, S p] w fun e w' => ∃ v', e = .returned v' ∧ Own base v' ((l ++ quad p).map B) w' ∧ Below base w w' := by
  obtain ⟨x0, x1, x2, W1, hn, hcp, R1, B1⟩ := copy_part w p hp
  have c0 := R1.byte _ rfl 0 (by simp)
  have c1 := R1.byte _ rfl 1 (by simp)
  have c2 := R1.byte _ rfl 2 (by simp)
  simp only [List.getElem?_cons_zero, List.getElem?_cons_succ, Option.getD_some] at c0 c1 c2
  have l0 := x0.toNat_lt
  have l1 := x1.toNat_lt
  have l2 := x2.toNat_lt
  have hN : n3 p < 16777216 := by omega
  have e1 := or_part1 _ _ l0 l1
  have e2 := or_part2 _ _ _ _ l0 l1 l2 hn
  obtain ⟨N, HNN⟩ : ∃ N, N = n3 p := ⟨_, rfl⟩
  rw [← HNN] at e2 hN
  have HN := Lib.hid HNN
  clear hn HNN
  have hlenS := run_len_S 3 p
  go_enter Tryd.func45, Tryd.ntmps45
  go_wp2
  clear e1 e2 c0 c1 c2 hcp
  have HW := Lib.hid (And.intro (show Own base v (l.map B) W1 from hown.below B1 (fun k hk => (hown.lt k hk).2)) (B1.mono hb))
  go_loopw [0, 24] (fun vv iv wr => ∃ k, k ≤ 4 ∧ iv = .int .i64 (k : Nat) ∧ Own base vv ((l ++ qds p k).map B) wr ∧ Below base w wr) (fun _ iv _ => 4 - (intOf iv).toNat)
  case atStart => exact ⟨0, by omega, rfl, by rw [qds, List.append_nil]; exact HW.out.1, HW.out.2⟩
  case round =>
    obtain ⟨k, hk, rfl, ho, hB⟩ := hrel
    by_cases hlt : k < 4
    · have hlen : (l ++ qds p k).length < 1000000000000 := by rw [List.length_append, qds_length]; omega
      have hsz : base ≤ wr.heap.size := Nat.le_trans hb hB.size
      have HQ : Hid (qds p (k + 1) = qds p k ++ [qd p k]) := Lib.hid rfl
      by_cases hf : p.length < k
      · have HD : Hid (qd p k = 61) := Lib.hid (by rw [qd, if_pos hf])
        go_wp2_with (first
          | (refine wpList_push_text rfl (.tmp 31) (.const (.string ⟨#[61]⟩)) (by with_reducible rfl) base _ rfl (l ++ qds p k) ho 61 rfl hlen hsz ?_; intro v' W2 o2 g2)
          | fail)
        go_roundw
        case rel => exact ⟨k + 1, by omega, by go_num, by rw [HQ.out, HD.out, ← List.append_assoc]; exact o2, below_own hB ho g2 (Nat.le_refl _) hsz⟩
        case measure => simp [intOf]; omega
      · obtain ⟨m, hm⟩ : ∃ m, m = N / 2 ^ (18 - 6 * k) % 64 := ⟨_, rfl⟩
        have hm64 : m < 64 := by rw [hm]; exact Nat.mod_lt _ (by decide)
        have hbits : bits .and .i64 ((N : Int) / 2 ^ (18 - 6 * k)) 63 = (m : Int) := by
          have e : ((N : Int) / 2 ^ (18 - 6 * k)) = ((N / 2 ^ (18 - 6 * k) : Nat) : Int) := by push_cast; rfl
          have hle : N / 2 ^ (18 - 6 * k) ≤ N := Nat.div_le_self _ _
          rw [e, i64_and63 _ (Int.natCast_nonneg _) (by omega), hm]; push_cast; rfl
        have hidx := ltr_index m hm64
        have HM := Lib.hid hm
        clear hm
        have HD : Hid (qd p k = ltr m) := Lib.hid (by rw [qd, if_neg hf, HM.out, HN.out])
        generalize ltr m = L at *
        go_wp2_with (first
          | (at_builtin; refine wpList_add_byte rfl (.tmp 33) (.tmp 41) rfl base wr _ rfl (l ++ qds p k) ho L _ rfl rfl rfl hlen hsz ?_; intro v' W2 o2 g2)
          | fail)
        go_roundw
        case rel => exact ⟨k + 1, by omega, by go_num, by rw [HQ.out, HD.out, ← List.append_assoc]; exact o2, below_own hB ho g2 (Nat.le_refl _) hsz⟩
        case measure => simp [intOf]; omega
    · obtain rfl : k = 4 := by omega
      go_wp2
      go_ret
      exact ⟨_, rfl, ho, hB⟩
end Go.Proofs.YtnaekjmlikhglaaDoor.bb
/- The walks of Letters and Encode. -/
namespace Go.Proofs.YtnaekjmlikhglaaDoor.bb
open Go.RowKit
/-- The text that letters make, and whether they make one. -/
def ans (o : Option (List UInt8)) : Value := .tuple #[S (o.getD []), .bool o.isSome]
attribute [local go_sem] store_one B_match B_store convB

theorem letters_any (n : Nat) (hn : n ≤ 1099511627776) (w : World) : Calls Tryd.prog 44 #[.int .i64 (n : Int)] w fun e w' => e = .returned (.int .i64 (((n + 2) / 3 * 4 : Nat) : Int)) ∧ w = w' := by
  go_enter Tryd.func44, Tryd.ntmps44
  go_wp2
  go_ret
  exact ⟨by simp, rfl⟩
theorem letters_neg (w : World) : Calls Tryd.prog 44 #[.int .i64 (-1)] w fun e w' => e = .returned (.int .i64 0) ∧ w = w' := by
  go_enter Tryd.func44, Tryd.ntmps44
  go_wp2
  go_ret
  exact ⟨rfl, rfl⟩

theorem run_mid_S (r : List UInt8) (m n : Nat) (hmn : m ≤ n) (hn : n ≤ r.length) (w : World) : (Instr.slice 9 (S r) (some (.int .i64 m)) (some (.int .i64 n)) none).run Tryd.prog w = .ok (S ((r.drop m).take (n - m))) w := by
  have hu := Tryd.underlying9
  have e : (⟨r.toArray⟩ : ByteArray).extract m n = ⟨((r.drop m).take (n - m)).toArray⟩ := by
    apply ByteArray.ext
    rw [ByteArray.data_extract]; simp
  simp [Instr.slice, S, run_underlying hu, Instr.sliceBounds, run_sliceBound, S_size, Result.andThen, hn, hmn, e]
theorem run_part_full (s : List UInt8) (k : Nat) (h : 3 * k + 3 ≤ s.length) (w : World) :
    (Instr.slice 9 (S s) (some (.int .i64 (3 * (k : Int)))) (some (.int .i64 (3 * (k : Int) + 3))) none).run Tryd.prog w = .ok (S ((s.drop (3 * k)).take 3)) w := by
  have h1 := run_mid_S s (3 * k) (3 * k + 3) (by omega) h w
  have e1 : ((3 * k : Nat) : Int) = 3 * (k : Int) := by omega
  have e2 : ((3 * k + 3 : Nat) : Int) = 3 * (k : Int) + 3 := by omega
  rw [e1, e2, show 3 * k + 3 - 3 * k = 3 by omega] at h1
  exact h1
theorem run_part_last (s : List UInt8) (k : Nat) (h0 : 3 * k ≤ s.length) (h : s.length < 3 * k + 3) (w : World) :
    (Instr.slice 9 (S s) (some (.int .i64 (3 * (k : Int)))) (some (.int .i64 (s.length : Int))) none).run Tryd.prog w = .ok (S ((s.drop (3 * k)).take 3)) w := by
  have h1 := run_mid_S s (3 * k) s.length h0 (Nat.le_refl _) w
  have e1 : ((3 * k : Nat) : Int) = 3 * (k : Int) := by omega
  rw [e1, List.take_of_length_le (by simp)] at h1
  rw [List.take_of_length_le (by simp; omega)]
  exact h1

/-- The text of a slice of one's own. -/
theorem own_text {w : World} {base : Nat} {v : Value} {l : List UInt8} (h : Own base v (l.map B) w) : (convert 42 9 v).run Tryd.prog w = .ok (S l) w := by
  rcases h with ⟨rfl, h⟩ | ⟨g, cap, rfl, _, _, _, _, hc, _⟩
  · obtain rfl : l = [] := List.map_eq_nil_iff.1 h
    exact run_convert_bytes_nil (w := w) 42 5 Tryd.underlying42 Tryd.underlying5 0 0 9 Tryd.underlying9
  · rw [List.length_map]
    refine run_convert_bytes_back w 42 9 5 ⟨g, 0, none⟩ cap l Tryd.underlying42 Tryd.underlying5 Tryd.underlying9 fun j hj => ?_
    have := hc j (B l[j]) (by rw [List.getElem?_map, List.getElem?_eq_getElem hj]; rfl)
    rw [Addr.add_mid]
    exact this
theorem wpList_own_text {ops : Array Oper} {rest : List Oper} {o : Oper} {a : Act} {w : World} {Q : Exit → Act → World → Prop} (hgd : o.guard = none) (x : Operand) (ho : o.op = .convert 42 9 x) (base : Nat) (l : List UInt8) (v : Value)
    (hx : a.eval x = v) (hown : Own base v (l.map B) w) (h : wpList Tryd.prog ops Q rest (a.put o.dst (S l)) w) : wpList Tryd.prog ops Q (o :: rest) a w := by
  subst hx
  refine wpList_exec hgd _ w ?_ h
  simp only [execOp, ho, Sem.run_bind, Sem.run_pure, Result.andThen_ok, own_text hown]

set_option maxRecDepth 100000 in
set_option maxHeartbeats 2000000 in
theorem encode_any (s : List UInt8) (hs : s.length ≤ 100000000) (w : World) : Calls Tryd.prog 20 #[S s] w fun e w' => e = .returned (S (enc s)) ∧ Below w.heap.size w w' := by
  have hlenS := run_len_S 3 s
  go_enter Tryd.func20, Tryd.ntmps20
  go_wp2_with fail
  refine (letters_any s.length (by omega) w).mono ?_
  rintro e W1 ⟨rfl, rfl⟩
  obtain ⟨c, hc⟩ : ∃ c, c = (s.length + 2) / 3 * 4 := ⟨_, rfl⟩
  rw [← hc]
  have hcl : c < 1000000000000 := by omega
  clear hc
  go_wp2_with (first
    | (refine wpList_make_bytes rfl (.tmp 7) (by with_reducible rfl) c rfl hcl w.heap.size (Nat.le_refl _) ?_; intro v1 W1 o1 g1)
    | fail)
  have HW := Lib.hid (And.intro o1 (below_grown (Below.refl _ _) g1 (fun _ h => by cases h) (Nat.le_refl _)))
  clear o1 g1
  go_loopw [3, 13] (fun vv iv wr => ∃ k, k ≤ (s.length + 2) / 3 ∧ iv = .int .i64 (k : Nat) ∧ Own w.heap.size vv ((encN s k).map B) wr ∧ Below w.heap.size w wr) (fun _ iv _ => (s.length + 2) / 3 - (intOf iv).toNat)
  case atStart => exact ⟨0, Nat.zero_le _, rfl, HW.out⟩
  case round =>
    obtain ⟨k, hk, rfl, ho, hB⟩ := hrel
    by_cases hlt : k < (s.length + 2) / 3
    · have hlt2 : (k : Int) < ((s.length : Int) + 2) / 3 := by omega
      have hk3 : 3 * k ≤ s.length := by omega
      have hsz := hB.size
      have HQ : Hid (encN s (k + 1) = encN s k ++ quad ((s.drop (3 * k)).take 3)) := Lib.hid rfl
      have hl : (encN s k).length < 900000000000 := by rw [encN_length]; omega
      have hp : ((s.drop (3 * k)).take 3).length ≤ 3 := by rw [List.length_take]; omega
      by_cases hle : 3 * k + 3 ≤ s.length
      · have hpart := run_part_full s k hle
        generalize (s.drop (3 * k)).take 3 = p at *
        go_wp2_with fail
        refine (part_any w.heap.size _ (encN s k) p wr ho hl hp hsz).mono ?_
        rintro e W2 ⟨v', rfl, o2, b2⟩
        go_wp2
        go_roundw
        case rel => exact ⟨k + 1, by omega, by go_num, by rw [HQ.out]; exact o2, hB.trans b2⟩
        case measure => simp [intOf]; omega
      · have hlt3 : s.length < 3 * k + 3 := by omega
        have hpart := run_part_last s k hk3 hlt3
        generalize (s.drop (3 * k)).take 3 = p at *
        go_wp2_with fail
        refine (part_any w.heap.size _ (encN s k) p wr ho hl hp hsz).mono ?_
        rintro e W2 ⟨v', rfl, o2, b2⟩
        go_wp2
        go_roundw
        case rel => exact ⟨k + 1, by omega, by go_num, by rw [HQ.out]; exact o2, hB.trans b2⟩
        case measure => simp [intOf]; omega
    · obtain rfl : k = (s.length + 2) / 3 := by omega
      rw [encN_all] at ho
      have htext := own_text ho
      go_wp2
      go_ret
      exact ⟨rfl, hB⟩
end Go.Proofs.YtnaekjmlikhglaaDoor.bb
