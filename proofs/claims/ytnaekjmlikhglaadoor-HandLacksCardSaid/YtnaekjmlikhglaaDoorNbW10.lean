/- The walk of the document's Encode. -/
import Derived.Test.YtnaekjmlikhglaaDoorNbW9
import Derived.Test.YtnaekjmlikhglaaDoorNbBase4
namespace Go.Proofs.YtnaekjmlikhglaaDoor.bb
open Go.RowKit
attribute [local go_sem] store_one B_match B_store convB

set_option maxRecDepth 100000 in
set_option maxHeartbeats 4000000 in
theorem ref_encode (s : List UInt8) (hs : s.length ≤ 10000) (w : World) : Calls Tryd.prog 43 #[S s] w fun e w' => e = .returned (S (enc s)) ∧ Below w.heap.size w w' := by
  have hlenS := run_len_S 3 s
  have hnil : Own w.heap.size (.slice none 0 0) (([] : List Nat).map IC) w := .inl ⟨rfl, rfl⟩
  have HN := Lib.hid hnil
  clear hnil
  go_enter Tryd.func43, Tryd.ntmps43
  go_wp2
  go_loopw [3, 4] (fun bv iv wr => ∃ i : Nat, i ≤ s.length ∧ iv = .int .i64 i ∧ Own w.heap.size bv ((bs (s.take i)).map IC) wr ∧ Below w.heap.size w wr) (fun _ iv _ => s.length - (intOf iv).toNat)
  case atStart => exact ⟨0, Nat.zero_le _, rfl, by rw [List.take_zero]; exact HN.out, Below.refl _ _⟩
  case round =>
    obtain ⟨i, hi, rfl, ho, hB⟩ := hrel
    by_cases hlt : i < s.length
    · obtain ⟨c, hc⟩ : ∃ c, s[i]? = some c := ⟨s[i], List.getElem?_eq_getElem hlt⟩
      have HS : Hid (bs (s.take (i + 1)) = bs (s.take i) ++ bn c.toNat 8 8) := Lib.hid (by rw [List.take_add_one, hc, Option.toList_some, bs_snoc])
      have hidx : ∀ w, (Instr.index 9 (S s) (.int .i64 (i : Int))).run Tryd.prog w = .ok (B c) w := fun w => index_text ⟨s.toArray⟩ s rfl i c hc w
      have hbl : (bs (s.take i)).length ≤ 80000 := by rw [bs_length, List.length_take]; omega
      generalize bs (s.take i) = D at *
      obtain ⟨wo, hwo⟩ : ∃ wo : World, wo = wr := ⟨_, rfl⟩
      rw [← hwo] at ho hB
      rw [← hwo]
      clear hwo wr hc
      have HW := Lib.hid (And.intro ho hB)
      clear ho hB
      go_wp2
      go_loopw [3, 5] (fun bv kv wr => ∃ j : Nat, j ≤ 8 ∧ kv = .int .i64 (7 - (j : Int)) ∧ Own w.heap.size bv ((D ++ bn c.toNat 8 j).map IC) wr ∧ Below w.heap.size w wr) (fun _ kv _ => (intOf kv + 1).toNat)
      case atStart => exact ⟨0, by omega, rfl, by rw [bn, List.append_nil]; exact HW.out.1, HW.out.2⟩
      case round =>
        obtain ⟨j, hj, rfl, ho2, hB2⟩ := hrel
        have c8 := c.toNat_lt
        by_cases hj8 : j < 8
        · obtain ⟨y, hy⟩ : ∃ y, y = c.toNat / 2 ^ (8 - 1 - j) % 2 := ⟨_, rfl⟩
          have htm : ((c.toNat : Int) / 2 ^ (7 - j)).tmod 2 = (y : Int) := by
            have e : ((c.toNat : Int) / 2 ^ (7 - j)) = ((c.toNat / 2 ^ (7 - j) : Nat) : Int) := by push_cast; rfl
            rw [e, hy, show 8 - 1 - j = 7 - j by omega, Int.tmod_eq_emod_of_nonneg (Int.natCast_nonneg _)]
            push_cast; rfl
          have HY : Hid (bn c.toNat 8 (j + 1) = bn c.toNat 8 j ++ [y]) := Lib.hid (by rw [bn, hy])
          have hlen : (D ++ bn c.toNat 8 j).length < 1000000000000 := by rw [List.length_append, bn_length]; omega
          have hsz := hB2.size
          clear hy
          go_wp2_with (first
            | (at_builtin; refine wpList_add_int rfl (.tmp 20) (.tmp 29) rfl w.heap.size wr _ rfl (D ++ bn c.toNat 8 j) ho2 y _ rfl rfl rfl hlen hsz ?_; intro v3 W3 o3 g3)
            | fail)
          go_roundw
          case rel => exact ⟨j + 1, by omega, by congr 1; omega, by rw [HY.out, ← List.append_assoc]; exact o3, below_own hB2 ho2 g3 (Nat.le_refl _) hsz⟩
          case measure => simp [intOf]; omega
        · obtain rfl : j = 8 := by omega
          rw [show (((8 : Nat) : Int)) = 8 from rfl]
          go_wp2
          go_roundw
          case rel => exact ⟨i + 1, by omega, by go_num, by rw [HS.out]; exact ho2, hB2⟩
          case measure => simp [intOf]; omega
    · obtain rfl : i = s.length := by omega
      rw [List.take_length] at ho
      have hbl := bs_length s
      have hble := bs_le s
      have hEQ : Hid (S (p4 (sx (p6 (bs s)))) = S (enc s)) := Lib.hid (by rw [← renc_eq]; rfl)
      generalize bs s = D at *
      have HD := Lib.hid hbl
      have HLE := Lib.hid hble
      clear hbl hble hlt hi
      obtain ⟨wo, hwo⟩ : ∃ wo : World, wo = wr := ⟨_, rfl⟩
      rw [← hwo] at ho hB
      rw [← hwo]
      clear hwo wr
      have HW := Lib.hid (And.intro ho hB)
      clear ho hB
      go_wp2
      go_loopw [3] (fun bv wr => ∃ z : Nat, z ≤ (6 - D.length % 6) % 6 ∧ Own w.heap.size bv ((D ++ List.replicate z 0).map IC) wr ∧ Below w.heap.size w wr) (fun bv _ => (p6 D).length - vlen bv)
      case atStart => exact ⟨0, Nat.zero_le _, by rw [List.replicate_zero, List.append_nil]; exact HW.out.1, HW.out.2⟩
      case round =>
        obtain ⟨z, hz, ho, hB⟩ := hrel
        have hl := own_len ho 61 3 3 Tryd.underlying61
        obtain ⟨q, hq⟩ : ∃ q, q = ((D ++ List.replicate z 0).map IC).length := ⟨_, rfl⟩
        rw [← hq] at hl
        rw [List.length_map, List.length_append, List.length_replicate] at hq
        have HL : Hid (vlen u3 = D.length + z) := Lib.hid (by rw [ho.vlen, List.length_map, List.length_append, List.length_replicate])
        have HP : Hid ((p6 D).length = D.length + (6 - D.length % 6) % 6) := Lib.hid (by rw [p6, List.length_append, List.length_replicate])
        by_cases hzz : z < (6 - D.length % 6) % 6
        · have hmI : (((q : Nat) : Int) % 6 != 0) = true := by simp; omega
          have hsz := hB.size
          have hlen : (D ++ List.replicate z 0).length < 1000000000000 := by rw [List.length_append, List.length_replicate, HD.out]; omega
          clear hq
          go_wp2_with (first
            | (at_builtin; refine wpList_add_int rfl (.tmp 35) (.tmp 36) rfl w.heap.size wr _ rfl (D ++ List.replicate z 0) ho 0 _ rfl rfl rfl hlen hsz ?_; intro v3 W3 o3 g3)
            | fail)
          go_roundw
          case rel => exact ⟨z + 1, by omega, by rw [List.replicate_succ', ← List.append_assoc]; exact o3, below_own hB ho g3 (Nat.le_refl _) hsz⟩
          case measure => rw [o3.vlen, HL.out, HP.out, List.length_map, List.length_append, List.length_append, List.length_replicate]; simp only [List.length_cons, List.length_nil]; omega
        · have hmI : (((q : Nat) : Int) % 6 != 0) = false := by simp; omega
          obtain rfl : z = (6 - D.length % 6) % 6 := by omega
          have hbb : Below w.heap.size w wr := hB
          have hPle : ∀ b ∈ p6 D, b ≤ 1 := fun b hb => by
            rw [p6, List.mem_append] at hb
            rcases hb with hb | hb
            · exact HLE.out b hb
            · have := List.eq_of_mem_replicate hb; omega
          have ho4 : Own w.heap.size u3 ((p6 D).map IC) wr := ho
          have hPl : ∃ M, (p6 D).length = 6 * M := ⟨(p6 D).length / 6, by rw [HP.out]; omega⟩
          have hDl : D.length ≤ 80000 := by rw [HD.out]; omega
          have hPlen : (p6 D).length ≤ 80005 := by rw [HP.out]; omega
          have HT := Lib.hid (And.intro ho4 (And.intro hPl (And.intro hPlen (And.intro hPle hbb))))
          clear hbb hPle ho4 hPl hPlen hDl ho hB HL HP HD HLE hq hzz hz
          go_wp2
          clear hmI hl HW
          generalize p6 D = P at *
          obtain ⟨wo, hwo⟩ : ∃ wo : World, wo = wr := ⟨_, rfl⟩
          rw [← hwo] at HT
          rw [← hwo]
          clear hwo wr
          obtain ⟨ho, ⟨M, hM⟩, hPlen, hPle, hB⟩ := HT.out
          have hl : ∀ w', (Builtin.len_ #[61] 3 #[u3]).run Tryd.prog w' = .ok (.int .i64 (6 * (M : Int))) w' := fun w' => by
            have := own_len ho 61 3 3 Tryd.underlying61 w'
            rw [List.length_map, hM] at this
            rw [this]; congr 2
          obtain ⟨ad, hix, hcl⟩ := own_nums ho
          have HX := Lib.hid (And.intro hix (And.intro hcl (And.intro hPle (And.intro hM hB))))
          have hM2 : 6 * M ≤ 80005 := by omega
          clear hix hcl hPle hM hB ho HT hPlen
          go_loopw [6, 7] (fun ov iv wr => ∃ m : Nat, m ≤ M ∧ iv = .int .i64 (6 * (m : Int)) ∧ Own wo.heap.size ov ((sx (P.take (6 * m))).map B) wr ∧ Below wo.heap.size wo wr) (fun _ iv _ => 6 * M - (intOf iv).toNat)
          case atStart => exact ⟨0, Nat.zero_le _, rfl, .inl ⟨rfl, rfl⟩, Below.refl _ _⟩
          case round =>
            obtain ⟨m, hm, rfl, ho6, hB6⟩ := hrel
            by_cases hlt : m < M
            · have HR := Lib.hid (And.intro ho6 hB6)
              clear ho6 hB6
              go_wp2
              go_loop [8, 9] (fun nv kv => ∃ k : Nat, k ≤ 6 ∧ kv = .int .i64 k ∧ nv = .int .i64 (hor ((P.drop (6 * m)).take k))) (fun _ kv => 6 - (intOf kv).toNat)
              case atStart => exact ⟨0, by omega, rfl, by rw [List.take_zero]; rfl⟩
              case round =>
                obtain ⟨k, hk, rfl, rfl⟩ := hrel
                obtain ⟨hix, hcl, hPle, hM, hB⟩ := HX.out
                have hhl : hor ((P.drop (6 * m)).take k) < 64 := by
                  have h1 := hor_lt ((P.drop (6 * m)).take k) (fun b hb => hPle b (List.mem_of_mem_drop (List.mem_of_mem_take hb)))
                  refine Nat.lt_of_lt_of_le h1 ?_
                  have h2 : ((P.drop (6 * m)).take k).length ≤ 6 := by rw [List.length_take]; omega
                  exact Nat.pow_le_pow_right (by decide) h2
                by_cases hk6 : k < 6
                · have hip : 6 * m + k < P.length := by omega
                  have hi1 := hix (6 * m + k) hip
                  have hc1 := hcl (6 * m + k) hip
                  obtain ⟨b, hb⟩ : ∃ b, P[6 * m + k]? = some b := ⟨P[6 * m + k], List.getElem?_eq_getElem hip⟩
                  have hb1 : b ≤ 1 := hPle b (List.mem_of_getElem? hb)
                  rw [hb, Option.getD_some] at hc1
                  have hcell : wr.cell? (ad (6 * m + k)) = some (.int .i64 (b : Int)) := by rw [HR.out.2.cell hc1.1]; exact hc1.2
                  have HN : Hid (hor ((P.drop (6 * m)).take (k + 1)) = 2 * hor ((P.drop (6 * m)).take k) + b) := Lib.hid (by
                    rw [List.take_add_one, List.getElem?_drop, hb, Option.toList_some, hor_snoc])
                  have hcast : ((6 * m + k : Nat) : Int) = 6 * (m : Int) + (k : Int) := by omega
                  rw [hcast] at hi1
                  generalize ad (6 * m + k) = adr at *
                  generalize hor ((P.drop (6 * m)).take k) = h0 at *
                  clear hix hcl hPle hM hB hb hc1 hcast hip
                  go_wp2
                  go_round
                  case rel => exact ⟨k + 1, by omega, by go_num, by rw [HN.out]; congr 1⟩
                  case measure => simp [intOf]; omega
                · obtain rfl : k = 6 := by omega
                  have hst : Hid (sx (P.take (6 * (m + 1))) = sx (P.take (6 * m)) ++ [ltr (hor ((P.drop (6 * m)).take 6))]) := Lib.hid (sx_take m P (by omega))
                  have hRl : (sx (P.take (6 * m))).length < 1000000000000 := by
                    have := sx_length (P.take (6 * m))
                    rw [List.length_take] at this; omega
                  clear hix hcl hPle hM hB
                  generalize hor ((P.drop (6 * m)).take 6) = h6 at *
                  rw [show (((6 : Nat) : Int)) = 6 from rfl]
                  go_wp2_with fail
                  refine (letter_any h6 hhl wr).mono ?_
                  rintro e w' ⟨rfl, rfl⟩
                  obtain ⟨ho6, hB6⟩ := HR.out
                  have hsz := hB6.size
                  generalize sx (P.take (6 * m)) = R at *
                  generalize ltr h6 = L6 at *
                  go_wp2_with (first
                    | (at_builtin; refine wpList_add_byte rfl (.tmp 57) (.tmp 60) rfl wo.heap.size wr _ rfl R ho6 L6 _ rfl rfl rfl hRl hsz ?_; intro v3 W3 o3 g3)
                    | fail)
                  go_roundw
                  case rel => exact ⟨m + 1, by omega, by first | rfl | (congr 1; omega), by rw [hst.out]; exact o3, below_own hB6 ho6 g3 (Nat.le_refl _) hsz⟩
                  case measure => simp [intOf]; omega
            · obtain rfl : m = M := by omega
              have hMM : P.take (6 * m) = P := by rw [← HX.out.2.2.2.1, List.take_length]
              rw [hMM] at ho6
              have hRl : (sx P).length ≤ 80005 := by
                have := sx_length P
                rw [HX.out.2.2.2.1] at this; omega
              have hB7 : Below w.heap.size w wr := HX.out.2.2.2.2.trans (hB6.mono HX.out.2.2.2.2.size)
              have hwo := HX.out.2.2.2.2.size
              generalize sx P = R at *
              obtain ⟨wp, hwp⟩ : ∃ wp : World, wp = wr := ⟨_, rfl⟩
              rw [← hwp] at ho6 hB6 hB7
              rw [← hwp]
              clear hwp wr hMM
              have HW7 := Lib.hid (And.intro ho6 (And.intro hB6 hB7))
              clear ho6 hB6 hB7
              go_wp2
              go_loopw [6] (fun ov wr => ∃ z : Nat, z ≤ (4 - R.length % 4) % 4 ∧ Own wo.heap.size ov ((R ++ List.replicate z 61).map B) wr ∧ Below wo.heap.size wo wr) (fun ov _ => (p4 R).length - vlen ov)
              case atStart => exact ⟨0, Nat.zero_le _, by rw [List.replicate_zero, List.append_nil]; exact HW7.out.1, HW7.out.2.1⟩
              case round =>
                obtain ⟨z, hz, ho, hB⟩ := hrel
                have hl := own_len ho 42 5 3 Tryd.underlying42
                obtain ⟨q, hq⟩ : ∃ q, q = ((R ++ List.replicate z 61).map B).length := ⟨_, rfl⟩
                rw [← hq] at hl
                rw [List.length_map, List.length_append, List.length_replicate] at hq
                have HL : Hid (vlen u6 = R.length + z) := Lib.hid (by rw [ho.vlen, List.length_map, List.length_append, List.length_replicate])
                have HP : Hid ((p4 R).length = R.length + (4 - R.length % 4) % 4) := Lib.hid (by rw [p4, List.length_append, List.length_replicate])
                by_cases hzz : z < (4 - R.length % 4) % 4
                · have hmI : (((q : Nat) : Int) % 4 != 0) = true := by simp; omega
                  have hsz := hB.size
                  have hlen : (R ++ List.replicate z 61).length < 1000000000000 := by rw [List.length_append, List.length_replicate]; omega
                  clear hq
                  go_wp2_with (first
                    | (at_builtin; refine wpList_add_byte rfl (.tmp 66) (.tmp 67) rfl wo.heap.size wr _ rfl (R ++ List.replicate z 61) ho 61 _ rfl rfl rfl hlen hsz ?_; intro v3 W3 o3 g3)
                    | fail)
                  go_roundw
                  case rel => exact ⟨z + 1, by omega, by rw [List.replicate_succ', ← List.append_assoc]; exact o3, below_own hB ho g3 (Nat.le_refl _) hsz⟩
                  case measure => rw [o3.vlen, HL.out, HP.out, List.length_map, List.length_append, List.length_append, List.length_replicate]; simp only [List.length_cons, List.length_nil]; omega
                · have hmI : (((q : Nat) : Int) % 4 != 0) = false := by simp; omega
                  obtain rfl : z = (4 - R.length % 4) % 4 := by omega
                  have htext : (convert 42 9 u6).run Tryd.prog wr = .ok (S (enc s)) wr := by
                    rw [← hEQ.out]; exact own_text ho
                  clear hq hzz
                  go_wp2
                  go_ret
                  exact ⟨rfl, HX.out.2.2.2.2.trans (hB.mono HX.out.2.2.2.2.size)⟩
end Go.Proofs.YtnaekjmlikhglaaDoor.bb
