/- The walk of the document's Decode. -/
import Derived.Test.YtnaekjmlikhglaaDoorNbW10
namespace Go.Proofs.YtnaekjmlikhglaaDoor.bb
open Go.RowKit
theorem convN (n : Nat) (w : World) : (convert 3 5 (.int .i64 (n : Int))).run Tryd.prog w = .ok (B (UInt8.ofNat n)) w := by
  have h1 := Tryd.underlying5
  have h2 := Tryd.underlying3
  have e : IntKind.u8.wrap (n : Int) = ((UInt8.ofNat n).toNat : Int) := by rw [IntKind.wrap_u8, UInt8.toNat_ofNat']; omega
  simp [convert, B, run_underlying h1, run_underlying h2, e, go_sem]
attribute [local go_sem] store_one B_match B_store convB convN

/-- Where the fillers at a text's end begin. -/
theorem bare_ex (s : List UInt8) : ∃ K, Bare s K := by
  have key : ∀ n, n ≤ s.length → (∀ i c, n ≤ i → s[i]? = some c → c = 61) → ∃ K, Bare s K := by
    intro n
    induction n with
    | zero => exact fun h h2 => ⟨0, h, h2, fun c h3 => absurd h3 (by omega)⟩
    | succ n ih =>
      intro h h2
      by_cases hc : s[n]? = some 61
      · refine ih (by omega) fun i c hi hs => ?_
        by_cases e : i = n
        · rw [e, hc] at hs; exact (Option.some.inj hs).symm
        · exact h2 i c (by omega) hs
      · exact ⟨n + 1, h, h2, fun c _ hs e => hc (by rw [← e]; exact hs)⟩
  exact key s.length (Nat.le_refl _) fun i c hi hs => by
    have := (List.getElem?_eq_some_iff.1 hs).1
    omega
theorem B_lit (n : UInt8) : Value.int .u8 (n.toNat : Int) = B n := rfl

set_option maxRecDepth 100000 in
set_option maxHeartbeats 8000000 in
theorem ref_decode (s : List UInt8) (hs : s.length ≤ 10000) (w : World) : Calls Tryd.prog 40 #[S s] w fun e w' => e = .returned (ans (dec s)) ∧ Below w.heap.size w w' := by
  have hlenS := run_len_S 3 s
  have hnil : Own w.heap.size (.slice none 0 0) (([] : List Nat).map IC) w := .inl ⟨rfl, rfl⟩
  have HN := Lib.hid hnil
  clear hnil
  have hgB := eguard_B 5
  have k61 : Value.int .u8 61 = B 61 := rfl
  obtain ⟨K, hK⟩ := bare_ex s
  have hKs := hK.1
  have HK := Lib.hid hK
  clear hK
  go_enter Tryd.func40, Tryd.ntmps40
  go_wp2
  go_loop [4] (fun ev => ∃ k : Nat, K ≤ k ∧ k ≤ s.length ∧ ev = .int .i64 k) (fun ev => (intOf ev).toNat)
  case atStart => exact ⟨s.length, hKs, Nat.le_refl _, rfl⟩
  case round =>
    obtain ⟨k, hk0, hk1, rfl⟩ := hrel
    by_cases hlt : K < k
    · obtain ⟨k', rfl⟩ : ∃ k', k = k' + 1 := ⟨k - 1, by omega⟩
      have hcast : ((k' + 1 : Nat) : Int) = (k' : Int) + 1 := by omega
      have hc : s[k']? = some 61 := by
        rw [List.getElem?_eq_getElem (by omega)]
        congr 1
        exact HK.out.2.1 k' _ (by omega) (List.getElem?_eq_getElem (by omega))
      have hidx : ∀ w, (Instr.index 9 (S s) (.int .i64 (k' : Int))).run Tryd.prog w = .ok (B 61) w := fun w => index_text ⟨s.toArray⟩ s rfl k' 61 hc w
      have heq := B_eql 5 61 61
      rw [beq_self_eq_true] at heq
      clear hc
      rw [hcast]
      clear hcast
      go_wp2
      go_round
      case rel => exact ⟨k', by omega, by omega, by first | rfl | (congr 1; omega)⟩
      case measure => simp [intOf]
    · obtain rfl : k = K := by omega
      clear hlt hk0 hk1
      by_cases hz : k = 0
      · have hz0 : decide (0 < k) = false := by simp; omega
        have hz1 : ¬ 0 < k := by omega
        clear hz
        go_wp2
        clear hz0 hz1
        go_loopw [5, 6] (fun bv iv wr => ∃ i : Nat, i ≤ k ∧ iv = .int .i64 i ∧ Own w.heap.size bv ((bl (s.take i)).map IC) wr ∧ Below w.heap.size w wr) (fun _ iv _ => k - (intOf iv).toNat)
        case atStart => exact ⟨0, Nat.zero_le _, rfl, by rw [List.take_zero]; exact HN.out, Below.refl _ _⟩
        case round =>
          obtain ⟨i, hi, rfl, ho, hB⟩ := hrel
          by_cases hlt : i < k
          · obtain ⟨c, hc⟩ : ∃ c, s[i]? = some c := ⟨s[i]'(by omega), List.getElem?_eq_getElem (by omega)⟩
            have HS : Hid (bl (s.take (i + 1)) = bl (s.take i) ++ bn (num c) 6 6) := Lib.hid (by rw [List.take_add_one, hc, Option.toList_some, bl_snoc])
            have hidx : ∀ w, (Instr.index 9 (S s) (.int .i64 (i : Int))).run Tryd.prog w = .ok (B c) w := fun w => index_text ⟨s.toArray⟩ s rfl i c hc w
            have hbl : (bl (s.take i)).length ≤ 80000 := by rw [bl_length, List.length_take]; omega
            have hcK : (s.take k)[i]? = some c := by rw [List.getElem?_take_of_lt hlt]; exact hc
            cases hx : numO c with
            | none =>
              have hZ : numZ c = -1 := by rw [numZ, hx]
              have HF : Hid (dec s = none) := Lib.hid (bare_bad HK.out hcK hx)
              have HB := Lib.hid hB
              clear hc hcK hx ho hbl hB
              go_wp2_with (first
                | (go_at_call 51; refine (number_any c _).mono ?_; rintro e w' ⟨rfl, rfl⟩; rw [hZ])
                | fail)
              go_ret2
              exact ⟨by rw [HF.out]; rfl, HB.out⟩
            | some x =>
              have hZ : numZ c = (x : Int) := by rw [numZ, hx]
              have hnum : num c = x := by rw [num, hx]; rfl
              obtain ⟨hx64, _⟩ := num_some hx
              rw [hnum] at HS
              generalize bl (s.take i) = D at *
              obtain ⟨wo, hwo⟩ : ∃ wo : World, wo = wr := ⟨_, rfl⟩
              rw [← hwo] at ho hB
              rw [← hwo]
              clear hwo wr hc hcK hx hnum
              have HW := Lib.hid (And.intro ho hB)
              clear ho hB
              go_wp2_with (first
                | (go_at_call 51; refine (number_any c _).mono ?_; rintro e w' ⟨rfl, rfl⟩; rw [hZ])
                | fail)
              clear hZ
              go_loopw [5, 8] (fun bv kv wr => ∃ j : Nat, j ≤ 6 ∧ kv = .int .i64 (5 - (j : Int)) ∧ Own w.heap.size bv ((D ++ bn x 6 j).map IC) wr ∧ Below w.heap.size w wr) (fun _ kv _ => (intOf kv + 1).toNat)
              case atStart => exact ⟨0, by omega, rfl, by rw [bn, List.append_nil]; exact HW.out.1, HW.out.2⟩
              case round =>
                obtain ⟨j, hj, rfl, ho2, hB2⟩ := hrel
                by_cases hj6 : j < 6
                · obtain ⟨y, hy⟩ : ∃ y, y = x / 2 ^ (6 - 1 - j) % 2 := ⟨_, rfl⟩
                  have htm : ((x : Int) / 2 ^ (5 - j)).tmod 2 = (y : Int) := by
                    have e : ((x : Int) / 2 ^ (5 - j)) = ((x / 2 ^ (5 - j) : Nat) : Int) := by push_cast; rfl
                    rw [e, hy, show 6 - 1 - j = 5 - j by omega, Int.tmod_eq_emod_of_nonneg (Int.natCast_nonneg _)]
                    push_cast; rfl
                  have HY : Hid (bn x 6 (j + 1) = bn x 6 j ++ [y]) := Lib.hid (by rw [bn, hy])
                  have hlen : (D ++ bn x 6 j).length < 1000000000000 := by rw [List.length_append, bn_length]; omega
                  have hsz := hB2.size
                  clear hy
                  go_wp2_with (first
                    | (at_builtin; refine wpList_add_int rfl (.tmp 41) (.tmp 47) rfl w.heap.size wr _ rfl (D ++ bn x 6 j) ho2 y _ rfl rfl rfl hlen hsz ?_; intro v3 W3 o3 g3)
                    | fail)
                  go_roundw
                  case rel => exact ⟨j + 1, by omega, by congr 1; omega, by rw [HY.out, ← List.append_assoc]; exact o3, below_own hB2 ho2 g3 (Nat.le_refl _) hsz⟩
                  case measure => simp [intOf]; omega
                · obtain rfl : j = 6 := by omega
                  rw [show (((6 : Nat) : Int)) = 6 from rfl]
                  go_wp2
                  go_roundw
                  case rel => exact ⟨i + 1, by omega, by go_num, by rw [HS.out]; exact ho2, hB2⟩
                  case measure => simp [intOf]; omega
          · obtain rfl : i = k := by omega
            have hPl : (bl (s.take i)).length ≤ 60000 := by rw [bl_length, List.length_take]; omega
            have hPle := bl_le (s.take i)
            have HYES := Lib.hid (fun h => bare_yes (s := s) (k := i) h)
            have HNO := Lib.hid (fun h => bare_no HK.out h)
            clear hlt hi HK
            generalize bl (s.take i) = P at *
            obtain ⟨wo, hwo⟩ : ∃ wo : World, wo = wr := ⟨_, rfl⟩
            rw [← hwo] at ho hB
            rw [← hwo]
            clear hwo wr
            obtain ⟨n, hn⟩ : ∃ n, n = P.length := ⟨_, rfl⟩
            have hl : ∀ w', (Builtin.len_ #[61] 3 #[u5]).run Tryd.prog w' = .ok (.int .i64 (n : Int)) w' := fun w' => by
              have := own_len ho 61 3 3 Tryd.underlying61 w'
              rw [List.length_map, ← hn] at this
              exact this
            obtain ⟨ad, hix, hcl⟩ := own_nums ho
            rw [← hn] at hPl
            have HX := Lib.hid (And.intro hix (And.intro hcl (And.intro hPle (And.intro hn hB))))
            clear hix hcl hPle hn hB ho
            go_wp2
            go_loopw [9, 10] (fun ov iv wr => ∃ m : Nat, m ≤ n / 8 ∧ iv = .int .i64 (8 * (m : Int)) ∧ Own wo.heap.size ov ((oc (P.take (8 * m))).map B) wr ∧ Below wo.heap.size wo wr) (fun _ iv _ => n - (intOf iv).toNat)
            case atStart => exact ⟨0, Nat.zero_le _, rfl, .inl ⟨rfl, rfl⟩, Below.refl _ _⟩
            case round =>
              obtain ⟨m, hm, rfl, ho6, hB6⟩ := hrel
              by_cases hlt : m < n / 8
              · have hlt8 : 8 * m + 8 ≤ n := by omega
                have HR := Lib.hid (And.intro ho6 hB6)
                clear ho6 hB6
                go_wp2
                go_loop [11, 12] (fun nv kv => ∃ k : Nat, k ≤ 8 ∧ kv = .int .i64 k ∧ nv = .int .i64 (hor ((P.drop (8 * m)).take k))) (fun _ kv => 8 - (intOf kv).toNat)
                case atStart => exact ⟨0, by omega, rfl, by rw [List.take_zero]; rfl⟩
                case round =>
                  obtain ⟨k, hk, rfl, rfl⟩ := hrel
                  obtain ⟨hix, hcl, hPle, hM, hB⟩ := HX.out
                  have hhl : hor ((P.drop (8 * m)).take k) < 256 := by
                    have h1 := hor_lt ((P.drop (8 * m)).take k) (fun b hb => hPle b (List.mem_of_mem_drop (List.mem_of_mem_take hb)))
                    refine Nat.lt_of_lt_of_le h1 ?_
                    have h2 : ((P.drop (8 * m)).take k).length ≤ 8 := by rw [List.length_take]; omega
                    exact Nat.pow_le_pow_right (by decide) h2
                  by_cases hk8 : k < 8
                  · have hip : 8 * m + k < P.length := by omega
                    have hi1 := hix (8 * m + k) hip
                    have hc1 := hcl (8 * m + k) hip
                    obtain ⟨b, hb⟩ : ∃ b, P[8 * m + k]? = some b := ⟨P[8 * m + k], List.getElem?_eq_getElem hip⟩
                    have hb1 : b ≤ 1 := hPle b (List.mem_of_getElem? hb)
                    rw [hb, Option.getD_some] at hc1
                    have hcell : wr.cell? (ad (8 * m + k)) = some (.int .i64 (b : Int)) := by rw [HR.out.2.cell hc1.1]; exact hc1.2
                    have HN2 : Hid (hor ((P.drop (8 * m)).take (k + 1)) = 2 * hor ((P.drop (8 * m)).take k) + b) := Lib.hid (by
                      rw [List.take_add_one, List.getElem?_drop, hb, Option.toList_some, hor_snoc])
                    have hcast : ((8 * m + k : Nat) : Int) = 8 * (m : Int) + (k : Int) := by omega
                    rw [hcast] at hi1
                    generalize ad (8 * m + k) = adr at *
                    generalize hor ((P.drop (8 * m)).take k) = h0 at *
                    clear hix hcl hPle hM hB hb hc1 hcast hip
                    go_wp2
                    go_round
                    case rel => exact ⟨k + 1, by omega, by go_num, by rw [HN2.out]; congr 1⟩
                    case measure => simp [intOf]; omega
                  · obtain rfl : k = 8 := by omega
                    have hst : Hid (oc (P.take (8 * (m + 1))) = oc (P.take (8 * m)) ++ [UInt8.ofNat (hor ((P.drop (8 * m)).take 8))]) := Lib.hid (oc_take m P (by omega))
                    have hRl : (oc (P.take (8 * m))).length < 1000000000000 := by
                      have := oc_length (P.take (8 * m))
                      rw [List.length_take] at this; omega
                    clear hix hcl hPle hM hB
                    generalize hor ((P.drop (8 * m)).take 8) = h6 at *
                    rw [show (((8 : Nat) : Int)) = 8 from rfl]
                    obtain ⟨ho6, hB6⟩ := HR.out
                    have hsz := hB6.size
                    generalize oc (P.take (8 * m)) = R at *
                    go_wp2_with (first
                      | (at_builtin; refine wpList_add_byte rfl (.tmp 69) (.tmp 72) rfl wo.heap.size wr _ rfl R ho6 (UInt8.ofNat h6) _ (by first | rfl | exact byte_cell1 h6 | exact byte_cell2 h6 hhl) rfl rfl hRl hsz ?_; intro v3 W3 o3 g3)
                      | fail)
                    go_roundw
                    case rel => exact ⟨m + 1, by omega, by first | rfl | (congr 1; omega), by rw [hst.out]; exact o3, below_own hB6 ho6 g3 (Nat.le_refl _) hsz⟩
                    case measure => simp [intOf]; omega
              · obtain rfl : m = n / 8 := by omega
                have hge8 : n < 8 * (n / 8) + 8 := by omega
                have hMM : oc (P.take (8 * (n / 8))) = oc P := by rw [HX.out.2.2.2.1]; exact oc_end P
                rw [hMM] at ho6
                have hRl : (oc P).length ≤ 10000 := by
                  have := oc_length P
                  rw [← HX.out.2.2.2.1] at this; omega
                have hB7 : Below w.heap.size w wr := HX.out.2.2.2.2.trans (hB6.mono HX.out.2.2.2.2.size)
                generalize oc P = R at *
                have htext := own_text ho6
                have HO := Lib.hid ho6
                clear hMM ho6 hlt hm
                go_wp2_with fail
                refine (ref_encode R hRl wr).mono ?_
                rintro e W8 ⟨rfl, B8⟩
                have hB8 := hB7.trans (B8.mono hB7.size)
                have htext2 := own_text (HO.out.below B8 (fun g hg => (HO.out.lt g hg).2))
                have hng := nguard_S 9
                have hneq := neql_S 9 (enc R) s
                by_cases he : enc R = s
                · rw [show (enc R != s) = false by rw [he]; exact bne_self_eq_false s] at hneq
                  have HF := Lib.hid (HYES.out he)
                  clear he
                  go_wp2
                  go_ret2
                  exact ⟨by rw [HF.out]; rfl, hB8⟩
                · rw [show (enc R != s) = true from bne_iff_ne.2 he] at hneq
                  have HF := Lib.hid (HNO.out he)
                  clear he
                  go_wp2
                  go_ret2
                  exact ⟨by rw [HF.out]; rfl, hB8⟩
      · have hz0 : decide (0 < k) = true := by simp; omega
        have hz1 : 0 < k := by omega
        obtain ⟨c0, hc0⟩ : ∃ c0, s[k - 1]? = some c0 := ⟨s[k - 1]'(by omega), List.getElem?_eq_getElem (by omega)⟩
        have hne0 := HK.out.2.2 c0 (by omega) hc0
        have hidx0 : ∀ w, (Instr.index 9 (S s) (.int .i64 ((k : Int) - 1))).run Tryd.prog w = .ok (B c0) w := fun w => by
          have := index_text ⟨s.toArray⟩ s rfl (k - 1) c0 hc0 w
          rw [show (((k - 1 : Nat)) : Int) = (k : Int) - 1 by omega] at this
          exact this
        have heq0 := B_eql 5 c0 61
        rw [show (c0 == 61) = false from beq_eq_false_iff_ne.2 hne0] at heq0
        clear hz hc0 hne0
        go_wp2
        clear hz0 hz1 hidx0 heq0
        go_loopw [5, 6] (fun bv iv wr => ∃ i : Nat, i ≤ k ∧ iv = .int .i64 i ∧ Own w.heap.size bv ((bl (s.take i)).map IC) wr ∧ Below w.heap.size w wr) (fun _ iv _ => k - (intOf iv).toNat)
        case atStart => exact ⟨0, Nat.zero_le _, rfl, by rw [List.take_zero]; exact HN.out, Below.refl _ _⟩
        case round =>
          obtain ⟨i, hi, rfl, ho, hB⟩ := hrel
          by_cases hlt : i < k
          · obtain ⟨c, hc⟩ : ∃ c, s[i]? = some c := ⟨s[i]'(by omega), List.getElem?_eq_getElem (by omega)⟩
            have HS : Hid (bl (s.take (i + 1)) = bl (s.take i) ++ bn (num c) 6 6) := Lib.hid (by rw [List.take_add_one, hc, Option.toList_some, bl_snoc])
            have hidx : ∀ w, (Instr.index 9 (S s) (.int .i64 (i : Int))).run Tryd.prog w = .ok (B c) w := fun w => index_text ⟨s.toArray⟩ s rfl i c hc w
            have hbl : (bl (s.take i)).length ≤ 80000 := by rw [bl_length, List.length_take]; omega
            have hcK : (s.take k)[i]? = some c := by rw [List.getElem?_take_of_lt hlt]; exact hc
            cases hx : numO c with
            | none =>
              have hZ : numZ c = -1 := by rw [numZ, hx]
              have HF : Hid (dec s = none) := Lib.hid (bare_bad HK.out hcK hx)
              have HB := Lib.hid hB
              clear hc hcK hx ho hbl hB
              go_wp2_with (first
                | (go_at_call 51; refine (number_any c _).mono ?_; rintro e w' ⟨rfl, rfl⟩; rw [hZ])
                | fail)
              go_ret2
              exact ⟨by rw [HF.out]; rfl, HB.out⟩
            | some x =>
              have hZ : numZ c = (x : Int) := by rw [numZ, hx]
              have hnum : num c = x := by rw [num, hx]; rfl
              obtain ⟨hx64, _⟩ := num_some hx
              rw [hnum] at HS
              generalize bl (s.take i) = D at *
              obtain ⟨wo, hwo⟩ : ∃ wo : World, wo = wr := ⟨_, rfl⟩
              rw [← hwo] at ho hB
              rw [← hwo]
              clear hwo wr hc hcK hx hnum
              have HW := Lib.hid (And.intro ho hB)
              clear ho hB
              go_wp2_with (first
                | (go_at_call 51; refine (number_any c _).mono ?_; rintro e w' ⟨rfl, rfl⟩; rw [hZ])
                | fail)
              clear hZ
              go_loopw [5, 8] (fun bv kv wr => ∃ j : Nat, j ≤ 6 ∧ kv = .int .i64 (5 - (j : Int)) ∧ Own w.heap.size bv ((D ++ bn x 6 j).map IC) wr ∧ Below w.heap.size w wr) (fun _ kv _ => (intOf kv + 1).toNat)
              case atStart => exact ⟨0, by omega, rfl, by rw [bn, List.append_nil]; exact HW.out.1, HW.out.2⟩
              case round =>
                obtain ⟨j, hj, rfl, ho2, hB2⟩ := hrel
                by_cases hj6 : j < 6
                · obtain ⟨y, hy⟩ : ∃ y, y = x / 2 ^ (6 - 1 - j) % 2 := ⟨_, rfl⟩
                  have htm : ((x : Int) / 2 ^ (5 - j)).tmod 2 = (y : Int) := by
                    have e : ((x : Int) / 2 ^ (5 - j)) = ((x / 2 ^ (5 - j) : Nat) : Int) := by push_cast; rfl
                    rw [e, hy, show 6 - 1 - j = 5 - j by omega, Int.tmod_eq_emod_of_nonneg (Int.natCast_nonneg _)]
                    push_cast; rfl
                  have HY : Hid (bn x 6 (j + 1) = bn x 6 j ++ [y]) := Lib.hid (by rw [bn, hy])
                  have hlen : (D ++ bn x 6 j).length < 1000000000000 := by rw [List.length_append, bn_length]; omega
                  have hsz := hB2.size
                  clear hy
                  go_wp2_with (first
                    | (at_builtin; refine wpList_add_int rfl (.tmp 41) (.tmp 47) rfl w.heap.size wr _ rfl (D ++ bn x 6 j) ho2 y _ rfl rfl rfl hlen hsz ?_; intro v3 W3 o3 g3)
                    | fail)
                  go_roundw
                  case rel => exact ⟨j + 1, by omega, by congr 1; omega, by rw [HY.out, ← List.append_assoc]; exact o3, below_own hB2 ho2 g3 (Nat.le_refl _) hsz⟩
                  case measure => simp [intOf]; omega
                · obtain rfl : j = 6 := by omega
                  rw [show (((6 : Nat) : Int)) = 6 from rfl]
                  go_wp2
                  go_roundw
                  case rel => exact ⟨i + 1, by omega, by go_num, by rw [HS.out]; exact ho2, hB2⟩
                  case measure => simp [intOf]; omega
          · obtain rfl : i = k := by omega
            have hPl : (bl (s.take i)).length ≤ 60000 := by rw [bl_length, List.length_take]; omega
            have hPle := bl_le (s.take i)
            have HYES := Lib.hid (fun h => bare_yes (s := s) (k := i) h)
            have HNO := Lib.hid (fun h => bare_no HK.out h)
            clear hlt hi HK
            generalize bl (s.take i) = P at *
            obtain ⟨wo, hwo⟩ : ∃ wo : World, wo = wr := ⟨_, rfl⟩
            rw [← hwo] at ho hB
            rw [← hwo]
            clear hwo wr
            obtain ⟨n, hn⟩ : ∃ n, n = P.length := ⟨_, rfl⟩
            have hl : ∀ w', (Builtin.len_ #[61] 3 #[u5]).run Tryd.prog w' = .ok (.int .i64 (n : Int)) w' := fun w' => by
              have := own_len ho 61 3 3 Tryd.underlying61 w'
              rw [List.length_map, ← hn] at this
              exact this
            obtain ⟨ad, hix, hcl⟩ := own_nums ho
            rw [← hn] at hPl
            have HX := Lib.hid (And.intro hix (And.intro hcl (And.intro hPle (And.intro hn hB))))
            clear hix hcl hPle hn hB ho
            go_wp2
            go_loopw [9, 10] (fun ov iv wr => ∃ m : Nat, m ≤ n / 8 ∧ iv = .int .i64 (8 * (m : Int)) ∧ Own wo.heap.size ov ((oc (P.take (8 * m))).map B) wr ∧ Below wo.heap.size wo wr) (fun _ iv _ => n - (intOf iv).toNat)
            case atStart => exact ⟨0, Nat.zero_le _, rfl, .inl ⟨rfl, rfl⟩, Below.refl _ _⟩
            case round =>
              obtain ⟨m, hm, rfl, ho6, hB6⟩ := hrel
              by_cases hlt : m < n / 8
              · have hlt8 : 8 * m + 8 ≤ n := by omega
                have HR := Lib.hid (And.intro ho6 hB6)
                clear ho6 hB6
                go_wp2
                go_loop [11, 12] (fun nv kv => ∃ k : Nat, k ≤ 8 ∧ kv = .int .i64 k ∧ nv = .int .i64 (hor ((P.drop (8 * m)).take k))) (fun _ kv => 8 - (intOf kv).toNat)
                case atStart => exact ⟨0, by omega, rfl, by rw [List.take_zero]; rfl⟩
                case round =>
                  obtain ⟨k, hk, rfl, rfl⟩ := hrel
                  obtain ⟨hix, hcl, hPle, hM, hB⟩ := HX.out
                  have hhl : hor ((P.drop (8 * m)).take k) < 256 := by
                    have h1 := hor_lt ((P.drop (8 * m)).take k) (fun b hb => hPle b (List.mem_of_mem_drop (List.mem_of_mem_take hb)))
                    refine Nat.lt_of_lt_of_le h1 ?_
                    have h2 : ((P.drop (8 * m)).take k).length ≤ 8 := by rw [List.length_take]; omega
                    exact Nat.pow_le_pow_right (by decide) h2
                  by_cases hk8 : k < 8
                  · have hip : 8 * m + k < P.length := by omega
                    have hi1 := hix (8 * m + k) hip
                    have hc1 := hcl (8 * m + k) hip
                    obtain ⟨b, hb⟩ : ∃ b, P[8 * m + k]? = some b := ⟨P[8 * m + k], List.getElem?_eq_getElem hip⟩
                    have hb1 : b ≤ 1 := hPle b (List.mem_of_getElem? hb)
                    rw [hb, Option.getD_some] at hc1
                    have hcell : wr.cell? (ad (8 * m + k)) = some (.int .i64 (b : Int)) := by rw [HR.out.2.cell hc1.1]; exact hc1.2
                    have HN2 : Hid (hor ((P.drop (8 * m)).take (k + 1)) = 2 * hor ((P.drop (8 * m)).take k) + b) := Lib.hid (by
                      rw [List.take_add_one, List.getElem?_drop, hb, Option.toList_some, hor_snoc])
                    have hcast : ((8 * m + k : Nat) : Int) = 8 * (m : Int) + (k : Int) := by omega
                    rw [hcast] at hi1
                    generalize ad (8 * m + k) = adr at *
                    generalize hor ((P.drop (8 * m)).take k) = h0 at *
                    clear hix hcl hPle hM hB hb hc1 hcast hip
                    go_wp2
                    go_round
                    case rel => exact ⟨k + 1, by omega, by go_num, by rw [HN2.out]; congr 1⟩
                    case measure => simp [intOf]; omega
                  · obtain rfl : k = 8 := by omega
                    have hst : Hid (oc (P.take (8 * (m + 1))) = oc (P.take (8 * m)) ++ [UInt8.ofNat (hor ((P.drop (8 * m)).take 8))]) := Lib.hid (oc_take m P (by omega))
                    have hRl : (oc (P.take (8 * m))).length < 1000000000000 := by
                      have := oc_length (P.take (8 * m))
                      rw [List.length_take] at this; omega
                    clear hix hcl hPle hM hB
                    generalize hor ((P.drop (8 * m)).take 8) = h6 at *
                    rw [show (((8 : Nat) : Int)) = 8 from rfl]
                    obtain ⟨ho6, hB6⟩ := HR.out
                    have hsz := hB6.size
                    generalize oc (P.take (8 * m)) = R at *
                    go_wp2_with (first
                      | (at_builtin; refine wpList_add_byte rfl (.tmp 69) (.tmp 72) rfl wo.heap.size wr _ rfl R ho6 (UInt8.ofNat h6) _ (by first | rfl | exact byte_cell1 h6 | exact byte_cell2 h6 hhl) rfl rfl hRl hsz ?_; intro v3 W3 o3 g3)
                      | fail)
                    go_roundw
                    case rel => exact ⟨m + 1, by omega, by first | rfl | (congr 1; omega), by rw [hst.out]; exact o3, below_own hB6 ho6 g3 (Nat.le_refl _) hsz⟩
                    case measure => simp [intOf]; omega
              · obtain rfl : m = n / 8 := by omega
                have hge8 : n < 8 * (n / 8) + 8 := by omega
                have hMM : oc (P.take (8 * (n / 8))) = oc P := by rw [HX.out.2.2.2.1]; exact oc_end P
                rw [hMM] at ho6
                have hRl : (oc P).length ≤ 10000 := by
                  have := oc_length P
                  rw [← HX.out.2.2.2.1] at this; omega
                have hB7 : Below w.heap.size w wr := HX.out.2.2.2.2.trans (hB6.mono HX.out.2.2.2.2.size)
                generalize oc P = R at *
                have htext := own_text ho6
                have HO := Lib.hid ho6
                clear hMM ho6 hlt hm
                go_wp2_with fail
                refine (ref_encode R hRl wr).mono ?_
                rintro e W8 ⟨rfl, B8⟩
                have hB8 := hB7.trans (B8.mono hB7.size)
                have htext2 := own_text (HO.out.below B8 (fun g hg => (HO.out.lt g hg).2))
                have hng := nguard_S 9
                have hneq := neql_S 9 (enc R) s
                by_cases he : enc R = s
                · rw [show (enc R != s) = false by rw [he]; exact bne_self_eq_false s] at hneq
                  have HF := Lib.hid (HYES.out he)
                  clear he
                  go_wp2
                  go_ret2
                  exact ⟨by rw [HF.out]; rfl, hB8⟩
                · rw [show (enc R != s) = true from bne_iff_ne.2 he] at hneq
                  have HF := Lib.hid (HNO.out he)
                  clear he
                  go_wp2
                  go_ret2
                  exact ⟨by rw [HF.out]; rfl, hB8⟩
end Go.Proofs.YtnaekjmlikhglaaDoor.bb
