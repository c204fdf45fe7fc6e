/- The walk of RingSets, over any ring that does what is asked of it. -/
import Derived.Test.YtkekjcdhlkhhoaaL8
import Derived.Test.YtkekjcdhlkhhoaaGen2
namespace Go.Proofs.Ytkekjcdhlkhhoaa
open Go.RowKit
attribute [local go_sem] store_one S_match S_store

/-- How long the first k are. -/
def long3 (s : Nat → List UInt8) : Nat → Nat
  | 0 => 0
  | k + 1 => long3 s k + min (s k).length 3001
theorem long3_le (s : Nat → List UInt8) : ∀ k, long3 s k ≤ k * 3001
  | 0 => by simp [long3]
  | k + 1 => by have := long3_le s k; simp only [long3]; omega
theorem long3_each (s : Nat → List UInt8) : ∀ k, long3 s k ≤ 3000 → ∀ i, i < k → (s i).length ≤ 3000
  | 0, _, i, hi => absurd hi (Nat.not_lt_zero _)
  | k + 1, h, i, hi => by
    simp only [long3] at h
    rcases Nat.lt_succ_iff_lt_or_eq.1 hi with hlt | rfl
    · exact long3_each s k (by omega) i hlt
    · omega
/-- The first i, and of these the last M. -/
def firstF (z : Nat → List UInt8) (i : Nat) : List (List UInt8) := (List.range i).map z
def lastF (z : Nat → List UInt8) (M i : Nat) : List (List UInt8) := (firstF z i).drop (i - M)
theorem firstF_length (z : Nat → List UInt8) (i : Nat) : (firstF z i).length = i := by simp [firstF]
theorem lastF_length (z : Nat → List UInt8) (M i : Nat) : (lastF z M i).length = min i M := by
  rw [lastF, List.length_drop, firstF_length]; omega
theorem firstF_succ (z : Nat → List UInt8) (i : Nat) : firstF z (i + 1) = firstF z i ++ [z i] := by
  simp [firstF, List.range_succ]
theorem lastF_more (z : Nat → List UInt8) (M i : Nat) (h : i < M) : lastF z M (i + 1) = lastF z M i ++ [z i] := by
  rw [lastF, lastF, firstF_succ, show i + 1 - M = 0 by omega, show i - M = 0 by omega, List.drop_zero, List.drop_zero]
theorem lastF_full (z : Nat → List UInt8) (M i : Nat) (h : M ≤ i) (h0 : 1 ≤ M) : ∃ x, lastF z M i = x :: (firstF z i).drop (i - M + 1) ∧ lastF z M (i + 1) = (firstF z i).drop (i - M + 1) ++ [z i] := by
  have hlt : i - M < (firstF z i).length := by rw [firstF_length]; omega
  refine ⟨_, List.drop_eq_getElem_cons hlt, ?_⟩
  rw [lastF, firstF_succ, show i + 1 - M = i - M + 1 by omega, List.drop_append_of_le_length (by rw [firstF_length]; omega)]
theorem lastF_get (z : Nat → List UInt8) (M n i : Nat) (h : i < min n M) : (lastF z M n)[i]? = some (z (n - M + i)) := by
  rw [lastF, List.getElem?_drop, firstF, List.getElem?_map, List.getElem?_eq_getElem (by rw [List.length_range]; omega), List.getElem_range]; rfl

section
variable {RA : World → (Nat → Prop) → Nat → Nat → List (List UInt8) → Prop}
set_option maxRecDepth 100000 in
set_option maxHeartbeats 4000000 in
theorem sets_any (R : RingS RA) (q : Nat) (hq : q ≤ 255) (V : Value) (n : Nat) (ad : Nat → Addr) (z : Nat → List UInt8) (c : Int) (w : World) (hV : Came Try.prog w 46 V n ad (fun i => S (z i))) :
    Calls Try.prog 7 #[.int .u8 (q : Int), V, .int .i64 c] w fun e w' => e = .returned (.bool true) ∧ Below w.heap.size w w' := by
  have hlenV := hV.len 3
  have HV := Lib.hid hV
  clear hV
  obtain ⟨M, hM⟩ : ∃ M, M = 1 + q % 50 := ⟨_, rfl⟩
  have hrem : Int.tmod (q : Int) 50 = ((q % 50 : Nat) : Int) := rfl
  have hcv : ∀ w, (convert 5 3 (.int .u8 (Int.tmod (q : Int) 50))).run Try.prog w = .ok (.int .i64 ((M : Int) - 1)) w := fun w => by
    have e : IntKind.i64.wrap (Int.tmod (q : Int) 50) = (M : Int) - 1 := by rw [hrem, IntKind.wrap_i64]; omega
    simp [convert, run_underlying Try.underlying5, run_underlying Try.underlying3, e, go_sem]
  have hwm : IntKind.i64.wrap (1 + ((M : Int) - 1)) = (M : Int) := by rw [IntKind.wrap_i64]; omega
  have hM1 : 1 ≤ M ∧ M ≤ 50 := by omega
  have hr8 : IntKind.u8.wrap (Int.tmod (q : Int) 50) = Int.tmod (q : Int) 50 := by rw [hrem, IntKind.wrap_u8]; omega
  have HMq := Lib.hid hM
  clear hM hrem
  go_enter Try.func7, Try.ntmps7
  go_wp2_with fail
  refine (awake_any R w).mono ?_
  rintro e W1 ⟨rfl, hB⟩
  have HB := Lib.hid hB
  clear hB
  go_wp2
  go_loop [7, 8] (fun tv iv => ∃ i : Nat, i ≤ n ∧ i ≤ 51 ∧ iv = .int .i64 i ∧ tv = .int .i64 (long3 z i)) (fun _ iv => n - (intOf iv).toNat)
  case atStart => exact ⟨0, Nat.zero_le _, Nat.zero_le _, rfl, rfl⟩
  case round =>
    obtain ⟨i, hi, hi5, rfl, rfl⟩ := hrel
    have htl := long3_le z i
    by_cases hgo : i < n ∧ i ≤ 50
    · have j1 : decide ((i : Int) < (n : Int)) = true := decide_eq_true (by omega)
      have j1' : decide (i < n) = true := decide_eq_true hgo.1
      have j2 : decide ((i : Int) ≤ 50) = true := decide_eq_true (by omega)
      have hidx := HV.out.index i hgo.1
      have hcell : W1.cell? (ad i) = some (S (z i)) := by
        have := HV.out.cell i hgo.1
        rw [HB.out.cell (World.block_lt_of_cell? w _ this)]; exact this
      have hlenS := run_len_S (P := Try.prog) Try.underlying9 3 (z i)
      have hmi : ∃ r : Nat, r = min (z i).length 3001 ∧ ∀ w, (Builtin.min_ #[3, 3] 3 #[.int .i64 ((z i).length : Int), .int .i64 3001]).run Try.prog w = .ok (.int .i64 (r : Int)) w :=
        ⟨_, rfl, fun w => by rw [run_min_int2]; congr 2; split <;> omega⟩
      obtain ⟨r, hr, hmi⟩ := hmi
      have hts : long3 z (i + 1) = long3 z i + r := by rw [hr]; rfl
      have HT := Lib.hid (And.intro hts hgo)
      have hr3 : r ≤ 3001 := by omega
      generalize long3 z i = T at *
      have hw1 : IntKind.i64.wrap ((T : Int) + (r : Int)) = (T : Int) + (r : Int) := by rw [IntKind.wrap_i64]; omega
      clear hts hgo hr
      go_wp2
      exact ⟨⟨i + 1, by have := HT.out.2; omega, by have := HT.out.2; omega, by go_num, by rw [HT.out.1]; go_num⟩, by have := HT.out.2; simp [intOf]; omega⟩
    · by_cases hbig : 50 < n ∨ 3000 < long3 z i
      · by_cases hb : 50 < n
        · have j3 : decide ((50 : Int) < (n : Int)) = true := decide_eq_true (by omega)
          have j3' : decide (50 < n) = true := decide_eq_true hb
          by_cases hlt : i < n
          · have j1 : decide ((i : Int) < (n : Int)) = true := decide_eq_true (by omega)
            have j1' : decide (i < n) = true := decide_eq_true hlt
            have j2 : decide ((i : Int) ≤ 50) = false := decide_eq_false (by omega)
            clear hlt hb hbig hgo
            go_wp2
            go_ret
            exact ⟨rfl, HB.out⟩
          · have j1 : decide ((i : Int) < (n : Int)) = false := decide_eq_false (by omega)
            have j1' : decide (i < n) = false := decide_eq_false hlt
            clear hlt hb hbig hgo
            go_wp2
            go_ret
            exact ⟨rfl, HB.out⟩
        · have hl3 : 3000 < long3 z i := by omega
          have j3 : decide ((50 : Int) < (n : Int)) = false := decide_eq_false (by omega)
          have j3' : decide (50 < n) = false := decide_eq_false hb
          have j1 : decide ((i : Int) < (n : Int)) = false := decide_eq_false (by omega)
          have j1' : decide (i < n) = false := decide_eq_false (by omega)
          generalize long3 z i = T at *
          have j4 : decide ((3000 : Int) < (T : Int)) = true := decide_eq_true (by omega)
          have j4' : decide (3000 < T) = true := decide_eq_true hl3
          clear hb hbig hgo hl3
          go_wp2
          go_ret
          exact ⟨rfl, HB.out⟩
      · obtain rfl : i = n := by omega
        have hn50 : i ≤ 50 := by omega
        have hzs : ∀ j, j < i → (z j).length ≤ 3000 := long3_each z i (by omega)
        have j3 : decide ((50 : Int) < (i : Int)) = false := decide_eq_false (by omega)
        have j3' : decide (50 < i) = false := decide_eq_false (by omega)
        have j4 : decide ((3000 : Int) < (long3 z i : Int)) = false := decide_eq_false (by omega)
        have j4' : decide (3000 < long3 z i) = false := decide_eq_false (by omega)
        have HZ := Lib.hid (And.intro hn50 hzs)
        generalize long3 z i = T at *
        clear hbig hgo hzs hi htl hi5
        go_wp2_with fail
        rw [show (1 + (q : Int) % 50) = (M : Int) by have := HMq.out; omega]
        refine (R.new_good M W1 hM1.1 (by omega)).mono ?_
        rintro e W2 ⟨g, F, rfl, hF, hF0, hB2⟩
        have h2 : One RA w g M (lastF z M 0) W2 := ⟨F, by rw [show lastF z M 0 = [] by simp [lastF, firstF]]; exact hF, fun k hk => by have := hF0 k hk; have := HB.out.size; omega, HB.out.trans (hB2.mono HB.out.size)⟩
        have H2 := Lib.hid h2
        clear hF hF0 hB2 h2
        go_wp2
        go_loopw [11] (fun iv wr => ∃ j : Nat, j ≤ i ∧ iv = .int .i64 j ∧ One RA w g M (lastF z M j) wr) (fun iv _ => i - (intOf iv).toNat)
        case atStart => exact ⟨0, Nat.zero_le _, rfl, H2.out⟩
        case round =>
          obtain ⟨j, hj, rfl, hO⟩ := hrel
          have HO := Lib.hid hO
          clear hO
          by_cases hlt : j < i
          · have k1 : decide ((j : Int) < (i : Int)) = true := decide_eq_true (by omega)
            have k1' : decide (j < i) = true := decide_eq_true hlt
            have hidx := HV.out.index j hlt
            have hbk : w.cell? (ad j) = some (S (z j)) := HV.out.cell j hlt
            have hadw : (ad j).block < w.heap.size := World.block_lt_of_cell? w _ hbk
            have hcell : ∀ W', Below w.heap.size w W' → W'.cell? (ad j) = some (S (z j)) := fun W' hb => by rw [hb.cell hadw]; exact hbk
            have hzl : (z j).length ≤ maxLen := by have := HZ.out.2 j hlt; simp only [maxLen]; omega
            have HC := Lib.hid (And.intro hcell (And.intro hzl hlt))
            have hi50 := HZ.out.1
            generalize ad j = aj at *
            clear hbk hadw hzl hcell
            by_cases hjM : j < M
            · obtain ⟨F3, r3, f3, b3⟩ := HO.out
              have hc3 : wr.cell? aj = some (S (z j)) := HC.out.1 wr b3
              have hp : Calls Try.prog 35 #[.pointer (some ⟨g, 0, none⟩), S (z j)] wr fun e w' => e = .returned (.bool true) ∧ ∃ F', RA w' F' g M (lastF z M (j + 1)) ∧ Moves F3 F' wr w' := by
                have h := R.push (z j) r3 HC.out.2.1
                rw [lastF_length, decide_eq_true (by omega), if_pos (by omega), ← lastF_more z M j hjM] at h
                exact h
              clear hjM hlt
              go_wp2_with fail
              refine hp.mono ?_
              rintro e W3 ⟨rfl, F4, r4, m4⟩
              have H4 := Lib.hid (One.moves f3 b3 r4 m4)
              clear r3 f3 b3 r4 m4 hp hc3
              go_wp2
              exact ⟨⟨j + 1, HC.out.2.2, by go_num, H4.out⟩, by have := HC.out.2.2; simp [intOf]; omega⟩
            · obtain ⟨x, hx1, hx2⟩ := lastF_full z M j (by omega) hM1.1
              obtain ⟨F3, r3, f3, b3⟩ := HO.out
              have hc3 : wr.cell? aj = some (S (z j)) := HC.out.1 wr b3
              have hp : Calls Try.prog 35 #[.pointer (some ⟨g, 0, none⟩), S (z j)] wr fun e w' => e = .returned (.bool false) ∧ ∃ F', RA w' F' g M (lastF z M j) ∧ Moves F3 F' wr w' := by
                have h := R.push (z j) r3 HC.out.2.1
                rw [lastF_length, decide_eq_false (by omega), if_neg (by omega)] at h
                exact h
              have HX := Lib.hid (And.intro hx1 hx2)
              have hsz : (firstF z j).drop (j - M + 1) = (firstF z j).drop (j - M + 1) ∧ ((firstF z j).drop (j - M + 1)).length < M := ⟨rfl, by rw [List.length_drop, firstF_length]; omega⟩
              have HSZ := Lib.hid hsz.2
              clear hjM hlt hx1 hx2 hsz
              go_wp2_with fail
              refine hp.mono ?_
              rintro e W3 ⟨rfl, F4, r4, m4⟩
              have H4 := Lib.hid (One.moves f3 b3 r4 m4)
              clear r3 f3 b3 r4 m4 hp hc3
              obtain ⟨F5, r5, f5, b5⟩ := H4.out
              rw [HX.out.1] at r5
              go_wp2_with fail
              refine (R.pop_some r5).mono ?_
              rintro e W5 ⟨rfl, F6, r6, m6⟩
              have H6 := Lib.hid (One.moves f5 b5 r6 m6)
              clear r5 f5 b5 r6 m6
              obtain ⟨F7, r7, f7, b7⟩ := H6.out
              have hc7 : W5.cell? aj = some (S (z j)) := HC.out.1 W5 b7
              have hp7 : Calls Try.prog 35 #[.pointer (some ⟨g, 0, none⟩), S (z j)] W5 fun e w' => e = .returned (.bool true) ∧ ∃ F', RA w' F' g M (lastF z M (j + 1)) ∧ Moves F7 F' W5 w' := by
                have h := R.push (z j) r7 HC.out.2.1
                rw [decide_eq_true HSZ.out, if_pos HSZ.out, ← HX.out.2] at h
                exact h
              go_wp2_with fail
              refine hp7.mono ?_
              rintro e W8 ⟨rfl, F8, r8, m8⟩
              have H8 := Lib.hid (One.moves f7 b7 r8 m8)
              clear r7 f7 b7 r8 m8 hp7 hc7
              go_wp2
              exact ⟨⟨j + 1, HC.out.2.2, by go_num, H8.out⟩, by have := HC.out.2.2; simp [intOf]; omega⟩
          · obtain rfl : j = i := by omega
            have k1 : decide ((j : Int) < (j : Int)) = false := decide_eq_false (by omega)
            have k1' : decide (j < j) = false := decide_eq_false (by omega)
            clear hlt hj
            go_wp2_with fail
            obtain ⟨K, hK⟩ : ∃ K, K = min j M := ⟨_, rfl⟩
            have HKj : Hid (K = min j M) := Lib.hid hK
            have hlen3 : Calls Try.prog 20 #[.pointer (some ⟨g, 0, none⟩)] wr fun e w' => e = .returned (.int .i64 (K : Int)) ∧ Below wr.heap.size wr w' := by
              obtain ⟨F5, r5, _, _⟩ := HO.out
              have h := R.len r5
              rw [lastF_length, ← hK] at h
              exact h
            have hj50 := HZ.out.1
            refine hlen3.mono ?_
            rintro e W3 ⟨rfl, b3⟩
            have H3 := Lib.hid (HO.out.below R b3)
            clear b3 hlen3
            obtain ⟨F3, r3, f3, b3⟩ := H3.out
            have q5 : decide ((j : Int) < (K : Int)) = false := decide_eq_false (by omega)
            have q5' : decide (j < K) = false := decide_eq_false (by omega)
            by_cases hc0 : 0 ≤ c
            · by_cases hcK : c < (K : Int)
              · obtain ⟨a, ha⟩ : ∃ a : Nat, c = (a : Int) := ⟨c.toNat, by omega⟩
                subst ha
                have g1 : decide ((0 : Int) ≤ (a : Int)) = true := decide_eq_true (by omega)
                have g2 : decide ((a : Int) < (K : Int)) = true := decide_eq_true (by omega)
                have g2' : decide (a < K) = true := decide_eq_true (by omega)
                have hset : Calls Try.prog 37 #[.pointer (some ⟨g, 0, none⟩), .int .i64 (a : Int), .string ⟨#[115, 101, 116]⟩] W3 fun e w' => e = .returned (.bool true) ∧ ∃ F', RA w' F' g M ((lastF z M j).set a [115, 101, 116]) ∧ Moves F3 F' W3 w' :=
                  R.set_some a [115, 101, 116] r3 (by rw [lastF_length]; omega)
                have hcs : ∀ p, p < K → ((lastF z M j).set a [115, 101, 116])[p]? = some (if p = a then [115, 101, 116] else z (j - M + p)) := fun p hp => by
                  by_cases hpa : p = a
                  · subst hpa
                    rw [if_pos rfl, List.getElem?_set_self (by rw [lastF_length]; omega)]
                  · rw [if_neg hpa, List.getElem?_set_ne (Ne.symm hpa), lastF_get z M j p (by omega)]
                have hcl : ((lastF z M j).set a [115, 101, 116]).length = K := by rw [List.length_set, lastF_length]; omega
                generalize (lastF z M j).set a [115, 101, 116] = cs at *
                have HCS := Lib.hid (And.intro hcs hcl)
                clear hcs hcl r3 hK
                go_wp2_with fail
                refine hset.mono ?_
                rintro e W4 ⟨rfl, F4, r4, m4⟩
                have H4 := Lib.hid (One.moves f3 b3 r4 m4)
                clear r4 m4 f3 b3 hset
                have hlen4 : Calls Try.prog 20 #[.pointer (some ⟨g, 0, none⟩)] W4 fun e w' => e = .returned (.int .i64 (K : Int)) ∧ Below W4.heap.size W4 w' := by
                  obtain ⟨F5, r5, _, _⟩ := H4.out
                  have h := R.len r5
                  rw [HCS.out.2] at h
                  exact h
                go_wp2_with fail
                refine hlen4.mono ?_
                rintro e W5 ⟨rfl, b5⟩
                have H5 := Lib.hid (H4.out.below R b5)
                clear b5 hlen4
                go_wp2
                go_loopw [14] (fun iv wr => ∃ p : Nat, p ≤ K ∧ iv = .int .i64 p ∧ One RA w g M cs wr) (fun iv _ => K - (intOf iv).toNat)
                case atStart => exact ⟨0, Nat.zero_le _, rfl, H5.out⟩
                case round =>
                  obtain ⟨p, hp, rfl, hO⟩ := hrel
                  have HO := Lib.hid hO
                  clear hO
                  by_cases hlt : p < K
                  · have k1 : decide ((p : Int) < (K : Int)) = true := decide_eq_true (by omega)
                    have k1' : decide (p < K) = true := decide_eq_true hlt
                    obtain ⟨F6, r6, f6, b6⟩ := HO.out
                    have hjp : j - M + p < j := by have := HKj.out; omega
                    have hidx : ∀ W, (Instr.indexAt 46 V (.int .i64 (((j : Int) - (K : Int)) + (p : Int)))).run Try.prog W = .ok (.pointer (some (ad (j - M + p)))) W := fun W => by
                      have := HV.out.index (j - M + p) hjp W
                      rw [show ((j - M + p : Nat) : Int) = ((j : Int) - (K : Int)) + (p : Int) by have := HKj.out; omega] at this
                      exact this
                    have hbk : w.cell? (ad (j - M + p)) = some (S (z (j - M + p))) := HV.out.cell (j - M + p) hjp
                    have hadw : (ad (j - M + p)).block < w.heap.size := World.block_lt_of_cell? w _ hbk
                    have hcell : ∀ W', Below w.heap.size w W' → W'.cell? (ad (j - M + p)) = some (S (z (j - M + p))) := fun W' hb => by rw [hb.cell hadw]; exact hbk
                    have hw1 : IntKind.i64.wrap ((j : Int) - (K : Int)) = (j : Int) - (K : Int) := by have := HKj.out; have := HZ.out.1; rw [IntKind.wrap_i64]; omega
                    have hw2 : IntKind.i64.wrap (((j : Int) - (K : Int)) + (p : Int)) = ((j : Int) - (K : Int)) + (p : Int) := by have := HKj.out; have := HZ.out.1; rw [IntKind.wrap_i64]; omega
                    have hk50 : K ≤ 50 := by have := HKj.out; have := HZ.out.1; omega
                    have hgd := nguard_S 9
                    have hx6 := HCS.out.1 p hlt
                    generalize z (j - M + p) = y at *
                    generalize ad (j - M + p) = ap at *
                    have HC := Lib.hid (And.intro hcell hlt)
                    clear hbk hadw hcell hjp
                    by_cases hpa : p = a
                    · have g3 : ((p : Int) == (a : Int)) = true := by rw [beq_iff_eq]; omega
                      have g3' : (p == a) = true := by rw [beq_iff_eq]; exact hpa
                      have g3'' : decide (p = a) = true := decide_eq_true hpa
                      rw [if_pos hpa] at hx6
                      have hat : Calls Try.prog 21 #[.pointer (some ⟨g, 0, none⟩), .int .i64 (p : Int)] wr fun e w' => e = .returned (.tuple #[.string ⟨#[115, 101, 116]⟩, .bool true]) ∧ Below wr.heap.size wr w' := R.at_some p [115, 101, 116] r6 hx6
                      clear r6 f6 b6 hx6 hpa hlt
                      go_wp2_with fail
                      refine hat.mono ?_
                      rintro e W7 ⟨rfl, b7⟩
                      have H7 := Lib.hid (HO.out.below R b7)
                      have c7 : W7.cell? ap = some (S y) := by
                        obtain ⟨_, _, _, b8⟩ := H7.out
                        exact HC.out.1 W7 b8
                      clear b7 hat
                      go_wp2
                      exact ⟨⟨p + 1, HC.out.2, by go_num, H7.out⟩, by have := HC.out.2; simp [intOf]; omega⟩
                    · have g3 : ((p : Int) == (a : Int)) = false := by rw [beq_eq_false_iff_ne]; omega
                      have g3' : (p == a) = false := by rw [beq_eq_false_iff_ne]; exact hpa
                      have g3'' : decide (p = a) = false := decide_eq_false hpa
                      rw [if_neg hpa] at hx6
                      have hneq : binOp .neq 9 (S y) (S y) = pure (.bool false) := by rw [neql_S]; simp
                      have hat := R.at_some p y r6 hx6
                      clear r6 f6 b6 hx6 hpa hlt
                      go_wp2_with fail
                      refine hat.mono ?_
                      rintro e W7 ⟨rfl, b7⟩
                      have H7 := Lib.hid (HO.out.below R b7)
                      have c7 : W7.cell? ap = some (S y) := by
                        obtain ⟨_, _, _, b8⟩ := H7.out
                        exact HC.out.1 W7 b8
                      clear b7 hat
                      go_wp2
                      exact ⟨⟨p + 1, HC.out.2, by go_num, H7.out⟩, by have := HC.out.2; simp [intOf]; omega⟩
                  · obtain rfl : p = K := by omega
                    have k1 : decide ((p : Int) < (p : Int)) = false := decide_eq_false (by omega)
                    have k1' : decide (p < p) = false := decide_eq_false (by omega)
                    clear hlt hp
                    obtain ⟨F7, r7, f7, b7⟩ := HO.out
                    have hclr : Calls Try.prog 38 #[.pointer (some ⟨g, 0, none⟩)] wr fun e w' => e = .returned (.int .i64 (p : Int)) ∧ ∃ F', RA w' F' g M [] ∧ Moves F7 F' wr w' := by
                      have h := R.clear r7
                      rw [HCS.out.2] at h
                      exact h
                    go_wp2_with fail
                    refine hclr.mono ?_
                    rintro e W8 ⟨rfl, F8, r8, m8⟩
                    have H8 := Lib.hid (One.moves f7 b7 r8 m8)
                    clear r7 f7 b7 r8 m8 hclr
                    obtain ⟨F9, r9, f9, b9⟩ := H8.out
                    go_wp2_with fail
                    refine (R.pop_none r9).mono ?_
                    rintro e W9 ⟨rfl, F10, r10, m10⟩
                    have H9 := Lib.hid (One.moves f9 b9 r10 m10)
                    clear r9 f9 b9 r10 m10
                    obtain ⟨F11, r11, f11, b11⟩ := H9.out
                    have hpn : Calls Try.prog 35 #[.pointer (some ⟨g, 0, none⟩), .string ⟨#[110, 101, 119]⟩] W9 fun e w' => e = .returned (.bool true) ∧ ∃ F', RA w' F' g M [[110, 101, 119]] ∧ Moves F11 F' W9 w' := by
                      have h := R.push [110, 101, 119] r11 (by decide)
                      rw [show ([] : List (List UInt8)).length = 0 from rfl, decide_eq_true (by omega), if_pos (by omega)] at h
                      exact h
                    go_wp2_with fail
                    refine hpn.mono ?_
                    rintro e W10 ⟨rfl, F12, r12, m12⟩
                    have H10 := Lib.hid (One.moves f11 b11 r12 m12)
                    clear r11 f11 b11 r12 m12 hpn
                    obtain ⟨F13, r13, f13, b13⟩ := H10.out
                    have hpp : Calls Try.prog 36 #[.pointer (some ⟨g, 0, none⟩)] W10 fun e w' => e = .returned (.tuple #[.string ⟨#[110, 101, 119]⟩, .bool true]) ∧ ∃ F', RA w' F' g M [] ∧ Moves F13 F' W10 w' := R.pop_some r13
                    go_wp2_with fail
                    refine hpp.mono ?_
                    rintro e W11 ⟨rfl, F14, r14, m14⟩
                    have H11 := Lib.hid (One.moves f13 b13 r14 m14)
                    clear r13 f13 b13 r14 m14 hpp
                    go_wp2
                    go_ret
                    obtain ⟨_, _, _, hbf⟩ := H11.out
                    exact ⟨rfl, hbf⟩
              · have hset : Calls Try.prog 37 #[.pointer (some ⟨g, 0, none⟩), .int .i64 c, .string ⟨#[115, 101, 116]⟩] W3 fun e w' => e = .returned (.bool false) ∧ ∃ F', RA w' F' g M (lastF z M j) ∧ Moves F3 F' W3 w' :=
                  R.set_none c [115, 101, 116] r3 (by rw [lastF_length]; omega)
                have hcs : ∀ p, p < K → (lastF z M j)[p]? = some (z (j - M + p)) := fun p hp => lastF_get z M j p (by omega)
                have hcl : (lastF z M j).length = K := by rw [lastF_length]; omega
                have g1 : decide ((0 : Int) ≤ c) = true := decide_eq_true (by omega)
                have g2 : decide (c < (K : Int)) = false := decide_eq_false (by omega)
                generalize lastF z M j = cs at *
                have HCS := Lib.hid (And.intro hcs hcl)
                clear hcs hcl r3 hK
                go_wp2_with fail
                refine hset.mono ?_
                rintro e W4 ⟨rfl, F4, r4, m4⟩
                have H4 := Lib.hid (One.moves f3 b3 r4 m4)
                clear r4 m4 f3 b3 hset
                have hlen4 : Calls Try.prog 20 #[.pointer (some ⟨g, 0, none⟩)] W4 fun e w' => e = .returned (.int .i64 (K : Int)) ∧ Below W4.heap.size W4 w' := by
                  obtain ⟨F5, r5, _, _⟩ := H4.out
                  have h := R.len r5
                  rw [HCS.out.2] at h
                  exact h
                go_wp2_with fail
                refine hlen4.mono ?_
                rintro e W5 ⟨rfl, b5⟩
                have H5 := Lib.hid (H4.out.below R b5)
                clear b5 hlen4
                go_wp2
                go_loopw [14] (fun iv wr => ∃ p : Nat, p ≤ K ∧ iv = .int .i64 p ∧ One RA w g M cs wr) (fun iv _ => K - (intOf iv).toNat)
                case atStart => exact ⟨0, Nat.zero_le _, rfl, H5.out⟩
                case round =>
                  obtain ⟨p, hp, rfl, hO⟩ := hrel
                  have HO := Lib.hid hO
                  clear hO
                  by_cases hlt : p < K
                  · have k1 : decide ((p : Int) < (K : Int)) = true := decide_eq_true (by omega)
                    have k1' : decide (p < K) = true := decide_eq_true hlt
                    obtain ⟨F6, r6, f6, b6⟩ := HO.out
                    have hjp : j - M + p < j := by have := HKj.out; omega
                    have hidx : ∀ W, (Instr.indexAt 46 V (.int .i64 (((j : Int) - (K : Int)) + (p : Int)))).run Try.prog W = .ok (.pointer (some (ad (j - M + p)))) W := fun W => by
                      have := HV.out.index (j - M + p) hjp W
                      rw [show ((j - M + p : Nat) : Int) = ((j : Int) - (K : Int)) + (p : Int) by have := HKj.out; omega] at this
                      exact this
                    have hbk : w.cell? (ad (j - M + p)) = some (S (z (j - M + p))) := HV.out.cell (j - M + p) hjp
                    have hadw : (ad (j - M + p)).block < w.heap.size := World.block_lt_of_cell? w _ hbk
                    have hcell : ∀ W', Below w.heap.size w W' → W'.cell? (ad (j - M + p)) = some (S (z (j - M + p))) := fun W' hb => by rw [hb.cell hadw]; exact hbk
                    have hw1 : IntKind.i64.wrap ((j : Int) - (K : Int)) = (j : Int) - (K : Int) := by have := HKj.out; have := HZ.out.1; rw [IntKind.wrap_i64]; omega
                    have hw2 : IntKind.i64.wrap (((j : Int) - (K : Int)) + (p : Int)) = ((j : Int) - (K : Int)) + (p : Int) := by have := HKj.out; have := HZ.out.1; rw [IntKind.wrap_i64]; omega
                    have hk50 : K ≤ 50 := by have := HKj.out; have := HZ.out.1; omega
                    have hgd := nguard_S 9
                    have hx6 := HCS.out.1 p hlt
                    generalize z (j - M + p) = y at *
                    generalize ad (j - M + p) = ap at *
                    have HC := Lib.hid (And.intro hcell hlt)
                    clear hbk hadw hcell hjp
                    have g3 : ((p : Int) == c) = false := by rw [beq_eq_false_iff_ne]; omega
                    have hneq : binOp .neq 9 (S y) (S y) = pure (.bool false) := by rw [neql_S]; simp
                    have hat := R.at_some p y r6 hx6
                    clear r6 f6 b6 hx6 hlt
                    go_wp2_with fail
                    refine hat.mono ?_
                    rintro e W7 ⟨rfl, b7⟩
                    have H7 := Lib.hid (HO.out.below R b7)
                    have c7 : W7.cell? ap = some (S y) := by
                      obtain ⟨_, _, _, b8⟩ := H7.out
                      exact HC.out.1 W7 b8
                    clear b7 hat
                    go_wp2
                    exact ⟨⟨p + 1, HC.out.2, by go_num, H7.out⟩, by have := HC.out.2; simp [intOf]; omega⟩
                  · obtain rfl : p = K := by omega
                    have k1 : decide ((p : Int) < (p : Int)) = false := decide_eq_false (by omega)
                    have k1' : decide (p < p) = false := decide_eq_false (by omega)
                    clear hlt hp
                    obtain ⟨F7, r7, f7, b7⟩ := HO.out
                    have hclr : Calls Try.prog 38 #[.pointer (some ⟨g, 0, none⟩)] wr fun e w' => e = .returned (.int .i64 (p : Int)) ∧ ∃ F', RA w' F' g M [] ∧ Moves F7 F' wr w' := by
                      have h := R.clear r7
                      rw [HCS.out.2] at h
                      exact h
                    go_wp2_with fail
                    refine hclr.mono ?_
                    rintro e W8 ⟨rfl, F8, r8, m8⟩
                    have H8 := Lib.hid (One.moves f7 b7 r8 m8)
                    clear r7 f7 b7 r8 m8 hclr
                    obtain ⟨F9, r9, f9, b9⟩ := H8.out
                    go_wp2_with fail
                    refine (R.pop_none r9).mono ?_
                    rintro e W9 ⟨rfl, F10, r10, m10⟩
                    have H9 := Lib.hid (One.moves f9 b9 r10 m10)
                    clear r9 f9 b9 r10 m10
                    obtain ⟨F11, r11, f11, b11⟩ := H9.out
                    have hpn : Calls Try.prog 35 #[.pointer (some ⟨g, 0, none⟩), .string ⟨#[110, 101, 119]⟩] W9 fun e w' => e = .returned (.bool true) ∧ ∃ F', RA w' F' g M [[110, 101, 119]] ∧ Moves F11 F' W9 w' := by
                      have h := R.push [110, 101, 119] r11 (by decide)
                      rw [show ([] : List (List UInt8)).length = 0 from rfl, decide_eq_true (by omega), if_pos (by omega)] at h
                      exact h
                    go_wp2_with fail
                    refine hpn.mono ?_
                    rintro e W10 ⟨rfl, F12, r12, m12⟩
                    have H10 := Lib.hid (One.moves f11 b11 r12 m12)
                    clear r11 f11 b11 r12 m12 hpn
                    obtain ⟨F13, r13, f13, b13⟩ := H10.out
                    have hpp : Calls Try.prog 36 #[.pointer (some ⟨g, 0, none⟩)] W10 fun e w' => e = .returned (.tuple #[.string ⟨#[110, 101, 119]⟩, .bool true]) ∧ ∃ F', RA w' F' g M [] ∧ Moves F13 F' W10 w' := R.pop_some r13
                    go_wp2_with fail
                    refine hpp.mono ?_
                    rintro e W11 ⟨rfl, F14, r14, m14⟩
                    have H11 := Lib.hid (One.moves f13 b13 r14 m14)
                    clear r13 f13 b13 r14 m14 hpp
                    go_wp2
                    go_ret
                    obtain ⟨_, _, _, hbf⟩ := H11.out
                    exact ⟨rfl, hbf⟩
            · have hset : Calls Try.prog 37 #[.pointer (some ⟨g, 0, none⟩), .int .i64 c, .string ⟨#[115, 101, 116]⟩] W3 fun e w' => e = .returned (.bool false) ∧ ∃ F', RA w' F' g M (lastF z M j) ∧ Moves F3 F' W3 w' :=
                R.set_none c [115, 101, 116] r3 (by rw [lastF_length]; omega)
              have hcs : ∀ p, p < K → (lastF z M j)[p]? = some (z (j - M + p)) := fun p hp => lastF_get z M j p (by omega)
              have hcl : (lastF z M j).length = K := by rw [lastF_length]; omega
              have g1 : decide ((0 : Int) ≤ c) = false := decide_eq_false (by omega)
              generalize lastF z M j = cs at *
              have HCS := Lib.hid (And.intro hcs hcl)
              clear hcs hcl r3 hK
              go_wp2_with fail
              refine hset.mono ?_
              rintro e W4 ⟨rfl, F4, r4, m4⟩
              have H4 := Lib.hid (One.moves f3 b3 r4 m4)
              clear r4 m4 f3 b3 hset
              have hlen4 : Calls Try.prog 20 #[.pointer (some ⟨g, 0, none⟩)] W4 fun e w' => e = .returned (.int .i64 (K : Int)) ∧ Below W4.heap.size W4 w' := by
                obtain ⟨F5, r5, _, _⟩ := H4.out
                have h := R.len r5
                rw [HCS.out.2] at h
                exact h
              go_wp2_with fail
              refine hlen4.mono ?_
              rintro e W5 ⟨rfl, b5⟩
              have H5 := Lib.hid (H4.out.below R b5)
              clear b5 hlen4
              go_wp2
              go_loopw [14] (fun iv wr => ∃ p : Nat, p ≤ K ∧ iv = .int .i64 p ∧ One RA w g M cs wr) (fun iv _ => K - (intOf iv).toNat)
              case atStart => exact ⟨0, Nat.zero_le _, rfl, H5.out⟩
              case round =>
                obtain ⟨p, hp, rfl, hO⟩ := hrel
                have HO := Lib.hid hO
                clear hO
                by_cases hlt : p < K
                · have k1 : decide ((p : Int) < (K : Int)) = true := decide_eq_true (by omega)
                  have k1' : decide (p < K) = true := decide_eq_true hlt
                  obtain ⟨F6, r6, f6, b6⟩ := HO.out
                  have hjp : j - M + p < j := by have := HKj.out; omega
                  have hidx : ∀ W, (Instr.indexAt 46 V (.int .i64 (((j : Int) - (K : Int)) + (p : Int)))).run Try.prog W = .ok (.pointer (some (ad (j - M + p)))) W := fun W => by
                    have := HV.out.index (j - M + p) hjp W
                    rw [show ((j - M + p : Nat) : Int) = ((j : Int) - (K : Int)) + (p : Int) by have := HKj.out; omega] at this
                    exact this
                  have hbk : w.cell? (ad (j - M + p)) = some (S (z (j - M + p))) := HV.out.cell (j - M + p) hjp
                  have hadw : (ad (j - M + p)).block < w.heap.size := World.block_lt_of_cell? w _ hbk
                  have hcell : ∀ W', Below w.heap.size w W' → W'.cell? (ad (j - M + p)) = some (S (z (j - M + p))) := fun W' hb => by rw [hb.cell hadw]; exact hbk
                  have hw1 : IntKind.i64.wrap ((j : Int) - (K : Int)) = (j : Int) - (K : Int) := by have := HKj.out; have := HZ.out.1; rw [IntKind.wrap_i64]; omega
                  have hw2 : IntKind.i64.wrap (((j : Int) - (K : Int)) + (p : Int)) = ((j : Int) - (K : Int)) + (p : Int) := by have := HKj.out; have := HZ.out.1; rw [IntKind.wrap_i64]; omega
                  have hk50 : K ≤ 50 := by have := HKj.out; have := HZ.out.1; omega
                  have hgd := nguard_S 9
                  have hx6 := HCS.out.1 p hlt
                  generalize z (j - M + p) = y at *
                  generalize ad (j - M + p) = ap at *
                  have HC := Lib.hid (And.intro hcell hlt)
                  clear hbk hadw hcell hjp
                  have g3 : ((p : Int) == c) = false := by rw [beq_eq_false_iff_ne]; omega
                  have hneq : binOp .neq 9 (S y) (S y) = pure (.bool false) := by rw [neql_S]; simp
                  have hat := R.at_some p y r6 hx6
                  clear r6 f6 b6 hx6 hlt
                  go_wp2_with fail
                  refine hat.mono ?_
                  rintro e W7 ⟨rfl, b7⟩
                  have H7 := Lib.hid (HO.out.below R b7)
                  have c7 : W7.cell? ap = some (S y) := by
                    obtain ⟨_, _, _, b8⟩ := H7.out
                    exact HC.out.1 W7 b8
                  clear b7 hat
                  go_wp2
                  exact ⟨⟨p + 1, HC.out.2, by go_num, H7.out⟩, by have := HC.out.2; simp [intOf]; omega⟩
                · obtain rfl : p = K := by omega
                  have k1 : decide ((p : Int) < (p : Int)) = false := decide_eq_false (by omega)
                  have k1' : decide (p < p) = false := decide_eq_false (by omega)
                  clear hlt hp
                  obtain ⟨F7, r7, f7, b7⟩ := HO.out
                  have hclr : Calls Try.prog 38 #[.pointer (some ⟨g, 0, none⟩)] wr fun e w' => e = .returned (.int .i64 (p : Int)) ∧ ∃ F', RA w' F' g M [] ∧ Moves F7 F' wr w' := by
                    have h := R.clear r7
                    rw [HCS.out.2] at h
                    exact h
                  go_wp2_with fail
                  refine hclr.mono ?_
                  rintro e W8 ⟨rfl, F8, r8, m8⟩
                  have H8 := Lib.hid (One.moves f7 b7 r8 m8)
                  clear r7 f7 b7 r8 m8 hclr
                  obtain ⟨F9, r9, f9, b9⟩ := H8.out
                  go_wp2_with fail
                  refine (R.pop_none r9).mono ?_
                  rintro e W9 ⟨rfl, F10, r10, m10⟩
                  have H9 := Lib.hid (One.moves f9 b9 r10 m10)
                  clear r9 f9 b9 r10 m10
                  obtain ⟨F11, r11, f11, b11⟩ := H9.out
                  have hpn : Calls Try.prog 35 #[.pointer (some ⟨g, 0, none⟩), .string ⟨#[110, 101, 119]⟩] W9 fun e w' => e = .returned (.bool true) ∧ ∃ F', RA w' F' g M [[110, 101, 119]] ∧ Moves F11 F' W9 w' := by
                    have h := R.push [110, 101, 119] r11 (by decide)
                    rw [show ([] : List (List UInt8)).length = 0 from rfl, decide_eq_true (by omega), if_pos (by omega)] at h
                    exact h
                  go_wp2_with fail
                  refine hpn.mono ?_
                  rintro e W10 ⟨rfl, F12, r12, m12⟩
                  have H10 := Lib.hid (One.moves f11 b11 r12 m12)
                  clear r11 f11 b11 r12 m12 hpn
                  obtain ⟨F13, r13, f13, b13⟩ := H10.out
                  have hpp : Calls Try.prog 36 #[.pointer (some ⟨g, 0, none⟩)] W10 fun e w' => e = .returned (.tuple #[.string ⟨#[110, 101, 119]⟩, .bool true]) ∧ ∃ F', RA w' F' g M [] ∧ Moves F13 F' W10 w' := R.pop_some r13
                  go_wp2_with fail
                  refine hpp.mono ?_
                  rintro e W11 ⟨rfl, F14, r14, m14⟩
                  have H11 := Lib.hid (One.moves f13 b13 r14 m14)
                  clear r13 f13 b13 r14 m14 hpp
                  go_wp2
                  go_ret
                  obtain ⟨_, _, _, hbf⟩ := H11.out
                  exact ⟨rfl, hbf⟩
end
end Go.Proofs.Ytkekjcdhlkhhoaa
