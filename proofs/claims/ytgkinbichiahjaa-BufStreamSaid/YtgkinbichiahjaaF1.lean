/- The walk of BufFinds. -/
import Derived.Test.YtgkinbichiahjaaA1
namespace Go.Proofs.Ytgkinbichiahjaa
open Go.RowKit
attribute [local go_sem] store_one S_match S_store

theorem found_none (s p : List UInt8) (h : findF s p 0 < 0) : findF s p 0 = -1 ∧ ∃ k : Nat, findF (s ++ p) p 0 = (k : Int) ∧ (s.length : Int) - (p.length : Int) < (k : Int) ∧ k ≤ s.length := by
  rw [findF_zero] at h ⊢
  rw [findF_zero]
  obtain ⟨h1, hno⟩ : Lib.index s p = -1 ∧ ∀ j, j ≤ s.length → Lib.occAt s p j = false := by
    rcases Lib.index_spec s p with h1 | ⟨i, h1, _⟩
    · exact h1
    · omega
  refine ⟨h1, ?_⟩
  have hocc : Lib.occAt (s ++ p) p s.length = true := by
    rw [occ_iff, List.drop_left, List.take_of_length_le (Nat.le_refl _)]
  rcases Lib.index_spec (s ++ p) p with ⟨_, hno2⟩ | ⟨k, h2, hk, ho, hno2⟩
  · rw [hno2 s.length (by rw [List.length_append]; omega)] at hocc; cases hocc
  · have hks : k ≤ s.length := by
      rcases Nat.lt_or_ge s.length k with hlt | hge
      · rw [hno2 s.length hlt] at hocc; cases hocc
      · exact hge
    refine ⟨k, h2, ?_, hks⟩
    rcases Nat.lt_or_ge s.length (k + p.length) with hlt | hge
    · omega
    · have : Lib.occAt s p k = true := by
        rw [occ_iff] at ho ⊢
        rw [List.drop_append_of_le_length hks, List.take_append_of_le_length (by rw [List.length_drop]; omega)] at ho
        exact ho
      rw [hno k hks] at this; cases this
theorem found_some (s p : List UInt8) (h : 0 ≤ findF s p 0) : ∃ i : Nat, findF s p 0 = (i : Int) ∧ i + p.length ≤ s.length ∧ (s.drop i).take p.length = p ∧ findF (s.drop i) p 0 = 0 ∧ (i = 0 ∨ i < s.length) := by
  have hroom := Lib.index_room s p (by rw [← findF_zero]; exact h)
  rw [findF_zero] at h ⊢
  rcases Lib.index_spec s p with ⟨h1, _⟩ | ⟨i, h1, hi, ho, hno⟩
  · omega
  have ht := (occ_iff s p i).1 ho
  refine ⟨i, h1, by omega, ht, ?_, ?_⟩
  · rw [findF_zero]
    have := Lib.index_hit (s := s.drop i) (sub := p) (i := 0) (Lib.NoOcc.zero _ _) (Nat.zero_le _) (by rw [occ_iff, List.drop_zero]; exact ht)
    exact this
  · rcases Nat.eq_zero_or_pos i with h0 | h0
    · exact .inl h0
    · right
      rcases Nat.eq_zero_or_pos p.length with hp | hp
      · have : p = [] := List.length_eq_zero_iff.1 hp
        subst this
        have := hno 0 h0
        simp [Lib.occAt] at this
      · omega
theorem peekF_nat (x : List UInt8) (n : Nat) : peekF x (n : Int) = x.take n := by
  unfold peekF
  split
  · obtain rfl : n = 0 := by omega
    rfl
  · rw [Int.toNat_natCast]
theorem peekF_len (x : List UInt8) (n : Nat) (h : n ≤ x.length) : (peekF x (n : Int)).length = n := by
  rw [peekF_nat, List.length_take]; omega

set_option maxRecDepth 100000 in
set_option maxHeartbeats 2000000 in
theorem finds_any (s p : List UInt8) (w : World) (hm : MaxAt w) : Calls Try.prog 7 #[S s, S p] w fun e w' => e = .returned (.bool true) ∧ Below w.heap.size w w' := by
  have hlenS := run_len_S (P := Try.prog) Try.underlying9 3 s
  have hlenP := run_len_S (P := Try.prog) Try.underlying9 3 p
  go_enter Try.func7, Try.ntmps7
  go_wp2_with fail
  refine (awake_any w hm).mono ?_
  rintro e W1 ⟨rfl, hB⟩
  have HB := Lib.hid hB
  clear hB
  by_cases h1 : 1000 < s.length
  · have hb : decide ((1000 : Int) < (s.length : Int)) = true := decide_eq_true (by omega)
    go_wp2
    go_ret
    exact ⟨rfl, HB.out⟩
  have hb : decide ((1000 : Int) < (s.length : Int)) = false := decide_eq_false (by omega)
  by_cases h2 : 1000 < p.length
  · have hb2 : decide ((1000 : Int) < (p.length : Int)) = true := decide_eq_true (by omega)
    go_wp2
    go_ret
    exact ⟨rfl, HB.out⟩
  have hb2 : decide ((1000 : Int) < (p.length : Int)) = false := decide_eq_false (by omega)
  have HZ : Hid (s.length ≤ 1000 ∧ p.length ≤ 1000) := Lib.hid ⟨by omega, by omega⟩
  clear h1 h2
  go_wp2_with fail
  refine (new_good 3000 W1 (by decide)).mono ?_
  rintro e W2 ⟨rfl, hF, hz, hB2⟩
  have b2 : BufAt W2 W1.heap.size (Under W1.heap.size) true 3000 [] := hF.buf _ (fun k hk => by unfold Under at hk; omega) (by decide)
  have H2 := Lib.hid (And.intro b2 (HB.out.trans (hB2.mono HB.out.size)))
  have HG : Hid (w.heap.size ≤ W1.heap.size) := Lib.hid HB.out.size
  clear hF b2 hB2 hz
  generalize W1.heap.size = g at *
  have hadd : binOp .add 9 (.string ⟨#[97, 104, 101, 97, 100]⟩) (S s) = pure (S ([97, 104, 101, 97, 100] ++ s)) := S_add 9 [97, 104, 101, 97, 100] s (by have := HZ.out.1; simp; omega)
  have hlT : ([97, 104, 101, 97, 100] ++ s).length = 5 + s.length := by rw [List.length_append]; rfl
  have hT1 : peekF ([97, 104, 101, 97, 100] ++ s) 5 = [97, 104, 101, 97, 100] := by
    have := peekF_nat ([97, 104, 101, 97, 100] ++ s) 5
    rw [show ((5 : Nat) : Int) = 5 from rfl] at this
    rw [this]; rfl
  have hT2 : ([97, 104, 101, 97, 100] ++ s).drop 5 = s := rfl
  generalize [97, 104, 101, 97, 100] ++ s = T at *
  have HT := Lib.hid (And.intro hlT (And.intro hT1 hT2))
  clear hlT hT1 hT2
  go_wp2_with fail
  have h3 : Calls Try.prog 9 #[.pointer (some ⟨g, 0, none⟩), S T] W2 fun e w' => e = .returned (.int .i64 ((min T.length 3000 : Nat) : Int)) ∧ BufAt w' g (Under g) true 3000 T ∧ Spare g (Under g) W2 w' := by
    have := write_any g (Under g) true 3000 [] T W2 H2.out.1 (by have := HT.out.1; have := HZ.out.1; simp only [maxLen]; omega)
    rw [show ([] : List UInt8) ++ T.take (3000 - ([] : List UInt8).length) = T by
      rw [List.nil_append, List.take_of_length_le]; have := HT.out.1; have := HZ.out.1; simp; omega] at this
    exact this
  refine h3.mono ?_
  rintro e W3 ⟨rfl, b, s'⟩
  have H3 : Hid (BufAt W3 g (Under g) true 3000 T ∧ Below w.heap.size w W3) := Lib.hid ⟨b, H2.out.2.trans ((s'.below (Nat.le_refl _)).mono HG.out)⟩
  clear h3 b s'
  go_wp2_with fail
  have h4 : Calls Try.prog 11 #[.pointer (some ⟨g, 0, none⟩), .int .i64 5] W3 fun e w' => e = .returned (.string ⟨#[97, 104, 101, 97, 100]⟩) ∧ BufAt w' g (Under g) true 3000 s ∧ Spare g (Under g) W3 w' := by
    have := read_any g (Under g) true 3000 T 5 W3 H3.out.1
    rw [HT.out.2.1, show ([97, 104, 101, 97, 100] : List UInt8).length = 5 from rfl, HT.out.2.2] at this
    exact this
  refine h4.mono ?_
  rintro e W4 ⟨rfl, b, s'⟩
  have H4 : Hid (BufAt W4 g (Under g) true 3000 s ∧ Below w.heap.size w W4) := Lib.hid ⟨b, H3.out.2.trans ((s'.below (Nat.le_refl _)).mono HG.out)⟩
  clear h4 b s'
  go_wp2_with fail
  refine (find_any g (Under g) 3000 s p W4 H4.out.1 (by have := HZ.out.2; omega) (hm.below H4.out.2 hm.pos)).mono ?_
  rintro e W5 ⟨rfl, s'⟩
  have H5 : Hid (BufAt W5 g (Under g) true 3000 s ∧ Below w.heap.size w W5) := Lib.hid ⟨H4.out.1.below s', H4.out.2.trans (s'.mono H4.out.2.size)⟩
  clear s'
  by_cases hneg : findF s p 0 < 0
  · obtain ⟨hf, k, hk, hk1, hk2⟩ := found_none s p hneg
    rw [hf]
    clear hneg
    go_wp2_with fail
    have h6 : Calls Try.prog 9 #[.pointer (some ⟨g, 0, none⟩), S p] W5 fun e w' => e = .returned (.int .i64 ((min p.length (3000 - s.length) : Nat) : Int)) ∧ BufAt w' g (Under g) true 3000 (s ++ p) ∧ Spare g (Under g) W5 w' := by
      have := write_any g (Under g) true 3000 s p W5 H5.out.1 (by have := HZ.out.2; simp only [maxLen]; omega)
      rw [show p.take (3000 - s.length) = p by rw [List.take_of_length_le]; have := HZ.out; omega] at this
      exact this
    refine h6.mono ?_
    rintro e W6 ⟨rfl, b, s'⟩
    have H6 : Hid (BufAt W6 g (Under g) true 3000 (s ++ p) ∧ Below w.heap.size w W6) := Lib.hid ⟨b, H5.out.2.trans ((s'.below (Nat.le_refl _)).mono HG.out)⟩
    clear h6 b s'
    go_wp2_with fail
    refine (find_any g (Under g) 3000 (s ++ p) p W6 H6.out.1 (by have := HZ.out.2; omega) (hm.below H6.out.2 hm.pos)).mono ?_
    rintro e W7 ⟨rfl, s'⟩
    have H7 : Hid (Below w.heap.size w W7) := Lib.hid (H6.out.2.trans (s'.mono H6.out.2.size))
    clear s'
    rw [hk]
    have hz := HZ.out
    have hwr : IntKind.i64.wrap ((s.length : Int) - (p.length : Int)) = (s.length : Int) - (p.length : Int) := by rw [IntKind.wrap_i64]; omega
    have hd1 : decide ((s.length : Int) - (p.length : Int) < (k : Int)) = true := decide_eq_true hk1
    have hd2 : decide ((k : Int) ≤ (s.length : Int)) = true := decide_eq_true (by omega)
    have hd3 : decide (k ≤ s.length) = true := decide_eq_true (by omega)
    generalize s.length = L at *
    generalize p.length = M at *
    clear hk hf
    go_wp2
    go_ret
    exact ⟨rfl, H7.out⟩
  · obtain ⟨i, hf, hi, ht, hz, hor⟩ := found_some s p (by omega)
    have hsl : ∀ w, (Instr.slice 9 (S s) none (some (.int .i64 (i : Int))) none).run Try.prog w = .ok (S (s.take i)) w := fun w => slice_take (P := Try.prog) Try.underlying9 s i (by omega) w
    have heq1 : binOp .eql 9 (S p) (S p) = pure (.bool true) := by rw [eql_S]; simp
    have heq2 : binOp .eql 9 (S (s.take i)) (S (s.take i)) = pure (.bool true) := by rw [eql_S]; simp
    have hgd := guard_S 9
    rw [hf]
    have HM := Lib.hid (And.intro hi (And.intro ht (And.intro hz hor)))
    have hb3 : decide ((i : Int) < 0) = false := decide_eq_false (by omega)
    clear hneg hi ht hz hor hf
    go_wp2_with fail
    have h6 : Calls Try.prog 11 #[.pointer (some ⟨g, 0, none⟩), .int .i64 (i : Int)] W5 fun e w' => e = .returned (S (s.take i)) ∧ BufAt w' g (Under g) true 3000 (s.drop i) ∧ Spare g (Under g) W5 w' := by
      have := read_any g (Under g) true 3000 s (i : Int) W5 H5.out.1
      rw [peekF_len s i (by have := HM.out.1; omega), peekF_nat] at this
      exact this
    refine h6.mono ?_
    rintro e W6 ⟨rfl, b, s'⟩
    have H6 : Hid (BufAt W6 g (Under g) true 3000 (s.drop i) ∧ Below w.heap.size w W6) := Lib.hid ⟨b, H5.out.2.trans ((s'.below (Nat.le_refl _)).mono HG.out)⟩
    clear h6 b s'
    have hd1 : decide ((i : Int) ≤ (s.length : Int)) = true := decide_eq_true (by have := HM.out.1; omega)
    have hd2 : decide (i ≤ s.length) = true := decide_eq_true (by have := HM.out.1; omega)
    have hd3 : decide ((0 : Int) ≤ (i : Int)) = true := decide_eq_true (by omega)
    go_wp2_with fail
    have h7 : Calls Try.prog 17 #[.pointer (some ⟨g, 0, none⟩), .int .i64 (p.length : Int)] W6 fun e w' => e = .returned (S p) ∧ Drawn W6 w' := by
      have := peek_any g (Under g) true 3000 (s.drop i) (p.length : Int) W6 H6.out.1
      rw [peekF_nat, HM.out.2.1] at this
      exact this
    refine h7.mono ?_
    rintro e W7 ⟨rfl, s'⟩
    have H7 : Hid (BufAt W7 g (Under g) true 3000 (s.drop i) ∧ Below w.heap.size w W7) := Lib.hid ⟨H6.out.1.drawn s', H6.out.2.trans (((Spare.of_drawn (g := g) (A := Under g) s').below (Nat.le_refl _)).mono HG.out)⟩
    clear h7 s'
    go_wp2_with fail
    refine (find_any g (Under g) 3000 (s.drop i) p W7 H7.out.1 (by have := HZ.out.2; omega) (hm.below H7.out.2 hm.pos)).mono ?_
    rintro e W8 ⟨rfl, s'⟩
    have H8 : Hid (Below w.heap.size w W8) := Lib.hid (H7.out.2.trans (s'.mono H7.out.2.size))
    clear s'
    rw [HM.out.2.2.1]
    by_cases hi0 : i = 0
    · have hq : ((i : Int) == 0) = true := by rw [beq_iff_eq]; omega
      have hq2 : (i == 0) = true := by rw [beq_iff_eq]; exact hi0
      have hq3 : decide (i = 0) = true := decide_eq_true hi0
      clear hi0
      go_wp2
      go_ret
      exact ⟨rfl, H8.out⟩
    · have hq : ((i : Int) == 0) = false := by rw [beq_eq_false_iff_ne]; omega
      have hd4 : decide ((i : Int) < (s.length : Int)) = true := decide_eq_true (by have := HM.out.2.2.2; omega)
      have hd5 : decide (i < s.length) = true := decide_eq_true (by have := HM.out.2.2.2; omega)
      go_wp2
      go_ret
      exact ⟨rfl, H8.out⟩
end Go.Proofs.Ytgkinbichiahjaa
