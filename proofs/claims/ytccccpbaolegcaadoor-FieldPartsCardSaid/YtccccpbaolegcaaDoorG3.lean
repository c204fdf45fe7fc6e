/- The landed package's Alike, Parse and Get walked. -/
import Derived.Test.YtccccpbaolegcaaDoorG2
import Derived.Test.YtccccpbaolegcaaDoorF7
namespace Go.Proofs.YtccccpbaolegcaaDoor
open Go.RowKit
attribute [local go_sem] store_one S_match S_store

set_option maxRecDepth 100000 in
set_option maxHeartbeats 400000 in
theorem alike16_any (a b : List UInt8) (ha : a.length ≤ 100000) (_hb : b.length ≤ 100000) (w : World) : Calls Tryd.prog 16 #[S a, S b] w fun e w' => e = .returned (.bool (alikeF a b)) ∧ Drawn w w' := by
  have hla := run_len_S (P := Tryd.prog) Tryd.underlying9 3 a
  have hlb := run_len_S (P := Tryd.prog) Tryd.underlying9 3 b
  have HC : Hid (∀ z w, Calls Tryd.prog 30 #[B z] w fun e w' => e = .returned (.int .u8 ((lowB z).toNat : Int)) ∧ Drawn w w') := Lib.hid fun z w => (small_any z w).mono (by rintro e w' ⟨he, rfl⟩; exact ⟨he, Drawn.refl _⟩)
  by_cases hne : a.length = b.length
  · have hq : ((a.length : Int) != (b.length : Int)) = false := by rw [hne]; simp
    have hq' : (a.length != b.length) = false := by rw [hne]; simp
    obtain ⟨L, hL⟩ : ∃ L, L = a.length := ⟨_, rfl⟩
    rw [← hne, ← hL] at hlb
    rw [← hL] at hla
    have HL := Lib.hid (And.intro hL hne)
    rw [← hL] at ha
    clear hq hq' hL hne
    have hq : ((L : Int) != (L : Int)) = false := by simp
    go_enter Tryd.func16, Tryd.ntmps16
    go_wp2
    go_loopw [13] (fun iv wr => ∃ i : Nat, i ≤ L ∧ iv = .int .i64 (i : Int) ∧ Drawn w wr ∧ (a.take i).map lowB = (b.take i).map lowB) (fun iv _ => L - (intOf iv).toNat)
    case atStart => exact ⟨0, Nat.zero_le _, rfl, Drawn.refl _, rfl⟩
    case round =>
      obtain ⟨i, hi, rfl, hD, hm⟩ := hrel
      by_cases hlt : i < L
      · obtain ⟨x, hx⟩ : ∃ x, a[i]? = some x := ⟨a[i]'(by have := HL.out.1; omega), List.getElem?_eq_getElem _⟩
        obtain ⟨y, hy⟩ : ∃ y, b[i]? = some y := ⟨b[i]'(by have := HL.out; omega), List.getElem?_eq_getElem _⟩
        have hix : ∀ w, (Instr.index 9 (S a) (.int .i64 (i : Int))).run Tryd.prog w = .ok (B x) w := fun w => index_S (P := Tryd.prog) Tryd.underlying9 a i x hx w
        have hiy : ∀ w, (Instr.index 9 (S b) (.int .i64 (i : Int))).run Tryd.prog w = .ok (B y) w := fun w => index_S (P := Tryd.prog) Tryd.underlying9 b i y hy w
        have hn := neqN (lowB x) (lowB y)
        by_cases he : lowB x = lowB y
        · have HN := Lib.hid (And.intro hD (map_take_next hx hy hm he))
          rw [beq_iff_eq.2 he, Bool.not_true] at hn
          clear hD hm hx hy he
          go_wp2
          go_quiet (first | (go_at_call 30; exact Calls.quiet_of (HC.out _ _)))
          go_wp2
          exact ⟨⟨i + 1, by omega, by go_num, HN.out.1.trans ⟨_, rfl⟩, HN.out.2⟩, by simp [intOf]; omega⟩
        · have HN := Lib.hid (And.intro hD (alike_stop hx hy he))
          rw [beq_eq_false_iff_ne.2 he, Bool.not_false] at hn
          clear hD hm hx hy he
          go_wp2
          go_quiet (first | (go_at_call 30; exact Calls.quiet_of (HC.out _ _)))
          go_wp2
          go_ret
          exact ⟨by rw [HN.out.2]; rfl, HN.out.1.trans ⟨_, rfl⟩⟩
      · obtain rfl : i = L := by omega
        have HN : Hid (Drawn w wr ∧ alikeF a b = true) := Lib.hid ⟨hD, by
          rw [List.take_of_length_le (by have := HL.out.1; omega), List.take_of_length_le (by have := HL.out; omega)] at hm
          unfold alikeF; rw [hm]; simp⟩
        clear hm hD
        go_wp2
        go_ret
        exact ⟨by rw [HN.out.2]; rfl, HN.out.1⟩
  · have hq : ((a.length : Int) != (b.length : Int)) = true := by rw [bne_iff_ne]; omega
    have hq' : (a.length != b.length) = true := by rw [bne_iff_ne]; exact hne
    have HN := Lib.hid (alike_len hne)
    clear hne
    go_enter Tryd.func16, Tryd.ntmps16
    go_wp2
    go_ret
    exact ⟨by rw [HN.out]; rfl, Drawn.refl _⟩

theorem val_bad (b : List UInt8) : b.all valB = !(b.any badB) := by
  rw [List.not_any_eq_all_not]; rfl
theorem take_short {p : UInt8 → Bool} : ∀ {a : List UInt8} (r : List UInt8), a.all p = false → (a ++ r).takeWhile p = a.takeWhile p ∧ ∃ c, a[(a.takeWhile p).length]? = some c
  | [], _, h => by cases h
  | c :: a, r, h => by
    cases hc : p c with
    | true =>
      rw [List.all_cons, hc, Bool.true_and] at h
      obtain ⟨h1, d, h2⟩ := take_short r h
      rw [List.cons_append, List.takeWhile_cons, List.takeWhile_cons, hc, if_pos rfl, if_pos rfl, h1]
      exact ⟨rfl, d, by rw [List.length_cons, List.getElem?_cons_succ]; exact h2⟩
    | false =>
      rw [List.cons_append, List.takeWhile_cons, List.takeWhile_cons, hc, if_neg Bool.false_ne_true, if_neg Bool.false_ne_true]
      exact ⟨rfl, c, rfl⟩
theorem parse_cut (a b : List UInt8) (h : 58 ∉ a) : parseF (a ++ 58 :: b) = if (tokF a && b.all valB) = true then (a, bareF b, true) else ([], [], false) := by
  rw [val_bad]
  cases ht : a.all tokB with
  | true =>
    by_cases h0 : a.length = 0
    · have htf : tokF a = false := by unfold tokF; rw [decide_eq_false (by omega), Bool.and_false]
      rw [htf, Bool.false_and, if_neg Bool.false_ne_true]
      unfold parseF
      rw [name_of ht, if_pos (.inl h0)]
    · have htf : tokF a = true := by unfold tokF; rw [ht, decide_eq_true (by omega)]; rfl
      rw [htf, Bool.true_and]
      cases hb : b.any badB with
      | false => rw [parse_of htf hb]; rfl
      | true =>
        have hd : (a ++ 58 :: b).drop (a.length + 1) = b := by
          rw [List.drop_append, List.drop_of_length_le (by omega), show a.length + 1 - a.length = 1 by omega]; rfl
        unfold parseF
        rw [name_of ht, hd, if_pos (.inr (.inr hb))]; rfl
  | false =>
    have htf : tokF a = false := by unfold tokF; rw [ht, Bool.false_and]
    rw [htf, Bool.false_and, if_neg Bool.false_ne_true]
    obtain ⟨h1, c, h2⟩ := take_short (58 :: b) ht
    unfold parseF nameLen
    rw [h1, if_pos]
    refine .inr (.inl ?_)
    obtain ⟨hl, _⟩ := List.getElem?_eq_some_iff.1 h2
    rw [List.getElem?_append_left hl, h2]
    intro e
    cases e
    exact h (List.mem_of_getElem? h2)
theorem parse_miss {s : List UInt8} (h : 58 ∉ s) : parseF s = ([], [], false) := by
  unfold parseF
  rw [if_pos]
  exact .inr (.inl fun e => h (List.mem_of_getElem? e))

set_option maxRecDepth 100000 in
set_option maxHeartbeats 1000000 in
theorem parse10_any (s : List UInt8) (hs : s.length ≤ 100000) (w : World) : Calls Tryd.prog 10 #[S s] w fun e w' => e = .returned (parseV (parseF s)) ∧ Below w.heap.size w w' := by
  obtain ⟨i23, hi23, hs23⟩ := info23
  obtain ⟨W1, hW1⟩ : ∃ W1, W1 = w.alloc (.cells #[.string ⟨#[]⟩, .string ⟨#[]⟩] 23) := ⟨_, rfl⟩
  obtain ⟨b, hb⟩ : ∃ b, b = w.heap.size := ⟨_, rfl⟩
  have hr1 : Row W1 b #[.string ⟨#[]⟩, .string ⟨#[]⟩] 23 := by rw [hW1, hb]; exact row_new w _ _
  have hb1 : Below b w W1 := by rw [hW1, hb]; exact (Below.refl _ w).alloc (Nat.le_refl _) _
  have HI := Lib.hid (And.intro hi23 hs23)
  have hend : Hid (∀ (W : World) (n v : List UInt8) (k : Bool) (tmps : Array Value), Row W b #[.string ⟨#[]⟩, .string ⟨#[]⟩] 23 → Below b w W → tmps.getD 2 undef = .pointer (some ⟨b, 0, none⟩) → tmps.getD 3 undef = .bool k → parseF s = (n, v, k) →
      bodyPost Tryd.prog Tryd.f10 (fun e w' => e = .returned (parseV (parseF s)) ∧ Below w.heap.size w w') .ret { tmps := tmps, defers := [] } ((W.setCell ⟨b, 0, none⟩ (S n)).setCell ⟨b, 1, none⟩ (S v))) := Lib.hid fun W n v k tmps hr hB h2 h3 hp => by
    refine bodyPost_ret (struct_end HI.out.1 HI.out.2 rfl _ _ b _ h2 ((hr.set 0 (S n)).set 1 (S v)) rfl) rfl ?_
    rw [hp]
    refine ⟨by rw [h3]; rfl, ?_⟩
    rw [← hb]
    exact (hB.setCell (p := ⟨b, 0, none⟩) (Nat.le_refl _) _).setCell (p := ⟨b, 1, none⟩) (Nat.le_refl _) _
  have H1 := Lib.hid (And.intro hr1 (And.intro hb1 hb))
  clear hr1 hb1 hi23 hs23
  have lit58 : S [58] = .string ⟨#[58]⟩ := rfl
  rcases cut_cases 58 s with ⟨n, r, rfl, hab⟩ | hm
  · have hl : n.length + r.length ≤ 100000 := by rw [List.length_append, List.length_cons] at hs; omega
    have hc := cut_hit 58 n r hab hl W1
    have hP := parse_cut n r hab
    have HT := Lib.hid (token15_any n (by omega))
    have HV := Lib.hid (all_val r (by omega))
    have HM : Hid (∀ w, Calls Tryd.prog 27 #[S r, .string ⟨#[9, 32]⟩] w fun e w' => e = .returned (S (bareF r)) ∧ Below w.heap.size w w') := Lib.hid (trim_any r (by omega))
    rw [lit58] at hc
    generalize n ++ 58 :: r = T at *
    clear hs hab hl lit58
    have HC := Lib.hid hc
    clear hc
    cases ht : tokF n with
    | false =>
      rw [ht, Bool.false_and, if_neg Bool.false_ne_true] at hP
      rw [ht] at HT
      have HP := Lib.hid hP
      clear hP ht HV HM
      go_enter Tryd.func10, Tryd.ntmps10
      go_wp2_with fail
      rw [← hb, ← hW1]
      clear hb hW1
      refine HC.out.mono ?_
      rintro e W2 ⟨rfl, hD⟩
      have HD := Lib.hid hD
      clear hD
      go_wp2_with fail
      refine (HT.out W2).mono ?_
      rintro e w1 ⟨rfl, hw1⟩
      obtain rfl := hw1.symm
      have hr2 := H1.out.1.below HD.out.below H1.out.1.lt
      have r0 : W2.cell? ⟨b, 0, none⟩ = some (.string ⟨#[]⟩) := cell_of_row W2 _ 0 _ 23 (0, 0) hr2
      have r1 : W2.cell? ⟨b, 1, none⟩ = some (.string ⟨#[]⟩) := cell_of_row W2 _ 1 _ 23 (0, 0) hr2
      have f0 : W2.frozen? ⟨b, 0, none⟩ = false := Row.frozen hr2 0
      have f1 : W2.frozen? ⟨b, 1, none⟩ = false := Row.frozen hr2 1
      have HR := Lib.hid hr2
      clear hr2
      go_wp2
      exact hend.out _ [] [] false _ HR.out (H1.out.2.1.trans (HD.out.below.mono (by have := H1.out.1.lt; omega))) rfl rfl HP.out
    | true =>
      rw [ht, Bool.true_and] at hP
      rw [ht] at HT
      cases hv : r.all valB with
      | false =>
        rw [hv, if_neg Bool.false_ne_true] at hP
        rw [hv] at HV
        have HP := Lib.hid hP
        clear hP ht hv HM
        go_enter Tryd.func10, Tryd.ntmps10
        go_wp2_with fail
        rw [← hb, ← hW1]
        clear hb hW1
        refine HC.out.mono ?_
        rintro e W2 ⟨rfl, hD⟩
        have HD := Lib.hid hD
        clear hD
        go_wp2_with fail
        refine (HT.out W2).mono ?_
        rintro e w1 ⟨rfl, hw1⟩
        obtain rfl := hw1.symm
        go_wp2_with fail
        refine (HV.out W2).mono ?_
        rintro e w2 ⟨rfl, hw2⟩
        obtain rfl := hw2.symm
        have hr2 := H1.out.1.below HD.out.below H1.out.1.lt
        have r0 : W2.cell? ⟨b, 0, none⟩ = some (.string ⟨#[]⟩) := cell_of_row W2 _ 0 _ 23 (0, 0) hr2
        have r1 : W2.cell? ⟨b, 1, none⟩ = some (.string ⟨#[]⟩) := cell_of_row W2 _ 1 _ 23 (0, 0) hr2
        have f0 : W2.frozen? ⟨b, 0, none⟩ = false := Row.frozen hr2 0
        have f1 : W2.frozen? ⟨b, 1, none⟩ = false := Row.frozen hr2 1
        have HR := Lib.hid hr2
        clear hr2
        go_wp2
        exact hend.out _ [] [] false _ HR.out (H1.out.2.1.trans (HD.out.below.mono (by have := H1.out.1.lt; omega))) rfl rfl HP.out
      | true =>
        rw [hv, if_pos rfl] at hP
        rw [hv] at HV
        have HP := Lib.hid hP
        clear hP ht hv
        go_enter Tryd.func10, Tryd.ntmps10
        go_wp2_with fail
        rw [← hb, ← hW1]
        clear hb hW1
        refine HC.out.mono ?_
        rintro e W2 ⟨rfl, hD⟩
        have HD := Lib.hid hD
        clear hD
        go_wp2_with fail
        refine (HT.out W2).mono ?_
        rintro e w1 ⟨rfl, hw1⟩
        obtain rfl := hw1.symm
        go_wp2_with fail
        refine (HV.out W2).mono ?_
        rintro e w2 ⟨rfl, hw2⟩
        obtain rfl := hw2.symm
        go_wp2_with fail
        refine (HM.out W2).mono ?_
        rintro e w3 ⟨rfl, hB⟩
        have hr2 := H1.out.1.below HD.out.below H1.out.1.lt
        have hr3 := hr2.below hB hr2.lt
        have HB3 : Hid (Below b w w3) := Lib.hid ((H1.out.2.1.trans (HD.out.below.mono (by have := H1.out.1.lt; omega))).trans (hB.mono (by have := hr2.lt; omega)))
        have r0 : w3.cell? ⟨b, 0, none⟩ = some (.string ⟨#[]⟩) := cell_of_row w3 _ 0 _ 23 (0, 0) hr3
        have r1 : w3.cell? ⟨b, 1, none⟩ = some (.string ⟨#[]⟩) := cell_of_row w3 _ 1 _ 23 (0, 0) hr3
        have f0 : w3.frozen? ⟨b, 0, none⟩ = false := Row.frozen hr3 0
        have f1 : w3.frozen? ⟨b, 1, none⟩ = false := Row.frozen hr3 1
        have HR := Lib.hid hr3
        clear hr2 hr3 hB
        go_wp2
        exact hend.out _ n (bareF r) true _ HR.out HB3.out rfl rfl HP.out
  · have hc := cut_miss 58 s hm W1
    have HP := Lib.hid (parse_miss hm)
    rw [lit58] at hc
    have HC := Lib.hid hc
    clear hc hm lit58
    go_enter Tryd.func10, Tryd.ntmps10
    go_wp2_with fail
    rw [← hb, ← hW1]
    clear hb hW1
    refine HC.out.mono ?_
    rintro e W2 ⟨rfl, hD⟩
    have HD := Lib.hid hD
    have hr2 := H1.out.1.below HD.out.below H1.out.1.lt
    have r0 : W2.cell? ⟨b, 0, none⟩ = some (.string ⟨#[]⟩) := cell_of_row W2 _ 0 _ 23 (0, 0) hr2
    have r1 : W2.cell? ⟨b, 1, none⟩ = some (.string ⟨#[]⟩) := cell_of_row W2 _ 1 _ 23 (0, 0) hr2
    have f0 : W2.frozen? ⟨b, 0, none⟩ = false := Row.frozen hr2 0
    have f1 : W2.frozen? ⟨b, 1, none⟩ = false := Row.frozen hr2 1
    have HR := Lib.hid hr2
    clear hD hr2
    go_wp2
    exact hend.out _ [] [] false _ HR.out (H1.out.2.1.trans (HD.out.below.mono (by have := H1.out.1.lt; omega))) rfl rfl HP.out
end Go.Proofs.YtccccpbaolegcaaDoor
