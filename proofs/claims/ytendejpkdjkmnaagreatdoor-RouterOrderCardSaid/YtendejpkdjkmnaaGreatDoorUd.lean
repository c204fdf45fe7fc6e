/- The law's RouterOrder (stage 14) walked. (mkud.py writes it.) -/
import Derived.Test.YtendejpkdjkmnaaGreatDoorJg
namespace Go.Proofs.YtendejpkdjkmnaaGreatDoor
open Go.RowKit
attribute [local go_sem] store_one S_match S_store

set_option maxRecDepth 100000 in
set_option maxHeartbeats 4000000 in
theorem order14_any {w : World} {RS : World → Nat → List Rt → Prop} (C : RouterI w RS) (l : List Rt) (V : Value) (bs os : Nat) (hS : RoA w V l bs os) (turn : Int) (r : RqU) (Vr : Value) (b o : Nat) (hA : FA w Vr r.fs b o) :
    Calls Tryz.prog 4 #[V, .int .i64 turn, rquV r Vr] w fun e w' => e = .returned (.bool true) ∧ Below w.heap.size w w' := by
  have HC := Lib.hid C
  clear C
  unfold rquV
  obtain ⟨b1, hb1⟩ : ∃ b, b = w.heap.size := ⟨_, rfl⟩
  obtain ⟨W1, hW1⟩ : ∃ W, W = w.alloc (.cells (rquC r Vr) 24) := ⟨_, rfl⟩
  have hM : RuAt w b1 r Vr b o W1 := by rw [hW1, hb1]; exact ruAt_new hA
  have hS1 : RoA W1 V l bs os := by rw [hW1]; exact hS.below ((Below.refl _ _).alloc (Nat.le_refl _) _)
  have hg := great14_any l V bs os r Vr b o W1 hS1 hM.fa
  have hcell : ∀ W, Below W1.heap.size W1 W → W.cell? ⟨b1, 0, none⟩ = some (S r.m) ∧ W.cell? ⟨b1, 1, none⟩ = some (S r.p) ∧ W.cell? ⟨b1, 2, none⟩ = some (S r.q) ∧ W.cell? ⟨b1, 3, none⟩ = some (.int .i64 r.v) ∧ W.cell? ⟨b1, 4, none⟩ = some Vr ∧ W.cell? ⟨b1, 5, none⟩ = some (S r.body) ∧ W.cell? ⟨b1, 6, none⟩ = some (.bool r.cl) := fun W hB => by
    have h := hM.below hB
    exact ⟨h.cell 0 _ rfl, h.cell 1 _ rfl, h.cell 2 _ rfl, h.cell 3 _ rfl, h.cell 4 _ rfl, h.cell 5 _ rfl, h.cell 6 _ rfl⟩
  have HCE := Lib.hid hcell
  obtain ⟨c0, c1, c2, c3, c4, c5, c6⟩ := hcell W1 (Below.refl _ _)
  unfold rquV rquC at hg
  have HG := Lib.hid hg
  have HM := Lib.hid (And.intro hM hS1)
  have HW1 := Lib.hid (And.intro hW1 hb1)
  have hlS := hS.len 3
  obtain ⟨N, hN⟩ : ∃ N, N = l.length := ⟨_, rfl⟩
  rw [← hN] at hlS
  have HN := Lib.hid hN
  rw [hW1] at HG c0 c1 c2 c3 c4 c5 c6
  rw [hb1] at c0 c1 c2 c3 c4 c5 c6
  unfold rquC at HG c0 c1 c2 c3 c4 c5 c6 ⊢
  clear hM hg hcell hA hW1 hb1 hS hS1 hN
  go_enter Tryz.func4, Tryz.ntmps4
  go_wp2_with fail
  refine HG.out.mono ?_
  rintro e W2 ⟨x, rfl, hx, hB2⟩
  have hWe := HW1.out.1
  unfold rquC at hWe
  rw [← hWe] at hB2
  clear hWe c0 c1 c2 c3 c4 c5 c6 HG
  rw [← HW1.out.2]
  have H2 : Hid (Below W1.heap.size W1 W2 ∧ Below w.heap.size w W2) := Lib.hid ⟨hB2, HM.out.1.bel.trans (hB2.mono HM.out.1.bel.size)⟩
  clear hB2
  cases x with
  | true =>
    have HW := Lib.hid (wakes14_any (HC.out.up H2.out.2))
    clear hx
    go_wp2_with fail
    refine HW.out.mono ?_
    rintro e W3 ⟨rfl, hB⟩
    have HE := Lib.hid (H2.out.2.trans (hB.mono H2.out.2.size))
    clear hB
    go_wp2
    go_ret
    exact ⟨rfl, HE.out⟩
  | false =>
    have HX := Lib.hid (hx rfl)
    have HNW := Lib.hid (HC.out.new l V bs os W2 H2.out.2 (HM.out.2.below H2.out.1) (hx rfl).1)
    clear hx
    go_wp2_with fail
    refine HNW.out.mono ?_
    rintro e W3 ⟨hB3, h3⟩
    have H3 : Hid (Below W1.heap.size W1 W3 ∧ Below w.heap.size w W3) := Lib.hid ⟨H2.out.1.trans (hB3.mono H2.out.1.size), H2.out.2.trans (hB3.mono H2.out.2.size)⟩
    clear hB3 HNW
    rcases h3 with ⟨hne, rfl⟩ | ⟨h0, g, rfl, hRS⟩
    · have q1 : ((newF l : Int) == 0) = false := by rw [beq_eq_false_iff_ne]; omega
      obtain ⟨E, hE⟩ : ∃ E, E = newF l := ⟨_, rfl⟩
      rw [← hE] at q1 ⊢
      have HW := Lib.hid (wakes14_any (HC.out.up H3.out.2))
      clear hE hne
      go_wp2_with fail
      refine HW.out.mono ?_
      rintro e W4 ⟨rfl, hB⟩
      have HE := Lib.hid (H3.out.2.trans (hB.mono H3.out.2.size))
      clear hB
      go_wp2
      go_ret
      exact ⟨rfl, HE.out⟩
    have H0 := Lib.hid (And.intro h0 hRS)
    clear h0 hRS
    obtain ⟨z, hz⟩ : ∃ z, turn.tmod (N : Int) = z := ⟨_, rfl⟩
    obtain ⟨k, hk⟩ : ∃ k, k = (if z < 0 then z + N else z).toNat := ⟨_, rfl⟩
    have HZ : Hid (0 < N → -(N : Int) < z ∧ z < N ∧ k < N ∧ (z < 0 → z + N = k) ∧ (¬ z < 0 → z = k)) := Lib.hid fun h => by
      obtain ⟨h1, h2⟩ := tmod_rangeU turn h
      rw [hz] at h1 h2
      by_cases h0 : z < 0
      · rw [if_pos h0] at hk
        exact ⟨h1, h2, by omega, fun _ => by omega, fun e => absurd h0 e⟩
      · rw [if_neg h0] at hk
        exact ⟨h1, h2, by omega, fun e => absurd e h0, fun _ => by omega⟩
    clear hk
    go_wp2_with fail
    go_loopw [9, 10, 11] (fun mv bv iv wr => ∃ (i : Nat) (a9 : Option Addr) (d9 : Nat) (a10 : Option Addr) (d10 : Nat), i ≤ N ∧ mv = .slice a9 i d9 ∧ bv = .slice a10 i d10 ∧ iv = .int .i64 (i : Int) ∧ Hid (TwoR W3 (.slice a9 i d9) ((rotU k l).take i) (.slice a10 i d10) (l.reverse.take i) wr)) (fun _ _ iv _ => N - (intOf iv).toNat)
    case atStart => exact ⟨0, none, 0, none, 0, Nat.zero_le _, rfl, rfl, rfl, Lib.hid (twoR_nil W3)⟩
    case round =>
      obtain ⟨i, a9, d9, a10, d10, hi, rfl, rfl, rfl, HI⟩ := hrel
      by_cases hlt : i < N
      · have g5 : decide ((i : Int) < (N : Int)) = true := decide_eq_true (by omega)
        have h40 : N ≤ 40 := by rw [HN.out]; exact HX.out.1.1
        obtain ⟨z1, z2, z3, z4, z5⟩ := HZ.out (by omega)
        have hP0 : ¬ N = 0 := by omega
        have hP1 : (N : Int) ≠ 0 := by omega
        have hP2 : ((N : Int) == 0) = false := by rw [beq_eq_false_iff_ne]; omega
        have hwr : IntKind.i64.wrap z = z := by rw [IntKind.wrap_i64]; omega
        obtain ⟨m, hm⟩ : ∃ m, m = i + k := ⟨_, rfl⟩
        obtain ⟨j, hj⟩ : ∃ j, j = m % N := ⟨_, rfl⟩
        have hjn : j < N := by rw [hj]; exact Nat.mod_lt _ (by omega)
        have hm2 : (m : Int).tmod (N : Int) = (j : Int) := by rw [Int.tmod_eq_emod_of_nonneg (by omega), hj]; omega
        have hwj : IntKind.i64.wrap (j : Int) = (j : Int) := by rw [IntKind.wrap_i64]; omega
        obtain ⟨x1, hx1⟩ : ∃ x, l[j]? = some x := ⟨l[j]'(by have := HN.out; omega), List.getElem?_eq_getElem _⟩
        obtain ⟨n1, hn1⟩ : ∃ a, a = N - 1 := ⟨_, rfl⟩
        obtain ⟨j2, hj2⟩ : ∃ a, a = N - 1 - i := ⟨_, rfl⟩
        have hwn : IntKind.i64.wrap ((N : Int) - 1) = (n1 : Int) := by rw [IntKind.wrap_i64]; omega
        have hwk : IntKind.i64.wrap ((n1 : Int) - (i : Int)) = (j2 : Int) := by rw [IntKind.wrap_i64]; omega
        obtain ⟨x2, hx2⟩ : ∃ x, l[j2]? = some x := ⟨l[j2]'(by have := HN.out; omega), List.getElem?_eq_getElem _⟩
        have hi1 := HM.out.2.index j (by have := HN.out; omega)
        have hi2 := HM.out.2.index j2 (by have := HN.out; omega)
        have h1r : (rotU k l)[i]? = some x1 := by
          rw [rotU_get (by have := HN.out; omega) (by have := HN.out; omega), ← hm, ← HN.out, ← hj]; exact hx1
        have h2r : l.reverse[i]? = some x2 := by
          rw [List.getElem?_reverse (by have := HN.out; omega), ← HN.out, show N - 1 - i = j2 by omega]; exact hx2
        have HT1 : Hid ((rotU k l).take (i + 1) = (rotU k l).take i ++ [x1] ∧ l.reverse.take (i + 1) = l.reverse.take i ++ [x2]) := Lib.hid ⟨by rw [List.take_add_one, h1r]; rfl, by rw [List.take_add_one, h2r]; rfl⟩
        have HLN : Hid (i = ((rotU k l).take i).length ∧ i = (l.reverse.take i).length) := Lib.hid ⟨by rw [List.length_take, rotU_len, Nat.min_eq_left (by have := HN.out; omega)], by rw [List.length_take, List.length_reverse, Nat.min_eq_left (by have := HN.out; omega)]⟩
        have hro : ∀ W, Below W3.heap.size W3 W → RoA W V l bs os := fun W hB => (HM.out.2.below H3.out.1).below hB
        obtain ⟨k1, hk1⟩ : ∃ a, a = os + j * 4 := ⟨_, rfl⟩
        obtain ⟨k2, hk2⟩ : ∃ a, a = os + j2 * 4 := ⟨_, rfl⟩
        rw [← hk1] at hi1
        rw [← hk2] at hi2
        obtain ⟨xm, xp, xk, xt⟩ := x1
        obtain ⟨ym, yp, yk, yt⟩ := x2
        have hc1 := (hro wr HI.out.bel).cell j _ hx1
        rw [← hk1] at hc1
        have e0 : wr.cell? ⟨bs, k1, none⟩ = some (S xm) := hc1 0 _ rfl
        have e1 : wr.cell? ⟨bs, k1 + 1, none⟩ = some (S xp) := hc1 1 _ rfl
        have e2 : wr.cell? ⟨bs, k1 + 2, none⟩ = some (.int .i64 xk) := hc1 2 _ rfl
        have e3 : wr.cell? ⟨bs, k1 + 3, none⟩ = some (S xt) := hc1 3 _ rfl
        have HC2 : Hid (∀ W, Below W3.heap.size W3 W → W.cell? ⟨bs, k2, none⟩ = some (S ym) ∧ W.cell? ⟨bs, k2 + 1, none⟩ = some (S yp) ∧ W.cell? ⟨bs, k2 + 2, none⟩ = some (.int .i64 yk) ∧ W.cell? ⟨bs, k2 + 3, none⟩ = some (S yt)) := Lib.hid fun W hB => by
          have h := (hro W hB).cell j2 _ hx2
          rw [← hk2] at h
          exact ⟨h 0 _ rfl, h 1 _ rfl, h 2 _ rfl, h 3 _ rfl⟩
        have hw1 : IntKind.i64.wrap ((i : Int) + 1) = (i : Int) + 1 := by rw [IntKind.wrap_i64]; omega
        have HO : Hid (wr.ownsRow W3.heap.size 40 4 (.slice a9 i d9) i (rtCells ((rotU k l).take i))) := Lib.hid (by
          have h := HI.out.a
          unfold GR at h
          rwa [← HLN.out.1] at h)
        by_cases h0 : z < 0
        · have d1 : decide (z < 0) = true := decide_eq_true h0
          have w2 : IntKind.i64.wrap (z + (N : Int)) = (k : Int) := by rw [z4 (by omega), IntKind.wrap_i64]; omega
          have w3 : IntKind.i64.wrap ((i : Int) + (k : Int)) = (m : Int) := by rw [IntKind.wrap_i64]; omega
          clear z1 z2 z4 z5 h0 hx1 hx2 hj hm hj2 hn1 hk1 hk2 h1r h2r hro hc1
          go_wp2_with first
            | (at_builtin; refine wpList_addL rfl 33 40 (.tmp 55) (.tmp 65) rfl Tryz.underlying33 eleRt (by decide) W3.heap.size wr _ rfl i _ HO.out #[S xm, S xp, .int .i64 xk, S xt] rfl (by intro u hu; simp at hu; rcases hu with rfl | rfl | rfl | rfl <;> rfl) rfl _ rfl rfl (by omega) HI.out.bel.size ?_; intro g7 c7 W7 o7 w7 v7 s7; have H7 : Hid (TwoR W3 (.slice (some ⟨g7, 0, none⟩) (i + 1) c7) ((rotU k l).take (i + 1)) (.slice a10 i d10) (l.reverse.take i) W7) := Lib.hid (by rw [HT1.out.1]; exact HI.out.grow _ o7 HLN.out.1 w7 v7); have HO7 : Hid (W7.ownsRow W3.heap.size 40 4 (.slice a10 i d10) i (rtCells (l.reverse.take i))) := Lib.hid (by have h := H7.out.b; unfold GR at h; rwa [← HLN.out.2] at h); obtain ⟨f0, f1, f2, f3⟩ := HC2.out W7 H7.out.bel; clear o7 w7 v7 s7)
            | (at_builtin; refine wpList_addL rfl 33 40 (.tmp 67) (.tmp 76) rfl Tryz.underlying33 eleRt (by decide) W3.heap.size W7 _ rfl i _ HO7.out #[S ym, S yp, .int .i64 yk, S yt] rfl (by intro u hu; simp at hu; rcases hu with rfl | rfl | rfl | rfl <;> rfl) rfl _ rfl rfl (by omega) H7.out.bel.size ?_; intro g8 c8 W8 o8 w8 v8 s8; have H8 : Hid (TwoR W3 (.slice (some ⟨g7, 0, none⟩) (i + 1) c7) ((rotU k l).take (i + 1)) (.slice (some ⟨g8, 0, none⟩) (i + 1) c8) (l.reverse.take (i + 1)) W8) := Lib.hid (by rw [HT1.out.2]; exact (H7.out.swap.grow _ o8 HLN.out.2 w8 v8).swap); clear o8 w8 v8 s8)
          exact ⟨⟨i + 1, some ⟨g7, 0, none⟩, c7, some ⟨g8, 0, none⟩, c8, by omega, rfl, rfl, by go_num, H8⟩, by simp [intOf]; omega⟩
        · have d1 : decide (z < 0) = false := decide_eq_false h0
          have w3 : IntKind.i64.wrap ((i : Int) + z) = (m : Int) := by rw [z5 (by omega), IntKind.wrap_i64]; omega
          clear z1 z2 z4 z5 h0 hx1 hx2 hj hm hj2 hn1 hk1 hk2 h1r h2r hro hc1
          go_wp2_with first
            | (at_builtin; refine wpList_addL rfl 33 40 (.tmp 55) (.tmp 65) rfl Tryz.underlying33 eleRt (by decide) W3.heap.size wr _ rfl i _ HO.out #[S xm, S xp, .int .i64 xk, S xt] rfl (by intro u hu; simp at hu; rcases hu with rfl | rfl | rfl | rfl <;> rfl) rfl _ rfl rfl (by omega) HI.out.bel.size ?_; intro g7 c7 W7 o7 w7 v7 s7; have H7 : Hid (TwoR W3 (.slice (some ⟨g7, 0, none⟩) (i + 1) c7) ((rotU k l).take (i + 1)) (.slice a10 i d10) (l.reverse.take i) W7) := Lib.hid (by rw [HT1.out.1]; exact HI.out.grow _ o7 HLN.out.1 w7 v7); have HO7 : Hid (W7.ownsRow W3.heap.size 40 4 (.slice a10 i d10) i (rtCells (l.reverse.take i))) := Lib.hid (by have h := H7.out.b; unfold GR at h; rwa [← HLN.out.2] at h); obtain ⟨f0, f1, f2, f3⟩ := HC2.out W7 H7.out.bel; clear o7 w7 v7 s7)
            | (at_builtin; refine wpList_addL rfl 33 40 (.tmp 67) (.tmp 76) rfl Tryz.underlying33 eleRt (by decide) W3.heap.size W7 _ rfl i _ HO7.out #[S ym, S yp, .int .i64 yk, S yt] rfl (by intro u hu; simp at hu; rcases hu with rfl | rfl | rfl | rfl <;> rfl) rfl _ rfl rfl (by omega) H7.out.bel.size ?_; intro g8 c8 W8 o8 w8 v8 s8; have H8 : Hid (TwoR W3 (.slice (some ⟨g7, 0, none⟩) (i + 1) c7) ((rotU k l).take (i + 1)) (.slice (some ⟨g8, 0, none⟩) (i + 1) c8) (l.reverse.take (i + 1)) W8) := Lib.hid (by rw [HT1.out.2]; exact (H7.out.swap.grow _ o8 HLN.out.2 w8 v8).swap); clear o8 w8 v8 s8)
          exact ⟨⟨i + 1, some ⟨g7, 0, none⟩, c7, some ⟨g8, 0, none⟩, c8, by omega, rfl, rfl, by go_num, H8⟩, by simp [intOf]; omega⟩
      · obtain rfl : i = N := by omega
        have g5 : decide ((i : Int) < (i : Int)) = false := decide_eq_false (by omega)
        have hT := HI.out
        rw [List.take_of_length_le (by rw [rotU_len, ← HN.out]; exact Nat.le_refl _), List.take_of_length_le (by rw [List.length_reverse, ← HN.out]; exact Nat.le_refl _)] at hT
        obtain ⟨ga, hra⟩ := hT.a.roa
        obtain ⟨gb, hrb⟩ := hT.b.roa
        have hp1 := rotU_perm k l
        have hp2 : l.Perm l.reverse := l.reverse_perm.symm
        have HL : Hid (GoodR l ∧ newF (rotU k l) = 0 ∧ newF l.reverse = 0 ∧ l.Perm (rotU k l) ∧ l.Perm l.reverse) := Lib.hid ⟨(new_good l).1 H0.out.1, new_perm H0.out.1 hp1, new_perm H0.out.1 hp2, hp1, hp2⟩
        have h5 : Below W1.heap.size W1 wr ∧ Below w.heap.size w wr ∧ RS wr g l ∧ RoA wr (.slice a10 i d10) l.reverse gb 0 := ⟨H3.out.1.trans (hT.bel.mono H3.out.1.size), H3.out.2.trans (hT.bel.mono H3.out.2.size), HC.out.below H0.out.2 hT.bel, hrb⟩
        have HNA := Lib.hid (HC.out.new (rotU k l) _ ga 0 wr h5.2.1 hra (HX.out.1.perm hp1))
        have H5 := Lib.hid h5
        clear hT hra hrb hp1 hp2 h5 HI hi hlt hz
        go_wp2_with fail
        refine HNA.out.mono ?_
        rintro e W6 ⟨hB6, h6⟩
        rcases h6 with ⟨h6, _⟩ | ⟨_, g6, rfl, hRS6⟩
        · exact absurd HL.out.2.1 h6
        have H6 : Hid (Below W1.heap.size W1 W6 ∧ Below w.heap.size w W6 ∧ RS W6 g l ∧ RS W6 g6 (rotU k l)) := Lib.hid ⟨H5.out.1.trans (hB6.mono H5.out.1.size), H5.out.2.1.trans (hB6.mono H5.out.2.1.size), HC.out.below H5.out.2.2.1 hB6, hRS6⟩
        have HNB := Lib.hid (HC.out.new l.reverse _ gb 0 W6 H6.out.2.1 (H5.out.2.2.2.below hB6) (HX.out.1.perm HL.out.2.2.2.2))
        clear hB6 hRS6 HNA H5
        go_wp2_with fail
        refine HNB.out.mono ?_
        rintro e W7 ⟨hB7, h7⟩
        rcases h7 with ⟨h7, _⟩ | ⟨_, g7, rfl, hRS7⟩
        · exact absurd HL.out.2.2.1 h7
        have H7 : Hid (Below W1.heap.size W1 W7 ∧ Below w.heap.size w W7 ∧ RS W7 g l ∧ RS W7 g6 (rotU k l) ∧ RS W7 g7 l.reverse) := Lib.hid ⟨H6.out.1.trans (hB7.mono H6.out.1.size), H6.out.2.1.trans (hB7.mono H6.out.2.1.size), HC.out.below H6.out.2.2.1 hB7, HC.out.below H6.out.2.2.2 hB7, hRS7⟩
        clear hB7 hRS7 HNB H6
        obtain ⟨c0, c1, c2, c3, c4, c5, c6⟩ := HCE.out W7 H7.out.1
        have hs := HC.out.serve l g r Vr b o W7 H7.out.2.1 H7.out.2.2.1 HX.out.1 HL.out.1 HX.out.2 (HM.out.1.below H7.out.1).fa
        unfold rquV rquC at hs
        have HS := Lib.hid hs
        clear hs
        go_wp2_with fail
        refine HS.out.mono ?_
        rintro e W8 ⟨hB8, x, Vx, bx, ox, hx, rfl, hF⟩
        obtain ⟨xc, xf, xb, xk⟩ := x
        obtain ⟨ax, cx, hvx⟩ := hF.form
        dsimp only at hvx hF
        subst hvx
        obtain ⟨LX, hLX⟩ : ∃ n, n = xf.length := ⟨_, rfl⟩
        have HLX := Lib.hid hLX
        obtain ⟨b9, hb9⟩ : ∃ b, b = W8.heap.size := ⟨_, rfl⟩
        obtain ⟨W9, hW9⟩ : ∃ W, W = W8.alloc (.cells (rpuC xc (.slice ax LX cx) xb) 29) := ⟨_, rfl⟩
        have hB9 : Below W8.heap.size W8 W9 := by rw [hW9]; exact (Below.refl _ _).alloc (Nat.le_refl _) _
        have hR9 : Row W9 b9 (rpuC xc (.slice ax LX cx) xb) 29 := by rw [hW9, hb9]; exact row_new _ _ _
        have hB79 := hB8.trans (hB9.mono hB8.size)
        have H9 : Hid (Below W1.heap.size W1 W9 ∧ Below w.heap.size w W9 ∧ RS W9 g6 (rotU k l) ∧ RS W9 g7 l.reverse) := Lib.hid ⟨H7.out.1.trans (hB79.mono H7.out.1.size), H7.out.2.1.trans (hB79.mono H7.out.2.1.size), HC.out.below H7.out.2.2.2.1 hB79, HC.out.below H7.out.2.2.2.2 hB79⟩
        have HX1 : Hid (ServeIs l r.m r.p r.body ⟨xc, xf, xb, xk⟩ ∧ Row W9 b9 (rpuC xc (.slice ax LX cx) xb) 29 ∧ FA W9 (.slice ax LX cx) xf bx ox) := Lib.hid ⟨hx, hR9, by rw [hLX]; exact hF.below hB9⟩
        have HW9 := Lib.hid (And.intro hW9 hb9)
        clear hx hF hB8 hB9 hR9 hB79 HS H7 c0 c1 c2 c3 c4 c5 c6
        unfold rpuV
        dsimp only
        rw [← hLX]
        clear hLX
        obtain ⟨c0, c1, c2, c3, c4, c5, c6⟩ := HCE.out W9 H9.out.1
        have hs := HC.out.serve (rotU k l) g6 r Vr b o W9 H9.out.2.1 H9.out.2.2.1 (HX.out.1.perm HL.out.2.2.2.1) (HL.out.1.perm HL.out.2.2.2.1) HX.out.2 (HM.out.1.below H9.out.1).fa
        unfold rquV rquC at hs
        have HS := Lib.hid hs
        clear hs
        rw [hW9] at HS c0 c1 c2 c3 c4 c5 c6
        clear hW9 hb9
        unfold rpuC at HS c0 c1 c2 c3 c4 c5 c6 ⊢
        go_wp2_with fail
        refine HS.out.mono ?_
        rintro e W10 ⟨hB10, y, Vy, by_, oy, hy, rfl, hF⟩
        have hWe := HW9.out.1
        unfold rpuC at hWe
        rw [← hWe] at hB10
        rw [← HW9.out.2]
        clear hWe
        obtain rfl := serve_one (HX1.out.1.perm HL.out.1 HL.out.2.2.2.1) hy
        obtain ⟨ay, cy, hvy⟩ := hF.form
        dsimp only at hvy hF
        subst hvy
        rw [← HLX.out] at hF ⊢
        obtain ⟨b11, hb11⟩ : ∃ b, b = W10.heap.size := ⟨_, rfl⟩
        obtain ⟨W11, hW11⟩ : ∃ W, W = W10.alloc (.cells (rpuC xc (.slice ay LX cy) xb) 29) := ⟨_, rfl⟩
        have hB11 : Below W10.heap.size W10 W11 := by rw [hW11]; exact (Below.refl _ _).alloc (Nat.le_refl _) _
        have hR11 : Row W11 b11 (rpuC xc (.slice ay LX cy) xb) 29 := by rw [hW11, hb11]; exact row_new _ _ _
        have hB9b := hB10.trans (hB11.mono hB10.size)
        have H11 : Hid (Below W1.heap.size W1 W11 ∧ Below w.heap.size w W11 ∧ RS W11 g7 l.reverse) := Lib.hid ⟨H9.out.1.trans (hB9b.mono H9.out.1.size), H9.out.2.1.trans (hB9b.mono H9.out.2.1.size), HC.out.below H9.out.2.2.2 hB9b⟩
        have HX2 : Hid (Row W11 b9 (rpuC xc (.slice ax LX cx) xb) 29 ∧ FA W11 (.slice ax LX cx) xf bx ox ∧ Row W11 b11 (rpuC xc (.slice ay LX cy) xb) 29 ∧ FA W11 (.slice ay LX cy) xf by_ oy) := Lib.hid ⟨HX1.out.2.1.below hB9b HX1.out.2.1.lt, HX1.out.2.2.below hB9b, hR11, hF.below hB11⟩
        have HW11 := Lib.hid (And.intro hW11 hb11)
        clear hy hF hB10 hB11 hR11 hB9b HS H9 c0 c1 c2 c3 c4 c5 c6
        unfold rpuV
        dsimp only
        obtain ⟨c0, c1, c2, c3, c4, c5, c6⟩ := HCE.out W11 H11.out.1
        have hs := HC.out.serve l.reverse g7 r Vr b o W11 H11.out.2.1 H11.out.2.2 (HX.out.1.perm HL.out.2.2.2.2) (HL.out.1.perm HL.out.2.2.2.2) HX.out.2 (HM.out.1.below H11.out.1).fa
        unfold rquV rquC at hs
        have HS := Lib.hid hs
        clear hs
        rw [hW11] at HS c0 c1 c2 c3 c4 c5 c6
        clear hW11 hb11
        unfold rpuC at HS c0 c1 c2 c3 c4 c5 c6 ⊢
        go_wp2_with fail
        refine HS.out.mono ?_
        rintro e W12 ⟨hB12, y, Vz, bz, oz, hy, rfl, hF⟩
        have hWe := HW11.out.1
        unfold rpuC at hWe
        rw [← hWe] at hB12
        rw [← HW11.out.2]
        clear hWe
        obtain rfl := serve_one (HX1.out.1.perm HL.out.1 HL.out.2.2.2.2) hy
        obtain ⟨az, cz, hvz⟩ := hF.form
        dsimp only at hvz hF
        subst hvz
        rw [← HLX.out] at hF ⊢
        obtain ⟨b13, hb13⟩ : ∃ b, b = W12.heap.size := ⟨_, rfl⟩
        obtain ⟨W13, hW13⟩ : ∃ W, W = W12.alloc (.cells (rpuC xc (.slice az LX cz) xb) 29) := ⟨_, rfl⟩
        have hB13 : Below W12.heap.size W12 W13 := by rw [hW13]; exact (Below.refl _ _).alloc (Nat.le_refl _) _
        have hR13 : Row W13 b13 (rpuC xc (.slice az LX cz) xb) 29 := by rw [hW13, hb13]; exact row_new _ _ _
        have hBb := hB12.trans (hB13.mono hB12.size)
        have HX3 : Hid (Below w.heap.size w W13 ∧ Row W13 b9 (rpuC xc (.slice ax LX cx) xb) 29 ∧ FA W13 (.slice ax LX cx) xf bx ox ∧ Row W13 b11 (rpuC xc (.slice ay LX cy) xb) 29 ∧ FA W13 (.slice ay LX cy) xf by_ oy ∧ Row W13 b13 (rpuC xc (.slice az LX cz) xb) 29 ∧ FA W13 (.slice az LX cz) xf bz oz) :=
          Lib.hid ⟨H11.out.2.1.trans (hBb.mono H11.out.2.1.size), HX2.out.1.below hBb HX2.out.1.lt, HX2.out.2.1.below hBb, HX2.out.2.2.1.below hBb HX2.out.2.2.1.lt, HX2.out.2.2.2.below hBb, hR13, hF.below hB13⟩
        have HW13 := Lib.hid (And.intro hW13 hb13)
        have HFL : Hid (xf.length ≤ 1000000) := Lib.hid (by
          have h := HX1.out.1
          have hl := serve_few h
          dsimp only at hl
          omega)
        have hk1 : (xk == xk) = true := beq_self_eq_true xk
        have hcellA : ∀ W, Below W13.heap.size W13 W → (W.cell? ⟨b9, 0, none⟩ = some (.int .i64 xc) ∧ W.cell? ⟨b9, 1, none⟩ = some (.slice ax LX cx) ∧ W.cell? ⟨b9, 2, none⟩ = some (S xb)) ∧ (W.cell? ⟨b11, 0, none⟩ = some (.int .i64 xc) ∧ W.cell? ⟨b11, 1, none⟩ = some (.slice ay LX cy) ∧ W.cell? ⟨b11, 2, none⟩ = some (S xb)) ∧ (W.cell? ⟨b13, 0, none⟩ = some (.int .i64 xc) ∧ W.cell? ⟨b13, 1, none⟩ = some (.slice az LX cz) ∧ W.cell? ⟨b13, 2, none⟩ = some (S xb)) := fun W hB => by
          have h1 := HX3.out.2.1.below hB HX3.out.2.1.lt
          have h2 := HX3.out.2.2.2.1.below hB HX3.out.2.2.2.1.lt
          have h3 := HX3.out.2.2.2.2.2.1.below hB HX3.out.2.2.2.2.2.1.lt
          exact ⟨⟨cell_of_row _ _ 0 _ _ (0, 0) h1, cell_of_row _ _ 1 _ _ (0, 0) h1, cell_of_row _ _ 2 _ _ (0, 0) h1⟩, ⟨cell_of_row _ _ 0 _ _ (0, 0) h2, cell_of_row _ _ 1 _ _ (0, 0) h2, cell_of_row _ _ 2 _ _ (0, 0) h2⟩, ⟨cell_of_row _ _ 0 _ _ (0, 0) h3, cell_of_row _ _ 1 _ _ (0, 0) h3, cell_of_row _ _ 2 _ _ (0, 0) h3⟩⟩
        have HCA := Lib.hid hcellA
        obtain ⟨⟨p0, p1, p2⟩, ⟨q0, q1, q2⟩, -⟩ := hcellA W13 (Below.refl _ _)
        have hs := same14_true xc xb xf (.slice ax LX cx) (.slice ay LX cy) bx ox by_ oy HFL.out W13 HX3.out.2.2.1 HX3.out.2.2.2.2.1
        unfold rpuC at hs
        have HS1 := Lib.hid hs
        rw [hW13] at HS1 p0 p1 p2 q0 q1 q2
        clear hy hF hB12 hB13 hR13 hBb HS H11 c0 c1 c2 c3 c4 c5 c6 hs hcellA hW13 hb13
        unfold rpuV
        unfold rpuC at HS1 p0 p1 p2 q0 q1 q2 ⊢
        dsimp only
        go_wp2_with fail
        refine HS1.out.mono ?_
        rintro e W14 ⟨rfl, hB14⟩
        have hWe := HW13.out.1
        unfold rpuC at hWe
        rw [← hWe] at hB14
        rw [← HW13.out.2]
        clear hWe p0 p1 p2 q0 q1 q2
        obtain ⟨⟨p0, p1, p2⟩, -, ⟨q0, q1, q2⟩⟩ := HCA.out W14 hB14
        have hs := same14_true xc xb xf (.slice ax LX cx) (.slice az LX cz) bx ox bz oz HFL.out W14 (HX3.out.2.2.1.below hB14) (HX3.out.2.2.2.2.2.2.below hB14)
        unfold rpuC at hs
        have HS2 := Lib.hid hs
        have H14 := Lib.hid (HX3.out.1.trans (hB14.mono HX3.out.1.size))
        clear hs hB14 HS1
        go_wp2_with fail
        refine HS2.out.mono ?_
        rintro e W15 ⟨rfl, hB15⟩
        have H15 := Lib.hid (H14.out.trans (hB15.mono H14.out.size))
        have HW := Lib.hid (wakes14_any (HC.out.up H15.out))
        clear hB15 p0 p1 p2 q0 q1 q2 HS2
        go_wp2_with fail
        refine HW.out.mono ?_
        rintro e W16 ⟨rfl, hB⟩
        have HE := Lib.hid (H15.out.trans (hB.mono H15.out.size))
        clear hB
        go_wp2
        go_ret
        exact ⟨rfl, HE.out⟩
end Go.Proofs.YtendejpkdjkmnaaGreatDoor
