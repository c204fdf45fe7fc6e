/- The walk of RingPlays, over any ring that does what is asked of it. -/
import Derived.Test.YtkekjcdhlkhhoaaL8
namespace Go.Proofs.Ytkekjcdhlkhhoaa
open Go.RowKit
attribute [local go_sem] store_one S_match S_store

theorem texts_each (s : Nat → List UInt8) : ∀ k, texts s k ≤ 20000 → ∀ i, i < k → (s i).length ≤ 20000
  | 0, _, i, hi => absurd hi (Nat.not_lt_zero _)
  | k + 1, h, i, hi => by
    simp only [texts] at h
    rcases Nat.lt_succ_iff_lt_or_eq.1 hi with hlt | rfl
    · exact texts_each s k (by omega) i hlt
    · omega
theorem great_not {n : Nat} {s : Nat → List UInt8} (h : greatB n s = false) : n ≤ 400 ∧ ∀ i, i < n → (s i).length ≤ 20000 := by
  unfold greatB at h
  rw [Bool.or_eq_false_iff, decide_eq_false_iff_not, decide_eq_false_iff_not] at h
  have hn : n ≤ 400 := by omega
  refine ⟨hn, texts_each s n ?_⟩
  rw [Nat.min_eq_left (by omega)] at h
  omega
theorem listF_new (w : World) (m : Nat) : ListF (w.alloc (.cells #[.int .i64 (m : Int), .slice none 0 0] 48)) (fun k => k = w.heap.size) w.heap.size m [] :=
  ⟨.slice none 0 0, row_new w _ _, lies_nil _ 1, fun k hk => (by cases hk), fun k => ⟨.inl, fun hk => hk.elim id (fun hk => by cases hk)⟩⟩
/-- Both rings, made since w0. -/
def Pr (RA : World → (Nat → Prop) → Nat → Nat → List (List UInt8) → Prop) (w0 : World) (g h m : Nat) (ys : List (List UInt8)) (W : World) : Prop :=
  ∃ F G, Both RA g h m F G ys ys W ∧ (∀ k, F k ∨ G k → w0.heap.size ≤ k) ∧ Below w0.heap.size w0 W
section
variable {RA : World → (Nat → Prop) → Nat → Nat → List (List UInt8) → Prop} {w0 W W' : World} {g h m : Nat} {ys : List (List UInt8)}
theorem Pr.below (R : RingS RA) (H : Pr RA w0 g h m ys W) (hb : Below W.heap.size W W') : Pr RA w0 g h m ys W' := by
  obtain ⟨F, G, h1, h2, h3⟩ := H
  exact ⟨F, G, h1.below R hb, h2, h3.trans (hb.mono h3.size)⟩
theorem Pr.side {F G : Nat → Prop} {zs : List (List UInt8)} (h2 : ∀ k, F k ∨ G k → w0.heap.size ≤ k) (h3 : Below w0.heap.size w0 W) (H : Side RA g h m F G zs zs W W') : Pr RA w0 g h m zs W' := by
  obtain ⟨F', G', hb, hm⟩ := H
  exact ⟨F', G', hb, fun k hk => by
    rcases hm.foot k hk with h | h
    · exact h2 k h
    · have := h3.size; omega, h3.trans (hm.below h2 h3.size)⟩
theorem Pr.bel (H : Pr RA w0 g h m ys W) : Below w0.heap.size w0 W := by obtain ⟨_, _, _, _, h⟩ := H; exact h

set_option maxRecDepth 100000 in
set_option maxHeartbeats 4000000 in
theorem plays_any (R : RingS RA) (most : Int) (V : Value) (n b o : Nat) (d mm : Nat → Int) (s : Nat → List UInt8) (w : World) (hA : Acts w V n b o d mm s) :
    Calls Try.prog 4 #[.int .i64 most, V] w fun e w' => e = .returned (.bool true) ∧ Below w.heap.size w w' := by
  have HAc := Lib.hid hA
  have hlenV : ∀ w', (Builtin.len_ #[40] 3 #[V]).run Try.prog w' = .ok (.int .i64 (n : Int)) w' := by
    obtain ⟨v, hc, _⟩ := hA.came
    exact hc.len 3
  go_enter Try.func4, Try.ntmps4
  go_wp2_with fail
  refine (awake_any R w).mono ?_
  rintro e W1 ⟨rfl, hB⟩
  have hA1 : Acts W1 V n b o d mm s := by
    obtain ⟨v, hc, hv⟩ := hA.came
    exact ⟨⟨v, hc.below hB, hv⟩, hA.long⟩
  have HB := Lib.hid hB
  clear hB hA
  go_wp2_with fail
  refine (great_any V n b o d mm s W1 hA1).mono ?_
  rintro e W1' ⟨rfl, hw⟩
  subst hw
  clear hA1
  cases hgr : greatB n s with
  | true =>
    go_wp2
    go_ret
    exact ⟨rfl, HB.out⟩
  | false =>
  have HG := Lib.hid (great_not hgr)
  clear hgr
  by_cases hbad : most < 1 ∨ 65536 < most
  · go_wp2_with fail
    refine (R.new_bad most W1 hbad).mono ?_
    rintro e W2 ⟨rfl, hw⟩
    have HB2 := Lib.hid (HB.out.trans (hw.mono HB.out.size))
    clear hw
    rcases hbad with hlo | hhi
    · have hb1 : decide (most < 1) = true := decide_eq_true hlo
      go_wp2
      go_ret
      exact ⟨rfl, HB2.out⟩
    · have hb1 : decide (most < 1) = false := decide_eq_false (by omega)
      have hb2 : decide (65536 < most) = true := decide_eq_true hhi
      go_wp2
      go_ret
      exact ⟨rfl, HB2.out⟩
  obtain ⟨m, hmm⟩ : ∃ m : Nat, most = (m : Int) := ⟨most.toNat, by omega⟩
  subst hmm
  have hmo : 1 ≤ m ∧ m ≤ 65536 := by omega
  have hb1 : decide ((m : Int) < 1) = false := decide_eq_false (by omega)
  have hb2 : decide ((65536 : Int) < (m : Int)) = false := decide_eq_false (by omega)
  have hb3 : decide (m < 1) = false := decide_eq_false (by omega)
  clear hbad
  go_wp2_with fail
  refine (R.new_good m W1 hmo.1 hmo.2).mono ?_
  rintro e W2 ⟨g, F, rfl, hF, hF0, hB2⟩
  clear hmo
  have hP : Pr RA w g W2.heap.size m [] (W2.alloc (.cells #[.int .i64 (m : Int), .slice none 0 0] 48)) := by
    have hbw : Below W2.heap.size W2 (W2.alloc (.cells #[.int .i64 (m : Int), .slice none 0 0] 48)) := (Below.refl _ W2).alloc (Nat.le_refl _) _
    have h1 := HB.out.size
    have h2 := hB2.size
    refine ⟨F, fun k => k = W2.heap.size, ⟨R.same hF hbw.size (fun k hk => hbw.block k ((R.lt hF).2 k hk)), listF_new W2 m, fun k hk he => ?_⟩, fun k hk => ?_, (HB.out.trans (hB2.mono h1)).trans (hbw.mono (by omega))⟩
    · have := (R.lt hF).2 k hk
      have he2 : k = W2.heap.size := he
      omega
    · rcases hk with hk | hk
      · have := hF0 k hk; omega
      · have hk2 : k = W2.heap.size := hk
        omega
  have HP := Lib.hid hP
  clear hP hF hF0 hB2 HB
  go_wp2
  generalize W2.alloc (.cells #[.int .i64 (m : Int), .slice none 0 0] 48) = Wp at *
  generalize W2.heap.size = h at *
  go_loopw [8] (fun iv wr => ∃ (i : Nat) (x : List (List UInt8)), i ≤ n ∧ iv = .int .i64 i ∧ Pr RA w g h m x wr) (fun iv _ => n - (intOf iv).toNat)
  case atStart => exact ⟨0, [], Nat.zero_le _, rfl, HP.out⟩
  case round =>
    obtain ⟨i, x, hi, rfl, hP⟩ := hrel
    have HP := Lib.hid hP
    clear hP
    by_cases hlt : i < n
    · have hb4 : decide ((i : Int) < (n : Int)) = true := decide_eq_true (by omega)
      have hb5 : decide (i < n) = true := decide_eq_true hlt
      have hn400 := HG.out.1
      obtain ⟨v, hc, hv⟩ := HAc.out.came
      have hidx := hc.index i hlt
      have hblk : b < w.heap.size := World.block_lt_of_cell? w _ (hc.cell i 0 hlt (by omega))
      have hsl := HG.out.2 i hlt
      have hrg : w.rangeAt b (o + i * 3) [.int .i64 (d i), .int .i64 (mm i), S (s i)] := fun j y hy => by
        have hc0 := hc.cell i 0 hlt (by omega)
        have hc1 := hc.cell i 1 hlt (by omega)
        have hc2 := hc.cell i 2 hlt (by omega)
        rw [(hv i hlt).1] at hc0
        rw [(hv i hlt).2.1] at hc1
        rw [(hv i hlt).2.2] at hc2
        match j with
        | 0 => simp only [List.getElem?_cons_zero, Option.some.injEq] at hy; subst hy; exact hc0
        | 1 => simp only [List.getElem?_cons_succ, List.getElem?_cons_zero, Option.some.injEq] at hy; subst hy; exact hc1
        | 2 => simp only [List.getElem?_cons_succ, List.getElem?_cons_zero, Option.some.injEq] at hy; subst hy; exact hc2
        | j + 3 => simp at hy
      have HC := Lib.hid (And.intro hsl hlt)
      generalize d i = D at *
      generalize mm i = M at *
      generalize s i = u at *
      have HSS : Hid (∀ W', Below w.heap.size w W' → W'.rangeAt b (o + i * 3) [.int .i64 D, .int .i64 M, S u]) := Lib.hid fun W' hB j y hy => by
        rw [hB.cell hblk]; exact hrg j y hy
      clear hc hv hrg hblk hsl v
      go_wp2
      obtain ⟨Wq, hWq⟩ : ∃ Wq, Wq = wr.drew := ⟨_, rfl⟩
      obtain ⟨F1, G1, hB1, hF1, hbel1⟩ := HP.out.below R (show Below wr.heap.size wr Wq by rw [hWq]; exact below_drewN wr 1)
      have HQ := Lib.hid (And.intro hB1 (And.intro hF1 hbel1))
      clear hB1 hF1 hbel1
      · refine wp_region_noPanic ?_
        refine wp_region_held_drew (S := fun wx => wx.rangeAt b (o + i * 3) [.int .i64 D, .int .i64 M, S u]) (by kernel_rfl) (by have := HSS.out _ HQ.out.2.2; rw [hWq] at this; exact this) (fun _ => ?_)
        rw [← hWq]
        clear hWq
        refine take_at (i := 0) (d := some 48) (v := .pointer (some ⟨g, 0, none⟩)) rfl (by kernel_rfl) (by kernel_rfl) (by kernel_rfl) (fun _ _ _ h => h) (fun oi ho => ?_) (HSS.out _ HQ.out.2.2) ?_
        · obtain rfl := Option.some.inj ho
          exact Or.inl ⟨by rfl, fun wx (hSw : wx.rangeAt b (o + i * 3) [.int .i64 D, .int .i64 M, S u]) => by go_simp⟩
        simp only [Act.put, List.setIfInBounds_toArray, List.set_cons_zero, List.set_cons_succ]
        refine take_at (i := 1) (d := some 49) (v := .pointer (some ⟨h, 0, none⟩)) rfl (by kernel_rfl) (by kernel_rfl) (by kernel_rfl) (fun _ _ _ h => h) (fun oi ho => ?_) (HSS.out _ HQ.out.2.2) ?_
        · obtain rfl := Option.some.inj ho
          exact Or.inl ⟨by rfl, fun wx (hSw : wx.rangeAt b (o + i * 3) [.int .i64 D, .int .i64 M, S u]) => by go_simp⟩
        simp only [Act.put, List.setIfInBounds_toArray, List.set_cons_zero, List.set_cons_succ]
        refine take_at (i := 2) (d := some 50) (v := V) rfl (by kernel_rfl) (by kernel_rfl) (by kernel_rfl) (fun _ _ _ h => h) (fun oi ho => ?_) (HSS.out _ HQ.out.2.2) ?_
        · obtain rfl := Option.some.inj ho
          exact Or.inl ⟨by rfl, fun wx (hSw : wx.rangeAt b (o + i * 3) [.int .i64 D, .int .i64 M, S u]) => by go_simp⟩
        simp only [Act.put, List.setIfInBounds_toArray, List.set_cons_zero, List.set_cons_succ]
        refine take_at (i := 3) (d := some 51) (v := .int .i64 (i : Int)) rfl (by kernel_rfl) (by kernel_rfl) (by kernel_rfl) (fun _ _ _ h => h) (fun oi ho => ?_) (HSS.out _ HQ.out.2.2) ?_
        · obtain rfl := Option.some.inj ho
          exact Or.inl ⟨by rfl, fun wx (hSw : wx.rangeAt b (o + i * 3) [.int .i64 D, .int .i64 M, S u]) => by go_simp⟩
        simp only [Act.put, List.setIfInBounds_toArray, List.set_cons_zero, List.set_cons_succ]
        refine take_at (i := 4) (d := some 52) (v := .pointer (some ⟨b, o + i * 3, none⟩)) rfl (by kernel_rfl) (by kernel_rfl) (by kernel_rfl) (fun _ _ _ h => h) (fun oi ho => ?_) (HSS.out _ HQ.out.2.2) ?_
        · obtain rfl := Option.some.inj ho
          exact Or.inl ⟨by rfl, fun wx (hSw : wx.rangeAt b (o + i * 3) [.int .i64 D, .int .i64 M, S u]) => by go_simp⟩
        simp only [Act.put, List.setIfInBounds_toArray, List.set_cons_zero, List.set_cons_succ]
        refine take_at (i := 5) (d := some 53) (v := .agg #[.int .i64 D, .int .i64 M, S u]) rfl (by kernel_rfl) (by kernel_rfl) (by kernel_rfl) (fun _ _ _ h => h) (fun oi ho => ?_) (HSS.out _ HQ.out.2.2) ?_
        · obtain rfl := Option.some.inj ho
          exact Or.inl ⟨by rfl, fun wx (hSw : wx.rangeAt b (o + i * 3) [.int .i64 D, .int .i64 M, S u]) => exec_load_mid 51 (.tmp 52) rfl b (o + i * 3) rfl [.int .i64 D, .int .i64 M, S u] _ hSw Try.underlying51 rfl (by kernel_rfl)⟩
        simp only [Act.put, List.setIfInBounds_toArray, List.set_cons_zero, List.set_cons_succ]
        refine ready_call (i := 6) (d := some 54) (f := 19) (args := #[.pointer (some ⟨g, 0, none⟩), .pointer (some ⟨h, 0, none⟩), .agg #[.int .i64 D, .int .i64 M, S u]]) rfl (by kernel_rfl) (fun oi ho => ?_) ?_
        · obtain rfl := Option.some.inj ho
          exact ⟨by rfl, by go_simp⟩
        refine (does_any R D M u HC.out.1 Wq HQ.out.1).mono ?_
        rintro e W3 ⟨rfl, ys, hside⟩
        have hP3 := Pr.side HQ.out.2.1 HQ.out.2.2 hside
        have H3 := Lib.hid hP3
        clear hside hP3
        refine ⟨_, rfl, HSS.out _ H3.out.bel, ?_⟩
        simp only [Act.put, List.setIfInBounds_toArray, List.set_cons_zero, List.set_cons_succ]
        refine take_at (i := 7) (d := some 55) (v := .bool false) rfl (by kernel_rfl) (by kernel_rfl) (by kernel_rfl) (fun _ _ _ h => h) (fun oi ho => ?_) (HSS.out _ H3.out.bel) ?_
        · obtain rfl := Option.some.inj ho
          exact Or.inl ⟨by rfl, fun wx (hSw : wx.rangeAt b (o + i * 3) [.int .i64 D, .int .i64 M, S u]) => by go_simp⟩
        simp only [Act.put, List.setIfInBounds_toArray, List.set_cons_zero, List.set_cons_succ]
        refine take_at (i := 8) (d := some 56) (v := .bool false) rfl (by kernel_rfl) (by kernel_rfl) (by kernel_rfl) (fun _ _ _ h => h) (fun oi ho => ?_) (HSS.out _ H3.out.bel) ?_
        · obtain rfl := Option.some.inj ho
          exact Or.inl ⟨by rfl, fun wx (hSw : wx.rangeAt b (o + i * 3) [.int .i64 D, .int .i64 M, S u]) => by go_simp⟩
        simp only [Act.put, List.setIfInBounds_toArray, List.set_cons_zero, List.set_cons_succ]
        refine take_at (i := 9) (d := some 57) (v := .pointer (some ⟨g, 0, none⟩)) rfl (by kernel_rfl) (by kernel_rfl) (by kernel_rfl) (fun _ _ _ h => h) (fun oi ho => ?_) (HSS.out _ H3.out.bel) ?_
        · obtain rfl := Option.some.inj ho
          exact Or.inl ⟨by rfl, fun wx (hSw : wx.rangeAt b (o + i * 3) [.int .i64 D, .int .i64 M, S u]) => by go_simp⟩
        simp only [Act.put, List.setIfInBounds_toArray, List.set_cons_zero, List.set_cons_succ]
        refine take_at (i := 11) (d := some 59) (v := .pointer (some ⟨h, 0, none⟩)) rfl (by kernel_rfl) (by kernel_rfl) (by kernel_rfl) (fun _ _ _ h => h) (fun oi ho => ?_) (HSS.out _ H3.out.bel) ?_
        · obtain rfl := Option.some.inj ho
          exact Or.inl ⟨by rfl, fun wx (hSw : wx.rangeAt b (o + i * 3) [.int .i64 D, .int .i64 M, S u]) => by go_simp⟩
        simp only [Act.put, List.setIfInBounds_toArray, List.set_cons_zero, List.set_cons_succ]
        refine take_at (i := 12) (d := some 60) (v := .pointer (some ⟨h, 0, none⟩)) rfl (by kernel_rfl) (by kernel_rfl) (by kernel_rfl) (fun _ _ _ h => h) (fun oi ho => ?_) (HSS.out _ H3.out.bel) ?_
        · obtain rfl := Option.some.inj ho
          exact Or.inl ⟨by rfl, fun wx (hSw : wx.rangeAt b (o + i * 3) [.int .i64 D, .int .i64 M, S u]) => by go_simp⟩
        simp only [Act.put, List.setIfInBounds_toArray, List.set_cons_zero, List.set_cons_succ]
        refine take_at (i := 13) (d := some 61) (v := .pointer (some ⟨h, 1, none⟩)) rfl (by kernel_rfl) (by kernel_rfl) (by kernel_rfl) (fun _ _ _ h => h) (fun oi ho => ?_) (HSS.out _ H3.out.bel) ?_
        · obtain rfl := Option.some.inj ho
          exact Or.inl ⟨by rfl, fun wx (hSw : wx.rangeAt b (o + i * 3) [.int .i64 D, .int .i64 M, S u]) => by go_simp⟩
        simp only [Act.put, List.setIfInBounds_toArray, List.set_cons_zero, List.set_cons_succ]
        obtain ⟨F3, G3, hB3, hF3, hbel3⟩ := H3.out
        obtain ⟨v3, hv3, _, hlv⟩ := hB3.l.cell
        have hlv3 := hlv 3
        have hlenc := R.len hB3.r
        have hhw : h < W3.heap.size := hB3.l.lt.2 h hB3.l.lt.1
        obtain ⟨L, hL⟩ : ∃ L, L = ys.length := ⟨_, rfl⟩
        rw [← hL] at hlv3 hlenc
        have hHL := Lib.hid hL
        clear hlv hB3 hF3 hbel3 hL
        refine ready_call_or_value (i := 10) (j := 14) (di := some 58) (dj := some 62) (vj := v3) (f := 20) (args := #[.pointer (some ⟨g, 0, none⟩)]) rfl rfl (by kernel_rfl) (fun oi ho => ?_) (fun oi ho => ?_) (HSS.out _ H3.out.bel) (hlenc.mono ?_) ?_
        · obtain rfl := Option.some.inj ho
          exact ⟨by rfl, by go_simp⟩
        · obtain rfl := Option.some.inj ho
          exact ⟨by rfl, by go_simp⟩
        · rintro e W5 ⟨rfl, hb5⟩
          have H5 := Lib.hid (H3.out.below R hb5)
          have HSH := HSS.out _ H5.out.bel
          have hv4 : W5.cell? ⟨h, 1, none⟩ = some v3 := by rw [hb5.cell hhw]; exact hv3
          clear hb5
          refine ⟨_, rfl, HSH, ?_⟩
          simp only [Act.put, List.setIfInBounds_toArray, List.set_cons_zero, List.set_cons_succ]
          refine ready_value (i := 14) (d := some 62) (v := v3) (w' := W5) rfl (by kernel_rfl) (fun oi ho => ?_) HSH ?_
          · obtain rfl := Option.some.inj ho
            exact ⟨by rfl, by go_simp⟩
          simp only [Act.put, List.setIfInBounds_toArray, List.set_cons_zero, List.set_cons_succ]
          refine take_at (i := 15) (d := some 63) (v := .int .i64 (L : Int)) rfl (by kernel_rfl) (by kernel_rfl) (by kernel_rfl) (fun _ _ _ h => h) (fun oi ho => ?_) HSH ?_
          · obtain rfl := Option.some.inj ho
            exact Or.inl ⟨by rfl, fun wx (hSw : wx.rangeAt b (o + i * 3) [.int .i64 D, .int .i64 M, S u]) => by go_simp⟩
          simp only [Act.put, List.setIfInBounds_toArray, List.set_cons_zero, List.set_cons_succ]
          refine take_at (i := 16) (d := some 64) (v := .bool false) rfl (by kernel_rfl) (by kernel_rfl) (by kernel_rfl) (fun _ _ _ h => h) (fun oi ho => ?_) HSH ?_
          · obtain rfl := Option.some.inj ho
            exact Or.inl ⟨by rfl, fun wx (hSw : wx.rangeAt b (o + i * 3) [.int .i64 D, .int .i64 M, S u]) => by go_simp⟩
          simp only [Act.put, List.setIfInBounds_toArray, List.set_cons_zero, List.set_cons_succ]
          refine take_at (i := 17) (d := some 65) (v := .bool false) rfl (by kernel_rfl) (by kernel_rfl) (by kernel_rfl) (fun _ _ _ h => h) (fun oi ho => ?_) HSH ?_
          · obtain rfl := Option.some.inj ho
            exact Or.inl ⟨by rfl, fun wx (hSw : wx.rangeAt b (o + i * 3) [.int .i64 D, .int .i64 M, S u]) => by go_simp⟩
          simp only [Act.put, List.setIfInBounds_toArray, List.set_cons_zero, List.set_cons_succ]
          refine wpAnyH_done (by kernel_rfl) ?_ _
          refine NoPanic.normal ?_
          clear hv3 hv4
          go_wp2
          go_loopw [9] (fun kv wz => ∃ k : Nat, k ≤ 4 ∧ kv = .int .i64 k ∧ Below W5.heap.size W5 wz) (fun kv _ => 4 - (intOf kv).toNat)
          case atStart => exact ⟨0, by omega, rfl, Below.refl _ _⟩
          case round =>
            obtain ⟨k, hk4, rfl, hbz⟩ := hrel
            have HZ := Lib.hid (H5.out.below R hbz)
            have HZb := Lib.hid hbz
            clear hbz
            obtain ⟨F6, G6, hB6, _, _⟩ := HZ.out
            obtain ⟨v6, hr6, hl6, _, _⟩ := hB6.l
            have c6 : wr.cell? ⟨h, 1, none⟩ = some v6 := cell_of_row wr h 1 _ 48 (0, 0) hr6
            have hlen6 := hl6.len Try.underlying46 3
            rw [← hHL.out] at hlen6
            obtain ⟨kk, oo, _, hidx6, hcs6⟩ := hl6.index Try.underlying46 (fun w => Try.sizeOf9 w)
            have hh6 : h < wr.heap.size := hr6.lt
            have HL6 := Lib.hid (And.intro hidx6 (And.intro hcs6 (And.intro hB6 hh6)))
            clear hr6 hl6 hidx6 hcs6 hB6 hh6
            by_cases hkL : k < L
            · have j1 : decide ((k : Int) < (L : Int)) = true := decide_eq_true (by omega)
              have j1' : decide (k < L) = true := decide_eq_true hkL
              by_cases hk3 : k < 4
              · have j2 : decide ((k : Int) < 4) = true := decide_eq_true (by omega)
                obtain ⟨x6, hx6⟩ : ∃ x6, ys[k]? = some x6 := ⟨ys[k]'(by rw [← hHL.out]; exact hkL), List.getElem?_eq_getElem _⟩
                have hkl : k < ys.length := by rw [← hHL.out]; exact hkL
                have hix6 : ∀ W, (Instr.indexAt 46 v6 (.int .i64 (k : Int))).run Try.prog W = .ok (.pointer (some ⟨kk, oo + k, none⟩)) W := fun W => by
                  have := HL6.out.1 k hkl W
                  rwa [Nat.mul_one] at this
                have cx6 : wr.cell? ⟨kk, oo + k, none⟩ = some (S x6) := by
                  have := (HL6.out.2.1 k 0 hkl (by omega)).1
                  rw [Nat.add_zero, Nat.add_zero, Nat.mul_one, List.getElem?_map, hx6] at this
                  exact this
                have hneq6 : binOp .neq 9 (S x6) (S x6) = pure (.bool false) := by rw [neql_S]; simp
                have hgd6 := nguard_S 9
                have hcall6 := R.at_some k x6 HL6.out.2.2.1.r hx6
                clear hx6 hkL hkl
                go_wp2_with fail
                refine hcall6.mono ?_
                rintro e W7 ⟨rfl, hb7⟩
                have c7 : W7.cell? ⟨h, 1, none⟩ = some v6 := by rw [hb7.cell HL6.out.2.2.2]; exact c6
                have cx7 : W7.cell? ⟨kk, oo + k, none⟩ = some (S x6) := by rw [hb7.cell (World.block_lt_of_cell? wr _ cx6)]; exact cx6
                have HB7 := Lib.hid hb7
                clear hb7 c6 cx6 hcall6
                go_wp2
                exact ⟨⟨k + 1, by omega, by go_num, HZb.out.trans (HB7.out.mono HZb.out.size)⟩, by simp [intOf]; omega⟩
              · have j2 : decide ((k : Int) < 4) = false := decide_eq_false (by omega)
                go_wp2
                exact ⟨⟨i + 1, ys, by have := HC.out.2; omega, by go_num, HZ.out⟩, by have := HC.out.2; simp [intOf]; omega⟩
            · have j1 : decide ((k : Int) < (L : Int)) = false := decide_eq_false (by omega)
              have j1' : decide (k < L) = false := decide_eq_false hkL
              go_wp2
              exact ⟨⟨i + 1, ys, by have := HC.out.2; omega, by go_num, HZ.out⟩, by have := HC.out.2; simp [intOf]; omega⟩
        · simp only [Act.put, List.setIfInBounds_toArray, List.set_cons_zero, List.set_cons_succ]
          have HSH := HSS.out _ H3.out.bel
          refine take_at (i := 15) (d := some 63) (v := .int .i64 (L : Int)) rfl (by kernel_rfl) (by kernel_rfl) (by kernel_rfl) (fun _ _ _ h => h) (fun oi ho => ?_) HSH ?_
          · obtain rfl := Option.some.inj ho
            exact Or.inl ⟨by rfl, fun wx (hSw : wx.rangeAt b (o + i * 3) [.int .i64 D, .int .i64 M, S u]) => by go_simp⟩
          simp only [Act.put, List.setIfInBounds_toArray, List.set_cons_zero, List.set_cons_succ]
          refine ready_call (i := 10) (d := some 58) (f := 20) (args := #[.pointer (some ⟨g, 0, none⟩)]) rfl (by kernel_rfl) (fun oi ho => ?_) ?_
          · obtain rfl := Option.some.inj ho
            exact ⟨by rfl, by go_simp⟩
          refine hlenc.mono ?_
          rintro e W5 ⟨rfl, hb5⟩
          have H5 := Lib.hid (H3.out.below R hb5)
          have HSH := HSS.out _ H5.out.bel
          have hv4 : W5.cell? ⟨h, 1, none⟩ = some v3 := by rw [hb5.cell hhw]; exact hv3
          clear hb5
          refine ⟨_, rfl, HSH, ?_⟩
          simp only [Act.put, List.setIfInBounds_toArray, List.set_cons_zero, List.set_cons_succ]
          refine take_at (i := 16) (d := some 64) (v := .bool false) rfl (by kernel_rfl) (by kernel_rfl) (by kernel_rfl) (fun _ _ _ h => h) (fun oi ho => ?_) HSH ?_
          · obtain rfl := Option.some.inj ho
            exact Or.inl ⟨by rfl, fun wx (hSw : wx.rangeAt b (o + i * 3) [.int .i64 D, .int .i64 M, S u]) => by go_simp⟩
          simp only [Act.put, List.setIfInBounds_toArray, List.set_cons_zero, List.set_cons_succ]
          refine take_at (i := 17) (d := some 65) (v := .bool false) rfl (by kernel_rfl) (by kernel_rfl) (by kernel_rfl) (fun _ _ _ h => h) (fun oi ho => ?_) HSH ?_
          · obtain rfl := Option.some.inj ho
            exact Or.inl ⟨by rfl, fun wx (hSw : wx.rangeAt b (o + i * 3) [.int .i64 D, .int .i64 M, S u]) => by go_simp⟩
          simp only [Act.put, List.setIfInBounds_toArray, List.set_cons_zero, List.set_cons_succ]
          refine wpAnyH_done (by kernel_rfl) ?_ _
          refine NoPanic.normal ?_
          clear hv3 hv4
          go_wp2
          go_loopw [9] (fun kv wz => ∃ k : Nat, k ≤ 4 ∧ kv = .int .i64 k ∧ Below W5.heap.size W5 wz) (fun kv _ => 4 - (intOf kv).toNat)
          case atStart => exact ⟨0, by omega, rfl, Below.refl _ _⟩
          case round =>
            obtain ⟨k, hk4, rfl, hbz⟩ := hrel
            have HZ := Lib.hid (H5.out.below R hbz)
            have HZb := Lib.hid hbz
            clear hbz
            obtain ⟨F6, G6, hB6, _, _⟩ := HZ.out
            obtain ⟨v6, hr6, hl6, _, _⟩ := hB6.l
            have c6 : wr.cell? ⟨h, 1, none⟩ = some v6 := cell_of_row wr h 1 _ 48 (0, 0) hr6
            have hlen6 := hl6.len Try.underlying46 3
            rw [← hHL.out] at hlen6
            obtain ⟨kk, oo, _, hidx6, hcs6⟩ := hl6.index Try.underlying46 (fun w => Try.sizeOf9 w)
            have hh6 : h < wr.heap.size := hr6.lt
            have HL6 := Lib.hid (And.intro hidx6 (And.intro hcs6 (And.intro hB6 hh6)))
            clear hr6 hl6 hidx6 hcs6 hB6 hh6
            by_cases hkL : k < L
            · have j1 : decide ((k : Int) < (L : Int)) = true := decide_eq_true (by omega)
              have j1' : decide (k < L) = true := decide_eq_true hkL
              by_cases hk3 : k < 4
              · have j2 : decide ((k : Int) < 4) = true := decide_eq_true (by omega)
                obtain ⟨x6, hx6⟩ : ∃ x6, ys[k]? = some x6 := ⟨ys[k]'(by rw [← hHL.out]; exact hkL), List.getElem?_eq_getElem _⟩
                have hkl : k < ys.length := by rw [← hHL.out]; exact hkL
                have hix6 : ∀ W, (Instr.indexAt 46 v6 (.int .i64 (k : Int))).run Try.prog W = .ok (.pointer (some ⟨kk, oo + k, none⟩)) W := fun W => by
                  have := HL6.out.1 k hkl W
                  rwa [Nat.mul_one] at this
                have cx6 : wr.cell? ⟨kk, oo + k, none⟩ = some (S x6) := by
                  have := (HL6.out.2.1 k 0 hkl (by omega)).1
                  rw [Nat.add_zero, Nat.add_zero, Nat.mul_one, List.getElem?_map, hx6] at this
                  exact this
                have hneq6 : binOp .neq 9 (S x6) (S x6) = pure (.bool false) := by rw [neql_S]; simp
                have hgd6 := nguard_S 9
                have hcall6 := R.at_some k x6 HL6.out.2.2.1.r hx6
                clear hx6 hkL hkl
                go_wp2_with fail
                refine hcall6.mono ?_
                rintro e W7 ⟨rfl, hb7⟩
                have c7 : W7.cell? ⟨h, 1, none⟩ = some v6 := by rw [hb7.cell HL6.out.2.2.2]; exact c6
                have cx7 : W7.cell? ⟨kk, oo + k, none⟩ = some (S x6) := by rw [hb7.cell (World.block_lt_of_cell? wr _ cx6)]; exact cx6
                have HB7 := Lib.hid hb7
                clear hb7 c6 cx6 hcall6
                go_wp2
                exact ⟨⟨k + 1, by omega, by go_num, HZb.out.trans (HB7.out.mono HZb.out.size)⟩, by simp [intOf]; omega⟩
              · have j2 : decide ((k : Int) < 4) = false := decide_eq_false (by omega)
                go_wp2
                exact ⟨⟨i + 1, ys, by have := HC.out.2; omega, by go_num, HZ.out⟩, by have := HC.out.2; simp [intOf]; omega⟩
            · have j1 : decide ((k : Int) < (L : Int)) = false := decide_eq_false (by omega)
              have j1' : decide (k < L) = false := decide_eq_false hkL
              go_wp2
              exact ⟨⟨i + 1, ys, by have := HC.out.2; omega, by go_num, HZ.out⟩, by have := HC.out.2; simp [intOf]; omega⟩
    · have hb4 : decide ((i : Int) < (n : Int)) = false := decide_eq_false (by omega)
      have hb5 : decide (i < n) = false := decide_eq_false hlt
      go_wp2
      go_ret
      exact ⟨rfl, HP.out.bel⟩
end
end Go.Proofs.Ytkekjcdhlkhhoaa
