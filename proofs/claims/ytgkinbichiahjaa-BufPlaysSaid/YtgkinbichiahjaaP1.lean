/- The walk of BufPlays. -/
import Derived.Test.YtgkinbichiahjaaP0
namespace Go.Proofs.Ytgkinbichiahjaa
open Go.RowKit
attribute [local go_sem] store_one S_match S_store

set_option maxRecDepth 100000 in
set_option maxHeartbeats 4000000 in
theorem plays_any (most : Int) (V : Value) (n b o : Nat) (d mm : Nat → Int) (s : Nat → List UInt8) (w : World) (hA : Acts w V n b o d mm s) (hm : MaxAt w) :
    Calls Try.prog 4 #[.int .i64 most, V] w fun e w' => e = .returned (.bool true) ∧ Below w.heap.size w w' := by
  have HM := Lib.hid hm.pos
  have HMX := Lib.hid hm
  have HAc := Lib.hid hA
  have hlenV : ∀ w', (Builtin.len_ #[30] 3 #[V]).run Try.prog w' = .ok (.int .i64 (n : Int)) w' := by
    obtain ⟨v, hc, _⟩ := hA.came
    exact hc.len 3
  go_enter Try.func4, Try.ntmps4
  go_wp2_with fail
  refine (awake_any w hm).mono ?_
  rintro e W1 ⟨rfl, hB⟩
  have hA1 : Acts W1 V n b o d mm s := by
    obtain ⟨v, hc, hv⟩ := hA.came
    exact ⟨⟨v, hc.below hB, hv⟩, hA.long⟩
  have HB := Lib.hid (And.intro hB hm)
  clear hB hm hA
  go_wp2_with fail
  refine (great_any V n b o d mm s W1 hA1).mono ?_
  rintro e W1' ⟨rfl, hw⟩
  subst hw
  clear hA1
  cases hgr : greatB n s with
  | true =>
    go_wp2
    go_ret
    exact ⟨rfl, HB.out.1⟩
  | false =>
  have HG := Lib.hid (great_not hgr)
  clear hgr
  by_cases hbad : most < 0 ∨ 1073741824 < most
  · go_wp2_with fail
    refine (new_bad most W1 hbad).mono ?_
    rintro e W2 ⟨rfl, hw⟩
    have hw2 := hw.symm
    subst hw2
    rcases hbad with hlo | hhi
    · have hb1 : decide (most < 0) = true := decide_eq_true hlo
      go_wp2
      go_ret
      exact ⟨rfl, HB.out.1⟩
    · have hb1 : decide (most < 0) = false := decide_eq_false (by omega)
      have hb2 : decide (1073741824 < most) = true := decide_eq_true hhi
      go_wp2
      go_ret
      exact ⟨rfl, HB.out.1⟩
  obtain ⟨m, hmm⟩ : ∃ m : Nat, most = (m : Int) := ⟨most.toNat, by omega⟩
  subst hmm
  have hmo : m ≤ 1073741824 := by omega
  have HMo := Lib.hid hmo
  have hb1 : decide ((m : Int) < 0) = false := decide_eq_false (by omega)
  have hb2 : decide ((1073741824 : Int) < (m : Int)) = false := decide_eq_false (by omega)
  have hb3 : decide (1073741824 < m) = false := decide_eq_false (by omega)
  clear hbad
  go_wp2_with fail
  refine (new_good m W1 hmo).mono ?_
  rintro e W2 ⟨rfl, hF, hz, hB2⟩
  clear hmo
  have hP : Pair w W1.heap.size W2.heap.size m [] (W2.alloc (.cells #[.int .i64 (m : Int), .string ⟨#[]⟩] 34)) := by
    have hbw : Below W2.heap.size W2 (W2.alloc (.cells #[.int .i64 (m : Int), .string ⟨#[]⟩] 34)) := (Below.refl _ W2).alloc (Nat.le_refl _) _
    refine ⟨(hF.buf (Under W1.heap.size) (fun k hk => by unfold Under at hk; omega) HMo.out).also hbw _ (fun k hk => ?_), row_new _ _ _, (HB.out.1.trans (hB2.mono HB.out.1.size)).alloc (by have := HB.out.1.size; omega) _, HB.out.1.size, by omega⟩
    rcases hk with hk | hk
    · exact .inl hk
    · exact .inr (by rw [alloc_size]; omega)
  have HP := Lib.hid hP
  clear hP hF hz hB2
  go_wp2
  generalize W2.alloc (.cells #[.int .i64 (m : Int), .string ⟨#[]⟩] 34) = Wp at *
  generalize W2.heap.size = h at *
  generalize W1.heap.size = g at *
  clear HB
  go_loopw [8] (fun iv wr => ∃ (i : Nat) (x : List UInt8), i ≤ n ∧ iv = .int .i64 i ∧ Pair w g h m x wr) (fun iv _ => n - (intOf iv).toNat)
  case atStart => exact ⟨0, [], Nat.zero_le _, rfl, HP.out⟩
  case round =>
    obtain ⟨i, x, hi, rfl, hP⟩ := hrel
    have HP := Lib.hid hP
    clear hP
    by_cases hlt : i < n
    · have hb4 : decide ((i : Int) < (n : Int)) = true := decide_eq_true (by omega)
      have hb5 : decide (i < n) = true := decide_eq_true hlt
      obtain ⟨v, hc, hv⟩ := HAc.out.came
      have hc2 := hc.below HP.out.bel
      have hidx := hc.index i hlt
      have C0 : wr.cell? ⟨b, o + i * 3, none⟩ = some (.int .i64 (d i)) := by
        have := hc2.cell i 0 hlt (by omega)
        rw [(hv i hlt).1, Nat.add_zero] at this; exact this
      have C1 : wr.cell? ⟨b, o + i * 3 + 1, none⟩ = some (.int .i64 (mm i)) := by
        rw [hc2.cell i 1 hlt (by omega), (hv i hlt).2.1]
      have C2 : wr.cell? ⟨b, o + i * 3 + 2, none⟩ = some (S (s i)) := by
        rw [hc2.cell i 2 hlt (by omega), (hv i hlt).2.2]
      have hsl := HG.out.2 i hlt
      have hblk : b < w.heap.size := World.block_lt_of_cell? w _ (hc.cell i 0 hlt (by omega))
      have C1w : w.cell? ⟨b, o + i * 3 + 1, none⟩ = some (.int .i64 (mm i)) := by rw [hc.cell i 1 hlt (by omega), (hv i hlt).2.1]
      have C2w : w.cell? ⟨b, o + i * 3 + 2, none⟩ = some (S (s i)) := by rw [hc.cell i 2 hlt (by omega), (hv i hlt).2.2]
      have HC := Lib.hid (And.intro C1 (And.intro C2 (And.intro hsl (And.intro hblk hlt))))
      clear hc hc2 hv C1 C2 hsl hblk v
      generalize d i = D at *
      generalize mm i = M at *
      generalize s i = u at *
      have HSS : Hid ((∀ W', Below w.heap.size w W' → W'.cell? ⟨b, o + i * 3 + 1, none⟩ = some (.int .i64 M)) ∧ (∀ W', Below w.heap.size w W' → W'.cell? ⟨b, o + i * 3 + 2, none⟩ = some (S u))) :=
        Lib.hid ⟨fun W' hB => by rw [hB.cell HC.out.2.2.2.1]; exact C1w, fun W' hB => by rw [hB.cell HC.out.2.2.2.1]; exact C2w⟩
      clear C1w C2w
      have hn300 := HG.out.1
      have hfx := HP.out.b.fits
      have hmo := HMo.out
      have hus := HC.out.2.2.1
      by_cases hD0 : D = 0
      · subst hD0
        clear hmo hfx hus
        obtain ⟨R, y, c1, c2⟩ := arm_write (w := w) (g := g) (h := h) u HC.out.2.2.1 HP.out.b.fits HMo.out
        have HK := Lib.hid (And.intro c1 c2)
        clear c1 c2
        have HS : Hid (∀ W', Below w.heap.size w W' → W'.cell? ⟨b, o + i * 3 + 2, none⟩ = some (S u)) := Lib.hid fun W' hB => HSS.out.2 W' hB
        go_wp2
        obtain ⟨Wq, hWq⟩ : ∃ Wq, Wq = wr.drew := ⟨_, rfl⟩
        have HQ := Lib.hid (show Pair w g h m x Wq from HP.out.drawn ⟨1, hWq⟩)
        refine wp_region_noPanic ?_
        refine wp_region_held_drew (S := fun wx => wx.cell? ⟨b, o + i * 3 + 2, none⟩ = some (S u)) (by kernel_rfl) (by have := HS.out _ HQ.out.bel; rw [hWq] at this; exact this) (fun _ => ?_)
        rw [← hWq]
        clear hWq
        refine take_at (i := 0) (d := some 52) (v := .pointer (some ⟨g, 0, none⟩)) rfl (by kernel_rfl) (by kernel_rfl) (by kernel_rfl) (fun _ _ _ h => h) (fun oi ho => ?_) (HS.out _ HQ.out.bel) ?_
        · obtain rfl := Option.some.inj ho
          exact Or.inl ⟨by rfl, fun wx (hSw : wx.cell? ⟨b, o + i * 3 + 2, none⟩ = some (S u)) => by go_simp⟩
        simp only [Act.put, List.setIfInBounds_toArray, List.set_cons_zero, List.set_cons_succ]
        refine take_at (i := 1) (d := some 53) (v := V) rfl (by kernel_rfl) (by kernel_rfl) (by kernel_rfl) (fun _ _ _ h => h) (fun oi ho => ?_) (HS.out _ HQ.out.bel) ?_
        · obtain rfl := Option.some.inj ho
          exact Or.inl ⟨by rfl, fun wx (hSw : wx.cell? ⟨b, o + i * 3 + 2, none⟩ = some (S u)) => by go_simp⟩
        simp only [Act.put, List.setIfInBounds_toArray, List.set_cons_zero, List.set_cons_succ]
        refine take_at (i := 2) (d := some 54) (v := .int .i64 (i : Int)) rfl (by kernel_rfl) (by kernel_rfl) (by kernel_rfl) (fun _ _ _ h => h) (fun oi ho => ?_) (HS.out _ HQ.out.bel) ?_
        · obtain rfl := Option.some.inj ho
          exact Or.inl ⟨by rfl, fun wx (hSw : wx.cell? ⟨b, o + i * 3 + 2, none⟩ = some (S u)) => by go_simp⟩
        simp only [Act.put, List.setIfInBounds_toArray, List.set_cons_zero, List.set_cons_succ]
        refine take_at (i := 3) (d := some 55) (v := .pointer (some ⟨b, o + i * 3, none⟩)) rfl (by kernel_rfl) (by kernel_rfl) (by kernel_rfl) (fun _ _ _ h => h) (fun oi ho => ?_) (HS.out _ HQ.out.bel) ?_
        · obtain rfl := Option.some.inj ho
          exact Or.inl ⟨by rfl, fun wx (hSw : wx.cell? ⟨b, o + i * 3 + 2, none⟩ = some (S u)) => by go_simp⟩
        simp only [Act.put, List.setIfInBounds_toArray, List.set_cons_zero, List.set_cons_succ]
        refine take_at (i := 4) (d := some 56) (v := .pointer (some ⟨b, o + i * 3 + 2, none⟩)) rfl (by kernel_rfl) (by kernel_rfl) (by kernel_rfl) (fun _ _ _ h => h) (fun oi ho => ?_) (HS.out _ HQ.out.bel) ?_
        · obtain rfl := Option.some.inj ho
          exact Or.inl ⟨by rfl, fun wx (hSw : wx.cell? ⟨b, o + i * 3 + 2, none⟩ = some (S u)) => by go_simp⟩
        simp only [Act.put, List.setIfInBounds_toArray, List.set_cons_zero, List.set_cons_succ]
        refine take_at (i := 5) (d := some 57) (v := S u) rfl (by kernel_rfl) (by kernel_rfl) (by kernel_rfl) (fun _ _ _ h => h) (fun oi ho => ?_) (HS.out _ HQ.out.bel) ?_
        · obtain rfl := Option.some.inj ho
          exact Or.inl ⟨by rfl, fun wx (hSw : wx.cell? ⟨b, o + i * 3 + 2, none⟩ = some (S u)) => by go_simp⟩
        simp only [Act.put, List.setIfInBounds_toArray, List.set_cons_zero, List.set_cons_succ]
        refine take_at (i := 7) (d := some 59) (v := .pointer (some ⟨h, 0, none⟩)) rfl (by kernel_rfl) (by kernel_rfl) (by kernel_rfl) (fun _ _ _ h => h) (fun oi ho => ?_) (HS.out _ HQ.out.bel) ?_
        · obtain rfl := Option.some.inj ho
          exact Or.inl ⟨by rfl, fun wx (hSw : wx.cell? ⟨b, o + i * 3 + 2, none⟩ = some (S u)) => by go_simp⟩
        simp only [Act.put, List.setIfInBounds_toArray, List.set_cons_zero, List.set_cons_succ]
        refine take_at (i := 8) (d := some 60) (v := V) rfl (by kernel_rfl) (by kernel_rfl) (by kernel_rfl) (fun _ _ _ h => h) (fun oi ho => ?_) (HS.out _ HQ.out.bel) ?_
        · obtain rfl := Option.some.inj ho
          exact Or.inl ⟨by rfl, fun wx (hSw : wx.cell? ⟨b, o + i * 3 + 2, none⟩ = some (S u)) => by go_simp⟩
        simp only [Act.put, List.setIfInBounds_toArray, List.set_cons_zero, List.set_cons_succ]
        refine take_at (i := 9) (d := some 61) (v := .int .i64 (i : Int)) rfl (by kernel_rfl) (by kernel_rfl) (by kernel_rfl) (fun _ _ _ h => h) (fun oi ho => ?_) (HS.out _ HQ.out.bel) ?_
        · obtain rfl := Option.some.inj ho
          exact Or.inl ⟨by rfl, fun wx (hSw : wx.cell? ⟨b, o + i * 3 + 2, none⟩ = some (S u)) => by go_simp⟩
        simp only [Act.put, List.setIfInBounds_toArray, List.set_cons_zero, List.set_cons_succ]
        refine take_at (i := 10) (d := some 62) (v := .pointer (some ⟨b, o + i * 3, none⟩)) rfl (by kernel_rfl) (by kernel_rfl) (by kernel_rfl) (fun _ _ _ h => h) (fun oi ho => ?_) (HS.out _ HQ.out.bel) ?_
        · obtain rfl := Option.some.inj ho
          exact Or.inl ⟨by rfl, fun wx (hSw : wx.cell? ⟨b, o + i * 3 + 2, none⟩ = some (S u)) => by go_simp⟩
        simp only [Act.put, List.setIfInBounds_toArray, List.set_cons_zero, List.set_cons_succ]
        refine take_at (i := 11) (d := some 63) (v := .pointer (some ⟨b, o + i * 3 + 2, none⟩)) rfl (by kernel_rfl) (by kernel_rfl) (by kernel_rfl) (fun _ _ _ h => h) (fun oi ho => ?_) (HS.out _ HQ.out.bel) ?_
        · obtain rfl := Option.some.inj ho
          exact Or.inl ⟨by rfl, fun wx (hSw : wx.cell? ⟨b, o + i * 3 + 2, none⟩ = some (S u)) => by go_simp⟩
        simp only [Act.put, List.setIfInBounds_toArray, List.set_cons_zero, List.set_cons_succ]
        refine take_at (i := 12) (d := some 64) (v := S u) rfl (by kernel_rfl) (by kernel_rfl) (by kernel_rfl) (fun _ _ _ h => h) (fun oi ho => ?_) (HS.out _ HQ.out.bel) ?_
        · obtain rfl := Option.some.inj ho
          exact Or.inl ⟨by rfl, fun wx (hSw : wx.cell? ⟨b, o + i * 3 + 2, none⟩ = some (S u)) => by go_simp⟩
        simp only [Act.put, List.setIfInBounds_toArray, List.set_cons_zero, List.set_cons_succ]
        refine ready_call (i := 6) (d := some 58) (f := 9) (args := #[.pointer (some ⟨g, 0, none⟩), S u]) rfl (by kernel_rfl) (fun oi ho => ?_) ?_
        · obtain rfl := Option.some.inj ho
          exact ⟨by rfl, by go_simp⟩
        refine (HK.out.1 Wq HQ.out).mono ?_
        rintro e W3 ⟨rfl, hH3⟩
        have H3 := Lib.hid hH3
        clear hH3
        refine ⟨_, rfl, HS.out _ H3.out.bel, ?_⟩
        simp only [Act.put, List.setIfInBounds_toArray, List.set_cons_zero, List.set_cons_succ]
        refine ready_call (i := 13) (d := some 65) (f := 15) (args := #[.pointer (some ⟨h, 0, none⟩), S u]) rfl (by kernel_rfl) (fun oi ho => ?_) ?_
        · obtain rfl := Option.some.inj ho
          exact ⟨by rfl, by go_simp⟩
        refine (HK.out.2 W3 H3.out).mono ?_
        rintro e W4 ⟨rfl, hH4⟩
        have H4 := Lib.hid hH4
        clear hH4
        refine ⟨_, rfl, HS.out _ H4.out.bel, ?_⟩
        simp only [Act.put, List.setIfInBounds_toArray, List.set_cons_zero, List.set_cons_succ]
        refine take_at (i := 14) (d := some 66) (v := .bool false) rfl (by kernel_rfl) (by kernel_rfl) (by kernel_rfl) (fun _ _ _ h => h) (fun oi ho => ?_) (HS.out _ H4.out.bel) ?_
        · obtain rfl := Option.some.inj ho
          exact Or.inl ⟨by rfl, fun wx (hSw : wx.cell? ⟨b, o + i * 3 + 2, none⟩ = some (S u)) => by go_simp⟩
        simp only [Act.put, List.setIfInBounds_toArray, List.set_cons_zero, List.set_cons_succ]
        refine wpAnyH_done (by kernel_rfl) ?_ _
        refine NoPanic.normal ?_
        have hfy : y.length ≤ m := H4.out.b.fits
        have hlenY : ∀ w', (Builtin.len_ #[9] 3 #[S y]).run Try.prog w' = .ok (.int .i64 (y.length : Int)) w' := fun w' => run_len_S (P := Try.prog) Try.underlying9 3 y w'
        have cy : W4.cell? ⟨h, 1, none⟩ = some (S y) := H4.out.r.c1
        have hcl : Hid (∀ W', Pair w g h m y W' → Calls Try.prog 20 #[.pointer (some ⟨g, 0, none⟩)] W' fun e w' => e = .returned (.int .i64 (y.length : Int)) ∧ Drawn W' w') := Lib.hid fun W' hP => len_any g _ true m y W' hP.b
        obtain ⟨r, hr⟩ : ∃ r, r = m - y.length := ⟨_, rfl⟩
        have hcr : Hid (∀ W', Pair w g h m y W' → Calls Try.prog 13 #[.pointer (some ⟨g, 0, none⟩)] W' fun e w' => e = .returned (.int .i64 (r : Int)) ∧ Drawn W' w') := Lib.hid fun W' hP => hr ▸ room_any g _ true m y W' hP.b
        have hwr : IntKind.i64.wrap ((m : Int) - (y.length : Int)) = (r : Int) := by have := HMo.out; rw [IntKind.wrap_i64]; omega
        clear hr hfy
        generalize y.length = Y at *
        go_wp2
        go_quiet (first
          | (go_at_call 20; exact Calls.quiet_of (hcl.out _ (H4.out.drawn ⟨_, rfl⟩)))
          | (go_at_call 13; exact Calls.quiet_of (hcr.out _ (H4.out.drawn ⟨_, rfl⟩))))
        go_wp2
        exact ⟨⟨i + 1, y, by omega, by go_num, H4.out.drawn ⟨_, rfl⟩⟩, by simp [intOf]; omega⟩
      by_cases hD1 : D = 1
      · subst hD1
        clear hmo hfx hus hD0
        obtain ⟨R, y, c1, c2⟩ := arm_read (w := w) (g := g) (h := h) M HP.out.b.fits HMo.out
        have HK := Lib.hid (And.intro c1 c2)
        clear c1 c2
        have HS : Hid (∀ W', Below w.heap.size w W' → W'.cell? ⟨b, o + i * 3 + 1, none⟩ = some (.int .i64 M)) := Lib.hid fun W' hB => HSS.out.1 W' hB
        have hneq : binOp .neq 9 (S R) (S R) = pure (.bool false) := by rw [neql_S]; simp
        have hgd := nguard_S 9
        go_wp2
        obtain ⟨Wq, hWq⟩ : ∃ Wq, Wq = wr.drew := ⟨_, rfl⟩
        have HQ := Lib.hid (show Pair w g h m x Wq from HP.out.drawn ⟨1, hWq⟩)
        refine wp_region_noPanic ?_
        refine wp_region_held_drew (S := fun wx => wx.cell? ⟨b, o + i * 3 + 1, none⟩ = some (.int .i64 M)) (by kernel_rfl) (by have := HS.out _ HQ.out.bel; rw [hWq] at this; exact this) (fun _ => ?_)
        rw [← hWq]
        clear hWq
        refine take_at (i := 0) (d := some 69) (v := .pointer (some ⟨g, 0, none⟩)) rfl (by kernel_rfl) (by kernel_rfl) (by kernel_rfl) (fun _ _ _ h => h) (fun oi ho => ?_) (HS.out _ HQ.out.bel) ?_
        · obtain rfl := Option.some.inj ho
          exact Or.inl ⟨by rfl, fun wx (hSw : wx.cell? ⟨b, o + i * 3 + 1, none⟩ = some (.int .i64 M)) => by go_simp⟩
        simp only [Act.put, List.setIfInBounds_toArray, List.set_cons_zero, List.set_cons_succ]
        refine take_at (i := 1) (d := some 70) (v := V) rfl (by kernel_rfl) (by kernel_rfl) (by kernel_rfl) (fun _ _ _ h => h) (fun oi ho => ?_) (HS.out _ HQ.out.bel) ?_
        · obtain rfl := Option.some.inj ho
          exact Or.inl ⟨by rfl, fun wx (hSw : wx.cell? ⟨b, o + i * 3 + 1, none⟩ = some (.int .i64 M)) => by go_simp⟩
        simp only [Act.put, List.setIfInBounds_toArray, List.set_cons_zero, List.set_cons_succ]
        refine take_at (i := 2) (d := some 71) (v := .int .i64 (i : Int)) rfl (by kernel_rfl) (by kernel_rfl) (by kernel_rfl) (fun _ _ _ h => h) (fun oi ho => ?_) (HS.out _ HQ.out.bel) ?_
        · obtain rfl := Option.some.inj ho
          exact Or.inl ⟨by rfl, fun wx (hSw : wx.cell? ⟨b, o + i * 3 + 1, none⟩ = some (.int .i64 M)) => by go_simp⟩
        simp only [Act.put, List.setIfInBounds_toArray, List.set_cons_zero, List.set_cons_succ]
        refine take_at (i := 3) (d := some 72) (v := .pointer (some ⟨b, o + i * 3, none⟩)) rfl (by kernel_rfl) (by kernel_rfl) (by kernel_rfl) (fun _ _ _ h => h) (fun oi ho => ?_) (HS.out _ HQ.out.bel) ?_
        · obtain rfl := Option.some.inj ho
          exact Or.inl ⟨by rfl, fun wx (hSw : wx.cell? ⟨b, o + i * 3 + 1, none⟩ = some (.int .i64 M)) => by go_simp⟩
        simp only [Act.put, List.setIfInBounds_toArray, List.set_cons_zero, List.set_cons_succ]
        refine take_at (i := 4) (d := some 73) (v := .pointer (some ⟨b, o + i * 3 + 1, none⟩)) rfl (by kernel_rfl) (by kernel_rfl) (by kernel_rfl) (fun _ _ _ h => h) (fun oi ho => ?_) (HS.out _ HQ.out.bel) ?_
        · obtain rfl := Option.some.inj ho
          exact Or.inl ⟨by rfl, fun wx (hSw : wx.cell? ⟨b, o + i * 3 + 1, none⟩ = some (.int .i64 M)) => by go_simp⟩
        simp only [Act.put, List.setIfInBounds_toArray, List.set_cons_zero, List.set_cons_succ]
        refine take_at (i := 5) (d := some 74) (v := .int .i64 M) rfl (by kernel_rfl) (by kernel_rfl) (by kernel_rfl) (fun _ _ _ h => h) (fun oi ho => ?_) (HS.out _ HQ.out.bel) ?_
        · obtain rfl := Option.some.inj ho
          exact Or.inl ⟨by rfl, fun wx (hSw : wx.cell? ⟨b, o + i * 3 + 1, none⟩ = some (.int .i64 M)) => by go_simp⟩
        simp only [Act.put, List.setIfInBounds_toArray, List.set_cons_zero, List.set_cons_succ]
        refine take_at (i := 7) (d := some 76) (v := .pointer (some ⟨h, 0, none⟩)) rfl (by kernel_rfl) (by kernel_rfl) (by kernel_rfl) (fun _ _ _ h => h) (fun oi ho => ?_) (HS.out _ HQ.out.bel) ?_
        · obtain rfl := Option.some.inj ho
          exact Or.inl ⟨by rfl, fun wx (hSw : wx.cell? ⟨b, o + i * 3 + 1, none⟩ = some (.int .i64 M)) => by go_simp⟩
        simp only [Act.put, List.setIfInBounds_toArray, List.set_cons_zero, List.set_cons_succ]
        refine take_at (i := 8) (d := some 77) (v := V) rfl (by kernel_rfl) (by kernel_rfl) (by kernel_rfl) (fun _ _ _ h => h) (fun oi ho => ?_) (HS.out _ HQ.out.bel) ?_
        · obtain rfl := Option.some.inj ho
          exact Or.inl ⟨by rfl, fun wx (hSw : wx.cell? ⟨b, o + i * 3 + 1, none⟩ = some (.int .i64 M)) => by go_simp⟩
        simp only [Act.put, List.setIfInBounds_toArray, List.set_cons_zero, List.set_cons_succ]
        refine take_at (i := 9) (d := some 78) (v := .int .i64 (i : Int)) rfl (by kernel_rfl) (by kernel_rfl) (by kernel_rfl) (fun _ _ _ h => h) (fun oi ho => ?_) (HS.out _ HQ.out.bel) ?_
        · obtain rfl := Option.some.inj ho
          exact Or.inl ⟨by rfl, fun wx (hSw : wx.cell? ⟨b, o + i * 3 + 1, none⟩ = some (.int .i64 M)) => by go_simp⟩
        simp only [Act.put, List.setIfInBounds_toArray, List.set_cons_zero, List.set_cons_succ]
        refine take_at (i := 10) (d := some 79) (v := .pointer (some ⟨b, o + i * 3, none⟩)) rfl (by kernel_rfl) (by kernel_rfl) (by kernel_rfl) (fun _ _ _ h => h) (fun oi ho => ?_) (HS.out _ HQ.out.bel) ?_
        · obtain rfl := Option.some.inj ho
          exact Or.inl ⟨by rfl, fun wx (hSw : wx.cell? ⟨b, o + i * 3 + 1, none⟩ = some (.int .i64 M)) => by go_simp⟩
        simp only [Act.put, List.setIfInBounds_toArray, List.set_cons_zero, List.set_cons_succ]
        refine take_at (i := 11) (d := some 80) (v := .pointer (some ⟨b, o + i * 3 + 1, none⟩)) rfl (by kernel_rfl) (by kernel_rfl) (by kernel_rfl) (fun _ _ _ h => h) (fun oi ho => ?_) (HS.out _ HQ.out.bel) ?_
        · obtain rfl := Option.some.inj ho
          exact Or.inl ⟨by rfl, fun wx (hSw : wx.cell? ⟨b, o + i * 3 + 1, none⟩ = some (.int .i64 M)) => by go_simp⟩
        simp only [Act.put, List.setIfInBounds_toArray, List.set_cons_zero, List.set_cons_succ]
        refine take_at (i := 12) (d := some 81) (v := .int .i64 M) rfl (by kernel_rfl) (by kernel_rfl) (by kernel_rfl) (fun _ _ _ h => h) (fun oi ho => ?_) (HS.out _ HQ.out.bel) ?_
        · obtain rfl := Option.some.inj ho
          exact Or.inl ⟨by rfl, fun wx (hSw : wx.cell? ⟨b, o + i * 3 + 1, none⟩ = some (.int .i64 M)) => by go_simp⟩
        simp only [Act.put, List.setIfInBounds_toArray, List.set_cons_zero, List.set_cons_succ]
        refine ready_call (i := 6) (d := some 75) (f := 11) (args := #[.pointer (some ⟨g, 0, none⟩), .int .i64 M]) rfl (by kernel_rfl) (fun oi ho => ?_) ?_
        · obtain rfl := Option.some.inj ho
          exact ⟨by rfl, by go_simp⟩
        refine (HK.out.1 Wq HQ.out).mono ?_
        rintro e W3 ⟨rfl, hH3⟩
        have H3 := Lib.hid hH3
        clear hH3
        refine ⟨_, rfl, HS.out _ H3.out.bel, ?_⟩
        simp only [Act.put, List.setIfInBounds_toArray, List.set_cons_zero, List.set_cons_succ]
        refine ready_call (i := 13) (d := some 82) (f := 16) (args := #[.pointer (some ⟨h, 0, none⟩), .int .i64 M]) rfl (by kernel_rfl) (fun oi ho => ?_) ?_
        · obtain rfl := Option.some.inj ho
          exact ⟨by rfl, by go_simp⟩
        refine (HK.out.2 W3 H3.out).mono ?_
        rintro e W4 ⟨rfl, hH4⟩
        have H4 := Lib.hid hH4
        clear hH4
        refine ⟨_, rfl, HS.out _ H4.out.bel, ?_⟩
        simp only [Act.put, List.setIfInBounds_toArray, List.set_cons_zero, List.set_cons_succ]
        refine take_at (i := 14) (d := some 83) (v := .bool false) rfl (by kernel_rfl) (by kernel_rfl) (by kernel_rfl) (fun _ _ _ h => h) (fun oi ho => ?_) (HS.out _ H4.out.bel) ?_
        · obtain rfl := Option.some.inj ho
          exact Or.inl ⟨by rfl, fun wx (hSw : wx.cell? ⟨b, o + i * 3 + 1, none⟩ = some (.int .i64 M)) => by go_simp⟩
        simp only [Act.put, List.setIfInBounds_toArray, List.set_cons_zero, List.set_cons_succ]
        refine wpAnyH_done (by kernel_rfl) ?_ _
        refine NoPanic.normal ?_
        have hfy : y.length ≤ m := H4.out.b.fits
        have hlenY : ∀ w', (Builtin.len_ #[9] 3 #[S y]).run Try.prog w' = .ok (.int .i64 (y.length : Int)) w' := fun w' => run_len_S (P := Try.prog) Try.underlying9 3 y w'
        have cy : W4.cell? ⟨h, 1, none⟩ = some (S y) := H4.out.r.c1
        have hcl : Hid (∀ W', Pair w g h m y W' → Calls Try.prog 20 #[.pointer (some ⟨g, 0, none⟩)] W' fun e w' => e = .returned (.int .i64 (y.length : Int)) ∧ Drawn W' w') := Lib.hid fun W' hP => len_any g _ true m y W' hP.b
        obtain ⟨r, hr⟩ : ∃ r, r = m - y.length := ⟨_, rfl⟩
        have hcr : Hid (∀ W', Pair w g h m y W' → Calls Try.prog 13 #[.pointer (some ⟨g, 0, none⟩)] W' fun e w' => e = .returned (.int .i64 (r : Int)) ∧ Drawn W' w') := Lib.hid fun W' hP => hr ▸ room_any g _ true m y W' hP.b
        have hwr : IntKind.i64.wrap ((m : Int) - (y.length : Int)) = (r : Int) := by have := HMo.out; rw [IntKind.wrap_i64]; omega
        clear hr hfy
        generalize y.length = Y at *
        go_wp2
        go_quiet (first
          | (go_at_call 20; exact Calls.quiet_of (hcl.out _ (H4.out.drawn ⟨_, rfl⟩)))
          | (go_at_call 13; exact Calls.quiet_of (hcr.out _ (H4.out.drawn ⟨_, rfl⟩))))
        go_wp2
        exact ⟨⟨i + 1, y, by omega, by go_num, H4.out.drawn ⟨_, rfl⟩⟩, by simp [intOf]; omega⟩
      by_cases hD2 : D = 2
      · subst hD2
        clear hmo hfx hus hD0 hD1
        obtain ⟨R, y, c1, c2⟩ := arm_peek (w := w) (g := g) (h := h) M HP.out.b.fits HMo.out
        have HK := Lib.hid (And.intro c1 c2)
        clear c1 c2
        have HS : Hid (∀ W', Below w.heap.size w W' → W'.cell? ⟨b, o + i * 3 + 1, none⟩ = some (.int .i64 M)) := Lib.hid fun W' hB => HSS.out.1 W' hB
        have hneq : binOp .neq 9 (S R) (S R) = pure (.bool false) := by rw [neql_S]; simp
        have hgd := nguard_S 9
        go_wp2
        obtain ⟨Wq, hWq⟩ : ∃ Wq, Wq = wr.drew := ⟨_, rfl⟩
        have HQ := Lib.hid (show Pair w g h m x Wq from HP.out.drawn ⟨1, hWq⟩)
        refine wp_region_noPanic ?_
        refine wp_region_held_drew (S := fun wx => wx.cell? ⟨b, o + i * 3 + 1, none⟩ = some (.int .i64 M)) (by kernel_rfl) (by have := HS.out _ HQ.out.bel; rw [hWq] at this; exact this) (fun _ => ?_)
        rw [← hWq]
        clear hWq
        refine take_at (i := 0) (d := some 86) (v := .pointer (some ⟨g, 0, none⟩)) rfl (by kernel_rfl) (by kernel_rfl) (by kernel_rfl) (fun _ _ _ h => h) (fun oi ho => ?_) (HS.out _ HQ.out.bel) ?_
        · obtain rfl := Option.some.inj ho
          exact Or.inl ⟨by rfl, fun wx (hSw : wx.cell? ⟨b, o + i * 3 + 1, none⟩ = some (.int .i64 M)) => by go_simp⟩
        simp only [Act.put, List.setIfInBounds_toArray, List.set_cons_zero, List.set_cons_succ]
        refine take_at (i := 1) (d := some 87) (v := V) rfl (by kernel_rfl) (by kernel_rfl) (by kernel_rfl) (fun _ _ _ h => h) (fun oi ho => ?_) (HS.out _ HQ.out.bel) ?_
        · obtain rfl := Option.some.inj ho
          exact Or.inl ⟨by rfl, fun wx (hSw : wx.cell? ⟨b, o + i * 3 + 1, none⟩ = some (.int .i64 M)) => by go_simp⟩
        simp only [Act.put, List.setIfInBounds_toArray, List.set_cons_zero, List.set_cons_succ]
        refine take_at (i := 2) (d := some 88) (v := .int .i64 (i : Int)) rfl (by kernel_rfl) (by kernel_rfl) (by kernel_rfl) (fun _ _ _ h => h) (fun oi ho => ?_) (HS.out _ HQ.out.bel) ?_
        · obtain rfl := Option.some.inj ho
          exact Or.inl ⟨by rfl, fun wx (hSw : wx.cell? ⟨b, o + i * 3 + 1, none⟩ = some (.int .i64 M)) => by go_simp⟩
        simp only [Act.put, List.setIfInBounds_toArray, List.set_cons_zero, List.set_cons_succ]
        refine take_at (i := 3) (d := some 89) (v := .pointer (some ⟨b, o + i * 3, none⟩)) rfl (by kernel_rfl) (by kernel_rfl) (by kernel_rfl) (fun _ _ _ h => h) (fun oi ho => ?_) (HS.out _ HQ.out.bel) ?_
        · obtain rfl := Option.some.inj ho
          exact Or.inl ⟨by rfl, fun wx (hSw : wx.cell? ⟨b, o + i * 3 + 1, none⟩ = some (.int .i64 M)) => by go_simp⟩
        simp only [Act.put, List.setIfInBounds_toArray, List.set_cons_zero, List.set_cons_succ]
        refine take_at (i := 4) (d := some 90) (v := .pointer (some ⟨b, o + i * 3 + 1, none⟩)) rfl (by kernel_rfl) (by kernel_rfl) (by kernel_rfl) (fun _ _ _ h => h) (fun oi ho => ?_) (HS.out _ HQ.out.bel) ?_
        · obtain rfl := Option.some.inj ho
          exact Or.inl ⟨by rfl, fun wx (hSw : wx.cell? ⟨b, o + i * 3 + 1, none⟩ = some (.int .i64 M)) => by go_simp⟩
        simp only [Act.put, List.setIfInBounds_toArray, List.set_cons_zero, List.set_cons_succ]
        refine take_at (i := 5) (d := some 91) (v := .int .i64 M) rfl (by kernel_rfl) (by kernel_rfl) (by kernel_rfl) (fun _ _ _ h => h) (fun oi ho => ?_) (HS.out _ HQ.out.bel) ?_
        · obtain rfl := Option.some.inj ho
          exact Or.inl ⟨by rfl, fun wx (hSw : wx.cell? ⟨b, o + i * 3 + 1, none⟩ = some (.int .i64 M)) => by go_simp⟩
        simp only [Act.put, List.setIfInBounds_toArray, List.set_cons_zero, List.set_cons_succ]
        refine take_at (i := 7) (d := some 93) (v := .pointer (some ⟨h, 0, none⟩)) rfl (by kernel_rfl) (by kernel_rfl) (by kernel_rfl) (fun _ _ _ h => h) (fun oi ho => ?_) (HS.out _ HQ.out.bel) ?_
        · obtain rfl := Option.some.inj ho
          exact Or.inl ⟨by rfl, fun wx (hSw : wx.cell? ⟨b, o + i * 3 + 1, none⟩ = some (.int .i64 M)) => by go_simp⟩
        simp only [Act.put, List.setIfInBounds_toArray, List.set_cons_zero, List.set_cons_succ]
        refine take_at (i := 8) (d := some 94) (v := V) rfl (by kernel_rfl) (by kernel_rfl) (by kernel_rfl) (fun _ _ _ h => h) (fun oi ho => ?_) (HS.out _ HQ.out.bel) ?_
        · obtain rfl := Option.some.inj ho
          exact Or.inl ⟨by rfl, fun wx (hSw : wx.cell? ⟨b, o + i * 3 + 1, none⟩ = some (.int .i64 M)) => by go_simp⟩
        simp only [Act.put, List.setIfInBounds_toArray, List.set_cons_zero, List.set_cons_succ]
        refine take_at (i := 9) (d := some 95) (v := .int .i64 (i : Int)) rfl (by kernel_rfl) (by kernel_rfl) (by kernel_rfl) (fun _ _ _ h => h) (fun oi ho => ?_) (HS.out _ HQ.out.bel) ?_
        · obtain rfl := Option.some.inj ho
          exact Or.inl ⟨by rfl, fun wx (hSw : wx.cell? ⟨b, o + i * 3 + 1, none⟩ = some (.int .i64 M)) => by go_simp⟩
        simp only [Act.put, List.setIfInBounds_toArray, List.set_cons_zero, List.set_cons_succ]
        refine take_at (i := 10) (d := some 96) (v := .pointer (some ⟨b, o + i * 3, none⟩)) rfl (by kernel_rfl) (by kernel_rfl) (by kernel_rfl) (fun _ _ _ h => h) (fun oi ho => ?_) (HS.out _ HQ.out.bel) ?_
        · obtain rfl := Option.some.inj ho
          exact Or.inl ⟨by rfl, fun wx (hSw : wx.cell? ⟨b, o + i * 3 + 1, none⟩ = some (.int .i64 M)) => by go_simp⟩
        simp only [Act.put, List.setIfInBounds_toArray, List.set_cons_zero, List.set_cons_succ]
        refine take_at (i := 11) (d := some 97) (v := .pointer (some ⟨b, o + i * 3 + 1, none⟩)) rfl (by kernel_rfl) (by kernel_rfl) (by kernel_rfl) (fun _ _ _ h => h) (fun oi ho => ?_) (HS.out _ HQ.out.bel) ?_
        · obtain rfl := Option.some.inj ho
          exact Or.inl ⟨by rfl, fun wx (hSw : wx.cell? ⟨b, o + i * 3 + 1, none⟩ = some (.int .i64 M)) => by go_simp⟩
        simp only [Act.put, List.setIfInBounds_toArray, List.set_cons_zero, List.set_cons_succ]
        refine take_at (i := 12) (d := some 98) (v := .int .i64 M) rfl (by kernel_rfl) (by kernel_rfl) (by kernel_rfl) (fun _ _ _ h => h) (fun oi ho => ?_) (HS.out _ HQ.out.bel) ?_
        · obtain rfl := Option.some.inj ho
          exact Or.inl ⟨by rfl, fun wx (hSw : wx.cell? ⟨b, o + i * 3 + 1, none⟩ = some (.int .i64 M)) => by go_simp⟩
        simp only [Act.put, List.setIfInBounds_toArray, List.set_cons_zero, List.set_cons_succ]
        refine ready_call (i := 6) (d := some 92) (f := 17) (args := #[.pointer (some ⟨g, 0, none⟩), .int .i64 M]) rfl (by kernel_rfl) (fun oi ho => ?_) ?_
        · obtain rfl := Option.some.inj ho
          exact ⟨by rfl, by go_simp⟩
        refine (HK.out.1 Wq HQ.out).mono ?_
        rintro e W3 ⟨rfl, hH3⟩
        have H3 := Lib.hid hH3
        clear hH3
        refine ⟨_, rfl, HS.out _ H3.out.bel, ?_⟩
        simp only [Act.put, List.setIfInBounds_toArray, List.set_cons_zero, List.set_cons_succ]
        refine ready_call (i := 13) (d := some 99) (f := 18) (args := #[.pointer (some ⟨h, 0, none⟩), .int .i64 M]) rfl (by kernel_rfl) (fun oi ho => ?_) ?_
        · obtain rfl := Option.some.inj ho
          exact ⟨by rfl, by go_simp⟩
        refine (HK.out.2 W3 H3.out).mono ?_
        rintro e W4 ⟨rfl, hH4⟩
        have H4 := Lib.hid hH4
        clear hH4
        refine ⟨_, rfl, HS.out _ H4.out.bel, ?_⟩
        simp only [Act.put, List.setIfInBounds_toArray, List.set_cons_zero, List.set_cons_succ]
        refine take_at (i := 14) (d := some 100) (v := .bool false) rfl (by kernel_rfl) (by kernel_rfl) (by kernel_rfl) (fun _ _ _ h => h) (fun oi ho => ?_) (HS.out _ H4.out.bel) ?_
        · obtain rfl := Option.some.inj ho
          exact Or.inl ⟨by rfl, fun wx (hSw : wx.cell? ⟨b, o + i * 3 + 1, none⟩ = some (.int .i64 M)) => by go_simp⟩
        simp only [Act.put, List.setIfInBounds_toArray, List.set_cons_zero, List.set_cons_succ]
        refine wpAnyH_done (by kernel_rfl) ?_ _
        refine NoPanic.normal ?_
        have hfy : y.length ≤ m := H4.out.b.fits
        have hlenY : ∀ w', (Builtin.len_ #[9] 3 #[S y]).run Try.prog w' = .ok (.int .i64 (y.length : Int)) w' := fun w' => run_len_S (P := Try.prog) Try.underlying9 3 y w'
        have cy : W4.cell? ⟨h, 1, none⟩ = some (S y) := H4.out.r.c1
        have hcl : Hid (∀ W', Pair w g h m y W' → Calls Try.prog 20 #[.pointer (some ⟨g, 0, none⟩)] W' fun e w' => e = .returned (.int .i64 (y.length : Int)) ∧ Drawn W' w') := Lib.hid fun W' hP => len_any g _ true m y W' hP.b
        obtain ⟨r, hr⟩ : ∃ r, r = m - y.length := ⟨_, rfl⟩
        have hcr : Hid (∀ W', Pair w g h m y W' → Calls Try.prog 13 #[.pointer (some ⟨g, 0, none⟩)] W' fun e w' => e = .returned (.int .i64 (r : Int)) ∧ Drawn W' w') := Lib.hid fun W' hP => hr ▸ room_any g _ true m y W' hP.b
        have hwr : IntKind.i64.wrap ((m : Int) - (y.length : Int)) = (r : Int) := by have := HMo.out; rw [IntKind.wrap_i64]; omega
        clear hr hfy
        generalize y.length = Y at *
        go_wp2
        go_quiet (first
          | (go_at_call 20; exact Calls.quiet_of (hcl.out _ (H4.out.drawn ⟨_, rfl⟩)))
          | (go_at_call 13; exact Calls.quiet_of (hcr.out _ (H4.out.drawn ⟨_, rfl⟩))))
        go_wp2
        exact ⟨⟨i + 1, y, by omega, by go_num, H4.out.drawn ⟨_, rfl⟩⟩, by simp [intOf]; omega⟩
      by_cases hD3 : D = 3
      · subst hD3
        clear hmo hfx hus hD0 hD1 hD2
        obtain ⟨R, y, c1, c2⟩ := arm_find (w := w) (g := g) (h := h) u HC.out.2.2.1 HP.out.b.fits HMo.out HMX.out
        have HK := Lib.hid (And.intro c1 c2)
        clear c1 c2
        have HS : Hid (∀ W', Below w.heap.size w W' → W'.cell? ⟨b, o + i * 3 + 2, none⟩ = some (S u)) := Lib.hid fun W' hB => HSS.out.2 W' hB
        go_wp2
        obtain ⟨Wq, hWq⟩ : ∃ Wq, Wq = wr.drew := ⟨_, rfl⟩
        have HQ := Lib.hid (show Pair w g h m x Wq from HP.out.drawn ⟨1, hWq⟩)
        refine wp_region_noPanic ?_
        refine wp_region_held_drew (S := fun wx => wx.cell? ⟨b, o + i * 3 + 2, none⟩ = some (S u)) (by kernel_rfl) (by have := HS.out _ HQ.out.bel; rw [hWq] at this; exact this) (fun _ => ?_)
        rw [← hWq]
        clear hWq
        refine take_at (i := 0) (d := some 103) (v := .pointer (some ⟨g, 0, none⟩)) rfl (by kernel_rfl) (by kernel_rfl) (by kernel_rfl) (fun _ _ _ h => h) (fun oi ho => ?_) (HS.out _ HQ.out.bel) ?_
        · obtain rfl := Option.some.inj ho
          exact Or.inl ⟨by rfl, fun wx (hSw : wx.cell? ⟨b, o + i * 3 + 2, none⟩ = some (S u)) => by go_simp⟩
        simp only [Act.put, List.setIfInBounds_toArray, List.set_cons_zero, List.set_cons_succ]
        refine take_at (i := 1) (d := some 104) (v := V) rfl (by kernel_rfl) (by kernel_rfl) (by kernel_rfl) (fun _ _ _ h => h) (fun oi ho => ?_) (HS.out _ HQ.out.bel) ?_
        · obtain rfl := Option.some.inj ho
          exact Or.inl ⟨by rfl, fun wx (hSw : wx.cell? ⟨b, o + i * 3 + 2, none⟩ = some (S u)) => by go_simp⟩
        simp only [Act.put, List.setIfInBounds_toArray, List.set_cons_zero, List.set_cons_succ]
        refine take_at (i := 2) (d := some 105) (v := .int .i64 (i : Int)) rfl (by kernel_rfl) (by kernel_rfl) (by kernel_rfl) (fun _ _ _ h => h) (fun oi ho => ?_) (HS.out _ HQ.out.bel) ?_
        · obtain rfl := Option.some.inj ho
          exact Or.inl ⟨by rfl, fun wx (hSw : wx.cell? ⟨b, o + i * 3 + 2, none⟩ = some (S u)) => by go_simp⟩
        simp only [Act.put, List.setIfInBounds_toArray, List.set_cons_zero, List.set_cons_succ]
        refine take_at (i := 3) (d := some 106) (v := .pointer (some ⟨b, o + i * 3, none⟩)) rfl (by kernel_rfl) (by kernel_rfl) (by kernel_rfl) (fun _ _ _ h => h) (fun oi ho => ?_) (HS.out _ HQ.out.bel) ?_
        · obtain rfl := Option.some.inj ho
          exact Or.inl ⟨by rfl, fun wx (hSw : wx.cell? ⟨b, o + i * 3 + 2, none⟩ = some (S u)) => by go_simp⟩
        simp only [Act.put, List.setIfInBounds_toArray, List.set_cons_zero, List.set_cons_succ]
        refine take_at (i := 4) (d := some 107) (v := .pointer (some ⟨b, o + i * 3 + 2, none⟩)) rfl (by kernel_rfl) (by kernel_rfl) (by kernel_rfl) (fun _ _ _ h => h) (fun oi ho => ?_) (HS.out _ HQ.out.bel) ?_
        · obtain rfl := Option.some.inj ho
          exact Or.inl ⟨by rfl, fun wx (hSw : wx.cell? ⟨b, o + i * 3 + 2, none⟩ = some (S u)) => by go_simp⟩
        simp only [Act.put, List.setIfInBounds_toArray, List.set_cons_zero, List.set_cons_succ]
        refine take_at (i := 5) (d := some 108) (v := S u) rfl (by kernel_rfl) (by kernel_rfl) (by kernel_rfl) (fun _ _ _ h => h) (fun oi ho => ?_) (HS.out _ HQ.out.bel) ?_
        · obtain rfl := Option.some.inj ho
          exact Or.inl ⟨by rfl, fun wx (hSw : wx.cell? ⟨b, o + i * 3 + 2, none⟩ = some (S u)) => by go_simp⟩
        simp only [Act.put, List.setIfInBounds_toArray, List.set_cons_zero, List.set_cons_succ]
        refine take_at (i := 7) (d := some 110) (v := .pointer (some ⟨h, 0, none⟩)) rfl (by kernel_rfl) (by kernel_rfl) (by kernel_rfl) (fun _ _ _ h => h) (fun oi ho => ?_) (HS.out _ HQ.out.bel) ?_
        · obtain rfl := Option.some.inj ho
          exact Or.inl ⟨by rfl, fun wx (hSw : wx.cell? ⟨b, o + i * 3 + 2, none⟩ = some (S u)) => by go_simp⟩
        simp only [Act.put, List.setIfInBounds_toArray, List.set_cons_zero, List.set_cons_succ]
        refine take_at (i := 8) (d := some 111) (v := V) rfl (by kernel_rfl) (by kernel_rfl) (by kernel_rfl) (fun _ _ _ h => h) (fun oi ho => ?_) (HS.out _ HQ.out.bel) ?_
        · obtain rfl := Option.some.inj ho
          exact Or.inl ⟨by rfl, fun wx (hSw : wx.cell? ⟨b, o + i * 3 + 2, none⟩ = some (S u)) => by go_simp⟩
        simp only [Act.put, List.setIfInBounds_toArray, List.set_cons_zero, List.set_cons_succ]
        refine take_at (i := 9) (d := some 112) (v := .int .i64 (i : Int)) rfl (by kernel_rfl) (by kernel_rfl) (by kernel_rfl) (fun _ _ _ h => h) (fun oi ho => ?_) (HS.out _ HQ.out.bel) ?_
        · obtain rfl := Option.some.inj ho
          exact Or.inl ⟨by rfl, fun wx (hSw : wx.cell? ⟨b, o + i * 3 + 2, none⟩ = some (S u)) => by go_simp⟩
        simp only [Act.put, List.setIfInBounds_toArray, List.set_cons_zero, List.set_cons_succ]
        refine take_at (i := 10) (d := some 113) (v := .pointer (some ⟨b, o + i * 3, none⟩)) rfl (by kernel_rfl) (by kernel_rfl) (by kernel_rfl) (fun _ _ _ h => h) (fun oi ho => ?_) (HS.out _ HQ.out.bel) ?_
        · obtain rfl := Option.some.inj ho
          exact Or.inl ⟨by rfl, fun wx (hSw : wx.cell? ⟨b, o + i * 3 + 2, none⟩ = some (S u)) => by go_simp⟩
        simp only [Act.put, List.setIfInBounds_toArray, List.set_cons_zero, List.set_cons_succ]
        refine take_at (i := 11) (d := some 114) (v := .pointer (some ⟨b, o + i * 3 + 2, none⟩)) rfl (by kernel_rfl) (by kernel_rfl) (by kernel_rfl) (fun _ _ _ h => h) (fun oi ho => ?_) (HS.out _ HQ.out.bel) ?_
        · obtain rfl := Option.some.inj ho
          exact Or.inl ⟨by rfl, fun wx (hSw : wx.cell? ⟨b, o + i * 3 + 2, none⟩ = some (S u)) => by go_simp⟩
        simp only [Act.put, List.setIfInBounds_toArray, List.set_cons_zero, List.set_cons_succ]
        refine take_at (i := 12) (d := some 115) (v := S u) rfl (by kernel_rfl) (by kernel_rfl) (by kernel_rfl) (fun _ _ _ h => h) (fun oi ho => ?_) (HS.out _ HQ.out.bel) ?_
        · obtain rfl := Option.some.inj ho
          exact Or.inl ⟨by rfl, fun wx (hSw : wx.cell? ⟨b, o + i * 3 + 2, none⟩ = some (S u)) => by go_simp⟩
        simp only [Act.put, List.setIfInBounds_toArray, List.set_cons_zero, List.set_cons_succ]
        refine ready_call (i := 6) (d := some 109) (f := 10) (args := #[.pointer (some ⟨g, 0, none⟩), S u]) rfl (by kernel_rfl) (fun oi ho => ?_) ?_
        · obtain rfl := Option.some.inj ho
          exact ⟨by rfl, by go_simp⟩
        refine (HK.out.1 Wq HQ.out).mono ?_
        rintro e W3 ⟨rfl, hH3⟩
        have H3 := Lib.hid hH3
        clear hH3
        refine ⟨_, rfl, HS.out _ H3.out.bel, ?_⟩
        simp only [Act.put, List.setIfInBounds_toArray, List.set_cons_zero, List.set_cons_succ]
        refine ready_call (i := 13) (d := some 116) (f := 19) (args := #[.pointer (some ⟨h, 0, none⟩), S u]) rfl (by kernel_rfl) (fun oi ho => ?_) ?_
        · obtain rfl := Option.some.inj ho
          exact ⟨by rfl, by go_simp⟩
        refine (HK.out.2 W3 H3.out).mono ?_
        rintro e W4 ⟨rfl, hH4⟩
        have H4 := Lib.hid hH4
        clear hH4
        refine ⟨_, rfl, HS.out _ H4.out.bel, ?_⟩
        simp only [Act.put, List.setIfInBounds_toArray, List.set_cons_zero, List.set_cons_succ]
        refine take_at (i := 14) (d := some 117) (v := .bool false) rfl (by kernel_rfl) (by kernel_rfl) (by kernel_rfl) (fun _ _ _ h => h) (fun oi ho => ?_) (HS.out _ H4.out.bel) ?_
        · obtain rfl := Option.some.inj ho
          exact Or.inl ⟨by rfl, fun wx (hSw : wx.cell? ⟨b, o + i * 3 + 2, none⟩ = some (S u)) => by go_simp⟩
        simp only [Act.put, List.setIfInBounds_toArray, List.set_cons_zero, List.set_cons_succ]
        refine wpAnyH_done (by kernel_rfl) ?_ _
        refine NoPanic.normal ?_
        have hfy : y.length ≤ m := H4.out.b.fits
        have hlenY : ∀ w', (Builtin.len_ #[9] 3 #[S y]).run Try.prog w' = .ok (.int .i64 (y.length : Int)) w' := fun w' => run_len_S (P := Try.prog) Try.underlying9 3 y w'
        have cy : W4.cell? ⟨h, 1, none⟩ = some (S y) := H4.out.r.c1
        have hcl : Hid (∀ W', Pair w g h m y W' → Calls Try.prog 20 #[.pointer (some ⟨g, 0, none⟩)] W' fun e w' => e = .returned (.int .i64 (y.length : Int)) ∧ Drawn W' w') := Lib.hid fun W' hP => len_any g _ true m y W' hP.b
        obtain ⟨r, hr⟩ : ∃ r, r = m - y.length := ⟨_, rfl⟩
        have hcr : Hid (∀ W', Pair w g h m y W' → Calls Try.prog 13 #[.pointer (some ⟨g, 0, none⟩)] W' fun e w' => e = .returned (.int .i64 (r : Int)) ∧ Drawn W' w') := Lib.hid fun W' hP => hr ▸ room_any g _ true m y W' hP.b
        have hwr : IntKind.i64.wrap ((m : Int) - (y.length : Int)) = (r : Int) := by have := HMo.out; rw [IntKind.wrap_i64]; omega
        clear hr hfy
        generalize y.length = Y at *
        go_wp2
        go_quiet (first
          | (go_at_call 20; exact Calls.quiet_of (hcl.out _ (H4.out.drawn ⟨_, rfl⟩)))
          | (go_at_call 13; exact Calls.quiet_of (hcr.out _ (H4.out.drawn ⟨_, rfl⟩))))
        go_wp2
        exact ⟨⟨i + 1, y, by omega, by go_num, H4.out.drawn ⟨_, rfl⟩⟩, by simp [intOf]; omega⟩
      · have q0 : (D == 0) = false := by rw [beq_eq_false_iff_ne]; exact hD0
        have q1 : (D == 1) = false := by rw [beq_eq_false_iff_ne]; exact hD1
        have q2 : (D == 2) = false := by rw [beq_eq_false_iff_ne]; exact hD2
        have q3 : (D == 3) = false := by rw [beq_eq_false_iff_ne]; exact hD3
        clear hD0 hD1 hD2 hD3 hmo hfx hus
        have hfy : x.length ≤ m := HP.out.b.fits
        have hlenY : ∀ w', (Builtin.len_ #[9] 3 #[S x]).run Try.prog w' = .ok (.int .i64 (x.length : Int)) w' := fun w' => run_len_S (P := Try.prog) Try.underlying9 3 x w'
        have cy : wr.cell? ⟨h, 1, none⟩ = some (S x) := HP.out.r.c1
        have hcl : Hid (∀ W', Pair w g h m x W' → Calls Try.prog 20 #[.pointer (some ⟨g, 0, none⟩)] W' fun e w' => e = .returned (.int .i64 (x.length : Int)) ∧ Drawn W' w') := Lib.hid fun W' hP => len_any g _ true m x W' hP.b
        obtain ⟨r, hr⟩ : ∃ r, r = m - x.length := ⟨_, rfl⟩
        have hcr : Hid (∀ W', Pair w g h m x W' → Calls Try.prog 13 #[.pointer (some ⟨g, 0, none⟩)] W' fun e w' => e = .returned (.int .i64 (r : Int)) ∧ Drawn W' w') := Lib.hid fun W' hP => hr ▸ room_any g _ true m x W' hP.b
        have hwr : IntKind.i64.wrap ((m : Int) - (x.length : Int)) = (r : Int) := by have := HMo.out; rw [IntKind.wrap_i64]; omega
        clear hr hfy
        generalize x.length = Y at *
        go_wp2
        go_quiet (first
          | (go_at_call 20; exact Calls.quiet_of (hcl.out _ (HP.out.drawn ⟨_, rfl⟩)))
          | (go_at_call 13; exact Calls.quiet_of (hcr.out _ (HP.out.drawn ⟨_, rfl⟩))))
        go_wp2
        exact ⟨⟨i + 1, x, by omega, by go_num, HP.out.drawn ⟨_, rfl⟩⟩, by simp [intOf]; omega⟩
    · have hb4 : decide ((i : Int) < (n : Int)) = false := decide_eq_false (by omega)
      have hb5 : decide (i < n) = false := decide_eq_false hlt
      go_wp2
      go_ret
      exact ⟨rfl, HP.out.bel⟩
end Go.Proofs.Ytgkinbichiahjaa
