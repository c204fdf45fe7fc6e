/- The landed package of chains: Right. (mkkp7.py writes it.) -/
import Derived.Test.YtbnlkjoblngakaaDoorKp6
namespace Go.Proofs.YtbnlkjoblngakaaDoor
open Go.RowKit Go.Shelf
attribute [local go_sem] store_one S_match S_store

theorem right_k (kd sn : Int) (nm vl : Tx) : (kd = 1 → rightS ⟨kd, nm, vl, sn⟩ = (((sn == 0) && (tokF nm && plainV vl)) && !(ownN nm))) ∧ (kd = 2 → rightS ⟨kd, nm, vl, sn⟩ = ((sn == 0) && tokF nm)) ∧
    (kd = 3 → rightS ⟨kd, nm, vl, sn⟩ = ((decide (0 ≤ sn) && (nm == [])) && (vl == []))) ∧ (kd = 4 → rightS ⟨kd, nm, vl, sn⟩ = (((sn == 0) && (nm == [])) && (decide (2 ≤ vl.length) && vl[0]? == some 47 && vl[vl.length - 1]? != some 47))) ∧
    (kd = 5 → rightS ⟨kd, nm, vl, sn⟩ = ((((sn == 0) && tokF nm) && tokF vl) && !(ownN vl))) ∧ (kd ≠ 1 → kd ≠ 2 → kd ≠ 3 → kd ≠ 4 → kd ≠ 5 → rightS ⟨kd, nm, vl, sn⟩ = false) := by
  refine ⟨fun h => ?_, fun h => ?_, fun h => ?_, fun h => ?_, fun h => ?_, fun h1 h2 h3 h4 h5 => ?_⟩
  · subst h; show (tokF nm && plainV vl && !ownN nm && sn == 0) = _
    cases (sn == 0) <;> simp
  · subst h; show (tokF nm && sn == 0) = _
    cases (sn == 0) <;> simp
  · subst h; rfl
  · subst h; show (decide (2 ≤ vl.length) && vl[0]? == some 47 && vl[vl.length - 1]? != some 47 && nm == [] && sn == 0) = _
    cases (sn == 0) <;> cases (nm == []) <;> simp
  · subst h; show (tokF nm && tokF vl && !ownN vl && sn == 0) = _
    cases (sn == 0) <;> simp
  · unfold rightS; dsimp only; rw [if_neg h1, if_neg h2, if_neg h3, if_neg h4, if_neg h5]
set_option maxRecDepth 100000 in
set_option maxHeartbeats 2000000 in
theorem rightL_any (s : Stp) (w : World) (hln : s.name.length ≤ 100) (hlv : s.val.length ≤ 100) : Calls Tryd.prog 12 #[stV s] w fun e w' => e = .returned (.bool (rightS s)) ∧ Below w.heap.size w w' := by
  obtain ⟨kd, nm, vl, sn⟩ := s
  unfold stV stC
  dsimp only at hln hlv ⊢
  obtain ⟨r1, r2, r3, r4, r5, r6⟩ := right_k kd sn nm vl
  obtain ⟨R, hR⟩ : ∃ R, R = rightS ⟨kd, nm, vl, sn⟩ := ⟨_, rfl⟩
  rw [← hR] at r1 r2 r3 r4 r5 r6 ⊢
  obtain ⟨W1, hW1⟩ : ∃ W, W = w.alloc (.cells #[.int .i64 kd, S nm, S vl, .int .i64 sn] 35) := ⟨_, rfl⟩
  have H1 : Hid (Row W1 w.heap.size #[.int .i64 kd, S nm, S vl, .int .i64 sn] 35 ∧ Below w.heap.size w W1) := Lib.hid (by rw [hW1]; exact ⟨row_new w _ _, (Below.refl _ _).alloc (Nat.le_refl _) _⟩)
  have gnm : ∀ x y, eqGuard .eql 9 x y (S nm) (.string ⟨#[]⟩) = pure () := fun _ _ => rfl
  have gvl : ∀ x y, eqGuard .eql 9 x y (S vl) (.string ⟨#[]⟩) = pure () := fun _ _ => rfl
  have enm : binOp .eql 9 (S nm) (.string ⟨#[]⟩) = pure (.bool (nm == [])) := eql_S 9 nm []
  have evl : binOp .eql 9 (S vl) (.string ⟨#[]⟩) = pure (.bool (vl == [])) := eql_S 9 vl []
  clear hR
  by_cases k1 : kd = 1
  · have HR := Lib.hid (r1 k1)
    have g1 : (kd == 1) = true := by rw [beq_iff_eq]; omega
    clear r1 r2 r3 r4 r5 r6 k1
    rcases Bool.eq_false_or_eq_true ((sn == 0)) with hb | hb
    · have hb0 : (sn == 0) = true := hb
      rw [hb] at HR
      clear hb
      go_enter Tryd.func12, Tryd.ntmps12
      have HC := Lib.hid (isfield_any nm vl hln hlv W1)
      rw [hW1] at HC
      go_wp2_with fail
      refine HC.out.mono ?_
      rintro e V1 ⟨rfl, hB⟩
      rw [← hW1] at hB
      have hrow := H1.out.1.below hB H1.out.1.lt
      have x0 : V1.cell? ⟨w.heap.size, 0, none⟩ = some (.int .i64 kd) := cell_of_row V1 _ 0 _ _ (0, 0) hrow
      have x1 : V1.cell? ⟨w.heap.size, 1, none⟩ = some (S nm) := cell_of_row V1 _ 1 _ _ (0, 0) hrow
      have x2 : V1.cell? ⟨w.heap.size, 2, none⟩ = some (S vl) := cell_of_row V1 _ 2 _ _ (0, 0) hrow
      have x3 : V1.cell? ⟨w.heap.size, 3, none⟩ = some (.int .i64 sn) := cell_of_row V1 _ 3 _ _ (0, 0) hrow
      have HV1 := Lib.hid (And.intro hrow (H1.out.2.trans (hB.mono H1.out.2.size)))
      clear hB hrow HC
      rcases Bool.eq_false_or_eq_true ((tokF nm && plainV vl)) with hb | hb
      · rw [hb] at HR ⊢
        clear hb
        have HC := Lib.hid (isown_any nm hln V1)
        go_wp2_with fail
        refine HC.out.mono ?_
        rintro e V2 ⟨rfl, hB⟩
        have hrow := HV1.out.1.below hB HV1.out.1.lt
        have x0 : V2.cell? ⟨w.heap.size, 0, none⟩ = some (.int .i64 kd) := cell_of_row V2 _ 0 _ _ (0, 0) hrow
        have x1 : V2.cell? ⟨w.heap.size, 1, none⟩ = some (S nm) := cell_of_row V2 _ 1 _ _ (0, 0) hrow
        have x2 : V2.cell? ⟨w.heap.size, 2, none⟩ = some (S vl) := cell_of_row V2 _ 2 _ _ (0, 0) hrow
        have x3 : V2.cell? ⟨w.heap.size, 3, none⟩ = some (.int .i64 sn) := cell_of_row V2 _ 3 _ _ (0, 0) hrow
        have HV2 := Lib.hid (And.intro hrow (HV1.out.2.trans (hB.mono HV1.out.2.size)))
        clear hB hrow HC
        rcases Bool.eq_false_or_eq_true (ownN nm) with hb | hb
        · rw [hb] at HR ⊢
          clear hb
          have HR : Hid (R = false) := Lib.hid (by rw [HR.out]; simp)
          go_wp2
          go_ret
          exact ⟨by rw [HR.out]; rfl, HV2.out.2⟩
        · rw [hb] at HR ⊢
          clear hb
          have HR : Hid (R = true) := Lib.hid (by rw [HR.out]; simp)
          go_wp2
          go_ret
          exact ⟨by rw [HR.out]; rfl, HV2.out.2⟩
      · rw [hb] at HR ⊢
        clear hb
        have HR : Hid (R = false) := Lib.hid (by rw [HR.out]; simp)
        go_wp2
        go_ret
        exact ⟨by rw [HR.out]; rfl, HV1.out.2⟩
    · have hb0 : (sn == 0) = false := hb
      rw [hb] at HR
      clear hb
      have HR : Hid (R = false) := Lib.hid (by rw [HR.out]; simp)
      go_enter Tryd.func12, Tryd.ntmps12
      go_wp2
      go_ret
      exact ⟨by rw [HR.out]; rfl, by rw [← hW1]; exact H1.out.2⟩
  by_cases k2 : kd = 2
  · have HR := Lib.hid (r2 k2)
    have g1 : (kd == 1) = false := by rw [beq_eq_false_iff_ne]; omega
    have g2 : (kd == 2) = true := by rw [beq_iff_eq]; omega
    clear r1 r2 r3 r4 r5 r6 k1 k2
    rcases Bool.eq_false_or_eq_true ((sn == 0)) with hb | hb
    · have hb0 : (sn == 0) = true := hb
      rw [hb] at HR
      clear hb
      go_enter Tryd.func12, Tryd.ntmps12
      have HC := Lib.hid (token15_any nm (by omega) W1)
      rw [hW1] at HC
      go_wp2_with fail
      refine HC.out.mono ?_
      rintro e wz ⟨rfl, hw⟩
      rw [hw]
      clear hw wz HC
      rcases Bool.eq_false_or_eq_true (tokF nm) with hb | hb
      · rw [hb] at HR ⊢
        clear hb
        have HR : Hid (R = true) := Lib.hid (by rw [HR.out]; simp)
        go_wp2
        go_ret
        exact ⟨by rw [HR.out]; rfl, by rw [← hW1]; exact H1.out.2⟩
      · rw [hb] at HR ⊢
        clear hb
        have HR : Hid (R = false) := Lib.hid (by rw [HR.out]; simp)
        go_wp2
        go_ret
        exact ⟨by rw [HR.out]; rfl, by rw [← hW1]; exact H1.out.2⟩
    · have hb0 : (sn == 0) = false := hb
      rw [hb] at HR
      clear hb
      have HR : Hid (R = false) := Lib.hid (by rw [HR.out]; simp)
      go_enter Tryd.func12, Tryd.ntmps12
      go_wp2
      go_ret
      exact ⟨by rw [HR.out]; rfl, by rw [← hW1]; exact H1.out.2⟩
  by_cases k3 : kd = 3
  · have HR := Lib.hid (r3 k3)
    have g1 : (kd == 1) = false := by rw [beq_eq_false_iff_ne]; omega
    have g2 : (kd == 2) = false := by rw [beq_eq_false_iff_ne]; omega
    have g3 : (kd == 3) = true := by rw [beq_iff_eq]; omega
    clear r1 r2 r3 r4 r5 r6 k1 k2 k3
    rcases Bool.eq_false_or_eq_true (decide (0 ≤ sn)) with hb | hb
    · have hb0 : decide (0 ≤ sn) = true := hb
      rw [hb] at HR
      clear hb
      rcases Bool.eq_false_or_eq_true ((nm == [])) with hb | hb
      · rw [hb] at enm
        rw [hb] at HR
        clear hb
        rcases Bool.eq_false_or_eq_true ((vl == [])) with hb | hb
        · rw [hb] at evl
          rw [hb] at HR
          clear hb
          go_enter Tryd.func12, Tryd.ntmps12
          go_wp2
          go_ret
          exact ⟨by rw [HR.out]; rfl, by rw [← hW1]; exact H1.out.2⟩
        · rw [hb] at evl
          rw [hb] at HR
          clear hb
          have HR : Hid (R = false) := Lib.hid (by rw [HR.out]; simp)
          go_enter Tryd.func12, Tryd.ntmps12
          go_wp2
          go_ret
          exact ⟨by rw [HR.out]; rfl, by rw [← hW1]; exact H1.out.2⟩
      · rw [hb] at enm
        rw [hb] at HR
        clear hb
        have HR : Hid (R = false) := Lib.hid (by rw [HR.out]; simp)
        go_enter Tryd.func12, Tryd.ntmps12
        go_wp2
        go_ret
        exact ⟨by rw [HR.out]; rfl, by rw [← hW1]; exact H1.out.2⟩
    · have hb0 : decide (0 ≤ sn) = false := hb
      rw [hb] at HR
      clear hb
      have HR : Hid (R = false) := Lib.hid (by rw [HR.out]; simp)
      go_enter Tryd.func12, Tryd.ntmps12
      go_wp2
      go_ret
      exact ⟨by rw [HR.out]; rfl, by rw [← hW1]; exact H1.out.2⟩
  by_cases k4 : kd = 4
  · have HR := Lib.hid (r4 k4)
    have g1 : (kd == 1) = false := by rw [beq_eq_false_iff_ne]; omega
    have g2 : (kd == 2) = false := by rw [beq_eq_false_iff_ne]; omega
    have g3 : (kd == 3) = false := by rw [beq_eq_false_iff_ne]; omega
    have g4 : (kd == 4) = true := by rw [beq_iff_eq]; omega
    clear r1 r2 r3 r4 r5 r6 k1 k2 k3 k4
    rcases Bool.eq_false_or_eq_true ((sn == 0)) with hb | hb
    · have hb0 : (sn == 0) = true := hb
      rw [hb] at HR
      clear hb
      rcases Bool.eq_false_or_eq_true ((nm == [])) with hb | hb
      · rw [hb] at enm
        rw [hb] at HR
        clear hb
        go_enter Tryd.func12, Tryd.ntmps12
        have HC := Lib.hid (isprefix_any vl hlv W1)
        rw [hW1] at HC
        go_wp2_with fail
        refine HC.out.mono ?_
        rintro e wz ⟨rfl, hw⟩
        rw [hw]
        clear hw wz HC
        rcases Bool.eq_false_or_eq_true ((decide (2 ≤ vl.length) && vl[0]? == some 47 && vl[vl.length - 1]? != some 47)) with hb | hb
        · rw [hb] at HR ⊢
          clear hb
          have HR : Hid (R = true) := Lib.hid (by rw [HR.out]; simp)
          go_wp2
          go_ret
          exact ⟨by rw [HR.out]; rfl, by rw [← hW1]; exact H1.out.2⟩
        · rw [hb] at HR ⊢
          clear hb
          have HR : Hid (R = false) := Lib.hid (by rw [HR.out]; simp)
          go_wp2
          go_ret
          exact ⟨by rw [HR.out]; rfl, by rw [← hW1]; exact H1.out.2⟩
      · rw [hb] at enm
        rw [hb] at HR
        clear hb
        have HR : Hid (R = false) := Lib.hid (by rw [HR.out]; simp)
        go_enter Tryd.func12, Tryd.ntmps12
        go_wp2
        go_ret
        exact ⟨by rw [HR.out]; rfl, by rw [← hW1]; exact H1.out.2⟩
    · have hb0 : (sn == 0) = false := hb
      rw [hb] at HR
      clear hb
      have HR : Hid (R = false) := Lib.hid (by rw [HR.out]; simp)
      go_enter Tryd.func12, Tryd.ntmps12
      go_wp2
      go_ret
      exact ⟨by rw [HR.out]; rfl, by rw [← hW1]; exact H1.out.2⟩
  by_cases k5 : kd = 5
  · have HR := Lib.hid (r5 k5)
    have g1 : (kd == 1) = false := by rw [beq_eq_false_iff_ne]; omega
    have g2 : (kd == 2) = false := by rw [beq_eq_false_iff_ne]; omega
    have g3 : (kd == 3) = false := by rw [beq_eq_false_iff_ne]; omega
    have g4 : (kd == 4) = false := by rw [beq_eq_false_iff_ne]; omega
    have g5 : (kd == 5) = true := by rw [beq_iff_eq]; omega
    clear r1 r2 r3 r4 r5 r6 k1 k2 k3 k4 k5
    rcases Bool.eq_false_or_eq_true ((sn == 0)) with hb | hb
    · have hb0 : (sn == 0) = true := hb
      rw [hb] at HR
      clear hb
      go_enter Tryd.func12, Tryd.ntmps12
      have HC := Lib.hid (token15_any nm (by omega) W1)
      rw [hW1] at HC
      go_wp2_with fail
      refine HC.out.mono ?_
      rintro e wz ⟨rfl, hw⟩
      rw [hw]
      clear hw wz HC
      rcases Bool.eq_false_or_eq_true (tokF nm) with hb | hb
      · rw [hb] at HR ⊢
        clear hb
        have HC := Lib.hid (token15_any vl (by omega) W1)
        rw [hW1] at HC
        go_wp2_with fail
        refine HC.out.mono ?_
        rintro e wz ⟨rfl, hw⟩
        rw [hw]
        clear hw wz HC
        rcases Bool.eq_false_or_eq_true (tokF vl) with hb | hb
        · rw [hb] at HR ⊢
          clear hb
          have HC := Lib.hid (isown_any vl hlv W1)
          rw [hW1] at HC
          go_wp2_with fail
          refine HC.out.mono ?_
          rintro e V3 ⟨rfl, hB⟩
          rw [← hW1] at hB
          have hrow := H1.out.1.below hB H1.out.1.lt
          have x0 : V3.cell? ⟨w.heap.size, 0, none⟩ = some (.int .i64 kd) := cell_of_row V3 _ 0 _ _ (0, 0) hrow
          have x1 : V3.cell? ⟨w.heap.size, 1, none⟩ = some (S nm) := cell_of_row V3 _ 1 _ _ (0, 0) hrow
          have x2 : V3.cell? ⟨w.heap.size, 2, none⟩ = some (S vl) := cell_of_row V3 _ 2 _ _ (0, 0) hrow
          have x3 : V3.cell? ⟨w.heap.size, 3, none⟩ = some (.int .i64 sn) := cell_of_row V3 _ 3 _ _ (0, 0) hrow
          have HV3 := Lib.hid (And.intro hrow (H1.out.2.trans (hB.mono H1.out.2.size)))
          clear hB hrow HC
          rcases Bool.eq_false_or_eq_true (ownN vl) with hb | hb
          · rw [hb] at HR ⊢
            clear hb
            have HR : Hid (R = false) := Lib.hid (by rw [HR.out]; simp)
            go_wp2
            go_ret
            exact ⟨by rw [HR.out]; rfl, HV3.out.2⟩
          · rw [hb] at HR ⊢
            clear hb
            have HR : Hid (R = true) := Lib.hid (by rw [HR.out]; simp)
            go_wp2
            go_ret
            exact ⟨by rw [HR.out]; rfl, HV3.out.2⟩
        · rw [hb] at HR ⊢
          clear hb
          have HR : Hid (R = false) := Lib.hid (by rw [HR.out]; simp)
          go_wp2
          go_ret
          exact ⟨by rw [HR.out]; rfl, by rw [← hW1]; exact H1.out.2⟩
      · rw [hb] at HR ⊢
        clear hb
        have HR : Hid (R = false) := Lib.hid (by rw [HR.out]; simp)
        go_wp2
        go_ret
        exact ⟨by rw [HR.out]; rfl, by rw [← hW1]; exact H1.out.2⟩
    · have hb0 : (sn == 0) = false := hb
      rw [hb] at HR
      clear hb
      have HR : Hid (R = false) := Lib.hid (by rw [HR.out]; simp)
      go_enter Tryd.func12, Tryd.ntmps12
      go_wp2
      go_ret
      exact ⟨by rw [HR.out]; rfl, by rw [← hW1]; exact H1.out.2⟩
  have HR := Lib.hid (r6 k1 k2 k3 k4 k5)
  have g1 : (kd == 1) = false := by rw [beq_eq_false_iff_ne]; omega
  have g2 : (kd == 2) = false := by rw [beq_eq_false_iff_ne]; omega
  have g3 : (kd == 3) = false := by rw [beq_eq_false_iff_ne]; omega
  have g4 : (kd == 4) = false := by rw [beq_eq_false_iff_ne]; omega
  have g5 : (kd == 5) = false := by rw [beq_eq_false_iff_ne]; omega
  clear r1 r2 r3 r4 r5 r6 k1 k2 k3 k4 k5
  go_enter Tryd.func12, Tryd.ntmps12
  go_wp2
  go_ret
  exact ⟨by rw [HR.out]; rfl, by rw [← hW1]; exact H1.out.2⟩
end Go.Proofs.YtbnlkjoblngakaaDoor
