/- RouterKnown (stage 14) walked, over any package of routers. (mkuk.py writes it.) -/
import Derived.Test.YtendejpkdjkmnaaGreatDoorJg
import Derived.Deep.DeepCutAuto
namespace Go.Proofs.YtendejpkdjkmnaaGreatDoor
open Go.RowKit
attribute [local go_sem] store_one S_match S_store

set_option maxRecDepth 100000 in
set_option maxHeartbeats 4000000 in
theorem known14_any {w : World} {RS : World → Nat → List Rt → Prop} (C : RouterI w RS) : Calls Tryz.prog 6 #[] w fun e w' => e = .returned (.bool true) ∧ Below w.heap.size w w' := by
  have HC := Lib.hid C
  clear C
  have HR := Lib.hid (routes14_any w)
  go_enter Tryz.func6, Tryz.ntmps6
  go_wp2_with fail
  refine HR.out.mono ?_
  rintro e W1 ⟨b1, rfl, hA1, hB1⟩
  have HN := Lib.hid (HC.out.new wkL _ b1 0 W1 hB1 hA1 wkL_small)
  have H1 := Lib.hid hB1
  clear hB1 hA1 HR
  go_wp2_with fail
  refine HN.out.mono ?_
  rintro e X0 ⟨hB2, h2⟩
  rcases h2 with ⟨h2, _⟩ | ⟨_, g, rfl, hRS⟩
  · exact absurd wkL_new h2
  have H0 : Hid (Below w.heap.size w X0 ∧ RS X0 g wkL) := Lib.hid ⟨H1.out.trans (hB2.mono H1.out.size), hRS⟩
  clear hB2 hRS HN H1
  have HG := Lib.hid (good14_any 200 [104, 111, 109, 101] X0)
  go_wp2_with fail
  refine HG.out.mono ?_
  rintro e X1 ⟨rfl, hB⟩
  have H1 : Hid (Below w.heap.size w X1 ∧ RS X1 g wkL) := Lib.hid ⟨H0.out.1.trans (hB.mono H0.out.1.size), HC.out.below H0.out.2 hB⟩
  clear hB HG H0
  have HG := Lib.hid (good14_any 200 [104, 111, 109, 101] X1)
  go_wp2_with fail
  refine HG.out.mono ?_
  rintro e X2 ⟨rfl, hB⟩
  have H2 : Hid (Below w.heap.size w X2 ∧ RS X2 g wkL) := Lib.hid ⟨H1.out.1.trans (hB.mono H1.out.1.size), HC.out.below H1.out.2 hB⟩
  clear hB HG H1
  have HG := Lib.hid (good14_any 200 [98] X2)
  go_wp2_with fail
  refine HG.out.mono ?_
  rintro e X3 ⟨rfl, hB⟩
  have H3 : Hid (Below w.heap.size w X3 ∧ RS X3 g wkL) := Lib.hid ⟨H2.out.1.trans (hB.mono H2.out.1.size), HC.out.below H2.out.2 hB⟩
  clear hB HG H2
  have HG := Lib.hid (good14_any 200 [120, 61, 122, 10] X3)
  go_wp2_with fail
  refine HG.out.mono ?_
  rintro e X4 ⟨rfl, hB⟩
  have H4 : Hid (Below w.heap.size w X4 ∧ RS X4 g wkL) := Lib.hid ⟨H3.out.1.trans (hB.mono H3.out.1.size), HC.out.below H3.out.2 hB⟩
  clear hB HG H3
  have HG := Lib.hid (good14_any 200 [120, 61, 122, 10] X4)
  go_wp2_with fail
  refine HG.out.mono ?_
  rintro e X5 ⟨rfl, hB⟩
  have H5 : Hid (Below w.heap.size w X5 ∧ RS X5 g wkL) := Lib.hid ⟨H4.out.1.trans (hB.mono H4.out.1.size), HC.out.below H4.out.2 hB⟩
  clear hB HG H4
  have HG := Lib.hid (good14_any 200 [104, 105] X5)
  go_wp2_with fail
  refine HG.out.mono ?_
  rintro e X6 ⟨rfl, hB⟩
  have H6 : Hid (Below w.heap.size w X6 ∧ RS X6 g wkL) := Lib.hid ⟨H5.out.1.trans (hB.mono H5.out.1.size), HC.out.below H5.out.2 hB⟩
  clear hB HG H5
  have HG := Lib.hid (no14_any [71, 69, 84, 44, 32, 72, 69, 65, 68] X6)
  go_wp2_with fail
  refine HG.out.mono ?_
  rintro e X7 ⟨f6, rfl, hr6, hB⟩
  have H7 : Hid (Below w.heap.size w X7 ∧ RS X7 g wkL ∧ Row X7 f6 #[S allowT, S [71, 69, 84, 44, 32, 72, 69, 65, 68]] 43) := Lib.hid ⟨H6.out.1.trans (hB.mono H6.out.1.size), HC.out.below H6.out.2 hB, hr6⟩
  clear hB HG H6 hr6
  have HG := Lib.hid (good14_any 404 [110, 111, 116, 32, 102, 111, 117, 110, 100] X7)
  go_wp2_with fail
  refine HG.out.mono ?_
  rintro e X8 ⟨rfl, hB⟩
  have H8 : Hid (Below w.heap.size w X8 ∧ RS X8 g wkL ∧ Row X8 f6 #[S allowT, S [71, 69, 84, 44, 32, 72, 69, 65, 68]] 43) := Lib.hid ⟨H7.out.1.trans (hB.mono H7.out.1.size), HC.out.below H7.out.2.1 hB, H7.out.2.2.below hB H7.out.2.2.lt⟩
  clear hB HG H7
  have HG := Lib.hid (no14_any [71, 69, 84, 44, 32, 72, 69, 65, 68, 44, 32, 80, 79, 83, 84] X8)
  go_wp2_with fail
  refine HG.out.mono ?_
  rintro e X9 ⟨f8, rfl, hr8, hB⟩
  have H9 : Hid (Below w.heap.size w X9 ∧ RS X9 g wkL ∧ Row X9 f6 #[S allowT, S [71, 69, 84, 44, 32, 72, 69, 65, 68]] 43 ∧ Row X9 f8 #[S allowT, S [71, 69, 84, 44, 32, 72, 69, 65, 68, 44, 32, 80, 79, 83, 84]] 43) := Lib.hid ⟨H8.out.1.trans (hB.mono H8.out.1.size), HC.out.below H8.out.2.1 hB, H8.out.2.2.below hB H8.out.2.2.lt, hr8⟩
  clear hB HG H8 hr8
  have HG := Lib.hid (good14_any 101 [] X9)
  go_wp2_with fail
  refine HG.out.mono ?_
  rintro e X10 ⟨rfl, hB⟩
  have H10 : Hid (Below w.heap.size w X10 ∧ RS X10 g wkL ∧ Row X10 f6 #[S allowT, S [71, 69, 84, 44, 32, 72, 69, 65, 68]] 43 ∧ Row X10 f8 #[S allowT, S [71, 69, 84, 44, 32, 72, 69, 65, 68, 44, 32, 80, 79, 83, 84]] 43) := Lib.hid ⟨H9.out.1.trans (hB.mono H9.out.1.size), HC.out.below H9.out.2.1 hB, H9.out.2.2.1.below hB H9.out.2.2.1.lt, H9.out.2.2.2.below hB H9.out.2.2.2.lt⟩
  clear hB HG H9
  have HG := Lib.hid (good14_any 400 [98, 97, 100, 32, 112, 97, 116, 104] X10)
  go_wp2_with fail
  refine HG.out.mono ?_
  rintro e X11 ⟨rfl, hB⟩
  have H11 : Hid (Below w.heap.size w X11 ∧ RS X11 g wkL ∧ Row X11 f6 #[S allowT, S [71, 69, 84, 44, 32, 72, 69, 65, 68]] 43 ∧ Row X11 f8 #[S allowT, S [71, 69, 84, 44, 32, 72, 69, 65, 68, 44, 32, 80, 79, 83, 84]] 43) := Lib.hid ⟨H10.out.1.trans (hB.mono H10.out.1.size), HC.out.below H10.out.2.1 hB, H10.out.2.2.1.below hB H10.out.2.2.1.lt, H10.out.2.2.2.below hB H10.out.2.2.2.lt⟩
  clear hB HG H10
  obtain ⟨Z, hZ⟩ : ∃ Z, Z = knZ X11 f6 f8 := ⟨_, rfl⟩
  have HTAB := Lib.hid (kn_tab X11 f6 f8 H11.out.2.2.1 H11.out.2.2.2 Z hZ)
  have hBZ : Below X11.heap.size X11 Z := by rw [hZ]; unfold knZ; exact (Below.refl _ _).alloc (Nat.le_refl _) _
  have HZ : Hid (Below w.heap.size w Z ∧ RS Z g wkL) := Lib.hid ⟨H11.out.1.trans (hBZ.mono H11.out.1.size), HC.out.below H11.out.2.1 hBZ⟩
  unfold knZ at hZ
  have HZ2 := Lib.hid hZ
  clear hZ hBZ
  go_wp2_with fail
  rw [← HZ2.out]
  obtain ⟨BT, hBT⟩ : ∃ b, b = X11.heap.size := ⟨_, rfl⟩
  rw [← hBT] at HTAB ⊢
  clear hBT HZ2
  go_loopw [6] (fun iv wr => ∃ i : Nat, i ≤ 11 ∧ iv = .int .i64 (i : Int) ∧ Hid (Below w.heap.size w wr ∧ RS wr g wkL ∧ Below Z.heap.size Z wr)) (fun iv _ => 11 - (intOf iv).toNat)
  case atStart => exact ⟨0, Nat.zero_le _, rfl, Lib.hid ⟨HZ.out.1, HZ.out.2, Below.refl _ _⟩⟩
  case round =>
    obtain ⟨i, hi, rfl, HJ⟩ := hrel
    have hw1 : IntKind.i64.wrap ((i : Int) + 1) = (i : Int) + 1 := by rw [IntKind.wrap_i64]; omega
    by_cases hlt : i < 11
    · have g1 : decide ((i : Int) < 11) = true := decide_eq_true (by omega)
      obtain ⟨k, V, bw, hrow, hat⟩ := HTAB.out i hlt
      obtain ⟨Wq, hWq⟩ : ∃ Wq, Wq = wr.drew := ⟨_, rfl⟩
      have hBq : Below wr.heap.size wr Wq := by rw [hWq]; exact ⟨rfl, rfl, rfl, Nat.le_refl _, fun _ _ => rfl⟩
      have h1 := HJ.out.1.trans (hBq.mono HJ.out.1.size)
      have h2 := HC.out.below HJ.out.2.1 hBq
      have h3 := HJ.out.2.2.trans (hBq.mono HJ.out.2.2.size)
      have hAq := hat.below h3
      have hks := fun y hy => kn_serve hrow y hy
      have hfl : k.x.fs.length ≤ 1 := by
        have hm := List.mem_of_getElem? hrow
        exact (by decide : ∀ k ∈ knRows, k.x.fs.length ≤ 1) k hm
      obtain ⟨km, kp, kb, ks, kms, ko, ⟨xc, xf, xb, xk⟩⟩ := k
      dsimp only at hks hfl
      obtain ⟨av, cv, hv⟩ := hAq.fa.form
      dsimp only at hv
      obtain ⟨nf, hnf⟩ : ∃ n, n = xf.length := ⟨_, rfl⟩
      rw [← hnf] at hv
      subst hv
      have HS : Hid (∀ W, Below Wq.heap.size Wq W → Calls Tryz.prog 9 #[.pointer (some ⟨g, 0, none⟩), .agg #[S km, S kp, .string ⟨#[]⟩, .int .i64 0, .slice none 0 0, S kb, .bool false]] W fun e W' =>
          ∃ ay cy by_ oy, e = .returned (.tuple #[.agg #[.int .i64 xc, .slice ay nf cy, S xb], .int .i64 xk]) ∧ FA W' (.slice ay nf cy) xf by_ oy ∧ Below W.heap.size W W') := Lib.hid fun W hB => by
        refine (HC.out.serve wkL g ⟨km, kp, [], 0, [], kb, false⟩ (.slice none 0 0) 0 0 W (h1.trans (hB.mono h1.size)) (HC.out.below h2 hB) wkL_small wkL_good ⟨hAq.few.2.1, hAq.few.2.2, hAq.few.1⟩ (fau_nil _ _ _)).mono ?_
        rintro e W' ⟨hb, y, Vy, by_, oy, hy, he, hF⟩
        obtain rfl := hks y hy
        obtain ⟨ay, cy, hvy⟩ := hF.form
        dsimp only at hvy hF he
        rw [← hnf] at hvy
        subst hvy
        exact ⟨ay, cy, by_, oy, he, hF, hb⟩
      obtain ⟨kk, hkk⟩ : ∃ a, a = i * 7 := ⟨_, rfl⟩
      have hix := idxK BT 11 11 i hlt
      rw [← hkk] at hix
      obtain ⟨SS, hSS⟩ : ∃ SS : World → Prop, SS = fun W => W.cell? ⟨BT, kk, none⟩ = some (S km) ∧ W.cell? ⟨BT, kk + 1, none⟩ = some (S kp) ∧ W.cell? ⟨BT, kk + 2, none⟩ = some (S kb) := ⟨_, rfl⟩
      have hSW : ∀ W, Below Wq.heap.size Wq W → SS W := fun W hB => by
        have h := hAq.below hB
        rw [hSS, hkk]
        exact ⟨h.c0, h.c1, h.c2⟩
      have HSW := Lib.hid hSW
      have hsq := hSW Wq (Below.refl _ _)
      have HQ : Hid (KnAt Wq BT i ⟨km, kp, kb, ks, kms, ko, ⟨xc, xf, xb, xk⟩⟩ (.slice av nf cv) bw ∧ Below w.heap.size w Wq ∧ RS Wq g wkL ∧ Below Z.heap.size Z Wq ∧ kk = i * 7 ∧ xf.length ≤ 1) := Lib.hid ⟨hAq, h1, h2, h3, hkk, hfl⟩
      have HWQ := Lib.hid hWq
      clear hrow hat hBq h1 h2 h3 hAq hks hfl hnf hkk hWq hSW
      go_wp2
      refine wp_region_noPanic ?_
      refine wp_region_held_drew (S := SS) (by kernel_rfl) (by rw [← HWQ.out]; exact hsq) (fun _ => ?_)
      rw [← HWQ.out]
      rw [hSS] at hsq HSW ⊢
      clear hSS
      refine take_at (i := 0) (d := some 67) (v := .pointer (some ⟨g, 0, none⟩)) rfl (by kernel_rfl) (by kernel_rfl) (by kernel_rfl) (fun _ _ _ h => h) (fun oi ho => ?_) hsq ?_
      · obtain rfl := Option.some.inj ho
        exact Or.inl ⟨by rfl, fun wx hSw => by go_simp⟩
      simp only [Act.put, List.setIfInBounds_toArray, List.set_cons_zero, List.set_cons_succ]
      refine take_at (i := 1) (d := some 68) (v := .slice (some ⟨BT, 0, none⟩) 11 11) rfl (by kernel_rfl) (by kernel_rfl) (by kernel_rfl) (fun _ _ _ h => h) (fun oi ho => ?_) hsq ?_
      · obtain rfl := Option.some.inj ho
        exact Or.inl ⟨by rfl, fun wx hSw => by go_simp⟩
      simp only [Act.put, List.setIfInBounds_toArray, List.set_cons_zero, List.set_cons_succ]
      refine take_at (i := 2) (d := some 69) (v := .int .i64 (i : Int)) rfl (by kernel_rfl) (by kernel_rfl) (by kernel_rfl) (fun _ _ _ h => h) (fun oi ho => ?_) hsq ?_
      · obtain rfl := Option.some.inj ho
        exact Or.inl ⟨by rfl, fun wx hSw => by go_simp⟩
      simp only [Act.put, List.setIfInBounds_toArray, List.set_cons_zero, List.set_cons_succ]
      refine take_at (i := 3) (d := some 70) (v := .pointer (some ⟨BT, kk, none⟩)) rfl (by kernel_rfl) (by kernel_rfl) (by kernel_rfl) (fun _ _ _ h => h) (fun oi ho => ?_) hsq ?_
      · obtain rfl := Option.some.inj ho
        exact Or.inl ⟨by rfl, fun wx hSw => by go_simp⟩
      simp only [Act.put, List.setIfInBounds_toArray, List.set_cons_zero, List.set_cons_succ]
      refine take_at (i := 4) (d := some 71) (v := .pointer (some ⟨BT, kk, none⟩)) rfl (by kernel_rfl) (by kernel_rfl) (by kernel_rfl) (fun _ _ _ h => h) (fun oi ho => ?_) hsq ?_
      · obtain rfl := Option.some.inj ho
        exact Or.inl ⟨by rfl, fun wx hSw => by go_simp⟩
      simp only [Act.put, List.setIfInBounds_toArray, List.set_cons_zero, List.set_cons_succ]
      refine take_at (i := 5) (d := some 72) (v := S km) rfl (by kernel_rfl) (by kernel_rfl) (by kernel_rfl) (fun _ _ _ h => h) (fun oi ho => ?_) hsq ?_
      · obtain rfl := Option.some.inj ho
        exact Or.inl ⟨by rfl, fun wx hSw => by obtain ⟨m0, m1, m2⟩ := hSw; go_simp⟩
      simp only [Act.put, List.setIfInBounds_toArray, List.set_cons_zero, List.set_cons_succ]
      refine take_at (i := 6) (d := some 73) (v := .slice (some ⟨BT, 0, none⟩) 11 11) rfl (by kernel_rfl) (by kernel_rfl) (by kernel_rfl) (fun _ _ _ h => h) (fun oi ho => ?_) hsq ?_
      · obtain rfl := Option.some.inj ho
        exact Or.inl ⟨by rfl, fun wx hSw => by go_simp⟩
      simp only [Act.put, List.setIfInBounds_toArray, List.set_cons_zero, List.set_cons_succ]
      refine take_at (i := 7) (d := some 74) (v := .int .i64 (i : Int)) rfl (by kernel_rfl) (by kernel_rfl) (by kernel_rfl) (fun _ _ _ h => h) (fun oi ho => ?_) hsq ?_
      · obtain rfl := Option.some.inj ho
        exact Or.inl ⟨by rfl, fun wx hSw => by go_simp⟩
      simp only [Act.put, List.setIfInBounds_toArray, List.set_cons_zero, List.set_cons_succ]
      refine take_at (i := 8) (d := some 75) (v := .pointer (some ⟨BT, kk, none⟩)) rfl (by kernel_rfl) (by kernel_rfl) (by kernel_rfl) (fun _ _ _ h => h) (fun oi ho => ?_) hsq ?_
      · obtain rfl := Option.some.inj ho
        exact Or.inl ⟨by rfl, fun wx hSw => by go_simp⟩
      simp only [Act.put, List.setIfInBounds_toArray, List.set_cons_zero, List.set_cons_succ]
      refine take_at (i := 9) (d := some 76) (v := .pointer (some ⟨BT, kk + 1, none⟩)) rfl (by kernel_rfl) (by kernel_rfl) (by kernel_rfl) (fun _ _ _ h => h) (fun oi ho => ?_) hsq ?_
      · obtain rfl := Option.some.inj ho
        exact Or.inl ⟨by rfl, fun wx hSw => by go_simp⟩
      simp only [Act.put, List.setIfInBounds_toArray, List.set_cons_zero, List.set_cons_succ]
      refine take_at (i := 10) (d := some 77) (v := S kp) rfl (by kernel_rfl) (by kernel_rfl) (by kernel_rfl) (fun _ _ _ h => h) (fun oi ho => ?_) hsq ?_
      · obtain rfl := Option.some.inj ho
        exact Or.inl ⟨by rfl, fun wx hSw => by obtain ⟨m0, m1, m2⟩ := hSw; go_simp⟩
      simp only [Act.put, List.setIfInBounds_toArray, List.set_cons_zero, List.set_cons_succ]
      refine take_at (i := 11) (d := some 78) (v := .slice (some ⟨BT, 0, none⟩) 11 11) rfl (by kernel_rfl) (by kernel_rfl) (by kernel_rfl) (fun _ _ _ h => h) (fun oi ho => ?_) hsq ?_
      · obtain rfl := Option.some.inj ho
        exact Or.inl ⟨by rfl, fun wx hSw => by go_simp⟩
      simp only [Act.put, List.setIfInBounds_toArray, List.set_cons_zero, List.set_cons_succ]
      refine take_at (i := 12) (d := some 79) (v := .int .i64 (i : Int)) rfl (by kernel_rfl) (by kernel_rfl) (by kernel_rfl) (fun _ _ _ h => h) (fun oi ho => ?_) hsq ?_
      · obtain rfl := Option.some.inj ho
        exact Or.inl ⟨by rfl, fun wx hSw => by go_simp⟩
      simp only [Act.put, List.setIfInBounds_toArray, List.set_cons_zero, List.set_cons_succ]
      refine take_at (i := 13) (d := some 80) (v := .pointer (some ⟨BT, kk, none⟩)) rfl (by kernel_rfl) (by kernel_rfl) (by kernel_rfl) (fun _ _ _ h => h) (fun oi ho => ?_) hsq ?_
      · obtain rfl := Option.some.inj ho
        exact Or.inl ⟨by rfl, fun wx hSw => by go_simp⟩
      simp only [Act.put, List.setIfInBounds_toArray, List.set_cons_zero, List.set_cons_succ]
      refine take_at (i := 14) (d := some 81) (v := .pointer (some ⟨BT, kk + 2, none⟩)) rfl (by kernel_rfl) (by kernel_rfl) (by kernel_rfl) (fun _ _ _ h => h) (fun oi ho => ?_) hsq ?_
      · obtain rfl := Option.some.inj ho
        exact Or.inl ⟨by rfl, fun wx hSw => by go_simp⟩
      simp only [Act.put, List.setIfInBounds_toArray, List.set_cons_zero, List.set_cons_succ]
      refine take_at (i := 15) (d := some 82) (v := S kb) rfl (by kernel_rfl) (by kernel_rfl) (by kernel_rfl) (fun _ _ _ h => h) (fun oi ho => ?_) hsq ?_
      · obtain rfl := Option.some.inj ho
        exact Or.inl ⟨by rfl, fun wx hSw => by obtain ⟨m0, m1, m2⟩ := hSw; go_simp⟩
      simp only [Act.put, List.setIfInBounds_toArray, List.set_cons_zero, List.set_cons_succ]
      refine take_at (i := 16) (d := some 83) (v := .agg #[S km, S kp, .string ⟨#[]⟩, .int .i64 0, .slice none 0 0, S kb, .bool false]) rfl (by kernel_rfl) (by kernel_rfl) (by kernel_rfl) (fun _ _ _ h => h) (fun oi ho => ?_) hsq ?_
      · obtain rfl := Option.some.inj ho
        exact Or.inl ⟨by rfl, fun wx hSw => by go_simp⟩
      simp only [Act.put, List.setIfInBounds_toArray, List.set_cons_zero, List.set_cons_succ]
      refine ready_call_or_madeU (i := 17) (j := 21) (di := some 84) (dj := some 7) (vj := .pointer (some ⟨Wq.heap.size, 0, none⟩)) (w1 := (Wq.alloc (.cells #[.int .i64 0, .slice none 0 0, .string ⟨#[]⟩] 29))) (f := 9) (args := #[.pointer (some ⟨g, 0, none⟩), .agg #[S km, S kp, .string ⟨#[]⟩, .int .i64 0, .slice none 0 0, S kb, .bool false]]) rfl rfl (by kernel_rfl) (fun oi ho => ?_) (fun oi ho => ?_) ?_ ?_ ?_
      · obtain rfl := Option.some.inj ho
        exact ⟨by rfl, by go_simp⟩
      · obtain rfl := Option.some.inj ho
        exact ⟨by rfl, by go_simp⟩
      · exact HSW.out _ ((Below.refl _ Wq).alloc (Nat.le_refl _) _)
      · refine (HS.out Wq (Below.refl _ _)).mono ?_
        rintro e W5 ⟨ay, cy, by_, oy, rfl, hF5, hB5⟩
        have hsq := HSW.out W5 hB5
        refine ⟨_, rfl, hsq, ?_⟩
        simp only [Act.put, List.setIfInBounds_toArray, List.set_cons_zero, List.set_cons_succ]
        refine take_at (i := 18) (d := some 66) (v := .tuple #[.agg #[.int .i64 xc, .slice ay nf cy, S xb], .int .i64 xk]) rfl (by kernel_rfl) (by kernel_rfl) (by kernel_rfl) (fun _ _ _ h => h) (fun oi ho => ?_) hsq ?_
        · obtain rfl := Option.some.inj ho
          exact Or.inl ⟨by rfl, fun wx hSw => by go_simp⟩
        simp only [Act.put, List.setIfInBounds_toArray, List.set_cons_zero, List.set_cons_succ]
        refine take_at (i := 19) (d := some 85) (v := .agg #[.int .i64 xc, .slice ay nf cy, S xb]) rfl (by kernel_rfl) (by kernel_rfl) (by kernel_rfl) (fun _ _ _ h => h) (fun oi ho => ?_) hsq ?_
        · obtain rfl := Option.some.inj ho
          exact Or.inl ⟨by rfl, fun wx hSw => by go_simp⟩
        simp only [Act.put, List.setIfInBounds_toArray, List.set_cons_zero, List.set_cons_succ]
        refine take_at (i := 20) (d := some 86) (v := .int .i64 xk) rfl (by kernel_rfl) (by kernel_rfl) (by kernel_rfl) (fun _ _ _ h => h) (fun oi ho => ?_) hsq ?_
        · obtain rfl := Option.some.inj ho
          exact Or.inl ⟨by rfl, fun wx hSw => by go_simp⟩
        simp only [Act.put, List.setIfInBounds_toArray, List.set_cons_zero, List.set_cons_succ]
        have hB56 : Below W5.heap.size W5 (W5.alloc (.cells #[.int .i64 0, .slice none 0 0, .string ⟨#[]⟩] 29)) := (Below.refl _ _).alloc (Nat.le_refl _) _
        have hB6 := hB5.trans (hB56.mono hB5.size)
        have hS6 := HSW.out _ hB6
        refine ready_value (i := 21) (d := some 7) (v := .pointer (some ⟨W5.heap.size, 0, none⟩)) (w' := (W5.alloc (.cells #[.int .i64 0, .slice none 0 0, .string ⟨#[]⟩] 29))) rfl (by kernel_rfl) (fun oi ho => ?_) hS6 ?_
        · obtain rfl := Option.some.inj ho
          exact ⟨by rfl, by go_simp⟩
        simp only [Act.put, List.setIfInBounds_toArray, List.set_cons_zero, List.set_cons_succ]
        have hr6 : Row (W5.alloc (.cells #[.int .i64 0, .slice none 0 0, .string ⟨#[]⟩] 29)) W5.heap.size #[.int .i64 0, .slice none 0 0, .string ⟨#[]⟩] 29 := row_new _ _ _
        have hF6 := hF5.below hB56
        have hge : Wq.heap.size ≤ W5.heap.size := hB5.size
        obtain ⟨W6, hW6⟩ : ∃ W, W = (W5.alloc (.cells #[.int .i64 0, .slice none 0 0, .string ⟨#[]⟩] 29)) := ⟨_, rfl⟩
        obtain ⟨b6, hb6⟩ : ∃ b, b = W5.heap.size := ⟨_, rfl⟩
        rw [← hW6, ← hb6] at hr6 ⊢
        rw [← hW6] at hF6 hB6 hS6
        rw [← hb6] at hge
        clear hW6 hb6 hB56 hF5 hB5 hsq
        obtain ⟨WS, hst, hrS, hkS⟩ := store_rep hr6 xc ay nf cy xb
        have hBS : Below Wq.heap.size Wq WS := hB6.trans (hkS.below hB6.size hge)
        have hSS := HSW.out WS hBS
        have hFS : FA WS (.slice ay nf cy) xf by_ oy := fa_keeps hF6 (fa_apart hr6 (fun s h => by cases h) (fun s h => by cases h) hF6) hkS
        refine ready_skip (i := 22) (d := none) (w' := WS) rfl (by kernel_rfl) (fun oi ho => ?_) hSS ?_
        · obtain rfl := Option.some.inj ho
          exact ⟨by rfl, exec_store_by _ _ _ rfl _ rfl rfl hst⟩
        refine ready_value (i := 23) (d := some 8) (v := .int .i64 xk) (w' := WS) rfl (by kernel_rfl) (fun oi ho => ?_) hSS ?_
        · obtain rfl := Option.some.inj ho
          exact ⟨by rfl, by go_simp⟩
        simp only [Act.put, List.setIfInBounds_toArray, List.set_cons_zero, List.set_cons_succ]
        refine wpAnyH_done (by kernel_rfl) ?_ _
        refine NoPanic.normal ?_
        obtain ⟨Wr, hWr⟩ : ∃ W, W = WS.drew := ⟨_, rfl⟩
        have hBr : Below WS.heap.size WS Wr := by rw [hWr]; exact ⟨rfl, rfl, rfl, Nat.le_refl _, fun _ _ => rfl⟩
        have hBqr := hBS.trans (hBr.mono hBS.size)
        have hAr := HQ.out.1.below hBqr
        have hRr := hrS.below hBr hrS.lt
        have hsm := same14_true xc xb xf (.slice ay nf cy) (.slice av nf cv) by_ oy bw 0 (by have := HQ.out.2.2.2.2.2; omega) Wr (hFS.below hBr) hAr.fa
        unfold rpuC at hsm
        have HSM := Lib.hid hsm
        obtain ⟨S2, hS2⟩ : ∃ SS : World → Prop, SS = fun W => (W.cell? ⟨b6, 0, none⟩ = some (.int .i64 xc) ∧ W.cell? ⟨b6, 1, none⟩ = some (.slice ay nf cy) ∧ W.cell? ⟨b6, 2, none⟩ = some (S xb)) ∧ (W.cell? ⟨BT, kk + 3, none⟩ = some (.int .i64 xc) ∧ W.cell? ⟨BT, kk + 3 + 1, none⟩ = some (.slice av nf cv) ∧ W.cell? ⟨BT, kk + 3 + 2, none⟩ = some (S xb) ∧ W.cell? ⟨BT, kk + 6, none⟩ = some (.int .i64 xk)) := ⟨_, rfl⟩
        have hSX : ∀ W, Below Wr.heap.size Wr W → S2 W := fun W hB => by
          have h := hAr.below hB
          have h' := hRr.below hB hRr.lt
          rw [hS2, HQ.out.2.2.2.2.1]
          exact ⟨⟨cell_of_row _ _ 0 _ _ (0, 0) h', cell_of_row _ _ 1 _ _ (0, 0) h', cell_of_row _ _ 2 _ _ (0, 0) h'⟩, h.c3, h.c4, h.c5, h.c6⟩
        have HSX := Lib.hid hSX
        have hsr := hSX Wr (Below.refl _ _)
        have HE : Hid (Below w.heap.size w Wr ∧ RS Wr g wkL ∧ Below Z.heap.size Z Wr) := Lib.hid ⟨HQ.out.2.1.trans (hBqr.mono HQ.out.2.1.size), HC.out.below HQ.out.2.2.1 hBqr, HQ.out.2.2.2.1.trans (hBqr.mono HQ.out.2.2.2.1.size)⟩
        have HWR := Lib.hid hWr
        have hkx : (xk == xk) = true := beq_self_eq_true xk
        clear hst hrS hkS hBS hSS hFS hBr hBqr hAr hRr hsm hSX hWr hr6 hF6 hB6 hS6 hge
        go_wp2
        refine wp_region_noPanic ?_
        refine wp_region_held_drew (S := S2) (by kernel_rfl) (by rw [← HWR.out]; exact hsr) (fun _ => ?_)
        rw [← HWR.out]
        rw [hS2] at hsr HSX ⊢
        clear hS2
        refine take_at (i := 0) (d := some 87) (v := .int .i64 xk) rfl (by kernel_rfl) (by kernel_rfl) (by kernel_rfl) (fun _ _ _ h => h) (fun oi ho => ?_) hsr ?_
        · obtain rfl := Option.some.inj ho
          exact Or.inl ⟨by rfl, fun wx hSw => by go_simp⟩
        simp only [Act.put, List.setIfInBounds_toArray, List.set_cons_zero, List.set_cons_succ]
        refine take_at (i := 1) (d := some 88) (v := .slice (some ⟨BT, 0, none⟩) 11 11) rfl (by kernel_rfl) (by kernel_rfl) (by kernel_rfl) (fun _ _ _ h => h) (fun oi ho => ?_) hsr ?_
        · obtain rfl := Option.some.inj ho
          exact Or.inl ⟨by rfl, fun wx hSw => by go_simp⟩
        simp only [Act.put, List.setIfInBounds_toArray, List.set_cons_zero, List.set_cons_succ]
        refine take_at (i := 2) (d := some 89) (v := .int .i64 (i : Int)) rfl (by kernel_rfl) (by kernel_rfl) (by kernel_rfl) (fun _ _ _ h => h) (fun oi ho => ?_) hsr ?_
        · obtain rfl := Option.some.inj ho
          exact Or.inl ⟨by rfl, fun wx hSw => by go_simp⟩
        simp only [Act.put, List.setIfInBounds_toArray, List.set_cons_zero, List.set_cons_succ]
        refine take_at (i := 3) (d := some 90) (v := .pointer (some ⟨BT, kk, none⟩)) rfl (by kernel_rfl) (by kernel_rfl) (by kernel_rfl) (fun _ _ _ h => h) (fun oi ho => ?_) hsr ?_
        · obtain rfl := Option.some.inj ho
          exact Or.inl ⟨by rfl, fun wx hSw => by go_simp⟩
        simp only [Act.put, List.setIfInBounds_toArray, List.set_cons_zero, List.set_cons_succ]
        refine take_at (i := 4) (d := some 91) (v := .pointer (some ⟨BT, kk + 6, none⟩)) rfl (by kernel_rfl) (by kernel_rfl) (by kernel_rfl) (fun _ _ _ h => h) (fun oi ho => ?_) hsr ?_
        · obtain rfl := Option.some.inj ho
          exact Or.inl ⟨by rfl, fun wx hSw => by go_simp⟩
        simp only [Act.put, List.setIfInBounds_toArray, List.set_cons_zero, List.set_cons_succ]
        refine take_at (i := 5) (d := some 92) (v := .int .i64 xk) rfl (by kernel_rfl) (by kernel_rfl) (by kernel_rfl) (fun _ _ _ h => h) (fun oi ho => ?_) hsr ?_
        · obtain rfl := Option.some.inj ho
          exact Or.inl ⟨by rfl, fun wx hSw => by (obtain ⟨⟨m0, m1, m2⟩, m3, m4, m5, m6⟩ := hSw; have j4 : wx.cell? ⟨BT, kk + 4, none⟩ = some (.slice av nf cv) := m4; have j5 : wx.cell? ⟨BT, kk + 5, none⟩ = some (S xb) := m5; go_simp)⟩
        simp only [Act.put, List.setIfInBounds_toArray, List.set_cons_zero, List.set_cons_succ]
        refine take_at (i := 6) (d := some 93) (v := .bool false) rfl (by kernel_rfl) (by kernel_rfl) (by kernel_rfl) (fun _ _ _ h => h) (fun oi ho => ?_) hsr ?_
        · obtain rfl := Option.some.inj ho
          exact Or.inl ⟨by rfl, fun wx hSw => by go_simp⟩
        simp only [Act.put, List.setIfInBounds_toArray, List.set_cons_zero, List.set_cons_succ]
        refine take_at (i := 7) (d := some 94) (v := .bool false) rfl (by kernel_rfl) (by kernel_rfl) (by kernel_rfl) (fun _ _ _ h => h) (fun oi ho => ?_) hsr ?_
        · obtain rfl := Option.some.inj ho
          exact Or.inl ⟨by rfl, fun wx hSw => by go_simp⟩
        simp only [Act.put, List.setIfInBounds_toArray, List.set_cons_zero, List.set_cons_succ]
        refine take_at (i := 8) (d := some 95) (v := .agg #[.int .i64 xc, .slice ay nf cy, S xb]) rfl (by kernel_rfl) (by kernel_rfl) (by kernel_rfl) (fun _ _ _ h => h) (fun oi ho => ?_) hsr ?_
        · obtain rfl := Option.some.inj ho
          exact Or.inl ⟨by rfl, fun wx hSw => by (obtain ⟨⟨m0, m1, m2⟩, m3, m4, m5, m6⟩ := hSw; have j4 : wx.cell? ⟨BT, kk + 4, none⟩ = some (.slice av nf cv) := m4; have j5 : wx.cell? ⟨BT, kk + 5, none⟩ = some (S xb) := m5; go_simp)⟩
        simp only [Act.put, List.setIfInBounds_toArray, List.set_cons_zero, List.set_cons_succ]
        refine take_at (i := 9) (d := some 96) (v := .slice (some ⟨BT, 0, none⟩) 11 11) rfl (by kernel_rfl) (by kernel_rfl) (by kernel_rfl) (fun _ _ _ h => h) (fun oi ho => ?_) hsr ?_
        · obtain rfl := Option.some.inj ho
          exact Or.inl ⟨by rfl, fun wx hSw => by go_simp⟩
        simp only [Act.put, List.setIfInBounds_toArray, List.set_cons_zero, List.set_cons_succ]
        refine take_at (i := 10) (d := some 97) (v := .int .i64 (i : Int)) rfl (by kernel_rfl) (by kernel_rfl) (by kernel_rfl) (fun _ _ _ h => h) (fun oi ho => ?_) hsr ?_
        · obtain rfl := Option.some.inj ho
          exact Or.inl ⟨by rfl, fun wx hSw => by go_simp⟩
        simp only [Act.put, List.setIfInBounds_toArray, List.set_cons_zero, List.set_cons_succ]
        refine take_at (i := 11) (d := some 98) (v := .pointer (some ⟨BT, kk, none⟩)) rfl (by kernel_rfl) (by kernel_rfl) (by kernel_rfl) (fun _ _ _ h => h) (fun oi ho => ?_) hsr ?_
        · obtain rfl := Option.some.inj ho
          exact Or.inl ⟨by rfl, fun wx hSw => by go_simp⟩
        simp only [Act.put, List.setIfInBounds_toArray, List.set_cons_zero, List.set_cons_succ]
        refine take_at (i := 12) (d := some 99) (v := .pointer (some ⟨BT, kk + 3, none⟩)) rfl (by kernel_rfl) (by kernel_rfl) (by kernel_rfl) (fun _ _ _ h => h) (fun oi ho => ?_) hsr ?_
        · obtain rfl := Option.some.inj ho
          exact Or.inl ⟨by rfl, fun wx hSw => by go_simp⟩
        simp only [Act.put, List.setIfInBounds_toArray, List.set_cons_zero, List.set_cons_succ]
        refine take_at (i := 13) (d := some 100) (v := .agg #[.int .i64 xc, .slice av nf cv, S xb]) rfl (by kernel_rfl) (by kernel_rfl) (by kernel_rfl) (fun _ _ _ h => h) (fun oi ho => ?_) hsr ?_
        · obtain rfl := Option.some.inj ho
          exact Or.inl ⟨by rfl, fun wx hSw => by (obtain ⟨⟨m0, m1, m2⟩, m3, m4, m5, m6⟩ := hSw; have j4 : wx.cell? ⟨BT, kk + 4, none⟩ = some (.slice av nf cv) := m4; have j5 : wx.cell? ⟨BT, kk + 5, none⟩ = some (S xb) := m5; go_simp)⟩
        simp only [Act.put, List.setIfInBounds_toArray, List.set_cons_zero, List.set_cons_succ]
        refine ready_call (i := 14) (d := some 101) (f := 10) (args := #[.agg #[.int .i64 xc, .slice ay nf cy, S xb], .agg #[.int .i64 xc, .slice av nf cv, S xb]]) rfl (by kernel_rfl) (fun oi ho => ?_) ?_
        · obtain rfl := Option.some.inj ho
          exact ⟨by rfl, by go_simp⟩
        refine HSM.out.mono ?_
        rintro e W9 ⟨rfl, hB9⟩
        have hsr := HSX.out W9 hB9
        have H9 : Hid (Below w.heap.size w W9 ∧ RS W9 g wkL ∧ Below Z.heap.size Z W9) := Lib.hid ⟨HE.out.1.trans (hB9.mono HE.out.1.size), HC.out.below HE.out.2.1 hB9, HE.out.2.2.trans (hB9.mono HE.out.2.2.size)⟩
        refine ⟨_, rfl, hsr, ?_⟩
        simp only [Act.put, List.setIfInBounds_toArray, List.set_cons_zero, List.set_cons_succ]
        refine take_at (i := 15) (d := some 102) (v := .bool false) rfl (by kernel_rfl) (by kernel_rfl) (by kernel_rfl) (fun _ _ _ h => h) (fun oi ho => ?_) hsr ?_
        · obtain rfl := Option.some.inj ho
          exact Or.inl ⟨by rfl, fun wx hSw => by go_simp⟩
        simp only [Act.put, List.setIfInBounds_toArray, List.set_cons_zero, List.set_cons_succ]
        refine take_at (i := 16) (d := some 103) (v := .bool false) rfl (by kernel_rfl) (by kernel_rfl) (by kernel_rfl) (fun _ _ _ h => h) (fun oi ho => ?_) hsr ?_
        · obtain rfl := Option.some.inj ho
          exact Or.inl ⟨by rfl, fun wx hSw => by go_simp⟩
        simp only [Act.put, List.setIfInBounds_toArray, List.set_cons_zero, List.set_cons_succ]
        refine wpAnyH_done (by kernel_rfl) ?_ _
        refine NoPanic.normal ?_
        clear hB9 hsr
        go_wp2
        exact ⟨⟨i + 1, by omega, by go_num, H9⟩, by simp [intOf]; omega⟩
      · have hB5 : Below Wq.heap.size Wq (Wq.alloc (.cells #[.int .i64 0, .slice none 0 0, .string ⟨#[]⟩] 29)) := (Below.refl _ Wq).alloc (Nat.le_refl _) _
        have hr5 : Row (Wq.alloc (.cells #[.int .i64 0, .slice none 0 0, .string ⟨#[]⟩] 29)) Wq.heap.size #[.int .i64 0, .slice none 0 0, .string ⟨#[]⟩] 29 := row_new _ _ _
        simp only [Act.put, List.setIfInBounds_toArray, List.set_cons_zero, List.set_cons_succ]
        refine ready_call (i := 17) (d := some 84) (f := 9) (args := #[.pointer (some ⟨g, 0, none⟩), .agg #[S km, S kp, .string ⟨#[]⟩, .int .i64 0, .slice none 0 0, S kb, .bool false]]) rfl (by kernel_rfl) (fun oi ho => ?_) ?_
        · obtain rfl := Option.some.inj ho
          exact ⟨by rfl, by go_simp⟩
        refine (HS.out _ hB5).mono ?_
        rintro e W6 ⟨ay, cy, by_, oy, rfl, hF6, hB56⟩
        have hB6 := hB5.trans (hB56.mono hB5.size)
        have hr6 := hr5.below hB56 hr5.lt
        have hS6 := HSW.out W6 hB6
        have hsq := hS6
        refine ⟨_, rfl, hS6, ?_⟩
        simp only [Act.put, List.setIfInBounds_toArray, List.set_cons_zero, List.set_cons_succ]
        refine take_at (i := 18) (d := some 66) (v := .tuple #[.agg #[.int .i64 xc, .slice ay nf cy, S xb], .int .i64 xk]) rfl (by kernel_rfl) (by kernel_rfl) (by kernel_rfl) (fun _ _ _ h => h) (fun oi ho => ?_) hsq ?_
        · obtain rfl := Option.some.inj ho
          exact Or.inl ⟨by rfl, fun wx hSw => by go_simp⟩
        simp only [Act.put, List.setIfInBounds_toArray, List.set_cons_zero, List.set_cons_succ]
        refine take_at (i := 19) (d := some 85) (v := .agg #[.int .i64 xc, .slice ay nf cy, S xb]) rfl (by kernel_rfl) (by kernel_rfl) (by kernel_rfl) (fun _ _ _ h => h) (fun oi ho => ?_) hsq ?_
        · obtain rfl := Option.some.inj ho
          exact Or.inl ⟨by rfl, fun wx hSw => by go_simp⟩
        simp only [Act.put, List.setIfInBounds_toArray, List.set_cons_zero, List.set_cons_succ]
        refine take_at (i := 20) (d := some 86) (v := .int .i64 xk) rfl (by kernel_rfl) (by kernel_rfl) (by kernel_rfl) (fun _ _ _ h => h) (fun oi ho => ?_) hsq ?_
        · obtain rfl := Option.some.inj ho
          exact Or.inl ⟨by rfl, fun wx hSw => by go_simp⟩
        simp only [Act.put, List.setIfInBounds_toArray, List.set_cons_zero, List.set_cons_succ]
        obtain ⟨b6, hb6⟩ : ∃ b, b = Wq.heap.size := ⟨_, rfl⟩
        have hge : Wq.heap.size ≤ b6 := by omega
        rw [← hb6] at hr6 ⊢
        clear hb6 hr5 hB5 hB56 hsq
        obtain ⟨WS, hst, hrS, hkS⟩ := store_rep hr6 xc ay nf cy xb
        have hBS : Below Wq.heap.size Wq WS := hB6.trans (hkS.below hB6.size hge)
        have hSS := HSW.out WS hBS
        have hFS : FA WS (.slice ay nf cy) xf by_ oy := fa_keeps hF6 (fa_apart hr6 (fun s h => by cases h) (fun s h => by cases h) hF6) hkS
        refine ready_skip (i := 22) (d := none) (w' := WS) rfl (by kernel_rfl) (fun oi ho => ?_) hSS ?_
        · obtain rfl := Option.some.inj ho
          exact ⟨by rfl, exec_store_by _ _ _ rfl _ rfl rfl hst⟩
        refine ready_value (i := 23) (d := some 8) (v := .int .i64 xk) (w' := WS) rfl (by kernel_rfl) (fun oi ho => ?_) hSS ?_
        · obtain rfl := Option.some.inj ho
          exact ⟨by rfl, by go_simp⟩
        simp only [Act.put, List.setIfInBounds_toArray, List.set_cons_zero, List.set_cons_succ]
        refine wpAnyH_done (by kernel_rfl) ?_ _
        refine NoPanic.normal ?_
        obtain ⟨Wr, hWr⟩ : ∃ W, W = WS.drew := ⟨_, rfl⟩
        have hBr : Below WS.heap.size WS Wr := by rw [hWr]; exact ⟨rfl, rfl, rfl, Nat.le_refl _, fun _ _ => rfl⟩
        have hBqr := hBS.trans (hBr.mono hBS.size)
        have hAr := HQ.out.1.below hBqr
        have hRr := hrS.below hBr hrS.lt
        have hsm := same14_true xc xb xf (.slice ay nf cy) (.slice av nf cv) by_ oy bw 0 (by have := HQ.out.2.2.2.2.2; omega) Wr (hFS.below hBr) hAr.fa
        unfold rpuC at hsm
        have HSM := Lib.hid hsm
        obtain ⟨S2, hS2⟩ : ∃ SS : World → Prop, SS = fun W => (W.cell? ⟨b6, 0, none⟩ = some (.int .i64 xc) ∧ W.cell? ⟨b6, 1, none⟩ = some (.slice ay nf cy) ∧ W.cell? ⟨b6, 2, none⟩ = some (S xb)) ∧ (W.cell? ⟨BT, kk + 3, none⟩ = some (.int .i64 xc) ∧ W.cell? ⟨BT, kk + 3 + 1, none⟩ = some (.slice av nf cv) ∧ W.cell? ⟨BT, kk + 3 + 2, none⟩ = some (S xb) ∧ W.cell? ⟨BT, kk + 6, none⟩ = some (.int .i64 xk)) := ⟨_, rfl⟩
        have hSX : ∀ W, Below Wr.heap.size Wr W → S2 W := fun W hB => by
          have h := hAr.below hB
          have h' := hRr.below hB hRr.lt
          rw [hS2, HQ.out.2.2.2.2.1]
          exact ⟨⟨cell_of_row _ _ 0 _ _ (0, 0) h', cell_of_row _ _ 1 _ _ (0, 0) h', cell_of_row _ _ 2 _ _ (0, 0) h'⟩, h.c3, h.c4, h.c5, h.c6⟩
        have HSX := Lib.hid hSX
        have hsr := hSX Wr (Below.refl _ _)
        have HE : Hid (Below w.heap.size w Wr ∧ RS Wr g wkL ∧ Below Z.heap.size Z Wr) := Lib.hid ⟨HQ.out.2.1.trans (hBqr.mono HQ.out.2.1.size), HC.out.below HQ.out.2.2.1 hBqr, HQ.out.2.2.2.1.trans (hBqr.mono HQ.out.2.2.2.1.size)⟩
        have HWR := Lib.hid hWr
        have hkx : (xk == xk) = true := beq_self_eq_true xk
        clear hst hrS hkS hBS hSS hFS hBr hBqr hAr hRr hsm hSX hWr hr6 hF6 hB6 hS6 hge
        go_wp2
        refine wp_region_noPanic ?_
        refine wp_region_held_drew (S := S2) (by kernel_rfl) (by rw [← HWR.out]; exact hsr) (fun _ => ?_)
        rw [← HWR.out]
        rw [hS2] at hsr HSX ⊢
        clear hS2
        refine take_at (i := 0) (d := some 87) (v := .int .i64 xk) rfl (by kernel_rfl) (by kernel_rfl) (by kernel_rfl) (fun _ _ _ h => h) (fun oi ho => ?_) hsr ?_
        · obtain rfl := Option.some.inj ho
          exact Or.inl ⟨by rfl, fun wx hSw => by go_simp⟩
        simp only [Act.put, List.setIfInBounds_toArray, List.set_cons_zero, List.set_cons_succ]
        refine take_at (i := 1) (d := some 88) (v := .slice (some ⟨BT, 0, none⟩) 11 11) rfl (by kernel_rfl) (by kernel_rfl) (by kernel_rfl) (fun _ _ _ h => h) (fun oi ho => ?_) hsr ?_
        · obtain rfl := Option.some.inj ho
          exact Or.inl ⟨by rfl, fun wx hSw => by go_simp⟩
        simp only [Act.put, List.setIfInBounds_toArray, List.set_cons_zero, List.set_cons_succ]
        refine take_at (i := 2) (d := some 89) (v := .int .i64 (i : Int)) rfl (by kernel_rfl) (by kernel_rfl) (by kernel_rfl) (fun _ _ _ h => h) (fun oi ho => ?_) hsr ?_
        · obtain rfl := Option.some.inj ho
          exact Or.inl ⟨by rfl, fun wx hSw => by go_simp⟩
        simp only [Act.put, List.setIfInBounds_toArray, List.set_cons_zero, List.set_cons_succ]
        refine take_at (i := 3) (d := some 90) (v := .pointer (some ⟨BT, kk, none⟩)) rfl (by kernel_rfl) (by kernel_rfl) (by kernel_rfl) (fun _ _ _ h => h) (fun oi ho => ?_) hsr ?_
        · obtain rfl := Option.some.inj ho
          exact Or.inl ⟨by rfl, fun wx hSw => by go_simp⟩
        simp only [Act.put, List.setIfInBounds_toArray, List.set_cons_zero, List.set_cons_succ]
        refine take_at (i := 4) (d := some 91) (v := .pointer (some ⟨BT, kk + 6, none⟩)) rfl (by kernel_rfl) (by kernel_rfl) (by kernel_rfl) (fun _ _ _ h => h) (fun oi ho => ?_) hsr ?_
        · obtain rfl := Option.some.inj ho
          exact Or.inl ⟨by rfl, fun wx hSw => by go_simp⟩
        simp only [Act.put, List.setIfInBounds_toArray, List.set_cons_zero, List.set_cons_succ]
        refine take_at (i := 5) (d := some 92) (v := .int .i64 xk) rfl (by kernel_rfl) (by kernel_rfl) (by kernel_rfl) (fun _ _ _ h => h) (fun oi ho => ?_) hsr ?_
        · obtain rfl := Option.some.inj ho
          exact Or.inl ⟨by rfl, fun wx hSw => by (obtain ⟨⟨m0, m1, m2⟩, m3, m4, m5, m6⟩ := hSw; have j4 : wx.cell? ⟨BT, kk + 4, none⟩ = some (.slice av nf cv) := m4; have j5 : wx.cell? ⟨BT, kk + 5, none⟩ = some (S xb) := m5; go_simp)⟩
        simp only [Act.put, List.setIfInBounds_toArray, List.set_cons_zero, List.set_cons_succ]
        refine take_at (i := 6) (d := some 93) (v := .bool false) rfl (by kernel_rfl) (by kernel_rfl) (by kernel_rfl) (fun _ _ _ h => h) (fun oi ho => ?_) hsr ?_
        · obtain rfl := Option.some.inj ho
          exact Or.inl ⟨by rfl, fun wx hSw => by go_simp⟩
        simp only [Act.put, List.setIfInBounds_toArray, List.set_cons_zero, List.set_cons_succ]
        refine take_at (i := 7) (d := some 94) (v := .bool false) rfl (by kernel_rfl) (by kernel_rfl) (by kernel_rfl) (fun _ _ _ h => h) (fun oi ho => ?_) hsr ?_
        · obtain rfl := Option.some.inj ho
          exact Or.inl ⟨by rfl, fun wx hSw => by go_simp⟩
        simp only [Act.put, List.setIfInBounds_toArray, List.set_cons_zero, List.set_cons_succ]
        refine take_at (i := 8) (d := some 95) (v := .agg #[.int .i64 xc, .slice ay nf cy, S xb]) rfl (by kernel_rfl) (by kernel_rfl) (by kernel_rfl) (fun _ _ _ h => h) (fun oi ho => ?_) hsr ?_
        · obtain rfl := Option.some.inj ho
          exact Or.inl ⟨by rfl, fun wx hSw => by (obtain ⟨⟨m0, m1, m2⟩, m3, m4, m5, m6⟩ := hSw; have j4 : wx.cell? ⟨BT, kk + 4, none⟩ = some (.slice av nf cv) := m4; have j5 : wx.cell? ⟨BT, kk + 5, none⟩ = some (S xb) := m5; go_simp)⟩
        simp only [Act.put, List.setIfInBounds_toArray, List.set_cons_zero, List.set_cons_succ]
        refine take_at (i := 9) (d := some 96) (v := .slice (some ⟨BT, 0, none⟩) 11 11) rfl (by kernel_rfl) (by kernel_rfl) (by kernel_rfl) (fun _ _ _ h => h) (fun oi ho => ?_) hsr ?_
        · obtain rfl := Option.some.inj ho
          exact Or.inl ⟨by rfl, fun wx hSw => by go_simp⟩
        simp only [Act.put, List.setIfInBounds_toArray, List.set_cons_zero, List.set_cons_succ]
        refine take_at (i := 10) (d := some 97) (v := .int .i64 (i : Int)) rfl (by kernel_rfl) (by kernel_rfl) (by kernel_rfl) (fun _ _ _ h => h) (fun oi ho => ?_) hsr ?_
        · obtain rfl := Option.some.inj ho
          exact Or.inl ⟨by rfl, fun wx hSw => by go_simp⟩
        simp only [Act.put, List.setIfInBounds_toArray, List.set_cons_zero, List.set_cons_succ]
        refine take_at (i := 11) (d := some 98) (v := .pointer (some ⟨BT, kk, none⟩)) rfl (by kernel_rfl) (by kernel_rfl) (by kernel_rfl) (fun _ _ _ h => h) (fun oi ho => ?_) hsr ?_
        · obtain rfl := Option.some.inj ho
          exact Or.inl ⟨by rfl, fun wx hSw => by go_simp⟩
        simp only [Act.put, List.setIfInBounds_toArray, List.set_cons_zero, List.set_cons_succ]
        refine take_at (i := 12) (d := some 99) (v := .pointer (some ⟨BT, kk + 3, none⟩)) rfl (by kernel_rfl) (by kernel_rfl) (by kernel_rfl) (fun _ _ _ h => h) (fun oi ho => ?_) hsr ?_
        · obtain rfl := Option.some.inj ho
          exact Or.inl ⟨by rfl, fun wx hSw => by go_simp⟩
        simp only [Act.put, List.setIfInBounds_toArray, List.set_cons_zero, List.set_cons_succ]
        refine take_at (i := 13) (d := some 100) (v := .agg #[.int .i64 xc, .slice av nf cv, S xb]) rfl (by kernel_rfl) (by kernel_rfl) (by kernel_rfl) (fun _ _ _ h => h) (fun oi ho => ?_) hsr ?_
        · obtain rfl := Option.some.inj ho
          exact Or.inl ⟨by rfl, fun wx hSw => by (obtain ⟨⟨m0, m1, m2⟩, m3, m4, m5, m6⟩ := hSw; have j4 : wx.cell? ⟨BT, kk + 4, none⟩ = some (.slice av nf cv) := m4; have j5 : wx.cell? ⟨BT, kk + 5, none⟩ = some (S xb) := m5; go_simp)⟩
        simp only [Act.put, List.setIfInBounds_toArray, List.set_cons_zero, List.set_cons_succ]
        refine ready_call (i := 14) (d := some 101) (f := 10) (args := #[.agg #[.int .i64 xc, .slice ay nf cy, S xb], .agg #[.int .i64 xc, .slice av nf cv, S xb]]) rfl (by kernel_rfl) (fun oi ho => ?_) ?_
        · obtain rfl := Option.some.inj ho
          exact ⟨by rfl, by go_simp⟩
        refine HSM.out.mono ?_
        rintro e W9 ⟨rfl, hB9⟩
        have hsr := HSX.out W9 hB9
        have H9 : Hid (Below w.heap.size w W9 ∧ RS W9 g wkL ∧ Below Z.heap.size Z W9) := Lib.hid ⟨HE.out.1.trans (hB9.mono HE.out.1.size), HC.out.below HE.out.2.1 hB9, HE.out.2.2.trans (hB9.mono HE.out.2.2.size)⟩
        refine ⟨_, rfl, hsr, ?_⟩
        simp only [Act.put, List.setIfInBounds_toArray, List.set_cons_zero, List.set_cons_succ]
        refine take_at (i := 15) (d := some 102) (v := .bool false) rfl (by kernel_rfl) (by kernel_rfl) (by kernel_rfl) (fun _ _ _ h => h) (fun oi ho => ?_) hsr ?_
        · obtain rfl := Option.some.inj ho
          exact Or.inl ⟨by rfl, fun wx hSw => by go_simp⟩
        simp only [Act.put, List.setIfInBounds_toArray, List.set_cons_zero, List.set_cons_succ]
        refine take_at (i := 16) (d := some 103) (v := .bool false) rfl (by kernel_rfl) (by kernel_rfl) (by kernel_rfl) (fun _ _ _ h => h) (fun oi ho => ?_) hsr ?_
        · obtain rfl := Option.some.inj ho
          exact Or.inl ⟨by rfl, fun wx hSw => by go_simp⟩
        simp only [Act.put, List.setIfInBounds_toArray, List.set_cons_zero, List.set_cons_succ]
        refine wpAnyH_done (by kernel_rfl) ?_ _
        refine NoPanic.normal ?_
        clear hB9 hsr
        go_wp2
        exact ⟨⟨i + 1, by omega, by go_num, H9⟩, by simp [intOf]; omega⟩
    · obtain rfl : i = 11 := by omega
      have g1 : decide ((11 : Int) < 11) = false := by decide
      obtain ⟨t1, ht1⟩ : ∃ t, t = List.replicate 4096 (0 : UInt8) := ⟨_, rfl⟩
      obtain ⟨t2, ht2⟩ : ∃ t, t = List.replicate 4097 (0 : UInt8) := ⟨_, rfl⟩
      have hk1 : ∀ W, (Instr.makeSlice 49 (.int .i64 4096) (.int .i64 4096)).run Tryz.prog W = .ok (.slice (some ⟨W.heap.size, 0, none⟩) 4096 4096) (W.alloc (.cells (zeroC 4096) 5)) := fun W => zero_make 4096 (by decide) W
      have hk2 : ∀ W, (Instr.makeSlice 49 (.int .i64 4097) (.int .i64 4097)).run Tryz.prog W = .ok (.slice (some ⟨W.heap.size, 0, none⟩) 4097 4097) (W.alloc (.cells (zeroC 4097) 5)) := fun W => zero_make 4097 (by decide) W
      have hx1 : ∀ W b, Row W b (zeroC 4096) 5 → (convert 49 9 (.slice (some ⟨b, 0, none⟩) 4096 4096)).run Tryz.prog W = .ok (S t1) W := fun W b h => by rw [ht1]; exact zero_text 4096 h
      have hx2 : ∀ W b, Row W b (zeroC 4097) 5 → (convert 49 9 (.slice (some ⟨b, 0, none⟩) 4097 4097)).run Tryz.prog W = .ok (S t2) W := fun W b h => by rw [ht2]; exact zero_text 4097 h
      obtain ⟨z1, hz1⟩ : ∃ z, z = zeroC 4096 := ⟨_, rfl⟩
      obtain ⟨z2, hz2⟩ : ∃ z, z = zeroC 4097 := ⟨_, rfl⟩
      rw [← hz1] at hk1 hx1
      rw [← hz2] at hk2 hx2
      have HT := Lib.hid (And.intro ht1 ht2)
      have HX := Lib.hid (And.intro hx1 hx2)
      clear ht1 ht2 hz1 hz2 hx1 hx2 hlt hi
      go_upto_region 13 with fail
      go_cut [9] (fun v wx => ∃ b, v = .slice (some ⟨b, 0, none⟩) 11 11 ∧ Row wx b #[.string ⟨#[71, 69, 84]⟩, .string ⟨#[47]⟩, .int .i64 2, .string ⟨#[]⟩, .int .i64 5, .string ⟨#[80, 85, 84]⟩, .string ⟨#[47, 97, 47, 58, 121]⟩, .int .i64 2, .string ⟨#[]⟩, .int .i64 5, .string ⟨#[80, 85, 84]⟩, .string ⟨#[47]⟩, .int .i64 2, .string ⟨#[]⟩, .int .i64 0, .string ⟨#[80, 79, 83, 84]⟩, .string ⟨#[47, 120]⟩, .int .i64 4, .string ⟨#[]⟩, .int .i64 1, .string ⟨#[71, 32, 84]⟩, .string ⟨#[47, 120]⟩, .int .i64 2, .string ⟨#[]⟩, .int .i64 1, .string ⟨#[71, 69, 84]⟩, .string ⟨#[120]⟩, .int .i64 2, .string ⟨#[]⟩, .int .i64 1, .string ⟨#[71, 69, 84]⟩, .string ⟨#[47, 120]⟩, .int .i64 5, .string ⟨#[]⟩, .int .i64 1, .string ⟨#[71, 69, 84]⟩, .string ⟨#[47, 120]⟩, .int .i64 0, .string ⟨#[]⟩, .int .i64 1, .string ⟨#[71, 69, 84]⟩, .string ⟨#[47, 120]⟩, .int .i64 2, .string ⟨#[116]⟩, .int .i64 1, .string ⟨#[71, 69, 84]⟩, .string ⟨#[47, 120]⟩, .int .i64 1, S t1, .int .i64 0, .string ⟨#[71, 69, 84]⟩, .string ⟨#[47, 120]⟩, .int .i64 1, S t2, .int .i64 1] 48 ∧ Below wr.heap.size wr wx)
      case first =>
        obtain ⟨Wq, hWq⟩ : ∃ Wq, Wq = wr.drew := ⟨_, rfl⟩
        have hBq : Below wr.heap.size wr Wq := by rw [hWq]; exact ⟨rfl, rfl, rfl, Nat.le_refl _, fun _ _ => rfl⟩
        have HQ := Lib.hid hBq
        refine wp_region_noPanic ?_
        refine wp_region_held_drew (S := fun _ => True) (by kernel_rfl) trivial (fun _ => ?_)
        rw [← hWq]
        clear hWq hBq
        refine take_at (i := 0) (d := some 104) (v := .agg #[.string ⟨#[71, 69, 84]⟩, .string ⟨#[47]⟩, .int .i64 2, .string ⟨#[]⟩]) rfl (by kernel_rfl) (by kernel_rfl) (by kernel_rfl) (fun _ _ _ h => h) (fun oi ho => ?_) trivial ?_
        · obtain rfl := Option.some.inj ho
          exact Or.inl ⟨by rfl, fun wx hSw => by go_simp⟩
        simp only [Act.put, List.setIfInBounds_toArray, List.set_cons_zero, List.set_cons_succ]
        refine take_at (i := 1) (d := some 105) (v := .agg #[.string ⟨#[71, 69, 84]⟩, .string ⟨#[47]⟩, .int .i64 2, .string ⟨#[]⟩, .int .i64 5]) rfl (by kernel_rfl) (by kernel_rfl) (by kernel_rfl) (fun _ _ _ h => h) (fun oi ho => ?_) trivial ?_
        · obtain rfl := Option.some.inj ho
          exact Or.inl ⟨by rfl, fun wx hSw => by go_simp⟩
        simp only [Act.put, List.setIfInBounds_toArray, List.set_cons_zero, List.set_cons_succ]
        refine take_at (i := 2) (d := some 106) (v := .agg #[.string ⟨#[80, 85, 84]⟩, .string ⟨#[47, 97, 47, 58, 121]⟩, .int .i64 2, .string ⟨#[]⟩]) rfl (by kernel_rfl) (by kernel_rfl) (by kernel_rfl) (fun _ _ _ h => h) (fun oi ho => ?_) trivial ?_
        · obtain rfl := Option.some.inj ho
          exact Or.inl ⟨by rfl, fun wx hSw => by go_simp⟩
        simp only [Act.put, List.setIfInBounds_toArray, List.set_cons_zero, List.set_cons_succ]
        refine take_at (i := 3) (d := some 107) (v := .agg #[.string ⟨#[80, 85, 84]⟩, .string ⟨#[47, 97, 47, 58, 121]⟩, .int .i64 2, .string ⟨#[]⟩, .int .i64 5]) rfl (by kernel_rfl) (by kernel_rfl) (by kernel_rfl) (fun _ _ _ h => h) (fun oi ho => ?_) trivial ?_
        · obtain rfl := Option.some.inj ho
          exact Or.inl ⟨by rfl, fun wx hSw => by go_simp⟩
        simp only [Act.put, List.setIfInBounds_toArray, List.set_cons_zero, List.set_cons_succ]
        refine take_at (i := 4) (d := some 108) (v := .agg #[.string ⟨#[80, 85, 84]⟩, .string ⟨#[47]⟩, .int .i64 2, .string ⟨#[]⟩]) rfl (by kernel_rfl) (by kernel_rfl) (by kernel_rfl) (fun _ _ _ h => h) (fun oi ho => ?_) trivial ?_
        · obtain rfl := Option.some.inj ho
          exact Or.inl ⟨by rfl, fun wx hSw => by go_simp⟩
        simp only [Act.put, List.setIfInBounds_toArray, List.set_cons_zero, List.set_cons_succ]
        refine take_at (i := 5) (d := some 109) (v := .agg #[.string ⟨#[80, 85, 84]⟩, .string ⟨#[47]⟩, .int .i64 2, .string ⟨#[]⟩, .int .i64 0]) rfl (by kernel_rfl) (by kernel_rfl) (by kernel_rfl) (fun _ _ _ h => h) (fun oi ho => ?_) trivial ?_
        · obtain rfl := Option.some.inj ho
          exact Or.inl ⟨by rfl, fun wx hSw => by go_simp⟩
        simp only [Act.put, List.setIfInBounds_toArray, List.set_cons_zero, List.set_cons_succ]
        refine take_at (i := 6) (d := some 110) (v := .agg #[.string ⟨#[80, 79, 83, 84]⟩, .string ⟨#[47, 120]⟩, .int .i64 4, .string ⟨#[]⟩]) rfl (by kernel_rfl) (by kernel_rfl) (by kernel_rfl) (fun _ _ _ h => h) (fun oi ho => ?_) trivial ?_
        · obtain rfl := Option.some.inj ho
          exact Or.inl ⟨by rfl, fun wx hSw => by go_simp⟩
        simp only [Act.put, List.setIfInBounds_toArray, List.set_cons_zero, List.set_cons_succ]
        refine take_at (i := 7) (d := some 111) (v := .agg #[.string ⟨#[80, 79, 83, 84]⟩, .string ⟨#[47, 120]⟩, .int .i64 4, .string ⟨#[]⟩, .int .i64 1]) rfl (by kernel_rfl) (by kernel_rfl) (by kernel_rfl) (fun _ _ _ h => h) (fun oi ho => ?_) trivial ?_
        · obtain rfl := Option.some.inj ho
          exact Or.inl ⟨by rfl, fun wx hSw => by go_simp⟩
        simp only [Act.put, List.setIfInBounds_toArray, List.set_cons_zero, List.set_cons_succ]
        refine take_at (i := 8) (d := some 112) (v := .agg #[.string ⟨#[71, 32, 84]⟩, .string ⟨#[47, 120]⟩, .int .i64 2, .string ⟨#[]⟩]) rfl (by kernel_rfl) (by kernel_rfl) (by kernel_rfl) (fun _ _ _ h => h) (fun oi ho => ?_) trivial ?_
        · obtain rfl := Option.some.inj ho
          exact Or.inl ⟨by rfl, fun wx hSw => by go_simp⟩
        simp only [Act.put, List.setIfInBounds_toArray, List.set_cons_zero, List.set_cons_succ]
        refine take_at (i := 9) (d := some 113) (v := .agg #[.string ⟨#[71, 32, 84]⟩, .string ⟨#[47, 120]⟩, .int .i64 2, .string ⟨#[]⟩, .int .i64 1]) rfl (by kernel_rfl) (by kernel_rfl) (by kernel_rfl) (fun _ _ _ h => h) (fun oi ho => ?_) trivial ?_
        · obtain rfl := Option.some.inj ho
          exact Or.inl ⟨by rfl, fun wx hSw => by go_simp⟩
        simp only [Act.put, List.setIfInBounds_toArray, List.set_cons_zero, List.set_cons_succ]
        refine take_at (i := 10) (d := some 114) (v := .agg #[.string ⟨#[71, 69, 84]⟩, .string ⟨#[120]⟩, .int .i64 2, .string ⟨#[]⟩]) rfl (by kernel_rfl) (by kernel_rfl) (by kernel_rfl) (fun _ _ _ h => h) (fun oi ho => ?_) trivial ?_
        · obtain rfl := Option.some.inj ho
          exact Or.inl ⟨by rfl, fun wx hSw => by go_simp⟩
        simp only [Act.put, List.setIfInBounds_toArray, List.set_cons_zero, List.set_cons_succ]
        refine take_at (i := 11) (d := some 115) (v := .agg #[.string ⟨#[71, 69, 84]⟩, .string ⟨#[120]⟩, .int .i64 2, .string ⟨#[]⟩, .int .i64 1]) rfl (by kernel_rfl) (by kernel_rfl) (by kernel_rfl) (fun _ _ _ h => h) (fun oi ho => ?_) trivial ?_
        · obtain rfl := Option.some.inj ho
          exact Or.inl ⟨by rfl, fun wx hSw => by go_simp⟩
        simp only [Act.put, List.setIfInBounds_toArray, List.set_cons_zero, List.set_cons_succ]
        refine take_at (i := 12) (d := some 116) (v := .agg #[.string ⟨#[71, 69, 84]⟩, .string ⟨#[47, 120]⟩, .int .i64 5, .string ⟨#[]⟩]) rfl (by kernel_rfl) (by kernel_rfl) (by kernel_rfl) (fun _ _ _ h => h) (fun oi ho => ?_) trivial ?_
        · obtain rfl := Option.some.inj ho
          exact Or.inl ⟨by rfl, fun wx hSw => by go_simp⟩
        simp only [Act.put, List.setIfInBounds_toArray, List.set_cons_zero, List.set_cons_succ]
        refine take_at (i := 13) (d := some 117) (v := .agg #[.string ⟨#[71, 69, 84]⟩, .string ⟨#[47, 120]⟩, .int .i64 5, .string ⟨#[]⟩, .int .i64 1]) rfl (by kernel_rfl) (by kernel_rfl) (by kernel_rfl) (fun _ _ _ h => h) (fun oi ho => ?_) trivial ?_
        · obtain rfl := Option.some.inj ho
          exact Or.inl ⟨by rfl, fun wx hSw => by go_simp⟩
        simp only [Act.put, List.setIfInBounds_toArray, List.set_cons_zero, List.set_cons_succ]
        refine take_at (i := 14) (d := some 118) (v := .agg #[.string ⟨#[71, 69, 84]⟩, .string ⟨#[47, 120]⟩, .int .i64 0, .string ⟨#[]⟩]) rfl (by kernel_rfl) (by kernel_rfl) (by kernel_rfl) (fun _ _ _ h => h) (fun oi ho => ?_) trivial ?_
        · obtain rfl := Option.some.inj ho
          exact Or.inl ⟨by rfl, fun wx hSw => by go_simp⟩
        simp only [Act.put, List.setIfInBounds_toArray, List.set_cons_zero, List.set_cons_succ]
        refine take_at (i := 15) (d := some 119) (v := .agg #[.string ⟨#[71, 69, 84]⟩, .string ⟨#[47, 120]⟩, .int .i64 0, .string ⟨#[]⟩, .int .i64 1]) rfl (by kernel_rfl) (by kernel_rfl) (by kernel_rfl) (fun _ _ _ h => h) (fun oi ho => ?_) trivial ?_
        · obtain rfl := Option.some.inj ho
          exact Or.inl ⟨by rfl, fun wx hSw => by go_simp⟩
        simp only [Act.put, List.setIfInBounds_toArray, List.set_cons_zero, List.set_cons_succ]
        refine take_at (i := 16) (d := some 120) (v := .agg #[.string ⟨#[71, 69, 84]⟩, .string ⟨#[47, 120]⟩, .int .i64 2, .string ⟨#[116]⟩]) rfl (by kernel_rfl) (by kernel_rfl) (by kernel_rfl) (fun _ _ _ h => h) (fun oi ho => ?_) trivial ?_
        · obtain rfl := Option.some.inj ho
          exact Or.inl ⟨by rfl, fun wx hSw => by go_simp⟩
        simp only [Act.put, List.setIfInBounds_toArray, List.set_cons_zero, List.set_cons_succ]
        refine take_at (i := 17) (d := some 121) (v := .agg #[.string ⟨#[71, 69, 84]⟩, .string ⟨#[47, 120]⟩, .int .i64 2, .string ⟨#[116]⟩, .int .i64 1]) rfl (by kernel_rfl) (by kernel_rfl) (by kernel_rfl) (fun _ _ _ h => h) (fun oi ho => ?_) trivial ?_
        · obtain rfl := Option.some.inj ho
          exact Or.inl ⟨by rfl, fun wx hSw => by go_simp⟩
        simp only [Act.put, List.setIfInBounds_toArray, List.set_cons_zero, List.set_cons_succ]
        refine ready_orU (i := 18) (j := 22) (di := some 122) (dj := some 126) (vi := .slice (some ⟨Wq.heap.size, 0, none⟩) 4096 4096) (vj := .slice (some ⟨Wq.heap.size, 0, none⟩) 4097 4097) (wi := (Wq.alloc (.cells z1 5))) (wj := (Wq.alloc (.cells z2 5))) rfl rfl (by kernel_rfl) (fun oi ho => ?_) (fun oi ho => ?_) trivial trivial ?_ ?_
        · obtain rfl := Option.some.inj ho
          exact ⟨by rfl, by go_simp⟩
        · obtain rfl := Option.some.inj ho
          exact ⟨by rfl, by go_simp⟩
        · have c1 := HX.out.1 (Wq.alloc (.cells z1 5)) Wq.heap.size (row_new _ _ _)
          have r1 : Row ((Wq.alloc (.cells z1 5)).alloc (.cells z2 5)) Wq.heap.size z1 5 := (row_new _ _ _).alloc _
          have r2 : Row ((Wq.alloc (.cells z1 5)).alloc (.cells z2 5)) (Wq.heap.size + 1) z2 5 := by
            have h := row_new (Wq.alloc (.cells z1 5)) z2 5
            rwa [alloc_size] at h
          have c1b := HX.out.1 ((Wq.alloc (.cells z1 5)).alloc (.cells z2 5)) _ r1
          have c2 := HX.out.2 ((Wq.alloc (.cells z1 5)).alloc (.cells z2 5)) _ r2
          simp only [Act.put, List.setIfInBounds_toArray, List.set_cons_zero, List.set_cons_succ]
          refine ready_orU (i := 19) (j := 22) (di := some 123) (dj := some 126) (vi := S t1) (vj := .slice (some ⟨Wq.heap.size + 1, 0, none⟩) 4097 4097) (wi := (Wq.alloc (.cells z1 5))) (wj := ((Wq.alloc (.cells z1 5)).alloc (.cells z2 5))) rfl rfl (by kernel_rfl) (fun oi ho => ?_) (fun oi ho => ?_) trivial trivial ?_ ?_
          · obtain rfl := Option.some.inj ho
            exact ⟨by rfl, by go_simp⟩
          · obtain rfl := Option.some.inj ho
            exact ⟨by rfl, by go_simp⟩
          · simp only [Act.put, List.setIfInBounds_toArray, List.set_cons_zero, List.set_cons_succ]
            refine take_at (i := 20) (d := some 124) (v := .agg #[.string ⟨#[71, 69, 84]⟩, .string ⟨#[47, 120]⟩, .int .i64 1, S t1]) rfl (by kernel_rfl) (by kernel_rfl) (by kernel_rfl) (fun _ _ _ h => h) (fun oi ho => ?_) trivial ?_
            · obtain rfl := Option.some.inj ho
              exact Or.inl ⟨by rfl, fun wx hSw => by go_simp⟩
            simp only [Act.put, List.setIfInBounds_toArray, List.set_cons_zero, List.set_cons_succ]
            refine take_at (i := 21) (d := some 125) (v := .agg #[.string ⟨#[71, 69, 84]⟩, .string ⟨#[47, 120]⟩, .int .i64 1, S t1, .int .i64 0]) rfl (by kernel_rfl) (by kernel_rfl) (by kernel_rfl) (fun _ _ _ h => h) (fun oi ho => ?_) trivial ?_
            · obtain rfl := Option.some.inj ho
              exact Or.inl ⟨by rfl, fun wx hSw => by go_simp⟩
            simp only [Act.put, List.setIfInBounds_toArray, List.set_cons_zero, List.set_cons_succ]
            refine ready_value (i := 22) (d := some 126) (v := .slice (some ⟨Wq.heap.size + 1, 0, none⟩) 4097 4097) (w' := ((Wq.alloc (.cells z1 5)).alloc (.cells z2 5))) rfl (by kernel_rfl) (fun oi ho => ?_) trivial ?_
            · obtain rfl := Option.some.inj ho
              exact ⟨by rfl, by go_simp⟩
            simp only [Act.put, List.setIfInBounds_toArray, List.set_cons_zero, List.set_cons_succ]
            refine ready_value (i := 23) (d := some 127) (v := S t2) (w' := ((Wq.alloc (.cells z1 5)).alloc (.cells z2 5))) rfl (by kernel_rfl) (fun oi ho => ?_) trivial ?_
            · obtain rfl := Option.some.inj ho
              exact ⟨by rfl, by go_simp⟩
            simp only [Act.put, List.setIfInBounds_toArray, List.set_cons_zero, List.set_cons_succ]
            refine take_at (i := 24) (d := some 128) (v := .agg #[.string ⟨#[71, 69, 84]⟩, .string ⟨#[47, 120]⟩, .int .i64 1, S t2]) rfl (by kernel_rfl) (by kernel_rfl) (by kernel_rfl) (fun _ _ _ h => h) (fun oi ho => ?_) trivial ?_
            · obtain rfl := Option.some.inj ho
              exact Or.inl ⟨by rfl, fun wx hSw => by go_simp⟩
            simp only [Act.put, List.setIfInBounds_toArray, List.set_cons_zero, List.set_cons_succ]
            refine take_at (i := 25) (d := some 129) (v := .agg #[.string ⟨#[71, 69, 84]⟩, .string ⟨#[47, 120]⟩, .int .i64 1, S t2, .int .i64 1]) rfl (by kernel_rfl) (by kernel_rfl) (by kernel_rfl) (fun _ _ _ h => h) (fun oi ho => ?_) trivial ?_
            · obtain rfl := Option.some.inj ho
              exact Or.inl ⟨by rfl, fun wx hSw => by go_simp⟩
            simp only [Act.put, List.setIfInBounds_toArray, List.set_cons_zero, List.set_cons_succ]
            have hrow : Row (((Wq.alloc (.cells z1 5)).alloc (.cells z2 5)).alloc (.cells #[.string ⟨#[71, 69, 84]⟩, .string ⟨#[47]⟩, .int .i64 2, .string ⟨#[]⟩, .int .i64 5, .string ⟨#[80, 85, 84]⟩, .string ⟨#[47, 97, 47, 58, 121]⟩, .int .i64 2, .string ⟨#[]⟩, .int .i64 5, .string ⟨#[80, 85, 84]⟩, .string ⟨#[47]⟩, .int .i64 2, .string ⟨#[]⟩, .int .i64 0, .string ⟨#[80, 79, 83, 84]⟩, .string ⟨#[47, 120]⟩, .int .i64 4, .string ⟨#[]⟩, .int .i64 1, .string ⟨#[71, 32, 84]⟩, .string ⟨#[47, 120]⟩, .int .i64 2, .string ⟨#[]⟩, .int .i64 1, .string ⟨#[71, 69, 84]⟩, .string ⟨#[120]⟩, .int .i64 2, .string ⟨#[]⟩, .int .i64 1, .string ⟨#[71, 69, 84]⟩, .string ⟨#[47, 120]⟩, .int .i64 5, .string ⟨#[]⟩, .int .i64 1, .string ⟨#[71, 69, 84]⟩, .string ⟨#[47, 120]⟩, .int .i64 0, .string ⟨#[]⟩, .int .i64 1, .string ⟨#[71, 69, 84]⟩, .string ⟨#[47, 120]⟩, .int .i64 2, .string ⟨#[116]⟩, .int .i64 1, .string ⟨#[71, 69, 84]⟩, .string ⟨#[47, 120]⟩, .int .i64 1, S t1, .int .i64 0, .string ⟨#[71, 69, 84]⟩, .string ⟨#[47, 120]⟩, .int .i64 1, S t2, .int .i64 1] 48)) (Wq.heap.size + 1 + 1) #[.string ⟨#[71, 69, 84]⟩, .string ⟨#[47]⟩, .int .i64 2, .string ⟨#[]⟩, .int .i64 5, .string ⟨#[80, 85, 84]⟩, .string ⟨#[47, 97, 47, 58, 121]⟩, .int .i64 2, .string ⟨#[]⟩, .int .i64 5, .string ⟨#[80, 85, 84]⟩, .string ⟨#[47]⟩, .int .i64 2, .string ⟨#[]⟩, .int .i64 0, .string ⟨#[80, 79, 83, 84]⟩, .string ⟨#[47, 120]⟩, .int .i64 4, .string ⟨#[]⟩, .int .i64 1, .string ⟨#[71, 32, 84]⟩, .string ⟨#[47, 120]⟩, .int .i64 2, .string ⟨#[]⟩, .int .i64 1, .string ⟨#[71, 69, 84]⟩, .string ⟨#[120]⟩, .int .i64 2, .string ⟨#[]⟩, .int .i64 1, .string ⟨#[71, 69, 84]⟩, .string ⟨#[47, 120]⟩, .int .i64 5, .string ⟨#[]⟩, .int .i64 1, .string ⟨#[71, 69, 84]⟩, .string ⟨#[47, 120]⟩, .int .i64 0, .string ⟨#[]⟩, .int .i64 1, .string ⟨#[71, 69, 84]⟩, .string ⟨#[47, 120]⟩, .int .i64 2, .string ⟨#[116]⟩, .int .i64 1, .string ⟨#[71, 69, 84]⟩, .string ⟨#[47, 120]⟩, .int .i64 1, S t1, .int .i64 0, .string ⟨#[71, 69, 84]⟩, .string ⟨#[47, 120]⟩, .int .i64 1, S t2, .int .i64 1] 48 := by
              have h := row_new ((Wq.alloc (.cells z1 5)).alloc (.cells z2 5)) #[.string ⟨#[71, 69, 84]⟩, .string ⟨#[47]⟩, .int .i64 2, .string ⟨#[]⟩, .int .i64 5, .string ⟨#[80, 85, 84]⟩, .string ⟨#[47, 97, 47, 58, 121]⟩, .int .i64 2, .string ⟨#[]⟩, .int .i64 5, .string ⟨#[80, 85, 84]⟩, .string ⟨#[47]⟩, .int .i64 2, .string ⟨#[]⟩, .int .i64 0, .string ⟨#[80, 79, 83, 84]⟩, .string ⟨#[47, 120]⟩, .int .i64 4, .string ⟨#[]⟩, .int .i64 1, .string ⟨#[71, 32, 84]⟩, .string ⟨#[47, 120]⟩, .int .i64 2, .string ⟨#[]⟩, .int .i64 1, .string ⟨#[71, 69, 84]⟩, .string ⟨#[120]⟩, .int .i64 2, .string ⟨#[]⟩, .int .i64 1, .string ⟨#[71, 69, 84]⟩, .string ⟨#[47, 120]⟩, .int .i64 5, .string ⟨#[]⟩, .int .i64 1, .string ⟨#[71, 69, 84]⟩, .string ⟨#[47, 120]⟩, .int .i64 0, .string ⟨#[]⟩, .int .i64 1, .string ⟨#[71, 69, 84]⟩, .string ⟨#[47, 120]⟩, .int .i64 2, .string ⟨#[116]⟩, .int .i64 1, .string ⟨#[71, 69, 84]⟩, .string ⟨#[47, 120]⟩, .int .i64 1, S t1, .int .i64 0, .string ⟨#[71, 69, 84]⟩, .string ⟨#[47, 120]⟩, .int .i64 1, S t2, .int .i64 1] 48
              rwa [alloc_size, alloc_size] at h
            refine ready_value (i := 26) (d := some 130) (v := .slice (some ⟨Wq.heap.size + 1 + 1, 0, none⟩) 11 11) (w' := (((Wq.alloc (.cells z1 5)).alloc (.cells z2 5)).alloc (.cells #[.string ⟨#[71, 69, 84]⟩, .string ⟨#[47]⟩, .int .i64 2, .string ⟨#[]⟩, .int .i64 5, .string ⟨#[80, 85, 84]⟩, .string ⟨#[47, 97, 47, 58, 121]⟩, .int .i64 2, .string ⟨#[]⟩, .int .i64 5, .string ⟨#[80, 85, 84]⟩, .string ⟨#[47]⟩, .int .i64 2, .string ⟨#[]⟩, .int .i64 0, .string ⟨#[80, 79, 83, 84]⟩, .string ⟨#[47, 120]⟩, .int .i64 4, .string ⟨#[]⟩, .int .i64 1, .string ⟨#[71, 32, 84]⟩, .string ⟨#[47, 120]⟩, .int .i64 2, .string ⟨#[]⟩, .int .i64 1, .string ⟨#[71, 69, 84]⟩, .string ⟨#[120]⟩, .int .i64 2, .string ⟨#[]⟩, .int .i64 1, .string ⟨#[71, 69, 84]⟩, .string ⟨#[47, 120]⟩, .int .i64 5, .string ⟨#[]⟩, .int .i64 1, .string ⟨#[71, 69, 84]⟩, .string ⟨#[47, 120]⟩, .int .i64 0, .string ⟨#[]⟩, .int .i64 1, .string ⟨#[71, 69, 84]⟩, .string ⟨#[47, 120]⟩, .int .i64 2, .string ⟨#[116]⟩, .int .i64 1, .string ⟨#[71, 69, 84]⟩, .string ⟨#[47, 120]⟩, .int .i64 1, S t1, .int .i64 0, .string ⟨#[71, 69, 84]⟩, .string ⟨#[47, 120]⟩, .int .i64 1, S t2, .int .i64 1] 48))) rfl (by kernel_rfl) (fun oi ho => ?_) trivial ?_
            · obtain rfl := Option.some.inj ho
              exact ⟨by rfl, by go_simp⟩
            simp only [Act.put, List.setIfInBounds_toArray, List.set_cons_zero, List.set_cons_succ]
            refine take_at (i := 27) (d := some 9) (v := .slice (some ⟨Wq.heap.size + 1 + 1, 0, none⟩) 11 11) rfl (by kernel_rfl) (by kernel_rfl) (by kernel_rfl) (fun _ _ _ h => h) (fun oi ho => ?_) trivial ?_
            · obtain rfl := Option.some.inj ho
              exact Or.inl ⟨by rfl, fun wx hSw => by go_simp⟩
            simp only [Act.put, List.setIfInBounds_toArray, List.set_cons_zero, List.set_cons_succ]
            refine wpAnyH_done (by kernel_rfl) ?_ _
            refine NoPanic.normal ?_
            have hbf : Below Wq.heap.size Wq ((Wq.alloc (.cells z1 5)).alloc (.cells z2 5)) := ((Below.refl _ _).alloc (Nat.le_refl _) _).alloc (by rw [alloc_size]; omega) _
            go_wp2
            go_meet
            exact ⟨_, rfl, hrow, (HQ.out.trans (hbf.mono HQ.out.size)).alloc (HQ.out.trans (hbf.mono HQ.out.size)).size _⟩
          · simp only [Act.put, List.setIfInBounds_toArray, List.set_cons_zero, List.set_cons_succ]
            refine ready_orU (i := 19) (j := 23) (di := some 123) (dj := some 127) (vi := S t1) (vj := S t2) (wi := ((Wq.alloc (.cells z1 5)).alloc (.cells z2 5))) (wj := ((Wq.alloc (.cells z1 5)).alloc (.cells z2 5))) rfl rfl (by kernel_rfl) (fun oi ho => ?_) (fun oi ho => ?_) trivial trivial ?_ ?_
            · obtain rfl := Option.some.inj ho
              exact ⟨by rfl, by go_simp⟩
            · obtain rfl := Option.some.inj ho
              exact ⟨by rfl, by go_simp⟩
            · simp only [Act.put, List.setIfInBounds_toArray, List.set_cons_zero, List.set_cons_succ]
              refine take_at (i := 20) (d := some 124) (v := .agg #[.string ⟨#[71, 69, 84]⟩, .string ⟨#[47, 120]⟩, .int .i64 1, S t1]) rfl (by kernel_rfl) (by kernel_rfl) (by kernel_rfl) (fun _ _ _ h => h) (fun oi ho => ?_) trivial ?_
              · obtain rfl := Option.some.inj ho
                exact Or.inl ⟨by rfl, fun wx hSw => by go_simp⟩
              simp only [Act.put, List.setIfInBounds_toArray, List.set_cons_zero, List.set_cons_succ]
              refine take_at (i := 21) (d := some 125) (v := .agg #[.string ⟨#[71, 69, 84]⟩, .string ⟨#[47, 120]⟩, .int .i64 1, S t1, .int .i64 0]) rfl (by kernel_rfl) (by kernel_rfl) (by kernel_rfl) (fun _ _ _ h => h) (fun oi ho => ?_) trivial ?_
              · obtain rfl := Option.some.inj ho
                exact Or.inl ⟨by rfl, fun wx hSw => by go_simp⟩
              simp only [Act.put, List.setIfInBounds_toArray, List.set_cons_zero, List.set_cons_succ]
              refine ready_value (i := 23) (d := some 127) (v := S t2) (w' := ((Wq.alloc (.cells z1 5)).alloc (.cells z2 5))) rfl (by kernel_rfl) (fun oi ho => ?_) trivial ?_
              · obtain rfl := Option.some.inj ho
                exact ⟨by rfl, by go_simp⟩
              simp only [Act.put, List.setIfInBounds_toArray, List.set_cons_zero, List.set_cons_succ]
              refine take_at (i := 24) (d := some 128) (v := .agg #[.string ⟨#[71, 69, 84]⟩, .string ⟨#[47, 120]⟩, .int .i64 1, S t2]) rfl (by kernel_rfl) (by kernel_rfl) (by kernel_rfl) (fun _ _ _ h => h) (fun oi ho => ?_) trivial ?_
              · obtain rfl := Option.some.inj ho
                exact Or.inl ⟨by rfl, fun wx hSw => by go_simp⟩
              simp only [Act.put, List.setIfInBounds_toArray, List.set_cons_zero, List.set_cons_succ]
              refine take_at (i := 25) (d := some 129) (v := .agg #[.string ⟨#[71, 69, 84]⟩, .string ⟨#[47, 120]⟩, .int .i64 1, S t2, .int .i64 1]) rfl (by kernel_rfl) (by kernel_rfl) (by kernel_rfl) (fun _ _ _ h => h) (fun oi ho => ?_) trivial ?_
              · obtain rfl := Option.some.inj ho
                exact Or.inl ⟨by rfl, fun wx hSw => by go_simp⟩
              simp only [Act.put, List.setIfInBounds_toArray, List.set_cons_zero, List.set_cons_succ]
              have hrow : Row (((Wq.alloc (.cells z1 5)).alloc (.cells z2 5)).alloc (.cells #[.string ⟨#[71, 69, 84]⟩, .string ⟨#[47]⟩, .int .i64 2, .string ⟨#[]⟩, .int .i64 5, .string ⟨#[80, 85, 84]⟩, .string ⟨#[47, 97, 47, 58, 121]⟩, .int .i64 2, .string ⟨#[]⟩, .int .i64 5, .string ⟨#[80, 85, 84]⟩, .string ⟨#[47]⟩, .int .i64 2, .string ⟨#[]⟩, .int .i64 0, .string ⟨#[80, 79, 83, 84]⟩, .string ⟨#[47, 120]⟩, .int .i64 4, .string ⟨#[]⟩, .int .i64 1, .string ⟨#[71, 32, 84]⟩, .string ⟨#[47, 120]⟩, .int .i64 2, .string ⟨#[]⟩, .int .i64 1, .string ⟨#[71, 69, 84]⟩, .string ⟨#[120]⟩, .int .i64 2, .string ⟨#[]⟩, .int .i64 1, .string ⟨#[71, 69, 84]⟩, .string ⟨#[47, 120]⟩, .int .i64 5, .string ⟨#[]⟩, .int .i64 1, .string ⟨#[71, 69, 84]⟩, .string ⟨#[47, 120]⟩, .int .i64 0, .string ⟨#[]⟩, .int .i64 1, .string ⟨#[71, 69, 84]⟩, .string ⟨#[47, 120]⟩, .int .i64 2, .string ⟨#[116]⟩, .int .i64 1, .string ⟨#[71, 69, 84]⟩, .string ⟨#[47, 120]⟩, .int .i64 1, S t1, .int .i64 0, .string ⟨#[71, 69, 84]⟩, .string ⟨#[47, 120]⟩, .int .i64 1, S t2, .int .i64 1] 48)) (Wq.heap.size + 1 + 1) #[.string ⟨#[71, 69, 84]⟩, .string ⟨#[47]⟩, .int .i64 2, .string ⟨#[]⟩, .int .i64 5, .string ⟨#[80, 85, 84]⟩, .string ⟨#[47, 97, 47, 58, 121]⟩, .int .i64 2, .string ⟨#[]⟩, .int .i64 5, .string ⟨#[80, 85, 84]⟩, .string ⟨#[47]⟩, .int .i64 2, .string ⟨#[]⟩, .int .i64 0, .string ⟨#[80, 79, 83, 84]⟩, .string ⟨#[47, 120]⟩, .int .i64 4, .string ⟨#[]⟩, .int .i64 1, .string ⟨#[71, 32, 84]⟩, .string ⟨#[47, 120]⟩, .int .i64 2, .string ⟨#[]⟩, .int .i64 1, .string ⟨#[71, 69, 84]⟩, .string ⟨#[120]⟩, .int .i64 2, .string ⟨#[]⟩, .int .i64 1, .string ⟨#[71, 69, 84]⟩, .string ⟨#[47, 120]⟩, .int .i64 5, .string ⟨#[]⟩, .int .i64 1, .string ⟨#[71, 69, 84]⟩, .string ⟨#[47, 120]⟩, .int .i64 0, .string ⟨#[]⟩, .int .i64 1, .string ⟨#[71, 69, 84]⟩, .string ⟨#[47, 120]⟩, .int .i64 2, .string ⟨#[116]⟩, .int .i64 1, .string ⟨#[71, 69, 84]⟩, .string ⟨#[47, 120]⟩, .int .i64 1, S t1, .int .i64 0, .string ⟨#[71, 69, 84]⟩, .string ⟨#[47, 120]⟩, .int .i64 1, S t2, .int .i64 1] 48 := by
                have h := row_new ((Wq.alloc (.cells z1 5)).alloc (.cells z2 5)) #[.string ⟨#[71, 69, 84]⟩, .string ⟨#[47]⟩, .int .i64 2, .string ⟨#[]⟩, .int .i64 5, .string ⟨#[80, 85, 84]⟩, .string ⟨#[47, 97, 47, 58, 121]⟩, .int .i64 2, .string ⟨#[]⟩, .int .i64 5, .string ⟨#[80, 85, 84]⟩, .string ⟨#[47]⟩, .int .i64 2, .string ⟨#[]⟩, .int .i64 0, .string ⟨#[80, 79, 83, 84]⟩, .string ⟨#[47, 120]⟩, .int .i64 4, .string ⟨#[]⟩, .int .i64 1, .string ⟨#[71, 32, 84]⟩, .string ⟨#[47, 120]⟩, .int .i64 2, .string ⟨#[]⟩, .int .i64 1, .string ⟨#[71, 69, 84]⟩, .string ⟨#[120]⟩, .int .i64 2, .string ⟨#[]⟩, .int .i64 1, .string ⟨#[71, 69, 84]⟩, .string ⟨#[47, 120]⟩, .int .i64 5, .string ⟨#[]⟩, .int .i64 1, .string ⟨#[71, 69, 84]⟩, .string ⟨#[47, 120]⟩, .int .i64 0, .string ⟨#[]⟩, .int .i64 1, .string ⟨#[71, 69, 84]⟩, .string ⟨#[47, 120]⟩, .int .i64 2, .string ⟨#[116]⟩, .int .i64 1, .string ⟨#[71, 69, 84]⟩, .string ⟨#[47, 120]⟩, .int .i64 1, S t1, .int .i64 0, .string ⟨#[71, 69, 84]⟩, .string ⟨#[47, 120]⟩, .int .i64 1, S t2, .int .i64 1] 48
                rwa [alloc_size, alloc_size] at h
              refine ready_value (i := 26) (d := some 130) (v := .slice (some ⟨Wq.heap.size + 1 + 1, 0, none⟩) 11 11) (w' := (((Wq.alloc (.cells z1 5)).alloc (.cells z2 5)).alloc (.cells #[.string ⟨#[71, 69, 84]⟩, .string ⟨#[47]⟩, .int .i64 2, .string ⟨#[]⟩, .int .i64 5, .string ⟨#[80, 85, 84]⟩, .string ⟨#[47, 97, 47, 58, 121]⟩, .int .i64 2, .string ⟨#[]⟩, .int .i64 5, .string ⟨#[80, 85, 84]⟩, .string ⟨#[47]⟩, .int .i64 2, .string ⟨#[]⟩, .int .i64 0, .string ⟨#[80, 79, 83, 84]⟩, .string ⟨#[47, 120]⟩, .int .i64 4, .string ⟨#[]⟩, .int .i64 1, .string ⟨#[71, 32, 84]⟩, .string ⟨#[47, 120]⟩, .int .i64 2, .string ⟨#[]⟩, .int .i64 1, .string ⟨#[71, 69, 84]⟩, .string ⟨#[120]⟩, .int .i64 2, .string ⟨#[]⟩, .int .i64 1, .string ⟨#[71, 69, 84]⟩, .string ⟨#[47, 120]⟩, .int .i64 5, .string ⟨#[]⟩, .int .i64 1, .string ⟨#[71, 69, 84]⟩, .string ⟨#[47, 120]⟩, .int .i64 0, .string ⟨#[]⟩, .int .i64 1, .string ⟨#[71, 69, 84]⟩, .string ⟨#[47, 120]⟩, .int .i64 2, .string ⟨#[116]⟩, .int .i64 1, .string ⟨#[71, 69, 84]⟩, .string ⟨#[47, 120]⟩, .int .i64 1, S t1, .int .i64 0, .string ⟨#[71, 69, 84]⟩, .string ⟨#[47, 120]⟩, .int .i64 1, S t2, .int .i64 1] 48))) rfl (by kernel_rfl) (fun oi ho => ?_) trivial ?_
              · obtain rfl := Option.some.inj ho
                exact ⟨by rfl, by go_simp⟩
              simp only [Act.put, List.setIfInBounds_toArray, List.set_cons_zero, List.set_cons_succ]
              refine take_at (i := 27) (d := some 9) (v := .slice (some ⟨Wq.heap.size + 1 + 1, 0, none⟩) 11 11) rfl (by kernel_rfl) (by kernel_rfl) (by kernel_rfl) (fun _ _ _ h => h) (fun oi ho => ?_) trivial ?_
              · obtain rfl := Option.some.inj ho
                exact Or.inl ⟨by rfl, fun wx hSw => by go_simp⟩
              simp only [Act.put, List.setIfInBounds_toArray, List.set_cons_zero, List.set_cons_succ]
              refine wpAnyH_done (by kernel_rfl) ?_ _
              refine NoPanic.normal ?_
              have hbf : Below Wq.heap.size Wq ((Wq.alloc (.cells z1 5)).alloc (.cells z2 5)) := ((Below.refl _ _).alloc (Nat.le_refl _) _).alloc (by rw [alloc_size]; omega) _
              go_wp2
              go_meet
              exact ⟨_, rfl, hrow, (HQ.out.trans (hbf.mono HQ.out.size)).alloc (HQ.out.trans (hbf.mono HQ.out.size)).size _⟩
            · simp only [Act.put, List.setIfInBounds_toArray, List.set_cons_zero, List.set_cons_succ]
              refine take_at (i := 24) (d := some 128) (v := .agg #[.string ⟨#[71, 69, 84]⟩, .string ⟨#[47, 120]⟩, .int .i64 1, S t2]) rfl (by kernel_rfl) (by kernel_rfl) (by kernel_rfl) (fun _ _ _ h => h) (fun oi ho => ?_) trivial ?_
              · obtain rfl := Option.some.inj ho
                exact Or.inl ⟨by rfl, fun wx hSw => by go_simp⟩
              simp only [Act.put, List.setIfInBounds_toArray, List.set_cons_zero, List.set_cons_succ]
              refine take_at (i := 25) (d := some 129) (v := .agg #[.string ⟨#[71, 69, 84]⟩, .string ⟨#[47, 120]⟩, .int .i64 1, S t2, .int .i64 1]) rfl (by kernel_rfl) (by kernel_rfl) (by kernel_rfl) (fun _ _ _ h => h) (fun oi ho => ?_) trivial ?_
              · obtain rfl := Option.some.inj ho
                exact Or.inl ⟨by rfl, fun wx hSw => by go_simp⟩
              simp only [Act.put, List.setIfInBounds_toArray, List.set_cons_zero, List.set_cons_succ]
              refine ready_value (i := 19) (d := some 123) (v := S t1) (w' := ((Wq.alloc (.cells z1 5)).alloc (.cells z2 5))) rfl (by kernel_rfl) (fun oi ho => ?_) trivial ?_
              · obtain rfl := Option.some.inj ho
                exact ⟨by rfl, by go_simp⟩
              simp only [Act.put, List.setIfInBounds_toArray, List.set_cons_zero, List.set_cons_succ]
              refine take_at (i := 20) (d := some 124) (v := .agg #[.string ⟨#[71, 69, 84]⟩, .string ⟨#[47, 120]⟩, .int .i64 1, S t1]) rfl (by kernel_rfl) (by kernel_rfl) (by kernel_rfl) (fun _ _ _ h => h) (fun oi ho => ?_) trivial ?_
              · obtain rfl := Option.some.inj ho
                exact Or.inl ⟨by rfl, fun wx hSw => by go_simp⟩
              simp only [Act.put, List.setIfInBounds_toArray, List.set_cons_zero, List.set_cons_succ]
              refine take_at (i := 21) (d := some 125) (v := .agg #[.string ⟨#[71, 69, 84]⟩, .string ⟨#[47, 120]⟩, .int .i64 1, S t1, .int .i64 0]) rfl (by kernel_rfl) (by kernel_rfl) (by kernel_rfl) (fun _ _ _ h => h) (fun oi ho => ?_) trivial ?_
              · obtain rfl := Option.some.inj ho
                exact Or.inl ⟨by rfl, fun wx hSw => by go_simp⟩
              simp only [Act.put, List.setIfInBounds_toArray, List.set_cons_zero, List.set_cons_succ]
              have hrow : Row (((Wq.alloc (.cells z1 5)).alloc (.cells z2 5)).alloc (.cells #[.string ⟨#[71, 69, 84]⟩, .string ⟨#[47]⟩, .int .i64 2, .string ⟨#[]⟩, .int .i64 5, .string ⟨#[80, 85, 84]⟩, .string ⟨#[47, 97, 47, 58, 121]⟩, .int .i64 2, .string ⟨#[]⟩, .int .i64 5, .string ⟨#[80, 85, 84]⟩, .string ⟨#[47]⟩, .int .i64 2, .string ⟨#[]⟩, .int .i64 0, .string ⟨#[80, 79, 83, 84]⟩, .string ⟨#[47, 120]⟩, .int .i64 4, .string ⟨#[]⟩, .int .i64 1, .string ⟨#[71, 32, 84]⟩, .string ⟨#[47, 120]⟩, .int .i64 2, .string ⟨#[]⟩, .int .i64 1, .string ⟨#[71, 69, 84]⟩, .string ⟨#[120]⟩, .int .i64 2, .string ⟨#[]⟩, .int .i64 1, .string ⟨#[71, 69, 84]⟩, .string ⟨#[47, 120]⟩, .int .i64 5, .string ⟨#[]⟩, .int .i64 1, .string ⟨#[71, 69, 84]⟩, .string ⟨#[47, 120]⟩, .int .i64 0, .string ⟨#[]⟩, .int .i64 1, .string ⟨#[71, 69, 84]⟩, .string ⟨#[47, 120]⟩, .int .i64 2, .string ⟨#[116]⟩, .int .i64 1, .string ⟨#[71, 69, 84]⟩, .string ⟨#[47, 120]⟩, .int .i64 1, S t1, .int .i64 0, .string ⟨#[71, 69, 84]⟩, .string ⟨#[47, 120]⟩, .int .i64 1, S t2, .int .i64 1] 48)) (Wq.heap.size + 1 + 1) #[.string ⟨#[71, 69, 84]⟩, .string ⟨#[47]⟩, .int .i64 2, .string ⟨#[]⟩, .int .i64 5, .string ⟨#[80, 85, 84]⟩, .string ⟨#[47, 97, 47, 58, 121]⟩, .int .i64 2, .string ⟨#[]⟩, .int .i64 5, .string ⟨#[80, 85, 84]⟩, .string ⟨#[47]⟩, .int .i64 2, .string ⟨#[]⟩, .int .i64 0, .string ⟨#[80, 79, 83, 84]⟩, .string ⟨#[47, 120]⟩, .int .i64 4, .string ⟨#[]⟩, .int .i64 1, .string ⟨#[71, 32, 84]⟩, .string ⟨#[47, 120]⟩, .int .i64 2, .string ⟨#[]⟩, .int .i64 1, .string ⟨#[71, 69, 84]⟩, .string ⟨#[120]⟩, .int .i64 2, .string ⟨#[]⟩, .int .i64 1, .string ⟨#[71, 69, 84]⟩, .string ⟨#[47, 120]⟩, .int .i64 5, .string ⟨#[]⟩, .int .i64 1, .string ⟨#[71, 69, 84]⟩, .string ⟨#[47, 120]⟩, .int .i64 0, .string ⟨#[]⟩, .int .i64 1, .string ⟨#[71, 69, 84]⟩, .string ⟨#[47, 120]⟩, .int .i64 2, .string ⟨#[116]⟩, .int .i64 1, .string ⟨#[71, 69, 84]⟩, .string ⟨#[47, 120]⟩, .int .i64 1, S t1, .int .i64 0, .string ⟨#[71, 69, 84]⟩, .string ⟨#[47, 120]⟩, .int .i64 1, S t2, .int .i64 1] 48 := by
                have h := row_new ((Wq.alloc (.cells z1 5)).alloc (.cells z2 5)) #[.string ⟨#[71, 69, 84]⟩, .string ⟨#[47]⟩, .int .i64 2, .string ⟨#[]⟩, .int .i64 5, .string ⟨#[80, 85, 84]⟩, .string ⟨#[47, 97, 47, 58, 121]⟩, .int .i64 2, .string ⟨#[]⟩, .int .i64 5, .string ⟨#[80, 85, 84]⟩, .string ⟨#[47]⟩, .int .i64 2, .string ⟨#[]⟩, .int .i64 0, .string ⟨#[80, 79, 83, 84]⟩, .string ⟨#[47, 120]⟩, .int .i64 4, .string ⟨#[]⟩, .int .i64 1, .string ⟨#[71, 32, 84]⟩, .string ⟨#[47, 120]⟩, .int .i64 2, .string ⟨#[]⟩, .int .i64 1, .string ⟨#[71, 69, 84]⟩, .string ⟨#[120]⟩, .int .i64 2, .string ⟨#[]⟩, .int .i64 1, .string ⟨#[71, 69, 84]⟩, .string ⟨#[47, 120]⟩, .int .i64 5, .string ⟨#[]⟩, .int .i64 1, .string ⟨#[71, 69, 84]⟩, .string ⟨#[47, 120]⟩, .int .i64 0, .string ⟨#[]⟩, .int .i64 1, .string ⟨#[71, 69, 84]⟩, .string ⟨#[47, 120]⟩, .int .i64 2, .string ⟨#[116]⟩, .int .i64 1, .string ⟨#[71, 69, 84]⟩, .string ⟨#[47, 120]⟩, .int .i64 1, S t1, .int .i64 0, .string ⟨#[71, 69, 84]⟩, .string ⟨#[47, 120]⟩, .int .i64 1, S t2, .int .i64 1] 48
                rwa [alloc_size, alloc_size] at h
              refine ready_value (i := 26) (d := some 130) (v := .slice (some ⟨Wq.heap.size + 1 + 1, 0, none⟩) 11 11) (w' := (((Wq.alloc (.cells z1 5)).alloc (.cells z2 5)).alloc (.cells #[.string ⟨#[71, 69, 84]⟩, .string ⟨#[47]⟩, .int .i64 2, .string ⟨#[]⟩, .int .i64 5, .string ⟨#[80, 85, 84]⟩, .string ⟨#[47, 97, 47, 58, 121]⟩, .int .i64 2, .string ⟨#[]⟩, .int .i64 5, .string ⟨#[80, 85, 84]⟩, .string ⟨#[47]⟩, .int .i64 2, .string ⟨#[]⟩, .int .i64 0, .string ⟨#[80, 79, 83, 84]⟩, .string ⟨#[47, 120]⟩, .int .i64 4, .string ⟨#[]⟩, .int .i64 1, .string ⟨#[71, 32, 84]⟩, .string ⟨#[47, 120]⟩, .int .i64 2, .string ⟨#[]⟩, .int .i64 1, .string ⟨#[71, 69, 84]⟩, .string ⟨#[120]⟩, .int .i64 2, .string ⟨#[]⟩, .int .i64 1, .string ⟨#[71, 69, 84]⟩, .string ⟨#[47, 120]⟩, .int .i64 5, .string ⟨#[]⟩, .int .i64 1, .string ⟨#[71, 69, 84]⟩, .string ⟨#[47, 120]⟩, .int .i64 0, .string ⟨#[]⟩, .int .i64 1, .string ⟨#[71, 69, 84]⟩, .string ⟨#[47, 120]⟩, .int .i64 2, .string ⟨#[116]⟩, .int .i64 1, .string ⟨#[71, 69, 84]⟩, .string ⟨#[47, 120]⟩, .int .i64 1, S t1, .int .i64 0, .string ⟨#[71, 69, 84]⟩, .string ⟨#[47, 120]⟩, .int .i64 1, S t2, .int .i64 1] 48))) rfl (by kernel_rfl) (fun oi ho => ?_) trivial ?_
              · obtain rfl := Option.some.inj ho
                exact ⟨by rfl, by go_simp⟩
              simp only [Act.put, List.setIfInBounds_toArray, List.set_cons_zero, List.set_cons_succ]
              refine take_at (i := 27) (d := some 9) (v := .slice (some ⟨Wq.heap.size + 1 + 1, 0, none⟩) 11 11) rfl (by kernel_rfl) (by kernel_rfl) (by kernel_rfl) (fun _ _ _ h => h) (fun oi ho => ?_) trivial ?_
              · obtain rfl := Option.some.inj ho
                exact Or.inl ⟨by rfl, fun wx hSw => by go_simp⟩
              simp only [Act.put, List.setIfInBounds_toArray, List.set_cons_zero, List.set_cons_succ]
              refine wpAnyH_done (by kernel_rfl) ?_ _
              refine NoPanic.normal ?_
              have hbf : Below Wq.heap.size Wq ((Wq.alloc (.cells z1 5)).alloc (.cells z2 5)) := ((Below.refl _ _).alloc (Nat.le_refl _) _).alloc (by rw [alloc_size]; omega) _
              go_wp2
              go_meet
              exact ⟨_, rfl, hrow, (HQ.out.trans (hbf.mono HQ.out.size)).alloc (HQ.out.trans (hbf.mono HQ.out.size)).size _⟩
        · have c1 := HX.out.2 (Wq.alloc (.cells z2 5)) Wq.heap.size (row_new _ _ _)
          have r1 : Row ((Wq.alloc (.cells z2 5)).alloc (.cells z1 5)) Wq.heap.size z2 5 := (row_new _ _ _).alloc _
          have r2 : Row ((Wq.alloc (.cells z2 5)).alloc (.cells z1 5)) (Wq.heap.size + 1) z1 5 := by
            have h := row_new (Wq.alloc (.cells z2 5)) z1 5
            rwa [alloc_size] at h
          have c1b := HX.out.2 ((Wq.alloc (.cells z2 5)).alloc (.cells z1 5)) _ r1
          have c2 := HX.out.1 ((Wq.alloc (.cells z2 5)).alloc (.cells z1 5)) _ r2
          simp only [Act.put, List.setIfInBounds_toArray, List.set_cons_zero, List.set_cons_succ]
          refine ready_orU (i := 18) (j := 23) (di := some 122) (dj := some 127) (vi := .slice (some ⟨Wq.heap.size + 1, 0, none⟩) 4096 4096) (vj := S t2) (wi := ((Wq.alloc (.cells z2 5)).alloc (.cells z1 5))) (wj := (Wq.alloc (.cells z2 5))) rfl rfl (by kernel_rfl) (fun oi ho => ?_) (fun oi ho => ?_) trivial trivial ?_ ?_
          · obtain rfl := Option.some.inj ho
            exact ⟨by rfl, by go_simp⟩
          · obtain rfl := Option.some.inj ho
            exact ⟨by rfl, by go_simp⟩
          · simp only [Act.put, List.setIfInBounds_toArray, List.set_cons_zero, List.set_cons_succ]
            refine ready_orU (i := 19) (j := 23) (di := some 123) (dj := some 127) (vi := S t1) (vj := S t2) (wi := ((Wq.alloc (.cells z2 5)).alloc (.cells z1 5))) (wj := ((Wq.alloc (.cells z2 5)).alloc (.cells z1 5))) rfl rfl (by kernel_rfl) (fun oi ho => ?_) (fun oi ho => ?_) trivial trivial ?_ ?_
            · obtain rfl := Option.some.inj ho
              exact ⟨by rfl, by go_simp⟩
            · obtain rfl := Option.some.inj ho
              exact ⟨by rfl, by go_simp⟩
            · simp only [Act.put, List.setIfInBounds_toArray, List.set_cons_zero, List.set_cons_succ]
              refine take_at (i := 20) (d := some 124) (v := .agg #[.string ⟨#[71, 69, 84]⟩, .string ⟨#[47, 120]⟩, .int .i64 1, S t1]) rfl (by kernel_rfl) (by kernel_rfl) (by kernel_rfl) (fun _ _ _ h => h) (fun oi ho => ?_) trivial ?_
              · obtain rfl := Option.some.inj ho
                exact Or.inl ⟨by rfl, fun wx hSw => by go_simp⟩
              simp only [Act.put, List.setIfInBounds_toArray, List.set_cons_zero, List.set_cons_succ]
              refine take_at (i := 21) (d := some 125) (v := .agg #[.string ⟨#[71, 69, 84]⟩, .string ⟨#[47, 120]⟩, .int .i64 1, S t1, .int .i64 0]) rfl (by kernel_rfl) (by kernel_rfl) (by kernel_rfl) (fun _ _ _ h => h) (fun oi ho => ?_) trivial ?_
              · obtain rfl := Option.some.inj ho
                exact Or.inl ⟨by rfl, fun wx hSw => by go_simp⟩
              simp only [Act.put, List.setIfInBounds_toArray, List.set_cons_zero, List.set_cons_succ]
              refine ready_value (i := 23) (d := some 127) (v := S t2) (w' := ((Wq.alloc (.cells z2 5)).alloc (.cells z1 5))) rfl (by kernel_rfl) (fun oi ho => ?_) trivial ?_
              · obtain rfl := Option.some.inj ho
                exact ⟨by rfl, by go_simp⟩
              simp only [Act.put, List.setIfInBounds_toArray, List.set_cons_zero, List.set_cons_succ]
              refine take_at (i := 24) (d := some 128) (v := .agg #[.string ⟨#[71, 69, 84]⟩, .string ⟨#[47, 120]⟩, .int .i64 1, S t2]) rfl (by kernel_rfl) (by kernel_rfl) (by kernel_rfl) (fun _ _ _ h => h) (fun oi ho => ?_) trivial ?_
              · obtain rfl := Option.some.inj ho
                exact Or.inl ⟨by rfl, fun wx hSw => by go_simp⟩
              simp only [Act.put, List.setIfInBounds_toArray, List.set_cons_zero, List.set_cons_succ]
              refine take_at (i := 25) (d := some 129) (v := .agg #[.string ⟨#[71, 69, 84]⟩, .string ⟨#[47, 120]⟩, .int .i64 1, S t2, .int .i64 1]) rfl (by kernel_rfl) (by kernel_rfl) (by kernel_rfl) (fun _ _ _ h => h) (fun oi ho => ?_) trivial ?_
              · obtain rfl := Option.some.inj ho
                exact Or.inl ⟨by rfl, fun wx hSw => by go_simp⟩
              simp only [Act.put, List.setIfInBounds_toArray, List.set_cons_zero, List.set_cons_succ]
              have hrow : Row (((Wq.alloc (.cells z2 5)).alloc (.cells z1 5)).alloc (.cells #[.string ⟨#[71, 69, 84]⟩, .string ⟨#[47]⟩, .int .i64 2, .string ⟨#[]⟩, .int .i64 5, .string ⟨#[80, 85, 84]⟩, .string ⟨#[47, 97, 47, 58, 121]⟩, .int .i64 2, .string ⟨#[]⟩, .int .i64 5, .string ⟨#[80, 85, 84]⟩, .string ⟨#[47]⟩, .int .i64 2, .string ⟨#[]⟩, .int .i64 0, .string ⟨#[80, 79, 83, 84]⟩, .string ⟨#[47, 120]⟩, .int .i64 4, .string ⟨#[]⟩, .int .i64 1, .string ⟨#[71, 32, 84]⟩, .string ⟨#[47, 120]⟩, .int .i64 2, .string ⟨#[]⟩, .int .i64 1, .string ⟨#[71, 69, 84]⟩, .string ⟨#[120]⟩, .int .i64 2, .string ⟨#[]⟩, .int .i64 1, .string ⟨#[71, 69, 84]⟩, .string ⟨#[47, 120]⟩, .int .i64 5, .string ⟨#[]⟩, .int .i64 1, .string ⟨#[71, 69, 84]⟩, .string ⟨#[47, 120]⟩, .int .i64 0, .string ⟨#[]⟩, .int .i64 1, .string ⟨#[71, 69, 84]⟩, .string ⟨#[47, 120]⟩, .int .i64 2, .string ⟨#[116]⟩, .int .i64 1, .string ⟨#[71, 69, 84]⟩, .string ⟨#[47, 120]⟩, .int .i64 1, S t1, .int .i64 0, .string ⟨#[71, 69, 84]⟩, .string ⟨#[47, 120]⟩, .int .i64 1, S t2, .int .i64 1] 48)) (Wq.heap.size + 1 + 1) #[.string ⟨#[71, 69, 84]⟩, .string ⟨#[47]⟩, .int .i64 2, .string ⟨#[]⟩, .int .i64 5, .string ⟨#[80, 85, 84]⟩, .string ⟨#[47, 97, 47, 58, 121]⟩, .int .i64 2, .string ⟨#[]⟩, .int .i64 5, .string ⟨#[80, 85, 84]⟩, .string ⟨#[47]⟩, .int .i64 2, .string ⟨#[]⟩, .int .i64 0, .string ⟨#[80, 79, 83, 84]⟩, .string ⟨#[47, 120]⟩, .int .i64 4, .string ⟨#[]⟩, .int .i64 1, .string ⟨#[71, 32, 84]⟩, .string ⟨#[47, 120]⟩, .int .i64 2, .string ⟨#[]⟩, .int .i64 1, .string ⟨#[71, 69, 84]⟩, .string ⟨#[120]⟩, .int .i64 2, .string ⟨#[]⟩, .int .i64 1, .string ⟨#[71, 69, 84]⟩, .string ⟨#[47, 120]⟩, .int .i64 5, .string ⟨#[]⟩, .int .i64 1, .string ⟨#[71, 69, 84]⟩, .string ⟨#[47, 120]⟩, .int .i64 0, .string ⟨#[]⟩, .int .i64 1, .string ⟨#[71, 69, 84]⟩, .string ⟨#[47, 120]⟩, .int .i64 2, .string ⟨#[116]⟩, .int .i64 1, .string ⟨#[71, 69, 84]⟩, .string ⟨#[47, 120]⟩, .int .i64 1, S t1, .int .i64 0, .string ⟨#[71, 69, 84]⟩, .string ⟨#[47, 120]⟩, .int .i64 1, S t2, .int .i64 1] 48 := by
                have h := row_new ((Wq.alloc (.cells z2 5)).alloc (.cells z1 5)) #[.string ⟨#[71, 69, 84]⟩, .string ⟨#[47]⟩, .int .i64 2, .string ⟨#[]⟩, .int .i64 5, .string ⟨#[80, 85, 84]⟩, .string ⟨#[47, 97, 47, 58, 121]⟩, .int .i64 2, .string ⟨#[]⟩, .int .i64 5, .string ⟨#[80, 85, 84]⟩, .string ⟨#[47]⟩, .int .i64 2, .string ⟨#[]⟩, .int .i64 0, .string ⟨#[80, 79, 83, 84]⟩, .string ⟨#[47, 120]⟩, .int .i64 4, .string ⟨#[]⟩, .int .i64 1, .string ⟨#[71, 32, 84]⟩, .string ⟨#[47, 120]⟩, .int .i64 2, .string ⟨#[]⟩, .int .i64 1, .string ⟨#[71, 69, 84]⟩, .string ⟨#[120]⟩, .int .i64 2, .string ⟨#[]⟩, .int .i64 1, .string ⟨#[71, 69, 84]⟩, .string ⟨#[47, 120]⟩, .int .i64 5, .string ⟨#[]⟩, .int .i64 1, .string ⟨#[71, 69, 84]⟩, .string ⟨#[47, 120]⟩, .int .i64 0, .string ⟨#[]⟩, .int .i64 1, .string ⟨#[71, 69, 84]⟩, .string ⟨#[47, 120]⟩, .int .i64 2, .string ⟨#[116]⟩, .int .i64 1, .string ⟨#[71, 69, 84]⟩, .string ⟨#[47, 120]⟩, .int .i64 1, S t1, .int .i64 0, .string ⟨#[71, 69, 84]⟩, .string ⟨#[47, 120]⟩, .int .i64 1, S t2, .int .i64 1] 48
                rwa [alloc_size, alloc_size] at h
              refine ready_value (i := 26) (d := some 130) (v := .slice (some ⟨Wq.heap.size + 1 + 1, 0, none⟩) 11 11) (w' := (((Wq.alloc (.cells z2 5)).alloc (.cells z1 5)).alloc (.cells #[.string ⟨#[71, 69, 84]⟩, .string ⟨#[47]⟩, .int .i64 2, .string ⟨#[]⟩, .int .i64 5, .string ⟨#[80, 85, 84]⟩, .string ⟨#[47, 97, 47, 58, 121]⟩, .int .i64 2, .string ⟨#[]⟩, .int .i64 5, .string ⟨#[80, 85, 84]⟩, .string ⟨#[47]⟩, .int .i64 2, .string ⟨#[]⟩, .int .i64 0, .string ⟨#[80, 79, 83, 84]⟩, .string ⟨#[47, 120]⟩, .int .i64 4, .string ⟨#[]⟩, .int .i64 1, .string ⟨#[71, 32, 84]⟩, .string ⟨#[47, 120]⟩, .int .i64 2, .string ⟨#[]⟩, .int .i64 1, .string ⟨#[71, 69, 84]⟩, .string ⟨#[120]⟩, .int .i64 2, .string ⟨#[]⟩, .int .i64 1, .string ⟨#[71, 69, 84]⟩, .string ⟨#[47, 120]⟩, .int .i64 5, .string ⟨#[]⟩, .int .i64 1, .string ⟨#[71, 69, 84]⟩, .string ⟨#[47, 120]⟩, .int .i64 0, .string ⟨#[]⟩, .int .i64 1, .string ⟨#[71, 69, 84]⟩, .string ⟨#[47, 120]⟩, .int .i64 2, .string ⟨#[116]⟩, .int .i64 1, .string ⟨#[71, 69, 84]⟩, .string ⟨#[47, 120]⟩, .int .i64 1, S t1, .int .i64 0, .string ⟨#[71, 69, 84]⟩, .string ⟨#[47, 120]⟩, .int .i64 1, S t2, .int .i64 1] 48))) rfl (by kernel_rfl) (fun oi ho => ?_) trivial ?_
              · obtain rfl := Option.some.inj ho
                exact ⟨by rfl, by go_simp⟩
              simp only [Act.put, List.setIfInBounds_toArray, List.set_cons_zero, List.set_cons_succ]
              refine take_at (i := 27) (d := some 9) (v := .slice (some ⟨Wq.heap.size + 1 + 1, 0, none⟩) 11 11) rfl (by kernel_rfl) (by kernel_rfl) (by kernel_rfl) (fun _ _ _ h => h) (fun oi ho => ?_) trivial ?_
              · obtain rfl := Option.some.inj ho
                exact Or.inl ⟨by rfl, fun wx hSw => by go_simp⟩
              simp only [Act.put, List.setIfInBounds_toArray, List.set_cons_zero, List.set_cons_succ]
              refine wpAnyH_done (by kernel_rfl) ?_ _
              refine NoPanic.normal ?_
              have hbf : Below Wq.heap.size Wq ((Wq.alloc (.cells z2 5)).alloc (.cells z1 5)) := ((Below.refl _ _).alloc (Nat.le_refl _) _).alloc (by rw [alloc_size]; omega) _
              go_wp2
              go_meet
              exact ⟨_, rfl, hrow, (HQ.out.trans (hbf.mono HQ.out.size)).alloc (HQ.out.trans (hbf.mono HQ.out.size)).size _⟩
            · simp only [Act.put, List.setIfInBounds_toArray, List.set_cons_zero, List.set_cons_succ]
              refine take_at (i := 24) (d := some 128) (v := .agg #[.string ⟨#[71, 69, 84]⟩, .string ⟨#[47, 120]⟩, .int .i64 1, S t2]) rfl (by kernel_rfl) (by kernel_rfl) (by kernel_rfl) (fun _ _ _ h => h) (fun oi ho => ?_) trivial ?_
              · obtain rfl := Option.some.inj ho
                exact Or.inl ⟨by rfl, fun wx hSw => by go_simp⟩
              simp only [Act.put, List.setIfInBounds_toArray, List.set_cons_zero, List.set_cons_succ]
              refine take_at (i := 25) (d := some 129) (v := .agg #[.string ⟨#[71, 69, 84]⟩, .string ⟨#[47, 120]⟩, .int .i64 1, S t2, .int .i64 1]) rfl (by kernel_rfl) (by kernel_rfl) (by kernel_rfl) (fun _ _ _ h => h) (fun oi ho => ?_) trivial ?_
              · obtain rfl := Option.some.inj ho
                exact Or.inl ⟨by rfl, fun wx hSw => by go_simp⟩
              simp only [Act.put, List.setIfInBounds_toArray, List.set_cons_zero, List.set_cons_succ]
              refine ready_value (i := 19) (d := some 123) (v := S t1) (w' := ((Wq.alloc (.cells z2 5)).alloc (.cells z1 5))) rfl (by kernel_rfl) (fun oi ho => ?_) trivial ?_
              · obtain rfl := Option.some.inj ho
                exact ⟨by rfl, by go_simp⟩
              simp only [Act.put, List.setIfInBounds_toArray, List.set_cons_zero, List.set_cons_succ]
              refine take_at (i := 20) (d := some 124) (v := .agg #[.string ⟨#[71, 69, 84]⟩, .string ⟨#[47, 120]⟩, .int .i64 1, S t1]) rfl (by kernel_rfl) (by kernel_rfl) (by kernel_rfl) (fun _ _ _ h => h) (fun oi ho => ?_) trivial ?_
              · obtain rfl := Option.some.inj ho
                exact Or.inl ⟨by rfl, fun wx hSw => by go_simp⟩
              simp only [Act.put, List.setIfInBounds_toArray, List.set_cons_zero, List.set_cons_succ]
              refine take_at (i := 21) (d := some 125) (v := .agg #[.string ⟨#[71, 69, 84]⟩, .string ⟨#[47, 120]⟩, .int .i64 1, S t1, .int .i64 0]) rfl (by kernel_rfl) (by kernel_rfl) (by kernel_rfl) (fun _ _ _ h => h) (fun oi ho => ?_) trivial ?_
              · obtain rfl := Option.some.inj ho
                exact Or.inl ⟨by rfl, fun wx hSw => by go_simp⟩
              simp only [Act.put, List.setIfInBounds_toArray, List.set_cons_zero, List.set_cons_succ]
              have hrow : Row (((Wq.alloc (.cells z2 5)).alloc (.cells z1 5)).alloc (.cells #[.string ⟨#[71, 69, 84]⟩, .string ⟨#[47]⟩, .int .i64 2, .string ⟨#[]⟩, .int .i64 5, .string ⟨#[80, 85, 84]⟩, .string ⟨#[47, 97, 47, 58, 121]⟩, .int .i64 2, .string ⟨#[]⟩, .int .i64 5, .string ⟨#[80, 85, 84]⟩, .string ⟨#[47]⟩, .int .i64 2, .string ⟨#[]⟩, .int .i64 0, .string ⟨#[80, 79, 83, 84]⟩, .string ⟨#[47, 120]⟩, .int .i64 4, .string ⟨#[]⟩, .int .i64 1, .string ⟨#[71, 32, 84]⟩, .string ⟨#[47, 120]⟩, .int .i64 2, .string ⟨#[]⟩, .int .i64 1, .string ⟨#[71, 69, 84]⟩, .string ⟨#[120]⟩, .int .i64 2, .string ⟨#[]⟩, .int .i64 1, .string ⟨#[71, 69, 84]⟩, .string ⟨#[47, 120]⟩, .int .i64 5, .string ⟨#[]⟩, .int .i64 1, .string ⟨#[71, 69, 84]⟩, .string ⟨#[47, 120]⟩, .int .i64 0, .string ⟨#[]⟩, .int .i64 1, .string ⟨#[71, 69, 84]⟩, .string ⟨#[47, 120]⟩, .int .i64 2, .string ⟨#[116]⟩, .int .i64 1, .string ⟨#[71, 69, 84]⟩, .string ⟨#[47, 120]⟩, .int .i64 1, S t1, .int .i64 0, .string ⟨#[71, 69, 84]⟩, .string ⟨#[47, 120]⟩, .int .i64 1, S t2, .int .i64 1] 48)) (Wq.heap.size + 1 + 1) #[.string ⟨#[71, 69, 84]⟩, .string ⟨#[47]⟩, .int .i64 2, .string ⟨#[]⟩, .int .i64 5, .string ⟨#[80, 85, 84]⟩, .string ⟨#[47, 97, 47, 58, 121]⟩, .int .i64 2, .string ⟨#[]⟩, .int .i64 5, .string ⟨#[80, 85, 84]⟩, .string ⟨#[47]⟩, .int .i64 2, .string ⟨#[]⟩, .int .i64 0, .string ⟨#[80, 79, 83, 84]⟩, .string ⟨#[47, 120]⟩, .int .i64 4, .string ⟨#[]⟩, .int .i64 1, .string ⟨#[71, 32, 84]⟩, .string ⟨#[47, 120]⟩, .int .i64 2, .string ⟨#[]⟩, .int .i64 1, .string ⟨#[71, 69, 84]⟩, .string ⟨#[120]⟩, .int .i64 2, .string ⟨#[]⟩, .int .i64 1, .string ⟨#[71, 69, 84]⟩, .string ⟨#[47, 120]⟩, .int .i64 5, .string ⟨#[]⟩, .int .i64 1, .string ⟨#[71, 69, 84]⟩, .string ⟨#[47, 120]⟩, .int .i64 0, .string ⟨#[]⟩, .int .i64 1, .string ⟨#[71, 69, 84]⟩, .string ⟨#[47, 120]⟩, .int .i64 2, .string ⟨#[116]⟩, .int .i64 1, .string ⟨#[71, 69, 84]⟩, .string ⟨#[47, 120]⟩, .int .i64 1, S t1, .int .i64 0, .string ⟨#[71, 69, 84]⟩, .string ⟨#[47, 120]⟩, .int .i64 1, S t2, .int .i64 1] 48 := by
                have h := row_new ((Wq.alloc (.cells z2 5)).alloc (.cells z1 5)) #[.string ⟨#[71, 69, 84]⟩, .string ⟨#[47]⟩, .int .i64 2, .string ⟨#[]⟩, .int .i64 5, .string ⟨#[80, 85, 84]⟩, .string ⟨#[47, 97, 47, 58, 121]⟩, .int .i64 2, .string ⟨#[]⟩, .int .i64 5, .string ⟨#[80, 85, 84]⟩, .string ⟨#[47]⟩, .int .i64 2, .string ⟨#[]⟩, .int .i64 0, .string ⟨#[80, 79, 83, 84]⟩, .string ⟨#[47, 120]⟩, .int .i64 4, .string ⟨#[]⟩, .int .i64 1, .string ⟨#[71, 32, 84]⟩, .string ⟨#[47, 120]⟩, .int .i64 2, .string ⟨#[]⟩, .int .i64 1, .string ⟨#[71, 69, 84]⟩, .string ⟨#[120]⟩, .int .i64 2, .string ⟨#[]⟩, .int .i64 1, .string ⟨#[71, 69, 84]⟩, .string ⟨#[47, 120]⟩, .int .i64 5, .string ⟨#[]⟩, .int .i64 1, .string ⟨#[71, 69, 84]⟩, .string ⟨#[47, 120]⟩, .int .i64 0, .string ⟨#[]⟩, .int .i64 1, .string ⟨#[71, 69, 84]⟩, .string ⟨#[47, 120]⟩, .int .i64 2, .string ⟨#[116]⟩, .int .i64 1, .string ⟨#[71, 69, 84]⟩, .string ⟨#[47, 120]⟩, .int .i64 1, S t1, .int .i64 0, .string ⟨#[71, 69, 84]⟩, .string ⟨#[47, 120]⟩, .int .i64 1, S t2, .int .i64 1] 48
                rwa [alloc_size, alloc_size] at h
              refine ready_value (i := 26) (d := some 130) (v := .slice (some ⟨Wq.heap.size + 1 + 1, 0, none⟩) 11 11) (w' := (((Wq.alloc (.cells z2 5)).alloc (.cells z1 5)).alloc (.cells #[.string ⟨#[71, 69, 84]⟩, .string ⟨#[47]⟩, .int .i64 2, .string ⟨#[]⟩, .int .i64 5, .string ⟨#[80, 85, 84]⟩, .string ⟨#[47, 97, 47, 58, 121]⟩, .int .i64 2, .string ⟨#[]⟩, .int .i64 5, .string ⟨#[80, 85, 84]⟩, .string ⟨#[47]⟩, .int .i64 2, .string ⟨#[]⟩, .int .i64 0, .string ⟨#[80, 79, 83, 84]⟩, .string ⟨#[47, 120]⟩, .int .i64 4, .string ⟨#[]⟩, .int .i64 1, .string ⟨#[71, 32, 84]⟩, .string ⟨#[47, 120]⟩, .int .i64 2, .string ⟨#[]⟩, .int .i64 1, .string ⟨#[71, 69, 84]⟩, .string ⟨#[120]⟩, .int .i64 2, .string ⟨#[]⟩, .int .i64 1, .string ⟨#[71, 69, 84]⟩, .string ⟨#[47, 120]⟩, .int .i64 5, .string ⟨#[]⟩, .int .i64 1, .string ⟨#[71, 69, 84]⟩, .string ⟨#[47, 120]⟩, .int .i64 0, .string ⟨#[]⟩, .int .i64 1, .string ⟨#[71, 69, 84]⟩, .string ⟨#[47, 120]⟩, .int .i64 2, .string ⟨#[116]⟩, .int .i64 1, .string ⟨#[71, 69, 84]⟩, .string ⟨#[47, 120]⟩, .int .i64 1, S t1, .int .i64 0, .string ⟨#[71, 69, 84]⟩, .string ⟨#[47, 120]⟩, .int .i64 1, S t2, .int .i64 1] 48))) rfl (by kernel_rfl) (fun oi ho => ?_) trivial ?_
              · obtain rfl := Option.some.inj ho
                exact ⟨by rfl, by go_simp⟩
              simp only [Act.put, List.setIfInBounds_toArray, List.set_cons_zero, List.set_cons_succ]
              refine take_at (i := 27) (d := some 9) (v := .slice (some ⟨Wq.heap.size + 1 + 1, 0, none⟩) 11 11) rfl (by kernel_rfl) (by kernel_rfl) (by kernel_rfl) (fun _ _ _ h => h) (fun oi ho => ?_) trivial ?_
              · obtain rfl := Option.some.inj ho
                exact Or.inl ⟨by rfl, fun wx hSw => by go_simp⟩
              simp only [Act.put, List.setIfInBounds_toArray, List.set_cons_zero, List.set_cons_succ]
              refine wpAnyH_done (by kernel_rfl) ?_ _
              refine NoPanic.normal ?_
              have hbf : Below Wq.heap.size Wq ((Wq.alloc (.cells z2 5)).alloc (.cells z1 5)) := ((Below.refl _ _).alloc (Nat.le_refl _) _).alloc (by rw [alloc_size]; omega) _
              go_wp2
              go_meet
              exact ⟨_, rfl, hrow, (HQ.out.trans (hbf.mono HQ.out.size)).alloc (HQ.out.trans (hbf.mono HQ.out.size)).size _⟩
          · simp only [Act.put, List.setIfInBounds_toArray, List.set_cons_zero, List.set_cons_succ]
            refine take_at (i := 24) (d := some 128) (v := .agg #[.string ⟨#[71, 69, 84]⟩, .string ⟨#[47, 120]⟩, .int .i64 1, S t2]) rfl (by kernel_rfl) (by kernel_rfl) (by kernel_rfl) (fun _ _ _ h => h) (fun oi ho => ?_) trivial ?_
            · obtain rfl := Option.some.inj ho
              exact Or.inl ⟨by rfl, fun wx hSw => by go_simp⟩
            simp only [Act.put, List.setIfInBounds_toArray, List.set_cons_zero, List.set_cons_succ]
            refine take_at (i := 25) (d := some 129) (v := .agg #[.string ⟨#[71, 69, 84]⟩, .string ⟨#[47, 120]⟩, .int .i64 1, S t2, .int .i64 1]) rfl (by kernel_rfl) (by kernel_rfl) (by kernel_rfl) (fun _ _ _ h => h) (fun oi ho => ?_) trivial ?_
            · obtain rfl := Option.some.inj ho
              exact Or.inl ⟨by rfl, fun wx hSw => by go_simp⟩
            simp only [Act.put, List.setIfInBounds_toArray, List.set_cons_zero, List.set_cons_succ]
            refine ready_value (i := 18) (d := some 122) (v := .slice (some ⟨Wq.heap.size + 1, 0, none⟩) 4096 4096) (w' := ((Wq.alloc (.cells z2 5)).alloc (.cells z1 5))) rfl (by kernel_rfl) (fun oi ho => ?_) trivial ?_
            · obtain rfl := Option.some.inj ho
              exact ⟨by rfl, by go_simp⟩
            simp only [Act.put, List.setIfInBounds_toArray, List.set_cons_zero, List.set_cons_succ]
            refine ready_value (i := 19) (d := some 123) (v := S t1) (w' := ((Wq.alloc (.cells z2 5)).alloc (.cells z1 5))) rfl (by kernel_rfl) (fun oi ho => ?_) trivial ?_
            · obtain rfl := Option.some.inj ho
              exact ⟨by rfl, by go_simp⟩
            simp only [Act.put, List.setIfInBounds_toArray, List.set_cons_zero, List.set_cons_succ]
            refine take_at (i := 20) (d := some 124) (v := .agg #[.string ⟨#[71, 69, 84]⟩, .string ⟨#[47, 120]⟩, .int .i64 1, S t1]) rfl (by kernel_rfl) (by kernel_rfl) (by kernel_rfl) (fun _ _ _ h => h) (fun oi ho => ?_) trivial ?_
            · obtain rfl := Option.some.inj ho
              exact Or.inl ⟨by rfl, fun wx hSw => by go_simp⟩
            simp only [Act.put, List.setIfInBounds_toArray, List.set_cons_zero, List.set_cons_succ]
            refine take_at (i := 21) (d := some 125) (v := .agg #[.string ⟨#[71, 69, 84]⟩, .string ⟨#[47, 120]⟩, .int .i64 1, S t1, .int .i64 0]) rfl (by kernel_rfl) (by kernel_rfl) (by kernel_rfl) (fun _ _ _ h => h) (fun oi ho => ?_) trivial ?_
            · obtain rfl := Option.some.inj ho
              exact Or.inl ⟨by rfl, fun wx hSw => by go_simp⟩
            simp only [Act.put, List.setIfInBounds_toArray, List.set_cons_zero, List.set_cons_succ]
            have hrow : Row (((Wq.alloc (.cells z2 5)).alloc (.cells z1 5)).alloc (.cells #[.string ⟨#[71, 69, 84]⟩, .string ⟨#[47]⟩, .int .i64 2, .string ⟨#[]⟩, .int .i64 5, .string ⟨#[80, 85, 84]⟩, .string ⟨#[47, 97, 47, 58, 121]⟩, .int .i64 2, .string ⟨#[]⟩, .int .i64 5, .string ⟨#[80, 85, 84]⟩, .string ⟨#[47]⟩, .int .i64 2, .string ⟨#[]⟩, .int .i64 0, .string ⟨#[80, 79, 83, 84]⟩, .string ⟨#[47, 120]⟩, .int .i64 4, .string ⟨#[]⟩, .int .i64 1, .string ⟨#[71, 32, 84]⟩, .string ⟨#[47, 120]⟩, .int .i64 2, .string ⟨#[]⟩, .int .i64 1, .string ⟨#[71, 69, 84]⟩, .string ⟨#[120]⟩, .int .i64 2, .string ⟨#[]⟩, .int .i64 1, .string ⟨#[71, 69, 84]⟩, .string ⟨#[47, 120]⟩, .int .i64 5, .string ⟨#[]⟩, .int .i64 1, .string ⟨#[71, 69, 84]⟩, .string ⟨#[47, 120]⟩, .int .i64 0, .string ⟨#[]⟩, .int .i64 1, .string ⟨#[71, 69, 84]⟩, .string ⟨#[47, 120]⟩, .int .i64 2, .string ⟨#[116]⟩, .int .i64 1, .string ⟨#[71, 69, 84]⟩, .string ⟨#[47, 120]⟩, .int .i64 1, S t1, .int .i64 0, .string ⟨#[71, 69, 84]⟩, .string ⟨#[47, 120]⟩, .int .i64 1, S t2, .int .i64 1] 48)) (Wq.heap.size + 1 + 1) #[.string ⟨#[71, 69, 84]⟩, .string ⟨#[47]⟩, .int .i64 2, .string ⟨#[]⟩, .int .i64 5, .string ⟨#[80, 85, 84]⟩, .string ⟨#[47, 97, 47, 58, 121]⟩, .int .i64 2, .string ⟨#[]⟩, .int .i64 5, .string ⟨#[80, 85, 84]⟩, .string ⟨#[47]⟩, .int .i64 2, .string ⟨#[]⟩, .int .i64 0, .string ⟨#[80, 79, 83, 84]⟩, .string ⟨#[47, 120]⟩, .int .i64 4, .string ⟨#[]⟩, .int .i64 1, .string ⟨#[71, 32, 84]⟩, .string ⟨#[47, 120]⟩, .int .i64 2, .string ⟨#[]⟩, .int .i64 1, .string ⟨#[71, 69, 84]⟩, .string ⟨#[120]⟩, .int .i64 2, .string ⟨#[]⟩, .int .i64 1, .string ⟨#[71, 69, 84]⟩, .string ⟨#[47, 120]⟩, .int .i64 5, .string ⟨#[]⟩, .int .i64 1, .string ⟨#[71, 69, 84]⟩, .string ⟨#[47, 120]⟩, .int .i64 0, .string ⟨#[]⟩, .int .i64 1, .string ⟨#[71, 69, 84]⟩, .string ⟨#[47, 120]⟩, .int .i64 2, .string ⟨#[116]⟩, .int .i64 1, .string ⟨#[71, 69, 84]⟩, .string ⟨#[47, 120]⟩, .int .i64 1, S t1, .int .i64 0, .string ⟨#[71, 69, 84]⟩, .string ⟨#[47, 120]⟩, .int .i64 1, S t2, .int .i64 1] 48 := by
              have h := row_new ((Wq.alloc (.cells z2 5)).alloc (.cells z1 5)) #[.string ⟨#[71, 69, 84]⟩, .string ⟨#[47]⟩, .int .i64 2, .string ⟨#[]⟩, .int .i64 5, .string ⟨#[80, 85, 84]⟩, .string ⟨#[47, 97, 47, 58, 121]⟩, .int .i64 2, .string ⟨#[]⟩, .int .i64 5, .string ⟨#[80, 85, 84]⟩, .string ⟨#[47]⟩, .int .i64 2, .string ⟨#[]⟩, .int .i64 0, .string ⟨#[80, 79, 83, 84]⟩, .string ⟨#[47, 120]⟩, .int .i64 4, .string ⟨#[]⟩, .int .i64 1, .string ⟨#[71, 32, 84]⟩, .string ⟨#[47, 120]⟩, .int .i64 2, .string ⟨#[]⟩, .int .i64 1, .string ⟨#[71, 69, 84]⟩, .string ⟨#[120]⟩, .int .i64 2, .string ⟨#[]⟩, .int .i64 1, .string ⟨#[71, 69, 84]⟩, .string ⟨#[47, 120]⟩, .int .i64 5, .string ⟨#[]⟩, .int .i64 1, .string ⟨#[71, 69, 84]⟩, .string ⟨#[47, 120]⟩, .int .i64 0, .string ⟨#[]⟩, .int .i64 1, .string ⟨#[71, 69, 84]⟩, .string ⟨#[47, 120]⟩, .int .i64 2, .string ⟨#[116]⟩, .int .i64 1, .string ⟨#[71, 69, 84]⟩, .string ⟨#[47, 120]⟩, .int .i64 1, S t1, .int .i64 0, .string ⟨#[71, 69, 84]⟩, .string ⟨#[47, 120]⟩, .int .i64 1, S t2, .int .i64 1] 48
              rwa [alloc_size, alloc_size] at h
            refine ready_value (i := 26) (d := some 130) (v := .slice (some ⟨Wq.heap.size + 1 + 1, 0, none⟩) 11 11) (w' := (((Wq.alloc (.cells z2 5)).alloc (.cells z1 5)).alloc (.cells #[.string ⟨#[71, 69, 84]⟩, .string ⟨#[47]⟩, .int .i64 2, .string ⟨#[]⟩, .int .i64 5, .string ⟨#[80, 85, 84]⟩, .string ⟨#[47, 97, 47, 58, 121]⟩, .int .i64 2, .string ⟨#[]⟩, .int .i64 5, .string ⟨#[80, 85, 84]⟩, .string ⟨#[47]⟩, .int .i64 2, .string ⟨#[]⟩, .int .i64 0, .string ⟨#[80, 79, 83, 84]⟩, .string ⟨#[47, 120]⟩, .int .i64 4, .string ⟨#[]⟩, .int .i64 1, .string ⟨#[71, 32, 84]⟩, .string ⟨#[47, 120]⟩, .int .i64 2, .string ⟨#[]⟩, .int .i64 1, .string ⟨#[71, 69, 84]⟩, .string ⟨#[120]⟩, .int .i64 2, .string ⟨#[]⟩, .int .i64 1, .string ⟨#[71, 69, 84]⟩, .string ⟨#[47, 120]⟩, .int .i64 5, .string ⟨#[]⟩, .int .i64 1, .string ⟨#[71, 69, 84]⟩, .string ⟨#[47, 120]⟩, .int .i64 0, .string ⟨#[]⟩, .int .i64 1, .string ⟨#[71, 69, 84]⟩, .string ⟨#[47, 120]⟩, .int .i64 2, .string ⟨#[116]⟩, .int .i64 1, .string ⟨#[71, 69, 84]⟩, .string ⟨#[47, 120]⟩, .int .i64 1, S t1, .int .i64 0, .string ⟨#[71, 69, 84]⟩, .string ⟨#[47, 120]⟩, .int .i64 1, S t2, .int .i64 1] 48))) rfl (by kernel_rfl) (fun oi ho => ?_) trivial ?_
            · obtain rfl := Option.some.inj ho
              exact ⟨by rfl, by go_simp⟩
            simp only [Act.put, List.setIfInBounds_toArray, List.set_cons_zero, List.set_cons_succ]
            refine take_at (i := 27) (d := some 9) (v := .slice (some ⟨Wq.heap.size + 1 + 1, 0, none⟩) 11 11) rfl (by kernel_rfl) (by kernel_rfl) (by kernel_rfl) (fun _ _ _ h => h) (fun oi ho => ?_) trivial ?_
            · obtain rfl := Option.some.inj ho
              exact Or.inl ⟨by rfl, fun wx hSw => by go_simp⟩
            simp only [Act.put, List.setIfInBounds_toArray, List.set_cons_zero, List.set_cons_succ]
            refine wpAnyH_done (by kernel_rfl) ?_ _
            refine NoPanic.normal ?_
            have hbf : Below Wq.heap.size Wq ((Wq.alloc (.cells z2 5)).alloc (.cells z1 5)) := ((Below.refl _ _).alloc (Nat.le_refl _) _).alloc (by rw [alloc_size]; omega) _
            go_wp2
            go_meet
            exact ⟨_, rfl, hrow, (HQ.out.trans (hbf.mono HQ.out.size)).alloc (HQ.out.trans (hbf.mono HQ.out.size)).size _⟩
      case rest =>
        obtain ⟨bm, rfl, hrm, hBm⟩ := hcut
        have HM : Hid (t1.length = 4096 ∧ t2.length = 4097) := Lib.hid ⟨by rw [HT.out.1, List.length_replicate], by rw [HT.out.2, List.length_replicate]⟩
        have HRM : Hid (Row wc bm #[.string ⟨#[71, 69, 84]⟩, .string ⟨#[47]⟩, .int .i64 2, .string ⟨#[]⟩, .int .i64 5, .string ⟨#[80, 85, 84]⟩, .string ⟨#[47, 97, 47, 58, 121]⟩, .int .i64 2, .string ⟨#[]⟩, .int .i64 5, .string ⟨#[80, 85, 84]⟩, .string ⟨#[47]⟩, .int .i64 2, .string ⟨#[]⟩, .int .i64 0, .string ⟨#[80, 79, 83, 84]⟩, .string ⟨#[47, 120]⟩, .int .i64 4, .string ⟨#[]⟩, .int .i64 1, .string ⟨#[71, 32, 84]⟩, .string ⟨#[47, 120]⟩, .int .i64 2, .string ⟨#[]⟩, .int .i64 1, .string ⟨#[71, 69, 84]⟩, .string ⟨#[120]⟩, .int .i64 2, .string ⟨#[]⟩, .int .i64 1, .string ⟨#[71, 69, 84]⟩, .string ⟨#[47, 120]⟩, .int .i64 5, .string ⟨#[]⟩, .int .i64 1, .string ⟨#[71, 69, 84]⟩, .string ⟨#[47, 120]⟩, .int .i64 0, .string ⟨#[]⟩, .int .i64 1, .string ⟨#[71, 69, 84]⟩, .string ⟨#[47, 120]⟩, .int .i64 2, .string ⟨#[116]⟩, .int .i64 1, .string ⟨#[71, 69, 84]⟩, .string ⟨#[47, 120]⟩, .int .i64 1, S t1, .int .i64 0, .string ⟨#[71, 69, 84]⟩, .string ⟨#[47, 120]⟩, .int .i64 1, S t2, .int .i64 1] 48 ∧ Below w.heap.size w wc) := Lib.hid ⟨hrm, HJ.out.1.trans (hBm.mono HJ.out.1.size)⟩
        clear hrm hBm HX HT hk1 hk2 g1 hw1 HJ
        go_wp2_with fail
        go_loopw [10] (fun iv wr => ∃ j : Nat, j ≤ 11 ∧ iv = .int .i64 (j : Int) ∧ Hid (Row wr bm #[.string ⟨#[71, 69, 84]⟩, .string ⟨#[47]⟩, .int .i64 2, .string ⟨#[]⟩, .int .i64 5, .string ⟨#[80, 85, 84]⟩, .string ⟨#[47, 97, 47, 58, 121]⟩, .int .i64 2, .string ⟨#[]⟩, .int .i64 5, .string ⟨#[80, 85, 84]⟩, .string ⟨#[47]⟩, .int .i64 2, .string ⟨#[]⟩, .int .i64 0, .string ⟨#[80, 79, 83, 84]⟩, .string ⟨#[47, 120]⟩, .int .i64 4, .string ⟨#[]⟩, .int .i64 1, .string ⟨#[71, 32, 84]⟩, .string ⟨#[47, 120]⟩, .int .i64 2, .string ⟨#[]⟩, .int .i64 1, .string ⟨#[71, 69, 84]⟩, .string ⟨#[120]⟩, .int .i64 2, .string ⟨#[]⟩, .int .i64 1, .string ⟨#[71, 69, 84]⟩, .string ⟨#[47, 120]⟩, .int .i64 5, .string ⟨#[]⟩, .int .i64 1, .string ⟨#[71, 69, 84]⟩, .string ⟨#[47, 120]⟩, .int .i64 0, .string ⟨#[]⟩, .int .i64 1, .string ⟨#[71, 69, 84]⟩, .string ⟨#[47, 120]⟩, .int .i64 2, .string ⟨#[116]⟩, .int .i64 1, .string ⟨#[71, 69, 84]⟩, .string ⟨#[47, 120]⟩, .int .i64 1, S t1, .int .i64 0, .string ⟨#[71, 69, 84]⟩, .string ⟨#[47, 120]⟩, .int .i64 1, S t2, .int .i64 1] 48 ∧ Below w.heap.size w wr)) (fun iv _ => 11 - (intOf iv).toNat)
        case atStart => exact ⟨0, Nat.zero_le _, rfl, HRM⟩
        case round =>
          obtain ⟨j, hj, rfl, HK⟩ := hrel
          have hw1 : IntKind.i64.wrap ((j : Int) + 1) = (j : Int) + 1 := by rw [IntKind.wrap_i64]; omega
          by_cases hlt : j < 11
          · have g1 : decide ((j : Int) < 11) = true := decide_eq_true (by omega)
            obtain ⟨s, E, hat⟩ := mo_tab HM.out.1 HM.out.2 HK.out.1 j hlt
            have hix := fun w' => idxM bm 11 11 j hlt w'
            obtain ⟨kk, hkk⟩ : ∃ k, k = j * 5 := ⟨_, rfl⟩
            have HAT : Hid (∀ W, Below wr.heap.size wr W → (W.cell? ⟨bm, kk, none⟩ = some (S s.m) ∧ W.cell? ⟨bm, kk + 1, none⟩ = some (S s.p) ∧ W.cell? ⟨bm, kk + 2, none⟩ = some (.int .i64 s.kind) ∧ W.cell? ⟨bm, kk + 3, none⟩ = some (S s.text)) ∧ W.cell? ⟨bm, kk + 4, none⟩ = some (.int .i64 (E : Int))) := Lib.hid fun W hb => by
              have up : ∀ {q : Addr} {v : Value}, wr.cell? q = some v → W.cell? q = some v := fun hc => by rw [hb.cell (World.block_lt_of_cell? wr _ hc)]; exact hc
              rw [hkk]
              exact ⟨⟨up hat.c0, up hat.c1, up hat.c2, up hat.c3⟩, up hat.c4⟩
            have HSY := Lib.hid (And.intro hat.says hat.few)
            rw [← hkk] at hix
            clear hat hkk
            obtain ⟨sm, sp, sk, st⟩ := s
            dsimp only at HAT
            have HNW : Hid (∀ W V b, Below w.heap.size w W → RoA W V (wkL ++ [⟨sm, sp, sk, st⟩]) b 0 → Calls Tryz.prog 12 #[V] W fun e w' => Below W.heap.size W w' ∧ ∃ p, e = .returned (.tuple #[.pointer p, .int .i64 (E : Int)])) := Lib.hid fun W V b hb hA => by
              have hsm : SmallRo (wkL ++ [⟨sm, sp, sk, st⟩]) := ⟨by simp [wkL], fun r hr => by
                rcases List.mem_append.1 hr with h | h
                · exact wkL_small.2 r h
                · rw [List.mem_singleton] at h; subst h; exact HSY.out.2⟩
              refine (HC.out.new _ V b 0 W hb hA hsm).mono ?_
              rintro e W' ⟨hB, h⟩
              refine ⟨hB, ?_⟩
              rw [HSY.out.1] at h
              rcases h with ⟨_, rfl⟩ | ⟨h0, g', rfl, _⟩
              · exact ⟨_, rfl⟩
              · subst h0; exact ⟨_, rfl⟩
            obtain ⟨Wq, hWq⟩ : ∃ Wq, Wq = wr.drew := ⟨_, rfl⟩
            have hBq : Below wr.heap.size wr Wq := by rw [hWq]; exact ⟨rfl, rfl, rfl, Nat.le_refl _, fun _ _ => rfl⟩
            have HQ := Lib.hid hBq
            have hsq := (HAT.out Wq hBq).1
            have hs0 := (HAT.out wr (Below.refl _ _)).1
            clear hBq
            go_wp2
            refine wp_region_noPanic ?_
            refine wp_region_held_drew (S := fun wx => wx.cell? ⟨bm, kk, none⟩ = some (S sm) ∧ wx.cell? ⟨bm, kk + 1, none⟩ = some (S sp) ∧ wx.cell? ⟨bm, kk + 2, none⟩ = some (.int .i64 sk) ∧ wx.cell? ⟨bm, kk + 3, none⟩ = some (S st)) (by kernel_rfl) hs0 (fun _ => ?_)
            rw [← hWq]
            clear hWq hs0
            refine take_at (i := 1) (d := some 139) (v := .slice (some ⟨bm, 0, none⟩) 11 11) rfl (by kernel_rfl) (by kernel_rfl) (by kernel_rfl) (fun _ _ _ h => h) (fun oi ho => ?_) hsq ?_
            · obtain rfl := Option.some.inj ho
              exact Or.inl ⟨by rfl, fun wx hSw => by go_simp⟩
            simp only [Act.put, List.setIfInBounds_toArray, List.set_cons_zero, List.set_cons_succ]
            refine take_at (i := 2) (d := some 140) (v := .int .i64 (j : Int)) rfl (by kernel_rfl) (by kernel_rfl) (by kernel_rfl) (fun _ _ _ h => h) (fun oi ho => ?_) hsq ?_
            · obtain rfl := Option.some.inj ho
              exact Or.inl ⟨by rfl, fun wx hSw => by go_simp⟩
            simp only [Act.put, List.setIfInBounds_toArray, List.set_cons_zero, List.set_cons_succ]
            refine take_at (i := 3) (d := some 141) (v := .pointer (some ⟨bm, kk, none⟩)) rfl (by kernel_rfl) (by kernel_rfl) (by kernel_rfl) (fun _ _ _ h => h) (fun oi ho => ?_) hsq ?_
            · obtain rfl := Option.some.inj ho
              exact Or.inl ⟨by rfl, fun wx hSw => by go_simp⟩
            simp only [Act.put, List.setIfInBounds_toArray, List.set_cons_zero, List.set_cons_succ]
            refine take_at (i := 4) (d := some 142) (v := .pointer (some ⟨bm, kk, none⟩)) rfl (by kernel_rfl) (by kernel_rfl) (by kernel_rfl) (fun _ _ _ h => h) (fun oi ho => ?_) hsq ?_
            · obtain rfl := Option.some.inj ho
              exact Or.inl ⟨by rfl, fun wx hSw => by go_simp⟩
            simp only [Act.put, List.setIfInBounds_toArray, List.set_cons_zero, List.set_cons_succ]
            refine take_at (i := 5) (d := some 143) (v := .agg #[S sm, S sp, .int .i64 sk, S st]) rfl (by kernel_rfl) (by kernel_rfl) (by kernel_rfl) (fun _ _ _ h => h) (fun oi ho => ?_) hsq ?_
            · obtain rfl := Option.some.inj ho
              exact Or.inl ⟨by rfl, fun wx hSw => by obtain ⟨u0, u1, u2, u3⟩ := hSw; go_simp⟩
            simp only [Act.put, List.setIfInBounds_toArray, List.set_cons_zero, List.set_cons_succ]
            have hb1 : Below Wq.heap.size Wq (Wq.alloc (.cells #[S sm, S sp, .int .i64 sk, S st] 40)) := (Below.refl _ _).alloc (Nat.le_refl _) _
            have hs1 := (HAT.out _ (HQ.out.trans (hb1.mono HQ.out.size))).1
            refine ready_call_or_madeU (i := 0) (j := 6) (di := some 138) (dj := some 144) (vj := .slice (some ⟨Wq.heap.size, 0, none⟩) 1 1) (w1 := (Wq.alloc (.cells #[S sm, S sp, .int .i64 sk, S st] 40))) (f := 13) (args := #[]) rfl rfl (by kernel_rfl) (fun oi ho => ?_) (fun oi ho => ?_) hs1 ?_ ?_
            · obtain rfl := Option.some.inj ho
              exact ⟨by rfl, by go_simp⟩
            · obtain rfl := Option.some.inj ho
              exact ⟨by rfl, by go_simp⟩
            · refine (routes14_own Wq).mono ?_
              rintro e W5 ⟨b5, rfl, hG5, hB5⟩
              have hs5 := (HAT.out W5 (HQ.out.trans (hB5.mono HQ.out.size))).1
              refine ⟨_, rfl, hs5, ?_⟩
              simp only [Act.put, List.setIfInBounds_toArray, List.set_cons_zero, List.set_cons_succ]
              obtain ⟨W6, hW6⟩ : ∃ W, W = W5.alloc (.cells #[S sm, S sp, .int .i64 sk, S st] 40) := ⟨_, rfl⟩
              have hb56 : Below W5.heap.size W5 W6 := by rw [hW6]; exact (Below.refl _ _).alloc (Nat.le_refl _) _
              have hB6 := hB5.trans (hb56.mono hB5.size)
              have hG6 : GR Wq.heap.size (.slice (some ⟨b5, 0, none⟩) 5 5) wkL W6 := by
                unfold GR at hG5 ⊢
                rw [hW6]; exact hG5.alloc _
              have hr6' : Row W6 W5.heap.size #[S sm, S sp, .int .i64 sk, S st] 40 := by rw [hW6]; exact row_new _ _ _
              have hs6 := (HAT.out W6 (HQ.out.trans (hB6.mono HQ.out.size))).1
              refine ready_value (i := 6) (d := some 144) (v := .slice (some ⟨W5.heap.size, 0, none⟩) 1 1) (w' := W6) rfl (by kernel_rfl) (fun oi ho => ?_) hs6 ?_
              · obtain rfl := Option.some.inj ho
                exact ⟨by rfl, by rw [hW6]; go_simp⟩
              simp only [Act.put, List.setIfInBounds_toArray, List.set_cons_zero, List.set_cons_succ]
              obtain ⟨bs, hbs⟩ : ∃ b, b = W5.heap.size := ⟨_, rfl⟩
              rw [← hbs] at hr6' ⊢
              have hr6 := hr6'
              have hge := hB6.size
              have hgl := Nat.le_refl Wq.heap.size
              clear hbs hW6 hs6 hs5 hb56 hG5 hr6' hB5
              obtain ⟨a7, c7, W7, hr7, hG7, hB7⟩ := run_addR hG6 (by decide) hge ⟨sm, sp, sk, st⟩ hr6 33
              have hr7' : (Builtin.append_ #[33, 33] 33 #[.slice (some ⟨b5, 0, none⟩) 5 5, .slice (some ⟨bs, 0, none⟩) 1 1]).run Tryz.prog W6 = .ok (.slice a7 6 c7) W7 := hr7
              have hQ7 : Below Wq.heap.size Wq W7 := hB6.trans (hB7.mono hgl)
              have hw7 := HQ.out.trans (hQ7.mono HQ.out.size)
              have hs7 := (HAT.out W7 hw7).1
              obtain ⟨b7, hA7⟩ := hG7.roa
              have HN := Lib.hid (HNW.out W7 (.slice a7 6 c7) b7 (HK.out.2.trans (hw7.mono HK.out.2.size)) hA7)
              refine ready_value (i := 7) (d := some 145) (v := .slice a7 6 c7) (w' := W7) rfl (by kernel_rfl) (fun oi ho => ?_) hs7 ?_
              · obtain rfl := Option.some.inj ho
                exact ⟨by rfl, exec_append 33 33 (.tmp 138) (.tmp 144) _ _ rfl rfl rfl hr7'⟩
              simp only [Act.put, List.setIfInBounds_toArray, List.set_cons_zero, List.set_cons_succ]
              refine ready_call (i := 8) (d := some 146) (f := 12) (args := #[.slice a7 6 c7]) rfl (by kernel_rfl) (fun oi ho => ?_) ?_
              · obtain rfl := Option.some.inj ho
                exact ⟨by rfl, by go_simp⟩
              refine HN.out.mono ?_
              rintro e W8 ⟨hB8, p8, rfl⟩
              have hw8 := hw7.trans (hB8.mono hw7.size)
              obtain ⟨hs8, c4⟩ := HAT.out W8 hw8
              have HE : Hid (Row W8 bm #[.string ⟨#[71, 69, 84]⟩, .string ⟨#[47]⟩, .int .i64 2, .string ⟨#[]⟩, .int .i64 5, .string ⟨#[80, 85, 84]⟩, .string ⟨#[47, 97, 47, 58, 121]⟩, .int .i64 2, .string ⟨#[]⟩, .int .i64 5, .string ⟨#[80, 85, 84]⟩, .string ⟨#[47]⟩, .int .i64 2, .string ⟨#[]⟩, .int .i64 0, .string ⟨#[80, 79, 83, 84]⟩, .string ⟨#[47, 120]⟩, .int .i64 4, .string ⟨#[]⟩, .int .i64 1, .string ⟨#[71, 32, 84]⟩, .string ⟨#[47, 120]⟩, .int .i64 2, .string ⟨#[]⟩, .int .i64 1, .string ⟨#[71, 69, 84]⟩, .string ⟨#[120]⟩, .int .i64 2, .string ⟨#[]⟩, .int .i64 1, .string ⟨#[71, 69, 84]⟩, .string ⟨#[47, 120]⟩, .int .i64 5, .string ⟨#[]⟩, .int .i64 1, .string ⟨#[71, 69, 84]⟩, .string ⟨#[47, 120]⟩, .int .i64 0, .string ⟨#[]⟩, .int .i64 1, .string ⟨#[71, 69, 84]⟩, .string ⟨#[47, 120]⟩, .int .i64 2, .string ⟨#[116]⟩, .int .i64 1, .string ⟨#[71, 69, 84]⟩, .string ⟨#[47, 120]⟩, .int .i64 1, S t1, .int .i64 0, .string ⟨#[71, 69, 84]⟩, .string ⟨#[47, 120]⟩, .int .i64 1, S t2, .int .i64 1] 48 ∧ Below w.heap.size w W8) := Lib.hid ⟨HK.out.1.below hw8 HK.out.1.lt, HK.out.2.trans (hw8.mono HK.out.2.size)⟩
              have ne : ((E : Int) != (E : Int)) = false := by simp
              refine ⟨_, rfl, hs8, ?_⟩
              simp only [Act.put, List.setIfInBounds_toArray, List.set_cons_zero, List.set_cons_succ]
              refine take_at (i := 9) (d := some 137) (v := .tuple #[.pointer p8, .int .i64 (E : Int)]) rfl (by kernel_rfl) (by kernel_rfl) (by kernel_rfl) (fun _ _ _ h => h) (fun oi ho => ?_) hs8 ?_
              · obtain rfl := Option.some.inj ho
                exact Or.inl ⟨by rfl, fun wx hSw => by go_simp⟩
              simp only [Act.put, List.setIfInBounds_toArray, List.set_cons_zero, List.set_cons_succ]
              refine take_at (i := 10) (d := some 147) (v := .pointer p8) rfl (by kernel_rfl) (by kernel_rfl) (by kernel_rfl) (fun _ _ _ h => h) (fun oi ho => ?_) hs8 ?_
              · obtain rfl := Option.some.inj ho
                exact Or.inl ⟨by rfl, fun wx hSw => by go_simp⟩
              simp only [Act.put, List.setIfInBounds_toArray, List.set_cons_zero, List.set_cons_succ]
              refine take_at (i := 11) (d := some 148) (v := .int .i64 (E : Int)) rfl (by kernel_rfl) (by kernel_rfl) (by kernel_rfl) (fun _ _ _ h => h) (fun oi ho => ?_) hs8 ?_
              · obtain rfl := Option.some.inj ho
                exact Or.inl ⟨by rfl, fun wx hSw => by go_simp⟩
              simp only [Act.put, List.setIfInBounds_toArray, List.set_cons_zero, List.set_cons_succ]
              refine take_at (i := 12) (d := some 11) (v := .pointer p8) rfl (by kernel_rfl) (by kernel_rfl) (by kernel_rfl) (fun _ _ _ h => h) (fun oi ho => ?_) hs8 ?_
              · obtain rfl := Option.some.inj ho
                exact Or.inl ⟨by rfl, fun wx hSw => by go_simp⟩
              simp only [Act.put, List.setIfInBounds_toArray, List.set_cons_zero, List.set_cons_succ]
              refine take_at (i := 13) (d := some 12) (v := .int .i64 (E : Int)) rfl (by kernel_rfl) (by kernel_rfl) (by kernel_rfl) (fun _ _ _ h => h) (fun oi ho => ?_) hs8 ?_
              · obtain rfl := Option.some.inj ho
                exact Or.inl ⟨by rfl, fun wx hSw => by go_simp⟩
              simp only [Act.put, List.setIfInBounds_toArray, List.set_cons_zero, List.set_cons_succ]
              refine wpAnyH_done (by kernel_rfl) ?_ _
              refine NoPanic.normal ?_
              clear hsq hs1 hs7 hs8 hr7 hr7' hG7 hB7 hQ7 hw7 hw8 hB8 hA7 hG6 hr6 hB6
              go_wp2
              exact ⟨⟨j + 1, by omega, by go_num, HE⟩, by simp [intOf]; omega⟩
            · simp only [Act.put, List.setIfInBounds_toArray, List.set_cons_zero, List.set_cons_succ]
              refine ready_call (i := 0) (d := some 138) (f := 13) (args := #[]) rfl (by kernel_rfl) (fun oi ho => ?_) ?_
              · obtain rfl := Option.some.inj ho
                exact ⟨by rfl, by go_simp⟩
              refine (routes14_own (Wq.alloc (.cells #[S sm, S sp, .int .i64 sk, S st] 40))).mono ?_
              rintro e W6 ⟨b5, rfl, hG6, hB56⟩
              have hB6 := hb1.trans (hB56.mono hb1.size)
              have hs6 := (HAT.out W6 (HQ.out.trans (hB6.mono HQ.out.size))).1
              have hr6 : Row W6 Wq.heap.size #[S sm, S sp, .int .i64 sk, S st] 40 := (row_new _ _ _).below hB56 (row_new _ _ _).lt
              refine ⟨_, rfl, hs6, ?_⟩
              simp only [Act.put, List.setIfInBounds_toArray, List.set_cons_zero, List.set_cons_succ]
              obtain ⟨bs, hbs⟩ : ∃ b, b = Wq.heap.size := ⟨_, rfl⟩
              rw [← hbs] at hr6
              have hge := hB56.size
              have hgl := hb1.size
              rw [show (Value.slice (some ⟨Wq.heap.size, 0, none⟩) 1 1) = .slice (some ⟨bs, 0, none⟩) 1 1 by rw [hbs]]
              clear hbs hs6 hB56
              obtain ⟨a7, c7, W7, hr7, hG7, hB7⟩ := run_addR hG6 (by decide) hge ⟨sm, sp, sk, st⟩ hr6 33
              have hr7' : (Builtin.append_ #[33, 33] 33 #[.slice (some ⟨b5, 0, none⟩) 5 5, .slice (some ⟨bs, 0, none⟩) 1 1]).run Tryz.prog W6 = .ok (.slice a7 6 c7) W7 := hr7
              have hQ7 : Below Wq.heap.size Wq W7 := hB6.trans (hB7.mono hgl)
              have hw7 := HQ.out.trans (hQ7.mono HQ.out.size)
              have hs7 := (HAT.out W7 hw7).1
              obtain ⟨b7, hA7⟩ := hG7.roa
              have HN := Lib.hid (HNW.out W7 (.slice a7 6 c7) b7 (HK.out.2.trans (hw7.mono HK.out.2.size)) hA7)
              refine ready_value (i := 7) (d := some 145) (v := .slice a7 6 c7) (w' := W7) rfl (by kernel_rfl) (fun oi ho => ?_) hs7 ?_
              · obtain rfl := Option.some.inj ho
                exact ⟨by rfl, exec_append 33 33 (.tmp 138) (.tmp 144) _ _ rfl rfl rfl hr7'⟩
              simp only [Act.put, List.setIfInBounds_toArray, List.set_cons_zero, List.set_cons_succ]
              refine ready_call (i := 8) (d := some 146) (f := 12) (args := #[.slice a7 6 c7]) rfl (by kernel_rfl) (fun oi ho => ?_) ?_
              · obtain rfl := Option.some.inj ho
                exact ⟨by rfl, by go_simp⟩
              refine HN.out.mono ?_
              rintro e W8 ⟨hB8, p8, rfl⟩
              have hw8 := hw7.trans (hB8.mono hw7.size)
              obtain ⟨hs8, c4⟩ := HAT.out W8 hw8
              have HE : Hid (Row W8 bm #[.string ⟨#[71, 69, 84]⟩, .string ⟨#[47]⟩, .int .i64 2, .string ⟨#[]⟩, .int .i64 5, .string ⟨#[80, 85, 84]⟩, .string ⟨#[47, 97, 47, 58, 121]⟩, .int .i64 2, .string ⟨#[]⟩, .int .i64 5, .string ⟨#[80, 85, 84]⟩, .string ⟨#[47]⟩, .int .i64 2, .string ⟨#[]⟩, .int .i64 0, .string ⟨#[80, 79, 83, 84]⟩, .string ⟨#[47, 120]⟩, .int .i64 4, .string ⟨#[]⟩, .int .i64 1, .string ⟨#[71, 32, 84]⟩, .string ⟨#[47, 120]⟩, .int .i64 2, .string ⟨#[]⟩, .int .i64 1, .string ⟨#[71, 69, 84]⟩, .string ⟨#[120]⟩, .int .i64 2, .string ⟨#[]⟩, .int .i64 1, .string ⟨#[71, 69, 84]⟩, .string ⟨#[47, 120]⟩, .int .i64 5, .string ⟨#[]⟩, .int .i64 1, .string ⟨#[71, 69, 84]⟩, .string ⟨#[47, 120]⟩, .int .i64 0, .string ⟨#[]⟩, .int .i64 1, .string ⟨#[71, 69, 84]⟩, .string ⟨#[47, 120]⟩, .int .i64 2, .string ⟨#[116]⟩, .int .i64 1, .string ⟨#[71, 69, 84]⟩, .string ⟨#[47, 120]⟩, .int .i64 1, S t1, .int .i64 0, .string ⟨#[71, 69, 84]⟩, .string ⟨#[47, 120]⟩, .int .i64 1, S t2, .int .i64 1] 48 ∧ Below w.heap.size w W8) := Lib.hid ⟨HK.out.1.below hw8 HK.out.1.lt, HK.out.2.trans (hw8.mono HK.out.2.size)⟩
              have ne : ((E : Int) != (E : Int)) = false := by simp
              refine ⟨_, rfl, hs8, ?_⟩
              simp only [Act.put, List.setIfInBounds_toArray, List.set_cons_zero, List.set_cons_succ]
              refine take_at (i := 9) (d := some 137) (v := .tuple #[.pointer p8, .int .i64 (E : Int)]) rfl (by kernel_rfl) (by kernel_rfl) (by kernel_rfl) (fun _ _ _ h => h) (fun oi ho => ?_) hs8 ?_
              · obtain rfl := Option.some.inj ho
                exact Or.inl ⟨by rfl, fun wx hSw => by go_simp⟩
              simp only [Act.put, List.setIfInBounds_toArray, List.set_cons_zero, List.set_cons_succ]
              refine take_at (i := 10) (d := some 147) (v := .pointer p8) rfl (by kernel_rfl) (by kernel_rfl) (by kernel_rfl) (fun _ _ _ h => h) (fun oi ho => ?_) hs8 ?_
              · obtain rfl := Option.some.inj ho
                exact Or.inl ⟨by rfl, fun wx hSw => by go_simp⟩
              simp only [Act.put, List.setIfInBounds_toArray, List.set_cons_zero, List.set_cons_succ]
              refine take_at (i := 11) (d := some 148) (v := .int .i64 (E : Int)) rfl (by kernel_rfl) (by kernel_rfl) (by kernel_rfl) (fun _ _ _ h => h) (fun oi ho => ?_) hs8 ?_
              · obtain rfl := Option.some.inj ho
                exact Or.inl ⟨by rfl, fun wx hSw => by go_simp⟩
              simp only [Act.put, List.setIfInBounds_toArray, List.set_cons_zero, List.set_cons_succ]
              refine take_at (i := 12) (d := some 11) (v := .pointer p8) rfl (by kernel_rfl) (by kernel_rfl) (by kernel_rfl) (fun _ _ _ h => h) (fun oi ho => ?_) hs8 ?_
              · obtain rfl := Option.some.inj ho
                exact Or.inl ⟨by rfl, fun wx hSw => by go_simp⟩
              simp only [Act.put, List.setIfInBounds_toArray, List.set_cons_zero, List.set_cons_succ]
              refine take_at (i := 13) (d := some 12) (v := .int .i64 (E : Int)) rfl (by kernel_rfl) (by kernel_rfl) (by kernel_rfl) (fun _ _ _ h => h) (fun oi ho => ?_) hs8 ?_
              · obtain rfl := Option.some.inj ho
                exact Or.inl ⟨by rfl, fun wx hSw => by go_simp⟩
              simp only [Act.put, List.setIfInBounds_toArray, List.set_cons_zero, List.set_cons_succ]
              refine wpAnyH_done (by kernel_rfl) ?_ _
              refine NoPanic.normal ?_
              clear hsq hs1 hs7 hs8 hr7 hr7' hG7 hB7 hQ7 hw7 hw8 hB8 hA7 hG6 hr6 hB6
              go_wp2
              exact ⟨⟨j + 1, by omega, by go_num, HE⟩, by simp [intOf]; omega⟩
          · obtain rfl : j = 11 := by omega
            have g1 : decide ((11 : Int) < 11) = false := by decide
            have hmk := make33 wr
            obtain ⟨z33, hz33⟩ : ∃ z, z = (rtCells (List.replicate 33 ⟨[], [], 0, []⟩)).toArray := ⟨_, rfl⟩
            rw [← hz33] at hmk
            obtain ⟨W3, hW3⟩ : ∃ W, W = wr.alloc (.cells z33 40) := ⟨_, rfl⟩
            have hb3 : Below wr.heap.size wr W3 := by rw [hW3]; exact (Below.refl _ _).alloc (Nat.le_refl _) _
            have hB3 := HK.out.2.trans (hb3.mono HK.out.2.size)
            have hA3 : RoA W3 (.slice (some ⟨wr.heap.size, 0, none⟩) 33 33) (List.replicate 33 ⟨[], [], 0, []⟩) wr.heap.size 0 := roa_row (by rw [hW3]; exact row_new _ _ _) hz33 (by rw [List.length_replicate]) (Nat.le_refl _)
            have hN : Calls Tryz.prog 12 #[.slice (some ⟨wr.heap.size, 0, none⟩) 33 33] W3 fun e w' => Below W3.heap.size W3 w' ∧ ∃ p, e = .returned (.tuple #[.pointer p, .int .i64 6]) := by
              refine (HC.out.new _ _ _ 0 W3 hB3 hA3 ⟨by rw [List.length_replicate]; decide, fun r hr => by
                obtain rfl := List.eq_of_mem_replicate hr; decide⟩).mono ?_
              rintro e W' ⟨hB, h⟩
              refine ⟨hB, ?_⟩
              rw [new_full] at h
              rcases h with ⟨_, rfl⟩ | ⟨h0, _⟩
              · exact ⟨none, rfl⟩
              · cases h0
            have HN := Lib.hid hN
            rw [hW3] at HN
            have HB3 := Lib.hid hB3
            clear hN hA3 hz33 hb3 hB3
            go_wp2_with fail
            refine HN.out.mono ?_
            rintro e W4 ⟨hB4, p4, rfl⟩
            rw [← hW3] at hB4
            clear HN hW3
            have HB4 := Lib.hid (HB3.out.trans (hB4.mono HB3.out.size))
            clear hB4 HB3
            have HW := Lib.hid (wakes14_any (HC.out.up HB4.out))
            go_wp2_with fail
            refine HW.out.mono ?_
            rintro e W5 ⟨rfl, hB5⟩
            have HE := Lib.hid (HB4.out.trans (hB5.mono HB4.out.size))
            clear hB5
            go_wp2
            go_ret
            exact ⟨rfl, HE.out⟩
end Go.Proofs.YtendejpkdjkmnaaGreatDoor
