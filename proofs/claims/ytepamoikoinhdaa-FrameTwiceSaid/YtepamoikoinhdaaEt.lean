/- FrameTwice (stage 15) walked, over any package of frames. (mket.py writes it.) -/
import Derived.Test.YtepamoikoinhdaaEi
import Derived.Shelf.RegionOpen
namespace Go.Proofs.Ytepamoikoinhdaa
open Go.RowKit
attribute [local go_sem] store_one B_match B_store S_match S_store

theorem conv_u16i {P : Program} {tb ti : TypeId} (h1 : P.underlying tb = some (.int .u16)) (h2 : P.underlying ti = some (.int .i64)) (n : Nat) (hn : n < 65536) (w : World) : (convert tb ti (.int .u16 (n : Int))).run P w = .ok (.int .i64 (n : Int)) w := by
  have e : IntKind.i64.wrap (n : Int) = (n : Int) := by rw [IntKind.wrap_i64]; omega
  simp [convert, run_underlying h1, run_underlying h2, e, go_sem]
theorem maskF_nat (K : Key4) (n : Nat) (s : List UInt8) : maskF K (n : Int) s = maskN K n s := by unfold maskF; rw [if_neg (by omega)]; rfl
set_option maxRecDepth 100000 in
set_option maxHeartbeats 4000000 in
theorem twice15_any {w : World} (C : FrameI w) (K : Key4) (c : Nat) (hc : c < 65536) (s t : List UInt8) : Calls Try.prog 9 #[kV K, .int .u16 (c : Int), S s, S t] w fun e w' => e = .returned (.bool true) ∧ Below w.heap.size w w' := by
  obtain ⟨W1, hW1⟩ : ∃ W, W = w.alloc (.cells (kC K) 22) := ⟨_, rfl⟩
  have H1 : Hid (Row W1 w.heap.size (kC K) 22 ∧ Below w.heap.size w W1) := Lib.hid (by rw [hW1]; exact ⟨row_new _ _ _, (Below.refl _ _).alloc (Nat.le_refl _) _⟩)
  have HA := Lib.hid (awake15_any (C.up H1.out.2))
  have hlN := run_len_S (P := Try.prog) Try.underlying9 3 s
  have hlM := run_len_S (P := Try.prog) Try.underlying9 3 t
  have hcv := conv_u16i (P := Try.prog) (tb := 54) (ti := 3) (by kernel_rfl) (by kernel_rfl) c hc
  obtain ⟨X, hX⟩ : ∃ X, X = maskN K c s := ⟨_, rfl⟩
  obtain ⟨V, hV⟩ : ∃ X, X = maskN K (c + s.length) t := ⟨_, rfl⟩
  obtain ⟨Y, hY⟩ : ∃ X, X = s ++ t := ⟨_, rfl⟩
  obtain ⟨Z, hZ⟩ : ∃ Z, Z = X ++ V := ⟨_, rfl⟩
  have hXl : X.length = s.length := by rw [hX, mask_len]
  have hVl : V.length = t.length := by rw [hV, mask_len]
  have hXs : maskN K c X = s := by rw [hX, mask_two]
  have hZY : maskN K c Y = Z := by rw [hY, mask_app, ← hX, ← hV, hZ]
  have hlX := run_len_S (P := Try.prog) Try.underlying9 3 X
  rw [hXl] at hlX
  obtain ⟨N, hN⟩ : ∃ N, N = s.length := ⟨_, rfl⟩
  obtain ⟨L, hL⟩ : ∃ N, N = t.length := ⟨_, rfl⟩
  obtain ⟨cN, hcN⟩ : ∃ x, x = c + N := ⟨_, rfl⟩
  obtain ⟨c4, hc4⟩ : ∃ x, x = c + 4 := ⟨_, rfl⟩
  obtain ⟨cm, hcm⟩ : ∃ x : Int, x = -1 - (c : Int) := ⟨_, rfl⟩
  have hwc : IntKind.i64.wrap (c : Int) = (c : Int) := by rw [IntKind.wrap_i64]; omega
  have hadd : s.length ≤ 3000 → t.length ≤ 3000 → binOp .add 9 (S s) (S t) = pure (S Y) := fun _ _ => by rw [hY]; exact S_add 9 s t (by omega)
  have hadd2 : s.length ≤ 3000 → t.length ≤ 3000 → binOp .add 9 (S X) (S V) = pure (S Z) := fun _ _ => by rw [hZ]; exact S_add 9 X V (by omega)
  have M1 : Hid (∀ W, Below w.heap.size w W → s.length ≤ 3000 → Calls Try.prog 19 #[kV K, .int .i64 (c : Int), S s] W fun e w' => e = .returned (S X) ∧ Below W.heap.size W w') := Lib.hid fun W hb h => by
    have := C.mask K c s W hb hwc (by omega)
    rwa [maskF_nat, ← hX] at this
  have M2 : Hid (∀ W, Below w.heap.size w W → s.length ≤ 3000 → Calls Try.prog 19 #[kV K, .int .i64 (c : Int), S X] W fun e w' => e = .returned (S s) ∧ Below W.heap.size W w') := Lib.hid fun W hb h => by
    have := C.mask K c X W hb hwc (by omega)
    rwa [maskF_nat, hXs] at this
  have M3 : Hid (∀ W, Below w.heap.size w W → s.length ≤ 3000 → t.length ≤ 3000 → Calls Try.prog 19 #[kV K, .int .i64 (c : Int), S Y] W fun e w' => e = .returned (S Z) ∧ Below W.heap.size W w') := Lib.hid fun W hb h h' => by
    have := C.mask K c Y W hb hwc (by rw [hY, List.length_append]; omega)
    rwa [maskF_nat, hZY] at this
  have M4 : Hid (∀ W, Below w.heap.size w W → s.length ≤ 3000 → t.length ≤ 3000 → Calls Try.prog 19 #[kV K, .int .i64 (cN : Int), S t] W fun e w' => e = .returned (S V) ∧ Below W.heap.size W w') := Lib.hid fun W hb h h' => by
    have := C.mask K cN t W hb (by rw [IntKind.wrap_i64]; omega) (by omega)
    rwa [maskF_nat, hcN, hN, ← hV, ← hN, ← hcN] at this
  have M5 : Hid (∀ W, Below w.heap.size w W → s.length ≤ 3000 → Calls Try.prog 19 #[kV K, .int .i64 (c4 : Int), S s] W fun e w' => e = .returned (S X) ∧ Below W.heap.size W w') := Lib.hid fun W hb h => by
    have := C.mask K c4 s W hb (by rw [IntKind.wrap_i64]; omega) (by omega)
    rw [maskF_nat, hc4, mask_four, ← hX, ← hc4] at this
    exact this
  have M6 : Hid (∀ W, Below w.heap.size w W → s.length ≤ 3000 → Calls Try.prog 19 #[.agg #[B 0, B 0, B 0, B 0], .int .i64 (c : Int), S s] W fun e w' => e = .returned (S s) ∧ Below W.heap.size W w') := Lib.hid fun W hb h => by
    have := C.mask key0 c s W hb hwc (by omega)
    rwa [maskF_nat, mask_zero] at this
  have M7 : Hid (∀ W, Below w.heap.size w W → s.length ≤ 3000 → Calls Try.prog 19 #[kV K, .int .i64 cm, S s] W fun e w' => e = .returned (S s) ∧ Below W.heap.size W w') := Lib.hid fun W hb h => by
    have := C.mask K cm s W hb (by rw [IntKind.wrap_i64]; omega) (by omega)
    unfold maskF at this
    rwa [if_pos (by omega)] at this
  have q1 : binOp .eql 9 (S s) (S s) = pure (.bool true) := by rw [eql_S]; simp
  have n1 : ∀ x y, eqGuard .eql 9 x y (S s) (S s) = pure () := fun _ _ => rfl
  have q2 : binOp .eql 9 (S X) (S X) = pure (.bool true) := by rw [eql_S]; simp
  have n2 : ∀ x y, eqGuard .eql 9 x y (S X) (S X) = pure () := fun _ _ => rfl
  have q3 : binOp .eql 9 (S Z) (S Z) = pure (.bool true) := by rw [eql_S]; simp
  have n3 : ∀ x y, eqGuard .eql 9 x y (S Z) (S Z) = pure () := fun _ _ => rfl
  have b5 : ((N : Int) == (N : Int)) = true := by simp
  rw [← hN] at hlN hlX hadd hadd2 M1 M2 M3 M4 M5 M6 M7
  rw [← hL] at hlM hadd hadd2 M3 M4
  have hcH := Lib.hid (And.intro hcN (And.intro hc4 (And.intro hcm hc)))
  clear hN hL hX hV hY hZ hXl hVl hXs hZY C hc hcN hc4 hcm
  obtain ⟨k0, k1, k2, k3⟩ := K
  unfold kV at M1 M2 M3 M4 M5 M7 ⊢
  unfold kC at hW1 M1 M2 M3 M4 M5 M7 ⊢
  dsimp only at *
  rw [hW1] at HA
  go_enter Try.func9, Try.ntmps9
  go_wp2_with fail
  refine HA.out.mono ?_
  rintro e W2 ⟨rfl, hB2⟩
  rw [← hW1] at hB2
  clear HA hW1
  have hrow := H1.out.1.below hB2 H1.out.1.lt
  have HB2 := Lib.hid (And.intro hrow (H1.out.2.trans (hB2.mono H1.out.2.size)))
  clear hrow hB2 H1
  by_cases hbig : 3000 < N
  · have g1 : decide ((3000 : Int) < (N : Int)) = true := decide_eq_true (by omega)
    have g1' : decide ((N : Int) > 3000) = true := decide_eq_true (by omega)
    go_wp2
    go_ret
    exact ⟨rfl, HB2.out.2⟩
  by_cases hbig2 : 3000 < L
  · have g1 : decide ((3000 : Int) < (N : Int)) = false := decide_eq_false (by omega)
    have g1' : decide ((N : Int) > 3000) = false := decide_eq_false (by omega)
    have g2 : decide ((3000 : Int) < (L : Int)) = true := decide_eq_true (by omega)
    have g2' : decide ((L : Int) > 3000) = true := decide_eq_true (by omega)
    go_wp2
    go_ret
    exact ⟨rfl, HB2.out.2⟩
  have g1 : decide ((3000 : Int) < (N : Int)) = false := decide_eq_false (by omega)
  have g1' : decide ((N : Int) > 3000) = false := decide_eq_false (by omega)
  have g2 : decide ((3000 : Int) < (L : Int)) = false := decide_eq_false (by omega)
  have g2' : decide ((L : Int) > 3000) = false := decide_eq_false (by omega)
  replace hadd := hadd (by omega) (by omega)
  replace hadd2 := hadd2 (by omega) (by omega)
  have wN : IntKind.i64.wrap ((c : Int) + (N : Int)) = (cN : Int) := by rw [IntKind.wrap_i64]; have := hcH.out; omega
  have w4 : IntKind.i64.wrap ((c : Int) + 4) = (c4 : Int) := by rw [IntKind.wrap_i64]; have := hcH.out; omega
  have wm : IntKind.i64.wrap (-1 - (c : Int)) = cm := by rw [IntKind.wrap_i64]; have := hcH.out; omega
  clear hcH
  have hS : ∀ wx, Row wx w.heap.size (kC ⟨k0, k1, k2, k3⟩) 22 → wx.cell? ⟨w.heap.size, 0, none⟩ = some (B k0) ∧ wx.cell? ⟨w.heap.size, 1, none⟩ = some (B k1) ∧ wx.cell? ⟨w.heap.size, 2, none⟩ = some (B k2) ∧ wx.cell? ⟨w.heap.size, 3, none⟩ = some (B k3) := fun wx h => ⟨cell_of_row wx _ 0 _ _ (0, 0) h, cell_of_row wx _ 1 _ _ (0, 0) h, cell_of_row wx _ 2 _ _ (0, 0) h, cell_of_row wx _ 3 _ _ (0, 0) h⟩
  have HS := Lib.hid hS
  have HM1 := Lib.hid (M1.out W2 HB2.out.2 (by omega))
  obtain ⟨u0, u1, u2, u3⟩ := hS W2 HB2.out.1
  go_wp2_with fail
  refine HM1.out.mono ?_
  rintro e W3 ⟨rfl, hB3⟩
  clear HM1 u0 u1 u2 u3
  have hr3 := HB2.out.1.below hB3 HB2.out.1.lt
  have H3 := Lib.hid (And.intro hr3 (HB2.out.2.trans (hB3.mono HB2.out.2.size)))
  clear hr3 hB3 HB2
  go_wp2
  obtain ⟨Wq, hWq⟩ : ∃ Wq, Wq = W3.drew := ⟨_, rfl⟩
  have hBq : Below W3.heap.size W3 Wq := by rw [hWq]; exact ⟨rfl, rfl, rfl, Nat.le_refl _, fun _ _ => rfl⟩
  have HQ0 := Lib.hid (And.intro (H3.out.1.below hBq H3.out.1.lt) (H3.out.2.trans (hBq.mono H3.out.2.size)))
  have HS0 := Lib.hid (hS Wq HQ0.out.1)
  refine wp_region_noPanic ?_
  refine wp_region_held_drew (S := fun wx => wx.cell? ⟨w.heap.size, 0, none⟩ = some (B k0) ∧ wx.cell? ⟨w.heap.size, 1, none⟩ = some (B k1) ∧ wx.cell? ⟨w.heap.size, 2, none⟩ = some (B k2) ∧ wx.cell? ⟨w.heap.size, 3, none⟩ = some (B k3)) (by kernel_rfl) (hS W3 H3.out.1) (fun _ => ?_)
  rw [← hWq]
  clear hWq hS hBq
  refine take_at (i := 0) (d := some 27) (v := .agg #[B k0, B k1, B k2, B k3]) rfl (by kernel_rfl) (by kernel_rfl) (by kernel_rfl) (fun _ _ _ h => h) (fun oi ho => ?_) HS0.out ?_
  · obtain rfl := Option.some.inj ho
    exact Or.inl ⟨by rfl, fun wx hSw => by obtain ⟨u0, u1, u2, u3⟩ := hSw; go_simp⟩
  simp only [Act.put, List.setIfInBounds_toArray, List.set_cons_zero, List.set_cons_succ]
  refine take_at (i := 1) (d := some 28) (v := .int .i64 (c : Int)) rfl (by kernel_rfl) (by kernel_rfl) (by kernel_rfl) (fun _ _ _ h => h) (fun oi ho => ?_) HS0.out ?_
  · obtain rfl := Option.some.inj ho
    exact Or.inl ⟨by rfl, fun wx hSw => by obtain ⟨u0, u1, u2, u3⟩ := hSw; go_simp⟩
  simp only [Act.put, List.setIfInBounds_toArray, List.set_cons_zero, List.set_cons_succ]
  refine take_at (i := 2) (d := some 29) (v := S X) rfl (by kernel_rfl) (by kernel_rfl) (by kernel_rfl) (fun _ _ _ h => h) (fun oi ho => ?_) HS0.out ?_
  · obtain rfl := Option.some.inj ho
    exact Or.inl ⟨by rfl, fun wx hSw => by obtain ⟨u0, u1, u2, u3⟩ := hSw; go_simp⟩
  simp only [Act.put, List.setIfInBounds_toArray, List.set_cons_zero, List.set_cons_succ]
  refine take_at (i := 4) (d := some 31) (v := S s) rfl (by kernel_rfl) (by kernel_rfl) (by kernel_rfl) (fun _ _ _ h => h) (fun oi ho => ?_) HS0.out ?_
  · obtain rfl := Option.some.inj ho
    exact Or.inl ⟨by rfl, fun wx hSw => by obtain ⟨u0, u1, u2, u3⟩ := hSw; go_simp⟩
  simp only [Act.put, List.setIfInBounds_toArray, List.set_cons_zero, List.set_cons_succ]
  refine ready_call (i := 3) (d := some 30) (f := 19) (args := #[.agg #[B k0, B k1, B k2, B k3], .int .i64 (c : Int), S X]) rfl (by kernel_rfl) (fun oi ho => ?_) ?_
  · obtain rfl := Option.some.inj ho
    exact ⟨by rfl, by go_simp⟩
  refine (M2.out Wq HQ0.out.2 (by omega)).mono ?_
  rintro e V1 ⟨rfl, hB⟩
  have hr := HQ0.out.1.below hB HQ0.out.1.lt
  have HQ1 := Lib.hid (And.intro hr (HQ0.out.2.trans (hB.mono HQ0.out.2.size)))
  have HS1 := Lib.hid (HS.out V1 hr)
  clear hr hB HQ0 HS0
  refine ⟨_, rfl, HS1.out, ?_⟩
  simp only [Act.put, List.setIfInBounds_toArray, List.set_cons_zero, List.set_cons_succ]
  refine take_at (i := 5) (d := some 32) (v := .bool true) rfl (by kernel_rfl) (by kernel_rfl) (by kernel_rfl) (fun _ _ _ h => h) (fun oi ho => ?_) HS1.out ?_
  · obtain rfl := Option.some.inj ho
    exact Or.inl ⟨by rfl, fun wx hSw => by obtain ⟨u0, u1, u2, u3⟩ := hSw; go_simp⟩
  simp only [Act.put, List.setIfInBounds_toArray, List.set_cons_zero, List.set_cons_succ]
  refine take_at (i := 6) (d := some 33) (v := .bool true) rfl (by kernel_rfl) (by kernel_rfl) (by kernel_rfl) (fun _ _ _ h => h) (fun oi ho => ?_) HS1.out ?_
  · obtain rfl := Option.some.inj ho
    exact Or.inl ⟨by rfl, fun wx hSw => by obtain ⟨u0, u1, u2, u3⟩ := hSw; go_simp⟩
  simp only [Act.put, List.setIfInBounds_toArray, List.set_cons_zero, List.set_cons_succ]
  refine take_at (i := 7) (d := some 34) (v := S X) rfl (by kernel_rfl) (by kernel_rfl) (by kernel_rfl) (fun _ _ _ h => h) (fun oi ho => ?_) HS1.out ?_
  · obtain rfl := Option.some.inj ho
    exact Or.inl ⟨by rfl, fun wx hSw => by obtain ⟨u0, u1, u2, u3⟩ := hSw; go_simp⟩
  simp only [Act.put, List.setIfInBounds_toArray, List.set_cons_zero, List.set_cons_succ]
  refine take_at (i := 8) (d := some 35) (v := .int .i64 (N : Int)) rfl (by kernel_rfl) (by kernel_rfl) (by kernel_rfl) (fun _ _ _ h => h) (fun oi ho => ?_) HS1.out ?_
  · obtain rfl := Option.some.inj ho
    exact Or.inl ⟨by rfl, fun wx hSw => by obtain ⟨u0, u1, u2, u3⟩ := hSw; go_simp⟩
  simp only [Act.put, List.setIfInBounds_toArray, List.set_cons_zero, List.set_cons_succ]
  refine take_at (i := 9) (d := some 36) (v := S s) rfl (by kernel_rfl) (by kernel_rfl) (by kernel_rfl) (fun _ _ _ h => h) (fun oi ho => ?_) HS1.out ?_
  · obtain rfl := Option.some.inj ho
    exact Or.inl ⟨by rfl, fun wx hSw => by obtain ⟨u0, u1, u2, u3⟩ := hSw; go_simp⟩
  simp only [Act.put, List.setIfInBounds_toArray, List.set_cons_zero, List.set_cons_succ]
  refine take_at (i := 10) (d := some 37) (v := .int .i64 (N : Int)) rfl (by kernel_rfl) (by kernel_rfl) (by kernel_rfl) (fun _ _ _ h => h) (fun oi ho => ?_) HS1.out ?_
  · obtain rfl := Option.some.inj ho
    exact Or.inl ⟨by rfl, fun wx hSw => by obtain ⟨u0, u1, u2, u3⟩ := hSw; go_simp⟩
  simp only [Act.put, List.setIfInBounds_toArray, List.set_cons_zero, List.set_cons_succ]
  refine take_at (i := 11) (d := some 38) (v := .bool true) rfl (by kernel_rfl) (by kernel_rfl) (by kernel_rfl) (fun _ _ _ h => h) (fun oi ho => ?_) HS1.out ?_
  · obtain rfl := Option.some.inj ho
    exact Or.inl ⟨by rfl, fun wx hSw => by obtain ⟨u0, u1, u2, u3⟩ := hSw; go_simp⟩
  simp only [Act.put, List.setIfInBounds_toArray, List.set_cons_zero, List.set_cons_succ]
  refine take_at (i := 12) (d := some 39) (v := .bool true) rfl (by kernel_rfl) (by kernel_rfl) (by kernel_rfl) (fun _ _ _ h => h) (fun oi ho => ?_) HS1.out ?_
  · obtain rfl := Option.some.inj ho
    exact Or.inl ⟨by rfl, fun wx hSw => by obtain ⟨u0, u1, u2, u3⟩ := hSw; go_simp⟩
  simp only [Act.put, List.setIfInBounds_toArray, List.set_cons_zero, List.set_cons_succ]
  refine take_at (i := 13) (d := some 40) (v := .bool true) rfl (by kernel_rfl) (by kernel_rfl) (by kernel_rfl) (fun _ _ _ h => h) (fun oi ho => ?_) HS1.out ?_
  · obtain rfl := Option.some.inj ho
    exact Or.inl ⟨by rfl, fun wx hSw => by obtain ⟨u0, u1, u2, u3⟩ := hSw; go_simp⟩
  simp only [Act.put, List.setIfInBounds_toArray, List.set_cons_zero, List.set_cons_succ]
  refine take_at (i := 14) (d := some 41) (v := .agg #[B k0, B k1, B k2, B k3]) rfl (by kernel_rfl) (by kernel_rfl) (by kernel_rfl) (fun _ _ _ h => h) (fun oi ho => ?_) HS1.out ?_
  · obtain rfl := Option.some.inj ho
    exact Or.inl ⟨by rfl, fun wx hSw => by obtain ⟨u0, u1, u2, u3⟩ := hSw; go_simp⟩
  simp only [Act.put, List.setIfInBounds_toArray, List.set_cons_zero, List.set_cons_succ]
  refine take_at (i := 15) (d := some 42) (v := .int .i64 (c : Int)) rfl (by kernel_rfl) (by kernel_rfl) (by kernel_rfl) (fun _ _ _ h => h) (fun oi ho => ?_) HS1.out ?_
  · obtain rfl := Option.some.inj ho
    exact Or.inl ⟨by rfl, fun wx hSw => by obtain ⟨u0, u1, u2, u3⟩ := hSw; go_simp⟩
  simp only [Act.put, List.setIfInBounds_toArray, List.set_cons_zero, List.set_cons_succ]
  refine take_at (i := 16) (d := some 43) (v := S s) rfl (by kernel_rfl) (by kernel_rfl) (by kernel_rfl) (fun _ _ _ h => h) (fun oi ho => ?_) HS1.out ?_
  · obtain rfl := Option.some.inj ho
    exact Or.inl ⟨by rfl, fun wx hSw => by obtain ⟨u0, u1, u2, u3⟩ := hSw; go_simp⟩
  simp only [Act.put, List.setIfInBounds_toArray, List.set_cons_zero, List.set_cons_succ]
  refine take_at (i := 17) (d := some 44) (v := S t) rfl (by kernel_rfl) (by kernel_rfl) (by kernel_rfl) (fun _ _ _ h => h) (fun oi ho => ?_) HS1.out ?_
  · obtain rfl := Option.some.inj ho
    exact Or.inl ⟨by rfl, fun wx hSw => by obtain ⟨u0, u1, u2, u3⟩ := hSw; go_simp⟩
  simp only [Act.put, List.setIfInBounds_toArray, List.set_cons_zero, List.set_cons_succ]
  refine take_at (i := 18) (d := some 45) (v := S Y) rfl (by kernel_rfl) (by kernel_rfl) (by kernel_rfl) (fun _ _ _ h => h) (fun oi ho => ?_) HS1.out ?_
  · obtain rfl := Option.some.inj ho
    exact Or.inl ⟨by rfl, fun wx hSw => by obtain ⟨u0, u1, u2, u3⟩ := hSw; go_simp⟩
  simp only [Act.put, List.setIfInBounds_toArray, List.set_cons_zero, List.set_cons_succ]
  refine take_at (i := 20) (d := some 47) (v := S X) rfl (by kernel_rfl) (by kernel_rfl) (by kernel_rfl) (fun _ _ _ h => h) (fun oi ho => ?_) HS1.out ?_
  · obtain rfl := Option.some.inj ho
    exact Or.inl ⟨by rfl, fun wx hSw => by obtain ⟨u0, u1, u2, u3⟩ := hSw; go_simp⟩
  simp only [Act.put, List.setIfInBounds_toArray, List.set_cons_zero, List.set_cons_succ]
  refine take_at (i := 21) (d := some 48) (v := .agg #[B k0, B k1, B k2, B k3]) rfl (by kernel_rfl) (by kernel_rfl) (by kernel_rfl) (fun _ _ _ h => h) (fun oi ho => ?_) HS1.out ?_
  · obtain rfl := Option.some.inj ho
    exact Or.inl ⟨by rfl, fun wx hSw => by obtain ⟨u0, u1, u2, u3⟩ := hSw; go_simp⟩
  simp only [Act.put, List.setIfInBounds_toArray, List.set_cons_zero, List.set_cons_succ]
  refine take_at (i := 22) (d := some 49) (v := .int .i64 (c : Int)) rfl (by kernel_rfl) (by kernel_rfl) (by kernel_rfl) (fun _ _ _ h => h) (fun oi ho => ?_) HS1.out ?_
  · obtain rfl := Option.some.inj ho
    exact Or.inl ⟨by rfl, fun wx hSw => by obtain ⟨u0, u1, u2, u3⟩ := hSw; go_simp⟩
  simp only [Act.put, List.setIfInBounds_toArray, List.set_cons_zero, List.set_cons_succ]
  refine take_at (i := 23) (d := some 50) (v := S s) rfl (by kernel_rfl) (by kernel_rfl) (by kernel_rfl) (fun _ _ _ h => h) (fun oi ho => ?_) HS1.out ?_
  · obtain rfl := Option.some.inj ho
    exact Or.inl ⟨by rfl, fun wx hSw => by obtain ⟨u0, u1, u2, u3⟩ := hSw; go_simp⟩
  simp only [Act.put, List.setIfInBounds_toArray, List.set_cons_zero, List.set_cons_succ]
  refine take_at (i := 24) (d := some 51) (v := .int .i64 (N : Int)) rfl (by kernel_rfl) (by kernel_rfl) (by kernel_rfl) (fun _ _ _ h => h) (fun oi ho => ?_) HS1.out ?_
  · obtain rfl := Option.some.inj ho
    exact Or.inl ⟨by rfl, fun wx hSw => by obtain ⟨u0, u1, u2, u3⟩ := hSw; go_simp⟩
  simp only [Act.put, List.setIfInBounds_toArray, List.set_cons_zero, List.set_cons_succ]
  refine take_at (i := 25) (d := some 52) (v := .int .i64 (cN : Int)) rfl (by kernel_rfl) (by kernel_rfl) (by kernel_rfl) (fun _ _ _ h => h) (fun oi ho => ?_) HS1.out ?_
  · obtain rfl := Option.some.inj ho
    exact Or.inl ⟨by rfl, fun wx hSw => by obtain ⟨u0, u1, u2, u3⟩ := hSw; go_simp⟩
  simp only [Act.put, List.setIfInBounds_toArray, List.set_cons_zero, List.set_cons_succ]
  refine take_at (i := 26) (d := some 53) (v := S t) rfl (by kernel_rfl) (by kernel_rfl) (by kernel_rfl) (fun _ _ _ h => h) (fun oi ho => ?_) HS1.out ?_
  · obtain rfl := Option.some.inj ho
    exact Or.inl ⟨by rfl, fun wx hSw => by obtain ⟨u0, u1, u2, u3⟩ := hSw; go_simp⟩
  simp only [Act.put, List.setIfInBounds_toArray, List.set_cons_zero, List.set_cons_succ]
  refine ready_call (i := 19) (d := some 46) (f := 19) (args := #[.agg #[B k0, B k1, B k2, B k3], .int .i64 (c : Int), S Y]) rfl (by kernel_rfl) (fun oi ho => ?_) ?_
  · obtain rfl := Option.some.inj ho
    exact ⟨by rfl, by go_simp⟩
  refine (M3.out V1 HQ1.out.2 (by omega) (by omega)).mono ?_
  rintro e V2 ⟨rfl, hB⟩
  have hr := HQ1.out.1.below hB HQ1.out.1.lt
  have HQ2 := Lib.hid (And.intro hr (HQ1.out.2.trans (hB.mono HQ1.out.2.size)))
  have HS2 := Lib.hid (HS.out V2 hr)
  clear hr hB HQ1 HS1
  refine ⟨_, rfl, HS2.out, ?_⟩
  simp only [Act.put, List.setIfInBounds_toArray, List.set_cons_zero, List.set_cons_succ]
  refine ready_call (i := 27) (d := some 54) (f := 19) (args := #[.agg #[B k0, B k1, B k2, B k3], .int .i64 (cN : Int), S t]) rfl (by kernel_rfl) (fun oi ho => ?_) ?_
  · obtain rfl := Option.some.inj ho
    exact ⟨by rfl, by go_simp⟩
  refine (M4.out V2 HQ2.out.2 (by omega) (by omega)).mono ?_
  rintro e V3 ⟨rfl, hB⟩
  have hr := HQ2.out.1.below hB HQ2.out.1.lt
  have HQ3 := Lib.hid (And.intro hr (HQ2.out.2.trans (hB.mono HQ2.out.2.size)))
  have HS3 := Lib.hid (HS.out V3 hr)
  clear hr hB HQ2 HS2
  refine ⟨_, rfl, HS3.out, ?_⟩
  simp only [Act.put, List.setIfInBounds_toArray, List.set_cons_zero, List.set_cons_succ]
  refine take_at (i := 28) (d := some 55) (v := S Z) rfl (by kernel_rfl) (by kernel_rfl) (by kernel_rfl) (fun _ _ _ h => h) (fun oi ho => ?_) HS3.out ?_
  · obtain rfl := Option.some.inj ho
    exact Or.inl ⟨by rfl, fun wx hSw => by obtain ⟨u0, u1, u2, u3⟩ := hSw; go_simp⟩
  simp only [Act.put, List.setIfInBounds_toArray, List.set_cons_zero, List.set_cons_succ]
  refine take_at (i := 29) (d := some 56) (v := .bool true) rfl (by kernel_rfl) (by kernel_rfl) (by kernel_rfl) (fun _ _ _ h => h) (fun oi ho => ?_) HS3.out ?_
  · obtain rfl := Option.some.inj ho
    exact Or.inl ⟨by rfl, fun wx hSw => by obtain ⟨u0, u1, u2, u3⟩ := hSw; go_simp⟩
  simp only [Act.put, List.setIfInBounds_toArray, List.set_cons_zero, List.set_cons_succ]
  refine take_at (i := 30) (d := some 57) (v := .bool true) rfl (by kernel_rfl) (by kernel_rfl) (by kernel_rfl) (fun _ _ _ h => h) (fun oi ho => ?_) HS3.out ?_
  · obtain rfl := Option.some.inj ho
    exact Or.inl ⟨by rfl, fun wx hSw => by obtain ⟨u0, u1, u2, u3⟩ := hSw; go_simp⟩
  simp only [Act.put, List.setIfInBounds_toArray, List.set_cons_zero, List.set_cons_succ]
  refine take_at (i := 31) (d := some 58) (v := .bool true) rfl (by kernel_rfl) (by kernel_rfl) (by kernel_rfl) (fun _ _ _ h => h) (fun oi ho => ?_) HS3.out ?_
  · obtain rfl := Option.some.inj ho
    exact Or.inl ⟨by rfl, fun wx hSw => by obtain ⟨u0, u1, u2, u3⟩ := hSw; go_simp⟩
  simp only [Act.put, List.setIfInBounds_toArray, List.set_cons_zero, List.set_cons_succ]
  refine take_at (i := 32) (d := some 59) (v := .agg #[B k0, B k1, B k2, B k3]) rfl (by kernel_rfl) (by kernel_rfl) (by kernel_rfl) (fun _ _ _ h => h) (fun oi ho => ?_) HS3.out ?_
  · obtain rfl := Option.some.inj ho
    exact Or.inl ⟨by rfl, fun wx hSw => by obtain ⟨u0, u1, u2, u3⟩ := hSw; go_simp⟩
  simp only [Act.put, List.setIfInBounds_toArray, List.set_cons_zero, List.set_cons_succ]
  refine take_at (i := 33) (d := some 60) (v := .int .i64 (c : Int)) rfl (by kernel_rfl) (by kernel_rfl) (by kernel_rfl) (fun _ _ _ h => h) (fun oi ho => ?_) HS3.out ?_
  · obtain rfl := Option.some.inj ho
    exact Or.inl ⟨by rfl, fun wx hSw => by obtain ⟨u0, u1, u2, u3⟩ := hSw; go_simp⟩
  simp only [Act.put, List.setIfInBounds_toArray, List.set_cons_zero, List.set_cons_succ]
  refine take_at (i := 34) (d := some 61) (v := .int .i64 (c4 : Int)) rfl (by kernel_rfl) (by kernel_rfl) (by kernel_rfl) (fun _ _ _ h => h) (fun oi ho => ?_) HS3.out ?_
  · obtain rfl := Option.some.inj ho
    exact Or.inl ⟨by rfl, fun wx hSw => by obtain ⟨u0, u1, u2, u3⟩ := hSw; go_simp⟩
  simp only [Act.put, List.setIfInBounds_toArray, List.set_cons_zero, List.set_cons_succ]
  refine take_at (i := 35) (d := some 62) (v := S s) rfl (by kernel_rfl) (by kernel_rfl) (by kernel_rfl) (fun _ _ _ h => h) (fun oi ho => ?_) HS3.out ?_
  · obtain rfl := Option.some.inj ho
    exact Or.inl ⟨by rfl, fun wx hSw => by obtain ⟨u0, u1, u2, u3⟩ := hSw; go_simp⟩
  simp only [Act.put, List.setIfInBounds_toArray, List.set_cons_zero, List.set_cons_succ]
  refine take_at (i := 37) (d := some 64) (v := S X) rfl (by kernel_rfl) (by kernel_rfl) (by kernel_rfl) (fun _ _ _ h => h) (fun oi ho => ?_) HS3.out ?_
  · obtain rfl := Option.some.inj ho
    exact Or.inl ⟨by rfl, fun wx hSw => by obtain ⟨u0, u1, u2, u3⟩ := hSw; go_simp⟩
  simp only [Act.put, List.setIfInBounds_toArray, List.set_cons_zero, List.set_cons_succ]
  refine ready_call (i := 36) (d := some 63) (f := 19) (args := #[.agg #[B k0, B k1, B k2, B k3], .int .i64 (c4 : Int), S s]) rfl (by kernel_rfl) (fun oi ho => ?_) ?_
  · obtain rfl := Option.some.inj ho
    exact ⟨by rfl, by go_simp⟩
  refine (M5.out V3 HQ3.out.2 (by omega)).mono ?_
  rintro e V4 ⟨rfl, hB⟩
  have hr := HQ3.out.1.below hB HQ3.out.1.lt
  have HQ4 := Lib.hid (And.intro hr (HQ3.out.2.trans (hB.mono HQ3.out.2.size)))
  have HS4 := Lib.hid (HS.out V4 hr)
  clear hr hB HQ3 HS3
  refine ⟨_, rfl, HS4.out, ?_⟩
  simp only [Act.put, List.setIfInBounds_toArray, List.set_cons_zero, List.set_cons_succ]
  refine take_at (i := 38) (d := some 65) (v := .bool true) rfl (by kernel_rfl) (by kernel_rfl) (by kernel_rfl) (fun _ _ _ h => h) (fun oi ho => ?_) HS4.out ?_
  · obtain rfl := Option.some.inj ho
    exact Or.inl ⟨by rfl, fun wx hSw => by obtain ⟨u0, u1, u2, u3⟩ := hSw; go_simp⟩
  simp only [Act.put, List.setIfInBounds_toArray, List.set_cons_zero, List.set_cons_succ]
  refine take_at (i := 39) (d := some 66) (v := .bool true) rfl (by kernel_rfl) (by kernel_rfl) (by kernel_rfl) (fun _ _ _ h => h) (fun oi ho => ?_) HS4.out ?_
  · obtain rfl := Option.some.inj ho
    exact Or.inl ⟨by rfl, fun wx hSw => by obtain ⟨u0, u1, u2, u3⟩ := hSw; go_simp⟩
  simp only [Act.put, List.setIfInBounds_toArray, List.set_cons_zero, List.set_cons_succ]
  refine take_at (i := 40) (d := some 67) (v := .bool true) rfl (by kernel_rfl) (by kernel_rfl) (by kernel_rfl) (fun _ _ _ h => h) (fun oi ho => ?_) HS4.out ?_
  · obtain rfl := Option.some.inj ho
    exact Or.inl ⟨by rfl, fun wx hSw => by obtain ⟨u0, u1, u2, u3⟩ := hSw; go_simp⟩
  simp only [Act.put, List.setIfInBounds_toArray, List.set_cons_zero, List.set_cons_succ]
  refine take_at (i := 41) (d := some 68) (v := .agg #[B 0, B 0, B 0, B 0]) rfl (by kernel_rfl) (by kernel_rfl) (by kernel_rfl) (fun _ _ _ h => h) (fun oi ho => ?_) HS4.out ?_
  · obtain rfl := Option.some.inj ho
    exact Or.inl ⟨by rfl, fun wx hSw => by obtain ⟨u0, u1, u2, u3⟩ := hSw; (try go_simp) <;> rfl⟩
  simp only [Act.put, List.setIfInBounds_toArray, List.set_cons_zero, List.set_cons_succ]
  refine take_at (i := 42) (d := some 69) (v := .int .i64 (c : Int)) rfl (by kernel_rfl) (by kernel_rfl) (by kernel_rfl) (fun _ _ _ h => h) (fun oi ho => ?_) HS4.out ?_
  · obtain rfl := Option.some.inj ho
    exact Or.inl ⟨by rfl, fun wx hSw => by obtain ⟨u0, u1, u2, u3⟩ := hSw; go_simp⟩
  simp only [Act.put, List.setIfInBounds_toArray, List.set_cons_zero, List.set_cons_succ]
  refine take_at (i := 43) (d := some 70) (v := S s) rfl (by kernel_rfl) (by kernel_rfl) (by kernel_rfl) (fun _ _ _ h => h) (fun oi ho => ?_) HS4.out ?_
  · obtain rfl := Option.some.inj ho
    exact Or.inl ⟨by rfl, fun wx hSw => by obtain ⟨u0, u1, u2, u3⟩ := hSw; go_simp⟩
  simp only [Act.put, List.setIfInBounds_toArray, List.set_cons_zero, List.set_cons_succ]
  refine take_at (i := 45) (d := some 72) (v := S s) rfl (by kernel_rfl) (by kernel_rfl) (by kernel_rfl) (fun _ _ _ h => h) (fun oi ho => ?_) HS4.out ?_
  · obtain rfl := Option.some.inj ho
    exact Or.inl ⟨by rfl, fun wx hSw => by obtain ⟨u0, u1, u2, u3⟩ := hSw; go_simp⟩
  simp only [Act.put, List.setIfInBounds_toArray, List.set_cons_zero, List.set_cons_succ]
  refine ready_call (i := 44) (d := some 71) (f := 19) (args := #[.agg #[B 0, B 0, B 0, B 0], .int .i64 (c : Int), S s]) rfl (by kernel_rfl) (fun oi ho => ?_) ?_
  · obtain rfl := Option.some.inj ho
    exact ⟨by rfl, by go_simp⟩
  refine (M6.out V4 HQ4.out.2 (by omega)).mono ?_
  rintro e V5 ⟨rfl, hB⟩
  have hr := HQ4.out.1.below hB HQ4.out.1.lt
  have HQ5 := Lib.hid (And.intro hr (HQ4.out.2.trans (hB.mono HQ4.out.2.size)))
  have HS5 := Lib.hid (HS.out V5 hr)
  clear hr hB HQ4 HS4
  refine ⟨_, rfl, HS5.out, ?_⟩
  simp only [Act.put, List.setIfInBounds_toArray, List.set_cons_zero, List.set_cons_succ]
  refine take_at (i := 46) (d := some 73) (v := .bool true) rfl (by kernel_rfl) (by kernel_rfl) (by kernel_rfl) (fun _ _ _ h => h) (fun oi ho => ?_) HS5.out ?_
  · obtain rfl := Option.some.inj ho
    exact Or.inl ⟨by rfl, fun wx hSw => by obtain ⟨u0, u1, u2, u3⟩ := hSw; go_simp⟩
  simp only [Act.put, List.setIfInBounds_toArray, List.set_cons_zero, List.set_cons_succ]
  refine take_at (i := 47) (d := some 74) (v := .bool true) rfl (by kernel_rfl) (by kernel_rfl) (by kernel_rfl) (fun _ _ _ h => h) (fun oi ho => ?_) HS5.out ?_
  · obtain rfl := Option.some.inj ho
    exact Or.inl ⟨by rfl, fun wx hSw => by obtain ⟨u0, u1, u2, u3⟩ := hSw; go_simp⟩
  simp only [Act.put, List.setIfInBounds_toArray, List.set_cons_zero, List.set_cons_succ]
  refine take_at (i := 48) (d := some 75) (v := .bool true) rfl (by kernel_rfl) (by kernel_rfl) (by kernel_rfl) (fun _ _ _ h => h) (fun oi ho => ?_) HS5.out ?_
  · obtain rfl := Option.some.inj ho
    exact Or.inl ⟨by rfl, fun wx hSw => by obtain ⟨u0, u1, u2, u3⟩ := hSw; go_simp⟩
  simp only [Act.put, List.setIfInBounds_toArray, List.set_cons_zero, List.set_cons_succ]
  refine take_at (i := 49) (d := some 76) (v := .agg #[B k0, B k1, B k2, B k3]) rfl (by kernel_rfl) (by kernel_rfl) (by kernel_rfl) (fun _ _ _ h => h) (fun oi ho => ?_) HS5.out ?_
  · obtain rfl := Option.some.inj ho
    exact Or.inl ⟨by rfl, fun wx hSw => by obtain ⟨u0, u1, u2, u3⟩ := hSw; go_simp⟩
  simp only [Act.put, List.setIfInBounds_toArray, List.set_cons_zero, List.set_cons_succ]
  refine take_at (i := 50) (d := some 77) (v := .int .i64 (c : Int)) rfl (by kernel_rfl) (by kernel_rfl) (by kernel_rfl) (fun _ _ _ h => h) (fun oi ho => ?_) HS5.out ?_
  · obtain rfl := Option.some.inj ho
    exact Or.inl ⟨by rfl, fun wx hSw => by obtain ⟨u0, u1, u2, u3⟩ := hSw; go_simp⟩
  simp only [Act.put, List.setIfInBounds_toArray, List.set_cons_zero, List.set_cons_succ]
  refine take_at (i := 51) (d := some 78) (v := .int .i64 cm) rfl (by kernel_rfl) (by kernel_rfl) (by kernel_rfl) (fun _ _ _ h => h) (fun oi ho => ?_) HS5.out ?_
  · obtain rfl := Option.some.inj ho
    exact Or.inl ⟨by rfl, fun wx hSw => by obtain ⟨u0, u1, u2, u3⟩ := hSw; go_simp⟩
  simp only [Act.put, List.setIfInBounds_toArray, List.set_cons_zero, List.set_cons_succ]
  refine take_at (i := 52) (d := some 79) (v := S s) rfl (by kernel_rfl) (by kernel_rfl) (by kernel_rfl) (fun _ _ _ h => h) (fun oi ho => ?_) HS5.out ?_
  · obtain rfl := Option.some.inj ho
    exact Or.inl ⟨by rfl, fun wx hSw => by obtain ⟨u0, u1, u2, u3⟩ := hSw; go_simp⟩
  simp only [Act.put, List.setIfInBounds_toArray, List.set_cons_zero, List.set_cons_succ]
  refine take_at (i := 54) (d := some 81) (v := S s) rfl (by kernel_rfl) (by kernel_rfl) (by kernel_rfl) (fun _ _ _ h => h) (fun oi ho => ?_) HS5.out ?_
  · obtain rfl := Option.some.inj ho
    exact Or.inl ⟨by rfl, fun wx hSw => by obtain ⟨u0, u1, u2, u3⟩ := hSw; go_simp⟩
  simp only [Act.put, List.setIfInBounds_toArray, List.set_cons_zero, List.set_cons_succ]
  refine ready_call (i := 53) (d := some 80) (f := 19) (args := #[.agg #[B k0, B k1, B k2, B k3], .int .i64 cm, S s]) rfl (by kernel_rfl) (fun oi ho => ?_) ?_
  · obtain rfl := Option.some.inj ho
    exact ⟨by rfl, by go_simp⟩
  refine (M7.out V5 HQ5.out.2 (by omega)).mono ?_
  rintro e V6 ⟨rfl, hB⟩
  have hr := HQ5.out.1.below hB HQ5.out.1.lt
  have HQ6 := Lib.hid (And.intro hr (HQ5.out.2.trans (hB.mono HQ5.out.2.size)))
  have HS6 := Lib.hid (HS.out V6 hr)
  clear hr hB HQ5 HS5
  refine ⟨_, rfl, HS6.out, ?_⟩
  simp only [Act.put, List.setIfInBounds_toArray, List.set_cons_zero, List.set_cons_succ]
  refine take_at (i := 55) (d := some 82) (v := .bool true) rfl (by kernel_rfl) (by kernel_rfl) (by kernel_rfl) (fun _ _ _ h => h) (fun oi ho => ?_) HS6.out ?_
  · obtain rfl := Option.some.inj ho
    exact Or.inl ⟨by rfl, fun wx hSw => by obtain ⟨u0, u1, u2, u3⟩ := hSw; go_simp⟩
  simp only [Act.put, List.setIfInBounds_toArray, List.set_cons_zero, List.set_cons_succ]
  refine take_at (i := 56) (d := some 83) (v := .bool true) rfl (by kernel_rfl) (by kernel_rfl) (by kernel_rfl) (fun _ _ _ h => h) (fun oi ho => ?_) HS6.out ?_
  · obtain rfl := Option.some.inj ho
    exact Or.inl ⟨by rfl, fun wx hSw => by obtain ⟨u0, u1, u2, u3⟩ := hSw; go_simp⟩
  simp only [Act.put, List.setIfInBounds_toArray, List.set_cons_zero, List.set_cons_succ]
  refine take_at (i := 57) (d := some 8) (v := .bool true) rfl (by kernel_rfl) (by kernel_rfl) (by kernel_rfl) (fun _ _ _ h => h) (fun oi ho => ?_) HS6.out ?_
  · obtain rfl := Option.some.inj ho
    exact Or.inl ⟨by rfl, fun wx hSw => by obtain ⟨u0, u1, u2, u3⟩ := hSw; go_simp⟩
  simp only [Act.put, List.setIfInBounds_toArray, List.set_cons_zero, List.set_cons_succ]
  refine wpAnyH_done (by kernel_rfl) ?_ _
  refine NoPanic.normal ?_
  try simp only [Act.put]
  go_wp2
  go_ret
  exact ⟨rfl, HQ6.out.2⟩
end Go.Proofs.Ytepamoikoinhdaa
