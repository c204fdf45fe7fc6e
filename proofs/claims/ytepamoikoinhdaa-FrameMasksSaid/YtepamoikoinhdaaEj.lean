/- FrameMasks and FrameTwice (stage 15) walked, over any package of frames. (mkej.py writes it.) -/
import Derived.Test.YtepamoikoinhdaaEi
import Derived.Shelf.RegionOpen
namespace Go.Proofs.Ytepamoikoinhdaa
open Go.RowKit
attribute [local go_sem] store_one B_match B_store S_match S_store

set_option maxRecDepth 100000 in
set_option maxHeartbeats 1000000 in
theorem masks15_any {w : World} (C : FrameI w) (K : Key4) (a : Int) (ha : IntKind.i64.wrap a = a) (s : List UInt8) : Calls Try.prog 7 #[kV K, .int .i64 a, S s] w fun e w' => e = .returned (.bool true) ∧ Below w.heap.size w w' := by
  obtain ⟨W1, hW1⟩ : ∃ W, W = w.alloc (.cells (kC K) 22) := ⟨_, rfl⟩
  have H1 : Hid (Row W1 w.heap.size (kC K) 22 ∧ Below w.heap.size w W1) := Lib.hid (by rw [hW1]; exact ⟨row_new _ _ _, (Below.refl _ _).alloc (Nat.le_refl _) _⟩)
  have HA := Lib.hid (awake15_any (C.up H1.out.2))
  have hlN := run_len_S (P := Try.prog) Try.underlying9 3 s
  obtain ⟨M, hM⟩ : ∃ M, M = maskF K a s := ⟨_, rfl⟩
  have HM : Hid (∀ W, Below w.heap.size w W → s.length ≤ 5000 → Calls Try.prog 19 #[kV K, .int .i64 a, S s] W fun e w' => e = .returned (S M) ∧ Below W.heap.size W w') := Lib.hid fun W hb h => by rw [hM]; exact C.mask K a s W hb ha (by omega)
  have HR : Hid (∀ W, s.length ≤ 5000 → Calls Try.prog 20 #[kV K, .int .i64 a, S s] W fun e w' => e = .returned (S M) ∧ Below W.heap.size W w') := Lib.hid fun W h => by rw [hM]; exact mask15_any K a s W (by omega)
  obtain ⟨N, hN⟩ : ∃ N, N = s.length := ⟨_, rfl⟩
  rw [← hN] at hlN HM HR
  have q1 : binOp .eql 9 (S M) (S M) = pure (.bool true) := by rw [eql_S]; simp
  have n1 : ∀ x y, eqGuard .eql 9 x y (S M) (S M) = pure () := fun _ _ => rfl
  clear hN hM C ha
  obtain ⟨k0, k1, k2, k3⟩ := K
  unfold kV at HM HR ⊢
  unfold kC at hW1 HM HR ⊢
  dsimp only at *
  rw [hW1] at HA
  go_enter Try.func7, Try.ntmps7
  go_wp2_with fail
  refine HA.out.mono ?_
  rintro e W2 ⟨rfl, hB2⟩
  rw [← hW1] at hB2
  clear HA hW1
  have hrow := H1.out.1.below hB2 H1.out.1.lt
  have HB2 := Lib.hid (And.intro hrow (H1.out.2.trans (hB2.mono H1.out.2.size)))
  clear hrow hB2 H1
  by_cases hbig : 5000 < N
  · have g1 : decide ((5000 : Int) < (N : Int)) = true := decide_eq_true (by omega)
    have g1' : decide ((N : Int) > 5000) = true := decide_eq_true (by omega)
    go_wp2
    go_ret
    exact ⟨rfl, HB2.out.2⟩
  have g1 : decide ((5000 : Int) < (N : Int)) = false := decide_eq_false (by omega)
  have g1' : decide ((N : Int) > 5000) = false := decide_eq_false (by omega)
  go_wp2
  have hS : ∀ wx, Row wx w.heap.size (kC ⟨k0, k1, k2, k3⟩) 22 → wx.cell? ⟨w.heap.size, 0, none⟩ = some (B k0) ∧ wx.cell? ⟨w.heap.size, 1, none⟩ = some (B k1) ∧ wx.cell? ⟨w.heap.size, 2, none⟩ = some (B k2) ∧ wx.cell? ⟨w.heap.size, 3, none⟩ = some (B k3) := fun wx h => ⟨cell_of_row wx _ 0 _ _ (0, 0) h, cell_of_row wx _ 1 _ _ (0, 0) h, cell_of_row wx _ 2 _ _ (0, 0) h, cell_of_row wx _ 3 _ _ (0, 0) h⟩
  have HS := Lib.hid hS
  obtain ⟨Wq, hWq⟩ : ∃ Wq, Wq = W2.drew := ⟨_, rfl⟩
  have hBq : Below W2.heap.size W2 Wq := by rw [hWq]; exact ⟨rfl, rfl, rfl, Nat.le_refl _, fun _ _ => rfl⟩
  have HQ := Lib.hid (And.intro (HB2.out.1.below hBq HB2.out.1.lt) (HB2.out.2.trans (hBq.mono HB2.out.2.size)))
  have HSQ := Lib.hid (hS Wq HQ.out.1)
  refine wp_region_noPanic ?_
  refine wp_region_held_drew (S := fun wx => wx.cell? ⟨w.heap.size, 0, none⟩ = some (B k0) ∧ wx.cell? ⟨w.heap.size, 1, none⟩ = some (B k1) ∧ wx.cell? ⟨w.heap.size, 2, none⟩ = some (B k2) ∧ wx.cell? ⟨w.heap.size, 3, none⟩ = some (B k3)) (by kernel_rfl) (hS W2 HB2.out.1) (fun _ => ?_)
  rw [← hWq]
  clear hWq hS hBq
  refine take_at (i := 0) (d := some 12) (v := .agg #[B k0, B k1, B k2, B k3]) rfl (by kernel_rfl) (by kernel_rfl) (by kernel_rfl) (fun _ _ _ h => h) (fun oi ho => ?_) HSQ.out ?_
  · obtain rfl := Option.some.inj ho
    exact Or.inl ⟨by rfl, fun wx hSw => by obtain ⟨u0, u1, u2, u3⟩ := hSw; go_simp⟩
  simp only [Act.put, List.setIfInBounds_toArray, List.set_cons_zero, List.set_cons_succ]
  refine take_at (i := 1) (d := some 13) (v := .int .i64 a) rfl (by kernel_rfl) (by kernel_rfl) (by kernel_rfl) (fun _ _ _ h => h) (fun oi ho => ?_) HSQ.out ?_
  · obtain rfl := Option.some.inj ho
    exact Or.inl ⟨by rfl, fun wx hSw => by obtain ⟨u0, u1, u2, u3⟩ := hSw; go_simp⟩
  simp only [Act.put, List.setIfInBounds_toArray, List.set_cons_zero, List.set_cons_succ]
  refine take_at (i := 2) (d := some 14) (v := S s) rfl (by kernel_rfl) (by kernel_rfl) (by kernel_rfl) (fun _ _ _ h => h) (fun oi ho => ?_) HSQ.out ?_
  · obtain rfl := Option.some.inj ho
    exact Or.inl ⟨by rfl, fun wx hSw => by obtain ⟨u0, u1, u2, u3⟩ := hSw; go_simp⟩
  simp only [Act.put, List.setIfInBounds_toArray, List.set_cons_zero, List.set_cons_succ]
  refine take_at (i := 4) (d := some 16) (v := .agg #[B k0, B k1, B k2, B k3]) rfl (by kernel_rfl) (by kernel_rfl) (by kernel_rfl) (fun _ _ _ h => h) (fun oi ho => ?_) HSQ.out ?_
  · obtain rfl := Option.some.inj ho
    exact Or.inl ⟨by rfl, fun wx hSw => by obtain ⟨u0, u1, u2, u3⟩ := hSw; go_simp⟩
  simp only [Act.put, List.setIfInBounds_toArray, List.set_cons_zero, List.set_cons_succ]
  refine take_at (i := 5) (d := some 17) (v := .int .i64 a) rfl (by kernel_rfl) (by kernel_rfl) (by kernel_rfl) (fun _ _ _ h => h) (fun oi ho => ?_) HSQ.out ?_
  · obtain rfl := Option.some.inj ho
    exact Or.inl ⟨by rfl, fun wx hSw => by obtain ⟨u0, u1, u2, u3⟩ := hSw; go_simp⟩
  simp only [Act.put, List.setIfInBounds_toArray, List.set_cons_zero, List.set_cons_succ]
  refine take_at (i := 6) (d := some 18) (v := S s) rfl (by kernel_rfl) (by kernel_rfl) (by kernel_rfl) (fun _ _ _ h => h) (fun oi ho => ?_) HSQ.out ?_
  · obtain rfl := Option.some.inj ho
    exact Or.inl ⟨by rfl, fun wx hSw => by obtain ⟨u0, u1, u2, u3⟩ := hSw; go_simp⟩
  simp only [Act.put, List.setIfInBounds_toArray, List.set_cons_zero, List.set_cons_succ]
  refine ready_call (i := 3) (d := some 15) (f := 19) (args := #[.agg #[B k0, B k1, B k2, B k3], .int .i64 a, S s]) rfl (by kernel_rfl) (fun oi ho => ?_) ?_
  · obtain rfl := Option.some.inj ho
    exact ⟨by rfl, by go_simp⟩
  refine (HM.out Wq HQ.out.2 (by omega)).mono ?_
  rintro e W3 ⟨rfl, hB3⟩
  have hr3 := HQ.out.1.below hB3 HQ.out.1.lt
  have H3 := Lib.hid (And.intro hr3 (HQ.out.2.trans (hB3.mono HQ.out.2.size)))
  have HS3 := Lib.hid (HS.out W3 hr3)
  clear hr3 hB3
  refine ⟨_, rfl, HS3.out, ?_⟩
  simp only [Act.put, List.setIfInBounds_toArray, List.set_cons_zero, List.set_cons_succ]
  refine ready_call (i := 7) (d := some 19) (f := 20) (args := #[.agg #[B k0, B k1, B k2, B k3], .int .i64 a, S s]) rfl (by kernel_rfl) (fun oi ho => ?_) ?_
  · obtain rfl := Option.some.inj ho
    exact ⟨by rfl, by go_simp⟩
  refine (HR.out W3 (by omega)).mono ?_
  rintro e W4 ⟨rfl, hB4⟩
  have hr4 := H3.out.1.below hB4 H3.out.1.lt
  have HE := Lib.hid (H3.out.2.trans (hB4.mono H3.out.2.size))
  have HS4 := Lib.hid (HS.out W4 hr4)
  clear hr4 hB4
  refine ⟨_, rfl, HS4.out, ?_⟩
  simp only [Act.put, List.setIfInBounds_toArray, List.set_cons_zero, List.set_cons_succ]
  refine take_at (i := 8) (d := some 20) (v := .bool true) rfl (by kernel_rfl) (by kernel_rfl) (by kernel_rfl) (fun _ _ _ h => h) (fun oi ho => ?_) HS4.out ?_
  · obtain rfl := Option.some.inj ho
    exact Or.inl ⟨by rfl, fun wx hSw => by obtain ⟨u0, u1, u2, u3⟩ := hSw; go_simp⟩
  simp only [Act.put, List.setIfInBounds_toArray, List.set_cons_zero, List.set_cons_succ]
  refine take_at (i := 9) (d := some 6) (v := .bool true) rfl (by kernel_rfl) (by kernel_rfl) (by kernel_rfl) (fun _ _ _ h => h) (fun oi ho => ?_) HS4.out ?_
  · obtain rfl := Option.some.inj ho
    exact Or.inl ⟨by rfl, fun wx hSw => by obtain ⟨u0, u1, u2, u3⟩ := hSw; go_simp⟩
  simp only [Act.put, List.setIfInBounds_toArray, List.set_cons_zero, List.set_cons_succ]
  refine wpAnyH_done (by kernel_rfl) ?_ _
  refine NoPanic.normal ?_
  try simp only [Act.put]
  go_wp2
  go_ret
  exact ⟨rfl, HE.out⟩
end Go.Proofs.Ytepamoikoinhdaa
