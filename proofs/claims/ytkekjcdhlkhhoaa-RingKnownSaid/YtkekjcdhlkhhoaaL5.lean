/- does: pop, look, set, clear, nothing. -/
import Derived.Test.YtkekjcdhlkhhoaaL4
namespace Go.Proofs.Ytkekjcdhlkhhoaa
open Go.RowKit
attribute [local go_sem] store_one S_match S_store

theorem clearF {w : World} {h m : Nat} {G : Nat → Prop} {xs : List (List UInt8)} (H : ListF w G h m xs) : ∃ G', ListF (w.setCell ⟨h, 1, none⟩ (.slice none 0 0)) G' h m [] ∧ Moves G G' w (w.setCell ⟨h, 1, none⟩ (.slice none 0 0)) := by
  obtain ⟨v, hr, hl, hn, hF⟩ := H
  refine ⟨fun k => k = h, ⟨.slice none 0 0, hr.set 1 _, lies_nil _ 1, fun k hk => (by cases hk), fun k => ⟨.inl, fun hk => hk.elim id (fun hk => by cases hk)⟩⟩, rfl, rfl, rfl, by simp [World.setCell], fun k hk => .inl ((hF k).2 (.inl hk)), fun k hk hn => Below.heap_setCell _ _ _ _ (fun e => hn ((hF k).2 (.inl e)))⟩
theorem ListF.cell {w : World} {h m : Nat} {G : Nat → Prop} {xs : List (List UInt8)} (H : ListF w G h m xs) : ∃ v, w.cell? ⟨h, 1, none⟩ = some v ∧ w.frozen? ⟨h, 1, none⟩ = false ∧ ∀ T W, (Builtin.len_ #[46] T #[v]).run Try.prog W = .ok (.int .i64 (xs.length : Int)) W := by
  obtain ⟨v, hr, hl, hn, hF⟩ := H
  exact ⟨v, cell_of_row w h 1 _ 48 (0, 0) hr, Row.frozen hr 1, hl.len Try.underlying46⟩
section
variable {RA : World → (Nat → Prop) → Nat → Nat → List (List UInt8) → Prop}

set_option maxRecDepth 100000 in
set_option maxHeartbeats 1000000 in
theorem does_pop_none (R : RingS RA) {g h m : Nat} {F G : Nat → Prop}  (N : Int) (u : List UInt8) (w : World) (H : Both RA g h m F G ([] : List (List UInt8)) ([] : List (List UInt8)) w) :
    Calls Try.prog 19 #[.pointer (some ⟨g, 0, none⟩), .pointer (some ⟨h, 0, none⟩), .agg #[.int .i64 1, .int .i64 N, S u]] w fun e w' => e = .returned (.bool true) ∧ ∃ ys, Side RA g h m F G ys ys w w' := by
  have HA := Lib.hid (at_start R w 1 N u H)
  have hfit := (R.fits H.r).1
  have hlen : Hid (([] : List (List UInt8)).length < 1000000) := Lib.hid (by have := R.fits H.r; omega)
  clear H hfit
  go_enter Try.func19, Try.ntmps19
  go_wp2_with fail
  obtain ⟨W, hW⟩ : ∃ W, W = ((((w.alloc (.cells #[.pointer (some ⟨g, 0, none⟩)] 42)).alloc (.cells #[.pointer (some ⟨h, 0, none⟩)] 45)).alloc (.cells #[.int .i64 1, .int .i64 N, S u] 51)).alloc (.cells #[.bool false] 4)) := ⟨_, rfl⟩
  rw [← hW] at HA ⊢
  clear hW
  refine (R.pop_none HA.out.two.r).mono ?_
  rintro e W3 ⟨rfl, F3, h3, m3⟩
  have H3 := Lib.hid (HA.out.left R h3 m3)
  clear h3 m3
  have k1 := H3.out.bx.cr
  have k2 := H3.out.bx.cl
  have k3 := H3.out.bx.c1
  have k4 := H3.out.bx.c2
  have k5 := H3.out.bx.co
  have k6 := H3.out.bx.fo
  go_wp2_with fail
  refine (popF_none H3.out.two.l).mono ?_
  rintro e W4 ⟨rfl, G4, h4, m4⟩
  have H4 := Lib.hid (H3.out.right R h4 m4)
  clear h4 m4 k1 k2 k3 k4 k5 k6
  have k1 := H4.out.bx.cr
  have k2 := H4.out.bx.cl
  have k3 := H4.out.bx.c1
  have k4 := H4.out.bx.c2
  have k5 := H4.out.bx.co
  have k6 := H4.out.bx.fo
  go_wp2
  have HE := H4.out.set R (.bool true)
  have ce := HE.bx.co
  refine bodyPost_ret (v := .bool true) (by simp [results, Try.f19, go_sem, ce]) rfl ?_
  exact ⟨rfl, [], HE.side⟩

set_option maxRecDepth 100000 in
set_option maxHeartbeats 1000000 in
theorem does_pop_some (R : RingS RA) {g h m : Nat} {F G : Nat → Prop} {x : List UInt8} {r : List (List UInt8)} (N : Int) (u : List UInt8) (w : World) (H : Both RA g h m F G (x :: r) (x :: r) w) :
    Calls Try.prog 19 #[.pointer (some ⟨g, 0, none⟩), .pointer (some ⟨h, 0, none⟩), .agg #[.int .i64 1, .int .i64 N, S u]] w fun e w' => e = .returned (.bool true) ∧ ∃ ys, Side RA g h m F G ys ys w w' := by
  have HA := Lib.hid (at_start R w 1 N u H)
  have hfit := (R.fits H.r).1
  have hlen : Hid ((x :: r).length < 1000000) := Lib.hid (by have := R.fits H.r; omega)
  clear H hfit
  have heq : binOp .eql 9 (S x) (S x) = pure (.bool true) := by rw [eql_S]; simp
  have hgd := guard_S 9
  go_enter Try.func19, Try.ntmps19
  go_wp2_with fail
  obtain ⟨W, hW⟩ : ∃ W, W = ((((w.alloc (.cells #[.pointer (some ⟨g, 0, none⟩)] 42)).alloc (.cells #[.pointer (some ⟨h, 0, none⟩)] 45)).alloc (.cells #[.int .i64 1, .int .i64 N, S u] 51)).alloc (.cells #[.bool false] 4)) := ⟨_, rfl⟩
  rw [← hW] at HA ⊢
  clear hW
  refine (R.pop_some HA.out.two.r).mono ?_
  rintro e W3 ⟨rfl, F3, h3, m3⟩
  have H3 := Lib.hid (HA.out.left R h3 m3)
  clear h3 m3
  have k1 := H3.out.bx.cr
  have k2 := H3.out.bx.cl
  have k3 := H3.out.bx.c1
  have k4 := H3.out.bx.c2
  have k5 := H3.out.bx.co
  have k6 := H3.out.bx.fo
  go_wp2_with fail
  refine (popF_some H3.out.two.l).mono ?_
  rintro e W4 ⟨rfl, G4, h4, m4⟩
  have H4 := Lib.hid (H3.out.right R h4 m4)
  clear h4 m4 k1 k2 k3 k4 k5 k6
  have k1 := H4.out.bx.cr
  have k2 := H4.out.bx.cl
  have k3 := H4.out.bx.c1
  have k4 := H4.out.bx.c2
  have k5 := H4.out.bx.co
  have k6 := H4.out.bx.fo
  go_wp2
  have HE := H4.out.set R (.bool true)
  have ce := HE.bx.co
  refine bodyPost_ret (v := .bool true) (by simp [results, Try.f19, go_sem, ce]) rfl ?_
  exact ⟨rfl, r, HE.side⟩

set_option maxRecDepth 100000 in
set_option maxHeartbeats 1000000 in
theorem does_at_none (R : RingS RA) {g h m : Nat} {F G : Nat → Prop} {xs : List (List UInt8)} (N : Int) (u : List UInt8) (hN : N < 0 ∨ (xs.length : Int) ≤ N) (w : World) (H : Both RA g h m F G xs xs w) :
    Calls Try.prog 19 #[.pointer (some ⟨g, 0, none⟩), .pointer (some ⟨h, 0, none⟩), .agg #[.int .i64 2, .int .i64 N, S u]] w fun e w' => e = .returned (.bool true) ∧ ∃ ys, Side RA g h m F G ys ys w w' := by
  have HA := Lib.hid (at_start R w 2 N u H)
  have hfit := (R.fits H.r).1
  have hlen : Hid (xs.length < 1000000) := Lib.hid (by have := R.fits H.r; omega)
  clear H hfit
  have HN := Lib.hid hN
  clear hN
  go_enter Try.func19, Try.ntmps19
  go_wp2_with fail
  obtain ⟨W, hW⟩ : ∃ W, W = ((((w.alloc (.cells #[.pointer (some ⟨g, 0, none⟩)] 42)).alloc (.cells #[.pointer (some ⟨h, 0, none⟩)] 45)).alloc (.cells #[.int .i64 2, .int .i64 N, S u] 51)).alloc (.cells #[.bool false] 4)) := ⟨_, rfl⟩
  rw [← hW] at HA ⊢
  clear hW
  refine (R.at_none N HA.out.two.r HN.out).mono ?_
  rintro e W3 ⟨rfl, m3⟩
  have H3 := Lib.hid (HA.out.below R m3)
  clear m3
  have k1 := H3.out.bx.cr
  have k2 := H3.out.bx.cl
  have k3 := H3.out.bx.c1
  have k4 := H3.out.bx.c2
  have k5 := H3.out.bx.co
  have k6 := H3.out.bx.fo
  go_wp2_with fail
  refine (refAt_none h _ m xs N _ H3.out.two.l.toA HN.out).mono ?_
  rintro e W4 ⟨rfl, hw⟩
  have hw2 := hw.symm
  subst hw2
  go_wp2
  have HE := H3.out.set R (.bool true)
  have ce := HE.bx.co
  refine bodyPost_ret (v := .bool true) (by simp [results, Try.f19, go_sem, ce]) rfl ?_
  exact ⟨rfl, xs, HE.side⟩

set_option maxRecDepth 100000 in
set_option maxHeartbeats 1000000 in
theorem does_at_some (R : RingS RA) {g h m : Nat} {F G : Nat → Prop} {xs : List (List UInt8)} {x : List UInt8} (i : Nat) (u : List UInt8) (hx : xs[i]? = some x) (w : World) (H : Both RA g h m F G xs xs w) :
    Calls Try.prog 19 #[.pointer (some ⟨g, 0, none⟩), .pointer (some ⟨h, 0, none⟩), .agg #[.int .i64 2, .int .i64 (i : Int), S u]] w fun e w' => e = .returned (.bool true) ∧ ∃ ys, Side RA g h m F G ys ys w w' := by
  have HA := Lib.hid (at_start R w 2 (i : Int) u H)
  have hfit := (R.fits H.r).1
  have hlen : Hid (xs.length < 1000000) := Lib.hid (by have := R.fits H.r; omega)
  have HX := Lib.hid hx
  clear H hfit hx
  have heq : binOp .eql 9 (S x) (S x) = pure (.bool true) := by rw [eql_S]; simp
  have hgd := guard_S 9
  go_enter Try.func19, Try.ntmps19
  go_wp2_with fail
  obtain ⟨W, hW⟩ : ∃ W, W = ((((w.alloc (.cells #[.pointer (some ⟨g, 0, none⟩)] 42)).alloc (.cells #[.pointer (some ⟨h, 0, none⟩)] 45)).alloc (.cells #[.int .i64 2, .int .i64 (i : Int), S u] 51)).alloc (.cells #[.bool false] 4)) := ⟨_, rfl⟩
  rw [← hW] at HA ⊢
  clear hW
  refine (R.at_some i x HA.out.two.r HX.out).mono ?_
  rintro e W3 ⟨rfl, m3⟩
  have H3 := Lib.hid (HA.out.below R m3)
  clear m3
  have k1 := H3.out.bx.cr
  have k2 := H3.out.bx.cl
  have k3 := H3.out.bx.c1
  have k4 := H3.out.bx.c2
  have k5 := H3.out.bx.co
  have k6 := H3.out.bx.fo
  go_wp2_with fail
  refine (refAt_some h _ m xs i x _ H3.out.two.l.toA HX.out).mono ?_
  rintro e W4 ⟨rfl, hw⟩
  have hw2 := hw.symm
  subst hw2
  go_wp2
  have HE := H3.out.set R (.bool true)
  have ce := HE.bx.co
  refine bodyPost_ret (v := .bool true) (by simp [results, Try.f19, go_sem, ce]) rfl ?_
  exact ⟨rfl, xs, HE.side⟩

set_option maxRecDepth 100000 in
set_option maxHeartbeats 1000000 in
theorem does_clear (R : RingS RA) {g h m : Nat} {F G : Nat → Prop} {xs : List (List UInt8)} (N : Int) (u : List UInt8) (w : World) (H : Both RA g h m F G xs xs w) :
    Calls Try.prog 19 #[.pointer (some ⟨g, 0, none⟩), .pointer (some ⟨h, 0, none⟩), .agg #[.int .i64 4, .int .i64 N, S u]] w fun e w' => e = .returned (.bool true) ∧ ∃ ys, Side RA g h m F G ys ys w w' := by
  have HA := Lib.hid (at_start R w 4 N u H)
  have hfit := (R.fits H.r).1
  have hlen : Hid (xs.length < 1000000) := Lib.hid (by have := R.fits H.r; omega)
  clear H hfit
  obtain ⟨W, hW⟩ : ∃ W, W = ((((w.alloc (.cells #[.pointer (some ⟨g, 0, none⟩)] 42)).alloc (.cells #[.pointer (some ⟨h, 0, none⟩)] 45)).alloc (.cells #[.int .i64 4, .int .i64 N, S u] 51)).alloc (.cells #[.bool false] 4)) := ⟨_, rfl⟩
  rw [← hW] at HA
  obtain ⟨v, hv, hf, hlv⟩ := HA.out.two.l.cell
  have hlv3 := hlv 3
  obtain ⟨L, hL⟩ : ∃ L, L = xs.length := ⟨_, rfl⟩
  rw [← hL] at hlv3
  have hcl := fun W' F' (h : RA W' F' g m xs) => R.clear h
  rw [← hL] at hcl
  have HC := Lib.hid hcl
  clear hlv hcl hL
  go_enter Try.func19, Try.ntmps19
  rw [hW] at hv hf
  go_wp2_with fail
  rw [← hW]
  obtain ⟨G3, h3, m3⟩ := clearF HA.out.two.l
  have H3 := Lib.hid (HA.out.right R h3 m3)
  clear h3 m3
  refine (HC.out _ _ H3.out.two.r).mono ?_
  rintro e W4 ⟨rfl, F4, h4, m4⟩
  have H4 := Lib.hid (H3.out.left R h4 m4)
  clear h4 m4 hv hf
  have k1 := H4.out.bx.cr
  have k2 := H4.out.bx.cl
  have k3 := H4.out.bx.c1
  have k4 := H4.out.bx.c2
  have k5 := H4.out.bx.co
  have k6 := H4.out.bx.fo
  go_wp2
  have HE := H4.out.set R (.bool true)
  have ce := HE.bx.co
  refine bodyPost_ret (v := .bool true) (by simp [results, Try.f19, go_sem, ce]) rfl ?_
  exact ⟨rfl, [], HE.side⟩

set_option maxRecDepth 100000 in
set_option maxHeartbeats 1000000 in
theorem does_set_none (R : RingS RA) {g h m : Nat} {F G : Nat → Prop} {xs : List (List UInt8)} (N : Int) (u : List UInt8) (hx : N < 0 ∨ (xs.length : Int) ≤ N) (w : World) (H : Both RA g h m F G xs xs w) :
    Calls Try.prog 19 #[.pointer (some ⟨g, 0, none⟩), .pointer (some ⟨h, 0, none⟩), .agg #[.int .i64 3, .int .i64 N, S u]] w fun e w' => e = .returned (.bool true) ∧ ∃ ys, Side RA g h m F G ys ys w w' := by
  have HA := Lib.hid (at_start R w 3 N u H)
  have hfit := (R.fits H.r).1
  have hlen : Hid (xs.length < 1000000) := Lib.hid (by have := R.fits H.r; omega)
  have HX := Lib.hid hx
  clear H hfit hx
  go_enter Try.func19, Try.ntmps19
  go_wp2_with fail
  obtain ⟨W, hW⟩ : ∃ W, W = ((((w.alloc (.cells #[.pointer (some ⟨g, 0, none⟩)] 42)).alloc (.cells #[.pointer (some ⟨h, 0, none⟩)] 45)).alloc (.cells #[.int .i64 3, .int .i64 N, S u] 51)).alloc (.cells #[.bool false] 4)) := ⟨_, rfl⟩
  rw [← hW] at HA ⊢
  clear hW
  obtain ⟨Wq, hWq⟩ : ∃ Wq, Wq = W.drew := ⟨_, rfl⟩
  have HQ := Lib.hid (HA.out.below R (show Below W.heap.size W Wq by rw [hWq]; exact below_drewN W 1))
  refine wp_region_noPanic ?_
  refine wp_region_held_drew (S := fun wx => ∃ v, Boxes w.heap.size g h 3 N u v wx) (by kernel_rfl) (by have := HQ.out.bx; rw [hWq] at this; exact ⟨_, this⟩) (fun _ => ?_)
  rw [← hWq]
  clear hWq
  refine take_at (i := 0) (d := some 79) (v := .pointer (some ⟨g, 0, none⟩)) rfl (by kernel_rfl) (by kernel_rfl) (by kernel_rfl) (fun _ _ _ h => h) (fun oi ho => ?_) ⟨_, HQ.out.bx⟩ ?_
  · obtain rfl := Option.some.inj ho
    exact Or.inl ⟨by rfl, fun wx ⟨_, hSw⟩ => by have k1 := hSw.cr; have k2 := hSw.cl; have k3 := hSw.c1; have k4 := hSw.c2; clear hSw; go_simp⟩
  simp only [Act.put, List.setIfInBounds_toArray, List.set_cons_zero, List.set_cons_succ]
  refine take_at (i := 1) (d := some 80) (v := .pointer (some ⟨w.heap.size + 1 + 1, 1, none⟩)) rfl (by kernel_rfl) (by kernel_rfl) (by kernel_rfl) (fun _ _ _ h => h) (fun oi ho => ?_) ⟨_, HQ.out.bx⟩ ?_
  · obtain rfl := Option.some.inj ho
    exact Or.inl ⟨by rfl, fun wx ⟨_, hSw⟩ => by have k1 := hSw.cr; have k2 := hSw.cl; have k3 := hSw.c1; have k4 := hSw.c2; clear hSw; go_simp⟩
  simp only [Act.put, List.setIfInBounds_toArray, List.set_cons_zero, List.set_cons_succ]
  refine take_at (i := 2) (d := some 81) (v := .int .i64 N) rfl (by kernel_rfl) (by kernel_rfl) (by kernel_rfl) (fun _ _ _ h => h) (fun oi ho => ?_) ⟨_, HQ.out.bx⟩ ?_
  · obtain rfl := Option.some.inj ho
    exact Or.inl ⟨by rfl, fun wx ⟨_, hSw⟩ => by have k1 := hSw.cr; have k2 := hSw.cl; have k3 := hSw.c1; have k4 := hSw.c2; clear hSw; go_simp⟩
  simp only [Act.put, List.setIfInBounds_toArray, List.set_cons_zero, List.set_cons_succ]
  refine take_at (i := 3) (d := some 82) (v := .pointer (some ⟨w.heap.size + 1 + 1, 2, none⟩)) rfl (by kernel_rfl) (by kernel_rfl) (by kernel_rfl) (fun _ _ _ h => h) (fun oi ho => ?_) ⟨_, HQ.out.bx⟩ ?_
  · obtain rfl := Option.some.inj ho
    exact Or.inl ⟨by rfl, fun wx ⟨_, hSw⟩ => by have k1 := hSw.cr; have k2 := hSw.cl; have k3 := hSw.c1; have k4 := hSw.c2; clear hSw; go_simp⟩
  simp only [Act.put, List.setIfInBounds_toArray, List.set_cons_zero, List.set_cons_succ]
  refine take_at (i := 4) (d := some 83) (v := S u) rfl (by kernel_rfl) (by kernel_rfl) (by kernel_rfl) (fun _ _ _ h => h) (fun oi ho => ?_) ⟨_, HQ.out.bx⟩ ?_
  · obtain rfl := Option.some.inj ho
    exact Or.inl ⟨by rfl, fun wx ⟨_, hSw⟩ => by have k1 := hSw.cr; have k2 := hSw.cl; have k3 := hSw.c1; have k4 := hSw.c2; clear hSw; go_simp⟩
  simp only [Act.put, List.setIfInBounds_toArray, List.set_cons_zero, List.set_cons_succ]
  refine take_at (i := 6) (d := some 85) (v := .pointer (some ⟨h, 0, none⟩)) rfl (by kernel_rfl) (by kernel_rfl) (by kernel_rfl) (fun _ _ _ h => h) (fun oi ho => ?_) ⟨_, HQ.out.bx⟩ ?_
  · obtain rfl := Option.some.inj ho
    exact Or.inl ⟨by rfl, fun wx ⟨_, hSw⟩ => by have k1 := hSw.cr; have k2 := hSw.cl; have k3 := hSw.c1; have k4 := hSw.c2; clear hSw; go_simp⟩
  simp only [Act.put, List.setIfInBounds_toArray, List.set_cons_zero, List.set_cons_succ]
  refine take_at (i := 7) (d := some 86) (v := .pointer (some ⟨w.heap.size + 1 + 1, 1, none⟩)) rfl (by kernel_rfl) (by kernel_rfl) (by kernel_rfl) (fun _ _ _ h => h) (fun oi ho => ?_) ⟨_, HQ.out.bx⟩ ?_
  · obtain rfl := Option.some.inj ho
    exact Or.inl ⟨by rfl, fun wx ⟨_, hSw⟩ => by have k1 := hSw.cr; have k2 := hSw.cl; have k3 := hSw.c1; have k4 := hSw.c2; clear hSw; go_simp⟩
  simp only [Act.put, List.setIfInBounds_toArray, List.set_cons_zero, List.set_cons_succ]
  refine take_at (i := 8) (d := some 87) (v := .int .i64 N) rfl (by kernel_rfl) (by kernel_rfl) (by kernel_rfl) (fun _ _ _ h => h) (fun oi ho => ?_) ⟨_, HQ.out.bx⟩ ?_
  · obtain rfl := Option.some.inj ho
    exact Or.inl ⟨by rfl, fun wx ⟨_, hSw⟩ => by have k1 := hSw.cr; have k2 := hSw.cl; have k3 := hSw.c1; have k4 := hSw.c2; clear hSw; go_simp⟩
  simp only [Act.put, List.setIfInBounds_toArray, List.set_cons_zero, List.set_cons_succ]
  refine take_at (i := 9) (d := some 88) (v := .pointer (some ⟨w.heap.size + 1 + 1, 2, none⟩)) rfl (by kernel_rfl) (by kernel_rfl) (by kernel_rfl) (fun _ _ _ h => h) (fun oi ho => ?_) ⟨_, HQ.out.bx⟩ ?_
  · obtain rfl := Option.some.inj ho
    exact Or.inl ⟨by rfl, fun wx ⟨_, hSw⟩ => by have k1 := hSw.cr; have k2 := hSw.cl; have k3 := hSw.c1; have k4 := hSw.c2; clear hSw; go_simp⟩
  simp only [Act.put, List.setIfInBounds_toArray, List.set_cons_zero, List.set_cons_succ]
  refine take_at (i := 10) (d := some 89) (v := S u) rfl (by kernel_rfl) (by kernel_rfl) (by kernel_rfl) (fun _ _ _ h => h) (fun oi ho => ?_) ⟨_, HQ.out.bx⟩ ?_
  · obtain rfl := Option.some.inj ho
    exact Or.inl ⟨by rfl, fun wx ⟨_, hSw⟩ => by have k1 := hSw.cr; have k2 := hSw.cl; have k3 := hSw.c1; have k4 := hSw.c2; clear hSw; go_simp⟩
  simp only [Act.put, List.setIfInBounds_toArray, List.set_cons_zero, List.set_cons_succ]
  refine ready_call (i := 5) (d := some 84) (f := 37) (args := #[.pointer (some ⟨g, 0, none⟩), .int .i64 N, S u]) rfl (by kernel_rfl) (fun oi ho => ?_) ?_
  · obtain rfl := Option.some.inj ho
    exact ⟨by rfl, by go_simp⟩
  refine (R.set_none N u HQ.out.two.r HX.out).mono ?_
  rintro e W3 ⟨rfl, F3, h3, m3⟩
  have H3 := Lib.hid (HQ.out.left R h3 m3)
  clear h3 m3
  refine ⟨_, rfl, ⟨_, H3.out.bx⟩, ?_⟩
  simp only [Act.put, List.setIfInBounds_toArray, List.set_cons_zero, List.set_cons_succ]
  refine ready_call (i := 11) (d := some 90) (f := 47) (args := #[.pointer (some ⟨h, 0, none⟩), .int .i64 N, S u]) rfl (by kernel_rfl) (fun oi ho => ?_) ?_
  · obtain rfl := Option.some.inj ho
    exact ⟨by rfl, by go_simp⟩
  refine (refSet_none h _ m xs N u _ H3.out.two.l.toA HX.out).mono ?_
  rintro e W4 ⟨rfl, hw⟩
  have hw2 := hw.symm
  subst hw2
  have H4 := H3
  refine ⟨_, rfl, ⟨_, H4.out.bx⟩, ?_⟩
  simp only [Act.put, List.setIfInBounds_toArray, List.set_cons_zero, List.set_cons_succ]
  have k5 := H4.out.bx.co
  have k6 := H4.out.bx.fo
  refine take_at (i := 12) (d := some 91) (v := .bool true) rfl (by kernel_rfl) (by kernel_rfl) (by kernel_rfl) (fun _ _ _ h => h) (fun oi ho => ?_) ⟨_, H4.out.bx⟩ ?_
  · obtain rfl := Option.some.inj ho
    exact Or.inl ⟨by rfl, fun wx ⟨_, hSw⟩ => by have k1 := hSw.cr; have k2 := hSw.cl; have k3 := hSw.c1; have k4 := hSw.c2; clear hSw; go_simp⟩
  simp only [Act.put, List.setIfInBounds_toArray, List.set_cons_zero, List.set_cons_succ]
  refine ready_skip (i := 13) (d := none) (w' := W3.setCell ⟨w.heap.size + 1 + 1 + 1, 0, none⟩ (.bool true)) rfl (by kernel_rfl) (fun oi ho => ?_) ⟨_, H4.out.bx.set _⟩ ?_
  · obtain rfl := Option.some.inj ho
    exact ⟨by rfl, by go_simp⟩
  refine wpAnyH_done (by kernel_rfl) ?_ _
  refine NoPanic.normal ?_
  go_wp2
  have HE := H4.out.set R (.bool true)
  have ce := HE.bx.co
  refine bodyPost_ret (v := .bool true) (by simp [results, Try.f19, go_sem, ce]) rfl ?_
  exact ⟨rfl, xs, HE.side⟩

set_option maxRecDepth 100000 in
set_option maxHeartbeats 1000000 in
theorem does_set_some (R : RingS RA) {g h m : Nat} {F G : Nat → Prop} {xs : List (List UInt8)} (i : Nat) (u : List UInt8) (hx : i < xs.length) (w : World) (H : Both RA g h m F G xs xs w) :
    Calls Try.prog 19 #[.pointer (some ⟨g, 0, none⟩), .pointer (some ⟨h, 0, none⟩), .agg #[.int .i64 3, .int .i64 (i : Int), S u]] w fun e w' => e = .returned (.bool true) ∧ ∃ ys, Side RA g h m F G ys ys w w' := by
  have HA := Lib.hid (at_start R w 3 (i : Int) u H)
  have hfit := (R.fits H.r).1
  have hlen : Hid (xs.length < 1000000) := Lib.hid (by have := R.fits H.r; omega)
  have HX := Lib.hid hx
  clear H hfit hx
  go_enter Try.func19, Try.ntmps19
  go_wp2_with fail
  obtain ⟨W, hW⟩ : ∃ W, W = ((((w.alloc (.cells #[.pointer (some ⟨g, 0, none⟩)] 42)).alloc (.cells #[.pointer (some ⟨h, 0, none⟩)] 45)).alloc (.cells #[.int .i64 3, .int .i64 (i : Int), S u] 51)).alloc (.cells #[.bool false] 4)) := ⟨_, rfl⟩
  rw [← hW] at HA ⊢
  clear hW
  obtain ⟨Wq, hWq⟩ : ∃ Wq, Wq = W.drew := ⟨_, rfl⟩
  have HQ := Lib.hid (HA.out.below R (show Below W.heap.size W Wq by rw [hWq]; exact below_drewN W 1))
  refine wp_region_noPanic ?_
  refine wp_region_held_drew (S := fun wx => ∃ v, Boxes w.heap.size g h 3 (i : Int) u v wx) (by kernel_rfl) (by have := HQ.out.bx; rw [hWq] at this; exact ⟨_, this⟩) (fun _ => ?_)
  rw [← hWq]
  clear hWq
  refine take_at (i := 0) (d := some 79) (v := .pointer (some ⟨g, 0, none⟩)) rfl (by kernel_rfl) (by kernel_rfl) (by kernel_rfl) (fun _ _ _ h => h) (fun oi ho => ?_) ⟨_, HQ.out.bx⟩ ?_
  · obtain rfl := Option.some.inj ho
    exact Or.inl ⟨by rfl, fun wx ⟨_, hSw⟩ => by have k1 := hSw.cr; have k2 := hSw.cl; have k3 := hSw.c1; have k4 := hSw.c2; clear hSw; go_simp⟩
  simp only [Act.put, List.setIfInBounds_toArray, List.set_cons_zero, List.set_cons_succ]
  refine take_at (i := 1) (d := some 80) (v := .pointer (some ⟨w.heap.size + 1 + 1, 1, none⟩)) rfl (by kernel_rfl) (by kernel_rfl) (by kernel_rfl) (fun _ _ _ h => h) (fun oi ho => ?_) ⟨_, HQ.out.bx⟩ ?_
  · obtain rfl := Option.some.inj ho
    exact Or.inl ⟨by rfl, fun wx ⟨_, hSw⟩ => by have k1 := hSw.cr; have k2 := hSw.cl; have k3 := hSw.c1; have k4 := hSw.c2; clear hSw; go_simp⟩
  simp only [Act.put, List.setIfInBounds_toArray, List.set_cons_zero, List.set_cons_succ]
  refine take_at (i := 2) (d := some 81) (v := .int .i64 (i : Int)) rfl (by kernel_rfl) (by kernel_rfl) (by kernel_rfl) (fun _ _ _ h => h) (fun oi ho => ?_) ⟨_, HQ.out.bx⟩ ?_
  · obtain rfl := Option.some.inj ho
    exact Or.inl ⟨by rfl, fun wx ⟨_, hSw⟩ => by have k1 := hSw.cr; have k2 := hSw.cl; have k3 := hSw.c1; have k4 := hSw.c2; clear hSw; go_simp⟩
  simp only [Act.put, List.setIfInBounds_toArray, List.set_cons_zero, List.set_cons_succ]
  refine take_at (i := 3) (d := some 82) (v := .pointer (some ⟨w.heap.size + 1 + 1, 2, none⟩)) rfl (by kernel_rfl) (by kernel_rfl) (by kernel_rfl) (fun _ _ _ h => h) (fun oi ho => ?_) ⟨_, HQ.out.bx⟩ ?_
  · obtain rfl := Option.some.inj ho
    exact Or.inl ⟨by rfl, fun wx ⟨_, hSw⟩ => by have k1 := hSw.cr; have k2 := hSw.cl; have k3 := hSw.c1; have k4 := hSw.c2; clear hSw; go_simp⟩
  simp only [Act.put, List.setIfInBounds_toArray, List.set_cons_zero, List.set_cons_succ]
  refine take_at (i := 4) (d := some 83) (v := S u) rfl (by kernel_rfl) (by kernel_rfl) (by kernel_rfl) (fun _ _ _ h => h) (fun oi ho => ?_) ⟨_, HQ.out.bx⟩ ?_
  · obtain rfl := Option.some.inj ho
    exact Or.inl ⟨by rfl, fun wx ⟨_, hSw⟩ => by have k1 := hSw.cr; have k2 := hSw.cl; have k3 := hSw.c1; have k4 := hSw.c2; clear hSw; go_simp⟩
  simp only [Act.put, List.setIfInBounds_toArray, List.set_cons_zero, List.set_cons_succ]
  refine take_at (i := 6) (d := some 85) (v := .pointer (some ⟨h, 0, none⟩)) rfl (by kernel_rfl) (by kernel_rfl) (by kernel_rfl) (fun _ _ _ h => h) (fun oi ho => ?_) ⟨_, HQ.out.bx⟩ ?_
  · obtain rfl := Option.some.inj ho
    exact Or.inl ⟨by rfl, fun wx ⟨_, hSw⟩ => by have k1 := hSw.cr; have k2 := hSw.cl; have k3 := hSw.c1; have k4 := hSw.c2; clear hSw; go_simp⟩
  simp only [Act.put, List.setIfInBounds_toArray, List.set_cons_zero, List.set_cons_succ]
  refine take_at (i := 7) (d := some 86) (v := .pointer (some ⟨w.heap.size + 1 + 1, 1, none⟩)) rfl (by kernel_rfl) (by kernel_rfl) (by kernel_rfl) (fun _ _ _ h => h) (fun oi ho => ?_) ⟨_, HQ.out.bx⟩ ?_
  · obtain rfl := Option.some.inj ho
    exact Or.inl ⟨by rfl, fun wx ⟨_, hSw⟩ => by have k1 := hSw.cr; have k2 := hSw.cl; have k3 := hSw.c1; have k4 := hSw.c2; clear hSw; go_simp⟩
  simp only [Act.put, List.setIfInBounds_toArray, List.set_cons_zero, List.set_cons_succ]
  refine take_at (i := 8) (d := some 87) (v := .int .i64 (i : Int)) rfl (by kernel_rfl) (by kernel_rfl) (by kernel_rfl) (fun _ _ _ h => h) (fun oi ho => ?_) ⟨_, HQ.out.bx⟩ ?_
  · obtain rfl := Option.some.inj ho
    exact Or.inl ⟨by rfl, fun wx ⟨_, hSw⟩ => by have k1 := hSw.cr; have k2 := hSw.cl; have k3 := hSw.c1; have k4 := hSw.c2; clear hSw; go_simp⟩
  simp only [Act.put, List.setIfInBounds_toArray, List.set_cons_zero, List.set_cons_succ]
  refine take_at (i := 9) (d := some 88) (v := .pointer (some ⟨w.heap.size + 1 + 1, 2, none⟩)) rfl (by kernel_rfl) (by kernel_rfl) (by kernel_rfl) (fun _ _ _ h => h) (fun oi ho => ?_) ⟨_, HQ.out.bx⟩ ?_
  · obtain rfl := Option.some.inj ho
    exact Or.inl ⟨by rfl, fun wx ⟨_, hSw⟩ => by have k1 := hSw.cr; have k2 := hSw.cl; have k3 := hSw.c1; have k4 := hSw.c2; clear hSw; go_simp⟩
  simp only [Act.put, List.setIfInBounds_toArray, List.set_cons_zero, List.set_cons_succ]
  refine take_at (i := 10) (d := some 89) (v := S u) rfl (by kernel_rfl) (by kernel_rfl) (by kernel_rfl) (fun _ _ _ h => h) (fun oi ho => ?_) ⟨_, HQ.out.bx⟩ ?_
  · obtain rfl := Option.some.inj ho
    exact Or.inl ⟨by rfl, fun wx ⟨_, hSw⟩ => by have k1 := hSw.cr; have k2 := hSw.cl; have k3 := hSw.c1; have k4 := hSw.c2; clear hSw; go_simp⟩
  simp only [Act.put, List.setIfInBounds_toArray, List.set_cons_zero, List.set_cons_succ]
  refine ready_call (i := 5) (d := some 84) (f := 37) (args := #[.pointer (some ⟨g, 0, none⟩), .int .i64 (i : Int), S u]) rfl (by kernel_rfl) (fun oi ho => ?_) ?_
  · obtain rfl := Option.some.inj ho
    exact ⟨by rfl, by go_simp⟩
  refine (R.set_some i u HQ.out.two.r HX.out).mono ?_
  rintro e W3 ⟨rfl, F3, h3, m3⟩
  have H3 := Lib.hid (HQ.out.left R h3 m3)
  clear h3 m3
  refine ⟨_, rfl, ⟨_, H3.out.bx⟩, ?_⟩
  simp only [Act.put, List.setIfInBounds_toArray, List.set_cons_zero, List.set_cons_succ]
  refine ready_call (i := 11) (d := some 90) (f := 47) (args := #[.pointer (some ⟨h, 0, none⟩), .int .i64 (i : Int), S u]) rfl (by kernel_rfl) (fun oi ho => ?_) ?_
  · obtain rfl := Option.some.inj ho
    exact ⟨by rfl, by go_simp⟩
  refine (setF_some i u H3.out.two.l HX.out hlen.out).mono ?_
  rintro e W4 ⟨rfl, G4, h4, m4⟩
  have H4 := Lib.hid (H3.out.right R h4 m4)
  clear h4 m4
  refine ⟨_, rfl, ⟨_, H4.out.bx⟩, ?_⟩
  simp only [Act.put, List.setIfInBounds_toArray, List.set_cons_zero, List.set_cons_succ]
  have k5 := H4.out.bx.co
  have k6 := H4.out.bx.fo
  refine take_at (i := 12) (d := some 91) (v := .bool true) rfl (by kernel_rfl) (by kernel_rfl) (by kernel_rfl) (fun _ _ _ h => h) (fun oi ho => ?_) ⟨_, H4.out.bx⟩ ?_
  · obtain rfl := Option.some.inj ho
    exact Or.inl ⟨by rfl, fun wx ⟨_, hSw⟩ => by have k1 := hSw.cr; have k2 := hSw.cl; have k3 := hSw.c1; have k4 := hSw.c2; clear hSw; go_simp⟩
  simp only [Act.put, List.setIfInBounds_toArray, List.set_cons_zero, List.set_cons_succ]
  refine ready_skip (i := 13) (d := none) (w' := W4.setCell ⟨w.heap.size + 1 + 1 + 1, 0, none⟩ (.bool true)) rfl (by kernel_rfl) (fun oi ho => ?_) ⟨_, H4.out.bx.set _⟩ ?_
  · obtain rfl := Option.some.inj ho
    exact ⟨by rfl, by go_simp⟩
  refine wpAnyH_done (by kernel_rfl) ?_ _
  refine NoPanic.normal ?_
  go_wp2
  have HE := H4.out.set R (.bool true)
  have ce := HE.bx.co
  refine bodyPost_ret (v := .bool true) (by simp [results, Try.f19, go_sem, ce]) rfl ?_
  exact ⟨rfl, (xs.set i u), HE.side⟩

set_option maxRecDepth 100000 in
set_option maxHeartbeats 1000000 in
theorem does_none (R : RingS RA) {g h m : Nat} {F G : Nat → Prop} {xs : List (List UInt8)} (D N : Int) (h0 : D ≠ 0) (h1 : D ≠ 1) (h2 : D ≠ 2) (h3 : D ≠ 3) (h4 : D ≠ 4) (h5 : D ≠ 5) (u : List UInt8) (w : World) (H : Both RA g h m F G xs xs w) :
    Calls Try.prog 19 #[.pointer (some ⟨g, 0, none⟩), .pointer (some ⟨h, 0, none⟩), .agg #[.int .i64 D, .int .i64 N, S u]] w fun e w' => e = .returned (.bool true) ∧ ∃ ys, Side RA g h m F G ys ys w w' := by
  have HA := Lib.hid (at_start R w D N u H)
  have hfit := (R.fits H.r).1
  have hlen : Hid (xs.length < 1000000) := Lib.hid (by have := R.fits H.r; omega)
  have HB0 := Lib.hid H; clear H hfit
  have q0 : (D == 0) = false := by rw [beq_eq_false_iff_ne]; exact h0
  have q1 : (D == 1) = false := by rw [beq_eq_false_iff_ne]; exact h1
  have q2 : (D == 2) = false := by rw [beq_eq_false_iff_ne]; exact h2
  have q3 : (D == 3) = false := by rw [beq_eq_false_iff_ne]; exact h3
  have q4 : (D == 4) = false := by rw [beq_eq_false_iff_ne]; exact h4
  have q5 : (D == 5) = false := by rw [beq_eq_false_iff_ne]; exact h5
  clear h0 h1 h2 h3 h4 h5
  have cc := HA.out.bx.co
  have ff := HA.out.bx.fo
  clear cc ff
  go_enter Try.func19, Try.ntmps19
  go_wp2
  have HE := HA.out.set R (.bool true)
  have ce := HE.bx.co
  refine bodyPost_ret (v := .bool true) (by simp [results, Try.f19, go_sem]) rfl ?_
  have hbel := ((((Below.refl w.heap.size w).alloc (Nat.le_refl _) (.cells #[.pointer (some ⟨g, 0, none⟩)] 42)).alloc (by simp) (.cells #[.pointer (some ⟨h, 0, none⟩)] 45)).alloc (by simp; omega) (.cells #[.int .i64 D, .int .i64 N, S u] 51)).alloc (by simp; omega) (.cells #[.bool true] 4)
  exact ⟨rfl, xs, F, G, HB0.out.below R hbel, Moves.of_below hbel⟩
end
end Go.Proofs.Ytkekjcdhlkhhoaa
