/- The document's ring by its blocks; does: the first acts. -/
import Derived.Test.YtkekjcdhlkhhoaaL3
namespace Go.Proofs.Ytkekjcdhlkhhoaa
open Go.RowKit
attribute [local go_sem] store_one S_match S_store

section
variable {w : World} {h m : Nat} {F : Nat → Prop} {xs : List (List UInt8)}
theorem pushF (x : List UInt8) (H : ListF w F h m xs) (hl : xs.length < 1000000) : Calls Try.prog 44 #[.pointer (some ⟨h, 0, none⟩), S x] w fun e w' => e = .returned (.bool (decide (xs.length < m))) ∧ ∃ F', ListF w' F' h m (if xs.length < m then xs ++ [x] else xs) ∧ Moves F F' w w' :=
  (refPush_any h _ m xs x w H.toA hl).mono fun _ _ ⟨he, h1, h2, _⟩ => ⟨he, H.ofA h1 h2⟩
theorem popF_none (H : ListF w F h m []) : Calls Try.prog 45 #[.pointer (some ⟨h, 0, none⟩)] w fun e w' => e = .returned (.tuple #[.string ⟨#[]⟩, .bool false]) ∧ ∃ F', ListF w' F' h m [] ∧ Moves F F' w w' :=
  (refPop_none h _ m w H.toA).mono fun _ _ ⟨he, h1⟩ => ⟨he, F, h1 ▸ H, h1 ▸ Moves.refl _ _⟩
theorem popF_some {x : List UInt8} {r : List (List UInt8)} (H : ListF w F h m (x :: r)) : Calls Try.prog 45 #[.pointer (some ⟨h, 0, none⟩)] w fun e w' => e = .returned (.tuple #[S x, .bool true]) ∧ ∃ F', ListF w' F' h m r ∧ Moves F F' w w' :=
  (refPop_some h _ m x r w H.toA).mono fun _ _ ⟨he, h1, h2, _⟩ => ⟨he, H.ofA h1 h2⟩
theorem pushK (x : List UInt8) (H : ListF w F h m xs) (hl : xs.length < 1000000) : Calls Try.prog 44 #[.pointer (some ⟨h, 0, none⟩), S x] w fun e w' => e = .returned (.bool (decide (xs.length < m))) ∧ (∃ F', ListF w' F' h m (if xs.length < m then xs ++ [x] else xs) ∧ Moves F F' w w') ∧ KeepsCells w w' h :=
  (refPush_any h _ m xs x w H.toA hl).mono fun _ _ ⟨he, h1, h2, h3⟩ => ⟨he, H.ofA h1 h2, h3⟩
theorem popK {x : List UInt8} {r : List (List UInt8)} (H : ListF w F h m (x :: r)) : Calls Try.prog 45 #[.pointer (some ⟨h, 0, none⟩)] w fun e w' => e = .returned (.tuple #[S x, .bool true]) ∧ (∃ F', ListF w' F' h m r ∧ Moves F F' w w') ∧ KeepsCells w w' h :=
  (refPop_some h _ m x r w H.toA).mono fun _ _ ⟨he, h1, h2, h3⟩ => ⟨he, H.ofA h1 h2, h3⟩
theorem setF_some (i : Nat) (y : List UInt8) (H : ListF w F h m xs) (hi : i < xs.length) (hl : xs.length < 1000000) : Calls Try.prog 47 #[.pointer (some ⟨h, 0, none⟩), .int .i64 (i : Int), S y] w fun e w' => e = .returned (.bool true) ∧ ∃ F', ListF w' F' h m (xs.set i y) ∧ Moves F F' w w' :=
  (refSet_some h _ m xs i y w H.toA hi hl).mono fun _ _ ⟨he, h1, h2⟩ => ⟨he, H.ofA h1 h2⟩
end

/-- What does is handed, in boxes: the ring, the document's, the act, the answer. -/
structure Boxes (b g h : Nat) (D N : Int) (u : List UInt8) (v : Value) (w : World) : Prop where
  r : Row w b #[.pointer (some ⟨g, 0, none⟩)] 42
  l : Row w (b + 1) #[.pointer (some ⟨h, 0, none⟩)] 45
  a : Row w (b + 1 + 1) #[.int .i64 D, .int .i64 N, S u] 51
  o : Row w (b + 1 + 1 + 1) #[v] 4
section
variable {RA : World → (Nat → Prop) → Nat → Nat → List (List UInt8) → Prop} {w w' : World} {b g h m : Nat} {D N : Int} {u : List UInt8} {v : Value} {F F' G G' : Nat → Prop} {xs ys : List (List UInt8)}
theorem Boxes.moves (H : Boxes b g h D N u v w) (hm : Moves F F' w w') (hF : ∀ k, F k → k < b) : Boxes b g h D N u v w' :=
  ⟨H.r.moves hm (fun hf => by have := hF _ hf; omega), H.l.moves hm (fun hf => by have := hF _ hf; omega), H.a.moves hm (fun hf => by have := hF _ hf; omega), H.o.moves hm (fun hf => by have := hF _ hf; omega)⟩
theorem boxes_new (w : World) (g h : Nat) (D N : Int) (u : List UInt8) : Boxes w.heap.size g h D N u (.bool false) ((((w.alloc (.cells #[.pointer (some ⟨g, 0, none⟩)] 42)).alloc (.cells #[.pointer (some ⟨h, 0, none⟩)] 45)).alloc (.cells #[.int .i64 D, .int .i64 N, S u] 51)).alloc (.cells #[.bool false] 4)) := by
  have h1 := row_new w #[.pointer (some ⟨g, 0, none⟩)] 42
  have h2 := row_new (w.alloc (.cells #[.pointer (some ⟨g, 0, none⟩)] 42)) #[.pointer (some ⟨h, 0, none⟩)] 45
  have h3 := row_new ((w.alloc (.cells #[.pointer (some ⟨g, 0, none⟩)] 42)).alloc (.cells #[.pointer (some ⟨h, 0, none⟩)] 45)) #[.int .i64 D, .int .i64 N, S u] 51
  have h4 := row_new (((w.alloc (.cells #[.pointer (some ⟨g, 0, none⟩)] 42)).alloc (.cells #[.pointer (some ⟨h, 0, none⟩)] 45)).alloc (.cells #[.int .i64 D, .int .i64 N, S u] 51)) #[.bool false] 4
  rw [alloc_size] at h2
  rw [alloc_size, alloc_size] at h3
  rw [alloc_size, alloc_size, alloc_size] at h4
  exact ⟨((h1.alloc _).alloc _).alloc _, (h2.alloc _).alloc _, h3.alloc _, h4⟩
theorem Boxes.cr (H : Boxes b g h D N u v w) : w.cell? ⟨b, 0, none⟩ = some (.pointer (some ⟨g, 0, none⟩)) := cell_of_row w b 0 _ 42 (0, 0) H.r
theorem Boxes.cl (H : Boxes b g h D N u v w) : w.cell? ⟨b + 1, 0, none⟩ = some (.pointer (some ⟨h, 0, none⟩)) := cell_of_row w _ 0 _ 45 (0, 0) H.l
theorem Boxes.c0 (H : Boxes b g h D N u v w) : w.cell? ⟨b + 1 + 1, 0, none⟩ = some (.int .i64 D) := cell_of_row w _ 0 _ 51 (0, 0) H.a
theorem Boxes.c1 (H : Boxes b g h D N u v w) : w.cell? ⟨b + 1 + 1, 1, none⟩ = some (.int .i64 N) := cell_of_row w _ 1 _ 51 (0, 0) H.a
theorem Boxes.c2 (H : Boxes b g h D N u v w) : w.cell? ⟨b + 1 + 1, 2, none⟩ = some (S u) := cell_of_row w _ 2 _ 51 (0, 0) H.a
theorem Boxes.co (H : Boxes b g h D N u v w) : w.cell? ⟨b + 1 + 1 + 1, 0, none⟩ = some v := cell_of_row w _ 0 _ 4 (0, 0) H.o
theorem Boxes.fo (H : Boxes b g h D N u v w) : w.frozen? ⟨b + 1 + 1 + 1, 0, none⟩ = false := Row.frozen H.o 0
theorem Boxes.set (H : Boxes b g h D N u v w) (v' : Value) : Boxes b g h D N u v' (w.setCell ⟨b + 1 + 1 + 1, 0, none⟩ v') :=
  ⟨H.r.other (by show b ≠ b + 1 + 1 + 1; omega), H.l.other (by show b + 1 ≠ b + 1 + 1 + 1; omega), H.a.other (by show b + 1 + 1 ≠ b + 1 + 1 + 1; omega), H.o.set 0 _⟩
theorem Boxes.same (H : Boxes b g h D N u v w) {k : Nat} (hb : Below k w w') (hk : b + 1 + 1 + 1 < k) : Boxes b g h D N u v w' :=
  ⟨H.r.below hb (by omega), H.l.below hb (by omega), H.a.below hb (by omega), H.o.below hb (by omega)⟩
/-- What does has come to: the boxes, and the two rings. -/
structure At (RA : World → (Nat → Prop) → Nat → Nat → List (List UInt8) → Prop) (w0 : World) (g h m : Nat) (D N : Int) (u : List UInt8) (v : Value) (F0 G0 F G : Nat → Prop) (xs ys : List (List UInt8)) (w : World) : Prop where
  bx : Boxes w0.heap.size g h D N u v w
  two : Both RA g h m F G xs ys w
  mv : Moves (fun k => F0 k ∨ G0 k) (fun k => F k ∨ G k) w0 w
  off : ∀ k, F k ∨ G k → k < w0.heap.size ∨ w0.heap.size + 4 ≤ k
theorem At.off' {w0 : World} {F0 G0 : Nat → Prop} (H : At RA w0 g h m D N u v F0 G0 F G xs ys w) : w0.heap.size + 4 ≤ w.heap.size := by
  have := H.bx.o.lt; omega
theorem At.left (R : RingS RA) {w0 : World} {F0 G0 : Nat → Prop} {xs' : List (List UInt8)} (H : At RA w0 g h m D N u v F0 G0 F G xs ys w) (h1 : RA w' F' g m xs') (hm : Moves F F' w w') : At RA w0 g h m D N u v F0 G0 F' G xs' ys w' := by
  have ho := H.off
  have hz := H.off'
  refine ⟨⟨H.bx.r.moves hm ?_, H.bx.l.moves hm ?_, H.bx.a.moves hm ?_, H.bx.o.moves hm ?_⟩, H.two.left R h1 hm, H.mv.trans hm.left, fun k hk => ?_⟩
  · intro hf; have := ho _ (.inl hf); omega
  · intro hf; have := ho _ (.inl hf); omega
  · intro hf; have := ho _ (.inl hf); omega
  · intro hf; have := ho _ (.inl hf); omega
  · rcases hk with hk | hk
    · rcases hm.foot k hk with h2 | h2
      · exact ho k (.inl h2)
      · exact .inr (by omega)
    · exact ho k (.inr hk)
theorem At.right (R : RingS RA) {w0 : World} {F0 G0 : Nat → Prop} {ys' : List (List UInt8)} (H : At RA w0 g h m D N u v F0 G0 F G xs ys w) (h1 : ListF w' G' h m ys') (hm : Moves G G' w w') : At RA w0 g h m D N u v F0 G0 F G' xs ys' w' := by
  have ho := H.off
  have hz := H.off'
  refine ⟨⟨H.bx.r.moves hm ?_, H.bx.l.moves hm ?_, H.bx.a.moves hm ?_, H.bx.o.moves hm ?_⟩, H.two.right R h1 hm, H.mv.trans hm.right, fun k hk => ?_⟩
  · intro hf; have := ho _ (.inr hf); omega
  · intro hf; have := ho _ (.inr hf); omega
  · intro hf; have := ho _ (.inr hf); omega
  · intro hf; have := ho _ (.inr hf); omega
  · rcases hk with hk | hk
    · exact ho k (.inl hk)
    · rcases hm.foot k hk with h2 | h2
      · exact ho k (.inr h2)
      · exact .inr (by omega)
/-- New blocks, and turns of what is neither a ring's nor a box. -/
theorem At.grown (R : RingS RA) {w0 : World} {F0 G0 : Nat → Prop} {row : Option Nat} (H : At RA w0 g h m D N u v F0 G0 F G xs ys w) (hg : w.grownBy w' row) (hr : ∀ k, row = some k → w0.heap.size + 4 ≤ k ∧ ¬ F k ∧ ¬ G k) : At RA w0 g h m D N u v F0 G0 F G xs ys w' := by
  have hz := H.off'
  refine ⟨⟨row_grown H.bx.r hg (fun e => by have := (hr _ e.symm).1; omega), row_grown H.bx.l hg (fun e => by have := (hr _ e.symm).1; omega), row_grown H.bx.a hg (fun e => by have := (hr _ e.symm).1; omega), row_grown H.bx.o hg (fun e => by have := (hr _ e.symm).1; omega)⟩,
    ⟨R.same H.two.r hg.size (fun k hk => hg.block k ((R.lt H.two.r).2 k hk) (fun e => (hr k e.symm).2.1 hk)), H.two.l.same hg.size (fun k hk => hg.block k (H.two.l.lt.2 k hk) (fun e => (hr k e.symm).2.2 hk)), H.two.apart⟩,
    ⟨hg.os.trans H.mv.os, hg.tape.trans H.mv.tape, hg.output.trans H.mv.output, Nat.le_trans H.mv.size hg.size, H.mv.foot, fun k hk hn => (hg.block k (by omega) (fun e => by have := (hr k e.symm).1; omega)).trans (H.mv.rest k hk hn)⟩, H.off⟩
theorem At.set (R : RingS RA) {w0 : World} {F0 G0 : Nat → Prop} (H : At RA w0 g h m D N u v F0 G0 F G xs ys w) (v' : Value) : At RA w0 g h m D N u v' F0 G0 F G xs ys (w.setCell ⟨w0.heap.size + 1 + 1 + 1, 0, none⟩ v') := by
  have ho := H.off
  have hs : (w.setCell ⟨w0.heap.size + 1 + 1 + 1, 0, none⟩ v').heap.size = w.heap.size := by simp [World.setCell]
  have hb : ∀ k, k ≠ w0.heap.size + 1 + 1 + 1 → (w.setCell ⟨w0.heap.size + 1 + 1 + 1, 0, none⟩ v').heap[k]? = w.heap[k]? := fun k hk => Below.heap_setCell _ _ _ _ hk
  refine ⟨H.bx.set v', ⟨R.same H.two.r (by omega) (fun k hk => hb k ?_), H.two.l.same (by omega) (fun k hk => hb k ?_), H.two.apart⟩, ⟨H.mv.os, H.mv.tape, H.mv.output, by rw [hs]; exact H.mv.size, H.mv.foot, fun k hk hn => (hb k (by omega)).trans (H.mv.rest k hk hn)⟩, ho⟩
  · have := ho k (.inl hk); omega
  · have := ho k (.inr hk); omega
theorem At.side {w0 : World} {F0 G0 : Nat → Prop} (H : At RA w0 g h m D N u v F0 G0 F G xs ys w) : Side RA g h m F0 G0 xs ys w0 w := ⟨F, G, H.two, H.mv⟩
theorem At.below (R : RingS RA) {w0 : World} {F0 G0 : Nat → Prop} (H : At RA w0 g h m D N u v F0 G0 F G xs ys w) (hb : Below w.heap.size w w') : At RA w0 g h m D N u v F0 G0 F G xs ys w' :=
  H.grown R (row := none) ⟨hb.os, hb.tape, hb.output, hb.size, fun k hk _ => hb.block k hk⟩ (fun k e => by cases e)
theorem at_start (R : RingS RA) (w : World) (D N : Int) (u : List UInt8) (H : Both RA g h m F G xs ys w) : At RA w g h m D N u (.bool false) F G F G xs ys ((((w.alloc (.cells #[.pointer (some ⟨g, 0, none⟩)] 42)).alloc (.cells #[.pointer (some ⟨h, 0, none⟩)] 45)).alloc (.cells #[.int .i64 D, .int .i64 N, S u] 51)).alloc (.cells #[.bool false] 4)) := by
  have hbel : Below w.heap.size w ((((w.alloc (.cells #[.pointer (some ⟨g, 0, none⟩)] 42)).alloc (.cells #[.pointer (some ⟨h, 0, none⟩)] 45)).alloc (.cells #[.int .i64 D, .int .i64 N, S u] 51)).alloc (.cells #[.bool false] 4)) :=
    ((((Below.refl _ w).alloc (Nat.le_refl _) _).alloc (by simp) _).alloc (by simp; omega) _).alloc (by simp; omega) _
  refine ⟨boxes_new w g h D N u, H.below R hbel, Moves.of_below hbel, fun k hk => .inl ?_⟩
  rcases hk with hk | hk
  · exact (R.lt H.r).2 k hk
  · exact H.l.lt.2 k hk
end

set_option maxRecDepth 100000 in
set_option maxHeartbeats 1000000 in
theorem does_push {RA : World → (Nat → Prop) → Nat → Nat → List (List UInt8) → Prop} (R : RingS RA) {g h m : Nat} {F G : Nat → Prop} {xs : List (List UInt8)} (N : Int) (u : List UInt8) (hu : u.length ≤ 20000) (w : World) (H : Both RA g h m F G xs xs w) :
    Calls Try.prog 19 #[.pointer (some ⟨g, 0, none⟩), .pointer (some ⟨h, 0, none⟩), .agg #[.int .i64 0, .int .i64 N, S u]] w fun e w' => e = .returned (.bool true) ∧ ∃ ys, Side RA g h m F G ys ys w w' := by
  have HA := Lib.hid (at_start R w 0 N u H)
  have hlen : Hid (xs.length < 1000000) := Lib.hid (by have := R.fits H.r; omega)
  have hu2 : Hid (u.length ≤ maxLen) := Lib.hid (by simp only [maxLen]; omega)
  clear H hu
  go_enter Try.func19, Try.ntmps19
  go_wp2
  obtain ⟨W, hW⟩ : ∃ W, W = ((((w.alloc (.cells #[.pointer (some ⟨g, 0, none⟩)] 42)).alloc (.cells #[.pointer (some ⟨h, 0, none⟩)] 45)).alloc (.cells #[.int .i64 0, .int .i64 N, S u] 51)).alloc (.cells #[.bool false] 4)) := ⟨_, rfl⟩
  rw [← hW] at HA ⊢
  clear hW
  obtain ⟨Wq, hWq⟩ : ∃ Wq, Wq = W.drew := ⟨_, rfl⟩
  have HQ := Lib.hid (HA.out.below R (show Below W.heap.size W Wq by rw [hWq]; exact below_drewN W 1))
  refine wp_region_noPanic ?_
  refine wp_region_held_drew (S := fun wx => ∃ v, Boxes w.heap.size g h 0 N u v wx) (by kernel_rfl) (by have := HQ.out.bx; rw [hWq] at this; exact ⟨_, this⟩) (fun _ => ?_)
  rw [← hWq]
  clear hWq
  refine take_at (i := 0) (d := some 24) (v := .pointer (some ⟨g, 0, none⟩)) rfl (by kernel_rfl) (by kernel_rfl) (by kernel_rfl) (fun _ _ _ h => h) (fun oi ho => ?_) ⟨_, HQ.out.bx⟩ ?_
  · obtain rfl := Option.some.inj ho
    exact Or.inl ⟨by rfl, fun wx ⟨_, hSw⟩ => by have k1 := hSw.cr; have k2 := hSw.cl; have k3 := hSw.c1; have k4 := hSw.c2; clear hSw; go_simp⟩
  simp only [Act.put, List.setIfInBounds_toArray, List.set_cons_zero, List.set_cons_succ]
  refine take_at (i := 1) (d := some 25) (v := .pointer (some ⟨w.heap.size + 1 + 1, 2, none⟩)) rfl (by kernel_rfl) (by kernel_rfl) (by kernel_rfl) (fun _ _ _ h => h) (fun oi ho => ?_) ⟨_, HQ.out.bx⟩ ?_
  · obtain rfl := Option.some.inj ho
    exact Or.inl ⟨by rfl, fun wx ⟨_, hSw⟩ => by have k1 := hSw.cr; have k2 := hSw.cl; have k3 := hSw.c1; have k4 := hSw.c2; clear hSw; go_simp⟩
  simp only [Act.put, List.setIfInBounds_toArray, List.set_cons_zero, List.set_cons_succ]
  refine take_at (i := 2) (d := some 26) (v := S u) rfl (by kernel_rfl) (by kernel_rfl) (by kernel_rfl) (fun _ _ _ h => h) (fun oi ho => ?_) ⟨_, HQ.out.bx⟩ ?_
  · obtain rfl := Option.some.inj ho
    exact Or.inl ⟨by rfl, fun wx ⟨_, hSw⟩ => by have k1 := hSw.cr; have k2 := hSw.cl; have k3 := hSw.c1; have k4 := hSw.c2; clear hSw; go_simp⟩
  simp only [Act.put, List.setIfInBounds_toArray, List.set_cons_zero, List.set_cons_succ]
  refine take_at (i := 4) (d := some 28) (v := .pointer (some ⟨h, 0, none⟩)) rfl (by kernel_rfl) (by kernel_rfl) (by kernel_rfl) (fun _ _ _ h => h) (fun oi ho => ?_) ⟨_, HQ.out.bx⟩ ?_
  · obtain rfl := Option.some.inj ho
    exact Or.inl ⟨by rfl, fun wx ⟨_, hSw⟩ => by have k1 := hSw.cr; have k2 := hSw.cl; have k3 := hSw.c1; have k4 := hSw.c2; clear hSw; go_simp⟩
  simp only [Act.put, List.setIfInBounds_toArray, List.set_cons_zero, List.set_cons_succ]
  refine take_at (i := 5) (d := some 29) (v := .pointer (some ⟨w.heap.size + 1 + 1, 2, none⟩)) rfl (by kernel_rfl) (by kernel_rfl) (by kernel_rfl) (fun _ _ _ h => h) (fun oi ho => ?_) ⟨_, HQ.out.bx⟩ ?_
  · obtain rfl := Option.some.inj ho
    exact Or.inl ⟨by rfl, fun wx ⟨_, hSw⟩ => by have k1 := hSw.cr; have k2 := hSw.cl; have k3 := hSw.c1; have k4 := hSw.c2; clear hSw; go_simp⟩
  simp only [Act.put, List.setIfInBounds_toArray, List.set_cons_zero, List.set_cons_succ]
  refine take_at (i := 6) (d := some 30) (v := S u) rfl (by kernel_rfl) (by kernel_rfl) (by kernel_rfl) (fun _ _ _ h => h) (fun oi ho => ?_) ⟨_, HQ.out.bx⟩ ?_
  · obtain rfl := Option.some.inj ho
    exact Or.inl ⟨by rfl, fun wx ⟨_, hSw⟩ => by have k1 := hSw.cr; have k2 := hSw.cl; have k3 := hSw.c1; have k4 := hSw.c2; clear hSw; go_simp⟩
  simp only [Act.put, List.setIfInBounds_toArray, List.set_cons_zero, List.set_cons_succ]
  refine ready_call (i := 3) (d := some 27) (f := 35) (args := #[.pointer (some ⟨g, 0, none⟩), S u]) rfl (by kernel_rfl) (fun oi ho => ?_) ?_
  · obtain rfl := Option.some.inj ho
    exact ⟨by rfl, by go_simp⟩
  refine (R.push u HQ.out.two.r hu2.out).mono ?_
  rintro e W3 ⟨rfl, F3, h3, m3⟩
  have H3 := Lib.hid (HQ.out.left R h3 m3)
  clear h3 m3
  refine ⟨_, rfl, ⟨_, H3.out.bx⟩, ?_⟩
  simp only [Act.put, List.setIfInBounds_toArray, List.set_cons_zero, List.set_cons_succ]
  refine ready_call (i := 7) (d := some 31) (f := 44) (args := #[.pointer (some ⟨h, 0, none⟩), S u]) rfl (by kernel_rfl) (fun oi ho => ?_) ?_
  · obtain rfl := Option.some.inj ho
    exact ⟨by rfl, by go_simp⟩
  refine (pushF u H3.out.two.l hlen.out).mono ?_
  rintro e W4 ⟨rfl, G4, h4, m4⟩
  have H4 := Lib.hid (H3.out.right R h4 m4)
  clear h4 m4
  refine ⟨_, rfl, ⟨_, H4.out.bx⟩, ?_⟩
  simp only [Act.put, List.setIfInBounds_toArray, List.set_cons_zero, List.set_cons_succ]
  generalize hzs : (if xs.length < m then xs ++ [u] else xs) = zs at *
  generalize decide (xs.length < m) = dd at *
  have k5 := H4.out.bx.co
  have k6 := H4.out.bx.fo
  refine take_at (i := 8) (d := some 32) (v := .bool true) rfl (by kernel_rfl) (by kernel_rfl) (by kernel_rfl) (fun _ _ _ h => h) (fun oi ho => ?_) ⟨_, H4.out.bx⟩ ?_
  · obtain rfl := Option.some.inj ho
    exact Or.inl ⟨by rfl, fun wx ⟨_, hSw⟩ => by have k1 := hSw.cr; have k2 := hSw.cl; have k3 := hSw.c1; have k4 := hSw.c2; clear hSw; go_simp⟩
  simp only [Act.put, List.setIfInBounds_toArray, List.set_cons_zero, List.set_cons_succ]
  refine ready_skip (i := 9) (d := none) (w' := W4.setCell ⟨w.heap.size + 1 + 1 + 1, 0, none⟩ (.bool true)) rfl (by kernel_rfl) (fun oi ho => ?_) ⟨_, H4.out.bx.set _⟩ ?_
  · obtain rfl := Option.some.inj ho
    exact ⟨by rfl, by go_simp⟩
  refine wpAnyH_done (by kernel_rfl) ?_ _
  refine NoPanic.normal ?_
  go_wp2
  have HE := H4.out.set R (.bool true)
  have ce := HE.bx.co
  refine bodyPost_ret (v := .bool true) (by simp [results, Try.f19, go_sem, ce]) rfl ?_
  exact ⟨rfl, zs, HE.side⟩
end Go.Proofs.Ytkekjcdhlkhhoaa
