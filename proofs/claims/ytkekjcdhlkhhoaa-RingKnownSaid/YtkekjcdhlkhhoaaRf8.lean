/- Pop walked. -/
import Derived.Test.YtkekjcdhlkhhoaaRf7
namespace Go.Proofs.Ytkekjcdhlkhhoaa
namespace Rf
open Go.RowKit
attribute [local go_sem] store_one S_match S_store

/-- One less: the first is cleared, the next is the first. -/
theorem Core.pop {w : World} {g m f k o c : Nat} {cs r : List (List UInt8)} {x : List UInt8} (h : Core w g m (.slice (some ⟨k, o, none⟩) cs.length c) f cs (x :: r)) {W : World} (hd : Drawn (w.setCells k (o + f * K.sz) (K.cells K.zero)) W) :
    Core ((W.setCell ⟨g, 2, none⟩ (.int .i64 (((f + 1) % cs.length : Nat) : Int))).setCell ⟨g, 3, none⟩ (.int .i64 (r.length : Int))) g m (.slice (some ⟨k, o, none⟩) cs.length c) ((f + 1) % cs.length) (cs.set f K.zero) r := by
  have hkg : k ≠ g := h.off k rfl
  obtain ⟨ht, hfl⟩ := h.turned.pop K.zero
  have h1 := h.lies.set f K.zero hfl
  have hr := setCells_row h.row (o := o + f * K.sz) (K.cells K.zero) (Ne.symm hkg)
  have hr2 : Row W g #[.int .i64 (m : Int), .slice (some ⟨k, o, none⟩) cs.length c, .int .i64 (f : Int), .int .i64 ((x :: r).length : Int)] 85 := by unfold Row; rw [hd.heap]; exact hr
  have h2 : LiesK K W (.slice (some ⟨k, o, none⟩) cs.length c) (cs.set f K.zero) := h1.same (by rw [hd.heap]; exact Nat.le_refl _) (fun j _ => by rw [hd.heap])
  have h3 : ∀ j, (Value.slice (some ⟨k, o, none⟩) cs.length c).ownBlock = some j → j ≠ g := fun j hj => by have h5 : k = j := Option.some.inj hj; omega
  refine ⟨(hr2.set 2 _).set 3 _, ?_, h.off, ht, by rw [List.length_set]; exact h.cap, h.most⟩
  exact (h2.same (by simp [World.setCell]) (fun j hj => Below.heap_setCell _ _ _ _ (h3 j hj))).same (by simp [World.setCell]) (fun j hj => Below.heap_setCell _ _ _ _ (h3 j hj))
set_option maxRecDepth 100000 in
set_option maxHeartbeats 1000000 in
theorem pop_core {g m f : Nat} {v : Value} {cs r : List (List UInt8)} {x : List UInt8} {w : World} (h0 : Core w g m v f cs (x :: r)) :
    Calls Try.prog 10 #[.pointer (some ⟨g, 0, none⟩)] w fun e w' => e = .returned (.tuple #[(Value.agg #[S x, S []]), .bool true]) ∧ ∃ v' f' cs', Core w' g m v' f' cs' r ∧ Moves (Foot g v) (Foot g v') w w' := by
  obtain ⟨W0, hW0⟩ : ∃ W0, W0 = w.alloc (.cells #[.string ⟨#[]⟩, .string ⟨#[]⟩] 27) := ⟨_, rfl⟩
  have hb0 : Below w.heap.size w W0 := by rw [hW0]; exact (Below.refl _ w).alloc (Nat.le_refl _) _
  have hr0 : Row W0 w.heap.size #[.string ⟨#[]⟩, .string ⟨#[]⟩] 27 := by rw [hW0]; exact row_new w _ _
  have hgw : g < w.heap.size := h0.row.lt
  have hvw : ∀ j, v.ownBlock = some j → j < w.heap.size := h0.lies.lt
  obtain ⟨a0, ha0⟩ : ∃ a0, a0 = w.heap.size := ⟨_, rfl⟩
  rw [← ha0] at hr0 hgw hvw
  have h := h0.below hb0
  have hat : Calls Try.prog 12 #[.pointer (some ⟨g, 0, none⟩), .int .i64 0] W0 fun e w' => e = .returned (.tuple #[(Value.agg #[S x, S []]), .bool true]) ∧ Below W0.heap.size W0 w' := at_core h 0 x rfl
  have HH := Lib.hid (And.intro h (And.intro hb0 (And.intro hr0 (And.intro hgw (And.intro hvw ha0)))))
  clear h h0 hb0 hr0 hgw hvw
  go_enter Try.func10, Try.ntmps10
  go_wp2_with fail
  rw [← ha0, ← hW0]
  clear ha0 hW0
  refine hat.mono ?_
  rintro e W0' ⟨rfl, hb1⟩
  obtain ⟨W1, hW1⟩ : ∃ W1, W1 = W0'.alloc (.cells #[S x, S []] 27) := ⟨_, rfl⟩
  obtain ⟨b1, hb1e⟩ : ∃ b1, b1 = W0'.heap.size := ⟨_, rfl⟩
  have hb2 : Below W0'.heap.size W0' W1 := by rw [hW1]; exact (Below.refl _ W0').alloc (Nat.le_refl _) _
  have hr1 : Row W1 b1 #[S x, S []] 27 := by rw [hW1, hb1e]; exact row_new W0' _ _
  have hb3 : Below W0.heap.size W0 W1 := hb1.trans (hb2.mono hb1.size)
  obtain ⟨h, hb0, hr0, hgw, hvw, ha0⟩ := HH.out
  have hC := h.below hb3
  have hr0 : Row W1 a0 #[.string ⟨#[]⟩, .string ⟨#[]⟩] 27 := hr0.below hb3 hr0.lt
  have hM1 := Lib.hid (Moves.of_below (F := Foot g v) (hb0.trans (hb3.mono hb0.size)))
  have hab : a0 < b1 := by have := HH.out.2.2.1.lt; have := hb1.size; omega
  have HX := Lib.hid (And.intro hr0 (And.intro hr1 (And.intro hgw (And.intro hvw (And.intro ha0 hab)))))
  clear hb0 hb1 hb2 hb3 hat h hr0 hr1 HH hgw hvw ha0 hab
  have hfew := hC.few
  rw [List.length_cons] at hfew
  have hfl : f < cs.length := by omega
  obtain ⟨k, o, c, rfl, hnc, hk⟩ := hC.lies.shape (by omega)
  have hsl : ∀ W, (Instr.slice 83 (.slice (some ⟨k, o, none⟩) cs.length c) (some (.int .i64 (f : Int))) (some (.int .i64 ((f : Int) + 1))) none).run Try.prog W = .ok (.slice (some ⟨k, o + f * K.sz, none⟩) 1 (c - f)) W := fun W => LiesK.cut K k o cs.length c f (by omega) W
  have hw1 : IntKind.i64.wrap ((f : Int) + 1) = (f : Int) + 1 := by rw [IntKind.wrap_i64]; omega
  have hw2 : IntKind.i64.wrap (((x :: r).length : Int) - 1) = (r.length : Int) := by rw [List.length_cons, IntKind.wrap_i64]; omega
  have hd0 : Drawn W1 W1.drew := ⟨1, rfl⟩
  have hcl : (Builtin.clear_ #[83] 0 #[.slice (some ⟨k, o + f * K.sz, none⟩) 1 (c - f)]).run Try.prog W1.drew = .ok (.tuple #[]) (W1.drew.setCells k (o + f * K.sz) (K.cells K.zero)) := (hC.drawn hd0).lies.clear f hfl 0 (c - f)
  have hpop := fun W hd => (hC.drawn hd0).pop (W := W) hd
  have hrow := setCells_row (hC.drawn hd0).row (o := o + f * K.sz) (K.cells K.zero) (Ne.symm (hC.off k rfl))
  have hr4 : R4 g (.int .i64 (m : Int)) (.slice (some ⟨k, o, none⟩) cs.length c) (.int .i64 (f : Int)) (.int .i64 ((x :: r).length : Int)) W1.drew := (hC.drawn hd0).r4
  have hlen : ∀ W, (Builtin.len_ #[83] 3 #[.slice (some ⟨k, o, none⟩) cs.length c]).run Try.prog W = .ok (.int .i64 (cs.length : Int)) W := hC.lies.len 3
  have hmv : ∀ W u1 u2, Drawn (W1.drew.setCells k (o + f * K.sz) (K.cells K.zero)) W → Moves (Foot g (.slice (some ⟨k, o, none⟩) cs.length c)) (Foot g (.slice (some ⟨k, o, none⟩) cs.length c)) W1 ((W.setCell ⟨g, 2, none⟩ u1).setCell ⟨g, 3, none⟩ u2) := fun W u1 u2 hd => by
    have h1 : Moves (Foot g (.slice (some ⟨k, o, none⟩) cs.length c)) (Foot g (.slice (some ⟨k, o, none⟩) cs.length c)) W1.drew (W1.drew.setCells k (o + f * K.sz) (K.cells K.zero)) := by
      have hg := grown_setCells W1.drew k (o + f * K.sz) (K.cells K.zero)
      exact ⟨hg.os, hg.tape, hg.output, hg.size, fun j hj => .inl hj, fun j hj hn => hg.block j hj (fun e => hn (.inr e.symm))⟩
    have h2 : ∀ (W : World) i u, Moves (Foot g (.slice (some ⟨k, o, none⟩) cs.length c)) (Foot g (.slice (some ⟨k, o, none⟩) cs.length c)) W (W.setCell ⟨g, i, none⟩ u) := fun W i u =>
      ⟨rfl, rfl, rfl, by simp [World.setCell], fun j hj => .inl hj, fun j hj hn => Below.heap_setCell _ _ _ _ (fun e => hn (.inl e))⟩
    exact (Moves.of_below hd0.below).trans (h1.trans ((Moves.of_below hd.below).trans ((h2 _ _ _).trans (h2 _ _ _))))
  obtain ⟨N, hN⟩ : ∃ N, N = (x :: r).length := ⟨_, rfl⟩
  rw [← hN] at hw2 hr4 hrow
  have HN := Lib.hid hN
  have HR := Lib.hid hr4
  have HP := Lib.hid (And.intro hpop hmv)
  have HCC := Lib.hid (And.intro hfl (And.intro hfew hrow))
  clear hpop hmv hC hfew hnc hk hN hr4 hrow
  generalize o + f * K.sz = ad at *
  go_wp2
  rw [← hb1e, ← hW1]
  clear hb1e hW1
  refine wp_region_noPanic ?_
  refine wp_region_held_drew (S := R4 g (.int .i64 (m : Int)) (.slice (some ⟨k, o, none⟩) cs.length c) (.int .i64 (f : Int)) (.int .i64 (N : Int))) (by kernel_rfl) HR.out (fun _ => ?_)
  refine take_at (i := 0) (d := some 12) (v := .pointer (some ⟨g, 0, none⟩)) rfl (by kernel_rfl) (by kernel_rfl) (by kernel_rfl) (fun _ _ _ h => h) (fun oi ho => ?_) HR.out ?_
  · obtain rfl := Option.some.inj ho
    exact Or.inl ⟨by rfl, fun wx ⟨k0, k1, k2, k3⟩ => by go_simp⟩
  simp only [Act.put, List.setIfInBounds_toArray, List.set_cons_zero, List.set_cons_succ]
  refine take_at (i := 1) (d := some 13) (v := .pointer (some ⟨g, 0, none⟩)) rfl (by kernel_rfl) (by kernel_rfl) (by kernel_rfl) (fun _ _ _ h => h) (fun oi ho => ?_) HR.out ?_
  · obtain rfl := Option.some.inj ho
    exact Or.inl ⟨by rfl, fun wx ⟨k0, k1, k2, k3⟩ => by go_simp⟩
  simp only [Act.put, List.setIfInBounds_toArray, List.set_cons_zero, List.set_cons_succ]
  refine take_at (i := 2) (d := some 14) (v := .pointer (some ⟨g, 1, none⟩)) rfl (by kernel_rfl) (by kernel_rfl) (by kernel_rfl) (fun _ _ _ h => h) (fun oi ho => ?_) HR.out ?_
  · obtain rfl := Option.some.inj ho
    exact Or.inl ⟨by rfl, fun wx ⟨k0, k1, k2, k3⟩ => by go_simp⟩
  simp only [Act.put, List.setIfInBounds_toArray, List.set_cons_zero, List.set_cons_succ]
  refine take_at (i := 3) (d := some 15) (v := .slice (some ⟨k, o, none⟩) cs.length c) rfl (by kernel_rfl) (by kernel_rfl) (by kernel_rfl) (fun _ _ _ h => h) (fun oi ho => ?_) HR.out ?_
  · obtain rfl := Option.some.inj ho
    exact Or.inl ⟨by rfl, fun wx ⟨k0, k1, k2, k3⟩ => by go_simp⟩
  simp only [Act.put, List.setIfInBounds_toArray, List.set_cons_zero, List.set_cons_succ]
  refine take_at (i := 4) (d := some 16) (v := .pointer (some ⟨g, 0, none⟩)) rfl (by kernel_rfl) (by kernel_rfl) (by kernel_rfl) (fun _ _ _ h => h) (fun oi ho => ?_) HR.out ?_
  · obtain rfl := Option.some.inj ho
    exact Or.inl ⟨by rfl, fun wx ⟨k0, k1, k2, k3⟩ => by go_simp⟩
  simp only [Act.put, List.setIfInBounds_toArray, List.set_cons_zero, List.set_cons_succ]
  refine take_at (i := 5) (d := some 17) (v := .pointer (some ⟨g, 0, none⟩)) rfl (by kernel_rfl) (by kernel_rfl) (by kernel_rfl) (fun _ _ _ h => h) (fun oi ho => ?_) HR.out ?_
  · obtain rfl := Option.some.inj ho
    exact Or.inl ⟨by rfl, fun wx ⟨k0, k1, k2, k3⟩ => by go_simp⟩
  simp only [Act.put, List.setIfInBounds_toArray, List.set_cons_zero, List.set_cons_succ]
  refine take_at (i := 6) (d := some 18) (v := .pointer (some ⟨g, 2, none⟩)) rfl (by kernel_rfl) (by kernel_rfl) (by kernel_rfl) (fun _ _ _ h => h) (fun oi ho => ?_) HR.out ?_
  · obtain rfl := Option.some.inj ho
    exact Or.inl ⟨by rfl, fun wx ⟨k0, k1, k2, k3⟩ => by go_simp⟩
  simp only [Act.put, List.setIfInBounds_toArray, List.set_cons_zero, List.set_cons_succ]
  refine take_at (i := 7) (d := some 19) (v := .int .i64 (f : Int)) rfl (by kernel_rfl) (by kernel_rfl) (by kernel_rfl) (fun _ _ _ h => h) (fun oi ho => ?_) HR.out ?_
  · obtain rfl := Option.some.inj ho
    exact Or.inl ⟨by rfl, fun wx ⟨k0, k1, k2, k3⟩ => by go_simp⟩
  simp only [Act.put, List.setIfInBounds_toArray, List.set_cons_zero, List.set_cons_succ]
  refine take_at (i := 8) (d := some 20) (v := .pointer (some ⟨g, 0, none⟩)) rfl (by kernel_rfl) (by kernel_rfl) (by kernel_rfl) (fun _ _ _ h => h) (fun oi ho => ?_) HR.out ?_
  · obtain rfl := Option.some.inj ho
    exact Or.inl ⟨by rfl, fun wx ⟨k0, k1, k2, k3⟩ => by go_simp⟩
  simp only [Act.put, List.setIfInBounds_toArray, List.set_cons_zero, List.set_cons_succ]
  refine take_at (i := 9) (d := some 21) (v := .pointer (some ⟨g, 0, none⟩)) rfl (by kernel_rfl) (by kernel_rfl) (by kernel_rfl) (fun _ _ _ h => h) (fun oi ho => ?_) HR.out ?_
  · obtain rfl := Option.some.inj ho
    exact Or.inl ⟨by rfl, fun wx ⟨k0, k1, k2, k3⟩ => by go_simp⟩
  simp only [Act.put, List.setIfInBounds_toArray, List.set_cons_zero, List.set_cons_succ]
  refine take_at (i := 10) (d := some 22) (v := .pointer (some ⟨g, 2, none⟩)) rfl (by kernel_rfl) (by kernel_rfl) (by kernel_rfl) (fun _ _ _ h => h) (fun oi ho => ?_) HR.out ?_
  · obtain rfl := Option.some.inj ho
    exact Or.inl ⟨by rfl, fun wx ⟨k0, k1, k2, k3⟩ => by go_simp⟩
  simp only [Act.put, List.setIfInBounds_toArray, List.set_cons_zero, List.set_cons_succ]
  refine take_at (i := 11) (d := some 23) (v := .int .i64 (f : Int)) rfl (by kernel_rfl) (by kernel_rfl) (by kernel_rfl) (fun _ _ _ h => h) (fun oi ho => ?_) HR.out ?_
  · obtain rfl := Option.some.inj ho
    exact Or.inl ⟨by rfl, fun wx ⟨k0, k1, k2, k3⟩ => by go_simp⟩
  simp only [Act.put, List.setIfInBounds_toArray, List.set_cons_zero, List.set_cons_succ]
  refine take_at (i := 12) (d := some 24) (v := .int .i64 ((f : Int) + 1)) rfl (by kernel_rfl) (by kernel_rfl) (by kernel_rfl) (fun _ _ _ h => h) (fun oi ho => ?_) HR.out ?_
  · obtain rfl := Option.some.inj ho
    exact Or.inl ⟨by rfl, fun wx ⟨k0, k1, k2, k3⟩ => by go_simp⟩
  simp only [Act.put, List.setIfInBounds_toArray, List.set_cons_zero, List.set_cons_succ]
  refine ready_value (i := 13) (d := some 25) (v := .slice (some ⟨k, ad, none⟩) 1 (c - f)) (w' := W1.drew) rfl (by kernel_rfl) (fun oi ho => ?_) HR.out ?_
  · obtain rfl := Option.some.inj ho
    exact ⟨by rfl, exec_slice_by _ _ _ _ rfl Try.underlying83 (.slice (some ⟨k, o, none⟩) cs.length c) (.int .i64 (f : Int)) (.int .i64 ((f : Int) + 1)) rfl rfl rfl (hsl _)⟩
  simp only [Act.put, List.setIfInBounds_toArray, List.set_cons_zero, List.set_cons_succ]
  obtain ⟨W2, hW2⟩ : ∃ W2, W2 = W1.drew.setCells k ad (K.cells K.zero) := ⟨_, rfl⟩
  rw [← hW2] at hcl HP HCC
  have hrow := HCC.out.2.2
  have c1 : W2.cell? ⟨g, 1, none⟩ = some (.slice (some ⟨k, o, none⟩) cs.length c) := cell_of_row W2 _ 1 _ 85 (0, 0) hrow
  have c2 : W2.cell? ⟨g, 2, none⟩ = some (.int .i64 (f : Int)) := cell_of_row W2 _ 2 _ 85 (0, 0) hrow
  refine ready_value (i := 14) (d := none) (v := .tuple #[]) (w' := W2) rfl (by kernel_rfl) (fun oi ho => ?_) ⟨cell_of_row W2 _ 0 _ 85 (0, 0) hrow, c1, c2, cell_of_row W2 _ 3 _ 85 (0, 0) hrow⟩ ?_
  · obtain rfl := Option.some.inj ho
    exact ⟨by rfl, exec_clear_by _ _ rfl _ rfl hcl⟩
  simp only [Act.put]
  refine wpAnyH_done (by kernel_rfl) ?_ _
  refine NoPanic.normal ?_
  have hpl : Calls Try.prog 40 #[.pointer (some ⟨g, 0, none⟩), .int .i64 1] W2 fun e w' => e = .returned (.int .i64 (((f + 1) % cs.length : Nat) : Int)) ∧ Drawn W2 w' := place_of c1 c2 hlen (by have := HCC.out.2.1; omega) 1 (by omega) (by omega)
  have HW2 := Lib.hid hW2
  clear hrow c1 c2 hcl hlen hW2
  go_wp2_with fail
  refine hpl.mono ?_
  rintro e W3 ⟨rfl, hd3⟩
  have hrow3 : Row W3 g #[.int .i64 (m : Int), .slice (some ⟨k, o, none⟩) cs.length c, .int .i64 (f : Int), .int .i64 (N : Int)] 85 := by unfold Row; rw [hd3.heap]; exact HCC.out.2.2
  have hF := Lib.hid (And.intro (HP.out.1 W3 hd3) (HP.out.2 W3 (.int .i64 (((f + 1) % cs.length : Nat) : Int)) (.int .i64 (r.length : Int)) hd3))
  generalize (f + 1) % cs.length = q at *
  have c2 : W3.cell? ⟨g, 2, none⟩ = some (.int .i64 (f : Int)) := cell_of_row W3 _ 2 _ 85 (0, 0) hrow3
  have f2 : W3.frozen? ⟨g, 2, none⟩ = false := Row.frozen hrow3 2
  have hrow4 := hrow3.set 2 (.int .i64 (q : Int))
  have d3 : (W3.setCell ⟨g, 2, none⟩ (.int .i64 (q : Int))).cell? ⟨g, 3, none⟩ = some (.int .i64 (N : Int)) := cell_of_row _ _ 3 _ 85 (0, 0) hrow4
  have g3 : (W3.setCell ⟨g, 2, none⟩ (.int .i64 (q : Int))).frozen? ⟨g, 3, none⟩ = false := Row.frozen hrow4 3
  obtain ⟨hr0, hr1, hgw, hvw, ha0, hab⟩ := HX.out
  have hkw : k < a0 := hvw k rfl
  have bo : ∀ (j : Nat) (cs : Array Value), j ≠ g → j ≠ k → Row W1 j cs 27 → Row ((W3.setCell ⟨g, 2, none⟩ (.int .i64 (q : Int))).setCell ⟨g, 3, none⟩ (.int .i64 (r.length : Int))) j cs 27 := fun j cs h1 h2 hr => by
    have e1 : Row W2 j cs 27 := by rw [HW2.out]; exact setCells_row (w := W1.drew) hr (K.cells K.zero) h2
    have e2 : Row W3 j cs 27 := by unfold Row; rw [hd3.heap]; exact e1
    exact (e2.other h1).other h1
  have q0 := bo a0 _ (by omega) (by omega) hr0
  have q1 := bo b1 _ (by omega) (by omega) hr1
  have x0 : ((W3.setCell ⟨g, 2, none⟩ (.int .i64 (q : Int))).setCell ⟨g, 3, none⟩ (.int .i64 (r.length : Int))).cell? ⟨b1, 0, none⟩ = some (S x) := cell_of_row _ _ 0 _ 27 (0, 0) q1
  have x1 : ((W3.setCell ⟨g, 2, none⟩ (.int .i64 (q : Int))).setCell ⟨g, 3, none⟩ (.int .i64 (r.length : Int))).cell? ⟨b1, 1, none⟩ = some (S []) := cell_of_row _ _ 1 _ 27 (0, 0) q1
  have y0 : ((W3.setCell ⟨g, 2, none⟩ (.int .i64 (q : Int))).setCell ⟨g, 3, none⟩ (.int .i64 (r.length : Int))).cell? ⟨a0, 0, none⟩ = some (.string ⟨#[]⟩) := cell_of_row _ _ 0 _ 27 (0, 0) q0
  have y1 : ((W3.setCell ⟨g, 2, none⟩ (.int .i64 (q : Int))).setCell ⟨g, 3, none⟩ (.int .i64 (r.length : Int))).cell? ⟨a0, 1, none⟩ = some (.string ⟨#[]⟩) := cell_of_row _ _ 1 _ 27 (0, 0) q0
  have z0 : ((W3.setCell ⟨g, 2, none⟩ (.int .i64 (q : Int))).setCell ⟨g, 3, none⟩ (.int .i64 (r.length : Int))).frozen? ⟨a0, 0, none⟩ = false := Row.frozen q0 0
  have z1 : ((W3.setCell ⟨g, 2, none⟩ (.int .i64 (q : Int))).setCell ⟨g, 3, none⟩ (.int .i64 (r.length : Int))).frozen? ⟨a0, 1, none⟩ = false := Row.frozen q0 1
  have hres := Lib.hid (((q0.set 0 (S x)).set 1 (S [])))
  have hM := Lib.hid (hM1.out.trans hF.out.2)
  have hcore := Lib.hid hF.out.1
  clear hrow3 hrow4 hpl hd3 bo q0 q1 hr0 hr1 hF hM1 ha0 hab hkw hgw hvw
  go_wp2
  refine bodyPost_ret (fields_end rfl _ _ a0 _ rfl hres.out rfl) rfl ?_
  obtain ⟨_, _, hgw, hvw, ha0, _⟩ := HX.out
  have hC5 := hcore.out
  have hM5 := hM.out
  generalize ((W3.setCell ⟨g, 2, none⟩ (.int .i64 (q : Int))).setCell ⟨g, 3, none⟩ (.int .i64 (r.length : Int))) = W5 at hC5 hM5 ⊢
  have hh : ∀ j, j ≠ a0 → ((W5.setCell ⟨a0, 0, none⟩ (S x)).setCell ⟨a0, 1, none⟩ (S [])).heap[j]? = W5.heap[j]? := fun j hj => (Below.heap_setCell _ _ _ _ hj).trans (Below.heap_setCell _ _ _ _ hj)
  have hsz : ((W5.setCell ⟨a0, 0, none⟩ (S x)).setCell ⟨a0, 1, none⟩ (S [])).heap.size = W5.heap.size := by simp [World.setCell]
  refine ⟨rfl, _, _, _, hC5.same (by rw [hsz]; exact Nat.le_refl _) (hh g (by omega)) (fun j hj => hh j (by have := hvw j hj; omega)), hM5.os, hM5.tape, hM5.output, by rw [hsz]; exact hM5.size, hM5.foot, fun j hj hn => ?_⟩
  rw [hh j (by omega)]
  exact hM5.rest j hj hn
end Rf
end Go.Proofs.Ytkekjcdhlkhhoaa
