/- widen, Push walked. -/
import Derived.Test.YtkekjcdhlkhhoaaRf5
namespace Go.Proofs.Ytkekjcdhlkhhoaa
namespace Rf
open Go.RowKit
attribute [local go_sem] store_one S_match S_store

/-- The blocks of a ring. -/
def Foot (g : Nat) (v : Value) : Nat → Prop := fun k => k = g ∨ v.ownBlock = some k
theorem Core.look {w : World} {g m f : Nat} {v : Value} {cs xs : List (List UInt8)} (h : Core w g m v f cs xs) : Look w (some ⟨g, 0, none⟩) (Foot g v) xs ∧ ∀ k, Foot g v k → k < w.heap.size :=
  ⟨.inr ⟨g, m, v, f, cs, rfl, h, .inl rfl, fun _ hk => .inr hk⟩, fun k hk => by
    rcases hk with rfl | hk
    · exact h.row.lt
    · exact h.lies.lt k hk⟩

set_option maxRecDepth 100000 in
set_option maxHeartbeats 1000000 in
theorem widen_core {g m f : Nat} {v : Value} {cs xs : List (List UInt8)} {w : World} (h : Core w g m v f cs xs) (hm : xs.length < m) :
    Calls Try.prog 39 #[.pointer (some ⟨g, 0, none⟩)] w fun e w' => e = .returned (.tuple #[]) ∧ ∃ v' f' cs', Core w' g m v' f' cs' xs ∧ xs.length < cs'.length ∧ (∀ k, v'.ownBlock = some k → w.heap.size ≤ k) ∧ Keeps g w w' := by
  have hmost := h.most
  obtain ⟨s, hs⟩ : ∃ s, s = min m (2 * xs.length + 1) := ⟨_, rfl⟩
  have hmi : ∀ w, (Builtin.min_ #[3, 3] 3 #[.int .i64 (m : Int), .int .i64 (2 * (xs.length : Int) + 1)]).run Try.prog w = .ok (.int .i64 (s : Int)) w := fun w => by
    rw [run_min_int2, hs, Nat.min_def]
    congr 2
    split <;> split <;> omega
  have hw1 : IntKind.i64.wrap (2 * (xs.length : Int)) = 2 * (xs.length : Int) := by rw [IntKind.wrap_i64]; omega
  have hw2 : IntKind.i64.wrap (2 * (xs.length : Int) + 1) = 2 * (xs.length : Int) + 1 := by rw [IntKind.wrap_i64]; omega
  have hs1 : xs.length < s := by omega
  have hs2 : s ≤ m := by omega
  have hd0 : Drawn w w.drew := ⟨1, rfl⟩
  have hcd := h.drawn hd0
  have hth := things_core (some ⟨g, 0, none⟩) (Foot g v) xs w.drew hcd.look.1 hcd.look.2 s (by omega) (by omega)
  obtain ⟨b, hb⟩ : ∃ b, b = w.heap.size := ⟨_, rfl⟩
  rw [show w.drew.heap.size = b from hb.symm] at hth
  have hS : R4 g (.int .i64 (m : Int)) v (.int .i64 (f : Int)) (.int .i64 (xs.length : Int)) w.drew := hcd.r4
  have H0 := Lib.hid (And.intro h (And.intro hS (And.intro hb hs1)))
  have HT := Lib.hid hth
  clear h hcd hth hS hb hs hs1 hm
  obtain ⟨N, hN⟩ : ∃ N, N = xs.length := ⟨_, rfl⟩
  rw [← hN] at hmi hw1 hw2
  have HN := Lib.hid hN
  clear hN
  go_enter Try.func39, Try.ntmps39
  go_wp2
  have hS0 : w.drew.cell? ⟨g, 0, none⟩ = some (.int .i64 (m : Int)) ∧ w.drew.cell? ⟨g, 3, none⟩ = some (.int .i64 (N : Int)) := ⟨H0.out.2.1.1, by rw [HN.out]; exact H0.out.2.1.2.2.2⟩
  refine wp_region_noPanic ?_
  refine wp_region_held_drew (S := fun wx => wx.cell? ⟨g, 0, none⟩ = some (.int .i64 (m : Int)) ∧ wx.cell? ⟨g, 3, none⟩ = some (.int .i64 (N : Int))) (by kernel_rfl) hS0 (fun _ => ?_)
  refine take_at (i := 0) (d := some 2) (v := .pointer (some ⟨g, 0, none⟩)) rfl (by kernel_rfl) (by kernel_rfl) (by kernel_rfl) (fun _ _ _ h => h) (fun oi ho => ?_) hS0 ?_
  · obtain rfl := Option.some.inj ho
    exact Or.inl ⟨by rfl, fun wx ⟨k0, k3⟩ => by go_simp⟩
  simp only [Act.put, List.setIfInBounds_toArray, List.set_cons_zero, List.set_cons_succ]
  refine take_at (i := 1) (d := some 3) (v := .pointer (some ⟨g, 0, none⟩)) rfl (by kernel_rfl) (by kernel_rfl) (by kernel_rfl) (fun _ _ _ h => h) (fun oi ho => ?_) hS0 ?_
  · obtain rfl := Option.some.inj ho
    exact Or.inl ⟨by rfl, fun wx ⟨k0, k3⟩ => by go_simp⟩
  simp only [Act.put, List.setIfInBounds_toArray, List.set_cons_zero, List.set_cons_succ]
  refine take_at (i := 2) (d := some 4) (v := .pointer (some ⟨g, 0, none⟩)) rfl (by kernel_rfl) (by kernel_rfl) (by kernel_rfl) (fun _ _ _ h => h) (fun oi ho => ?_) hS0 ?_
  · obtain rfl := Option.some.inj ho
    exact Or.inl ⟨by rfl, fun wx ⟨k0, k3⟩ => by go_simp⟩
  simp only [Act.put, List.setIfInBounds_toArray, List.set_cons_zero, List.set_cons_succ]
  refine take_at (i := 3) (d := some 5) (v := .pointer (some ⟨g, 0, none⟩)) rfl (by kernel_rfl) (by kernel_rfl) (by kernel_rfl) (fun _ _ _ h => h) (fun oi ho => ?_) hS0 ?_
  · obtain rfl := Option.some.inj ho
    exact Or.inl ⟨by rfl, fun wx ⟨k0, k3⟩ => by go_simp⟩
  simp only [Act.put, List.setIfInBounds_toArray, List.set_cons_zero, List.set_cons_succ]
  refine take_at (i := 4) (d := some 6) (v := .pointer (some ⟨g, 0, none⟩)) rfl (by kernel_rfl) (by kernel_rfl) (by kernel_rfl) (fun _ _ _ h => h) (fun oi ho => ?_) hS0 ?_
  · obtain rfl := Option.some.inj ho
    exact Or.inl ⟨by rfl, fun wx ⟨k0, k3⟩ => by go_simp⟩
  simp only [Act.put, List.setIfInBounds_toArray, List.set_cons_zero, List.set_cons_succ]
  refine take_at (i := 5) (d := some 7) (v := .pointer (some ⟨g, 0, none⟩)) rfl (by kernel_rfl) (by kernel_rfl) (by kernel_rfl) (fun _ _ _ h => h) (fun oi ho => ?_) hS0 ?_
  · obtain rfl := Option.some.inj ho
    exact Or.inl ⟨by rfl, fun wx ⟨k0, k3⟩ => by go_simp⟩
  simp only [Act.put, List.setIfInBounds_toArray, List.set_cons_zero, List.set_cons_succ]
  refine take_at (i := 6) (d := some 8) (v := .int .i64 (m : Int)) rfl (by kernel_rfl) (by kernel_rfl) (by kernel_rfl) (fun _ _ _ h => h) (fun oi ho => ?_) hS0 ?_
  · obtain rfl := Option.some.inj ho
    exact Or.inl ⟨by rfl, fun wx ⟨k0, k3⟩ => by go_simp⟩
  simp only [Act.put, List.setIfInBounds_toArray, List.set_cons_zero, List.set_cons_succ]
  refine take_at (i := 7) (d := some 9) (v := .pointer (some ⟨g, 0, none⟩)) rfl (by kernel_rfl) (by kernel_rfl) (by kernel_rfl) (fun _ _ _ h => h) (fun oi ho => ?_) hS0 ?_
  · obtain rfl := Option.some.inj ho
    exact Or.inl ⟨by rfl, fun wx ⟨k0, k3⟩ => by go_simp⟩
  simp only [Act.put, List.setIfInBounds_toArray, List.set_cons_zero, List.set_cons_succ]
  refine take_at (i := 8) (d := some 10) (v := .pointer (some ⟨g, 0, none⟩)) rfl (by kernel_rfl) (by kernel_rfl) (by kernel_rfl) (fun _ _ _ h => h) (fun oi ho => ?_) hS0 ?_
  · obtain rfl := Option.some.inj ho
    exact Or.inl ⟨by rfl, fun wx ⟨k0, k3⟩ => by go_simp⟩
  simp only [Act.put, List.setIfInBounds_toArray, List.set_cons_zero, List.set_cons_succ]
  refine take_at (i := 9) (d := some 11) (v := .pointer (some ⟨g, 3, none⟩)) rfl (by kernel_rfl) (by kernel_rfl) (by kernel_rfl) (fun _ _ _ h => h) (fun oi ho => ?_) hS0 ?_
  · obtain rfl := Option.some.inj ho
    exact Or.inl ⟨by rfl, fun wx ⟨k0, k3⟩ => by go_simp⟩
  simp only [Act.put, List.setIfInBounds_toArray, List.set_cons_zero, List.set_cons_succ]
  refine take_at (i := 10) (d := some 12) (v := .int .i64 (N : Int)) rfl (by kernel_rfl) (by kernel_rfl) (by kernel_rfl) (fun _ _ _ h => h) (fun oi ho => ?_) hS0 ?_
  · obtain rfl := Option.some.inj ho
    exact Or.inl ⟨by rfl, fun wx ⟨k0, k3⟩ => by go_simp⟩
  simp only [Act.put, List.setIfInBounds_toArray, List.set_cons_zero, List.set_cons_succ]
  refine take_at (i := 11) (d := some 13) (v := .int .i64 (2 * (N : Int))) rfl (by kernel_rfl) (by kernel_rfl) (by kernel_rfl) (fun _ _ _ h => h) (fun oi ho => ?_) hS0 ?_
  · obtain rfl := Option.some.inj ho
    exact Or.inl ⟨by rfl, fun wx ⟨k0, k3⟩ => by go_simp⟩
  simp only [Act.put, List.setIfInBounds_toArray, List.set_cons_zero, List.set_cons_succ]
  refine take_at (i := 12) (d := some 14) (v := .int .i64 (2 * (N : Int) + 1)) rfl (by kernel_rfl) (by kernel_rfl) (by kernel_rfl) (fun _ _ _ h => h) (fun oi ho => ?_) hS0 ?_
  · obtain rfl := Option.some.inj ho
    exact Or.inl ⟨by rfl, fun wx ⟨k0, k3⟩ => by go_simp⟩
  simp only [Act.put, List.setIfInBounds_toArray, List.set_cons_zero, List.set_cons_succ]
  refine take_at (i := 13) (d := some 15) (v := .int .i64 (s : Int)) rfl (by kernel_rfl) (by kernel_rfl) (by kernel_rfl) (fun _ _ _ h => h) (fun oi ho => ?_) hS0 ?_
  · obtain rfl := Option.some.inj ho
    exact Or.inl ⟨by rfl, fun wx ⟨k0, k3⟩ => by go_simp⟩
  simp only [Act.put, List.setIfInBounds_toArray, List.set_cons_zero, List.set_cons_succ]
  refine ready_call (i := 14) (d := some 16) (f := 42) (args := #[.pointer (some ⟨g, 0, none⟩), .int .i64 (s : Int)]) rfl (by kernel_rfl) (fun oi ho => ?_) ?_
  · obtain rfl := Option.some.inj ho
    exact ⟨by rfl, by go_simp⟩
  refine (HT.out).mono ?_
  rintro e W1 ⟨rfl, hl1, hz1, hb1⟩
  have hr1 : Row W1 g #[.int .i64 (m : Int), v, .int .i64 (f : Int), .int .i64 (N : Int)] 85 := by
    have hg : g < b := by rw [H0.out.2.2.1]; exact H0.out.1.row.lt
    have := H0.out.1.row
    rw [← HN.out] at this
    exact Row.below (w := w.drew) this hb1 hg
  have hgb : g < b := by rw [H0.out.2.2.1]; exact H0.out.1.row.lt
  have hk1 : Keeps g w W1 := (Keeps.drew w).trans (Keeps.of_below (by have := hb1; rw [H0.out.2.2.1] at this; exact this))
  have HR := Lib.hid (And.intro hr1 (And.intro hl1 (And.intro hk1 (And.intro hgb hz1))))
  have c0 : W1.cell? ⟨g, 0, none⟩ = some (.int .i64 (m : Int)) := cell_of_row W1 _ 0 _ 85 (0, 0) hr1
  have c1 : W1.cell? ⟨g, 1, none⟩ = some v := cell_of_row W1 _ 1 _ 85 (0, 0) hr1
  have c3 : W1.cell? ⟨g, 3, none⟩ = some (.int .i64 (N : Int)) := cell_of_row W1 _ 3 _ 85 (0, 0) hr1
  have f1 : W1.frozen? ⟨g, 1, none⟩ = false := Row.frozen hr1 1
  clear hr1 hl1 hk1 hgb hz1 hb1
  refine ⟨_, rfl, ⟨c0, c3⟩, ?_⟩
  simp only [Act.put, List.setIfInBounds_toArray, List.set_cons_zero, List.set_cons_succ]
  refine take_at (i := 15) (d := some 17) (v := .pointer (some ⟨g, 0, none⟩)) rfl (by kernel_rfl) (by kernel_rfl) (by kernel_rfl) (fun _ _ _ h => h) (fun oi ho => ?_) ⟨c0, c3⟩ ?_
  · obtain rfl := Option.some.inj ho
    exact Or.inl ⟨by rfl, fun wx ⟨k0, k3⟩ => by go_simp⟩
  simp only [Act.put, List.setIfInBounds_toArray, List.set_cons_zero, List.set_cons_succ]
  refine take_at (i := 16) (d := some 18) (v := .pointer (some ⟨g, 1, none⟩)) rfl (by kernel_rfl) (by kernel_rfl) (by kernel_rfl) (fun _ _ _ h => h) (fun oi ho => ?_) ⟨c0, c3⟩ ?_
  · obtain rfl := Option.some.inj ho
    exact Or.inl ⟨by rfl, fun wx ⟨k0, k3⟩ => by go_simp⟩
  simp only [Act.put, List.setIfInBounds_toArray, List.set_cons_zero, List.set_cons_succ]
  have hr2 := HR.out.1.set 1 (.slice (some ⟨b, 0, none⟩) s s)
  have d0 : (W1.setCell ⟨g, 1, none⟩ (.slice (some ⟨b, 0, none⟩) s s)).cell? ⟨g, 0, none⟩ = some (.int .i64 (m : Int)) := cell_of_row _ _ 0 _ 85 (0, 0) hr2
  have d2 : (W1.setCell ⟨g, 1, none⟩ (.slice (some ⟨b, 0, none⟩) s s)).cell? ⟨g, 2, none⟩ = some (.int .i64 (f : Int)) := cell_of_row _ _ 2 _ 85 (0, 0) hr2
  have d3 : (W1.setCell ⟨g, 1, none⟩ (.slice (some ⟨b, 0, none⟩) s s)).cell? ⟨g, 3, none⟩ = some (.int .i64 (N : Int)) := cell_of_row _ _ 3 _ 85 (0, 0) hr2
  have f2 : (W1.setCell ⟨g, 1, none⟩ (.slice (some ⟨b, 0, none⟩) s s)).frozen? ⟨g, 2, none⟩ = false := Row.frozen hr2 2
  clear hr2
  refine ready_skip (i := 17) (d := none) (w' := W1.setCell ⟨g, 1, none⟩ (.slice (some ⟨b, 0, none⟩) s s)) rfl (by kernel_rfl) (fun oi ho => ?_) ⟨d0, d3⟩ ?_
  · obtain rfl := Option.some.inj ho
    exact ⟨by rfl, by go_simp⟩
  refine take_at (i := 18) (d := some 19) (v := .pointer (some ⟨g, 0, none⟩)) rfl (by kernel_rfl) (by kernel_rfl) (by kernel_rfl) (fun _ _ _ h => h) (fun oi ho => ?_) ⟨d0, d3⟩ ?_
  · obtain rfl := Option.some.inj ho
    exact Or.inl ⟨by rfl, fun wx ⟨k0, k3⟩ => by go_simp⟩
  simp only [Act.put, List.setIfInBounds_toArray, List.set_cons_zero, List.set_cons_succ]
  refine take_at (i := 19) (d := some 20) (v := .pointer (some ⟨g, 2, none⟩)) rfl (by kernel_rfl) (by kernel_rfl) (by kernel_rfl) (fun _ _ _ h => h) (fun oi ho => ?_) ⟨d0, d3⟩ ?_
  · obtain rfl := Option.some.inj ho
    exact Or.inl ⟨by rfl, fun wx ⟨k0, k3⟩ => by go_simp⟩
  simp only [Act.put, List.setIfInBounds_toArray, List.set_cons_zero, List.set_cons_succ]
  have hr3 := (HR.out.1.set 1 (.slice (some ⟨b, 0, none⟩) s s)).set 2 (.int .i64 0)
  have e0 : ((W1.setCell ⟨g, 1, none⟩ (.slice (some ⟨b, 0, none⟩) s s)).setCell ⟨g, 2, none⟩ (.int .i64 0)).cell? ⟨g, 0, none⟩ = some (.int .i64 (m : Int)) := cell_of_row _ _ 0 _ 85 (0, 0) hr3
  have e3 : ((W1.setCell ⟨g, 1, none⟩ (.slice (some ⟨b, 0, none⟩) s s)).setCell ⟨g, 2, none⟩ (.int .i64 0)).cell? ⟨g, 3, none⟩ = some (.int .i64 (N : Int)) := cell_of_row _ _ 3 _ 85 (0, 0) hr3
  refine ready_skip (i := 20) (d := none) (w' := (W1.setCell ⟨g, 1, none⟩ (.slice (some ⟨b, 0, none⟩) s s)).setCell ⟨g, 2, none⟩ (.int .i64 0)) rfl (by kernel_rfl) (fun oi ho => ?_) ⟨e0, e3⟩ ?_
  · obtain rfl := Option.some.inj ho
    exact ⟨by rfl, by go_simp⟩
  refine wpAnyH_done (by kernel_rfl) ?_ _
  refine NoPanic.normal ?_
  have HF := Lib.hid hr3
  clear hr3
  go_wp2
  go_end0
  obtain ⟨hr1, hl1, hk1, hgb, hz1⟩ := HR.out
  obtain ⟨h0, _, hb, hs1⟩ := H0.out
  have hl : (xs ++ List.replicate (s - xs.length) []).length = s := by rw [List.length_append, List.length_replicate]; omega
  have hk2 := (hk1.trans (Keeps.setCell W1 1 (.slice (some ⟨b, 0, none⟩) s s))).trans (Keeps.setCell _ 2 (.int .i64 0))
  refine ⟨rfl, .slice (some ⟨b, 0, none⟩) s s, 0, _, ⟨?_, ?_, fun k hk => ?_, turned_wide xs [] s (by omega), by rw [hl]; exact hs2, hmost⟩, by rw [hl]; exact hs1, fun k hk => ?_, hk2⟩
  · have := HF.out
    rw [HN.out] at this
    exact this
  · have h1 : ∀ k, (Value.slice (some ⟨b, 0, none⟩) s s).ownBlock = some k → k ≠ g := fun k hk => by have h5 : b = k := Option.some.inj hk; omega
    exact (hl1.same (by simp [World.setCell]) (fun k hk => Below.heap_setCell _ _ _ _ (h1 k hk))).same (by simp [World.setCell]) (fun k hk => Below.heap_setCell _ _ _ _ (h1 k hk))
  · have h5 : b = k := Option.some.inj hk
    omega
  · have h5 : b = k := Option.some.inj hk
    omega
end Rf
end Go.Proofs.Ytkekjcdhlkhhoaa
