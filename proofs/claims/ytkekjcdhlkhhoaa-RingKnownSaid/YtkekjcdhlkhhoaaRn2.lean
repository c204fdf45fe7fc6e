/- At and Set walked. -/
import Derived.Test.YtkekjcdhlkhhoaaRn1
namespace Go.Proofs.Ytkekjcdhlkhhoaa
namespace Rn
open Go.RowKit
attribute [local go_sem] store_one S_match S_store

/-- What the ring's four cells hold. -/
def R4 (g : Nat) (c0 c1 c2 c3 : Value) (W : World) : Prop := W.cell? ⟨g, 0, none⟩ = some c0 ∧ W.cell? ⟨g, 1, none⟩ = some c1 ∧ W.cell? ⟨g, 2, none⟩ = some c2 ∧ W.cell? ⟨g, 3, none⟩ = some c3
theorem Core.r4 {w : World} {g m f : Nat} {v : Value} {cs xs : List (Int)} (h : Core w g m v f cs xs) : R4 g (.int .i64 (m : Int)) v (.int .i64 (f : Int)) (.int .i64 (xs.length : Int)) w := ⟨h.c0, h.c1, h.c2, h.c3⟩
theorem R4.drawn {w w' : World} {g : Nat} {c0 c1 c2 c3 : Value} (h : R4 g c0 c1 c2 c3 w) (hd : Drawn w w') : R4 g c0 c1 c2 c3 w' := by
  obtain ⟨n, rfl⟩ := hd; exact h

set_option maxRecDepth 100000 in
set_option maxHeartbeats 400000 in
theorem at_none_of {p : Option Addr} {w : World} (i : Int) (hh : Calls Try.prog 52 #[.pointer p, .int .i64 i] w fun e w' => e = .returned (.bool false) ∧ w' = w) :
    Calls Try.prog 23 #[.pointer p, .int .i64 i] w fun e w' => e = .returned (.tuple #[.int .i64 0, .bool false]) ∧ Below w.heap.size w w' := by
  go_enter Try.func23, Try.ntmps23
  go_wp2_with fail
  refine hh.mono ?_
  rintro e w' ⟨rfl, rfl⟩
  go_wp2
  go_ret2
  exact ⟨rfl, Below.refl _ _⟩
set_option maxRecDepth 100000 in
set_option maxHeartbeats 400000 in
theorem at_core {g m : Nat} {v : Value} {f : Nat} {cs xs : List (Int)} {w : World} (h : Core w g m v f cs xs) (i : Nat) (x : Int) (hx : xs[i]? = some x) :
    Calls Try.prog 23 #[.pointer (some ⟨g, 0, none⟩), .int .i64 (i : Int)] w fun e w' => e = .returned (.tuple #[(Value.int .i64 x), .bool true]) ∧ Below w.heap.size w w' := by
  have hi := (List.getElem?_eq_some_iff.1 hx).1
  have hf := h.few
  have hh := has_of (len_core h) (i : Int) true (by rw [decide_eq_true (Int.natCast_nonneg i), decide_eq_true (Int.ofNat_lt.2 hi)]; rfl)
  obtain ⟨k, o, c, rfl, hnc, hk⟩ := h.lies.shape (by omega)
  have hpl : (f + i) % cs.length < cs.length := Nat.mod_lt _ (by omega)
  have hix := fun W => LiesK.idx K k o cs.length c _ hpl W
  have hld : ∀ W, Drawn w W → (loadVar 3 ⟨k, o + (f + i) % cs.length * K.sz, none⟩).run Try.prog W = .ok (Value.int .i64 x) W := fun W hd => K.load x W k _ ((h.drawn hd).lies.rng _ x (h.turned.2.2 i x hx))
  have hpc := fun W (hd : Drawn w W) => place_core (h.drawn hd) i (by omega) (by omega)
  have hr4 := fun W (hd : Drawn w W) => (h.drawn hd).r4
  generalize (f + i) % cs.length = p at *
  have HL := Lib.hid hld
  have HP := Lib.hid hpc
  have HR := Lib.hid hr4
  clear hld hpc hr4 h hx hi hf hpl hnc hk
  go_enter Try.func23, Try.ntmps23
  go_wp2_with fail
  refine hh.mono ?_
  rintro e w1 ⟨rfl, hw1⟩
  obtain rfl := hw1.symm
  go_wp2
  have hd0 : Drawn w w.drew := ⟨1, rfl⟩
  refine wp_region_noPanic ?_
  refine wp_region_held_drew (S := R4 g (.int .i64 (m : Int)) (.slice (some ⟨k, o, none⟩) cs.length c) (.int .i64 (f : Int)) (.int .i64 (xs.length : Int))) (by kernel_rfl) (HR.out _ hd0) (fun _ => ?_)
  refine take_at (i := 0) (d := some 12) (v := .pointer (some ⟨g, 0, none⟩)) rfl (by kernel_rfl) (by kernel_rfl) (by kernel_rfl) (fun _ _ _ h => h) (fun oi ho => ?_) (HR.out _ hd0) ?_
  · obtain rfl := Option.some.inj ho
    exact Or.inl ⟨by rfl, fun wx ⟨k0, k1, k2, k3⟩ => by go_simp⟩
  simp only [Act.put, List.setIfInBounds_toArray, List.set_cons_zero, List.set_cons_succ]
  refine take_at (i := 1) (d := some 13) (v := .pointer (some ⟨g, 0, none⟩)) rfl (by kernel_rfl) (by kernel_rfl) (by kernel_rfl) (fun _ _ _ h => h) (fun oi ho => ?_) (HR.out _ hd0) ?_
  · obtain rfl := Option.some.inj ho
    exact Or.inl ⟨by rfl, fun wx ⟨k0, k1, k2, k3⟩ => by go_simp⟩
  simp only [Act.put, List.setIfInBounds_toArray, List.set_cons_zero, List.set_cons_succ]
  refine take_at (i := 2) (d := some 14) (v := .pointer (some ⟨g, 1, none⟩)) rfl (by kernel_rfl) (by kernel_rfl) (by kernel_rfl) (fun _ _ _ h => h) (fun oi ho => ?_) (HR.out _ hd0) ?_
  · obtain rfl := Option.some.inj ho
    exact Or.inl ⟨by rfl, fun wx ⟨k0, k1, k2, k3⟩ => by go_simp⟩
  simp only [Act.put, List.setIfInBounds_toArray, List.set_cons_zero, List.set_cons_succ]
  refine take_at (i := 3) (d := some 15) (v := .slice (some ⟨k, o, none⟩) cs.length c) rfl (by kernel_rfl) (by kernel_rfl) (by kernel_rfl) (fun _ _ _ h => h) (fun oi ho => ?_) (HR.out _ hd0) ?_
  · obtain rfl := Option.some.inj ho
    exact Or.inl ⟨by rfl, fun wx ⟨k0, k1, k2, k3⟩ => by go_simp⟩
  simp only [Act.put, List.setIfInBounds_toArray, List.set_cons_zero, List.set_cons_succ]
  refine take_at (i := 4) (d := some 16) (v := .pointer (some ⟨g, 0, none⟩)) rfl (by kernel_rfl) (by kernel_rfl) (by kernel_rfl) (fun _ _ _ h => h) (fun oi ho => ?_) (HR.out _ hd0) ?_
  · obtain rfl := Option.some.inj ho
    exact Or.inl ⟨by rfl, fun wx ⟨k0, k1, k2, k3⟩ => by go_simp⟩
  simp only [Act.put, List.setIfInBounds_toArray, List.set_cons_zero, List.set_cons_succ]
  refine take_at (i := 5) (d := some 17) (v := .int .i64 (i : Int)) rfl (by kernel_rfl) (by kernel_rfl) (by kernel_rfl) (fun _ _ _ h => h) (fun oi ho => ?_) (HR.out _ hd0) ?_
  · obtain rfl := Option.some.inj ho
    exact Or.inl ⟨by rfl, fun wx ⟨k0, k1, k2, k3⟩ => by go_simp⟩
  simp only [Act.put, List.setIfInBounds_toArray, List.set_cons_zero, List.set_cons_succ]
  refine ready_call (i := 6) (d := some 18) (f := 51) (args := #[.pointer (some ⟨g, 0, none⟩), .int .i64 (i : Int)]) rfl (by kernel_rfl) (fun oi ho => ?_) ?_
  · obtain rfl := Option.some.inj ho
    exact ⟨by rfl, by go_simp⟩
  refine (HP.out _ hd0).mono ?_
  rintro e w2 ⟨rfl, hd1⟩
  have hd2 := hd0.trans hd1
  refine ⟨_, rfl, (HR.out _ hd2), ?_⟩
  simp only [Act.put, List.setIfInBounds_toArray, List.set_cons_zero, List.set_cons_succ]
  refine take_at (i := 7) (d := some 19) (v := .pointer (some ⟨k, o + p * K.sz, none⟩)) rfl (by kernel_rfl) (by kernel_rfl) (by kernel_rfl) (fun _ _ _ h => h) (fun oi ho => ?_) (HR.out _ hd2) ?_
  · obtain rfl := Option.some.inj ho
    exact Or.inl ⟨by rfl, fun wx ⟨k0, k1, k2, k3⟩ => by exact exec_index_by _ _ _ rfl _ _ rfl rfl _ (hix wx)⟩
  simp only [Act.put, List.setIfInBounds_toArray, List.set_cons_zero, List.set_cons_succ]
  refine ready_value (i := 8) (d := some 20) (v := (Value.int .i64 x)) (w' := w2) rfl (by kernel_rfl) (fun oi ho => ?_) (HR.out _ hd2) ?_
  · obtain rfl := Option.some.inj ho
    exact ⟨by rfl, exec_load_by _ _ rfl _ rfl (HL.out _ hd2)⟩
  simp only [Act.put, List.setIfInBounds_toArray, List.set_cons_zero, List.set_cons_succ]
  refine take_at (i := 9) (d := some 4) (v := (Value.int .i64 x)) rfl (by kernel_rfl) (by kernel_rfl) (by kernel_rfl) (fun _ _ _ h => h) (fun oi ho => ?_) (HR.out _ hd2) ?_
  · obtain rfl := Option.some.inj ho
    exact Or.inl ⟨by rfl, fun wx ⟨k0, k1, k2, k3⟩ => by go_simp⟩
  simp only [Act.put, List.setIfInBounds_toArray, List.set_cons_zero, List.set_cons_succ]
  refine take_at (i := 10) (d := some 5) (v := .bool true) rfl (by kernel_rfl) (by kernel_rfl) (by kernel_rfl) (fun _ _ _ h => h) (fun oi ho => ?_) (HR.out _ hd2) ?_
  · obtain rfl := Option.some.inj ho
    exact Or.inl ⟨by rfl, fun wx ⟨k0, k1, k2, k3⟩ => by go_simp⟩
  simp only [Act.put, List.setIfInBounds_toArray, List.set_cons_zero, List.set_cons_succ]
  refine wpAnyH_done (by kernel_rfl) ?_ _
  refine NoPanic.normal ?_
  go_wp2
  go_ret2
  exact ⟨rfl, hd2.below⟩
end Rn
end Go.Proofs.Ytkekjcdhlkhhoaa
