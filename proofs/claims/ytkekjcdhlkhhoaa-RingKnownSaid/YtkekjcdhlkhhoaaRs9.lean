/- Clear, New and Set walked; of none: Push. -/
import Derived.Test.YtkekjcdhlkhhoaaRs8
namespace Go.Proofs.Ytkekjcdhlkhhoaa
namespace Rs
open Go.RowKit
attribute [local go_sem] store_one S_match S_store

set_option maxRecDepth 100000 in
set_option maxHeartbeats 400000 in
theorem clear_none_of {p : Option Addr} {w : World} (hl : Calls Try.prog 20 #[.pointer p] w fun e w' => e = .returned (.int .i64 0) ∧ w' = w) :
    Calls Try.prog 38 #[.pointer p] w fun e w' => e = .returned (.int .i64 0) ∧ w' = w := by
  go_enter Try.func38, Try.ntmps38
  go_wp2_with fail
  refine hl.mono ?_
  rintro e w1 ⟨rfl, hw1⟩
  obtain rfl := hw1.symm
  go_wp2
  go_loopw [7] (fun iv wr => iv = .int .i64 0 ∧ wr = w) (fun _ _ => 0)
  case atStart => exact ⟨rfl, rfl⟩
  case round =>
    obtain ⟨rfl, rfl⟩ := hrel
    go_wp2
    go_ret
    exact ⟨rfl, rfl⟩
set_option maxRecDepth 100000 in
set_option maxHeartbeats 400000 in
theorem clear_core {g m f : Nat} {v : Value} {cs xs : List (List UInt8)} {w : World} (h : Core w g m v f cs xs) :
    Calls Try.prog 38 #[.pointer (some ⟨g, 0, none⟩)] w fun e w' => e = .returned (.int .i64 (xs.length : Int)) ∧ ∃ v' f' cs', Core w' g m v' f' cs' [] ∧ Moves (Foot g v) (Foot g v') w w' := by
  have hl := len_core h
  have hfew := h.few
  obtain ⟨N, hN⟩ : ∃ N, N = xs.length := ⟨_, rfl⟩
  rw [← hN] at hl hfew ⊢
  have H0 := Lib.hid (And.intro h hN)
  clear h hN
  go_enter Try.func38, Try.ntmps38
  go_wp2_with fail
  refine hl.mono ?_
  rintro e w1 ⟨rfl, hw1⟩
  obtain rfl := hw1.symm
  go_wp2
  go_loopw [7] (fun iv wr => ∃ (i : Nat) (ys : List (List UInt8)) (v' : Value) (f' : Nat) (cs' : List (List UInt8)), ys.length + i = N ∧ iv = .int .i64 (i : Int) ∧ Core wr g m v' f' cs' ys ∧ Moves (Foot g v) (Foot g v') w wr) (fun iv _ => N - (intOf iv).toNat)
  case atStart => exact ⟨0, xs, v, f, cs, by rw [H0.out.2]; omega, rfl, H0.out.1, Moves.refl _ _⟩
  case round =>
    obtain ⟨i, ys, v', f', cs', hn, rfl, hC, hM⟩ := hrel
    cases ys with
    | cons y r =>
      rw [List.length_cons] at hn
      have hlt : i < N := by omega
      have H1 := Lib.hid hM
      have HP := Lib.hid (pop_core hC)
      clear hC hM
      go_wp2_with fail
      refine HP.out.mono ?_
      rintro e W2 ⟨rfl, v2, f2, cs2, hC2, hm2⟩
      have H2 := Lib.hid (And.intro hC2 (H1.out.trans hm2))
      clear hC2 hm2
      go_wp2
      exact ⟨⟨i + 1, r, v2, f2, cs2, by omega, by go_num, H2.out⟩, by simp [intOf]; omega⟩
    | nil =>
      rw [List.length_nil, Nat.zero_add] at hn
      subst hn
      have H1 := Lib.hid (And.intro hC hM)
      clear hC hM
      go_wp2
      go_ret
      exact ⟨rfl, _, _, _, H1.out⟩

set_option maxRecDepth 100000 in
set_option maxHeartbeats 400000 in
theorem new_bad (n : Int) (w : World) (h : n < 1 ∨ 65536 < n) :
    Calls Try.prog 18 #[.int .i64 n] w fun e w' => e = .returned (.tuple #[.pointer none, .int .i64 1]) ∧ w' = w := by
  rcases h with h | h
  · have hb : decide (n < 1) = true := decide_eq_true h
    go_enter Try.func18, Try.ntmps18
    go_wp2
    go_ret2
    exact ⟨rfl, rfl⟩
  · have hb : decide (n < 1) = false := decide_eq_false (by omega)
    have hb2 : decide (n > 65536) = true := decide_eq_true (by omega)
    have hb3 : decide (65536 < n) = true := decide_eq_true (by omega)
    go_enter Try.func18, Try.ntmps18
    go_wp2
    go_ret2
    exact ⟨rfl, rfl⟩
set_option maxRecDepth 100000 in
set_option maxHeartbeats 400000 in
theorem new_int (n : Int) (w : World) (h1 : 1 ≤ n) (h2 : n ≤ 65536) :
    Calls Try.prog 18 #[.int .i64 n] w fun e w' => e = .returned (.tuple #[.pointer (some ⟨w.heap.size, 0, none⟩), .int .i64 0]) ∧ w' = w.alloc (.cells #[.int .i64 n, .slice none 0 0, .int .i64 0, .int .i64 0] 90) := by
  have hb : decide (n < 1) = false := decide_eq_false (by omega)
  have hb2 : decide (n > 65536) = false := decide_eq_false (by omega)
  have hb3 : decide (65536 < n) = false := decide_eq_false (by omega)
  clear h1 h2
  go_enter Try.func18, Try.ntmps18
  go_wp2
  go_ret2
  exact ⟨rfl, rfl⟩
/-- A ring of nothing, of whatever room. -/
theorem core_new (m : Nat) (w : World) (h2 : m ≤ 65536) : Core (w.alloc (.cells #[.int .i64 (m : Int), .slice none 0 0, .int .i64 0, .int .i64 0] 90)) w.heap.size m (.slice none 0 0) 0 [] [] :=
  ⟨row_new w _ _, liesK_nil K _, fun k hk => (by cases hk), turned_nil, Nat.zero_le _, h2⟩
theorem new_core (m : Nat) (w : World) (h1 : 1 ≤ m) (h2 : m ≤ 65536) :
    Calls Try.prog 18 #[.int .i64 (m : Int)] w fun e w' => e = .returned (.tuple #[.pointer (some ⟨w.heap.size, 0, none⟩), .int .i64 0]) ∧ Core w' w.heap.size m (.slice none 0 0) 0 [] [] ∧ Below w.heap.size w w' :=
  (new_int (m : Int) w (by omega) (by omega)).mono (by
    rintro e w' ⟨he, rfl⟩
    exact ⟨he, core_new m w h2, (Below.refl _ w).alloc (Nat.le_refl _) _⟩)
set_option maxRecDepth 100000 in
set_option maxHeartbeats 400000 in
theorem push_nil (x : List UInt8) (w : World) :
    Calls Try.prog 35 #[.pointer none, (S x)] w fun e w' => e = .returned (.bool false) ∧ Below w.heap.size w w' := by
  go_enter Try.func35, Try.ntmps35
  go_wp2
  go_quiet (fail)
  go_wp2
  go_ret
  exact ⟨rfl, below_drewN _ _⟩
set_option maxRecDepth 100000 in
set_option maxHeartbeats 400000 in
theorem set_none_of {p : Option Addr} {w : World} (i : Int) (y : List UInt8) (hh : Calls Try.prog 49 #[.pointer p, .int .i64 i] w fun e w' => e = .returned (.bool false) ∧ w' = w) :
    Calls Try.prog 37 #[.pointer p, .int .i64 i, (S y)] w fun e w' => e = .returned (.bool false) ∧ w' = w := by
  go_enter Try.func37, Try.ntmps37
  go_wp2_with fail
  refine hh.mono ?_
  rintro e w1 ⟨rfl, hw1⟩
  obtain rfl := hw1.symm
  go_wp2
  go_ret
  exact ⟨rfl, rfl⟩
set_option maxRecDepth 100000 in
set_option maxHeartbeats 1000000 in
theorem set_core {g m f : Nat} {v : Value} {cs xs : List (List UInt8)} {w : World} (h : Core w g m v f cs xs) (i : Nat) (y : List UInt8) (hi : i < xs.length) :
    Calls Try.prog 37 #[.pointer (some ⟨g, 0, none⟩), .int .i64 (i : Int), (S y)] w fun e w' => e = .returned (.bool true) ∧ ∃ v' f' cs', Core w' g m v' f' cs' (xs.set i y) ∧ Moves (Foot g v) (Foot g v') w w' := by
  have hf := h.few
  have hh := has_of (len_core h) (i : Int) true (by rw [decide_eq_true (Int.natCast_nonneg i), decide_eq_true (Int.ofNat_lt.2 hi)]; rfl)
  obtain ⟨k, o, c, rfl, hnc, hk⟩ := h.lies.shape (by omega)
  have hpl : (f + i) % cs.length < cs.length := Nat.mod_lt _ (by omega)
  have hix := fun W => LiesK.idx K k o cs.length c _ hpl W
  have hpc := fun W (hd : Drawn w W) => place_core (h.drawn hd) i (by omega) (by omega)
  have hr4 := fun W (hd : Drawn w W) => (h.drawn hd).r4
  have hst : ∀ W2, Drawn w W2 → (storeVar 9 ⟨k, o + (f + i) % cs.length * K.sz, none⟩ (S y)).run Try.prog W2 = .ok () (W2.setCells k (o + (f + i) % cs.length * K.sz) (K.cells y)) := fun W2 hd => K.store y W2 k _ ((h.drawn hd).lies.there _ hpl)
  have hend : ∀ W2, Drawn w W2 → R4 g (.int .i64 (m : Int)) (.slice (some ⟨k, o, none⟩) cs.length c) (.int .i64 (f : Int)) (.int .i64 (xs.length : Int)) (W2.setCells k (o + (f + i) % cs.length * K.sz) (K.cells y)) ∧
      Core (W2.setCells k (o + (f + i) % cs.length * K.sz) (K.cells y)) g m (.slice (some ⟨k, o, none⟩) cs.length c) f (cs.set ((f + i) % cs.length) y) (xs.set i y) ∧ Moves (Foot g (.slice (some ⟨k, o, none⟩) cs.length c)) (Foot g (.slice (some ⟨k, o, none⟩) cs.length c)) w (W2.setCells k (o + (f + i) % cs.length * K.sz) (K.cells y)) := fun W2 hd => by
    have hr := setCells_row (h.drawn hd).row (o := o + (f + i) % cs.length * K.sz) (K.cells y) (Ne.symm (h.off k rfl))
    have hg := grown_setCells W2 k (o + (f + i) % cs.length * K.sz) (K.cells y)
    refine ⟨⟨cell_of_row _ _ 0 _ 90 (0, 0) hr, cell_of_row _ _ 1 _ 90 (0, 0) hr, cell_of_row _ _ 2 _ 90 (0, 0) hr, cell_of_row _ _ 3 _ 90 (0, 0) hr⟩, ⟨by rw [List.length_set]; exact hr, ?_, h.off, h.turned.set i y hi, by rw [List.length_set]; exact h.cap, h.most⟩, (Moves.of_below hd.below).trans ⟨hg.os, hg.tape, hg.output, hg.size, fun j hj => .inl hj, fun j hj hn => hg.block j hj (fun e => hn (.inr e.symm))⟩⟩
    exact (h.drawn hd).lies.set _ y hpl
  generalize (f + i) % cs.length = p at *
  generalize o + p * K.sz = ad at *
  have HP := Lib.hid hpc
  have HR := Lib.hid hr4
  have HS := Lib.hid (And.intro hst hend)
  clear hpc hr4 hst hend h hi hf hpl hnc hk
  go_enter Try.func37, Try.ntmps37
  go_wp2_with fail
  refine hh.mono ?_
  rintro e w1 ⟨rfl, hw1⟩
  obtain rfl := hw1.symm
  go_wp2
  have hd0 : Drawn w w.drew := ⟨1, rfl⟩
  refine wp_region_noPanic ?_
  refine wp_region_held_drew (S := R4 g (.int .i64 (m : Int)) (.slice (some ⟨k, o, none⟩) cs.length c) (.int .i64 (f : Int)) (.int .i64 (xs.length : Int))) (by kernel_rfl) (HR.out _ hd0) (fun _ => ?_)
  refine take_at (i := 0) (d := some 11) (v := .pointer (some ⟨g, 0, none⟩)) rfl (by kernel_rfl) (by kernel_rfl) (by kernel_rfl) (fun _ _ _ h => h) (fun oi ho => ?_) (HR.out _ hd0) ?_
  · obtain rfl := Option.some.inj ho
    exact Or.inl ⟨by rfl, fun wx ⟨k0, k1, k2, k3⟩ => by go_simp⟩
  simp only [Act.put, List.setIfInBounds_toArray, List.set_cons_zero, List.set_cons_succ]
  refine take_at (i := 1) (d := some 12) (v := .pointer (some ⟨g, 0, none⟩)) rfl (by kernel_rfl) (by kernel_rfl) (by kernel_rfl) (fun _ _ _ h => h) (fun oi ho => ?_) (HR.out _ hd0) ?_
  · obtain rfl := Option.some.inj ho
    exact Or.inl ⟨by rfl, fun wx ⟨k0, k1, k2, k3⟩ => by go_simp⟩
  simp only [Act.put, List.setIfInBounds_toArray, List.set_cons_zero, List.set_cons_succ]
  refine take_at (i := 2) (d := some 13) (v := .pointer (some ⟨g, 1, none⟩)) rfl (by kernel_rfl) (by kernel_rfl) (by kernel_rfl) (fun _ _ _ h => h) (fun oi ho => ?_) (HR.out _ hd0) ?_
  · obtain rfl := Option.some.inj ho
    exact Or.inl ⟨by rfl, fun wx ⟨k0, k1, k2, k3⟩ => by go_simp⟩
  simp only [Act.put, List.setIfInBounds_toArray, List.set_cons_zero, List.set_cons_succ]
  refine take_at (i := 3) (d := some 14) (v := .slice (some ⟨k, o, none⟩) cs.length c) rfl (by kernel_rfl) (by kernel_rfl) (by kernel_rfl) (fun _ _ _ h => h) (fun oi ho => ?_) (HR.out _ hd0) ?_
  · obtain rfl := Option.some.inj ho
    exact Or.inl ⟨by rfl, fun wx ⟨k0, k1, k2, k3⟩ => by go_simp⟩
  simp only [Act.put, List.setIfInBounds_toArray, List.set_cons_zero, List.set_cons_succ]
  refine take_at (i := 4) (d := some 15) (v := .pointer (some ⟨g, 0, none⟩)) rfl (by kernel_rfl) (by kernel_rfl) (by kernel_rfl) (fun _ _ _ h => h) (fun oi ho => ?_) (HR.out _ hd0) ?_
  · obtain rfl := Option.some.inj ho
    exact Or.inl ⟨by rfl, fun wx ⟨k0, k1, k2, k3⟩ => by go_simp⟩
  simp only [Act.put, List.setIfInBounds_toArray, List.set_cons_zero, List.set_cons_succ]
  refine take_at (i := 5) (d := some 16) (v := .int .i64 (i : Int)) rfl (by kernel_rfl) (by kernel_rfl) (by kernel_rfl) (fun _ _ _ h => h) (fun oi ho => ?_) (HR.out _ hd0) ?_
  · obtain rfl := Option.some.inj ho
    exact Or.inl ⟨by rfl, fun wx ⟨k0, k1, k2, k3⟩ => by go_simp⟩
  simp only [Act.put, List.setIfInBounds_toArray, List.set_cons_zero, List.set_cons_succ]
  refine take_at (i := 7) (d := some 18) (v := (S y)) rfl (by kernel_rfl) (by kernel_rfl) (by kernel_rfl) (fun _ _ _ h => h) (fun oi ho => ?_) (HR.out _ hd0) ?_
  · obtain rfl := Option.some.inj ho
    exact Or.inl ⟨by rfl, fun wx ⟨k0, k1, k2, k3⟩ => by go_simp⟩
  simp only [Act.put, List.setIfInBounds_toArray, List.set_cons_zero, List.set_cons_succ]
  refine ready_call (i := 6) (d := some 17) (f := 50) (args := #[.pointer (some ⟨g, 0, none⟩), .int .i64 (i : Int)]) rfl (by kernel_rfl) (fun oi ho => ?_) ?_
  · obtain rfl := Option.some.inj ho
    exact ⟨by rfl, by go_simp⟩
  refine (HP.out _ hd0).mono ?_
  rintro e W3 ⟨rfl, hd1⟩
  have hd2 := hd0.trans hd1
  refine ⟨_, rfl, (HR.out _ hd2), ?_⟩
  simp only [Act.put, List.setIfInBounds_toArray, List.set_cons_zero, List.set_cons_succ]
  refine take_at (i := 8) (d := some 19) (v := .pointer (some ⟨k, ad, none⟩)) rfl (by kernel_rfl) (by kernel_rfl) (by kernel_rfl) (fun _ _ _ h => h) (fun oi ho => ?_) (HR.out _ hd2) ?_
  · obtain rfl := Option.some.inj ho
    exact Or.inl ⟨by rfl, fun wx ⟨k0, k1, k2, k3⟩ => by exact exec_index_by _ _ _ rfl _ _ rfl rfl _ (hix wx)⟩
  simp only [Act.put, List.setIfInBounds_toArray, List.set_cons_zero, List.set_cons_succ]
  refine ready_skip (i := 9) (d := none) (w' := W3.setCells k ad (K.cells y)) rfl (by kernel_rfl) (fun oi ho => ?_) (HS.out.2 _ hd2).1 ?_
  · obtain rfl := Option.some.inj ho
    exact ⟨by rfl, exec_store_by _ _ _ rfl _ rfl rfl (HS.out.1 _ hd2)⟩
  refine wpAnyH_done (by kernel_rfl) ?_ _
  refine NoPanic.normal ?_
  go_wp2
  go_ret
  exact ⟨rfl, _, _, _, (HS.out.2 _ hd2).2⟩
end Rs
end Go.Proofs.Ytkekjcdhlkhhoaa
