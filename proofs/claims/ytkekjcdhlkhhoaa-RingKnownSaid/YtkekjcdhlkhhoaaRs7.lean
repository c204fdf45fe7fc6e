/- Push walked. -/
import Derived.Test.YtkekjcdhlkhhoaaRs6
namespace Go.Proofs.Ytkekjcdhlkhhoaa
namespace Rs
open Go.RowKit
attribute [local go_sem] store_one S_match S_store

theorem setCells_row {w : World} {b g o : Nat} {cs : Array Value} {t : TypeId} (h : Row w b cs t) (l : List Value) (hn : b ≠ g) : Row (w.setCells g o l) b cs t :=
  row_grown h (grown_setCells w g o l) (fun e => hn (Option.some.inj e))
/-- One more, put behind the others. -/
theorem Core.push {w : World} {g m f k o c : Nat} {cs xs : List (List UInt8)} (h : Core w g m (.slice (some ⟨k, o, none⟩) cs.length c) f cs xs) (x : List UInt8) (hx : xs.length < cs.length) :
    Core ((w.setCells k (o + (f + xs.length) % cs.length * K.sz) (K.cells x)).setCell ⟨g, 3, none⟩ (.int .i64 ((xs.length : Int) + 1))) g m (.slice (some ⟨k, o, none⟩) cs.length c) f (cs.set ((f + xs.length) % cs.length) x) (xs ++ [x]) := by
  have hkg : k ≠ g := h.off k rfl
  have h1 := h.lies.set ((f + xs.length) % cs.length) x (Nat.mod_lt _ (by omega))
  refine ⟨?_, ?_, h.off, h.turned.push x hx, by rw [List.length_set]; exact h.cap, h.most⟩
  · have := (setCells_row h.row (o := o + (f + xs.length) % cs.length * K.sz) (K.cells x) (Ne.symm hkg)).set 3 (.int .i64 ((xs.length : Int) + 1))
    rw [List.length_append, List.length_singleton, Int.natCast_add]
    exact this
  · exact h1.same (by simp [World.setCell]) (fun j hj => Below.heap_setCell _ _ _ _ (by have h5 : k = j := Option.some.inj hj; show j ≠ g; omega))
theorem Moves.of_cells {w : World} {g k o : Nat} {c : Nat} {v1 : Value} {n : Nat} (l : List Value) (i : Nat) (u : Value) (hv : v1 = .slice (some ⟨k, o, none⟩) n c) (p : Nat) :
    Moves (Foot g v1) (Foot g v1) w ((w.setCells k p l).setCell ⟨g, i, none⟩ u) := by
  subst hv
  have hg := grown_setCells w k p l
  refine ⟨hg.os, hg.tape, hg.output, by have := hg.size; simpa [World.setCell] using this, fun j hj => .inl hj, fun j hj hn => ?_⟩
  rw [Below.heap_setCell _ _ _ _ (show j ≠ g from fun e => hn (.inl e))]
  exact hg.block j hj (fun e => hn (.inr e.symm))

set_option maxRecDepth 100000 in
set_option maxHeartbeats 1000000 in
theorem push_core {g m f : Nat} {v : Value} {cs xs : List (List UInt8)} {w : World} (h : Core w g m v f cs xs) (x : List UInt8) (hfit : xs.length ≤ m) :
    Calls Try.prog 35 #[.pointer (some ⟨g, 0, none⟩), (S x)] w fun e w' => e = .returned (.bool (decide (xs.length < m))) ∧
      (xs.length < m → ∃ v' f' cs', Core w' g m v' f' cs' (xs ++ [x]) ∧ Moves (Foot g v) (Foot g v') w w') ∧ (¬ xs.length < m → Drawn w w') := by
  have c0 := h.c0
  have c1 := h.c1
  have c3 := h.c3
  have hfew := h.few
  have hlen : ∀ W, (Builtin.len_ #[46] 3 #[v]).run Try.prog W = .ok (.int .i64 (cs.length : Int)) W := h.lies.len 3
  by_cases hlt : xs.length < m
  · have hb1 : ((xs.length : Int) == (m : Int)) = false := by rw [beq_eq_false_iff_ne]; omega
    have hb1' : (xs.length == m) = false := by rw [beq_eq_false_iff_ne]; omega
    by_cases hfl : xs.length = cs.length
    · have hb2 : ((xs.length : Int) == (cs.length : Int)) = true := by rw [beq_iff_eq]; omega
      have hb2' : (xs.length == cs.length) = true := by rw [beq_iff_eq]; omega
      have HW : Hid (∀ a, Calls Try.prog 61 #[.pointer (some ⟨g, 0, none⟩)] (w.drewN a) fun e w' => e = .returned (.tuple #[]) ∧ ∃ v' f' cs', Core w' g m v' f' cs' xs ∧ xs.length < cs'.length ∧ Moves (Foot g v) (Foot g v') w w') := Lib.hid fun a => (widen_core (h.drawn ⟨a, rfl⟩) hlt).mono (by
        rintro e w' ⟨he, v', f', cs', h1, h2, h3, h4⟩
        refine ⟨he, v', f', cs', h1, h2, h4.os, h4.tape, h4.output, h4.size, fun k hk => ?_, fun k hk hn => h4.block k hk (fun e => hn (.inl e))⟩
        rcases hk with rfl | hk
        · exact .inl (.inl rfl)
        · exact .inr (h3 k hk))
      have HL := Lib.hid (And.intro hlt hfl)
      clear h hlt hfl hfew hfit
      go_enter Try.func35, Try.ntmps35
      go_wp2
      go_quiet (fail)
      go_wp2
      go_quiet (fail)
      go_wp2_with fail
      refine (HW.out _).mono ?_
      rintro e W1 ⟨rfl, v1, f1, cs1, hC, hCl, hmv1⟩
      have hF := Lib.hid hmv1
      have hlt := HL.out.1
      have hfew := hC.few
      clear c0 c1 c3 hlen hb1 hb1' hb2 hb2' hmv1 HW
      obtain ⟨k, o, c, rfl, hnc, hk⟩ := hC.lies.shape (by omega)
      have hpl2 : (f1 + xs.length) % cs1.length < cs1.length := Nat.mod_lt _ (by omega)
      have hix := fun W => LiesK.idx K k o cs1.length c _ hpl2 W
      have hpu := hC.push x hCl
      have hmv : ∀ W2, Drawn W1 W2 → Moves (Foot g (.slice (some ⟨k, o, none⟩) cs1.length c)) (Foot g (.slice (some ⟨k, o, none⟩) cs1.length c)) W2 ((W2.setCells k (o + (f1 + xs.length) % cs1.length * K.sz) (K.cells x)).setCell ⟨g, 3, none⟩ (.int .i64 ((xs.length : Int) + 1))) := fun W2 _ => Moves.of_cells (K.cells x) 3 _ rfl _
      have hpu2 : ∀ W2, Drawn W1 W2 → Core ((W2.setCells k (o + (f1 + xs.length) % cs1.length * K.sz) (K.cells x)).setCell ⟨g, 3, none⟩ (.int .i64 ((xs.length : Int) + 1))) g m (.slice (some ⟨k, o, none⟩) cs1.length c) f1 (cs1.set ((f1 + xs.length) % cs1.length) x) (xs ++ [x]) := fun W2 hd => (hC.drawn hd).push x hCl
      have hst : ∀ W2, Drawn W1 W2 → (storeVar 9 ⟨k, o + (f1 + xs.length) % cs1.length * K.sz, none⟩ (S x)).run Try.prog W2 = .ok () (W2.setCells k (o + (f1 + xs.length) % cs1.length * K.sz) (K.cells x)) := fun W2 hd => K.store x W2 k _ ((hC.drawn hd).lies.there _ hpl2)
      have hpc := fun W (hd : Drawn W1 W) => place_core (hC.drawn hd) xs.length (by omega) (by omega)
      have hr4 : ∀ W2, Drawn W1 W2 → R4 g (.int .i64 (m : Int)) (.slice (some ⟨k, o, none⟩) cs1.length c) (.int .i64 (f1 : Int)) (.int .i64 (xs.length : Int)) W2 := fun W hd => (hC.drawn hd).r4
      have hs4 : ∀ W2, Drawn W1 W2 → R4 g (.int .i64 (m : Int)) (.slice (some ⟨k, o, none⟩) cs1.length c) (.int .i64 (f1 : Int)) (.int .i64 (xs.length : Int)) (W2.setCells k (o + (f1 + xs.length) % cs1.length * K.sz) (K.cells x)) ∧ (W2.setCells k (o + (f1 + xs.length) % cs1.length * K.sz) (K.cells x)).frozen? ⟨g, 3, none⟩ = false := fun W2 hd => by
        have hr := setCells_row (hC.drawn hd).row (o := o + (f1 + xs.length) % cs1.length * K.sz) (K.cells x) (Ne.symm (hC.off k rfl))
        exact ⟨⟨cell_of_row _ _ 0 _ 90 (0, 0) hr, cell_of_row _ _ 1 _ 90 (0, 0) hr, cell_of_row _ _ 2 _ 90 (0, 0) hr, cell_of_row _ _ 3 _ 90 (0, 0) hr⟩, Row.frozen hr 3⟩
      have hw1 : IntKind.i64.wrap ((xs.length : Int) + 1) = (xs.length : Int) + 1 := by rw [IntKind.wrap_i64]; omega
      generalize (f1 + xs.length) % cs1.length = q at *
      generalize o + q * K.sz = ad at *
      have HP := Lib.hid hpc
      have HR := Lib.hid hr4
      have HS := Lib.hid (And.intro hst hs4)
      have HE := Lib.hid (And.intro hpu2 hmv)
      clear hpc hr4 hst hs4 hpu hpu2 hmv hC hnc hk hpl2
      go_wp2
      have hd0 : Drawn W1 W1.drew := ⟨1, rfl⟩
      refine wp_region_noPanic ?_
      refine wp_region_held_drew (S := R4 g (.int .i64 (m : Int)) (.slice (some ⟨k, o, none⟩) cs1.length c) (.int .i64 (f1 : Int)) (.int .i64 (xs.length : Int))) (by kernel_rfl) (HR.out _ hd0) (fun _ => ?_)
      refine take_at (i := 0) (d := some 30) (v := .pointer (some ⟨g, 0, none⟩)) rfl (by kernel_rfl) (by kernel_rfl) (by kernel_rfl) (fun _ _ _ h => h) (fun oi ho => ?_) (HR.out _ hd0) ?_
      · obtain rfl := Option.some.inj ho
        exact Or.inl ⟨by rfl, fun wx ⟨k0, k1, k2, k3⟩ => by go_simp⟩
      simp only [Act.put, List.setIfInBounds_toArray, List.set_cons_zero, List.set_cons_succ]
      refine take_at (i := 1) (d := some 31) (v := .pointer (some ⟨g, 0, none⟩)) rfl (by kernel_rfl) (by kernel_rfl) (by kernel_rfl) (fun _ _ _ h => h) (fun oi ho => ?_) (HR.out _ hd0) ?_
      · obtain rfl := Option.some.inj ho
        exact Or.inl ⟨by rfl, fun wx ⟨k0, k1, k2, k3⟩ => by go_simp⟩
      simp only [Act.put, List.setIfInBounds_toArray, List.set_cons_zero, List.set_cons_succ]
      refine take_at (i := 2) (d := some 32) (v := .pointer (some ⟨g, 1, none⟩)) rfl (by kernel_rfl) (by kernel_rfl) (by kernel_rfl) (fun _ _ _ h => h) (fun oi ho => ?_) (HR.out _ hd0) ?_
      · obtain rfl := Option.some.inj ho
        exact Or.inl ⟨by rfl, fun wx ⟨k0, k1, k2, k3⟩ => by go_simp⟩
      simp only [Act.put, List.setIfInBounds_toArray, List.set_cons_zero, List.set_cons_succ]
      refine take_at (i := 3) (d := some 33) (v := .slice (some ⟨k, o, none⟩) cs1.length c) rfl (by kernel_rfl) (by kernel_rfl) (by kernel_rfl) (fun _ _ _ h => h) (fun oi ho => ?_) (HR.out _ hd0) ?_
      · obtain rfl := Option.some.inj ho
        exact Or.inl ⟨by rfl, fun wx ⟨k0, k1, k2, k3⟩ => by go_simp⟩
      simp only [Act.put, List.setIfInBounds_toArray, List.set_cons_zero, List.set_cons_succ]
      refine take_at (i := 4) (d := some 34) (v := .pointer (some ⟨g, 0, none⟩)) rfl (by kernel_rfl) (by kernel_rfl) (by kernel_rfl) (fun _ _ _ h => h) (fun oi ho => ?_) (HR.out _ hd0) ?_
      · obtain rfl := Option.some.inj ho
        exact Or.inl ⟨by rfl, fun wx ⟨k0, k1, k2, k3⟩ => by go_simp⟩
      simp only [Act.put, List.setIfInBounds_toArray, List.set_cons_zero, List.set_cons_succ]
      refine take_at (i := 5) (d := some 35) (v := .pointer (some ⟨g, 0, none⟩)) rfl (by kernel_rfl) (by kernel_rfl) (by kernel_rfl) (fun _ _ _ h => h) (fun oi ho => ?_) (HR.out _ hd0) ?_
      · obtain rfl := Option.some.inj ho
        exact Or.inl ⟨by rfl, fun wx ⟨k0, k1, k2, k3⟩ => by go_simp⟩
      simp only [Act.put, List.setIfInBounds_toArray, List.set_cons_zero, List.set_cons_succ]
      refine take_at (i := 6) (d := some 36) (v := .pointer (some ⟨g, 0, none⟩)) rfl (by kernel_rfl) (by kernel_rfl) (by kernel_rfl) (fun _ _ _ h => h) (fun oi ho => ?_) (HR.out _ hd0) ?_
      · obtain rfl := Option.some.inj ho
        exact Or.inl ⟨by rfl, fun wx ⟨k0, k1, k2, k3⟩ => by go_simp⟩
      simp only [Act.put, List.setIfInBounds_toArray, List.set_cons_zero, List.set_cons_succ]
      refine take_at (i := 7) (d := some 37) (v := .pointer (some ⟨g, 3, none⟩)) rfl (by kernel_rfl) (by kernel_rfl) (by kernel_rfl) (fun _ _ _ h => h) (fun oi ho => ?_) (HR.out _ hd0) ?_
      · obtain rfl := Option.some.inj ho
        exact Or.inl ⟨by rfl, fun wx ⟨k0, k1, k2, k3⟩ => by go_simp⟩
      simp only [Act.put, List.setIfInBounds_toArray, List.set_cons_zero, List.set_cons_succ]
      refine take_at (i := 8) (d := some 38) (v := .int .i64 (xs.length : Int)) rfl (by kernel_rfl) (by kernel_rfl) (by kernel_rfl) (fun _ _ _ h => h) (fun oi ho => ?_) (HR.out _ hd0) ?_
      · obtain rfl := Option.some.inj ho
        exact Or.inl ⟨by rfl, fun wx ⟨k0, k1, k2, k3⟩ => by go_simp⟩
      simp only [Act.put, List.setIfInBounds_toArray, List.set_cons_zero, List.set_cons_succ]
      refine take_at (i := 10) (d := some 40) (v := (S x)) rfl (by kernel_rfl) (by kernel_rfl) (by kernel_rfl) (fun _ _ _ h => h) (fun oi ho => ?_) (HR.out _ hd0) ?_
      · obtain rfl := Option.some.inj ho
        exact Or.inl ⟨by rfl, fun wx ⟨k0, k1, k2, k3⟩ => by go_simp⟩
      simp only [Act.put, List.setIfInBounds_toArray, List.set_cons_zero, List.set_cons_succ]
      refine ready_call (i := 9) (d := some 39) (f := 50) (args := #[.pointer (some ⟨g, 0, none⟩), .int .i64 (xs.length : Int)]) rfl (by kernel_rfl) (fun oi ho => ?_) ?_
      · obtain rfl := Option.some.inj ho
        exact ⟨by rfl, by go_simp⟩
      refine (HP.out _ hd0).mono ?_
      rintro e W3 ⟨rfl, hd1⟩
      have hd2 := hd0.trans hd1
      refine ⟨_, rfl, (HR.out _ hd2), ?_⟩
      simp only [Act.put, List.setIfInBounds_toArray, List.set_cons_zero, List.set_cons_succ]
      refine take_at (i := 11) (d := some 41) (v := .pointer (some ⟨k, ad, none⟩)) rfl (by kernel_rfl) (by kernel_rfl) (by kernel_rfl) (fun _ _ _ h => h) (fun oi ho => ?_) (HR.out _ hd2) ?_
      · obtain rfl := Option.some.inj ho
        exact Or.inl ⟨by rfl, fun wx ⟨k0, k1, k2, k3⟩ => by exact exec_index_by _ _ _ rfl _ _ rfl rfl _ (hix wx)⟩
      simp only [Act.put, List.setIfInBounds_toArray, List.set_cons_zero, List.set_cons_succ]
      refine ready_skip (i := 12) (d := none) (w' := W3.setCells k ad (K.cells x)) rfl (by kernel_rfl) (fun oi ho => ?_) (HS.out.2 _ hd2).1 ?_
      · obtain rfl := Option.some.inj ho
        exact ⟨by rfl, exec_store_by _ _ _ rfl _ rfl rfl (HS.out.1 _ hd2)⟩
      refine wpAnyH_done (by kernel_rfl) ?_ _
      refine NoPanic.normal ?_
      have c3 := (HS.out.2 _ hd2).1.2.2.2
      have f3 := (HS.out.2 _ hd2).2
      have HFE := Lib.hid (And.intro (HE.out.1 _ hd2) (HE.out.2 _ hd2))
      generalize W3.setCells k ad (K.cells x) = W4 at *
      go_wp2
      go_ret
      refine ⟨by rw [decide_eq_true hlt]; rfl, fun _ => ⟨_, _, _, HFE.out.1, hF.out.trans ((Moves.of_below hd2.below).trans HFE.out.2)⟩, fun h => absurd hlt h⟩
    · have hb2 : ((xs.length : Int) == (cs.length : Int)) = false := by rw [beq_eq_false_iff_ne]; omega
      have hb2' : (xs.length == cs.length) = false := by rw [beq_eq_false_iff_ne]; omega
      have hCl0 : xs.length < cs.length := by omega
      have HH := Lib.hid (And.intro h (And.intro hCl0 (And.intro hlt hfew)))
      clear h hlt hfl hfew hfit hCl0
      go_enter Try.func35, Try.ntmps35
      go_wp2
      go_quiet (fail)
      go_wp2
      go_quiet (fail)
      rename_i nq0 K1 a1 K0 a0
      obtain ⟨W1, hW1⟩ : ∃ W1, W1 = (w.drewN nq0).drewN nq := ⟨_, rfl⟩
      rw [← hW1]
      have hd : Drawn w W1 := ⟨nq0 + nq, by rw [hW1, World.drewN_drewN]⟩
      clear hW1 c0 c1 c3 hlen
      obtain ⟨f1, hf1⟩ : ∃ f1, f1 = f := ⟨_, rfl⟩
      obtain ⟨cs1, hcs1⟩ : ∃ cs1, cs1 = cs := ⟨_, rfl⟩
      obtain ⟨hC, hCl, hlt, hfew⟩ := HH.out
      rw [← hf1, ← hcs1] at hC
      rw [← hcs1] at hCl
      rw [← hcs1, ← hf1] at hfew
      have hC := hC.drawn hd
      have hF : Hid (Moves (Foot g v) (Foot g v) w W1) := Lib.hid (Moves.of_below hd.below)
      clear hb1 hb1' hb2 hb2' hcs1 hf1 hd HH
      obtain ⟨k, o, c, rfl, hnc, hk⟩ := hC.lies.shape (by omega)
      have hpl2 : (f1 + xs.length) % cs1.length < cs1.length := Nat.mod_lt _ (by omega)
      have hix := fun W => LiesK.idx K k o cs1.length c _ hpl2 W
      have hpu := hC.push x hCl
      have hmv : ∀ W2, Drawn W1 W2 → Moves (Foot g (.slice (some ⟨k, o, none⟩) cs1.length c)) (Foot g (.slice (some ⟨k, o, none⟩) cs1.length c)) W2 ((W2.setCells k (o + (f1 + xs.length) % cs1.length * K.sz) (K.cells x)).setCell ⟨g, 3, none⟩ (.int .i64 ((xs.length : Int) + 1))) := fun W2 _ => Moves.of_cells (K.cells x) 3 _ rfl _
      have hpu2 : ∀ W2, Drawn W1 W2 → Core ((W2.setCells k (o + (f1 + xs.length) % cs1.length * K.sz) (K.cells x)).setCell ⟨g, 3, none⟩ (.int .i64 ((xs.length : Int) + 1))) g m (.slice (some ⟨k, o, none⟩) cs1.length c) f1 (cs1.set ((f1 + xs.length) % cs1.length) x) (xs ++ [x]) := fun W2 hd => (hC.drawn hd).push x hCl
      have hst : ∀ W2, Drawn W1 W2 → (storeVar 9 ⟨k, o + (f1 + xs.length) % cs1.length * K.sz, none⟩ (S x)).run Try.prog W2 = .ok () (W2.setCells k (o + (f1 + xs.length) % cs1.length * K.sz) (K.cells x)) := fun W2 hd => K.store x W2 k _ ((hC.drawn hd).lies.there _ hpl2)
      have hpc := fun W (hd : Drawn W1 W) => place_core (hC.drawn hd) xs.length (by omega) (by omega)
      have hr4 : ∀ W2, Drawn W1 W2 → R4 g (.int .i64 (m : Int)) (.slice (some ⟨k, o, none⟩) cs1.length c) (.int .i64 (f1 : Int)) (.int .i64 (xs.length : Int)) W2 := fun W hd => (hC.drawn hd).r4
      have hs4 : ∀ W2, Drawn W1 W2 → R4 g (.int .i64 (m : Int)) (.slice (some ⟨k, o, none⟩) cs1.length c) (.int .i64 (f1 : Int)) (.int .i64 (xs.length : Int)) (W2.setCells k (o + (f1 + xs.length) % cs1.length * K.sz) (K.cells x)) ∧ (W2.setCells k (o + (f1 + xs.length) % cs1.length * K.sz) (K.cells x)).frozen? ⟨g, 3, none⟩ = false := fun W2 hd => by
        have hr := setCells_row (hC.drawn hd).row (o := o + (f1 + xs.length) % cs1.length * K.sz) (K.cells x) (Ne.symm (hC.off k rfl))
        exact ⟨⟨cell_of_row _ _ 0 _ 90 (0, 0) hr, cell_of_row _ _ 1 _ 90 (0, 0) hr, cell_of_row _ _ 2 _ 90 (0, 0) hr, cell_of_row _ _ 3 _ 90 (0, 0) hr⟩, Row.frozen hr 3⟩
      have hw1 : IntKind.i64.wrap ((xs.length : Int) + 1) = (xs.length : Int) + 1 := by rw [IntKind.wrap_i64]; omega
      generalize (f1 + xs.length) % cs1.length = q at *
      generalize o + q * K.sz = ad at *
      have HP := Lib.hid hpc
      have HR := Lib.hid hr4
      have HS := Lib.hid (And.intro hst hs4)
      have HE := Lib.hid (And.intro hpu2 hmv)
      clear hpc hr4 hst hs4 hpu hpu2 hmv hC hnc hk hpl2
      go_wp2
      have hd0 : Drawn W1 W1.drew := ⟨1, rfl⟩
      refine wp_region_noPanic ?_
      refine wp_region_held_drew (S := R4 g (.int .i64 (m : Int)) (.slice (some ⟨k, o, none⟩) cs1.length c) (.int .i64 (f1 : Int)) (.int .i64 (xs.length : Int))) (by kernel_rfl) (HR.out _ hd0) (fun _ => ?_)
      refine take_at (i := 0) (d := some 30) (v := .pointer (some ⟨g, 0, none⟩)) rfl (by kernel_rfl) (by kernel_rfl) (by kernel_rfl) (fun _ _ _ h => h) (fun oi ho => ?_) (HR.out _ hd0) ?_
      · obtain rfl := Option.some.inj ho
        exact Or.inl ⟨by rfl, fun wx ⟨k0, k1, k2, k3⟩ => by go_simp⟩
      simp only [Act.put, List.setIfInBounds_toArray, List.set_cons_zero, List.set_cons_succ]
      refine take_at (i := 1) (d := some 31) (v := .pointer (some ⟨g, 0, none⟩)) rfl (by kernel_rfl) (by kernel_rfl) (by kernel_rfl) (fun _ _ _ h => h) (fun oi ho => ?_) (HR.out _ hd0) ?_
      · obtain rfl := Option.some.inj ho
        exact Or.inl ⟨by rfl, fun wx ⟨k0, k1, k2, k3⟩ => by go_simp⟩
      simp only [Act.put, List.setIfInBounds_toArray, List.set_cons_zero, List.set_cons_succ]
      refine take_at (i := 2) (d := some 32) (v := .pointer (some ⟨g, 1, none⟩)) rfl (by kernel_rfl) (by kernel_rfl) (by kernel_rfl) (fun _ _ _ h => h) (fun oi ho => ?_) (HR.out _ hd0) ?_
      · obtain rfl := Option.some.inj ho
        exact Or.inl ⟨by rfl, fun wx ⟨k0, k1, k2, k3⟩ => by go_simp⟩
      simp only [Act.put, List.setIfInBounds_toArray, List.set_cons_zero, List.set_cons_succ]
      refine take_at (i := 3) (d := some 33) (v := .slice (some ⟨k, o, none⟩) cs1.length c) rfl (by kernel_rfl) (by kernel_rfl) (by kernel_rfl) (fun _ _ _ h => h) (fun oi ho => ?_) (HR.out _ hd0) ?_
      · obtain rfl := Option.some.inj ho
        exact Or.inl ⟨by rfl, fun wx ⟨k0, k1, k2, k3⟩ => by go_simp⟩
      simp only [Act.put, List.setIfInBounds_toArray, List.set_cons_zero, List.set_cons_succ]
      refine take_at (i := 4) (d := some 34) (v := .pointer (some ⟨g, 0, none⟩)) rfl (by kernel_rfl) (by kernel_rfl) (by kernel_rfl) (fun _ _ _ h => h) (fun oi ho => ?_) (HR.out _ hd0) ?_
      · obtain rfl := Option.some.inj ho
        exact Or.inl ⟨by rfl, fun wx ⟨k0, k1, k2, k3⟩ => by go_simp⟩
      simp only [Act.put, List.setIfInBounds_toArray, List.set_cons_zero, List.set_cons_succ]
      refine take_at (i := 5) (d := some 35) (v := .pointer (some ⟨g, 0, none⟩)) rfl (by kernel_rfl) (by kernel_rfl) (by kernel_rfl) (fun _ _ _ h => h) (fun oi ho => ?_) (HR.out _ hd0) ?_
      · obtain rfl := Option.some.inj ho
        exact Or.inl ⟨by rfl, fun wx ⟨k0, k1, k2, k3⟩ => by go_simp⟩
      simp only [Act.put, List.setIfInBounds_toArray, List.set_cons_zero, List.set_cons_succ]
      refine take_at (i := 6) (d := some 36) (v := .pointer (some ⟨g, 0, none⟩)) rfl (by kernel_rfl) (by kernel_rfl) (by kernel_rfl) (fun _ _ _ h => h) (fun oi ho => ?_) (HR.out _ hd0) ?_
      · obtain rfl := Option.some.inj ho
        exact Or.inl ⟨by rfl, fun wx ⟨k0, k1, k2, k3⟩ => by go_simp⟩
      simp only [Act.put, List.setIfInBounds_toArray, List.set_cons_zero, List.set_cons_succ]
      refine take_at (i := 7) (d := some 37) (v := .pointer (some ⟨g, 3, none⟩)) rfl (by kernel_rfl) (by kernel_rfl) (by kernel_rfl) (fun _ _ _ h => h) (fun oi ho => ?_) (HR.out _ hd0) ?_
      · obtain rfl := Option.some.inj ho
        exact Or.inl ⟨by rfl, fun wx ⟨k0, k1, k2, k3⟩ => by go_simp⟩
      simp only [Act.put, List.setIfInBounds_toArray, List.set_cons_zero, List.set_cons_succ]
      refine take_at (i := 8) (d := some 38) (v := .int .i64 (xs.length : Int)) rfl (by kernel_rfl) (by kernel_rfl) (by kernel_rfl) (fun _ _ _ h => h) (fun oi ho => ?_) (HR.out _ hd0) ?_
      · obtain rfl := Option.some.inj ho
        exact Or.inl ⟨by rfl, fun wx ⟨k0, k1, k2, k3⟩ => by go_simp⟩
      simp only [Act.put, List.setIfInBounds_toArray, List.set_cons_zero, List.set_cons_succ]
      refine take_at (i := 10) (d := some 40) (v := (S x)) rfl (by kernel_rfl) (by kernel_rfl) (by kernel_rfl) (fun _ _ _ h => h) (fun oi ho => ?_) (HR.out _ hd0) ?_
      · obtain rfl := Option.some.inj ho
        exact Or.inl ⟨by rfl, fun wx ⟨k0, k1, k2, k3⟩ => by go_simp⟩
      simp only [Act.put, List.setIfInBounds_toArray, List.set_cons_zero, List.set_cons_succ]
      refine ready_call (i := 9) (d := some 39) (f := 50) (args := #[.pointer (some ⟨g, 0, none⟩), .int .i64 (xs.length : Int)]) rfl (by kernel_rfl) (fun oi ho => ?_) ?_
      · obtain rfl := Option.some.inj ho
        exact ⟨by rfl, by go_simp⟩
      refine (HP.out _ hd0).mono ?_
      rintro e W3 ⟨rfl, hd1⟩
      have hd2 := hd0.trans hd1
      refine ⟨_, rfl, (HR.out _ hd2), ?_⟩
      simp only [Act.put, List.setIfInBounds_toArray, List.set_cons_zero, List.set_cons_succ]
      refine take_at (i := 11) (d := some 41) (v := .pointer (some ⟨k, ad, none⟩)) rfl (by kernel_rfl) (by kernel_rfl) (by kernel_rfl) (fun _ _ _ h => h) (fun oi ho => ?_) (HR.out _ hd2) ?_
      · obtain rfl := Option.some.inj ho
        exact Or.inl ⟨by rfl, fun wx ⟨k0, k1, k2, k3⟩ => by exact exec_index_by _ _ _ rfl _ _ rfl rfl _ (hix wx)⟩
      simp only [Act.put, List.setIfInBounds_toArray, List.set_cons_zero, List.set_cons_succ]
      refine ready_skip (i := 12) (d := none) (w' := W3.setCells k ad (K.cells x)) rfl (by kernel_rfl) (fun oi ho => ?_) (HS.out.2 _ hd2).1 ?_
      · obtain rfl := Option.some.inj ho
        exact ⟨by rfl, exec_store_by _ _ _ rfl _ rfl rfl (HS.out.1 _ hd2)⟩
      refine wpAnyH_done (by kernel_rfl) ?_ _
      refine NoPanic.normal ?_
      have c3 := (HS.out.2 _ hd2).1.2.2.2
      have f3 := (HS.out.2 _ hd2).2
      have HFE := Lib.hid (And.intro (HE.out.1 _ hd2) (HE.out.2 _ hd2))
      generalize W3.setCells k ad (K.cells x) = W4 at *
      go_wp2
      go_ret
      refine ⟨by rw [decide_eq_true hlt]; rfl, fun _ => ⟨_, _, _, HFE.out.1, hF.out.trans ((Moves.of_below hd2.below).trans HFE.out.2)⟩, fun h => absurd hlt h⟩
  · have hb1 : ((xs.length : Int) == (m : Int)) = true := by rw [beq_iff_eq]; omega
    have hb1' : (xs.length == m) = true := by rw [beq_iff_eq]; omega
    have HL := Lib.hid hlt
    clear h hlt hfew hfit
    go_enter Try.func35, Try.ntmps35
    go_wp2
    go_quiet (fail)
    go_wp2
    go_ret
    exact ⟨by rw [decide_eq_false HL.out]; rfl, fun h => absurd h HL.out, fun _ => ⟨_, rfl⟩⟩
end Rs
end Go.Proofs.Ytkekjcdhlkhhoaa
