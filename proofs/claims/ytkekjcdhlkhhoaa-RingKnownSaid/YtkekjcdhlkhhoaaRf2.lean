/- At and Set walked. -/
import Derived.Test.YtkekjcdhlkhhoaaRf1
namespace Go.Proofs.Ytkekjcdhlkhhoaa
namespace Rf
open Go.RowKit
attribute [local go_sem] store_one S_match S_store

/-- What the ring's four cells hold. -/
def R4 (g : Nat) (c0 c1 c2 c3 : Value) (W : World) : Prop := W.cell? ⟨g, 0, none⟩ = some c0 ∧ W.cell? ⟨g, 1, none⟩ = some c1 ∧ W.cell? ⟨g, 2, none⟩ = some c2 ∧ W.cell? ⟨g, 3, none⟩ = some c3
theorem Core.r4 {w : World} {g m f : Nat} {v : Value} {cs xs : List (List UInt8)} (h : Core w g m v f cs xs) : R4 g (.int .i64 (m : Int)) v (.int .i64 (f : Int)) (.int .i64 (xs.length : Int)) w := ⟨h.c0, h.c1, h.c2, h.c3⟩
theorem R4.drawn {w w' : World} {g : Nat} {c0 c1 c2 c3 : Value} (h : R4 g c0 c1 c2 c3 w) (hd : Drawn w w') : R4 g c0 c1 c2 c3 w' := by
  obtain ⟨n, rfl⟩ := hd; exact h

theorem fields_end {fn : Func} {p u : Tmp} (h : fn.results = #[.cell p 27, .tmp u]) (tmps : Array Value) (w : World) (g : Nat) (cs : Array Value) (hp : tmps.getD p undef = .pointer (some ⟨g, 0, none⟩)) (hg : Row w g cs 27) (h2 : cs.size = 2) :
    (results fn tmps).run Try.prog w = .ok (.tuple #[.agg cs, tmps.getD u undef]) w := by
  obtain ⟨i, z, hi, _, hs, _⟩ := K.info
  have hi : Try.prog.info? 27 = some i := hi
  exact results_row_tmp h tmps w g 27 cs (0, 0) _ hp hg Try.underlying27 rfl (by rw [hi, Option.map_some, hs, h2]; rfl)
set_option maxRecDepth 100000 in
set_option maxHeartbeats 400000 in
theorem at_none_of {p : Option Addr} {w : World} (i : Int) (hh : ∀ W, Below w.heap.size w W → Calls Try.prog 43 #[.pointer p, .int .i64 i] W fun e w' => e = .returned (.bool false) ∧ w' = W) :
    Calls Try.prog 12 #[.pointer p, .int .i64 i] w fun e w' => e = .returned (.tuple #[.agg #[.string ⟨#[]⟩, .string ⟨#[]⟩], .bool false]) ∧ Below w.heap.size w w' := by
  obtain ⟨W1, hW1⟩ : ∃ W1, W1 = w.alloc (.cells #[.string ⟨#[]⟩, .string ⟨#[]⟩] 27) := ⟨_, rfl⟩
  have hb1 : Below w.heap.size w W1 := by rw [hW1]; exact (Below.refl _ w).alloc (Nat.le_refl _) _
  have hr1 : Row W1 w.heap.size #[.string ⟨#[]⟩, .string ⟨#[]⟩] 27 := by rw [hW1]; exact row_new w _ _
  have HH := Lib.hid (And.intro (hh W1 hb1) (And.intro hr1 hb1))
  obtain ⟨b, hb⟩ : ∃ b, b = w.heap.size := ⟨_, rfl⟩
  rw [← hb] at hr1 HH ⊢
  have hbl : b < W1.heap.size := hr1.lt
  have r0 : W1.cell? ⟨b, 0, none⟩ = some (.string ⟨#[]⟩) := cell_of_row W1 _ 0 _ 27 (0, 0) hr1
  have r1 : W1.cell? ⟨b, 1, none⟩ = some (.string ⟨#[]⟩) := cell_of_row W1 _ 1 _ 27 (0, 0) hr1
  have f0 : W1.frozen? ⟨b, 0, none⟩ = false := Row.frozen hr1 0
  have f1 : W1.frozen? ⟨b, 1, none⟩ = false := Row.frozen hr1 1
  clear hh hb1 hr1
  go_enter Try.func12, Try.ntmps12
  go_wp2_with fail
  rw [← hb, ← hW1]
  clear hW1 hb
  refine HH.out.1.mono ?_
  rintro e w1 ⟨rfl, hw1⟩
  obtain rfl := hw1.symm
  go_wp2
  have hrow := ((HH.out.2.1.set 0 (.string ⟨#[]⟩)).set 1 (.string ⟨#[]⟩)).alloc (.cells #[.string ⟨#[]⟩, .string ⟨#[]⟩] 27)
  refine bodyPost_ret (fields_end rfl _ _ b _ rfl hrow rfl) rfl ?_
  exact ⟨rfl, ((HH.out.2.2.setCell (p := ⟨b, 0, none⟩) (Nat.le_refl _) _).setCell (p := ⟨b, 1, none⟩) (Nat.le_refl _) _).alloc (by simp [World.setCell]; omega) _⟩
set_option maxRecDepth 100000 in
set_option maxHeartbeats 400000 in
theorem at_core {g m : Nat} {v : Value} {f : Nat} {cs xs : List (List UInt8)} {w : World} (h0 : Core w g m v f cs xs) (i : Nat) (x : List UInt8) (hx : xs[i]? = some x) :
    Calls Try.prog 12 #[.pointer (some ⟨g, 0, none⟩), .int .i64 (i : Int)] w fun e w' => e = .returned (.tuple #[(Value.agg #[S x, S []]), .bool true]) ∧ Below w.heap.size w w' := by
  obtain ⟨W1, hW1⟩ : ∃ W1, W1 = w.alloc (.cells #[.string ⟨#[]⟩, .string ⟨#[]⟩] 27) := ⟨_, rfl⟩
  have hb1 : Below w.heap.size w W1 := by rw [hW1]; exact (Below.refl _ w).alloc (Nat.le_refl _) _
  have hr1 : Row W1 w.heap.size #[.string ⟨#[]⟩, .string ⟨#[]⟩] 27 := by rw [hW1]; exact row_new w _ _
  have h := h0.below hb1
  have hi := (List.getElem?_eq_some_iff.1 hx).1
  have hf := h.few
  have hh := has_of (len_core h) (i : Int) true (by rw [decide_eq_true (Int.natCast_nonneg i), decide_eq_true (Int.ofNat_lt.2 hi)]; rfl)
  obtain ⟨k, o, c, rfl, hnc, hk⟩ := h0.lies.shape (by omega)
  have hgb : g < w.heap.size := h0.row.lt
  obtain ⟨b, hb⟩ : ∃ b, b = w.heap.size := ⟨_, rfl⟩
  rw [← hb] at hb1 hr1 hk hgb
  have hpl : (f + i) % cs.length < cs.length := Nat.mod_lt _ (by omega)
  have hix := fun W => LiesK.idx K k o cs.length c _ hpl W
  have hld : ∀ W, Drawn W1 W → (loadVar 27 ⟨k, o + (f + i) % cs.length * K.sz, none⟩).run Try.prog W = .ok (Value.agg #[S x, S []]) W := fun W hd => K.load x W k _ ((h.drawn hd).lies.rng _ x (h.turned.2.2 i x hx))
  have hpc := fun W (hd : Drawn W1 W) => place_core (h.drawn hd) i (by omega) (by omega)
  have hr4 := fun W (hd : Drawn W1 W) => (h.drawn hd).r4
  have hrd : ∀ W, Drawn W1 W → Row W b #[.string ⟨#[]⟩, .string ⟨#[]⟩] 27 := fun W hd => by unfold Row; rw [hd.heap]; exact hr1
  have hst : ∀ W, Drawn W1 W → (storeVar 27 ⟨b, 0, none⟩ (Value.agg #[S x, S []])).run Try.prog W = .ok () (W.setCells b 0 (K.cells x)) := fun W hd => K.store x W b 0 (fun j hj => by
    have hj2 : j < 2 := hj
    rw [Nat.zero_add, cell_of_row W b j _ _ _ (hrd W hd)]
    exact ⟨by rcases Nat.lt_or_ge j 1 with h | h
              · obtain rfl : j = 0 := by omega
                rfl
              · obtain rfl : j = 1 := by omega
                rfl, (hrd W hd).frozen j⟩)
  have hend : ∀ W, Drawn W1 W → R4 g (.int .i64 (m : Int)) (.slice (some ⟨k, o, none⟩) cs.length c) (.int .i64 (f : Int)) (.int .i64 (xs.length : Int)) (W.setCells b 0 (K.cells x)) ∧ Row (W.setCells b 0 (K.cells x)) b #[S x, S []] 27 ∧ Below b w (W.setCells b 0 (K.cells x)) := fun W hd => by
    have hg := grown_setCells W b 0 (K.cells x)
    have hrow := row_grown (h.drawn hd).row hg (fun e => by have := Option.some.inj e; omega)
    exact ⟨⟨cell_of_row _ _ 0 _ 85 (0, 0) hrow, cell_of_row _ _ 1 _ 85 (0, 0) hrow, cell_of_row _ _ 2 _ 85 (0, 0) hrow, cell_of_row _ _ 3 _ 85 (0, 0) hrow⟩, ((hrd W hd).set 0 (S x)).set 1 (S []), (hb1.trans (hd.below.mono (by have := hb1.size; omega))).grown hg (by rw [hd.heap]; have := hb1.size; omega) (fun j e => by have := Option.some.inj e; omega)⟩
  generalize (f + i) % cs.length = p at *
  have HL := Lib.hid hld
  have HP := Lib.hid hpc
  have HR := Lib.hid hr4
  have HS := Lib.hid (And.intro hst hend)
  have HB := Lib.hid hb
  clear hld hpc hr4 h h0 hx hi hf hpl hnc hk hst hend hrd hr1 hb1 hgb
  go_enter Try.func12, Try.ntmps12
  go_wp2_with fail
  rw [← hb, ← hW1]
  clear hW1 hb
  refine hh.mono ?_
  rintro e w1 ⟨rfl, hw1⟩
  obtain rfl := hw1.symm
  go_wp2
  have hd0 : Drawn W1 W1.drew := ⟨1, rfl⟩
  refine wp_region_noPanic ?_
  refine wp_region_held_drew (S := R4 g (.int .i64 (m : Int)) (.slice (some ⟨k, o, none⟩) cs.length c) (.int .i64 (f : Int)) (.int .i64 (xs.length : Int))) (by kernel_rfl) (HR.out _ hd0) (fun _ => ?_)
  refine take_at (i := 0) (d := some 12) (v := .pointer (some ⟨g, 0, none⟩)) rfl (by kernel_rfl) (by kernel_rfl) (by kernel_rfl) (fun _ _ _ h => h) (fun oi ho => ?_) (HR.out _ hd0) ?_
  · obtain rfl := Option.some.inj ho
    exact Or.inl ⟨by rfl, fun wx ⟨k0, k1, k2, k3⟩ => by go_simp⟩
  simp only [Act.put, List.setIfInBounds_toArray, List.set_cons_zero, List.set_cons_succ]
  refine take_at (i := 1) (d := some 13) (v := .pointer (some ⟨g, 0, none⟩)) rfl (by kernel_rfl) (by kernel_rfl) (by kernel_rfl) (fun _ _ _ h => h) (fun oi ho => ?_) (HR.out _ hd0) ?_
  · obtain rfl := Option.some.inj ho
    exact Or.inl ⟨by rfl, fun wx ⟨k0, k1, k2, k3⟩ => by go_simp⟩
  simp only [Act.put, List.setIfInBounds_toArray, List.set_cons_zero, List.set_cons_succ]
  refine take_at (i := 2) (d := some 14) (v := .pointer (some ⟨g, 1, none⟩)) rfl (by kernel_rfl) (by kernel_rfl) (by kernel_rfl) (fun _ _ _ h => h) (fun oi ho => ?_) (HR.out _ hd0) ?_
  · obtain rfl := Option.some.inj ho
    exact Or.inl ⟨by rfl, fun wx ⟨k0, k1, k2, k3⟩ => by go_simp⟩
  simp only [Act.put, List.setIfInBounds_toArray, List.set_cons_zero, List.set_cons_succ]
  refine take_at (i := 3) (d := some 15) (v := .slice (some ⟨k, o, none⟩) cs.length c) rfl (by kernel_rfl) (by kernel_rfl) (by kernel_rfl) (fun _ _ _ h => h) (fun oi ho => ?_) (HR.out _ hd0) ?_
  · obtain rfl := Option.some.inj ho
    exact Or.inl ⟨by rfl, fun wx ⟨k0, k1, k2, k3⟩ => by go_simp⟩
  simp only [Act.put, List.setIfInBounds_toArray, List.set_cons_zero, List.set_cons_succ]
  refine take_at (i := 4) (d := some 16) (v := .pointer (some ⟨g, 0, none⟩)) rfl (by kernel_rfl) (by kernel_rfl) (by kernel_rfl) (fun _ _ _ h => h) (fun oi ho => ?_) (HR.out _ hd0) ?_
  · obtain rfl := Option.some.inj ho
    exact Or.inl ⟨by rfl, fun wx ⟨k0, k1, k2, k3⟩ => by go_simp⟩
  simp only [Act.put, List.setIfInBounds_toArray, List.set_cons_zero, List.set_cons_succ]
  refine take_at (i := 5) (d := some 17) (v := .int .i64 (i : Int)) rfl (by kernel_rfl) (by kernel_rfl) (by kernel_rfl) (fun _ _ _ h => h) (fun oi ho => ?_) (HR.out _ hd0) ?_
  · obtain rfl := Option.some.inj ho
    exact Or.inl ⟨by rfl, fun wx ⟨k0, k1, k2, k3⟩ => by go_simp⟩
  simp only [Act.put, List.setIfInBounds_toArray, List.set_cons_zero, List.set_cons_succ]
  refine ready_call (i := 6) (d := some 18) (f := 40) (args := #[.pointer (some ⟨g, 0, none⟩), .int .i64 (i : Int)]) rfl (by kernel_rfl) (fun oi ho => ?_) ?_
  · obtain rfl := Option.some.inj ho
    exact ⟨by rfl, by go_simp⟩
  refine (HP.out _ hd0).mono ?_
  rintro e w2 ⟨rfl, hd1⟩
  have hd2 := hd0.trans hd1
  refine ⟨_, rfl, (HR.out _ hd2), ?_⟩
  simp only [Act.put, List.setIfInBounds_toArray, List.set_cons_zero, List.set_cons_succ]
  refine take_at (i := 7) (d := some 19) (v := .pointer (some ⟨k, o + p * K.sz, none⟩)) rfl (by kernel_rfl) (by kernel_rfl) (by kernel_rfl) (fun _ _ _ h => h) (fun oi ho => ?_) (HR.out _ hd2) ?_
  · obtain rfl := Option.some.inj ho
    exact Or.inl ⟨by rfl, fun wx ⟨k0, k1, k2, k3⟩ => by exact exec_index_by _ _ _ rfl _ _ rfl rfl _ (hix wx)⟩
  simp only [Act.put, List.setIfInBounds_toArray, List.set_cons_zero, List.set_cons_succ]
  refine ready_value (i := 8) (d := some 20) (v := (Value.agg #[S x, S []])) (w' := w2) rfl (by kernel_rfl) (fun oi ho => ?_) (HR.out _ hd2) ?_
  · obtain rfl := Option.some.inj ho
    exact ⟨by rfl, exec_load_by _ _ rfl _ rfl (HL.out _ hd2)⟩
  simp only [Act.put, List.setIfInBounds_toArray, List.set_cons_zero, List.set_cons_succ]
  refine ready_skip (i := 9) (d := none) (w' := w2.setCells b 0 (K.cells x)) rfl (by kernel_rfl) (fun oi ho => ?_) (HS.out.2 _ hd2).1 ?_
  · obtain rfl := Option.some.inj ho
    exact ⟨by rfl, exec_store_by _ _ _ rfl _ rfl rfl (HS.out.1 _ hd2)⟩
  refine take_at (i := 10) (d := some 5) (v := .bool true) rfl (by kernel_rfl) (by kernel_rfl) (by kernel_rfl) (fun _ _ _ h => h) (fun oi ho => ?_) (HS.out.2 _ hd2).1 ?_
  · obtain rfl := Option.some.inj ho
    exact Or.inl ⟨by rfl, fun wx ⟨k0, k1, k2, k3⟩ => by go_simp⟩
  simp only [Act.put, List.setIfInBounds_toArray, List.set_cons_zero, List.set_cons_succ]
  refine wpAnyH_done (by kernel_rfl) ?_ _
  refine NoPanic.normal ?_
  obtain ⟨_, hrow, hbel⟩ := HS.out.2 _ hd2
  have HE := Lib.hid (And.intro hrow hbel)
  clear hrow hbel
  generalize w2.setCells b 0 (K.cells x) = w3 at *
  go_wp2
  refine bodyPost_ret (fields_end rfl _ _ b _ rfl HE.out.1 rfl) rfl ?_
  exact ⟨rfl, by rw [← HB.out]; exact HE.out.2⟩
end Rf
end Go.Proofs.Ytkekjcdhlkhhoaa
