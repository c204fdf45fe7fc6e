/- things: a copy of those that stand. -/
import Derived.Test.YtkekjcdhlkhhoaaRs3
namespace Go.Proofs.Ytkekjcdhlkhhoaa
namespace Rs
open Go.RowKit Go.Shelf
attribute [local go_sem] store_one S_match S_store Oper.semAt_some

set_option maxRecDepth 100000 in
set_option maxHeartbeats 400000 in
theorem standing_any (p : Option Addr) (w : World) :
    Calls Try.prog 68 #[.pointer p] w fun e w' => e = .returned (.func (.func 71) #[] #[.pointer (some ⟨w.heap.size, 0, none⟩)]) ∧ w' = w.alloc (.cells #[.pointer p] 42) := by
  go_enter Try.func68, Try.ntmps68
  go_wp2
  go_ret
  exact ⟨rfl, rfl⟩

set_option maxRecDepth 100000 in
set_option maxHeartbeats 1000000 in
theorem things_core (p : Option Addr) (B : Nat → Prop) (xs : List (List UInt8)) (w : World) (hL : Look w p B xs) (hB : ∀ k, B k → k < w.heap.size) (s : Nat) (hs : xs.length ≤ s) (hs2 : s ≤ 65536) :
    Calls Try.prog 64 #[.pointer p, .int .i64 (s : Int)] w fun e w' => e = .returned (.slice (some ⟨w.heap.size, 0, none⟩) s s) ∧ LiesK K w' (.slice (some ⟨w.heap.size, 0, none⟩) s s) (xs ++ List.replicate (s - xs.length) []) ∧ w.heap.size < w'.heap.size ∧ Below w.heap.size w w' := by
  obtain ⟨w1, hmk0, hl1, hz1, hb1⟩ := LiesK.make K s (by omega) w
  have hmk : (Instr.makeSlice 46 (.int .i64 (s : Int)) (.int .i64 (s : Int))).run Try.prog w = .ok (.slice (some ⟨w.heap.size, 0, none⟩) s s) w1 := hmk0
  clear hmk0
  obtain ⟨b, hb⟩ : ∃ b, b = w.heap.size := ⟨_, rfl⟩
  have hl1 : LiesK K w1 (.slice (some ⟨b, 0, none⟩) s s) (copied xs [] s 0) := by rw [hb]; exact hl1
  have hL1 : Look w1 p B xs := hL.same hb1.size (fun k hk => hb1.block k (hB k hk))
  have H1 := Lib.hid (And.intro hl1 (And.intro hL1 (And.intro hb1 (And.intro hB (And.intro hs hs2)))))
  clear hl1 hL1 hb1 hL hB hs hs2
  rw [← hb] at hmk hz1
  have HB := Lib.hid hb
  clear hb
  refine (callsIn_wide (n := 5)).1 (callsIn_of_wp_marks Try.func64 rfl trivial ?_ rfl)
  simp only [Try.ntmps64, List.size_toArray, List.length_cons, List.length_nil, Nat.reduceAdd, Nat.reduceSub, Array.replicate_succ, Array.replicate_zero, List.push_toArray, List.append_toArray, List.nil_append, List.cons_append]
  gi_wp2_with fail
  refine ⟨trivial, (callsIn_wide.2 (standing_any p _)).mono ?_⟩
  rintro e W2 ⟨rfl, hW2⟩
  have hbx : Row W2 (b + 1) #[.slice (some ⟨b, 0, none⟩) s s] 46 := by
    rw [hW2]
    have := (row_new w1 #[.slice (some ⟨b, 0, none⟩) s s] 46).alloc (.cells #[.pointer p] 42)
    rw [hz1] at this; exact this
  have hpx : Row W2 (b + 2) #[.pointer p] 42 := by
    rw [hW2]
    have := row_new (w1.alloc (.cells #[.slice (some ⟨b, 0, none⟩) s s] 46)) #[.pointer p] 42
    rw [alloc_size, hz1] at this; exact this
  have hb2 : Below w1.heap.size w1 W2 := by rw [hW2]; exact ((Below.refl _ w1).alloc (Nat.le_refl _) _).alloc (by simp) _
  have hz2 : W2.heap.size = b + 3 := by rw [hW2, alloc_size, alloc_size, hz1]
  have hl2 : LiesK K W2 (.slice (some ⟨b, 0, none⟩) s s) (copied xs [] s 0) := H1.out.1.same hb2.size (fun k hk => hb2.block k (H1.out.1.lt k hk))
  have hL2 : Look W2 p B xs := H1.out.2.1.same hb2.size (fun k hk => hb2.block k (by have := H1.out.2.2.2.1 k hk; have := HB.out; omega))
  have hbl2 : Below w.heap.size w W2 := H1.out.2.2.1.trans (hb2.mono (by have := HB.out; omega))
  rw [alloc_size, hz1]
  obtain ⟨hss1, hss2⟩ := H1.out.2.2.2.2
  have hBl := H1.out.2.2.2.1
  rw [← HB.out] at hbl2 hBl
  have H2 := Lib.hid (And.intro hbx (And.intro hpx (And.intro hl2 (And.intro hL2 (And.intro hbl2 hBl)))))
  clear hW2 hbx hpx hb2 hl2 hL2 hbl2 hBl H1 hmk
  gi_wp2
  refine wpIn_rangeFunc_L2 (gf := 71) (lb := #[.pointer (some ⟨b + 2, 0, none⟩)]) rfl (enters_of Try.func71 (by kernel_rfl) rfl)
    (fun m => standing_seq p B xs (b + 2) m) (fun r hr => by
      rcases hr with rfl | hr
      · omega
      · have := H2.out.2.2.2.2.2 r hr; omega)
    (fun W hW => ⟨H2.out.2.1.below hW (by omega), H2.out.2.2.2.1.same hW.size (fun k hk => hW.block k (by have := H2.out.2.2.2.2.2 k hk; omega)), fun k hk => by have := H2.out.2.2.2.2.2 k hk; have := hW.size; omega⟩) (fun _ => rfl)
    (fun pre W => LiesK K W (.slice (some ⟨b, 0, none⟩) s s) (copied xs [] s pre.length) ∧ Row W (b + 1) #[.slice (some ⟨b, 0, none⟩) s s] 46 ∧ Below b w W ∧ b < W.heap.size)
    (fun _ _ _ => False) ?hI (fun c s W W' row hs _ _ => hs) ⟨H2.out.2.2.1, H2.out.1, H2.out.2.2.2.2.1, by omega⟩ ?round ?done (fun c pre W hpre h hK => h.elim)
  case hI =>
    rintro pre W W' row ⟨h1, h2, h3, h4⟩ hg hr
    exact ⟨h1.same hg.size (fun k hk => hg.block k (h1.lt k hk) (fun e => by cases hk; have := hr b e.symm; omega)), row_grown h2 hg (fun e => by have := hr _ e.symm; omega), h3.grown hg (by omega) (fun k e => by have := hr k e; omega), by have := hg.size; omega⟩
  case round =>
    intro l pre x W K' hpx hK
    unfold enc
    gi_wp2
    rintro W3 ⟨h1, h2, h3, h4⟩ hsz
    obtain ⟨i, y⟩ := x
    obtain ⟨hx1, hx2⟩ := plc_pre hpx
    replace hx1 : i = pre.length := hx1
    replace hx2 : xs[i]? = some y := by rw [hx1]; exact hx2
    have hpl := (List.getElem?_eq_some_iff.1 hx2).1
    rw [← hx1] at h1
    have hcl := copied_len xs [] s i (by omega) hss1
    have cb : W3.cell? ⟨b + 1, 0, none⟩ = some (.slice (some ⟨b, 0, none⟩) s s) := cell_of_row W3 (b + 1) 0 _ 46 (0, 0) h2
    have hix : ∀ W, (Instr.indexAt 46 (.slice (some ⟨b, 0, none⟩) s s) (.int .i64 (i : Int))).run Try.prog W = .ok (.pointer (some ⟨b, 0 + i * K.sz, none⟩)) W := fun W => LiesK.idx K b 0 s s i (by omega) W
    have h1' : LiesK K W3 (.slice (some ⟨b, 0, none⟩) (copied xs [] s i).length s) (copied xs [] s i) := by rw [hcl]; exact h1
    have hth := h1'.there i (by omega)
    have hnx := h1'.set i y (by omega)
    rw [hcl, copied_next xs [] s i y hx2 hss1] at hnx
    have e1 : (pre ++ [(i, y)]).length = i + 1 := by rw [List.length_append, List.length_singleton, hx1]
    generalize 0 + i * K.sz = q at *
    have t0 : (W3.cell? ⟨b, q, none⟩).isSome = true ∧ W3.frozen? ⟨b, q, none⟩ = false := by have := hth 0 (by show 0 < 1; omega); rwa [Nat.add_zero] at this
    obtain ⟨t0, t0f⟩ := t0
    obtain ⟨u0, hu0⟩ := Option.isSome_iff_exists.1 t0
    have hg3 := grown_setCells W3 b q (K.cells y)
    have hr3 : Row (W3.setCells b q (K.cells y)) (b + 1) #[.slice (some ⟨b, 0, none⟩) s s] 46 := row_grown h2 hg3 (fun e => by have := Option.some.inj e; omega)
    have hb3 : Below b w (W3.setCells b q (K.cells y)) := h3.grown hg3 (by have := H2.out.2.2.2.2.1.size; have := HB.out; omega) (fun k e => by cases e; exact Nat.le_refl _)
    have HF := Lib.hid (And.intro hnx (And.intro hr3 (And.intro hb3 (And.intro hg3 (And.intro e1 h4)))))
    clear hnx hr3 hb3 hg3 e1 h1 h1' h2 h3 hth hcl hx1 hx2 hpx hpl t0
    gi_wp2
    obtain ⟨hnx, hr3, hb3, hg3, e1, h4⟩ := HF.out
    refine ⟨⟨hg3.size, fun r hr => ?_⟩, by rw [e1]; exact hnx, hr3, hb3, ?_⟩
    · refine hg3.block r ?_ (fun e => ?_)
      · rcases hr with (rfl | hr) | hr
        · omega
        · have := H2.out.2.2.2.2.2 r hr; omega
        · omega
      · have e := Option.some.inj e
        rcases hr with (rfl | hr) | hr
        · omega
        · have := H2.out.2.2.2.2.2 r hr; omega
        · omega
    · exact Nat.lt_of_lt_of_le h4 hg3.size
  case done =>
    rintro W ⟨h1, h2, h3, h4⟩ hK
    rw [show (pl xs).length = xs.length from plc_len _ _, copied_all] at h1
    have cb : W.cell? ⟨b + 1, 0, none⟩ = some (.slice (some ⟨b, 0, none⟩) s s) := cell_of_row W (b + 1) 0 _ 46 (0, 0) h2
    have HF := Lib.hid (And.intro h1 (And.intro h3 (And.intro h4 hK)))
    clear h1 h2 h3 h4 hK
    gi_wp2
    refine ⟨by simp, .inl ⟨_, _, rfl, run_takeDeferred HF.out.2.2.2, ?_⟩⟩
    have hg4 := grownBy_putObj' W W2.heap.size (.deferred none)
    refine ⟨.slice (some ⟨b, 0, none⟩) s s, by simp [results, Try.f64, go_sem], ?_⟩
    have hbw := HB.out
    rw [← hbw]
    obtain ⟨h1, h2, h3, _⟩ := HF.out
    exact ⟨rfl, h1.same hg4.size (fun k hk => hg4.block k (h1.lt k hk) (fun e => by have h5 : b = k := Option.some.inj hk; have := Option.some.inj e; omega)), Nat.lt_of_lt_of_le h3 hg4.size, h2.grown hg4 (by omega) (fun k e => by cases e; omega)⟩
end Rs
end Go.Proofs.Ytkekjcdhlkhhoaa
