/- drop walked. -/
import Derived.Test.YtgkinbichiahjaaK3
namespace Go.Proofs.Ytgkinbichiahjaa
open Go.RowKit
attribute [local go_sem] store_one S_match S_store

theorem grown_cell (w : World) (g o : Nat) (v : Value) : w.grownBy (w.setCell ⟨g, o, none⟩ v) (some g) :=
  ⟨rfl, rfl, rfl, by simp [World.setCell], fun k _ hk => Below.heap_setCell _ _ _ _ (fun e => hk (by rw [e]))⟩
theorem grown_drawn {w w' : World} (h : Drawn w w') (row : Option Nat) : w.grownBy w' row := h.grown row
theorem not_some {o : Option Nat} {g : Nat} (h : ∀ k, o = some k → k ≠ g) : o = none ∨ o ≠ some g := by
  cases o with
  | none => exact .inl rfl
  | some k => exact .inr (fun e => h k rfl (Option.some.inj e))
theorem own_base {w : World} {b : Nat} {v : Value} {n : Nat} {xs : List Value} (h : w.ownsRow b 5 1 v n xs) : w.ownsRow 0 5 1 v n xs :=
  ⟨h.1, h.2.imp id fun ⟨g, cap, cur, h1, _, h3⟩ => ⟨g, cap, cur, h1, Nat.zero_le _, h3⟩⟩
theorem own38' {w : World} {b : Nat} {v : Value} {n : Nat} {xs : List Value} (h : w.ownsRow b 5 1 v n xs) (hn : 0 < n) : ∃ k c cur, v = .slice (some ⟨k, 0, none⟩) n c ∧ w.heap[k]? = some (.cells cur 5 (0, 0)) ∧ n ≤ c ∧ ∀ j u, xs[j]? = some u → w.cell? ⟨k, j, none⟩ = some u :=
  own38 (own_base h) hn
theorem Keeps.of_drawn {g : Nat} {w w' : World} (h : Drawn w w') : Keeps g w w' := by obtain ⟨n, rfl⟩ := h; exact ⟨rfl, rfl, rfl, Nat.le_refl _, fun _ _ _ => rfl⟩

set_option maxRecDepth 100000 in
set_option maxHeartbeats 1000000 in
theorem drop_any (g : Nat) (A : Nat → Prop) (mk : Bool) (m : Nat) (x : List UInt8) (n : Nat) (w : World) (h : BufAt w g A mk m x) (h1 : 1 ≤ n) (hn : n ≤ x.length) :
    Calls Try.prog 23 #[.pointer (some ⟨g, 0, none⟩), .int .i64 (n : Int)] w fun e w' => e = .returned (.tuple #[]) ∧ BufAt w' g A mk m (x.drop n) ∧ Spare g A w w' := by
  obtain ⟨⟨v, pre, hl, hb, hp⟩, hfit, hmost, hold⟩ := h
  have hr := hl.1
  have c3 : w.cell? ⟨g, 3, none⟩ = some (.int .i64 (pre.length : Int)) := cell_of_row w _ 3 _ 40 (0, 0) hr
  have f3 : w.frozen? ⟨g, 3, none⟩ = false := Row.frozen hr 3
  have hw3 : IntKind.i64.wrap ((pre.length : Int) + (n : Int)) = (pre.length : Int) + (n : Int) := by rw [IntKind.wrap_i64]; omega
  have hlen : (x.drop n).length = x.length - n := List.length_drop
  have happ : (pre ++ x.take n) ++ x.drop n = pre ++ x := by rw [List.append_assoc, List.take_append_drop]
  have hpl : ((pre ++ x.take n).length : Int) = (pre.length : Int) + (n : Int) := by rw [List.length_append, List.length_take]; omega
  -- the state behind the first store
  have hl1 : LooseAt (w.setCell ⟨g, 3, none⟩ (.int .i64 ((pre.length : Int) + (n : Int)))) g mk m v (pre ++ x.take n) (x.drop n) := by
    refine ⟨?_, ?_⟩
    · rw [hpl]
      exact Row.set hr 3 _
    · rw [happ]
      exact hl.2.kept (grown_cell w g 3 _) (not_some fun k hk => (hb k hk).2)
  have hK1 : Keeps g w (w.setCell ⟨g, 3, none⟩ (.int .i64 ((pre.length : Int) + (n : Int)))) := Keeps.setCell w 3 _
  have hpre : pre.length ≤ x.length ∧ x.length ≤ 1073741824 := ⟨hp, by omega⟩
  have HH := Lib.hid (And.intro hl1 (And.intro hK1 (And.intro hb hold)))
  clear hl1 hK1 hb hold hl hr
  go_enter Try.func23, Try.ntmps23
  go_wp2_with fail
  obtain ⟨W1, hW1⟩ : ∃ W1, W1 = w.setCell ⟨g, 3, none⟩ (.int .i64 ((pre.length : Int) + (n : Int))) := ⟨_, rfl⟩
  rw [← hW1] at HH ⊢
  clear hW1 c3 f3
  obtain ⟨r, hr⟩ : ∃ r, r = x.length - n := ⟨_, rfl⟩
  rw [← hr] at hlen
  have hxe : x.length = n + r := by omega
  have HL : Hid (∀ W, Drawn W1 W → Calls Try.prog 20 #[.pointer (some ⟨g, 0, none⟩)] W fun e w' => e = .returned (.int .i64 (r : Int)) ∧ Drawn W w') := Lib.hid fun W hD => by
    have := len_loose g mk m v (pre ++ x.take n) (x.drop n) W ⟨by unfold Row; rw [hD.heap]; exact HH.out.1.1, HH.out.1.2.kept (hD.grown none) (by cases v.ownBlock <;> simp)⟩
    rw [hlen] at this
    exact this
  clear hr
  refine (HL.out W1 (Drawn.refl _)).mono ?_
  rintro e W2 ⟨rfl, hD2⟩
  have hr2 : Row W2 g #[.bool mk, .int .i64 (m : Int), v, .int .i64 ((pre.length : Int) + (n : Int))] 40 := by
    have := HH.out.1.1
    rw [hpl] at this
    unfold Row; rw [hD2.heap]; exact this
  have ho2 : W2.ownsRow 0 5 1 v (pre ++ x).length ((pre ++ x).map B) := by
    have := HH.out.1.2
    rw [happ] at this
    exact this.kept (hD2.grown none) (by cases v.ownBlock <;> simp)
  have hK2 : Keeps g w W2 := HH.out.2.1.trans (Keeps.of_drawn hD2)
  have c2 : W2.cell? ⟨g, 2, none⟩ = some v := cell_of_row W2 _ 2 _ 40 (0, 0) hr2
  have c3 : W2.cell? ⟨g, 3, none⟩ = some (.int .i64 ((pre.length : Int) + (n : Int))) := cell_of_row W2 _ 3 _ 40 (0, 0) hr2
  have f2 : W2.frozen? ⟨g, 2, none⟩ = false := Row.frozen hr2 2
  have f3 : W2.frozen? ⟨g, 3, none⟩ = false := Row.frozen hr2 3
  have H2 := Lib.hid (And.intro hr2 (And.intro ho2 hK2))
  have HD := Lib.hid hD2
  clear hr2 ho2 hK2 hD2
  by_cases he : r = 0
  · rw [he]
    go_wp2
    refine bodyPost_ret (results_none rfl _ _ _) rfl ?_
    have hx0 : x.drop n = [] := List.length_eq_zero_iff.1 (by omega)
    rw [hx0]
    refine ⟨rfl, ⟨⟨.slice none 0 0, [], ⟨(H2.out.1.set 2 _).set 3 _, World.ownsRow_nil _ 0 5 1⟩, fun k hk => (by cases hk), Nat.le_refl _⟩, Nat.zero_le _, hmost, fun k hk => ?_⟩, ?_⟩
    · have := HH.out.2.2.2 k hk
      have := H2.out.2.2.size
      simp [World.setCell]; omega
    · exact Spare.of_keeps ((H2.out.2.2.trans (Keeps.setCell _ 2 _)).trans (Keeps.setCell _ 3 _)) HH.out.2.2.2
  · have hbq : ((r : Int) == 0) = false := by rw [beq_eq_false_iff_ne]; omega
    by_cases hgt : r < pre.length + n
    · have hbg : decide ((r : Int) < (pre.length : Int) + (n : Int)) = true := decide_eq_true (by omega)
      go_wp2
      go_quiet (first | (go_at_call 20; exact Calls.quiet_of (HL.out _ (HD.out.trans ⟨_, rfl⟩))))
      go_wp2
      clear c2 c3 f2 f3
      obtain ⟨Wq, hWq⟩ : ∃ Wq, Wq = (W2.drewN nq).drew := ⟨_, rfl⟩
      have hdq : Drawn W2 Wq := ⟨nq + 1, hWq⟩
      have hrq : Row Wq g #[.bool mk, .int .i64 (m : Int), v, .int .i64 ((pre.length : Int) + (n : Int))] 40 := by unfold Row; rw [hdq.heap]; exact H2.out.1
      have hoq : Wq.ownsRow 0 5 1 v (pre ++ x).length ((pre ++ x).map B) := H2.out.2.1.kept (hdq.grown none) (by cases v.ownBlock <;> simp)
      have hkq : Keeps g w Wq := H2.out.2.2.trans (Keeps.of_drawn hdq)
      have hlq : LooseAt Wq g mk m v (pre ++ x.take n) (x.drop n) := ⟨by rw [hpl]; exact hrq, by rw [happ]; exact hoq⟩
      obtain ⟨V, hsl, hV⟩ := hlq.slice
      rw [hpl] at hsl
      have hcl := clone_any V (x.drop n) Wq (by omega) (by omega) hV
      have c2 : Wq.cell? ⟨g, 2, none⟩ = some v := cell_of_row Wq _ 2 _ 40 (0, 0) hrq
      have c3 : Wq.cell? ⟨g, 3, none⟩ = some (.int .i64 ((pre.length : Int) + (n : Int))) := cell_of_row Wq _ 3 _ 40 (0, 0) hrq
      have HQ := Lib.hid (And.intro hrq hkq)
      clear hrq hoq hkq hlq hV hdq
      refine wp_region_noPanic ?_
      refine wp_region_held_drew (S := fun _ => True) (by kernel_rfl) trivial (fun _ => ?_)
      rw [← hWq]
      clear hWq
      refine take_at (i := 0) (d := some 28) (v := .pointer (some ⟨g, 0, none⟩)) rfl (by kernel_rfl) (by kernel_rfl) (by kernel_rfl) (fun _ _ _ h => h) (fun oi ho => ?_) trivial ?_
      · obtain rfl := Option.some.inj ho
        exact Or.inl ⟨by rfl, fun wx hSw => by go_simp⟩
      simp only [Act.put, List.setIfInBounds_toArray, List.set_cons_zero, List.set_cons_succ]
      refine take_at (i := 1) (d := some 29) (v := .pointer (some ⟨g, 0, none⟩)) rfl (by kernel_rfl) (by kernel_rfl) (by kernel_rfl) (fun _ _ _ h => h) (fun oi ho => ?_) trivial ?_
      · obtain rfl := Option.some.inj ho
        exact Or.inl ⟨by rfl, fun wx hSw => by go_simp⟩
      simp only [Act.put, List.setIfInBounds_toArray, List.set_cons_zero, List.set_cons_succ]
      refine take_at (i := 2) (d := some 30) (v := .pointer (some ⟨g, 0, none⟩)) rfl (by kernel_rfl) (by kernel_rfl) (by kernel_rfl) (fun _ _ _ h => h) (fun oi ho => ?_) trivial ?_
      · obtain rfl := Option.some.inj ho
        exact Or.inl ⟨by rfl, fun wx hSw => by go_simp⟩
      simp only [Act.put, List.setIfInBounds_toArray, List.set_cons_zero, List.set_cons_succ]
      refine take_at (i := 3) (d := some 31) (v := .pointer (some ⟨g, 0, none⟩)) rfl (by kernel_rfl) (by kernel_rfl) (by kernel_rfl) (fun _ _ _ h => h) (fun oi ho => ?_) trivial ?_
      · obtain rfl := Option.some.inj ho
        exact Or.inl ⟨by rfl, fun wx hSw => by go_simp⟩
      simp only [Act.put, List.setIfInBounds_toArray, List.set_cons_zero, List.set_cons_succ]
      refine take_at (i := 4) (d := some 32) (v := .pointer (some ⟨g, 2, none⟩)) rfl (by kernel_rfl) (by kernel_rfl) (by kernel_rfl) (fun _ _ _ h => h) (fun oi ho => ?_) trivial ?_
      · obtain rfl := Option.some.inj ho
        exact Or.inl ⟨by rfl, fun wx hSw => by go_simp⟩
      simp only [Act.put, List.setIfInBounds_toArray, List.set_cons_zero, List.set_cons_succ]
      refine take_at (i := 6) (d := some 34) (v := .pointer (some ⟨g, 0, none⟩)) rfl (by kernel_rfl) (by kernel_rfl) (by kernel_rfl) (fun _ _ _ h => h) (fun oi ho => ?_) trivial ?_
      · obtain rfl := Option.some.inj ho
        exact Or.inl ⟨by rfl, fun wx hSw => by go_simp⟩
      simp only [Act.put, List.setIfInBounds_toArray, List.set_cons_zero, List.set_cons_succ]
      refine take_at (i := 7) (d := some 35) (v := .pointer (some ⟨g, 0, none⟩)) rfl (by kernel_rfl) (by kernel_rfl) (by kernel_rfl) (fun _ _ _ h => h) (fun oi ho => ?_) trivial ?_
      · obtain rfl := Option.some.inj ho
        exact Or.inl ⟨by rfl, fun wx hSw => by go_simp⟩
      simp only [Act.put, List.setIfInBounds_toArray, List.set_cons_zero, List.set_cons_succ]
      refine take_at (i := 8) (d := some 36) (v := .pointer (some ⟨g, 3, none⟩)) rfl (by kernel_rfl) (by kernel_rfl) (by kernel_rfl) (fun _ _ _ h => h) (fun oi ho => ?_) trivial ?_
      · obtain rfl := Option.some.inj ho
        exact Or.inl ⟨by rfl, fun wx hSw => by go_simp⟩
      simp only [Act.put, List.setIfInBounds_toArray, List.set_cons_zero, List.set_cons_succ]
      refine ready_two (i := 5) (j := 9) (di := some 33) (dj := some 37) (vi := v) (vj := .int .i64 ((pre.length : Int) + (n : Int))) rfl rfl (by kernel_rfl) (by kernel_rfl) (by kernel_rfl) (by decide) (fun d h e => by cases h; cases e) (fun oi ho a' ha => ?_) (fun oi ho a' ha => ?_) trivial ?_
      · obtain rfl := Option.some.inj ho
        rcases ha with rfl | rfl
        · exact ⟨by rfl, by go_simp⟩
        · exact ⟨by rfl, by simp only [Act.put, List.setIfInBounds_toArray, List.set_cons_zero, List.set_cons_succ]; go_simp⟩
      · obtain rfl := Option.some.inj ho
        rcases ha with rfl | rfl
        · exact ⟨by rfl, by go_simp⟩
        · exact ⟨by rfl, by simp only [Act.put, List.setIfInBounds_toArray, List.set_cons_zero, List.set_cons_succ]; go_simp⟩
      simp only [Act.put, List.setIfInBounds_toArray, List.set_cons_zero, List.set_cons_succ]
      refine take_at (i := 10) (d := some 38) (v := V) rfl (by kernel_rfl) (by kernel_rfl) (by kernel_rfl) (fun _ _ _ h => h) (fun oi ho => ?_) trivial ?_
      · obtain rfl := Option.some.inj ho
        exact Or.inl ⟨by rfl, fun wx hSw => by go_simp⟩
      simp only [Act.put, List.setIfInBounds_toArray, List.set_cons_zero, List.set_cons_succ]
      refine ready_call (i := 11) (d := some 39) (f := 29) (args := #[V]) rfl (by kernel_rfl) (fun oi ho => ?_) ?_
      · obtain rfl := Option.some.inj ho
        exact ⟨by rfl, by go_simp⟩
      refine hcl.mono ?_
      rintro e W3 ⟨v', rfl, ho3, hB3⟩
      rw [hlen] at ho3
      refine ⟨v', rfl, trivial, ?_⟩
      obtain ⟨k, c, cur, rfl, hk, hc, _⟩ := own38' ho3 (by omega)
      have hr3 : Row W3 g #[.bool mk, .int .i64 (m : Int), v, .int .i64 ((pre.length : Int) + (n : Int))] 40 := HQ.out.1.below hB3 HQ.out.1.lt
      have hkk := ho3.lt k rfl
      have hgk : g < Wq.heap.size := HQ.out.1.lt
      have HKG : Hid (k ≠ g ∧ Wq.heap.size ≤ k) := Lib.hid ⟨by omega, hkk.1⟩
      have d2 : W3.cell? ⟨g, 2, none⟩ = some v := cell_of_row W3 _ 2 _ 40 (0, 0) hr3
      have d3 : W3.cell? ⟨g, 3, none⟩ = some (.int .i64 ((pre.length : Int) + (n : Int))) := cell_of_row W3 _ 3 _ 40 (0, 0) hr3
      have f2 : W3.frozen? ⟨g, 2, none⟩ = false := Row.frozen hr3 2
      have f3 : W3.frozen? ⟨g, 3, none⟩ = false := Row.frozen hr3 3
      have H3 := Lib.hid (And.intro hr3 (And.intro ho3 hB3))
      clear hr3 ho3 hB3 hk
      simp only [Act.put, List.setIfInBounds_toArray, List.set_cons_zero, List.set_cons_succ]
      refine take_at (i := 12) (d := some 40) (v := .pointer (some ⟨g, 0, none⟩)) rfl (by kernel_rfl) (by kernel_rfl) (by kernel_rfl) (fun _ _ _ h => h) (fun oi ho => ?_) trivial ?_
      · obtain rfl := Option.some.inj ho
        exact Or.inl ⟨by rfl, fun wx hSw => by go_simp⟩
      simp only [Act.put, List.setIfInBounds_toArray, List.set_cons_zero, List.set_cons_succ]
      refine take_at (i := 13) (d := some 41) (v := .pointer (some ⟨g, 2, none⟩)) rfl (by kernel_rfl) (by kernel_rfl) (by kernel_rfl) (fun _ _ _ h => h) (fun oi ho => ?_) trivial ?_
      · obtain rfl := Option.some.inj ho
        exact Or.inl ⟨by rfl, fun wx hSw => by go_simp⟩
      simp only [Act.put, List.setIfInBounds_toArray, List.set_cons_zero, List.set_cons_succ]
      refine ready_skip (i := 14) (d := none) (w' := W3.setCell ⟨g, 2, none⟩ (.slice (some ⟨k, 0, none⟩) r c)) rfl (by kernel_rfl) (fun oi ho => ?_) trivial ?_
      · obtain rfl := Option.some.inj ho
        exact ⟨by rfl, by go_simp⟩
      refine take_at (i := 15) (d := some 42) (v := .pointer (some ⟨g, 0, none⟩)) rfl (by kernel_rfl) (by kernel_rfl) (by kernel_rfl) (fun _ _ _ h => h) (fun oi ho => ?_) trivial ?_
      · obtain rfl := Option.some.inj ho
        exact Or.inl ⟨by rfl, fun wx hSw => by go_simp⟩
      simp only [Act.put, List.setIfInBounds_toArray, List.set_cons_zero, List.set_cons_succ]
      refine take_at (i := 16) (d := some 43) (v := .pointer (some ⟨g, 3, none⟩)) rfl (by kernel_rfl) (by kernel_rfl) (by kernel_rfl) (fun _ _ _ h => h) (fun oi ho => ?_) trivial ?_
      · obtain rfl := Option.some.inj ho
        exact Or.inl ⟨by rfl, fun wx hSw => by go_simp⟩
      simp only [Act.put, List.setIfInBounds_toArray, List.set_cons_zero, List.set_cons_succ]
      have e3 : (W3.setCell ⟨g, 2, none⟩ (.slice (some ⟨k, 0, none⟩) r c)).cell? ⟨g, 3, none⟩ = some (.int .i64 ((pre.length : Int) + (n : Int))) := cell_of_row _ _ 3 _ 40 (0, 0) (H3.out.1.set 2 _)
      have g3 : (W3.setCell ⟨g, 2, none⟩ (.slice (some ⟨k, 0, none⟩) r c)).frozen? ⟨g, 3, none⟩ = false := Row.frozen (H3.out.1.set 2 _) 3
      refine ready_skip (i := 17) (d := none) (w' := (W3.setCell ⟨g, 2, none⟩ (.slice (some ⟨k, 0, none⟩) r c)).setCell ⟨g, 3, none⟩ (.int .i64 0)) rfl (by kernel_rfl) (fun oi ho => ?_) trivial ?_
      · obtain rfl := Option.some.inj ho
        exact ⟨by rfl, by go_simp⟩
      refine wpAnyH_done (by kernel_rfl) ?_ _
      refine NoPanic.normal ?_
      go_wp2
      go_end0
      refine ⟨rfl, ⟨⟨.slice (some ⟨k, 0, none⟩) r c, [], ⟨?_, ?_⟩, fun k' hk' => ?_, Nat.zero_le _⟩, by omega, hmost, fun k' hk' => ?_⟩, ?_⟩
      · exact (H3.out.1.set 2 _).set 3 _
      · rw [List.nil_append, hlen]
        exact own_base ((H3.out.2.1.kept (grown_cell W3 g 2 _) (not_some fun k' hk' => by cases hk'; exact HKG.out.1)).kept (grown_cell _ g 3 _) (not_some fun k' hk' => by cases hk'; exact HKG.out.1))
      · obtain rfl : k = k' := by cases hk'; rfl
        refine ⟨fun hA => ?_, HKG.out.1⟩
        have := HH.out.2.2.2 k hA
        have := HKG.out.2
        have := HQ.out.2.size
        omega
      · have := HH.out.2.2.2 k' hk'
        have := HQ.out.2.size
        have := H3.out.2.2.size
        simp [World.setCell]; omega
      · exact Spare.of_keeps (((HQ.out.2.trans (Keeps.of_below H3.out.2.2)).trans (Keeps.setCell _ 2 _)).trans (Keeps.setCell _ 3 _)) HH.out.2.2.2
    · have hbg : decide ((r : Int) < (pre.length : Int) + (n : Int)) = false := decide_eq_false (by omega)
      go_wp2
      go_quiet (first | (go_at_call 20; exact Calls.quiet_of (HL.out _ (HD.out.trans ⟨_, rfl⟩))))
      go_wp2
      go_end0
      refine ⟨rfl, ⟨⟨v, pre ++ x.take n, ⟨?_, ?_⟩, HH.out.2.2.1, ?_⟩, by omega, hmost, fun k hk => ?_⟩, ?_⟩
      · rw [hpl]; exact H2.out.1
      · rw [happ]; exact H2.out.2.1.kept (Drawn.grown ⟨_, rfl⟩ none) (by cases v.ownBlock <;> simp)
      · rw [List.length_append, List.length_take]; omega
      · have := HH.out.2.2.2 k hk
        have := H2.out.2.2.size
        show k < W2.heap.size
        omega
      · exact Spare.of_keeps (H2.out.2.2.trans (Keeps.of_drawn ⟨_, rfl⟩)) HH.out.2.2.2
end Go.Proofs.Ytgkinbichiahjaa
