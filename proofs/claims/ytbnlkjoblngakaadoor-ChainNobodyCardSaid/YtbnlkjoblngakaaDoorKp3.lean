/- The landed package of chains: a handler with lists of its own. -/
import Derived.Test.YtbnlkjoblngakaaDoorKp2
namespace Go.Proofs.YtbnlkjoblngakaaDoor
open Go.RowKit Go.Shelf
attribute [local go_sem] store_one S_match S_store

theorem rest_row {N : Nat → Prop} {w w' : World} {b : Nat} {cs : Array Value} {t : TypeId} (h : Rest N w w') (hr : Row w b cs t) (hn : ¬ N b) : Row w' b cs t := by
  unfold Row; rw [h.rest b hr.lt hn]; exact hr
theorem row_heap {w w' : World} {b : Nat} {cs : Array Value} {t : TypeId} (h : w'.heap[b]? = w.heap[b]?) (hr : Row w b cs t) : Row w' b cs t := by
  unfold Row; rw [h]; exact hr
theorem fo_form {b : Nat} {V : Value} {fs : Fds} {w : World} (h : FO b V fs w) : ∃ a c, V = .slice a fs.length c := by
  rcases h.2 with ⟨h1, h2⟩ | ⟨g, cap, cur, rfl, _⟩
  · exact ⟨none, 0, by rw [h1, h2]⟩
  · exact ⟨_, _, rfl⟩
set_option maxRecDepth 100000 in
set_option maxHeartbeats 1000000 in
theorem apart_does {K : Nat → Prop} {w1 : World} {gh bh : Nat} {lbh : Array Value} (hen : Entering gh) (hb1 : K bh) (hrow : Row w1 bh #[hV gh lbh] 40) :
    DoesB K w1 43 #[.pointer (some ⟨bh, 0, none⟩)] [] gh lbh := by
  intro W hs hk r V b o hA hr Q hQ
  replace hQ : AskedB K gh lbh W r r.p b [] Q := hQ
  have hrW : Row W bh #[hV gh lbh] 40 := row_heap (hk bh hb1) hrow
  have hbW : bh < W.heap.size := hrW.lt
  obtain ⟨W1, hW1⟩ : ∃ W1, W1 = (W.alloc (.cells (rqC r V) 25)).alloc (.cells #[.int .i64 0, .slice none 0 0, .string ⟨#[]⟩] 27) := ⟨_, rfl⟩
  have hs1 : W1.heap.size = W.heap.size + 2 := by rw [hW1]; simp
  have hB1 : Below W.heap.size W W1 := by rw [hW1]; exact ((Below.refl _ W).alloc (Nat.le_refl _) _).alloc (by rw [alloc_size]; omega) _
  have hr0 : Row W1 W.heap.size (rqC r V) 25 := by rw [hW1]; exact (row_new W _ _).alloc _
  have hr1 : Row W1 (W.heap.size + 1) #[.int .i64 0, .slice none 0 0, .string ⟨#[]⟩] 27 := by
    have h := row_new (W.alloc (.cells (rqC r V) 25)) #[.int .i64 0, .slice none 0 0, .string ⟨#[]⟩] 27
    rw [alloc_size] at h
    rw [hW1]; exact h
  have HC := Lib.hid (clone13_any V r.fs b o W1 (hA.below hB1) (by have := hr.few; omega))
  have HS := Lib.hid (And.intro hr0 (And.intro hr1 (And.intro hB1 hs1)))
  have HQ := Lib.hid hQ
  have HW := Lib.hid hrW
  have c4 : W1.cell? ⟨W.heap.size, 4, none⟩ = some V := cell_of_row W1 _ 4 _ _ (0, 0) hr0
  clear hQ hr0 hr1 hB1 hs1 hrow hk hs hrW hA
  rw [hW1] at HC c4
  unfold rqV
  unfold rqC at HC c4 hW1 ⊢
  go_enter Tryd.func43, Tryd.ntmps43
  go_wp2_with fail
  refine HC.out.mono ?_
  rintro e W2 ⟨V1, rfl, hF1, hB2⟩
  rw [← hW1] at hF1 hB2
  clear HC c4
  have hs1 := HS.out.2.2.2
  have hs2 := hB2.size
  have hr0 := HS.out.1.below hB2 (by omega)
  have hr1 := HS.out.2.1.below hB2 (by omega)
  have hrh : Row W2 bh #[hV gh lbh] 40 := (HW.out.below HS.out.2.2.1 hbW).below hB2 (by omega)
  obtain ⟨W3, hW3⟩ : ∃ W3, W3 = W2.setCell ⟨W.heap.size, 4, none⟩ V1 := ⟨_, rfl⟩
  have hrow3 : Row W3 W.heap.size (rqC r V1) 25 := by rw [hW3]; exact hr0.set 4 V1
  have hR3 : Rest (fun k => k = W.heap.size) W2 W3 := by rw [hW3]; exact set_rest W2 W.heap.size 4 V1
  have hr13 := rest_row hR3 hr1 (by omega)
  have hrh3 := rest_row hR3 hrh (by omega)
  have hlV : ∀ k, V1.ownBlock = some k → W1.heap.size ≤ k := fun k hk => (World.ownsRow.lt hF1 k hk).1
  have hF3 : FO W.heap.size V1 r.fs W3 := (FO.weak (own_same hF1 fun j hj => hR3.rest j (World.ownsRow.lt hF1 j hj).2 (by have := hlV j hj; omega)) (by omega) : FO W.heap.size V1 r.fs W3)
  have hB3 : Below W.heap.size W W3 := (HS.out.2.2.1.trans (hB2.mono (by omega))).trans (hR3.below (fun k hk h => by omega) (by omega))
  have hc3 := HQ.out (fun k => k = W.heap.size ∨ k = W.heap.size + 1) W3 V1 hB3 (fun k hk => ⟨by omega, by have := hR3.size; omega, fun e => by have := hlV k e; omega⟩) hF3
  have HC3 : Hid (Calls Tryd.prog gh (#[rqV r V1] ++ lbh) W3 fun e W4 => ∃ code Vx fx body bx ox, e = .returned (rpV code Vx body) ∧ FA W4 Vx fx bx ox ∧ fx.length ≤ 1000 ∧
      W3.heap.size ≤ W4.heap.size ∧ W4.heap[W.heap.size + 1]? = W3.heap[W.heap.size + 1]? ∧
      ∀ W5 V5, Rest (fun k => k = W.heap.size ∨ k = W.heap.size + 1) W4 W5 → FO W4.heap.size V5 fx W5 → Q (.returned (rpV code V5 body)) W5) := Lib.hid (by
    refine hc3.mono ?_
    rintro e W4 ⟨code, Vx, fx, body, bx, ox, h1, h2, h3, h4, h5, h6, h7⟩
    refine ⟨code, Vx, fx, body, bx, ox, h1, h2, h3, h5, h6 _ (.inl (.inr rfl)), fun W5 V5 hR5 hF5 => h7 W5 V5 hR5 ?_⟩
    rw [show addsS r.fs [] = [] from rfl, List.append_nil]
    exact hF5)
  have d0 : W2.cell? ⟨W.heap.size, 0, none⟩ = some (S r.m) := cell_of_row W2 _ 0 _ _ (0, 0) hr0
  have d1 : W2.cell? ⟨W.heap.size, 1, none⟩ = some (S r.p) := cell_of_row W2 _ 1 _ _ (0, 0) hr0
  have d2 : W2.cell? ⟨W.heap.size, 2, none⟩ = some (S r.q) := cell_of_row W2 _ 2 _ _ (0, 0) hr0
  have d3 : W2.cell? ⟨W.heap.size, 3, none⟩ = some (.int .i64 r.v) := cell_of_row W2 _ 3 _ _ (0, 0) hr0
  have d4 : W2.cell? ⟨W.heap.size, 4, none⟩ = some V := cell_of_row W2 _ 4 _ _ (0, 0) hr0
  have d5 : W2.cell? ⟨W.heap.size, 5, none⟩ = some (S r.body) := cell_of_row W2 _ 5 _ _ (0, 0) hr0
  have d6 : W2.cell? ⟨W.heap.size, 6, none⟩ = some (.bool r.cl) := cell_of_row W2 _ 6 _ _ (0, 0) hr0
  have z4 := hr0.frozen 4
  have dh : W3.cell? ⟨bh, 0, none⟩ = some (hV gh lbh) := cell_of_row W3 bh 0 _ _ (0, 0) hrh3
  have H3 := Lib.hid (And.intro hr13 (And.intro hB3 hs2))
  have hv1 : ∃ a n c, V1 = Value.slice a n c := by obtain ⟨a, c, h⟩ := fo_form hF1; exact ⟨a, _, c, h⟩
  have hen' : ∀ args w, (callFunc gh args).run Tryd.prog w = .ok (.enter gh args) w := hen
  clear hc3 hr0 hr1 hrh hrow3 hR3 hr13 hrh3 hlV hF1 hF3 hB2 hB3 hs1 hs2 HQ hen
  unfold rqV rqC at HC3
  rw [hW3] at HC3 dh
  unfold hV at dh
  obtain ⟨a1, n1, c1, rfl⟩ : ∃ a n c, V1 = Value.slice a n c := hv1
  go_wp2_with fail
  refine HC3.out.mono ?_
  rintro e W4 ⟨code, Vx, fx, body, bx, ox, rfl, hA4, hl4, hs4, hk4, hfin⟩
  rw [← hW3] at hs4 hk4
  have hr1 := row_heap hk4 H3.out.1
  have hlt3 := H3.out.1.lt
  obtain ⟨ax, cx, rfl⟩ := hA4.form
  obtain ⟨nx, hnx⟩ : ∃ n, n = fx.length := ⟨_, rfl⟩
  rw [← hnx] at hA4
  have hA5 : FA (W4.alloc (.cells #[.int .i64 code, .slice ax nx cx, S body] 27)) (.slice ax nx cx) fx bx ox := hA4.below ((Below.refl _ _).alloc (Nat.le_refl _) _)
  have HC5 := Lib.hid (clone13_any _ fx bx ox _ hA5 hl4)
  rw [← hnx]
  have H5 := Lib.hid (And.intro hr1 hfin)
  have hs5 : W.heap.size + 1 < W4.heap.size := by omega
  have HS5 := Lib.hid (And.intro hs5 hl4)
  clear hA4 hA5 hnx hr1 hfin hl4 hs4 hk4 HC3 dh d0 d1 d2 d3 d4 d5 d6 z4 hlt3 hs5 hW3 H3 HS HW hW1 hr hb1 hbW hen'
  unfold rpV rpC
  go_wp2_with fail
  refine HC5.out.mono ?_
  rintro e W6 ⟨V3, rfl, hF6, hB6⟩
  clear HC5
  obtain ⟨W5, hW5⟩ : ∃ W, W = W4.alloc (.cells #[.int .i64 code, .slice ax nx cx, S body] 27) := ⟨_, rfl⟩
  have hs5 : W5.heap.size = W4.heap.size + 1 := by rw [hW5, alloc_size]
  have hB5 : Below W4.heap.size W4 W5 := by rw [hW5]; exact (Below.refl _ _).alloc (Nat.le_refl _) _
  have hr5 : Row W5 W4.heap.size #[.int .i64 code, .slice ax nx cx, S body] 27 := by rw [hW5]; exact row_new W4 _ _
  rw [← hW5] at hF6 hB6
  clear hW5
  have hr6 := hr5.below hB6 (by omega)
  have hr1 := (H5.out.1.below hB5 HS5.out.1).below hB6 (by have := HS5.out.1; omega)
  have hv3 : ∃ a n c, V3 = Value.slice a n c := by obtain ⟨a, c, h⟩ := fo_form hF6; exact ⟨a, _, c, h⟩
  have hlV : ∀ k, V3.ownBlock = some k → W5.heap.size ≤ k := fun k hk => (World.ownsRow.lt hF6 k hk).1
  have hR6 : Rest (fun k => k = W.heap.size ∨ k = W.heap.size + 1) W4 W6 := Rest.of_below (hB5.trans (hB6.mono hB5.size))
  have d0 : W6.cell? ⟨W4.heap.size, 0, none⟩ = some (.int .i64 code) := cell_of_row W6 _ 0 _ _ (0, 0) hr6
  have d1 : W6.cell? ⟨W4.heap.size, 1, none⟩ = some (.slice ax nx cx) := cell_of_row W6 _ 1 _ _ (0, 0) hr6
  have d2 : W6.cell? ⟨W4.heap.size, 2, none⟩ = some (S body) := cell_of_row W6 _ 2 _ _ (0, 0) hr6
  have z1 := hr6.frozen 1
  have e0 : W6.cell? ⟨W.heap.size + 1, 0, none⟩ = some (.int .i64 0) := cell_of_row W6 _ 0 _ _ (0, 0) hr1
  have e1 : W6.cell? ⟨W.heap.size + 1, 1, none⟩ = some (.slice none 0 0) := cell_of_row W6 _ 1 _ _ (0, 0) hr1
  have e2 : W6.cell? ⟨W.heap.size + 1, 2, none⟩ = some (.string ⟨#[]⟩) := cell_of_row W6 _ 2 _ _ (0, 0) hr1
  have y0 := hr1.frozen 0
  have y1 := hr1.frozen 1
  have y2 := hr1.frozen 2
  have hne : W4.heap.size ≠ W.heap.size + 1 := by have := HS5.out.1; omega
  have hne' : W.heap.size + 1 ≠ W4.heap.size := hne.symm
  have H6 := Lib.hid (And.intro hr1 (And.intro hR6 (And.intro hF6 (And.intro hs5 hlV))))
  have HS6 := Lib.hid hB6.size
  clear hr5 hB5 hB6 hr6 hr1 hR6 hs5 hlV hF6
  obtain ⟨a3, n3, c3, rfl⟩ := hv3
  go_wp2
  have hR7 := set_rest W6 W4.heap.size 1 (.slice a3 n3 c3)
  have h2 := rest_row hR7 H6.out.1 hne'
  refine bodyPost_ret (results_row_one rfl _ _ (W.heap.size + 1) 27 #[.int .i64 code, .slice a3 n3 c3, S body] (0, 0) _ rfl (put3k_row h2 _ _ _) Tryd.underlying27 rfl infoRp) rfl ?_
  have hR8 := ((hR7.trans (set_rest _ (W.heap.size + 1) 0 (.int .i64 code))).trans (set_rest _ (W.heap.size + 1) 1 (.slice a3 n3 c3))).trans (set_rest _ (W.heap.size + 1) 2 (S body))
  refine H5.out.2 _ _ ((H6.out.2.1.trans hR8).mono fun k hk h => ?_) (FO.weak (own_same H6.out.2.2.1 fun j hj => hR8.rest j (World.ownsRow.lt H6.out.2.2.1 j hj).2 (fun h => ?_)) (by have := H6.out.2.2.2.1; omega))
  · omega
  · have := H6.out.2.2.2.2 j hj
    have := H6.out.2.2.2.1
    have := HS5.out.1
    omega
end Go.Proofs.YtbnlkjoblngakaaDoor
