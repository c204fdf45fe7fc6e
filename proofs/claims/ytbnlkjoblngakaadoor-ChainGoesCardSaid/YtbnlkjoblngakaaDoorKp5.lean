/- The landed package of chains: rows of fields copied, a field put behind others, what is refused. The landed package of chains: a handler with lists of its own. The landed package of chains: steps that refuse a request, or let it by. The landed package of chains: steps that put a field behind those of a reply. (mkkp5.py writes it.) -/
import Derived.Test.YtbnlkjoblngakaaDoorKp0
import Derived.Test.YtbnlkjoblngakaaDoorKp1
import Derived.Test.YtbnlkjoblngakaaDoorKl
import Derived.Shelf.RegionOpen
namespace Go.Proofs.YtbnlkjoblngakaaDoor
open Go.RowKit Go.Shelf
attribute [local go_sem] store_one S_match S_store

theorem fa_none {w : World} {fs : Fds} {b o c : Nat} (h : FA w (.slice none fs.length c) fs b o) : fs = [] := by
  cases fs with
  | nil => rfl
  | cons f r =>
    have hix := h.index 0 (by simp) w
    simp [Instr.indexAt, boundsPanic, go_sem] at hix
set_option maxRecDepth 100000 in
set_option maxHeartbeats 1000000 in
theorem clone13_any (V : Value) (fs : Fds) (b o : Nat) (w : World) (h : FA w V fs b o) (hl : fs.length ≤ 1000) :
    Calls Tryd.prog 44 #[V] w fun e w' => ∃ V', e = .returned V' ∧ FO w.heap.size V' fs w' ∧ Below w.heap.size w w' := by
  have q23 : ∀ (w : World) (a : Option Addr) (n c n' c' : Nat), (binOp .eql 23 (.slice a n c) (.slice none n' c')).run Tryd.prog w = .ok (.bool a.isNone) w := fun w a n c n' c' => Lib.run_eql_slice_nil w _ _ a n c n' c' Tryd.underlying23
  obtain ⟨a, c, rfl⟩ := h.form
  obtain ⟨V', W', hr, hF, hB⟩ := run_copyF h hl 23
  have HR := Lib.hid hr
  have HE := Lib.hid (And.intro hF hB)
  have HN := Lib.hid h
  obtain ⟨N, hN⟩ : ∃ N, N = fs.length := ⟨_, rfl⟩
  rw [← hN] at HR ⊢
  have HL := Lib.hid hN
  clear hr hF hB h hl hN
  cases a with
  | none =>
    go_enter Tryd.func44, Tryd.ntmps44
    go_wp2
    go_ret
    have e := fa_none HN.out
    exact ⟨_, rfl, by rw [e]; exact ⟨rfl, .inl ⟨rfl, rfl⟩⟩, Below.refl _ _⟩
  | some a =>
    go_enter Tryd.func44, Tryd.ntmps44
    go_wp2_with (at_builtin; refine wpList_append_at rfl (.tmp 5) (.tmp 6) 23 rfl _ _ rfl rfl V' W' HR.out ?_)
    go_ret
    exact ⟨_, rfl, HE.out⟩
set_option maxRecDepth 100000 in
set_option maxHeartbeats 1000000 in
theorem refused_any (c : Int) (t : Tx) (w : World) : Calls Tryd.prog 61 #[.int .i64 c, S t] w fun e w' => e = .returned (rpV c (.slice none 0 0) t) ∧ Below w.heap.size w w' := by
  go_enter Tryd.func61, Tryd.ntmps61
  go_wp2
  refine bodyPost_ret (results_row_one rfl _ _ w.heap.size 27 #[.int .i64 c, .slice none 0 0, S t] (0, 0) _ rfl (row_new w _ _) Tryd.underlying27 rfl infoRp) rfl ?_
  exact ⟨rfl, (Below.refl _ w).alloc (Nat.le_refl _) _⟩
set_option maxRecDepth 100000 in
set_option maxHeartbeats 1000000 in
/-- A field behind those of a reply. -/
theorem with_any (c : Int) (V : Value) (body : Tx) (n u : Tx) (B : Nat) (fs : Fds) (w : World) (hF : FO B V fs w) (hB : B ≤ w.heap.size) (hl : fs.length ≤ 100000) :
    Calls Tryd.prog 66 #[rpV c V body, .agg #[S n, S u]] w fun e w' => ∃ V', e = .returned (rpV c V' body) ∧ FO B V' (fs ++ [(n, u)]) w' ∧ Rest (fun k => B ≤ k) w w' := by
  unfold rpV rpC
  obtain ⟨W3, hW3⟩ : ∃ W, W = ((w.alloc (.cells #[.int .i64 c, V, S body] 27)).alloc (.cells #[S n, S u] 53)).alloc (.cells #[.int .i64 0, .slice none 0 0, .string ⟨#[]⟩] 27) := ⟨_, rfl⟩
  have hs3 : W3.heap.size = w.heap.size + 3 := by rw [hW3]; simp
  have hB3 : Below w.heap.size w W3 := by rw [hW3]; exact (((Below.refl _ w).alloc (Nat.le_refl _) _).alloc (by rw [alloc_size]; omega) _).alloc (by simp; omega) _
  have hr0 : Row W3 w.heap.size #[.int .i64 c, V, S body] 27 := by rw [hW3]; exact ((row_new w _ _).alloc _).alloc _
  have hr2 : Row W3 (w.heap.size + 2) #[.int .i64 0, .slice none 0 0, .string ⟨#[]⟩] 27 := by
    have h := row_new ((w.alloc (.cells #[.int .i64 c, V, S body] 27)).alloc (.cells #[S n, S u] 53)) #[.int .i64 0, .slice none 0 0, .string ⟨#[]⟩] 27
    rw [alloc_size, alloc_size] at h
    rw [hW3]; exact h
  have HF3 : Hid (World.ownsRow W3 B 53 2 V fs.length (fcells fs)) := Lib.hid (own_below hF hB3)
  have hlt : ∀ k, V.ownBlock = some k → k < w.heap.size := fun k hk => (World.ownsRow.lt hF k hk).2
  have HS := Lib.hid (And.intro hr0 (And.intro hr2 (And.intro hlt (And.intro hB3 hs3))))
  have HL := Lib.hid (And.intro hl hB)
  have hone : ∀ v ∈ (#[S n, S u] : Array Value).toList, v.oneCell' = true := by intro v hv; simp at hv; rcases hv with rfl | rfl <;> rfl
  clear hF hB hl hr0 hr2 hB3 hs3 hlt
  go_enter Tryd.func66, Tryd.ntmps66
  go_wp2_with (at_builtin; refine wpList_addL rfl 23 53 (.tmp 6) (.tmp 8) rfl Tryd.underlying23 eleF (by omega) B _ V rfl fs.length (fcells fs) (by rw [← hW3]; exact HF3.out) #[S n, S u] rfl hone rfl (w.heap.size + 3) (by rw [← hW3]; exact HS.out.2.2.2.2) rfl (by have := HL.out.1; omega) (by rw [← hW3]; have := HS.out.2.2.2.2; have := HL.out.2; omega) ?_; intro gg cap W9 o2 g2 g3 g4; rw [← hW3] at g2 g3; have H9 := Lib.hid (And.intro o2 (And.intro g2 g3))
               have k0 : Row W9 w.heap.size #[.int .i64 c, V, S body] 27 := (by unfold Row; rw [g2.block w.heap.size (by have := HS.out.2.2.2.2; omega) (fun e => by have := HS.out.2.2.1 _ e.symm; omega)]; exact HS.out.1)
               have k2 : Row W9 (w.heap.size + 2) #[.int .i64 0, .slice none 0 0, .string ⟨#[]⟩] 27 := (by unfold Row; rw [g2.block (w.heap.size + 2) (by have := HS.out.2.2.2.2; omega) (fun e => by have := HS.out.2.2.1 _ e.symm; omega)]; exact HS.out.2.1)
               have HK := Lib.hid (And.intro k0 k2)
               have x0 : W9.cell? ⟨w.heap.size, 0, none⟩ = some (.int .i64 c) := cell_of_row W9 _ 0 _ _ (0, 0) k0
               have x1 : W9.cell? ⟨w.heap.size, 1, none⟩ = some V := cell_of_row W9 _ 1 _ _ (0, 0) k0
               have x2 : W9.cell? ⟨w.heap.size, 2, none⟩ = some (S body) := cell_of_row W9 _ 2 _ _ (0, 0) k0
               have z1 := k0.frozen 1
               have e0 : W9.cell? ⟨w.heap.size + 2, 0, none⟩ = some (.int .i64 0) := cell_of_row W9 _ 0 _ _ (0, 0) k2
               have e1 : W9.cell? ⟨w.heap.size + 2, 1, none⟩ = some (.slice none 0 0) := cell_of_row W9 _ 1 _ _ (0, 0) k2
               have e2 : W9.cell? ⟨w.heap.size + 2, 2, none⟩ = some (.string ⟨#[]⟩) := cell_of_row W9 _ 2 _ _ (0, 0) k2
               have y0 := k2.frozen 0
               have y1 := k2.frozen 1
               have y2 := k2.frozen 2
               clear o2 g2 g3 g4 k0 k2)
  have h2 : Row (W9.setCell ⟨w.heap.size, 1, none⟩ (.slice (some ⟨gg, 0, none⟩) (fs.length + 1) cap)) (w.heap.size + 2) #[.int .i64 0, .slice none 0 0, .string ⟨#[]⟩] 27 := by
    unfold Row
    rw [(set_rest W9 w.heap.size 1 _).rest (w.heap.size + 2) HK.out.2.lt (by omega)]
    exact HK.out.2
  refine bodyPost_ret (results_row_one rfl _ _ (w.heap.size + 2) 27 #[.int .i64 c, .slice (some ⟨gg, 0, none⟩) (fs.length + 1) cap, S body] (0, 0) _ rfl (put3k_row h2 _ _ _) Tryd.underlying27 rfl infoRp) rfl ?_
  refine ⟨_, rfl, ?_, ?_⟩
  · have hR : Rest (fun k => w.heap.size ≤ k ∧ k < W3.heap.size) W9 (put3k (W9.setCell ⟨w.heap.size, 1, none⟩ (.slice (some ⟨gg, 0, none⟩) (fs.length + 1) cap)) (w.heap.size + 2) (.int .i64 c) (.slice (some ⟨gg, 0, none⟩) (fs.length + 1) cap) (S body)) :=
      ((((set_rest W9 w.heap.size 1 _).trans (set_rest _ (w.heap.size + 2) 0 (.int .i64 c))).trans (set_rest _ (w.heap.size + 2) 1 _)).trans (set_rest _ (w.heap.size + 2) 2 (S body))).mono fun k _ h => by have := HS.out.2.2.2.2; omega
    have ho := own_same H9.out.1 (w' := put3k (W9.setCell ⟨w.heap.size, 1, none⟩ (.slice (some ⟨gg, 0, none⟩) (fs.length + 1) cap)) (w.heap.size + 2) (.int .i64 c) (.slice (some ⟨gg, 0, none⟩) (fs.length + 1) cap) (S body)) (fun j hj => hR.rest j (World.ownsRow.lt H9.out.1 j hj).2 (fun h => by
      simp only [Value.ownBlock, Option.some.injEq] at hj
      rcases H9.out.2.2 with h1 | h1
      · have := HS.out.2.2.1 _ h1; omega
      · omega))
    unfold FO
    rw [fcells_snoc, List.length_append]
    exact ho
  · have hR1 : Rest (fun k => B ≤ k) w W3 := Rest.of_below HS.out.2.2.2.1
    have hR2 : Rest (fun k => V.ownBlock = some k) W3 W9 := ⟨H9.out.2.1.os, H9.out.2.1.tape, H9.out.2.1.output, H9.out.2.1.size, fun k hk hn => H9.out.2.1.block k hk (fun e => hn e.symm)⟩
    have hR3 := ((((set_rest W9 w.heap.size 1 (.slice (some ⟨gg, 0, none⟩) (fs.length + 1) cap)).trans (set_rest _ (w.heap.size + 2) 0 (.int .i64 c))).trans (set_rest _ (w.heap.size + 2) 1 (.slice (some ⟨gg, 0, none⟩) (fs.length + 1) cap))).trans (set_rest _ (w.heap.size + 2) 2 (S body)))
    refine ((hR1.trans hR2).trans hR3).mono fun k hk h => ?_
    have := HL.out.2
    rcases h with (h | h) | h
    · exact h
    · exact (World.ownsRow.lt HF3.out k h).1
    · omega

theorem rest_row {N : Nat → Prop} {w w' : World} {b : Nat} {cs : Array Value} {t : TypeId} (h : Rest N w w') (hr : Row w b cs t) (hn : ¬ N b) : Row w' b cs t := by
  unfold Row; rw [h.rest b hr.lt hn]; exact hr
theorem row_heap {w w' : World} {b : Nat} {cs : Array Value} {t : TypeId} (h : w'.heap[b]? = w.heap[b]?) (hr : Row w b cs t) : Row w' b cs t := by
  unfold Row; rw [h]; exact hr
theorem fo_form {b : Nat} {V : Value} {fs : Fds} {w : World} (h : FO b V fs w) : ∃ a c, V = .slice a fs.length c := by
  rcases h.2 with ⟨h1, h2⟩ | ⟨g, cap, cur, rfl, _⟩
  · exact ⟨none, 0, by rw [h1, h2]⟩
  · exact ⟨_, _, rfl⟩
set_option maxRecDepth 100000 in
set_option maxHeartbeats 1000000 in
theorem apart_does {K : Nat → Prop} {w1 : World} {gh bh : Nat} {lbh : Array Value} (hen : Entering gh) (hb1 : K bh) (hrow : Row w1 bh #[hV gh lbh] 40) :
    DoesB K w1 43 #[.pointer (some ⟨bh, 0, none⟩)] [] gh lbh := by
  intro W hs hk r V b o hA hr Q hQ
  replace hQ : AskedB K gh lbh W r r.p b [] Q := hQ
  have hrW : Row W bh #[hV gh lbh] 40 := row_heap (hk bh hb1) hrow
  have hbW : bh < W.heap.size := hrW.lt
  obtain ⟨W1, hW1⟩ : ∃ W1, W1 = (W.alloc (.cells (rqC r V) 25)).alloc (.cells #[.int .i64 0, .slice none 0 0, .string ⟨#[]⟩] 27) := ⟨_, rfl⟩
  have hs1 : W1.heap.size = W.heap.size + 2 := by rw [hW1]; simp
  have hB1 : Below W.heap.size W W1 := by rw [hW1]; exact ((Below.refl _ W).alloc (Nat.le_refl _) _).alloc (by rw [alloc_size]; omega) _
  have hr0 : Row W1 W.heap.size (rqC r V) 25 := by rw [hW1]; exact (row_new W _ _).alloc _
  have hr1 : Row W1 (W.heap.size + 1) #[.int .i64 0, .slice none 0 0, .string ⟨#[]⟩] 27 := by
    have h := row_new (W.alloc (.cells (rqC r V) 25)) #[.int .i64 0, .slice none 0 0, .string ⟨#[]⟩] 27
    rw [alloc_size] at h
    rw [hW1]; exact h
  have HC := Lib.hid (clone13_any V r.fs b o W1 (hA.below hB1) (by have := hr.few; omega))
  have HS := Lib.hid (And.intro hr0 (And.intro hr1 (And.intro hB1 hs1)))
  have HQ := Lib.hid hQ
  have HW := Lib.hid hrW
  have c4 : W1.cell? ⟨W.heap.size, 4, none⟩ = some V := cell_of_row W1 _ 4 _ _ (0, 0) hr0
  clear hQ hr0 hr1 hB1 hs1 hrow hk hs hrW hA
  rw [hW1] at HC c4
  unfold rqV
  unfold rqC at HC c4 hW1 ⊢
  go_enter Tryd.func43, Tryd.ntmps43
  go_wp2_with fail
  refine HC.out.mono ?_
  rintro e W2 ⟨V1, rfl, hF1, hB2⟩
  rw [← hW1] at hF1 hB2
  clear HC c4
  have hs1 := HS.out.2.2.2
  have hs2 := hB2.size
  have hr0 := HS.out.1.below hB2 (by omega)
  have hr1 := HS.out.2.1.below hB2 (by omega)
  have hrh : Row W2 bh #[hV gh lbh] 40 := (HW.out.below HS.out.2.2.1 hbW).below hB2 (by omega)
  obtain ⟨W3, hW3⟩ : ∃ W3, W3 = W2.setCell ⟨W.heap.size, 4, none⟩ V1 := ⟨_, rfl⟩
  have hrow3 : Row W3 W.heap.size (rqC r V1) 25 := by rw [hW3]; exact hr0.set 4 V1
  have hR3 : Rest (fun k => k = W.heap.size) W2 W3 := by rw [hW3]; exact set_rest W2 W.heap.size 4 V1
  have hr13 := rest_row hR3 hr1 (by omega)
  have hrh3 := rest_row hR3 hrh (by omega)
  have hlV : ∀ k, V1.ownBlock = some k → W1.heap.size ≤ k := fun k hk => (World.ownsRow.lt hF1 k hk).1
  have hF3 : FO W.heap.size V1 r.fs W3 := (FO.weak (own_same hF1 fun j hj => hR3.rest j (World.ownsRow.lt hF1 j hj).2 (by have := hlV j hj; omega)) (by omega) : FO W.heap.size V1 r.fs W3)
  have hB3 : Below W.heap.size W W3 := (HS.out.2.2.1.trans (hB2.mono (by omega))).trans (hR3.below (fun k hk h => by omega) (by omega))
  have hc3 := HQ.out (fun k => k = W.heap.size ∨ k = W.heap.size + 1) W3 V1 hB3 (fun k hk => ⟨by omega, by have := hR3.size; omega, fun e => by have := hlV k e; omega⟩) hF3
  have HC3 : Hid (Calls Tryd.prog gh (#[rqV r V1] ++ lbh) W3 fun e W4 => ∃ code Vx fx body bx ox, e = .returned (rpV code Vx body) ∧ FA W4 Vx fx bx ox ∧ fx.length ≤ 1000 ∧
      W3.heap.size ≤ W4.heap.size ∧ W4.heap[W.heap.size + 1]? = W3.heap[W.heap.size + 1]? ∧
      ∀ W5 V5, Rest (fun k => k = W.heap.size ∨ k = W.heap.size + 1) W4 W5 → FO W4.heap.size V5 fx W5 → Q (.returned (rpV code V5 body)) W5) := Lib.hid (by
    refine hc3.mono ?_
    rintro e W4 ⟨code, Vx, fx, body, bx, ox, h1, h2, h3, h4, h5, h6, h7⟩
    refine ⟨code, Vx, fx, body, bx, ox, h1, h2, h3, h5, h6 _ (.inl (.inr rfl)), fun W5 V5 hR5 hF5 => h7 W5 V5 hR5 ?_⟩
    rw [show addsS r.fs [] = [] from rfl, List.append_nil]
    exact hF5)
  have d0 : W2.cell? ⟨W.heap.size, 0, none⟩ = some (S r.m) := cell_of_row W2 _ 0 _ _ (0, 0) hr0
  have d1 : W2.cell? ⟨W.heap.size, 1, none⟩ = some (S r.p) := cell_of_row W2 _ 1 _ _ (0, 0) hr0
  have d2 : W2.cell? ⟨W.heap.size, 2, none⟩ = some (S r.q) := cell_of_row W2 _ 2 _ _ (0, 0) hr0
  have d3 : W2.cell? ⟨W.heap.size, 3, none⟩ = some (.int .i64 r.v) := cell_of_row W2 _ 3 _ _ (0, 0) hr0
  have d4 : W2.cell? ⟨W.heap.size, 4, none⟩ = some V := cell_of_row W2 _ 4 _ _ (0, 0) hr0
  have d5 : W2.cell? ⟨W.heap.size, 5, none⟩ = some (S r.body) := cell_of_row W2 _ 5 _ _ (0, 0) hr0
  have d6 : W2.cell? ⟨W.heap.size, 6, none⟩ = some (.bool r.cl) := cell_of_row W2 _ 6 _ _ (0, 0) hr0
  have z4 := hr0.frozen 4
  have dh : W3.cell? ⟨bh, 0, none⟩ = some (hV gh lbh) := cell_of_row W3 bh 0 _ _ (0, 0) hrh3
  have H3 := Lib.hid (And.intro hr13 (And.intro hB3 hs2))
  have hv1 : ∃ a n c, V1 = Value.slice a n c := by obtain ⟨a, c, h⟩ := fo_form hF1; exact ⟨a, _, c, h⟩
  have hen' : ∀ args w, (callFunc gh args).run Tryd.prog w = .ok (.enter gh args) w := hen
  clear hc3 hr0 hr1 hrh hrow3 hR3 hr13 hrh3 hlV hF1 hF3 hB2 hB3 hs1 hs2 HQ hen
  unfold rqV rqC at HC3
  rw [hW3] at HC3 dh
  unfold hV at dh
  obtain ⟨a1, n1, c1, rfl⟩ : ∃ a n c, V1 = Value.slice a n c := hv1
  go_wp2_with fail
  refine HC3.out.mono ?_
  rintro e W4 ⟨code, Vx, fx, body, bx, ox, rfl, hA4, hl4, hs4, hk4, hfin⟩
  rw [← hW3] at hs4 hk4
  have hr1 := row_heap hk4 H3.out.1
  have hlt3 := H3.out.1.lt
  obtain ⟨ax, cx, rfl⟩ := hA4.form
  obtain ⟨nx, hnx⟩ : ∃ n, n = fx.length := ⟨_, rfl⟩
  rw [← hnx] at hA4
  have hA5 : FA (W4.alloc (.cells #[.int .i64 code, .slice ax nx cx, S body] 27)) (.slice ax nx cx) fx bx ox := hA4.below ((Below.refl _ _).alloc (Nat.le_refl _) _)
  have HC5 := Lib.hid (clone13_any _ fx bx ox _ hA5 hl4)
  rw [← hnx]
  have H5 := Lib.hid (And.intro hr1 hfin)
  have hs5 : W.heap.size + 1 < W4.heap.size := by omega
  have HS5 := Lib.hid (And.intro hs5 hl4)
  clear hA4 hA5 hnx hr1 hfin hl4 hs4 hk4 HC3 dh d0 d1 d2 d3 d4 d5 d6 z4 hlt3 hs5 hW3 H3 HS HW hW1 hr hb1 hbW hen'
  unfold rpV rpC
  go_wp2_with fail
  refine HC5.out.mono ?_
  rintro e W6 ⟨V3, rfl, hF6, hB6⟩
  clear HC5
  obtain ⟨W5, hW5⟩ : ∃ W, W = W4.alloc (.cells #[.int .i64 code, .slice ax nx cx, S body] 27) := ⟨_, rfl⟩
  have hs5 : W5.heap.size = W4.heap.size + 1 := by rw [hW5, alloc_size]
  have hB5 : Below W4.heap.size W4 W5 := by rw [hW5]; exact (Below.refl _ _).alloc (Nat.le_refl _) _
  have hr5 : Row W5 W4.heap.size #[.int .i64 code, .slice ax nx cx, S body] 27 := by rw [hW5]; exact row_new W4 _ _
  rw [← hW5] at hF6 hB6
  clear hW5
  have hr6 := hr5.below hB6 (by omega)
  have hr1 := (H5.out.1.below hB5 HS5.out.1).below hB6 (by have := HS5.out.1; omega)
  have hv3 : ∃ a n c, V3 = Value.slice a n c := by obtain ⟨a, c, h⟩ := fo_form hF6; exact ⟨a, _, c, h⟩
  have hlV : ∀ k, V3.ownBlock = some k → W5.heap.size ≤ k := fun k hk => (World.ownsRow.lt hF6 k hk).1
  have hR6 : Rest (fun k => k = W.heap.size ∨ k = W.heap.size + 1) W4 W6 := Rest.of_below (hB5.trans (hB6.mono hB5.size))
  have d0 : W6.cell? ⟨W4.heap.size, 0, none⟩ = some (.int .i64 code) := cell_of_row W6 _ 0 _ _ (0, 0) hr6
  have d1 : W6.cell? ⟨W4.heap.size, 1, none⟩ = some (.slice ax nx cx) := cell_of_row W6 _ 1 _ _ (0, 0) hr6
  have d2 : W6.cell? ⟨W4.heap.size, 2, none⟩ = some (S body) := cell_of_row W6 _ 2 _ _ (0, 0) hr6
  have z1 := hr6.frozen 1
  have e0 : W6.cell? ⟨W.heap.size + 1, 0, none⟩ = some (.int .i64 0) := cell_of_row W6 _ 0 _ _ (0, 0) hr1
  have e1 : W6.cell? ⟨W.heap.size + 1, 1, none⟩ = some (.slice none 0 0) := cell_of_row W6 _ 1 _ _ (0, 0) hr1
  have e2 : W6.cell? ⟨W.heap.size + 1, 2, none⟩ = some (.string ⟨#[]⟩) := cell_of_row W6 _ 2 _ _ (0, 0) hr1
  have y0 := hr1.frozen 0
  have y1 := hr1.frozen 1
  have y2 := hr1.frozen 2
  have hne : W4.heap.size ≠ W.heap.size + 1 := by have := HS5.out.1; omega
  have hne' : W.heap.size + 1 ≠ W4.heap.size := hne.symm
  have H6 := Lib.hid (And.intro hr1 (And.intro hR6 (And.intro hF6 (And.intro hs5 hlV))))
  have HS6 := Lib.hid hB6.size
  clear hr5 hB5 hB6 hr6 hr1 hR6 hs5 hlV hF6
  obtain ⟨a3, n3, c3, rfl⟩ := hv3
  go_wp2
  have hR7 := set_rest W6 W4.heap.size 1 (.slice a3 n3 c3)
  have h2 := rest_row hR7 H6.out.1 hne'
  refine bodyPost_ret (results_row_one rfl _ _ (W.heap.size + 1) 27 #[.int .i64 code, .slice a3 n3 c3, S body] (0, 0) _ rfl (put3k_row h2 _ _ _) Tryd.underlying27 rfl infoRp) rfl ?_
  have hR8 := ((hR7.trans (set_rest _ (W.heap.size + 1) 0 (.int .i64 code))).trans (set_rest _ (W.heap.size + 1) 1 (.slice a3 n3 c3))).trans (set_rest _ (W.heap.size + 1) 2 (S body))
  refine H5.out.2 _ _ ((H6.out.2.1.trans hR8).mono fun k hk h => ?_) (FO.weak (own_same H6.out.2.2.1 fun j hj => hR8.rest j (World.ownsRow.lt H6.out.2.2.1 j hj).2 (fun h => ?_)) (by have := H6.out.2.2.2.1; omega))
  · omega
  · have := H6.out.2.2.2.2 j hj
    have := H6.out.2.2.2.1
    have := HS5.out.1
    omega

theorem next_of {K1 K2 : Nat → Prop} {w1 w2 W Wc : World} {g gh : Nat} {lb lbh : Array Value} {l : List Stp} {s : Stp} {r : Rq} {V : Value} {b o : Nat} {q : Tx} {Q : Ending → World → Prop} (hsz : w1.heap.size ≤ w2.heap.size) (hb : ∀ k, K1 k → w2.heap[k]? = w1.heap[k]?) (h12 : ∀ k, K1 k → K2 k) (h2 : ∀ k, K2 k → k < w2.heap.size) (hd : DoesB K1 w1 g lb l gh lbh) (hl : l.length ≤ 100)
    (hs : w2.heap.size ≤ W.heap.size) (hk : ∀ k, K2 k → W.heap[k]? = w2.heap[k]?) (hA : FA W V r.fs b o) (hQ : GoneB K2 gh lbh W r r.p b (s :: l) Q) (hC : Below W.heap.size W Wc)
    (hr : SmallR { r with p := q }) (hS : stepS r.fs r.body s r.p = .inl q) : Calls Tryd.prog g (#[rqV { r with p := q } V] ++ lb) Wc (BackB K2 W Wc (addS r.fs s) Q) :=
  hd Wc (Nat.le_trans hsz (Nat.le_trans hs hC.size)) (fun k h1 => (hC.block k (Nat.lt_of_lt_of_le (h2 k (h12 k h1)) hs)).trans ((hk k (h12 k h1)).trans (hb k h1))) { r with p := q } V b o (hA.below hC) hr _ (back_of hS hQ hC h12 (fun k h => Nat.lt_of_lt_of_le (h2 k h) hs) hl)
/-- A step that only let the request by. -/
theorem BackB.pass {K : Nat → Prop} {W Wc W3 : World} {Q : Ending → World → Prop} {e : Ending} {b1 : Nat} (h : BackB K W Wc [] Q e W3) (hrow : Row Wc b1 #[.int .i64 0, .slice none 0 0, .string ⟨#[]⟩] 27) (hb1 : W.heap.size ≤ b1) :
    ∃ c a n cp body, e = .returned (rpV c (.slice a n cp) body) ∧ Row W3 b1 #[.int .i64 0, .slice none 0 0, .string ⟨#[]⟩] 27 ∧ Q (.returned (rpV c (.slice a n cp) body)) (put3k W3 b1 (.int .i64 c) (.slice a n cp) (S body)) := by
  obtain ⟨B, c, V3, fs, body, rfl, h1, h2, h3, h4, h5, h6⟩ := h
  obtain ⟨a, cp, rfl⟩ := fo_form h3
  have hlt := hrow.lt
  have hR := ((set_rest W3 b1 0 (.int .i64 c)).trans (set_rest _ b1 1 (.slice a fs.length cp))).trans (set_rest _ b1 2 (S body))
  refine ⟨c, a, fs.length, cp, body, rfl, row_heap (h5 b1 (.inr ⟨hb1, hlt⟩)) hrow, h6 _ _ (hR.mono fun k hk h => ?_) ?_⟩
  · right; omega
  · rw [List.append_nil]
    exact own_same h3 fun j hj => hR.rest j (World.ownsRow.lt h3 j hj).2 (fun h => by have := (World.ownsRow.lt h3 j hj).1; omega)
set_option maxRecDepth 100000 in
set_option maxHeartbeats 1000000 in
theorem limit_does {K1 K2 : Nat → Prop} {w1 w2 : World} {g gh : Nat} {lb lbh : Array Value} {l : List Stp} {s : Stp} {b1 b2 : Nat} (hsz : w1.heap.size ≤ w2.heap.size) (hb : ∀ k, K1 k → w2.heap[k]? = w1.heap[k]?) (h12 : ∀ k, K1 k → K2 k) (h2 : ∀ k, K2 k → k < w2.heap.size) (hen : Entering g) (hd : DoesB K1 w1 g lb l gh lbh) (hl : l.length ≤ 100) (hsk : s.kind = 3) (_hsn : s.name.length ≤ 100) (_hsv : s.val.length ≤ 100)
    (hg1 : K2 b1) (hr1 : Row w2 b1 #[.int .i64 s.n] 3) (hg2 : K2 b2) (hr2 : Row w2 b2 #[hV g lb] 40) :
    DoesB K2 w2 62 #[.pointer (some ⟨b1, 0, none⟩), .pointer (some ⟨b2, 0, none⟩)] (s :: l) gh lbh := by
  intro W hs hk r V b o hA hr Q hQ
  have hrW1 := row_heap (hk b1 hg1) hr1
  have hrW2 := row_heap (hk b2 hg2) hr2
  obtain ⟨W1, hW1⟩ : ∃ W1, W1 = (W.alloc (.cells (rqC r V) 25)).alloc (.cells #[.int .i64 0, .slice none 0 0, .string ⟨#[]⟩] 27) := ⟨_, rfl⟩
  have hs1 : W1.heap.size = W.heap.size + 2 := by rw [hW1]; simp
  have hB1 : Below W.heap.size W W1 := by rw [hW1]; exact ((Below.refl _ W).alloc (Nat.le_refl _) _).alloc (by rw [alloc_size]; omega) _
  have hr0 : Row W1 W.heap.size (rqC r V) 25 := by rw [hW1]; exact (row_new W _ _).alloc _
  have hrr : Row W1 (W.heap.size + 1) #[.int .i64 0, .slice none 0 0, .string ⟨#[]⟩] 27 := by
    have h := row_new (W.alloc (.cells (rqC r V) 25)) #[.int .i64 0, .slice none 0 0, .string ⟨#[]⟩] 27
    rw [alloc_size] at h
    rw [hW1]; exact h
  have hrV1 : Row W1 b1 #[.int .i64 s.n] 3 := hrW1.below hB1 hrW1.lt
  have k1 : W1.cell? ⟨b1, 0, none⟩ = some (.int .i64 s.n) := cell_of_row W1 b1 0 _ _ (0, 0) hrV1
  have hrV2 : Row W1 b2 #[hV g lb] 40 := hrW2.below hB1 hrW2.lt
  have k2 : W1.cell? ⟨b2, 0, none⟩ = some (hV g lb) := cell_of_row W1 b2 0 _ _ (0, 0) hrV2
  have hen' : ∀ args w, (callFunc g args).run Tryd.prog w = .ok (.enter g args) w := hen
  have hadd : addS r.fs s = [] := by unfold addS; rw [if_neg (by omega), if_neg (by omega)]
  have hlB := run_len_S (P := Tryd.prog) Tryd.underlying9 3 r.body
  have H1 := Lib.hid (And.intro hrr hB1)
  have hpo := @next_of K1 K2 w1 w2 W W1 g gh lb lbh l s r V b o r.p Q hsz hb h12 h2 hd hl hs hk hA hQ hB1 hr
  rw [hadd] at hpo
  have HG := Lib.hid (fun x (h : stepS r.fs r.body s r.p = .inr x) => gone_no h hQ)
  have HS : Hid (stepS r.fs r.body s r.p = if s.n < (r.body.length : Int) then .inr (413, [116, 111, 111, 32, 108, 111, 110, 103]) else .inl r.p) := Lib.hid (by unfold stepS; rw [if_neg (by omega), if_pos hsk])
  obtain ⟨N, hN⟩ : ∃ N, N = s.n := ⟨_, rfl⟩
  rw [← hN] at k1 HS
  obtain ⟨LB, hLB⟩ : ∃ L, L = r.body.length := ⟨_, rfl⟩
  rw [← hLB] at hlB HS
  have HP := Lib.hid hpo
  clear hpo hN hLB hadd hB1 hr0 hrr hrW1 hrW2 hrV1 hrV2 hk hA hQ hr1 hr2 hg1 hg2 hen hd hb hsz h12 h2 hl hr hsk
  unfold rqV rqC at HP ⊢
  unfold rqC at hW1
  unfold hV at k2
  rw [hW1] at k1 k2 HP
  by_cases hlt : N < (LB : Int)
  · have g1 : decide (N < (LB : Int)) = true := decide_eq_true hlt
    have g2 : decide ((LB : Int) > N) = true := decide_eq_true hlt
    have HE := Lib.hid (HG.out _ (by rw [HS.out, if_pos hlt]))
    clear HP HG HS hlt
    go_enter Tryd.func62, Tryd.ntmps62
    go_wp2_with fail
    rw [← hW1]
    refine (refused_any 413 [116, 111, 111, 32, 108, 111, 110, 103] W1).mono ?_
    rintro e Wz ⟨rfl, hBz⟩
    have hrz := H1.out.1.below hBz H1.out.1.lt
    have e0 : Wz.cell? ⟨W.heap.size + 1, 0, none⟩ = some (.int .i64 0) := cell_of_row Wz _ 0 _ _ (0, 0) hrz
    have e1 : Wz.cell? ⟨W.heap.size + 1, 1, none⟩ = some (.slice none 0 0) := cell_of_row Wz _ 1 _ _ (0, 0) hrz
    have e2 : Wz.cell? ⟨W.heap.size + 1, 2, none⟩ = some (.string ⟨#[]⟩) := cell_of_row Wz _ 2 _ _ (0, 0) hrz
    have y0 := hrz.frozen 0
    have y1 := hrz.frozen 1
    have y2 := hrz.frozen 2
    have HZ := Lib.hid (And.intro hrz (H1.out.2.trans (hBz.mono H1.out.2.size)))
    clear hBz hrz
    unfold rpV rpC
    go_wp2
    refine bodyPost_ret (results_row_one rfl _ _ (W.heap.size + 1) 27 #[.int .i64 413, .slice none 0 0, S [116, 111, 111, 32, 108, 111, 110, 103]] (0, 0) _ rfl (put3k_row HZ.out.1 _ _ _) Tryd.underlying27 rfl infoRp) rfl ?_
    exact HE.out _ (put3k_below HZ.out.2 (by omega) _ _ _)
  · have g1 : decide (N < (LB : Int)) = false := decide_eq_false hlt
    have g2 : decide ((LB : Int) > N) = false := decide_eq_false hlt
    have HE := Lib.hid (HP.out (by rw [HS.out, if_neg hlt]))
    clear HP HG HS hlt
    go_enter Tryd.func62, Tryd.ntmps62
    go_wp2_with fail
    refine HE.out.mono ?_
    rintro e Wz hBk
    rw [← hW1] at hBk
    obtain ⟨c, a, n, cp, body, rfl, hrz, hq⟩ := hBk.pass H1.out.1 (by omega)
    have e0 : Wz.cell? ⟨W.heap.size + 1, 0, none⟩ = some (.int .i64 0) := cell_of_row Wz _ 0 _ _ (0, 0) hrz
    have e1 : Wz.cell? ⟨W.heap.size + 1, 1, none⟩ = some (.slice none 0 0) := cell_of_row Wz _ 1 _ _ (0, 0) hrz
    have e2 : Wz.cell? ⟨W.heap.size + 1, 2, none⟩ = some (.string ⟨#[]⟩) := cell_of_row Wz _ 2 _ _ (0, 0) hrz
    have y0 := hrz.frozen 0
    have y1 := hrz.frozen 1
    have y2 := hrz.frozen 2
    have HZ := Lib.hid (And.intro hrz hq)
    clear hrz hq hBk
    unfold rpV rpC
    go_wp2
    refine bodyPost_ret (results_row_one rfl _ _ (W.heap.size + 1) 27 #[.int .i64 c, .slice a n cp, S body] (0, 0) _ rfl (put3k_row HZ.out.1 _ _ _) Tryd.underlying27 rfl infoRp) rfl ?_
    exact HZ.out.2
set_option maxRecDepth 100000 in
set_option maxHeartbeats 1000000 in
theorem need_does {K1 K2 : Nat → Prop} {w1 w2 : World} {g gh : Nat} {lb lbh : Array Value} {l : List Stp} {s : Stp} {b1 b2 b3 : Nat} (hsz : w1.heap.size ≤ w2.heap.size) (hb : ∀ k, K1 k → w2.heap[k]? = w1.heap[k]?) (h12 : ∀ k, K1 k → K2 k) (h2 : ∀ k, K2 k → k < w2.heap.size) (hen : Entering g) (hd : DoesB K1 w1 g lb l gh lbh) (hl : l.length ≤ 100) (hsk : s.kind = 2) (hsn : s.name.length ≤ 100) (_hsv : s.val.length ≤ 100)
    (hg1 : K2 b1) (hr1 : Row w2 b1 #[S s.name] 9) (hg2 : K2 b2) (hr2 : Row w2 b2 #[S s.val] 9) (hg3 : K2 b3) (hr3 : Row w2 b3 #[hV g lb] 40) :
    DoesB K2 w2 59 #[.pointer (some ⟨b1, 0, none⟩), .pointer (some ⟨b2, 0, none⟩), .pointer (some ⟨b3, 0, none⟩)] (s :: l) gh lbh := by
  intro W hs hk r V b o hA hr Q hQ
  have hrW1 := row_heap (hk b1 hg1) hr1
  have hrW2 := row_heap (hk b2 hg2) hr2
  have hrW3 := row_heap (hk b3 hg3) hr3
  obtain ⟨W1, hW1⟩ : ∃ W1, W1 = (W.alloc (.cells (rqC r V) 25)).alloc (.cells #[.int .i64 0, .slice none 0 0, .string ⟨#[]⟩] 27) := ⟨_, rfl⟩
  have hs1 : W1.heap.size = W.heap.size + 2 := by rw [hW1]; simp
  have hB1 : Below W.heap.size W W1 := by rw [hW1]; exact ((Below.refl _ W).alloc (Nat.le_refl _) _).alloc (by rw [alloc_size]; omega) _
  have hr0 : Row W1 W.heap.size (rqC r V) 25 := by rw [hW1]; exact (row_new W _ _).alloc _
  have hrr : Row W1 (W.heap.size + 1) #[.int .i64 0, .slice none 0 0, .string ⟨#[]⟩] 27 := by
    have h := row_new (W.alloc (.cells (rqC r V) 25)) #[.int .i64 0, .slice none 0 0, .string ⟨#[]⟩] 27
    rw [alloc_size] at h
    rw [hW1]; exact h
  have hrV1 : Row W1 b1 #[S s.name] 9 := hrW1.below hB1 hrW1.lt
  have k1 : W1.cell? ⟨b1, 0, none⟩ = some (S s.name) := cell_of_row W1 b1 0 _ _ (0, 0) hrV1
  have hrV2 : Row W1 b2 #[S s.val] 9 := hrW2.below hB1 hrW2.lt
  have k2 : W1.cell? ⟨b2, 0, none⟩ = some (S s.val) := cell_of_row W1 b2 0 _ _ (0, 0) hrV2
  have hrV3 : Row W1 b3 #[hV g lb] 40 := hrW3.below hB1 hrW3.lt
  have k3 : W1.cell? ⟨b3, 0, none⟩ = some (hV g lb) := cell_of_row W1 b3 0 _ _ (0, 0) hrV3
  have hen' : ∀ args w, (callFunc g args).run Tryd.prog w = .ok (.enter g args) w := hen
  have hadd : addS r.fs s = [] := by unfold addS; rw [if_neg (by omega), if_neg (by omega)]
  have HG := Lib.hid (fun x (h : stepS r.fs r.body s r.p = .inr x) => gone_no h hQ)
  have HS : Hid (stepS r.fs r.body s r.p = match firstF r.fs s.name with
    | none => .inr (403, [102, 111, 114, 98, 105, 100, 100, 101, 110])
    | some v => if s.val ≠ [] ∧ v ≠ s.val then .inr (403, [102, 111, 114, 98, 105, 100, 100, 101, 110]) else .inl r.p) := Lib.hid (by unfold stepS; rw [if_pos hsk]; cases firstF r.fs s.name <;> rfl)
  have HC := Lib.hid (get13L_any V r.fs b o s.name (by omega) (by have := hr.few; omega) (fun f hf => by have := (hr.each f hf).1; omega) W1 (hA.below hB1))
  have HN : Hid (∀ Wc, Below W1.heap.size W1 Wc → stepS r.fs r.body s r.p = .inl r.p → Calls Tryd.prog g (#[rqV r V] ++ lb) Wc (BackB K2 W Wc [] Q)) := Lib.hid fun Wc hC h => by
    have := @next_of K1 K2 w1 w2 W Wc g gh lb lbh l s r V b o r.p Q hsz hb h12 h2 hd hl hs hk hA hQ (hB1.trans (hC.mono hB1.size)) hr h
    rwa [hadd] at this
  have c4 : W1.cell? ⟨W.heap.size, 4, none⟩ = some V := cell_of_row W1 _ 4 _ _ (0, 0) hr0
  have H1 := Lib.hid (And.intro hr0 (And.intro hrr (And.intro hrV1 (And.intro hrV2 (And.intro hrV3 hB1)))))
  have HF := Lib.hid (cntL_first s.name r.fs)
  obtain ⟨nm, hnm⟩ : ∃ x, x = s.name := ⟨_, rfl⟩
  obtain ⟨vl, hvl⟩ : ∃ x, x = s.val := ⟨_, rfl⟩
  rw [← hnm] at k1 HS HC HF H1
  rw [← hvl] at k2 HS H1
  obtain ⟨CN, hCN⟩ : ∃ x, x = cntF nm r.fs := ⟨_, rfl⟩
  obtain ⟨FV, hFV⟩ : ∃ x, x = valF nm r.fs := ⟨_, rfl⟩
  rw [← hCN] at HC HF
  rw [← hFV] at HC HF
  clear hCN hFV hnm hvl hadd hB1 hr0 hrr hrW1 hrW2 hrW3 hrV1 hrV2 hrV3 hk hA hQ hr1 hr2 hr3 hg1 hg2 hg3 hen hd hb hsz h12 h2 hl hr hsk hsn k2 k3
  unfold rqV rqC at HN ⊢
  unfold rqC at hW1
  rw [hW1] at k1 HC c4
  go_enter Tryd.func59, Tryd.ntmps59
  go_wp2_with fail
  refine HC.out.mono ?_
  rintro e W2 ⟨rfl, hB2⟩
  rw [← hW1] at hB2
  clear HC k1 c4 hW1
  have hr0 := H1.out.1.below hB2 H1.out.1.lt
  have hrr := H1.out.2.1.below hB2 H1.out.2.1.lt
  have hrV2 := H1.out.2.2.2.1.below hB2 H1.out.2.2.2.1.lt
  have hrV3 := H1.out.2.2.2.2.1.below hB2 H1.out.2.2.2.2.1.lt
  have k2 : W2.cell? ⟨b2, 0, none⟩ = some (S vl) := cell_of_row W2 b2 0 _ _ (0, 0) hrV2
  have k3 : W2.cell? ⟨b3, 0, none⟩ = some (hV g lb) := cell_of_row W2 b3 0 _ _ (0, 0) hrV3
  unfold hV at k3
  have d0 : W2.cell? ⟨W.heap.size, 0, none⟩ = some (S r.m) := cell_of_row W2 _ 0 _ _ (0, 0) hr0
  have d1 : W2.cell? ⟨W.heap.size, 1, none⟩ = some (S r.p) := cell_of_row W2 _ 1 _ _ (0, 0) hr0
  have d2 : W2.cell? ⟨W.heap.size, 2, none⟩ = some (S r.q) := cell_of_row W2 _ 2 _ _ (0, 0) hr0
  have d3 : W2.cell? ⟨W.heap.size, 3, none⟩ = some (.int .i64 r.v) := cell_of_row W2 _ 3 _ _ (0, 0) hr0
  have d4 : W2.cell? ⟨W.heap.size, 4, none⟩ = some (V) := cell_of_row W2 _ 4 _ _ (0, 0) hr0
  have d5 : W2.cell? ⟨W.heap.size, 5, none⟩ = some (S r.body) := cell_of_row W2 _ 5 _ _ (0, 0) hr0
  have d6 : W2.cell? ⟨W.heap.size, 6, none⟩ = some (.bool r.cl) := cell_of_row W2 _ 6 _ _ (0, 0) hr0
  have H2 : Hid (Row W2 (W.heap.size + 1) #[.int .i64 0, .slice none 0 0, .string ⟨#[]⟩] 27 ∧ Below W.heap.size W W2) := Lib.hid ⟨hrr, H1.out.2.2.2.2.2.trans (hB2.mono H1.out.2.2.2.2.2.size)⟩
  have HNX := Lib.hid (HN.out W2 hB2)
  clear hB2 hr0 hrr hrV2 hrV3 H1 HN
  have hfst : (CN = 0 ∧ stepS r.fs r.body s r.p = .inr (403, [102, 111, 114, 98, 105, 100, 100, 101, 110])) ∨ (0 < CN ∧ stepS r.fs r.body s r.p = if vl ≠ [] ∧ FV ≠ vl then .inr (403, [102, 111, 114, 98, 105, 100, 100, 101, 110]) else .inl r.p) := by
    rw [HS.out]
    cases h : firstF r.fs nm with
    | none => exact .inl ⟨(HF.out.1 h).1, rfl⟩
    | some v => obtain ⟨h1, h2⟩ := HF.out.2 v h; exact .inr ⟨h1, by rw [h2]⟩
  clear HS HF
  have n1 : ∀ x y, eqGuard .neq 9 x y (S vl) (.string ⟨#[]⟩) = pure () := fun _ _ => rfl
  have n2 : ∀ x y, eqGuard .neq 9 x y (S FV) (S vl) = pure () := fun _ _ => rfl
  rcases hfst with ⟨h0, hst⟩ | ⟨h0, hst⟩
  · have hz : ((CN : Int) == 0) = true := by rw [beq_iff_eq]; omega
    have hz' : (CN == 0) = true := by rw [beq_iff_eq]; omega
    have hz2 : decide (CN = 0) = true := decide_eq_true h0
    have HE := Lib.hid (HG.out _ hst)
    clear hst HG HNX h0
    go_wp2_with fail
    refine (refused_any 403 [102, 111, 114, 98, 105, 100, 100, 101, 110] W2).mono ?_
    rintro e Wz ⟨rfl, hBz⟩
    have hrz := H2.out.1.below hBz H2.out.1.lt
    have e0 : Wz.cell? ⟨W.heap.size + 1, 0, none⟩ = some (.int .i64 0) := cell_of_row Wz _ 0 _ _ (0, 0) hrz
    have e1 : Wz.cell? ⟨W.heap.size + 1, 1, none⟩ = some (.slice none 0 0) := cell_of_row Wz _ 1 _ _ (0, 0) hrz
    have e2 : Wz.cell? ⟨W.heap.size + 1, 2, none⟩ = some (.string ⟨#[]⟩) := cell_of_row Wz _ 2 _ _ (0, 0) hrz
    have y0 := hrz.frozen 0
    have y1 := hrz.frozen 1
    have y2 := hrz.frozen 2
    have HZ := Lib.hid (And.intro hrz (H2.out.2.trans (hBz.mono H2.out.2.size)))
    clear hBz hrz
    unfold rpV rpC
    go_wp2
    refine bodyPost_ret (results_row_one rfl _ _ (W.heap.size + 1) 27 #[.int .i64 403, .slice none 0 0, S [102, 111, 114, 98, 105, 100, 100, 101, 110]] (0, 0) _ rfl (put3k_row HZ.out.1 _ _ _) Tryd.underlying27 rfl infoRp) rfl ?_
    exact HE.out _ (put3k_below HZ.out.2 (by omega) _ _ _)
  · have hz : ((CN : Int) == 0) = false := by rw [beq_eq_false_iff_ne]; omega
    have hz' : (CN == 0) = false := by rw [beq_eq_false_iff_ne]; omega
    have hz2 : decide (CN = 0) = false := decide_eq_false (by omega)
    by_cases h1 : vl = []
    · have q1 : binOp .neq 9 (S vl) (.string ⟨#[]⟩) = pure (.bool false) := by have := neql_S 9 vl []; rw [h1] at this ⊢; exact this
      have HE := Lib.hid (HNX.out (by rw [hst, if_neg (fun h => h.1 h1)]))
      clear hst HG HNX h0 h1
      go_wp2_with fail
      refine HE.out.mono ?_
      rintro e Wz hBk
      obtain ⟨c, a, n, cp, body, rfl, hrz, hq⟩ := hBk.pass H2.out.1 (by omega)
      have e0 : Wz.cell? ⟨W.heap.size + 1, 0, none⟩ = some (.int .i64 0) := cell_of_row Wz _ 0 _ _ (0, 0) hrz
      have e1 : Wz.cell? ⟨W.heap.size + 1, 1, none⟩ = some (.slice none 0 0) := cell_of_row Wz _ 1 _ _ (0, 0) hrz
      have e2 : Wz.cell? ⟨W.heap.size + 1, 2, none⟩ = some (.string ⟨#[]⟩) := cell_of_row Wz _ 2 _ _ (0, 0) hrz
      have y0 := hrz.frozen 0
      have y1 := hrz.frozen 1
      have y2 := hrz.frozen 2
      have HZ := Lib.hid (And.intro hrz hq)
      clear hrz hq hBk
      unfold rpV rpC
      go_wp2
      refine bodyPost_ret (results_row_one rfl _ _ (W.heap.size + 1) 27 #[.int .i64 c, .slice a n cp, S body] (0, 0) _ rfl (put3k_row HZ.out.1 _ _ _) Tryd.underlying27 rfl infoRp) rfl ?_
      exact HZ.out.2
    have q1 : binOp .neq 9 (S vl) (.string ⟨#[]⟩) = pure (.bool true) := by have := neql_S 9 vl []; rw [show (vl != []) = true by rw [bne_iff_ne]; exact h1] at this; exact this
    by_cases h2 : FV = vl
    · have q2 : binOp .neq 9 (S FV) (S vl) = pure (.bool false) := by rw [neql_S, h2]; simp
      have HE := Lib.hid (HNX.out (by rw [hst, if_neg (fun h => h.2 h2)]))
      clear hst HG HNX h0 h1 h2
      go_wp2_with fail
      refine HE.out.mono ?_
      rintro e Wz hBk
      obtain ⟨c, a, n, cp, body, rfl, hrz, hq⟩ := hBk.pass H2.out.1 (by omega)
      have e0 : Wz.cell? ⟨W.heap.size + 1, 0, none⟩ = some (.int .i64 0) := cell_of_row Wz _ 0 _ _ (0, 0) hrz
      have e1 : Wz.cell? ⟨W.heap.size + 1, 1, none⟩ = some (.slice none 0 0) := cell_of_row Wz _ 1 _ _ (0, 0) hrz
      have e2 : Wz.cell? ⟨W.heap.size + 1, 2, none⟩ = some (.string ⟨#[]⟩) := cell_of_row Wz _ 2 _ _ (0, 0) hrz
      have y0 := hrz.frozen 0
      have y1 := hrz.frozen 1
      have y2 := hrz.frozen 2
      have HZ := Lib.hid (And.intro hrz hq)
      clear hrz hq hBk
      unfold rpV rpC
      go_wp2
      refine bodyPost_ret (results_row_one rfl _ _ (W.heap.size + 1) 27 #[.int .i64 c, .slice a n cp, S body] (0, 0) _ rfl (put3k_row HZ.out.1 _ _ _) Tryd.underlying27 rfl infoRp) rfl ?_
      exact HZ.out.2
    have q2 : binOp .neq 9 (S FV) (S vl) = pure (.bool true) := by rw [neql_S, show (FV != vl) = true by rw [bne_iff_ne]; exact h2]
    have HE := Lib.hid (HG.out _ (by rw [hst, if_pos ⟨h1, h2⟩]))
    clear hst HG HNX h0 h1 h2
    go_wp2_with fail
    refine (refused_any 403 [102, 111, 114, 98, 105, 100, 100, 101, 110] W2).mono ?_
    rintro e Wz ⟨rfl, hBz⟩
    have hrz := H2.out.1.below hBz H2.out.1.lt
    have e0 : Wz.cell? ⟨W.heap.size + 1, 0, none⟩ = some (.int .i64 0) := cell_of_row Wz _ 0 _ _ (0, 0) hrz
    have e1 : Wz.cell? ⟨W.heap.size + 1, 1, none⟩ = some (.slice none 0 0) := cell_of_row Wz _ 1 _ _ (0, 0) hrz
    have e2 : Wz.cell? ⟨W.heap.size + 1, 2, none⟩ = some (.string ⟨#[]⟩) := cell_of_row Wz _ 2 _ _ (0, 0) hrz
    have y0 := hrz.frozen 0
    have y1 := hrz.frozen 1
    have y2 := hrz.frozen 2
    have HZ := Lib.hid (And.intro hrz (H2.out.2.trans (hBz.mono H2.out.2.size)))
    clear hBz hrz
    unfold rpV rpC
    go_wp2
    refine bodyPost_ret (results_row_one rfl _ _ (W.heap.size + 1) 27 #[.int .i64 403, .slice none 0 0, S [102, 111, 114, 98, 105, 100, 100, 101, 110]] (0, 0) _ rfl (put3k_row HZ.out.1 _ _ _) Tryd.underlying27 rfl infoRp) rfl ?_
    exact HE.out _ (put3k_below HZ.out.2 (by omega) _ _ _)
theorem take_step {fs : Fds} {body : Tx} {s : Stp} {p : Tx} (h4 : s.kind = 4) : stepS fs body s p = if Lib.hasPrefix p s.val = true ∧ Lib.hasPrefix (if Lib.trimPrefix p s.val = [] then [47] else Lib.trimPrefix p s.val) [47] = true then
    .inl (if Lib.trimPrefix p s.val = [] then [47] else Lib.trimPrefix p s.val) else .inr (404, [110, 111, 116, 32, 102, 111, 117, 110, 100]) := by
  have e : Lib.hasPrefix p s.val = true ↔ s.val.length ≤ p.length ∧ p.take s.val.length = s.val := by
    rw [← Lib.hasPrefix_of_take]; simp
  unfold stepS
  rw [if_neg (by omega), if_neg (by omega), if_pos h4]
  by_cases hp : p = s.val
  · rw [if_pos hp]
    have h1 : Lib.hasPrefix p s.val = true := e.2 ⟨by rw [hp]; exact Nat.le_refl _, by rw [hp, List.take_length]⟩
    have h2 : Lib.trimPrefix p s.val = [] := by unfold Lib.trimPrefix; rw [if_pos h1, hp, List.drop_length]
    rw [if_pos h2, if_pos ⟨h1, by decide⟩]
  · rw [if_neg hp]
    by_cases h1 : Lib.hasPrefix p s.val = true
    · have h2 : Lib.trimPrefix p s.val = p.drop s.val.length := by unfold Lib.trimPrefix; rw [if_pos h1]
      obtain ⟨h3, h5⟩ := e.1 h1
      have hlt : s.val.length < p.length := by
        rcases Nat.lt_or_ge s.val.length p.length with h | h
        · exact h
        · exact absurd (by rw [List.take_of_length_le h] at h5; exact h5) hp
      have hne : p.drop s.val.length ≠ [] := fun h => by
        have := congrArg List.length h
        rw [List.length_drop, List.length_nil] at this; omega
      rw [h2, if_neg hne]
      have h6 : Lib.hasPrefix (p.drop s.val.length) [47] = true ↔ p[s.val.length]? = some 47 := by
        cases hd : p.drop s.val.length with
        | nil => exact absurd hd hne
        | cons c t =>
          have : p[s.val.length]? = some c := by
            have := congrArg (fun l => l[0]?) hd
            simpa [List.getElem?_drop] using this
          rw [this]
          show ((47 : UInt8) == c && true) = true ↔ some c = some 47
          rw [Bool.and_true, beq_iff_eq]
          exact ⟨fun h => by rw [h], fun h => (Option.some.inj h).symm⟩
      by_cases h7 : p[s.val.length]? = some 47
      · rw [if_pos ⟨hlt, h5, h7⟩, if_pos ⟨h1, h6.2 h7⟩]
      · rw [if_neg (fun h => h7 h.2.2), if_neg (fun h => h7 (h6.1 h.2))]
    · rw [if_neg (fun h => h1 (e.2 ⟨Nat.le_of_lt h.1, h.2.1⟩)), if_neg (fun h => h1 h.1)]
theorem left_short (p v : Tx) (h : p.length ≤ 300) : (if Lib.trimPrefix p v = [] then [47] else Lib.trimPrefix p v).length ≤ 300 := by
  have := Lib.trimPrefix_le p v
  split
  · simp
  · omega
theorem cutp_any (s v : Tx) (w : World) : Calls Tryd.prog 64 #[S s, S v] w fun e w' => e = .returned (.tuple #[S (Lib.trimPrefix s v), .bool (Lib.hasPrefix s v)]) ∧ w' = w :=
  Any.strings_CutPrefix Tryd.lays103 ⟨s.toArray⟩ ⟨v.toArray⟩ w
theorem hasp_any (s : Tx) (w : World) : Calls Tryd.prog 40 #[S s, .string ⟨#[47]⟩] w fun e w' => e = .returned (.bool (Lib.hasPrefix s [47])) ∧ w' = w :=
  Any.strings_HasPrefix Tryd.lays99 ⟨s.toArray⟩ ⟨#[47]⟩ w
set_option maxRecDepth 100000 in
set_option maxHeartbeats 1000000 in
theorem take_does {K1 K2 : Nat → Prop} {w1 w2 : World} {g gh : Nat} {lb lbh : Array Value} {l : List Stp} {s : Stp} {b1 b2 : Nat} (hsz : w1.heap.size ≤ w2.heap.size) (hb : ∀ k, K1 k → w2.heap[k]? = w1.heap[k]?) (h12 : ∀ k, K1 k → K2 k) (h2 : ∀ k, K2 k → k < w2.heap.size) (hen : Entering g) (hd : DoesB K1 w1 g lb l gh lbh) (hl : l.length ≤ 100) (hsk : s.kind = 4) (_hsn : s.name.length ≤ 100) (_hsv : s.val.length ≤ 100)
    (hg1 : K2 b1) (hr1 : Row w2 b1 #[S s.val] 9) (hg2 : K2 b2) (hr2 : Row w2 b2 #[hV g lb] 40) :
    DoesB K2 w2 63 #[.pointer (some ⟨b1, 0, none⟩), .pointer (some ⟨b2, 0, none⟩)] (s :: l) gh lbh := by
  intro W hs hk r V b o hA hr Q hQ
  have hrW1 := row_heap (hk b1 hg1) hr1
  have hrW2 := row_heap (hk b2 hg2) hr2
  obtain ⟨W1, hW1⟩ : ∃ W1, W1 = (W.alloc (.cells (rqC r V) 25)).alloc (.cells #[.int .i64 0, .slice none 0 0, .string ⟨#[]⟩] 27) := ⟨_, rfl⟩
  have hs1 : W1.heap.size = W.heap.size + 2 := by rw [hW1]; simp
  have hB1 : Below W.heap.size W W1 := by rw [hW1]; exact ((Below.refl _ W).alloc (Nat.le_refl _) _).alloc (by rw [alloc_size]; omega) _
  have hr0 : Row W1 W.heap.size (rqC r V) 25 := by rw [hW1]; exact (row_new W _ _).alloc _
  have hrr : Row W1 (W.heap.size + 1) #[.int .i64 0, .slice none 0 0, .string ⟨#[]⟩] 27 := by
    have h := row_new (W.alloc (.cells (rqC r V) 25)) #[.int .i64 0, .slice none 0 0, .string ⟨#[]⟩] 27
    rw [alloc_size] at h
    rw [hW1]; exact h
  have hrV1 : Row W1 b1 #[S s.val] 9 := hrW1.below hB1 hrW1.lt
  have k1 : W1.cell? ⟨b1, 0, none⟩ = some (S s.val) := cell_of_row W1 b1 0 _ _ (0, 0) hrV1
  have hrV2 : Row W1 b2 #[hV g lb] 40 := hrW2.below hB1 hrW2.lt
  have k2 : W1.cell? ⟨b2, 0, none⟩ = some (hV g lb) := cell_of_row W1 b2 0 _ _ (0, 0) hrV2
  have hen' : ∀ args w, (callFunc g args).run Tryd.prog w = .ok (.enter g args) w := hen
  have hadd : addS r.fs s = [] := by unfold addS; rw [if_neg (by omega), if_neg (by omega)]
  have HG := Lib.hid (fun x (h : stepS r.fs r.body s r.p = .inr x) => gone_no h hQ)
  have hst := take_step (fs := r.fs) (body := r.body) (p := r.p) hsk
  have hsh := left_short r.p s.val hr.path
  obtain ⟨TR, hTR⟩ : ∃ x, x = Lib.trimPrefix r.p s.val := ⟨_, rfl⟩
  obtain ⟨HP, hHP⟩ : ∃ x, x = Lib.hasPrefix r.p s.val := ⟨_, rfl⟩
  have HC : Hid (Calls Tryd.prog 64 #[S r.p, S s.val] W1 fun e w' => e = .returned (.tuple #[S TR, .bool HP]) ∧ w' = W1) := Lib.hid (by rw [hTR, hHP]; exact cutp_any r.p s.val W1)
  rw [← hTR, ← hHP] at hst
  rw [← hTR] at hsh
  clear hTR hHP
  obtain ⟨q, hq⟩ : ∃ x, x = if TR = [] then [47] else TR := ⟨_, rfl⟩
  rw [← hq] at hst hsh
  have hr' : SmallR { r with p := q } := ⟨hr.few, hsh, hr.body, hr.each⟩
  have HN : Hid (∀ Wc, Below W.heap.size W Wc → stepS r.fs r.body s r.p = .inl q → Calls Tryd.prog g (#[rqV { r with p := q } V] ++ lb) Wc (BackB K2 W Wc [] Q)) := Lib.hid fun Wc hC h => by
    have := @next_of K1 K2 w1 w2 W Wc g gh lb lbh l s r V b o q Q hsz hb h12 h2 hd hl hs hk hA hQ hC hr' h
    rwa [hadd] at this
  have H1 := Lib.hid (And.intro hr0 (And.intro hrr hB1))
  have HST := Lib.hid hst
  have HQ := Lib.hid hq
  have HH := Lib.hid (hasp_any q W1)
  obtain ⟨W3, hW3⟩ : ∃ W3, W3 = (W.alloc (.cells (rqC { r with p := q } V) 25)).alloc (.cells #[.int .i64 0, .slice none 0 0, .string ⟨#[]⟩] 27) := ⟨_, rfl⟩
  have hB3 : Below W.heap.size W W3 := by rw [hW3]; exact ((Below.refl _ W).alloc (Nat.le_refl _) _).alloc (by rw [alloc_size]; omega) _
  have hrr3 : Row W3 (W.heap.size + 1) #[.int .i64 0, .slice none 0 0, .string ⟨#[]⟩] 27 := by
    have h := row_new (W.alloc (.cells (rqC { r with p := q } V) 25)) #[.int .i64 0, .slice none 0 0, .string ⟨#[]⟩] 27
    rw [alloc_size] at h
    rw [hW3]; exact h
  have hrV3 := hrW2.below hB3 hrW2.lt
  have H3 := Lib.hid (And.intro hrr3 hB3)
  have HNX := Lib.hid (HN.out W3 H3.out.2)
  have k3 : W3.cell? ⟨b2, 0, none⟩ = some (hV g lb) := cell_of_row W3 b2 0 _ _ (0, 0) hrV3
  clear hst hq hsh hr' hadd hB1 hr0 hrr hrW1 hrW2 hrV1 hrV2 hk hA hQ hr1 hr2 hg1 hg2 hen hd hb hsz h12 h2 hl hr hsk hrr3 hrV3 hB3 HN
  unfold rqV rqC at HNX ⊢
  unfold rqC at hW1 hW3
  unfold hV at k2 k3
  rw [hW3] at HNX k3
  rw [hW1] at k1 k2 HC HH
  dsimp only at HNX hW3 k3
  have w1e : ∀ x y, eqGuard .eql 9 x y (S TR) (.string ⟨#[]⟩) = pure () := fun _ _ => rfl
  cases HP with
  | false =>
    have HE := Lib.hid (HG.out _ (by rw [HST.out, if_neg (fun h => by simp at h)]))
    have q1 : binOp .eql 9 (S TR) (.string ⟨#[]⟩) = pure (.bool (TR == [])) := eql_S 9 TR []
    clear HNX HST HG HH
    by_cases ht : TR = []
    · have q2 : (TR == []) = true := by rw [ht]; rfl
      rw [q2] at q1
      clear ht q2
      go_enter Tryd.func63, Tryd.ntmps63
      go_wp2_with fail
      refine HC.out.mono ?_
      rintro e w' ⟨rfl, hw⟩
      rw [hw]
      clear hw w'
      go_wp2_with fail
      rw [← hW1]
      refine (refused_any 404 [110, 111, 116, 32, 102, 111, 117, 110, 100] W1).mono ?_
      rintro e Wz ⟨rfl, hBz⟩
      have hrz := H1.out.2.1.below hBz H1.out.2.1.lt
      have e0 : Wz.cell? ⟨W.heap.size + 1, 0, none⟩ = some (.int .i64 0) := cell_of_row Wz _ 0 _ _ (0, 0) hrz
      have e1 : Wz.cell? ⟨W.heap.size + 1, 1, none⟩ = some (.slice none 0 0) := cell_of_row Wz _ 1 _ _ (0, 0) hrz
      have e2 : Wz.cell? ⟨W.heap.size + 1, 2, none⟩ = some (.string ⟨#[]⟩) := cell_of_row Wz _ 2 _ _ (0, 0) hrz
      have y0 := hrz.frozen 0
      have y1 := hrz.frozen 1
      have y2 := hrz.frozen 2
      have HZ := Lib.hid (And.intro hrz (H1.out.2.2.trans (hBz.mono H1.out.2.2.size)))
      clear hBz hrz
      unfold rpV rpC
      go_wp2
      refine bodyPost_ret (results_row_one rfl _ _ (W.heap.size + 1) 27 #[.int .i64 404, .slice none 0 0, S [110, 111, 116, 32, 102, 111, 117, 110, 100]] (0, 0) _ rfl (put3k_row HZ.out.1 _ _ _) Tryd.underlying27 rfl infoRp) rfl ?_
      exact HE.out _ (put3k_below HZ.out.2 (by omega) _ _ _)
    · have q2 : (TR == []) = false := by rw [beq_eq_false_iff_ne]; exact ht
      rw [q2] at q1
      clear ht q2
      go_enter Tryd.func63, Tryd.ntmps63
      go_wp2_with fail
      refine HC.out.mono ?_
      rintro e w' ⟨rfl, hw⟩
      rw [hw]
      clear hw w'
      go_wp2_with fail
      rw [← hW1]
      refine (refused_any 404 [110, 111, 116, 32, 102, 111, 117, 110, 100] W1).mono ?_
      rintro e Wz ⟨rfl, hBz⟩
      have hrz := H1.out.2.1.below hBz H1.out.2.1.lt
      have e0 : Wz.cell? ⟨W.heap.size + 1, 0, none⟩ = some (.int .i64 0) := cell_of_row Wz _ 0 _ _ (0, 0) hrz
      have e1 : Wz.cell? ⟨W.heap.size + 1, 1, none⟩ = some (.slice none 0 0) := cell_of_row Wz _ 1 _ _ (0, 0) hrz
      have e2 : Wz.cell? ⟨W.heap.size + 1, 2, none⟩ = some (.string ⟨#[]⟩) := cell_of_row Wz _ 2 _ _ (0, 0) hrz
      have y0 := hrz.frozen 0
      have y1 := hrz.frozen 1
      have y2 := hrz.frozen 2
      have HZ := Lib.hid (And.intro hrz (H1.out.2.2.trans (hBz.mono H1.out.2.2.size)))
      clear hBz hrz
      unfold rpV rpC
      go_wp2
      refine bodyPost_ret (results_row_one rfl _ _ (W.heap.size + 1) 27 #[.int .i64 404, .slice none 0 0, S [110, 111, 116, 32, 102, 111, 117, 110, 100]] (0, 0) _ rfl (put3k_row HZ.out.1 _ _ _) Tryd.underlying27 rfl infoRp) rfl ?_
      exact HE.out _ (put3k_below HZ.out.2 (by omega) _ _ _)
  | true =>
    have q1 : binOp .eql 9 (S TR) (.string ⟨#[]⟩) = pure (.bool (TR == [])) := eql_S 9 TR []
    by_cases ht : TR = []
    · have q2 : (TR == []) = true := by rw [ht]; rfl
      rw [q2] at q1
      have hq : q = [47] := by rw [HQ.out, if_pos ht]
      subst hq
      have HST2 : Hid (stepS r.fs r.body s r.p = .inl [47]) := Lib.hid (by rw [HST.out, if_pos ⟨rfl, by decide⟩])
      clear HST HG
      have HE := Lib.hid (HNX.out HST2.out)
      have e47 : S [47] = .string ⟨#[47]⟩ := rfl
      rw [e47] at k3 HE hW3
      clear ht q2 HNX HQ HST2 e47
      go_enter Tryd.func63, Tryd.ntmps63
      go_wp2_with fail
      refine HC.out.mono ?_
      rintro e w' ⟨rfl, hw⟩
      rw [hw]
      clear hw w' HC
      go_wp2_with fail
      refine HH.out.mono ?_
      rintro e w' ⟨rfl, hw⟩
      rw [hw]
      clear hw w' HH
      have g47 : Lib.hasPrefix [47] [47] = true := by decide
      rw [g47]
      go_wp2_with fail
      refine HE.out.mono ?_
      rintro e Wz hBk
      rw [← hW3] at hBk
      obtain ⟨c, a, n, cp, body, rfl, hrz, hq⟩ := hBk.pass H3.out.1 (by omega)
      have e0 : Wz.cell? ⟨W.heap.size + 1, 0, none⟩ = some (.int .i64 0) := cell_of_row Wz _ 0 _ _ (0, 0) hrz
      have e1 : Wz.cell? ⟨W.heap.size + 1, 1, none⟩ = some (.slice none 0 0) := cell_of_row Wz _ 1 _ _ (0, 0) hrz
      have e2 : Wz.cell? ⟨W.heap.size + 1, 2, none⟩ = some (.string ⟨#[]⟩) := cell_of_row Wz _ 2 _ _ (0, 0) hrz
      have y0 := hrz.frozen 0
      have y1 := hrz.frozen 1
      have y2 := hrz.frozen 2
      have HZ := Lib.hid (And.intro hrz hq)
      clear hrz hq hBk
      unfold rpV rpC
      go_wp2
      refine bodyPost_ret (results_row_one rfl _ _ (W.heap.size + 1) 27 #[.int .i64 c, .slice a n cp, S body] (0, 0) _ rfl (put3k_row HZ.out.1 _ _ _) Tryd.underlying27 rfl infoRp) rfl ?_
      exact HZ.out.2
    · have q2 : (TR == []) = false := by rw [beq_eq_false_iff_ne]; exact ht
      rw [q2] at q1
      have hq : q = TR := by rw [HQ.out, if_neg ht]
      subst hq
      clear ht q2 HQ
      go_enter Tryd.func63, Tryd.ntmps63
      go_wp2_with fail
      refine HC.out.mono ?_
      rintro e w' ⟨rfl, hw⟩
      rw [hw]
      clear hw w' HC
      go_wp2_with fail
      refine HH.out.mono ?_
      rintro e w' ⟨rfl, hw⟩
      rw [hw]
      clear hw w' HH
      cases hp : Lib.hasPrefix q [47] with
      | true =>
        have HE := Lib.hid (HNX.out (by rw [HST.out, if_pos ⟨by trivial, hp⟩]))
        clear HNX HST HG hp
        go_wp2_with fail
        refine HE.out.mono ?_
        rintro e Wz hBk
        rw [← hW3] at hBk
        obtain ⟨c, a, n, cp, body, rfl, hrz, hq⟩ := hBk.pass H3.out.1 (by omega)
        have e0 : Wz.cell? ⟨W.heap.size + 1, 0, none⟩ = some (.int .i64 0) := cell_of_row Wz _ 0 _ _ (0, 0) hrz
        have e1 : Wz.cell? ⟨W.heap.size + 1, 1, none⟩ = some (.slice none 0 0) := cell_of_row Wz _ 1 _ _ (0, 0) hrz
        have e2 : Wz.cell? ⟨W.heap.size + 1, 2, none⟩ = some (.string ⟨#[]⟩) := cell_of_row Wz _ 2 _ _ (0, 0) hrz
        have y0 := hrz.frozen 0
        have y1 := hrz.frozen 1
        have y2 := hrz.frozen 2
        have HZ := Lib.hid (And.intro hrz hq)
        clear hrz hq hBk
        unfold rpV rpC
        go_wp2
        refine bodyPost_ret (results_row_one rfl _ _ (W.heap.size + 1) 27 #[.int .i64 c, .slice a n cp, S body] (0, 0) _ rfl (put3k_row HZ.out.1 _ _ _) Tryd.underlying27 rfl infoRp) rfl ?_
        exact HZ.out.2
      | false =>
        have HE := Lib.hid (HG.out _ (by rw [HST.out, if_neg (fun h => by rw [hp] at h; simp at h)]))
        clear HNX HST HG hp
        go_wp2_with fail
        rw [← hW1]
        refine (refused_any 404 [110, 111, 116, 32, 102, 111, 117, 110, 100] W1).mono ?_
        rintro e Wz ⟨rfl, hBz⟩
        have hrz := H1.out.2.1.below hBz H1.out.2.1.lt
        have e0 : Wz.cell? ⟨W.heap.size + 1, 0, none⟩ = some (.int .i64 0) := cell_of_row Wz _ 0 _ _ (0, 0) hrz
        have e1 : Wz.cell? ⟨W.heap.size + 1, 1, none⟩ = some (.slice none 0 0) := cell_of_row Wz _ 1 _ _ (0, 0) hrz
        have e2 : Wz.cell? ⟨W.heap.size + 1, 2, none⟩ = some (.string ⟨#[]⟩) := cell_of_row Wz _ 2 _ _ (0, 0) hrz
        have y0 := hrz.frozen 0
        have y1 := hrz.frozen 1
        have y2 := hrz.frozen 2
        have HZ := Lib.hid (And.intro hrz (H1.out.2.2.trans (hBz.mono H1.out.2.2.size)))
        clear hBz hrz
        unfold rpV rpC
        go_wp2
        refine bodyPost_ret (results_row_one rfl _ _ (W.heap.size + 1) 27 #[.int .i64 404, .slice none 0 0, S [110, 111, 116, 32, 102, 111, 117, 110, 100]] (0, 0) _ rfl (put3k_row HZ.out.1 _ _ _) Tryd.underlying27 rfl infoRp) rfl ?_
        exact HE.out _ (put3k_below HZ.out.2 (by omega) _ _ _)

/-- What a step that adds keeps while the next one is asked. -/
def KeptK (b0 : Nat) (r : Rq) (V : Value) (bn : Nat) (g : Nat) (lb : Array Value) (bf : Nat) (cf : Array Value) (tf : TypeId) (w : World) : Prop :=
  Row w b0 (rqC r V) 25 ∧ Row w bn #[hV g lb] 40 ∧ Row w bf cf tf
theorem KeptK.same {b0 : Nat} {r : Rq} {V : Value} {bn g : Nat} {lb : Array Value} {bf : Nat} {cf : Array Value} {tf : TypeId} {w w' : World} (h : KeptK b0 r V bn g lb bf cf tf w) (hb : ∀ k, k = b0 ∨ k = bn ∨ k = bf → w'.heap[k]? = w.heap[k]?) : KeptK b0 r V bn g lb bf cf tf w' :=
  ⟨row_heap (hb _ (.inl rfl)) h.1, row_heap (hb _ (.inr (.inl rfl))) h.2.1, row_heap (hb _ (.inr (.inr rfl))) h.2.2⟩
/-- The end of a step that adds: its answer stored. -/
theorem back_adds {W Wc W3 : World} {Q : Ending → World → Prop} {n u : Tx} {c : Int} {B : Nat} {fs : Fds} {body : Tx} {W4 : World} {V4 : Value} (h1 : Wc.heap.size ≤ B) (hs : W.heap.size + 2 ≤ Wc.heap.size) (h6 : ∀ W4 V4, Rest (fun k => B ≤ k ∨ (W.heap.size ≤ k ∧ k < Wc.heap.size)) W3 W4 → FO B V4 (fs ++ [(n, u)]) W4 → Q (.returned (rpV c V4 body)) W4)
    (hR : Rest (fun k => B ≤ k) W3 W4) (hF : FO B V4 (fs ++ [(n, u)]) W4) : Q (.returned (rpV c V4 body)) (put3k W4 (W.heap.size + 1) (.int .i64 c) V4 (S body)) := by
  have hR2 := ((set_rest W4 (W.heap.size + 1) 0 (.int .i64 c)).trans (set_rest _ (W.heap.size + 1) 1 V4)).trans (set_rest _ (W.heap.size + 1) 2 (S body))
  refine h6 _ _ ((hR.trans hR2).mono fun k _ h => ?_) (own_same hF fun j hj => hR2.rest j (World.ownsRow.lt hF j hj).2 (fun h => by have := (World.ownsRow.lt hF j hj).1; omega))
  rcases h with h | h
  · exact .inl h
  · right; omega
theorem rest_put3k (W : World) (b : Nat) (x y z : Value) : Rest (fun k => k = b) W (put3k W b x y z) :=
  (((set_rest W b 0 x).trans (set_rest _ b 1 y)).trans (set_rest _ b 2 z)).mono fun _ _ h => h.elim (fun h => h.elim id id) id
set_option maxRecDepth 100000 in
set_option maxHeartbeats 1000000 in
theorem add_does {K1 K2 : Nat → Prop} {w1 w2 : World} {g gh : Nat} {lb lbh : Array Value} {l : List Stp} {s : Stp} {b1 b2 : Nat} (hsz : w1.heap.size ≤ w2.heap.size) (hb : ∀ k, K1 k → w2.heap[k]? = w1.heap[k]?) (h12 : ∀ k, K1 k → K2 k) (h2 : ∀ k, K2 k → k < w2.heap.size) (hen : Entering g) (hd : DoesB K1 w1 g lb l gh lbh) (hl : l.length ≤ 100) (hsk : s.kind = 1) (_hsn : s.name.length ≤ 100) (_hsv : s.val.length ≤ 100)
    (hg1 : K2 b1) (hr1 : Row w2 b1 #[hV g lb] 40) (hg2 : K2 b2) (hr2 : Row w2 b2 #[S s.name, S s.val] 53) :
    DoesB K2 w2 67 #[.pointer (some ⟨b1, 0, none⟩), .pointer (some ⟨b2, 0, none⟩)] (s :: l) gh lbh := by
  intro W hs hk r V b o hA hr Q hQ
  have hrW1 := row_heap (hk b1 hg1) hr1
  have hrW2 := row_heap (hk b2 hg2) hr2
  obtain ⟨W1, hW1⟩ : ∃ W1, W1 = (W.alloc (.cells (rqC r V) 25)).alloc (.cells #[.int .i64 0, .slice none 0 0, .string ⟨#[]⟩] 27) := ⟨_, rfl⟩
  have hs1 : W1.heap.size = W.heap.size + 2 := by rw [hW1]; simp
  have hB1 : Below W.heap.size W W1 := by rw [hW1]; exact ((Below.refl _ W).alloc (Nat.le_refl _) _).alloc (by rw [alloc_size]; omega) _
  have hr0 : Row W1 W.heap.size (rqC r V) 25 := by rw [hW1]; exact (row_new W _ _).alloc _
  have hrr : Row W1 (W.heap.size + 1) #[.int .i64 0, .slice none 0 0, .string ⟨#[]⟩] 27 := by
    have h := row_new (W.alloc (.cells (rqC r V) 25)) #[.int .i64 0, .slice none 0 0, .string ⟨#[]⟩] 27
    rw [alloc_size] at h
    rw [hW1]; exact h
  have hrV1 : Row W1 b1 #[hV g lb] 40 := hrW1.below hB1 hrW1.lt
  have k1 : W1.cell? ⟨b1, 0, none⟩ = some (hV g lb) := cell_of_row W1 b1 0 _ _ (0, 0) hrV1
  have hrV2 : Row W1 b2 #[S s.name, S s.val] 53 := hrW2.below hB1 hrW2.lt
  have hen' : ∀ args w, (callFunc g args).run Tryd.prog w = .ok (.enter g args) w := hen
  have hadd : addS r.fs s = [(s.name, s.val)] := by unfold addS; rw [if_pos hsk]
  have hst : stepS r.fs r.body s r.p = .inl r.p := by unfold stepS; rw [if_neg (by omega), if_neg (by omega), if_neg (by omega)]
  obtain ⟨Wq, hWq⟩ : ∃ Wq, Wq = W1.drew := ⟨_, rfl⟩
  have hBq : Below W1.heap.size W1 Wq := by rw [hWq]; exact ⟨rfl, rfl, rfl, Nat.le_refl _, fun _ _ => rfl⟩
  have hpo := @next_of K1 K2 w1 w2 W Wq g gh lb lbh l s r V b o r.p Q hsz hb h12 h2 hd hl hs hk hA hQ (hB1.trans (hBq.mono hB1.size)) hr hst
  rw [hadd] at hpo
  have HP := Lib.hid hpo
  have hK1 : KeptK W.heap.size r V b1 g lb b2 #[S s.name, S s.val] 53 W1 := ⟨hr0, hrV1, hrV2⟩
  obtain ⟨nm, hnm⟩ : ∃ x, x = s.name := ⟨_, rfl⟩
  obtain ⟨vl, hvl⟩ : ∃ x, x = s.val := ⟨_, rfl⟩
  rw [← hnm, ← hvl] at hK1 HP
  have hKq := hK1.same (w' := Wq) fun k _ => by rw [hWq]; rfl
  have hkb : ∀ k, k = b1 ∨ k = b2 → K2 k ∧ k < w2.heap.size := fun k hk => by rcases hk with rfl | rfl; exact ⟨hg1, h2 _ hg1⟩; exact ⟨hg2, h2 _ hg2⟩
  have HKB := Lib.hid (And.intro hkb hs)
  have HSZ : Hid (W.heap.size + 2 ≤ Wq.heap.size) := Lib.hid (by have := hBq.size; omega)
  have HR1 := Lib.hid (row_heap (w' := Wq) (by rw [hWq]; rfl) hrr)
  have HAT : Hid (∀ w, KeptK W.heap.size r V b1 g lb b2 #[S nm, S vl] 53 w → ((w.cell? ⟨b1, 0, none⟩ = some (hV g lb)) ∧ (w.cell? ⟨W.heap.size, 0, none⟩ = some (S r.m) ∧ w.cell? ⟨W.heap.size, 1, none⟩ = some (S r.p) ∧ w.cell? ⟨W.heap.size, 2, none⟩ = some (S r.q) ∧ w.cell? ⟨W.heap.size, 3, none⟩ = some (.int .i64 r.v) ∧ w.cell? ⟨W.heap.size, 4, none⟩ = some V ∧ w.cell? ⟨W.heap.size, 5, none⟩ = some (S r.body) ∧ w.cell? ⟨W.heap.size, 6, none⟩ = some (.bool r.cl)) ∧ (w.cell? ⟨b2, 0, none⟩ = some (S nm) ∧ w.cell? ⟨b2, 1, none⟩ = some (S vl)))) := Lib.hid fun w h => 
    ⟨cell_of_row w b1 0 _ _ (0, 0) h.2.1, ⟨cell_of_row w _ 0 _ _ (0, 0) h.1, cell_of_row w _ 1 _ _ (0, 0) h.1, cell_of_row w _ 2 _ _ (0, 0) h.1, cell_of_row w _ 3 _ _ (0, 0) h.1, cell_of_row w _ 4 _ _ (0, 0) h.1, cell_of_row w _ 5 _ _ (0, 0) h.1, cell_of_row w _ 6 _ _ (0, 0) h.1⟩, cell_of_row w b2 0 _ _ (0, 0) h.2.2, cell_of_row w b2 1 _ _ (0, 0) h.2.2⟩
  have HKQ := Lib.hid hKq
  have HK1 := Lib.hid hK1
  clear hadd hst hpo hKq hnm hvl hkb hK1 hB1 hr0 hrr hrW1 hrW2 hrV1 hrV2 hk hA hQ hr1 hr2 hg1 hg2 hen hd hb hsz h12 h2 hl hr hsk hBq hs1 k1 hs
  unfold rqV rqC at HP ⊢
  unfold rqC at hW1
  unfold hV at HAT
  go_enter Tryd.func67, Tryd.ntmps67
  go_wp2
  rw [← hW1]
  refine wp_region_noPanic ?_
  refine wp_region_held_drew (S := fun w => ((w.cell? ⟨b1, 0, none⟩ = some (.func (.func g) #[] lb)) ∧ (w.cell? ⟨W.heap.size, 0, none⟩ = some (S r.m) ∧ w.cell? ⟨W.heap.size, 1, none⟩ = some (S r.p) ∧ w.cell? ⟨W.heap.size, 2, none⟩ = some (S r.q) ∧ w.cell? ⟨W.heap.size, 3, none⟩ = some (.int .i64 r.v) ∧ w.cell? ⟨W.heap.size, 4, none⟩ = some V ∧ w.cell? ⟨W.heap.size, 5, none⟩ = some (S r.body) ∧ w.cell? ⟨W.heap.size, 6, none⟩ = some (.bool r.cl)) ∧ (w.cell? ⟨b2, 0, none⟩ = some (S nm) ∧ w.cell? ⟨b2, 1, none⟩ = some (S vl)))) (by kernel_rfl) (HAT.out W1 HK1.out) (fun _ => ?_)
  rw [← hWq]
  have HSQ := Lib.hid (HAT.out Wq HKQ.out)
  refine take_at (i := 0) (d := some 5) (v := .func (.func g) #[] lb) rfl (by kernel_rfl) (by kernel_rfl) (by kernel_rfl) (fun _ _ _ h => h) (fun oi ho => ?_) HSQ.out ?_
  · obtain rfl := Option.some.inj ho
    exact Or.inl ⟨by rfl, fun wx hSw => by obtain ⟨hu1, ⟨hv0, hv1, hv2, hv3, hv4, hv5, hv6⟩, hf0, hf1⟩ := hSw; go_simp⟩
  simp only [Act.put, List.setIfInBounds_toArray, List.set_cons_zero, List.set_cons_succ]
  refine take_at (i := 1) (d := some 6) (v := .agg #[S r.m, S r.p, S r.q, .int .i64 r.v, V, S r.body, .bool r.cl]) rfl (by kernel_rfl) (by kernel_rfl) (by kernel_rfl) (fun _ _ _ h => h) (fun oi ho => ?_) HSQ.out ?_
  · obtain rfl := Option.some.inj ho
    exact Or.inl ⟨by rfl, fun wx hSw => by obtain ⟨hu1, ⟨hv0, hv1, hv2, hv3, hv4, hv5, hv6⟩, hf0, hf1⟩ := hSw; go_simp⟩
  simp only [Act.put, List.setIfInBounds_toArray, List.set_cons_zero, List.set_cons_succ]
  refine take_at (i := 3) (d := some 8) (v := .agg #[S nm, S vl]) rfl (by kernel_rfl) (by kernel_rfl) (by kernel_rfl) (fun _ _ _ h => h) (fun oi ho => ?_) HSQ.out ?_
  · obtain rfl := Option.some.inj ho
    exact Or.inl ⟨by rfl, fun wx hSw => by obtain ⟨hu1, ⟨hv0, hv1, hv2, hv3, hv4, hv5, hv6⟩, hf0, hf1⟩ := hSw; go_simp⟩
  simp only [Act.put, List.setIfInBounds_toArray, List.set_cons_zero, List.set_cons_succ]
  refine ready_call (i := 2) (d := some 7) (f := g) (args := (#[.agg #[S r.m, S r.p, S r.q, .int .i64 r.v, V, S r.body, .bool r.cl]] ++ lb)) rfl (by kernel_rfl) (fun oi ho => ?_) ?_
  · obtain rfl := Option.some.inj ho
    exact ⟨by rfl, by go_simp⟩
  refine HP.out.mono ?_
  rintro e Wx ⟨B, c, V3, fs, body, rfl, h1, h2, h3, h4, h5, h6⟩
  have hKx : KeptK W.heap.size r V b1 g lb b2 #[S nm, S vl] 53 Wx := HKQ.out.same fun k hk => h5 k (by rcases hk with rfl | hk; exact .inr ⟨Nat.le_refl _, by have := HSZ.out; omega⟩; exact .inl (HKB.out.1 k hk).1)
  have hrx := row_heap (h5 (W.heap.size + 1) (.inr ⟨by omega, by have := HSZ.out; omega⟩)) HR1.out
  have HSX := Lib.hid (HAT.out Wx hKx)
  refine ⟨_, rfl, HSX.out, ?_⟩
  simp only [Act.put, List.setIfInBounds_toArray, List.set_cons_zero, List.set_cons_succ]
  refine ready_call (i := 4) (d := some 9) (f := 66) (args := #[rpV c V3 body, .agg #[S nm, S vl]]) rfl (by kernel_rfl) (fun oi ho => ?_) ?_
  · obtain rfl := Option.some.inj ho
    exact ⟨by rfl, by go_simp⟩
  refine (with_any c V3 body nm vl B fs Wx h3 h2 (by omega)).mono ?_
  rintro e W4 ⟨V4, rfl, hF4, hR4⟩
  have hK4 : KeptK W.heap.size r V b1 g lb b2 #[S nm, S vl] 53 W4 := hKx.same fun k hk => hR4.rest k (by have := HSZ.out; have := HKB.out; rcases hk with rfl | hk; omega; have := this.1 k hk; omega) (by have := HSZ.out; have := HKB.out; rcases hk with rfl | hk; omega; have := this.1 k hk; omega)
  have hr4 := row_heap (hR4.rest (W.heap.size + 1) (by have := HSZ.out; omega) (by have := HSZ.out; omega)) hrx
  have hq := back_adds h1 HSZ.out h6 hR4 hF4
  obtain ⟨a4, c4, hv4⟩ := fo_form hF4
  subst hv4
  obtain ⟨n4, hn4⟩ : ∃ x, x = (fs ++ [(nm, vl)]).length := ⟨_, rfl⟩
  rw [← hn4] at hq ⊢
  have hK5 : KeptK W.heap.size r V b1 g lb b2 #[S nm, S vl] 53 (put3k W4 (W.heap.size + 1) (.int .i64 c) (.slice a4 n4 c4) (S body)) := hK4.same fun k hk => (rest_put3k W4 (W.heap.size + 1) _ _ _).rest k (by have := HSZ.out; have := HKB.out; have := hR4.size; rcases hk with rfl | hk; omega; have := this; have := HKB.out.1 k hk; omega) (by have := HSZ.out; have := HKB.out; rcases hk with rfl | hk; omega; have := this.1 k hk; omega)
  have HS4 := Lib.hid (HAT.out W4 hK4)
  have HS5 := Lib.hid (HAT.out _ hK5)
  have e0 : W4.cell? ⟨W.heap.size + 1, 0, none⟩ = some (.int .i64 0) := cell_of_row W4 _ 0 _ _ (0, 0) hr4
  have e1 : W4.cell? ⟨W.heap.size + 1, 1, none⟩ = some (.slice none 0 0) := cell_of_row W4 _ 1 _ _ (0, 0) hr4
  have e2 : W4.cell? ⟨W.heap.size + 1, 2, none⟩ = some (.string ⟨#[]⟩) := cell_of_row W4 _ 2 _ _ (0, 0) hr4
  have y0 := hr4.frozen 0
  have y1 := hr4.frozen 1
  have y2 := hr4.frozen 2
  have H5 := Lib.hid (And.intro hr4 hq)
  clear h1 h2 h3 h4 h5 h6 hKx hrx hF4 hR4 hK4 hK5 hr4 hq hn4
  refine ⟨_, rfl, HS4.out, ?_⟩
  simp only [Act.put, List.setIfInBounds_toArray, List.set_cons_zero, List.set_cons_succ]
  unfold rpV rpC
  refine ready_skip (i := 5) (d := none) (w' := put3k W4 (W.heap.size + 1) (.int .i64 c) (.slice a4 n4 c4) (S body)) rfl (by kernel_rfl) (fun oi ho => ?_) HS5.out ?_
  · obtain rfl := Option.some.inj ho
    exact ⟨by rfl, by unfold put3k; go_simp⟩
  refine wpAnyH_done (by kernel_rfl) ?_ _
  refine NoPanic.normal ?_
  simp only [Act.put]
  go_wp2
  refine bodyPost_ret (results_row_one rfl _ _ (W.heap.size + 1) 27 #[.int .i64 c, .slice a4 n4 c4, S body] (0, 0) _ rfl (put3k_row H5.out.1 _ _ _) Tryd.underlying27 rfl infoRp) rfl ?_
  exact H5.out.2
set_option maxRecDepth 100000 in
set_option maxHeartbeats 1000000 in
theorem who_does {K1 K2 : Nat → Prop} {w1 w2 : World} {g gh : Nat} {lb lbh : Array Value} {l : List Stp} {s : Stp} {b1 b2 b3 : Nat} (hsz : w1.heap.size ≤ w2.heap.size) (hb : ∀ k, K1 k → w2.heap[k]? = w1.heap[k]?) (h12 : ∀ k, K1 k → K2 k) (h2 : ∀ k, K2 k → k < w2.heap.size) (hen : Entering g) (hd : DoesB K1 w1 g lb l gh lbh) (hl : l.length ≤ 100) (hsk : s.kind = 5) (hsn : s.name.length ≤ 100) (_hsv : s.val.length ≤ 100)
    (hg1 : K2 b1) (hr1 : Row w2 b1 #[S s.name] 9) (hg2 : K2 b2) (hr2 : Row w2 b2 #[hV g lb] 40) (hg3 : K2 b3) (hr3 : Row w2 b3 #[S s.val] 9) :
    DoesB K2 w2 65 #[.pointer (some ⟨b1, 0, none⟩), .pointer (some ⟨b2, 0, none⟩), .pointer (some ⟨b3, 0, none⟩)] (s :: l) gh lbh := by
  intro W hs hk r V b o hA hr Q hQ
  have hrW1 := row_heap (hk b1 hg1) hr1
  have hrW2 := row_heap (hk b2 hg2) hr2
  have hrW3 := row_heap (hk b3 hg3) hr3
  obtain ⟨W1, hW1⟩ : ∃ W1, W1 = (W.alloc (.cells (rqC r V) 25)).alloc (.cells #[.int .i64 0, .slice none 0 0, .string ⟨#[]⟩] 27) := ⟨_, rfl⟩
  have hs1 : W1.heap.size = W.heap.size + 2 := by rw [hW1]; simp
  have hB1 : Below W.heap.size W W1 := by rw [hW1]; exact ((Below.refl _ W).alloc (Nat.le_refl _) _).alloc (by rw [alloc_size]; omega) _
  have hr0 : Row W1 W.heap.size (rqC r V) 25 := by rw [hW1]; exact (row_new W _ _).alloc _
  have hrr : Row W1 (W.heap.size + 1) #[.int .i64 0, .slice none 0 0, .string ⟨#[]⟩] 27 := by
    have h := row_new (W.alloc (.cells (rqC r V) 25)) #[.int .i64 0, .slice none 0 0, .string ⟨#[]⟩] 27
    rw [alloc_size] at h
    rw [hW1]; exact h
  have hrV1 : Row W1 b1 #[S s.name] 9 := hrW1.below hB1 hrW1.lt
  have k1 : W1.cell? ⟨b1, 0, none⟩ = some (S s.name) := cell_of_row W1 b1 0 _ _ (0, 0) hrV1
  have hrV2 : Row W1 b2 #[hV g lb] 40 := hrW2.below hB1 hrW2.lt
  have k2 : W1.cell? ⟨b2, 0, none⟩ = some (hV g lb) := cell_of_row W1 b2 0 _ _ (0, 0) hrV2
  have hrV3 : Row W1 b3 #[S s.val] 9 := hrW3.below hB1 hrW3.lt
  have k3 : W1.cell? ⟨b3, 0, none⟩ = some (S s.val) := cell_of_row W1 b3 0 _ _ (0, 0) hrV3
  have hen' : ∀ args w, (callFunc g args).run Tryd.prog w = .ok (.enter g args) w := hen
  have hadd : addS r.fs s = [(s.val, (firstF r.fs s.name).getD [45])] := by unfold addS; rw [if_neg (by omega), if_pos hsk]
  have hst : stepS r.fs r.body s r.p = .inl r.p := by unfold stepS; rw [if_neg (by omega), if_neg (by omega), if_neg (by omega)]
  have HC := Lib.hid (get13L_any V r.fs b o s.name (by omega) (by have := hr.few; omega) (fun f hf => by have := (hr.each f hf).1; omega) W1 (hA.below hB1))
  have HN : Hid (∀ Wc, Below W1.heap.size W1 Wc → Calls Tryd.prog g (#[rqV r V] ++ lb) Wc (BackB K2 W Wc [(s.val, (firstF r.fs s.name).getD [45])] Q)) := Lib.hid fun Wc hC => by
    have := @next_of K1 K2 w1 w2 W Wc g gh lb lbh l s r V b o r.p Q hsz hb h12 h2 hd hl hs hk hA hQ (hB1.trans (hC.mono hB1.size)) hr hst
    rwa [hadd] at this
  have c4 : W1.cell? ⟨W.heap.size, 4, none⟩ = some V := cell_of_row W1 _ 4 _ _ (0, 0) hr0
  have hK0 : KeptK W.heap.size r V b2 g lb b3 #[S s.val] 9 W1 := ⟨hr0, hrV2, hrV3⟩
  have H1 := Lib.hid (And.intro hK0 (And.intro hrr hB1))
  have HF := Lib.hid (cntL_first s.name r.fs)
  have hkb : ∀ k, k = b2 ∨ k = b3 → K2 k ∧ k < w2.heap.size := fun k hk => by rcases hk with rfl | rfl; exact ⟨hg2, h2 _ hg2⟩; exact ⟨hg3, h2 _ hg3⟩
  have HKB := Lib.hid (And.intro hkb hs)
  have HS1 := Lib.hid hs1
  obtain ⟨nm, hnm⟩ : ∃ x, x = s.name := ⟨_, rfl⟩
  obtain ⟨vl, hvl⟩ : ∃ x, x = s.val := ⟨_, rfl⟩
  rw [← hnm] at k1 HC HF HN
  rw [← hvl] at H1 HN
  have HAT : Hid (∀ w, KeptK W.heap.size r V b2 g lb b3 #[S vl] 9 w → ((w.cell? ⟨b2, 0, none⟩ = some (hV g lb)) ∧ (w.cell? ⟨W.heap.size, 0, none⟩ = some (S r.m) ∧ w.cell? ⟨W.heap.size, 1, none⟩ = some (S r.p) ∧ w.cell? ⟨W.heap.size, 2, none⟩ = some (S r.q) ∧ w.cell? ⟨W.heap.size, 3, none⟩ = some (.int .i64 r.v) ∧ w.cell? ⟨W.heap.size, 4, none⟩ = some V ∧ w.cell? ⟨W.heap.size, 5, none⟩ = some (S r.body) ∧ w.cell? ⟨W.heap.size, 6, none⟩ = some (.bool r.cl)) ∧ (w.cell? ⟨b3, 0, none⟩ = some (S vl)))) := Lib.hid fun w h => 
    ⟨cell_of_row w b2 0 _ _ (0, 0) h.2.1, ⟨cell_of_row w _ 0 _ _ (0, 0) h.1, cell_of_row w _ 1 _ _ (0, 0) h.1, cell_of_row w _ 2 _ _ (0, 0) h.1, cell_of_row w _ 3 _ _ (0, 0) h.1, cell_of_row w _ 4 _ _ (0, 0) h.1, cell_of_row w _ 5 _ _ (0, 0) h.1, cell_of_row w _ 6 _ _ (0, 0) h.1⟩, cell_of_row w b3 0 _ _ (0, 0) h.2.2⟩
  obtain ⟨CN, hCN⟩ : ∃ x, x = cntF nm r.fs := ⟨_, rfl⟩
  obtain ⟨FV, hFV⟩ : ∃ x, x = valF nm r.fs := ⟨_, rfl⟩
  obtain ⟨U, hU⟩ : ∃ x, x = (firstF r.fs nm).getD [45] := ⟨_, rfl⟩
  rw [← hCN, ← hFV] at HC HF
  rw [← hU] at HN
  have hfst : (CN = 0 ∧ U = [45]) ∨ (0 < CN ∧ U = FV) := by
    rw [hU]
    cases h : firstF r.fs nm with
    | none => exact .inl ⟨(HF.out.1 h).1, rfl⟩
    | some v => obtain ⟨h1, h2⟩ := HF.out.2 v h; exact .inr ⟨h1, by rw [h2]; rfl⟩
  clear HF hU hCN hFV hadd hst hnm hvl hkb hK0 hB1 hr0 hrr hrW1 hrW2 hrW3 hrV1 hrV2 hrV3 hk hA hQ hr1 hr2 hr3 hg1 hg2 hg3 hen hd hb hsz h12 h2 hl hr hsk hsn hs1 k2 k3 hs
  unfold rqV rqC at HN ⊢
  unfold rqC at hW1
  unfold hV at HAT
  rw [hW1] at k1 HC c4
  go_enter Tryd.func65, Tryd.ntmps65
  go_wp2_with fail
  refine HC.out.mono ?_
  rintro e W2 ⟨rfl, hB2⟩
  rw [← hW1] at hB2
  clear HC k1 c4 hW1
  have HK2 : Hid (KeptK W.heap.size r V b2 g lb b3 #[S vl] 9 W2) := Lib.hid (H1.out.1.same fun k hk => hB2.block k (by have := HS1.out; have := HKB.out; rcases hk with rfl | hk; omega; have := this.1 k hk; omega))
  have hrr := H1.out.2.1.below hB2 H1.out.2.1.lt
  obtain ⟨Wq, hWq⟩ : ∃ Wq, Wq = W2.drew := ⟨_, rfl⟩
  have HKQ : Hid (KeptK W.heap.size r V b2 g lb b3 #[S vl] 9 Wq) := Lib.hid (HK2.out.same fun k _ => by rw [hWq]; rfl)
  have HR1 := Lib.hid (row_heap (w' := Wq) (by rw [hWq]; rfl) hrr)
  have HSZ : Hid (W.heap.size + 2 ≤ Wq.heap.size) := Lib.hid (by rw [hWq]; show _ ≤ W2.heap.size; have := hB2.size; have := HS1.out; omega)
  have HP := Lib.hid (HN.out Wq (by rw [hWq]; exact hB2.trans (Below.mono ⟨rfl, rfl, rfl, Nat.le_refl _, fun _ _ => rfl⟩ hB2.size)))
  clear hB2 hrr H1 HN HS1
  rcases hfst with ⟨h0, hU⟩ | ⟨h0, hU⟩
  · have hz : ((CN : Int) == 0) = true := by rw [beq_iff_eq]; omega
    have hz' : (CN == 0) = true := by rw [beq_iff_eq]; omega
    have hz2 : decide (CN = 0) = true := decide_eq_true h0
    subst hU
    clear h0
    go_wp2
    refine wp_region_noPanic ?_
    refine wp_region_held_drew (S := fun w => ((w.cell? ⟨b2, 0, none⟩ = some (.func (.func g) #[] lb)) ∧ (w.cell? ⟨W.heap.size, 0, none⟩ = some (S r.m) ∧ w.cell? ⟨W.heap.size, 1, none⟩ = some (S r.p) ∧ w.cell? ⟨W.heap.size, 2, none⟩ = some (S r.q) ∧ w.cell? ⟨W.heap.size, 3, none⟩ = some (.int .i64 r.v) ∧ w.cell? ⟨W.heap.size, 4, none⟩ = some V ∧ w.cell? ⟨W.heap.size, 5, none⟩ = some (S r.body) ∧ w.cell? ⟨W.heap.size, 6, none⟩ = some (.bool r.cl)) ∧ (w.cell? ⟨b3, 0, none⟩ = some (S vl)))) (by kernel_rfl) (HAT.out W2 HK2.out) (fun _ => ?_)
    rw [← hWq]
    have HSQ := Lib.hid (HAT.out Wq HKQ.out)
    refine take_at (i := 0) (d := some 17) (v := .func (.func g) #[] lb) rfl (by kernel_rfl) (by kernel_rfl) (by kernel_rfl) (fun _ _ _ h => h) (fun oi ho => ?_) HSQ.out ?_
    · obtain rfl := Option.some.inj ho
      exact Or.inl ⟨by rfl, fun wx hSw => by obtain ⟨hu1, ⟨hv0, hv1, hv2, hv3, hv4, hv5, hv6⟩, hf0⟩ := hSw; go_simp⟩
    simp only [Act.put, List.setIfInBounds_toArray, List.set_cons_zero, List.set_cons_succ]
    refine take_at (i := 1) (d := some 18) (v := .agg #[S r.m, S r.p, S r.q, .int .i64 r.v, V, S r.body, .bool r.cl]) rfl (by kernel_rfl) (by kernel_rfl) (by kernel_rfl) (fun _ _ _ h => h) (fun oi ho => ?_) HSQ.out ?_
    · obtain rfl := Option.some.inj ho
      exact Or.inl ⟨by rfl, fun wx hSw => by obtain ⟨hu1, ⟨hv0, hv1, hv2, hv3, hv4, hv5, hv6⟩, hf0⟩ := hSw; go_simp⟩
    simp only [Act.put, List.setIfInBounds_toArray, List.set_cons_zero, List.set_cons_succ]
    refine take_at (i := 3) (d := some 20) (v := S vl) rfl (by kernel_rfl) (by kernel_rfl) (by kernel_rfl) (fun _ _ _ h => h) (fun oi ho => ?_) HSQ.out ?_
    · obtain rfl := Option.some.inj ho
      exact Or.inl ⟨by rfl, fun wx hSw => by obtain ⟨hu1, ⟨hv0, hv1, hv2, hv3, hv4, hv5, hv6⟩, hf0⟩ := hSw; go_simp⟩
    simp only [Act.put, List.setIfInBounds_toArray, List.set_cons_zero, List.set_cons_succ]
    refine take_at (i := 4) (d := some 21) (v := .string ⟨#[45]⟩) rfl (by kernel_rfl) (by kernel_rfl) (by kernel_rfl) (fun _ _ _ h => h) (fun oi ho => ?_) HSQ.out ?_
    · obtain rfl := Option.some.inj ho
      exact Or.inl ⟨by rfl, fun wx hSw => by obtain ⟨hu1, ⟨hv0, hv1, hv2, hv3, hv4, hv5, hv6⟩, hf0⟩ := hSw; go_simp⟩
    simp only [Act.put, List.setIfInBounds_toArray, List.set_cons_zero, List.set_cons_succ]
    refine take_at (i := 5) (d := some 22) (v := .agg #[S vl, .string ⟨#[45]⟩]) rfl (by kernel_rfl) (by kernel_rfl) (by kernel_rfl) (fun _ _ _ h => h) (fun oi ho => ?_) HSQ.out ?_
    · obtain rfl := Option.some.inj ho
      exact Or.inl ⟨by rfl, fun wx hSw => by obtain ⟨hu1, ⟨hv0, hv1, hv2, hv3, hv4, hv5, hv6⟩, hf0⟩ := hSw; go_simp⟩
    simp only [Act.put, List.setIfInBounds_toArray, List.set_cons_zero, List.set_cons_succ]
    refine ready_call (i := 2) (d := some 19) (f := g) (args := (#[.agg #[S r.m, S r.p, S r.q, .int .i64 r.v, V, S r.body, .bool r.cl]] ++ lb)) rfl (by kernel_rfl) (fun oi ho => ?_) ?_
    · obtain rfl := Option.some.inj ho
      exact ⟨by rfl, by go_simp⟩
    refine HP.out.mono ?_
    rintro e Wx ⟨B, c, V3, fs, body, rfl, h1, h2, h3, h4, h5, h6⟩
    have hKx : KeptK W.heap.size r V b2 g lb b3 #[S vl] 9 Wx := HKQ.out.same fun k hk => h5 k (by rcases hk with rfl | hk; exact .inr ⟨Nat.le_refl _, by have := HSZ.out; omega⟩; exact .inl (HKB.out.1 k hk).1)
    have hrx := row_heap (h5 (W.heap.size + 1) (.inr ⟨by omega, by have := HSZ.out; omega⟩)) HR1.out
    have HSX := Lib.hid (HAT.out Wx hKx)
    refine ⟨_, rfl, HSX.out, ?_⟩
    simp only [Act.put, List.setIfInBounds_toArray, List.set_cons_zero, List.set_cons_succ]
    refine ready_call (i := 6) (d := some 23) (f := 66) (args := #[rpV c V3 body, .agg #[S vl, .string ⟨#[45]⟩]]) rfl (by kernel_rfl) (fun oi ho => ?_) ?_
    · obtain rfl := Option.some.inj ho
      exact ⟨by rfl, by go_simp⟩
    refine (with_any c V3 body vl [45] B fs Wx h3 h2 (by omega)).mono ?_
    rintro e W4 ⟨V4, rfl, hF4, hR4⟩
    have hK4 : KeptK W.heap.size r V b2 g lb b3 #[S vl] 9 W4 := hKx.same fun k hk => hR4.rest k (by have := HSZ.out; have := HKB.out; rcases hk with rfl | hk; omega; have := this.1 k hk; omega) (by have := HSZ.out; have := HKB.out; rcases hk with rfl | hk; omega; have := this.1 k hk; omega)
    have hr4 := row_heap (hR4.rest (W.heap.size + 1) (by have := HSZ.out; omega) (by have := HSZ.out; omega)) hrx
    have hq := back_adds h1 HSZ.out h6 hR4 hF4
    obtain ⟨a4, c4, hv4⟩ := fo_form hF4
    subst hv4
    obtain ⟨n4, hn4⟩ : ∃ x, x = (fs ++ [(vl, [45])]).length := ⟨_, rfl⟩
    rw [← hn4] at hq ⊢
    have hK5 : KeptK W.heap.size r V b2 g lb b3 #[S vl] 9 (put3k W4 (W.heap.size + 1) (.int .i64 c) (.slice a4 n4 c4) (S body)) := hK4.same fun k hk => (rest_put3k W4 (W.heap.size + 1) _ _ _).rest k (by have := HSZ.out; have := HKB.out; have := hR4.size; rcases hk with rfl | hk; omega; have := this; have := HKB.out.1 k hk; omega) (by have := HSZ.out; have := HKB.out; rcases hk with rfl | hk; omega; have := this.1 k hk; omega)
    have HS4 := Lib.hid (HAT.out W4 hK4)
    have HS5 := Lib.hid (HAT.out _ hK5)
    have e0 : W4.cell? ⟨W.heap.size + 1, 0, none⟩ = some (.int .i64 0) := cell_of_row W4 _ 0 _ _ (0, 0) hr4
    have e1 : W4.cell? ⟨W.heap.size + 1, 1, none⟩ = some (.slice none 0 0) := cell_of_row W4 _ 1 _ _ (0, 0) hr4
    have e2 : W4.cell? ⟨W.heap.size + 1, 2, none⟩ = some (.string ⟨#[]⟩) := cell_of_row W4 _ 2 _ _ (0, 0) hr4
    have y0 := hr4.frozen 0
    have y1 := hr4.frozen 1
    have y2 := hr4.frozen 2
    have H5 := Lib.hid (And.intro hr4 hq)
    clear h1 h2 h3 h4 h5 h6 hKx hrx hF4 hR4 hK4 hK5 hr4 hq hn4
    refine ⟨_, rfl, HS4.out, ?_⟩
    simp only [Act.put, List.setIfInBounds_toArray, List.set_cons_zero, List.set_cons_succ]
    unfold rpV rpC
    refine ready_skip (i := 7) (d := none) (w' := put3k W4 (W.heap.size + 1) (.int .i64 c) (.slice a4 n4 c4) (S body)) rfl (by kernel_rfl) (fun oi ho => ?_) HS5.out ?_
    · obtain rfl := Option.some.inj ho
      exact ⟨by rfl, by unfold put3k; go_simp⟩
    refine wpAnyH_done (by kernel_rfl) ?_ _
    refine NoPanic.normal ?_
    simp only [Act.put]
    go_wp2
    refine bodyPost_ret (results_row_one rfl _ _ (W.heap.size + 1) 27 #[.int .i64 c, .slice a4 n4 c4, S body] (0, 0) _ rfl (put3k_row H5.out.1 _ _ _) Tryd.underlying27 rfl infoRp) rfl ?_
    exact H5.out.2
  · have hz : ((CN : Int) == 0) = false := by rw [beq_eq_false_iff_ne]; omega
    have hz' : (CN == 0) = false := by rw [beq_eq_false_iff_ne]; omega
    have hz2 : decide (CN = 0) = false := decide_eq_false (by omega)
    subst hU
    clear h0
    go_wp2
    refine wp_region_noPanic ?_
    refine wp_region_held_drew (S := fun w => ((w.cell? ⟨b2, 0, none⟩ = some (.func (.func g) #[] lb)) ∧ (w.cell? ⟨W.heap.size, 0, none⟩ = some (S r.m) ∧ w.cell? ⟨W.heap.size, 1, none⟩ = some (S r.p) ∧ w.cell? ⟨W.heap.size, 2, none⟩ = some (S r.q) ∧ w.cell? ⟨W.heap.size, 3, none⟩ = some (.int .i64 r.v) ∧ w.cell? ⟨W.heap.size, 4, none⟩ = some V ∧ w.cell? ⟨W.heap.size, 5, none⟩ = some (S r.body) ∧ w.cell? ⟨W.heap.size, 6, none⟩ = some (.bool r.cl)) ∧ (w.cell? ⟨b3, 0, none⟩ = some (S vl)))) (by kernel_rfl) (HAT.out W2 HK2.out) (fun _ => ?_)
    rw [← hWq]
    have HSQ := Lib.hid (HAT.out Wq HKQ.out)
    refine take_at (i := 0) (d := some 17) (v := .func (.func g) #[] lb) rfl (by kernel_rfl) (by kernel_rfl) (by kernel_rfl) (fun _ _ _ h => h) (fun oi ho => ?_) HSQ.out ?_
    · obtain rfl := Option.some.inj ho
      exact Or.inl ⟨by rfl, fun wx hSw => by obtain ⟨hu1, ⟨hv0, hv1, hv2, hv3, hv4, hv5, hv6⟩, hf0⟩ := hSw; go_simp⟩
    simp only [Act.put, List.setIfInBounds_toArray, List.set_cons_zero, List.set_cons_succ]
    refine take_at (i := 1) (d := some 18) (v := .agg #[S r.m, S r.p, S r.q, .int .i64 r.v, V, S r.body, .bool r.cl]) rfl (by kernel_rfl) (by kernel_rfl) (by kernel_rfl) (fun _ _ _ h => h) (fun oi ho => ?_) HSQ.out ?_
    · obtain rfl := Option.some.inj ho
      exact Or.inl ⟨by rfl, fun wx hSw => by obtain ⟨hu1, ⟨hv0, hv1, hv2, hv3, hv4, hv5, hv6⟩, hf0⟩ := hSw; go_simp⟩
    simp only [Act.put, List.setIfInBounds_toArray, List.set_cons_zero, List.set_cons_succ]
    refine take_at (i := 3) (d := some 20) (v := S vl) rfl (by kernel_rfl) (by kernel_rfl) (by kernel_rfl) (fun _ _ _ h => h) (fun oi ho => ?_) HSQ.out ?_
    · obtain rfl := Option.some.inj ho
      exact Or.inl ⟨by rfl, fun wx hSw => by obtain ⟨hu1, ⟨hv0, hv1, hv2, hv3, hv4, hv5, hv6⟩, hf0⟩ := hSw; go_simp⟩
    simp only [Act.put, List.setIfInBounds_toArray, List.set_cons_zero, List.set_cons_succ]
    refine take_at (i := 4) (d := some 21) (v := S U) rfl (by kernel_rfl) (by kernel_rfl) (by kernel_rfl) (fun _ _ _ h => h) (fun oi ho => ?_) HSQ.out ?_
    · obtain rfl := Option.some.inj ho
      exact Or.inl ⟨by rfl, fun wx hSw => by obtain ⟨hu1, ⟨hv0, hv1, hv2, hv3, hv4, hv5, hv6⟩, hf0⟩ := hSw; go_simp⟩
    simp only [Act.put, List.setIfInBounds_toArray, List.set_cons_zero, List.set_cons_succ]
    refine take_at (i := 5) (d := some 22) (v := .agg #[S vl, S U]) rfl (by kernel_rfl) (by kernel_rfl) (by kernel_rfl) (fun _ _ _ h => h) (fun oi ho => ?_) HSQ.out ?_
    · obtain rfl := Option.some.inj ho
      exact Or.inl ⟨by rfl, fun wx hSw => by obtain ⟨hu1, ⟨hv0, hv1, hv2, hv3, hv4, hv5, hv6⟩, hf0⟩ := hSw; go_simp⟩
    simp only [Act.put, List.setIfInBounds_toArray, List.set_cons_zero, List.set_cons_succ]
    refine ready_call (i := 2) (d := some 19) (f := g) (args := (#[.agg #[S r.m, S r.p, S r.q, .int .i64 r.v, V, S r.body, .bool r.cl]] ++ lb)) rfl (by kernel_rfl) (fun oi ho => ?_) ?_
    · obtain rfl := Option.some.inj ho
      exact ⟨by rfl, by go_simp⟩
    refine HP.out.mono ?_
    rintro e Wx ⟨B, c, V3, fs, body, rfl, h1, h2, h3, h4, h5, h6⟩
    have hKx : KeptK W.heap.size r V b2 g lb b3 #[S vl] 9 Wx := HKQ.out.same fun k hk => h5 k (by rcases hk with rfl | hk; exact .inr ⟨Nat.le_refl _, by have := HSZ.out; omega⟩; exact .inl (HKB.out.1 k hk).1)
    have hrx := row_heap (h5 (W.heap.size + 1) (.inr ⟨by omega, by have := HSZ.out; omega⟩)) HR1.out
    have HSX := Lib.hid (HAT.out Wx hKx)
    refine ⟨_, rfl, HSX.out, ?_⟩
    simp only [Act.put, List.setIfInBounds_toArray, List.set_cons_zero, List.set_cons_succ]
    refine ready_call (i := 6) (d := some 23) (f := 66) (args := #[rpV c V3 body, .agg #[S vl, S U]]) rfl (by kernel_rfl) (fun oi ho => ?_) ?_
    · obtain rfl := Option.some.inj ho
      exact ⟨by rfl, by go_simp⟩
    refine (with_any c V3 body vl U B fs Wx h3 h2 (by omega)).mono ?_
    rintro e W4 ⟨V4, rfl, hF4, hR4⟩
    have hK4 : KeptK W.heap.size r V b2 g lb b3 #[S vl] 9 W4 := hKx.same fun k hk => hR4.rest k (by have := HSZ.out; have := HKB.out; rcases hk with rfl | hk; omega; have := this.1 k hk; omega) (by have := HSZ.out; have := HKB.out; rcases hk with rfl | hk; omega; have := this.1 k hk; omega)
    have hr4 := row_heap (hR4.rest (W.heap.size + 1) (by have := HSZ.out; omega) (by have := HSZ.out; omega)) hrx
    have hq := back_adds h1 HSZ.out h6 hR4 hF4
    obtain ⟨a4, c4, hv4⟩ := fo_form hF4
    subst hv4
    obtain ⟨n4, hn4⟩ : ∃ x, x = (fs ++ [(vl, U)]).length := ⟨_, rfl⟩
    rw [← hn4] at hq ⊢
    have hK5 : KeptK W.heap.size r V b2 g lb b3 #[S vl] 9 (put3k W4 (W.heap.size + 1) (.int .i64 c) (.slice a4 n4 c4) (S body)) := hK4.same fun k hk => (rest_put3k W4 (W.heap.size + 1) _ _ _).rest k (by have := HSZ.out; have := HKB.out; have := hR4.size; rcases hk with rfl | hk; omega; have := this; have := HKB.out.1 k hk; omega) (by have := HSZ.out; have := HKB.out; rcases hk with rfl | hk; omega; have := this.1 k hk; omega)
    have HS4 := Lib.hid (HAT.out W4 hK4)
    have HS5 := Lib.hid (HAT.out _ hK5)
    have e0 : W4.cell? ⟨W.heap.size + 1, 0, none⟩ = some (.int .i64 0) := cell_of_row W4 _ 0 _ _ (0, 0) hr4
    have e1 : W4.cell? ⟨W.heap.size + 1, 1, none⟩ = some (.slice none 0 0) := cell_of_row W4 _ 1 _ _ (0, 0) hr4
    have e2 : W4.cell? ⟨W.heap.size + 1, 2, none⟩ = some (.string ⟨#[]⟩) := cell_of_row W4 _ 2 _ _ (0, 0) hr4
    have y0 := hr4.frozen 0
    have y1 := hr4.frozen 1
    have y2 := hr4.frozen 2
    have H5 := Lib.hid (And.intro hr4 hq)
    clear h1 h2 h3 h4 h5 h6 hKx hrx hF4 hR4 hK4 hK5 hr4 hq hn4
    refine ⟨_, rfl, HS4.out, ?_⟩
    simp only [Act.put, List.setIfInBounds_toArray, List.set_cons_zero, List.set_cons_succ]
    unfold rpV rpC
    refine ready_skip (i := 7) (d := none) (w' := put3k W4 (W.heap.size + 1) (.int .i64 c) (.slice a4 n4 c4) (S body)) rfl (by kernel_rfl) (fun oi ho => ?_) HS5.out ?_
    · obtain rfl := Option.some.inj ho
      exact ⟨by rfl, by unfold put3k; go_simp⟩
    refine wpAnyH_done (by kernel_rfl) ?_ _
    refine NoPanic.normal ?_
    simp only [Act.put]
    go_wp2
    refine bodyPost_ret (results_row_one rfl _ _ (W.heap.size + 1) 27 #[.int .i64 c, .slice a4 n4 c4, S body] (0, 0) _ rfl (put3k_row H5.out.1 _ _ _) Tryd.underlying27 rfl infoRp) rfl ?_
    exact H5.out.2

end Go.Proofs.YtbnlkjoblngakaaDoor
