/- The landed package of frames as they come: Next walked; the interface. -/
import Derived.Test.YtlmolmmhkddpaaaHw6
namespace Go.Proofs.Ytlmolmmhkddpaaa
open Go.RowKit
attribute [local go_sem] store_one Oper.semAt_some S_match S_store

/-- What Next keeps: an event and a truth, each in a block of its own; what lies in F is apart. -/
structure NxRes (w0 : World) (F0 : Nat → Prop) (e : Ev) (b : Bool) (F : Nat → Prop) (W : World) : Prop where
  ev : Row W w0.heap.size (evC e) 29
  ok : Row W (w0.heap.size + 1) #[.bool b] 4
  ne : ¬ F w0.heap.size ∧ ¬ F (w0.heap.size + 1)
  mv : Moves F0 F w0 W
theorem NxRes.moves {w0 : World} {F0 : Nat → Prop} {e : Ev} {b : Bool} {F F' : Nat → Prop} {W W' : World} (h : NxRes w0 F0 e b F W) (hm : Moves F F' W W') : NxRes w0 F0 e b F' W' := by
  have l1 := h.ev.lt
  have l2 := h.ok.lt
  refine ⟨h.ev.moves hm h.ne.1, h.ok.moves hm h.ne.2, ⟨fun hf => ?_, fun hf => ?_⟩, h.mv.trans hm⟩
  · rcases hm.foot _ hf with h1 | h1
    · exact h.ne.1 h1
    · omega
  · rcases hm.foot _ hf with h1 | h1
    · exact h.ne.2 h1
    · omega
theorem NxRes.set {w0 : World} {F0 : Nat → Prop} {e e' : Ev} {b b' : Bool} {F : Nat → Prop} {W : World} (h : NxRes w0 F0 e b F W) (c0 c1 c2 c3 c4 : Value) (he : evC e' = #[c0, c1, c2, c3, c4]) : NxRes w0 F0 e' b' F ((put5H W w0.heap.size c0 c1 c2 c3 c4).setCell ⟨w0.heap.size + 1, 0, none⟩ (.bool b')) := by
  have hk := put5H_keeps W w0.heap.size c0 c1 c2 c3 c4
  have hr := put5H_row (W := W) (b := w0.heap.size) (a0 := .int .i64 (e.kind : Int)) (a1 := .int .i64 (e.op : Int)) (a2 := .bool e.fin) (a3 := .int .i64 (e.len : Int)) (a4 := S e.text) h.ev c0 c1 c2 c3 c4
  have h2 : Row (put5H W w0.heap.size c0 c1 c2 c3 c4) (w0.heap.size + 1) #[.bool b] 4 := h.ok.keeps hk (by omega)
  refine ⟨by rw [he]; exact hr.other (by show w0.heap.size ≠ w0.heap.size + 1; omega), h2.set 0 _, h.ne, ?_⟩
  have m1 : Moves F0 F w0 (put5H W w0.heap.size c0 c1 c2 c3 c4) := h.mv.then16 hk (Nat.le_refl _)
  exact m1.then16 (Keeps.setCell _ 0 _) (by omega)
theorem nx_keep (W : World) (b : Nat) (c0 c1 c2 c3 c4 c5 : Value) : W.heap.size ≤ ((put5H W b c0 c1 c2 c3 c4).setCell ⟨b + 1, 0, none⟩ c5).heap.size ∧ ∀ k, k ≠ b → k ≠ b + 1 → ((put5H W b c0 c1 c2 c3 c4).setCell ⟨b + 1, 0, none⟩ c5).heap[k]? = W.heap[k]? := by
  unfold put5H
  refine ⟨by simp [World.setCell], fun k h1 h2 => ?_⟩
  rw [Below.heap_setCell _ _ _ _ h2, Below.heap_setCell _ _ _ _ h1, Below.heap_setCell _ _ _ _ h1, Below.heap_setCell _ _ _ _ h1, Below.heap_setCell _ _ _ _ h1, Below.heap_setCell _ _ _ _ h1]
theorem nx_moves {w0 W : World} {F0 F F1 : Nat → Prop} {B : Nat} (h : Moves F0 (with2 F B) w0 W) (hf : ∀ k, F1 k → F k) (hB : w0.heap.size + 2 ≤ B) : Moves F0 F1 w0 (W.putObj B (.deferred none)) :=
  ⟨h.os, h.tape, h.output, by simpa using h.size, fun k hk => h.foot k (.inl (hf k hk)), fun k h1 h2 => (World.putObj_heap_other (by omega)).trans (h.rest k h1 h2)⟩
theorem nx_end {w0 W : World} {F0 F : Nat → Prop} {e : Ev} {b : Bool} {D : Nat} {tmps : Array Value} {Q : Ending → World → Prop} (h : NxRes w0 F0 e b F W) (hd : W.heap[D]? = some (.deferred (some []))) (hD : w0.heap.size + 2 ≤ D)
    (ht2 : tmps[2]? = some (.pointer (some ⟨w0.heap.size, 0, none⟩))) (ht3 : tmps[3]? = some (.pointer (some ⟨w0.heap.size + 1, 0, none⟩))) (hq : Q (.returned (.tuple #[evV e, .bool b])) (W.putObj D (.deferred none))) :
    bodyPostM Fence.wide 5 Try.prog Try.f13 Q .ret { tmps := tmps, defers := [{ target := .collected D, args := #[] }] } W := by
  refine ⟨by simp, .inl ⟨_, _, rfl, run_takeDeferred hd, ?_⟩⟩
  have hr : Row (W.putObj D (.deferred none)) w0.heap.size (evC e) 29 := by
    unfold Row; rw [World.putObj_heap_other (by omega)]; exact h.ev
  have hne : w0.heap.size + 1 ≠ D := by omega
  have hr2 : Row (W.putObj D (.deferred none)) (w0.heap.size + 1) #[.bool b] 4 := by
    unfold Row; rw [World.putObj_heap_other hne]; exact h.ok
  have hc : (W.putObj D (.deferred none)).cell? ⟨w0.heap.size + 1, 0, none⟩ = some (.bool b) := cell_of_row _ _ 0 _ 4 (0, 0) hr2
  have e0 : (W.putObj D (.deferred none)).cell? ⟨w0.heap.size, 0, none⟩ = some (.int .i64 (e.kind : Int)) := cell_of_row _ _ 0 _ _ (0, 0) hr
  have e1 : (W.putObj D (.deferred none)).cell? ⟨w0.heap.size, 1, none⟩ = some (.int .i64 (e.op : Int)) := cell_of_row _ _ 1 _ _ (0, 0) hr
  have e2 : (W.putObj D (.deferred none)).cell? ⟨w0.heap.size, 2, none⟩ = some (.bool e.fin) := cell_of_row _ _ 2 _ _ (0, 0) hr
  have e3 : (W.putObj D (.deferred none)).cell? ⟨w0.heap.size, 3, none⟩ = some (.int .i64 (e.len : Int)) := cell_of_row _ _ 3 _ _ (0, 0) hr
  have e4 : (W.putObj D (.deferred none)).cell? ⟨w0.heap.size, 4, none⟩ = some (S e.text) := cell_of_row _ _ 4 _ _ (0, 0) hr
  refine ⟨.tuple #[evV e, .bool b], ?_, hq⟩
  simp [results, Try.f13, go_sem, hc, ht2, ht3, e0, e1, e2, e3, e4, evV, evC]
section
variable {w : World} {F : Nat → Prop} {g : Nat} {st : Fst}
set_option maxRecDepth 100000 in
set_option maxHeartbeats 2000000 in
theorem wnext16_any (h : RA16 w F g st) : Calls Try.prog 13 #[.pointer (some ⟨g, 0, none⟩)] w (NextR F g st w) := by
  obtain ⟨W1, hW1⟩ : ∃ W1, W1 = (w.alloc (.cells #[.int .i64 0, .int .i64 0, .bool false, .int .i64 0, .string ⟨#[]⟩] 29)).alloc (.cells #[.bool false] 4) := ⟨_, rfl⟩
  have hB1 : Below w.heap.size w W1 := by rw [hW1]; exact ((Below.refl _ w).alloc (Nat.le_refl _) _).alloc (by simp) _
  have h1 := h.below hB1
  have hN1 : NxRes w F ev0 false F W1 := by
    rw [hW1]
    refine ⟨(row_new w _ _).alloc _, ?_, ⟨fun hf => by have := h.lt.2 _ hf; omega, fun hf => by have := h.lt.2 _ hf; omega⟩, Moves.of_below (by rw [← hW1]; exact hB1)⟩
    have := row_new (w.alloc (.cells #[.int .i64 0, .int .i64 0, .bool false, .int .i64 0, .string ⟨#[]⟩] 29)) #[.bool false] 4
    rw [alloc_size] at this; exact this
  have HA := Lib.hid (wall16_any h1)
  have H1 := Lib.hid (And.intro hN1 h)
  clear hB1 h1 hN1 h
  refine (callsIn_wide (n := 5)).1 (callsIn_of_wp_marks Try.func13 rfl trivial ?_ rfl)
  simp only [Try.ntmps13, List.size_toArray, List.length_cons, List.length_nil, Nat.reduceAdd, Nat.reduceSub, Array.replicate_succ, Array.replicate_zero, List.push_toArray, List.append_toArray, List.nil_append, List.cons_append]
  rw [wpIn_wide]
  go_wp2_with fail
  rw [← hW1]
  clear hW1
  refine HA.out.mono ?_
  rintro e W6 ⟨gf, lb, rfl, ⟨eg, F1, St, hS0, hF1, hk, hlt, hrd, hseq⟩, hB⟩
  have hw6 : NxRes w F ev0 false F1 W6 := by
    have h1 := H1.out.1.moves (Moves.of_below (F := F) hB)
    refine ⟨h1.ev, h1.ok, ⟨fun hf => ?_, fun hf => ?_⟩, ⟨h1.mv.os, h1.mv.tape, h1.mv.output, h1.mv.size, fun k hf => ?_, h1.mv.rest⟩⟩
    · rcases hF1 _ hf with e | e
      · exact h1.ne.1 e
      · have := H1.out.1.ev.lt; omega
    · rcases hF1 _ hf with e | e
      · exact h1.ne.2 e
      · have := H1.out.1.ok.lt; omega
    · rcases hF1 _ hf with e | e
      · exact .inl e
      · have := H1.out.1.mv.size; exact .inr (by omega)
  have hs6 : w.heap.size + 2 ≤ W6.heap.size := by have := hw6.ok.lt; omega
  have H6 := Lib.hid (And.intro hw6 hs6)
  have HR := Lib.hid (And.intro hlt hrd)
  have hl6 := hlt _ _ _ hS0
  clear hB hF1 hw6 hlt hrd
  go_wp2
  rw [← wpIn_wide (n := 5)]
  refine wpIn_rangeFunc_M (gf := gf) (lb := lb) rfl eg hseq hk hS0 hl6 (fun _ => rfl)
    (fun pre F' W => pre = [] ∧ NxRes w F ev0 false F' W) (fun c pre F' W => c = .ret ∧ ∃ e, pre = [e] ∧ NxRes w F e true F' W)
    ?hI ?hIx ⟨rfl, ?h0⟩ ?round ?done ?stop
  case hI =>
    rintro pre F' F'' W W' ⟨hp, h⟩ hm
    exact ⟨hp, h.moves hm⟩
  case hIx =>
    rintro c pre F' F'' W W' ⟨hc, e, hp, h⟩ hm
    exact ⟨hc, e, hp, h.moves hm⟩
  case h0 =>
    have h := H6.out.1
    refine ⟨h.ev, h.ok, ⟨fun hf => ?_, fun hf => ?_⟩, ⟨h.mv.os, h.mv.tape, h.mv.output, h.mv.size, fun k hf => ?_, h.mv.rest⟩⟩
    · rcases hf with e | e | e
      · exact h.ne.1 e
      · have := H6.out.2; omega
      · have := H6.out.2; omega
    · rcases hf with e | e | e
      · exact h.ne.2 e
      · have := H6.out.2; omega
      · have := H6.out.2; omega
    · rcases hf with e | e | e
      · exact h.mv.foot k e
      · have := H6.out.2; exact .inr (by omega)
      · have := H6.out.2; exact .inr (by omega)
  case round =>
    intro l pre x F' W K hl hpx hI hSt hnF hsz hK
    obtain ⟨rfl, hN⟩ := hI
    unfold encE evV
    have HN := Lib.hid (And.intro hN (And.intro hSt hnF))
    have hx : evC x = #[.int .i64 (x.kind : Int), .int .i64 (x.op : Int), .bool x.fin, .int .i64 (x.len : Int), S x.text] := rfl
    rw [hx]
    clear hN hSt hnF
    gi_wp2
    refine hK _ _ ?_ ?_
    · exact ⟨by simp, fun r hr => Below.heap_alloc _ _ _ (by
        rcases hr with hr | hr | hr
        · exact HR.out.1 _ _ _ HN.out.2.1 r hr
        · omega
        · omega)⟩
    intro W2 hg hl2
    have hm2 : Moves (with2 F' W6.heap.size) (with2 F' W6.heap.size) W W2 := by
      have h1 := moves_alloc (with2 F' W6.heap.size) (w := W) (.cells #[.int .i64 (x.kind : Int), .int .i64 (x.op : Int), .bool x.fin, .int .i64 (x.len : Int), S x.text] 29)
      refine h1.trans ⟨hg.os, hg.tape, hg.output, hg.size, fun _ hk => .inl hk, fun k hk hn => hg.block k hk fun e => hn (.inr (.inr (Option.some.inj e)))⟩
    have hN2 := HN.out.1.moves hm2
    have hrb : Row W2 W.heap.size #[.int .i64 (x.kind : Int), .int .i64 (x.op : Int), .bool x.fin, .int .i64 (x.len : Int), S x.text] 29 := by
      have h1 := row_new W #[.int .i64 (x.kind : Int), .int .i64 (x.op : Int), .bool x.fin, .int .i64 (x.len : Int), S x.text] 29
      unfold Row
      rw [hg.block _ h1.lt (fun e => by have := Option.some.inj e; omega)]
      exact h1
    have y0 : W2.cell? ⟨W.heap.size, 0, none⟩ = some (.int .i64 (x.kind : Int)) := cell_of_row W2 _ 0 _ _ (0, 0) hrb
    have yf0 : W2.frozen? ⟨W.heap.size, 0, none⟩ = false := Row.frozen hrb 0
    have y1 : W2.cell? ⟨W.heap.size, 1, none⟩ = some (.int .i64 (x.op : Int)) := cell_of_row W2 _ 1 _ _ (0, 0) hrb
    have yf1 : W2.frozen? ⟨W.heap.size, 1, none⟩ = false := Row.frozen hrb 1
    have y2 : W2.cell? ⟨W.heap.size, 2, none⟩ = some (.bool x.fin) := cell_of_row W2 _ 2 _ _ (0, 0) hrb
    have yf2 : W2.frozen? ⟨W.heap.size, 2, none⟩ = false := Row.frozen hrb 2
    have y3 : W2.cell? ⟨W.heap.size, 3, none⟩ = some (.int .i64 (x.len : Int)) := cell_of_row W2 _ 3 _ _ (0, 0) hrb
    have yf3 : W2.frozen? ⟨W.heap.size, 3, none⟩ = false := Row.frozen hrb 3
    have y4 : W2.cell? ⟨W.heap.size, 4, none⟩ = some (S x.text) := cell_of_row W2 _ 4 _ _ (0, 0) hrb
    have yf4 : W2.frozen? ⟨W.heap.size, 4, none⟩ = false := Row.frozen hrb 4
    have z0 : W2.cell? ⟨w.heap.size, 0, none⟩ = some (.int .i64 0) := cell_of_row W2 _ 0 _ _ (0, 0) hN2.ev
    have zf0 : W2.frozen? ⟨w.heap.size, 0, none⟩ = false := Row.frozen hN2.ev 0
    have z1 : W2.cell? ⟨w.heap.size, 1, none⟩ = some (.int .i64 0) := cell_of_row W2 _ 1 _ _ (0, 0) hN2.ev
    have zf1 : W2.frozen? ⟨w.heap.size, 1, none⟩ = false := Row.frozen hN2.ev 1
    have z2 : W2.cell? ⟨w.heap.size, 2, none⟩ = some (.bool false) := cell_of_row W2 _ 2 _ _ (0, 0) hN2.ev
    have zf2 : W2.frozen? ⟨w.heap.size, 2, none⟩ = false := Row.frozen hN2.ev 2
    have z3 : W2.cell? ⟨w.heap.size, 3, none⟩ = some (.int .i64 0) := cell_of_row W2 _ 3 _ _ (0, 0) hN2.ev
    have zf3 : W2.frozen? ⟨w.heap.size, 3, none⟩ = false := Row.frozen hN2.ev 3
    have z4 : W2.cell? ⟨w.heap.size, 4, none⟩ = some (.string ⟨#[]⟩) := cell_of_row W2 _ 4 _ _ (0, 0) hN2.ev
    have zf4 : W2.frozen? ⟨w.heap.size, 4, none⟩ = false := Row.frozen hN2.ev 4
    have k0 : W2.cell? ⟨w.heap.size + 1, 0, none⟩ = some (.bool false) := cell_of_row W2 _ 0 _ _ (0, 0) hN2.ok
    have kf0 : W2.frozen? ⟨w.heap.size + 1, 0, none⟩ = false := Row.frozen hN2.ok 0
    have HE := Lib.hid hN2
    clear hm2 hN2 hrb hl2 hg
    gi_wp2
    have hN8 := HE.out.set (e' := x) (b' := true) (.int .i64 (x.kind : Int)) (.int .i64 (x.op : Int)) (.bool x.fin) (.int .i64 (x.len : Int)) (S x.text) rfl
    have hk8 := nx_keep W2 w.heap.size (.int .i64 (x.kind : Int)) (.int .i64 (x.op : Int)) (.bool x.fin) (.int .i64 (x.len : Int)) (S x.text) (.bool true)
    unfold put5H at hN8 hk8
    exact ⟨⟨hk8.1, fun k hk => hk8.2 k (fun e => HE.out.ne.1 (by rw [← e]; exact hk)) (fun e => HE.out.ne.2 (by rw [← e]; exact hk))⟩, rfl, x, rfl, hN8⟩
  case done =>
    rintro F' W ⟨hp, hN⟩ hSt hnF hD
    obtain ⟨F0, hR0, hF0⟩ := HR.out.2 _ _ _ hSt
    rw [hp] at hR0
    have hno : nextF st = none := by
      cases hn : nextF st with
      | none => rfl
      | some y => rw [(all_some (show nextF st = some (y.1, y.2) from hn)).1] at hp; cases hp
    obtain ⟨hv, hs⟩ := next_no hno
    have z0 : W.cell? ⟨w.heap.size, 0, none⟩ = some (.int .i64 0) := cell_of_row W _ 0 _ _ (0, 0) hN.ev
    have zf0 : W.frozen? ⟨w.heap.size, 0, none⟩ = false := Row.frozen hN.ev 0
    have z1 : W.cell? ⟨w.heap.size, 1, none⟩ = some (.int .i64 0) := cell_of_row W _ 1 _ _ (0, 0) hN.ev
    have zf1 : W.frozen? ⟨w.heap.size, 1, none⟩ = false := Row.frozen hN.ev 1
    have z2 : W.cell? ⟨w.heap.size, 2, none⟩ = some (.bool false) := cell_of_row W _ 2 _ _ (0, 0) hN.ev
    have zf2 : W.frozen? ⟨w.heap.size, 2, none⟩ = false := Row.frozen hN.ev 2
    have z3 : W.cell? ⟨w.heap.size, 3, none⟩ = some (.int .i64 0) := cell_of_row W _ 3 _ _ (0, 0) hN.ev
    have zf3 : W.frozen? ⟨w.heap.size, 3, none⟩ = false := Row.frozen hN.ev 3
    have z4 : W.cell? ⟨w.heap.size, 4, none⟩ = some (.string ⟨#[]⟩) := cell_of_row W _ 4 _ _ (0, 0) hN.ev
    have zf4 : W.frozen? ⟨w.heap.size, 4, none⟩ = false := Row.frozen hN.ev 4
    have k0 : W.cell? ⟨w.heap.size + 1, 0, none⟩ = some (.bool false) := cell_of_row W _ 0 _ _ (0, 0) hN.ok
    have kf0 : W.frozen? ⟨w.heap.size + 1, 0, none⟩ = false := Row.frozen hN.ok 0
    have H7 := Lib.hid (And.intro hN (And.intro hR0 (And.intro hF0 (And.intro hnF (And.intro hD (And.intro hv hs))))))
    clear hp hN hSt hnF hD hR0 hF0 hno hv hs
    go_wp2
    have hN8 := H7.out.1.set (e' := ev0) (b' := false) (.int .i64 0) (.int .i64 0) (.bool false) (.int .i64 0) (.string ⟨#[]⟩) rfl
    have hk8 := nx_keep W w.heap.size (.int .i64 0) (.int .i64 0) (.bool false) (.int .i64 0) (.string ⟨#[]⟩) (.bool false)
    unfold put5H at hN8 hk8
    refine nx_end hN8 ((hk8.2 _ (by have := H6.out.2; omega) (by have := H6.out.2; omega)).trans H7.out.2.2.2.2.1) H6.out.2 rfl rfl ?_
    refine ⟨by rw [H7.out.2.2.2.2.2.1]; rfl, F0, ?_, nx_moves hN8.mv H7.out.2.2.1 H6.out.2⟩
    rw [H7.out.2.2.2.2.2.2]
    refine RA16.same (st := st) H7.out.2.1 (by simp) fun k hk => ?_
    have hkF := H7.out.2.2.1 k hk
    rw [World.putObj_heap_other (fun e => H7.out.2.2.2.1.1 (by rw [← e]; exact hkF))]
    exact hk8.2 k (fun e => H7.out.1.ne.1 (by rw [← e]; exact .inl hkF)) (fun e => H7.out.1.ne.2 (by rw [← e]; exact .inl hkF))
  case stop =>
    rintro c pre F' W hpre ⟨rfl, x, rfl, hN⟩ hSt hnF hD
    obtain ⟨F0, hR0, hF0⟩ := HR.out.2 _ _ _ hSt
    obtain ⟨s', hns, hs1⟩ : ∃ s', nextF st = some (x, s') ∧ stepS st [x].length = s' := by
      obtain ⟨t, ht⟩ := hpre
      obtain ⟨s', h1, -⟩ := all_cons (st := st) (e := x) (t := t) ht.symm
      exact ⟨s', h1, step_succ h1 0⟩
    rw [hs1] at hR0
    obtain ⟨hv, hs⟩ := next_yes hns
    have H7 := Lib.hid (And.intro hN (And.intro hR0 (And.intro hF0 (And.intro hnF (And.intro hD (And.intro hv hs))))))
    clear hpre hN hSt hnF hD hR0 hF0 hv hs hns hs1
    gi_wp2
    refine nx_end H7.out.1 H7.out.2.2.2.2.1 H6.out.2 rfl rfl ?_
    refine ⟨by rw [H7.out.2.2.2.2.2.1], F0, ?_, ?_⟩
    · rw [H7.out.2.2.2.2.2.2]
      exact H7.out.2.1.same (by simp) fun k hk => World.putObj_heap_other fun e => H7.out.2.2.2.1.1 (by rw [← e]; exact H7.out.2.2.1 k hk)
    · exact nx_moves H7.out.1.mv H7.out.2.2.1 H6.out.2
end
set_option maxRecDepth 100000 in
set_option maxHeartbeats 2000000 in
theorem wnext16_0 (w : World) : Calls Try.prog 13 #[.pointer none] w fun e w' => e = .returned (.tuple #[evV ev0, .bool false]) ∧ Below w.heap.size w w' := by
  obtain ⟨W1, hW1⟩ : ∃ W1, W1 = (w.alloc (.cells #[.int .i64 0, .int .i64 0, .bool false, .int .i64 0, .string ⟨#[]⟩] 29)).alloc (.cells #[.bool false] 4) := ⟨_, rfl⟩
  have hB1 : Below w.heap.size w W1 := by rw [hW1]; exact ((Below.refl _ w).alloc (Nat.le_refl _) _).alloc (by simp) _
  have hN1 : NxRes w (fun _ => False) ev0 false (fun _ => False) W1 := by
    rw [hW1]
    refine ⟨(row_new w _ _).alloc _, ?_, ⟨fun hf => hf, fun hf => hf⟩, Moves.of_below (by rw [← hW1]; exact hB1)⟩
    have := row_new (w.alloc (.cells #[.int .i64 0, .int .i64 0, .bool false, .int .i64 0, .string ⟨#[]⟩] 29)) #[.bool false] 4
    rw [alloc_size] at this; exact this
  have HA := Lib.hid (wall16_0 W1)
  have H1 := Lib.hid hN1
  clear hB1 hN1
  refine (callsIn_wide (n := 5)).1 (callsIn_of_wp_marks Try.func13 rfl trivial ?_ rfl)
  simp only [Try.ntmps13, List.size_toArray, List.length_cons, List.length_nil, Nat.reduceAdd, Nat.reduceSub, Array.replicate_succ, Array.replicate_zero, List.push_toArray, List.append_toArray, List.nil_append, List.cons_append]
  rw [wpIn_wide]
  go_wp2_with fail
  rw [← hW1]
  clear hW1
  refine HA.out.mono ?_
  rintro e W6 ⟨gf, lb, rfl, ⟨eg, F1, St, hS0, hF1, hk, hlt, hseq⟩, hB⟩
  have hw6 : NxRes w (fun _ => False) ev0 false F1 W6 := by
    have h1 := H1.out.moves (Moves.of_below (F := fun _ => False) hB)
    refine ⟨h1.ev, h1.ok, ⟨fun hf => ?_, fun hf => ?_⟩, ⟨h1.mv.os, h1.mv.tape, h1.mv.output, h1.mv.size, fun k hf => ?_, h1.mv.rest⟩⟩
    · have := hF1 _ hf; have := H1.out.ev.lt; omega
    · have := hF1 _ hf; have := H1.out.ok.lt; omega
    · have := hF1 _ hf; have := H1.out.mv.size; exact .inr (by omega)
  have hs6 : w.heap.size + 2 ≤ W6.heap.size := by have := hw6.ok.lt; omega
  have H6 := Lib.hid (And.intro hw6 hs6)
  have hl6 := hlt _ _ _ hS0
  clear hB hF1 hw6 hlt
  go_wp2
  rw [← wpIn_wide (n := 5)]
  refine wpIn_rangeFunc_M (gf := gf) (lb := lb) rfl eg hseq hk hS0 hl6 (fun _ => rfl)
    (fun pre F' W => NxRes w (fun _ => False) ev0 false F' W) (fun c pre F' W => False)
    ?hI ?hIx ?h0 ?round ?done ?stop
  case hI =>
    intro pre F' F'' W W' h hm
    exact h.moves hm
  case hIx =>
    intro c pre F' F'' W W' h hm
    exact h
  case h0 =>
    have h := H6.out.1
    refine ⟨h.ev, h.ok, ⟨fun hf => ?_, fun hf => ?_⟩, ⟨h.mv.os, h.mv.tape, h.mv.output, h.mv.size, fun k hf => ?_, h.mv.rest⟩⟩
    · rcases hf with e | e | e
      · exact h.ne.1 e
      · have := H6.out.2; omega
      · have := H6.out.2; omega
    · rcases hf with e | e | e
      · exact h.ne.2 e
      · have := H6.out.2; omega
      · have := H6.out.2; omega
    · rcases hf with e | e | e
      · exact h.mv.foot k e
      · have := H6.out.2; exact .inr (by omega)
      · have := H6.out.2; exact .inr (by omega)
  case round =>
    intro l pre x F' W K hl hpx
    obtain ⟨t, ht⟩ := hpx
    simp at ht
  case done =>
    intro F' W hN hSt hnF hD
    have z0 : W.cell? ⟨w.heap.size, 0, none⟩ = some (.int .i64 0) := cell_of_row W _ 0 _ _ (0, 0) hN.ev
    have zf0 : W.frozen? ⟨w.heap.size, 0, none⟩ = false := Row.frozen hN.ev 0
    have z1 : W.cell? ⟨w.heap.size, 1, none⟩ = some (.int .i64 0) := cell_of_row W _ 1 _ _ (0, 0) hN.ev
    have zf1 : W.frozen? ⟨w.heap.size, 1, none⟩ = false := Row.frozen hN.ev 1
    have z2 : W.cell? ⟨w.heap.size, 2, none⟩ = some (.bool false) := cell_of_row W _ 2 _ _ (0, 0) hN.ev
    have zf2 : W.frozen? ⟨w.heap.size, 2, none⟩ = false := Row.frozen hN.ev 2
    have z3 : W.cell? ⟨w.heap.size, 3, none⟩ = some (.int .i64 0) := cell_of_row W _ 3 _ _ (0, 0) hN.ev
    have zf3 : W.frozen? ⟨w.heap.size, 3, none⟩ = false := Row.frozen hN.ev 3
    have z4 : W.cell? ⟨w.heap.size, 4, none⟩ = some (.string ⟨#[]⟩) := cell_of_row W _ 4 _ _ (0, 0) hN.ev
    have zf4 : W.frozen? ⟨w.heap.size, 4, none⟩ = false := Row.frozen hN.ev 4
    have k0 : W.cell? ⟨w.heap.size + 1, 0, none⟩ = some (.bool false) := cell_of_row W _ 0 _ _ (0, 0) hN.ok
    have kf0 : W.frozen? ⟨w.heap.size + 1, 0, none⟩ = false := Row.frozen hN.ok 0
    have H7 := Lib.hid (And.intro hN hD)
    clear hN hSt hnF hD
    go_wp2
    have hN8 := H7.out.1.set (e' := ev0) (b' := false) (.int .i64 0) (.int .i64 0) (.bool false) (.int .i64 0) (.string ⟨#[]⟩) rfl
    have hk8 := nx_keep W w.heap.size (.int .i64 0) (.int .i64 0) (.bool false) (.int .i64 0) (.string ⟨#[]⟩) (.bool false)
    unfold put5H at hN8 hk8
    refine nx_end hN8 ((hk8.2 _ (by have := H6.out.2; omega) (by have := H6.out.2; omega)).trans H7.out.2) H6.out.2 rfl rfl ?_
    refine ⟨rfl, ?_⟩
    have hm := nx_moves (F1 := fun _ => False) hN8.mv (fun k hk => hk.elim) H6.out.2
    exact hm.below (fun k hk => hk.elim) (Nat.le_refl _)
  case stop =>
    intro c pre F' W hpre hx
    exact hx.elim
/-- The landed package does what is asked of it. -/
theorem framesI (w : World) : FramesI w zr16 RA16 where
  lt := fun h => h.lt
  same := fun h hs hb => h.same hs hb
  new := fun m w' _ => wnew16_any m w'
  zero := zero16
  feed := fun s h _ hl => wfeed16_any s h hl
  feed0 := fun s w' _ _ => wfeed16_0 s w'
  next := fun h _ => wnext16_any h
  next0 := fun w' _ => wnext16_0 w'
  all := fun h _ => wall16_any h
  all0 := fun w' _ => wall16_0 w'
  bad := fun h _ => wbad16_any h
  bad0 := fun w' _ => wbad16_0 w'
  idle := fun h _ => widle16_any h
  idle0 := fun w' _ => widle16_0 w'
end Go.Proofs.Ytlmolmmhkddpaaa
