/- The landed package of frames as they come: read walked. -/
import Derived.Test.YtlmolmmhkddpaaaHw4
import Derived.Test.YtlmolmmhkddpaaaHm4
namespace Go.Proofs.Ytlmolmmhkddpaaa
open Go.RowKit
attribute [local go_sem] store_one B_match B_store S_match S_store eguard_BN nguard_BN

theorem RA16.keeps {w w' : World} {F : Nat → Prop} {g b : Nat} {st : Fst} (h : RA16 w F g st) (hk : Keeps b w w') (hb : ∀ k, F k → k ≠ b) : RA16 w' F g st := h.same hk.size fun k hf => hk.block k (h.lt.2 k hf) (hb k hf)
theorem Moves.then16 {F F' : Nat → Prop} {w W W' : World} {b : Nat} (h : Moves F F' w W) (hk : Keeps b W W') (hle : w.heap.size ≤ b) : Moves F F' w W' :=
  ⟨hk.os.trans h.os, hk.tape.trans h.tape, hk.output.trans h.output, Nat.le_trans h.size hk.size, h.foot, fun k h1 h2 => (hk.block k (Nat.lt_of_lt_of_le h1 h.size) (by omega)).trans (h.rest k h1 h2)⟩
theorem nextV_form (st : Fst) : ∃ (e : Ev) (b : Bool), nextV st = .tuple #[evV e, .bool b] := by
  unfold nextV
  cases nextF st with
  | none => exact ⟨ev0, false, rfl⟩
  | some x => exact ⟨x.1, true, rfl⟩
theorem next_bad {st : Fst} (h : st.bad = true) : nextF st = none := by unfold nextF; rw [if_pos h]
theorem next_over {st : Fst} {k : Key4} {a : Nat} (hb : st.bad = false) (hc : st.cur = some (k, a, 0)) : nextF st = some (endE, { st with cur := none }) := by
  unfold nextF
  rw [hb, hc, if_neg Bool.false_ne_true]
  dsimp only
  rw [if_pos rfl]
section
variable {w : World} {F : Nat → Prop} {g : Nat} {st : Fst}
set_option maxRecDepth 100000 in
set_option maxHeartbeats 2000000 in
theorem wread16_any (h : RA16 w F g st) : Calls Try.prog 25 #[.pointer (some ⟨g, 0, none⟩)] w (NextR F g st w) := by
  have h0 := h
  obtain ⟨x, v, ow, h, hsy⟩ := h
  obtain ⟨W1, hW1⟩ : ∃ W, W = w.alloc (.cells #[.int .i64 0, .int .i64 0, .bool false, .int .i64 0, .string ⟨#[]⟩] 29) := ⟨_, rfl⟩
  obtain ⟨b2, hb2⟩ : ∃ b, b = w.heap.size := ⟨_, rfl⟩
  have hB1 : Below w.heap.size w W1 := by rw [hW1]; exact (Below.refl _ w).alloc (Nat.le_refl _) _
  have hr1 : Row W1 b2 #[.int .i64 0, .int .i64 0, .bool false, .int .i64 0, .string ⟨#[]⟩] 29 := by rw [hW1, hb2]; exact row_new w _ _
  have hA1 := h.below hB1
  have c2 := hA1.cells.1.2.2.1
  have hFb : ∀ k, F k → k ≠ b2 := fun k hk => Nat.ne_of_lt (by rw [hb2]; exact h.old k hk)
  obtain ⟨N, hN⟩ : ∃ N, N = x.nx := ⟨_, rfl⟩
  rw [← hN] at c2
  have H1 := Lib.hid (And.intro hB1 (And.intro hr1 (And.intro hA1 (And.intro hFb hb2))))
  -- what comes of a read, put into the result
  have HPUT : Hid (∀ (W2 : World) (F' : Nat → Prop) (e : Ev) (b : Bool) (c0 c1 c2 c3 c4 : Value), evC e = #[c0, c1, c2, c3, c4] → nextV st = .tuple #[evV e, .bool b] → RA16 W2 F' g (nextS st) → Moves F F' W1 W2 → NextR F g st w (.returned (.tuple #[.agg #[c0, c1, c2, c3, c4], .bool b])) (put5H W2 b2 c0 c1 c2 c3 c4) ∧ Row (put5H W2 b2 c0 c1 c2 c3 c4) b2 #[c0, c1, c2, c3, c4] 29 ∧ Row W2 b2 #[.int .i64 0, .int .i64 0, .bool false, .int .i64 0, .string ⟨#[]⟩] 29) := Lib.hid fun W2 F' e b c0 c1 c2 c3 c4 hce hv hR hM => by
    have hr2 := hr1.moves hM (fun e => hFb b2 e rfl)
    have hk := put5H_keeps W2 b2 c0 c1 c2 c3 c4
    refine ⟨⟨by rw [hv, evV, hce], F', hR.keeps hk (fun k hf => ?_), ((Moves.of_below hB1).trans hM).then16 hk (by rw [hb2]; exact Nat.le_refl _)⟩, put5H_row hr2 _ _ _ _ _, hr2⟩
    rcases hM.foot k hf with h1 | h1
    · exact hFb k h1
    · have := hr1.lt; omega
  have hsx := hsy
  clear hB1 hr1 hA1 hFb
  cases hb : st.bad with
  | true =>
    have hn3 : N = 3 := by rw [hN]; exact (hsy.2.1 hb).1
    subst hn3
    obtain ⟨hv, hs⟩ := next_no (next_bad hb)
    have HP : Hid (NextR F g st w (.returned (.tuple #[.agg #[.int .i64 0, .int .i64 0, .bool false, .int .i64 0, .string ⟨#[]⟩], .bool false])) W1) := Lib.hid ⟨by rw [hv], F, by rw [hs]; exact ⟨x, v, ow, H1.out.2.2.1, hsx⟩, Moves.of_below H1.out.1⟩
    clear h h0 hsy hsx hb hN hv hs HPUT
    rw [hW1] at c2
    go_enter Try.func25, Try.ntmps25
    go_wp2
    rw [← hW1, ← hb2]
    refine bodyPost_ret (ev_end rfl _ W1 b2 _ rfl H1.out.2.1 rfl) rfl ?_
    exact HP.out
  | false =>
    obtain ⟨-, hn1, hn2⟩ := hsy.2.2 hb
    cases hc : st.cur with
    | none =>
      have hn3 : N = 0 := by rw [hN]; exact hn1 hc
      subst hn3
      have HC := Lib.hid (whead16_any H1.out.2.2.1 hsx hb hc)
      obtain ⟨ee, bb, hev⟩ := nextV_form st
      have HEV := Lib.hid hev
      rw [hW1] at c2
      clear h h0 hsy hsx hb hN hn1 hn2 hc hev
      go_enter Try.func25, Try.ntmps25
      go_wp2_with fail
      rw [← hW1, ← hb2]
      clear hW1 hb2 c2
      refine HC.out.mono ?_
      rintro e W2 ⟨rfl, F', hR, hM⟩
      rw [HEV.out]
      have HP := Lib.hid (HPUT.out W2 F' ee bb (.int .i64 (ee.kind : Int)) (.int .i64 (ee.op : Int)) (.bool ee.fin) (.int .i64 (ee.len : Int)) (S ee.text) rfl HEV.out hR hM)
      have hrq := HP.out.2.2
      have z0 : W2.cell? ⟨b2, 0, none⟩ = some (.int .i64 0) := cell_of_row W2 _ 0 _ _ (0, 0) hrq
      have zf0 : W2.frozen? ⟨b2, 0, none⟩ = false := Row.frozen hrq 0
      have z1 : W2.cell? ⟨b2, 1, none⟩ = some (.int .i64 0) := cell_of_row W2 _ 1 _ _ (0, 0) hrq
      have zf1 : W2.frozen? ⟨b2, 1, none⟩ = false := Row.frozen hrq 1
      have z2 : W2.cell? ⟨b2, 2, none⟩ = some (.bool false) := cell_of_row W2 _ 2 _ _ (0, 0) hrq
      have zf2 : W2.frozen? ⟨b2, 2, none⟩ = false := Row.frozen hrq 2
      have z3 : W2.cell? ⟨b2, 3, none⟩ = some (.int .i64 0) := cell_of_row W2 _ 3 _ _ (0, 0) hrq
      have zf3 : W2.frozen? ⟨b2, 3, none⟩ = false := Row.frozen hrq 3
      have z4 : W2.cell? ⟨b2, 4, none⟩ = some (.string ⟨#[]⟩) := cell_of_row W2 _ 4 _ _ (0, 0) hrq
      have zf4 : W2.frozen? ⟨b2, 4, none⟩ = false := Row.frozen hrq 4
      unfold evV evC
      clear hR hM hrq HC HPUT
      go_wp2
      refine bodyPost_ret (ev_end rfl _ _ b2 _ rfl HP.out.2.1 rfl) rfl ?_
      exact HP.out.1
    | some y =>
      obtain ⟨k, a, l⟩ := y
      obtain ⟨-, -, hl, hn3, -⟩ := hn2 k a l hc
      by_cases hl0 : l = 0
      · subst hl0
        have hn4 : N = 2 := by rw [hN, hn3]; rfl
        subst hn4
        obtain ⟨hv, hs⟩ := next_yes (next_over hb hc)
        have hA2 := H1.out.2.2.1.put ⟨x.msk, 0, x.key, x.told, x.lacks⟩ 2 (.int .i64 0) rfl
        have hm2 := moves_cell16 W1 h.foot 2 (.int .i64 0)
        have hsy2 : SaysH ⟨x.msk, 0, x.key, x.told, x.lacks⟩ { st with cur := none } := ⟨hsx.1, fun e => absurd (show st.bad = true from e) (by rw [hb]; exact Bool.false_ne_true), fun _ => ⟨(hsx.2.2 hb).1, fun _ => rfl, fun _ _ _ e => (by cases e)⟩⟩
        obtain ⟨W2, hW2⟩ : ∃ W, W = W1.setCell ⟨g, 2, none⟩ (.int .i64 0) := ⟨_, rfl⟩
        rw [← hW2] at hA2 hm2
        have HP := Lib.hid (HPUT.out W2 F endE true (.int .i64 3) (.int .i64 0) (.bool false) (.int .i64 0) (.string ⟨#[]⟩) rfl hv (by rw [hs]; exact ⟨_, v, ow, hA2, hsy2⟩) hm2)
        have f2 := H1.out.2.2.1.cells.2 2
        have hrq := HP.out.2.2
        have z0 : W2.cell? ⟨b2, 0, none⟩ = some (.int .i64 0) := cell_of_row W2 _ 0 _ _ (0, 0) hrq
        have zf0 : W2.frozen? ⟨b2, 0, none⟩ = false := Row.frozen hrq 0
        have z1 : W2.cell? ⟨b2, 1, none⟩ = some (.int .i64 0) := cell_of_row W2 _ 1 _ _ (0, 0) hrq
        have zf1 : W2.frozen? ⟨b2, 1, none⟩ = false := Row.frozen hrq 1
        have z2 : W2.cell? ⟨b2, 2, none⟩ = some (.bool false) := cell_of_row W2 _ 2 _ _ (0, 0) hrq
        have zf2 : W2.frozen? ⟨b2, 2, none⟩ = false := Row.frozen hrq 2
        have z3 : W2.cell? ⟨b2, 3, none⟩ = some (.int .i64 0) := cell_of_row W2 _ 3 _ _ (0, 0) hrq
        have zf3 : W2.frozen? ⟨b2, 3, none⟩ = false := Row.frozen hrq 3
        have z4 : W2.cell? ⟨b2, 4, none⟩ = some (.string ⟨#[]⟩) := cell_of_row W2 _ 4 _ _ (0, 0) hrq
        have zf4 : W2.frozen? ⟨b2, 4, none⟩ = false := Row.frozen hrq 4
        clear h h0 hsy hsx hb hN hrq hv hs HPUT hn1 hn2 hc hn3 hl hA2 hm2 hsy2
        rw [hW2, hW1, hb2] at z0 zf0 z1 zf1 z2 zf2 z3 zf3 z4 zf4
        rw [hW1] at c2 f2
        go_enter Try.func25, Try.ntmps25
        go_wp2
        rw [← hW1, ← hW2, ← hb2]
        refine bodyPost_ret (ev_end rfl _ _ b2 _ rfl HP.out.2.1 rfl) rfl ?_
        exact HP.out.1
      · have hn4 : N = 1 := by rw [hN, hn3, if_neg hl0]
        subst hn4
        have HC := Lib.hid (wdata16_any H1.out.2.2.1 hsx hb hc hl0)
        obtain ⟨ee, bb, hev⟩ := nextV_form st
        have HEV := Lib.hid hev
        rw [hW1] at c2
        clear h h0 hsy hsx hb hN hn1 hn2 hc hev hn3 hl hl0
        go_enter Try.func25, Try.ntmps25
        go_wp2_with fail
        rw [← hW1, ← hb2]
        clear hW1 hb2 c2
        refine HC.out.mono ?_
        rintro e W2 ⟨rfl, F', hR, hM⟩
        rw [HEV.out]
        have HP := Lib.hid (HPUT.out W2 F' ee bb (.int .i64 (ee.kind : Int)) (.int .i64 (ee.op : Int)) (.bool ee.fin) (.int .i64 (ee.len : Int)) (S ee.text) rfl HEV.out hR hM)
        have hrq := HP.out.2.2
        have z0 : W2.cell? ⟨b2, 0, none⟩ = some (.int .i64 0) := cell_of_row W2 _ 0 _ _ (0, 0) hrq
        have zf0 : W2.frozen? ⟨b2, 0, none⟩ = false := Row.frozen hrq 0
        have z1 : W2.cell? ⟨b2, 1, none⟩ = some (.int .i64 0) := cell_of_row W2 _ 1 _ _ (0, 0) hrq
        have zf1 : W2.frozen? ⟨b2, 1, none⟩ = false := Row.frozen hrq 1
        have z2 : W2.cell? ⟨b2, 2, none⟩ = some (.bool false) := cell_of_row W2 _ 2 _ _ (0, 0) hrq
        have zf2 : W2.frozen? ⟨b2, 2, none⟩ = false := Row.frozen hrq 2
        have z3 : W2.cell? ⟨b2, 3, none⟩ = some (.int .i64 0) := cell_of_row W2 _ 3 _ _ (0, 0) hrq
        have zf3 : W2.frozen? ⟨b2, 3, none⟩ = false := Row.frozen hrq 3
        have z4 : W2.cell? ⟨b2, 4, none⟩ = some (.string ⟨#[]⟩) := cell_of_row W2 _ 4 _ _ (0, 0) hrq
        have zf4 : W2.frozen? ⟨b2, 4, none⟩ = false := Row.frozen hrq 4
        unfold evV evC
        clear hR hM hrq HC HPUT
        go_wp2
        refine bodyPost_ret (ev_end rfl _ _ b2 _ rfl HP.out.2.1 rfl) rfl ?_
        exact HP.out.1
end
end Go.Proofs.Ytlmolmmhkddpaaa
