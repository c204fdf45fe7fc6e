/- The landed package of frames as they come: All, its iterator, Next walked. -/
import Derived.Test.YtlmolmmhkddpaaaHw5
import Derived.Test.YtlmolmmhkddpaaaGen3
namespace Go.Proofs.Ytlmolmmhkddpaaa
open Go.RowKit
attribute [local go_sem] store_one Oper.semAt_some S_match S_store

theorem step16 {st : Fst} {pre : List Ev} (hp : pre <+: allF st) : (nextF (stepS st pre.length) = none → pre = allF st) ∧ ∀ e s', nextF (stepS st pre.length) = some (e, s') → pre ++ [e] <+: allF st ∧ stepS st (pre ++ [e]).length = s' := by
  obtain ⟨t, ht⟩ := hp
  have hl : pre.length ≤ (allF st).length := by rw [← ht, List.length_append]; omega
  have hs := all_step pre.length st hl
  have hd : (allF st).drop pre.length = t := by rw [← ht]; simp
  rw [hd] at hs
  refine ⟨fun hn => ?_, fun e s' hn => ?_⟩
  · rw [(all_none hn).1] at hs
    rw [← ht, ← hs, List.append_nil]
  · rw [(all_some hn).1] at hs
    have hp2 : pre ++ [e] <+: allF st := ⟨allF s', by rw [← ht, ← hs, List.append_assoc]; rfl⟩
    refine ⟨hp2, ?_⟩
    rw [List.length_append, List.length_singleton, ← (all_head hp2).choose_spec.2, step_succ hn]
    rfl
/-- What is left to read, off memory. -/
def mcost (g : Nat) (W : World) : Nat := 2 * (match W.cell? ⟨g, 1, none⟩ with | some (.slice _ n _) => n | _ => 0) + (match W.cell? ⟨g, 2, none⟩ with | some (.int _ n) => if n = 1 ∨ n = 2 then 1 else 0 | _ => 0)
theorem mcost_is {w : World} {F : Nat → Prop} {g : Nat} {st : Fst} (h : RA16 w F g st) : mcost g w = if st.bad then 0 else costF st := by
  obtain ⟨x, v, ow, h, hs⟩ := h
  obtain ⟨⟨c0, c1, c2, c7, c8⟩, fz⟩ := h.cells
  obtain ⟨a, c, hv, -⟩ := h.wait.form
  unfold mcost
  rw [c1, c2, hv]
  dsimp only
  cases hb : st.bad with
  | true =>
    obtain ⟨h1, h2⟩ := hs.2.1 hb
    rw [h1, h2]; rfl
  | false =>
    obtain ⟨-, h1, h2⟩ := hs.2.2 hb
    unfold costF
    rw [if_neg Bool.false_ne_true]
    cases hc : st.cur with
    | none => rw [h1 hc]; rfl
    | some y =>
      obtain ⟨k, a, l⟩ := y
      rw [(h2 k a l hc).2.2.2.1]
      split <;> rfl
theorem mcost_less {w w' : World} {F F' : Nat → Prop} {g : Nat} {st st' : Fst} {e : Ev} (h : RA16 w F g st) (h' : RA16 w' F' g st') (hn : nextF st = some (e, st')) : mcost g w' < mcost g w := by
  have hb : st.bad = false := by
    cases hb : st.bad with
    | false => rfl
    | true => rw [next_bad hb] at hn; cases hn
  rw [mcost_is h, mcost_is h', hb, if_neg Bool.false_ne_true]
  have := next_cost hn
  split <;> omega
theorem mcost_cells {g : Nat} {w w' : World} (h : w'.heap[g]? = w.heap[g]?) : mcost g w' = mcost g w := by
  have e : ∀ i, w'.cell? ⟨g, i, none⟩ = w.cell? ⟨g, i, none⟩ := fun i => World.cell?_of_block h
  unfold mcost
  rw [e 1, e 2]
/-- How the reader stands between two rounds, and the box of the iterator. -/
structure SAll (st : Fst) (g Bs : Nat) (pre : List Ev) (F : Nat → Prop) (W : World) : Prop where
  box : Row W Bs #[.pointer (some ⟨g, 0, none⟩)] 22
  inF : F Bs
  old : ∀ k, F k → k < W.heap.size
  rd : ∃ F0, RA16 W F0 g (stepS st pre.length) ∧ (∀ k, F0 k → F k) ∧ ¬ F0 Bs
theorem SAll.kept {st : Fst} {g Bs : Nat} {pre : List Ev} {F : Nat → Prop} {W W' : World} (h : SAll st g Bs pre F W) (hk : Kept F W W') : SAll st g Bs pre F W' := by
  obtain ⟨F0, h1, h2, h3⟩ := h.rd
  exact ⟨(hk.same Bs h.inF).trans h.box, h.inF, fun k hf => Nat.lt_of_lt_of_le (h.old k hf) hk.size, F0, h1.same hk.size (fun k hf => hk.same k (h2 k hf)), h2, h3⟩
theorem encE_one (e : Ev) : encE e = #[.agg #[.int .i64 (e.kind : Int), .int .i64 (e.op : Int), .bool e.fin, .int .i64 (e.len : Int), S e.text]] := rfl
set_option maxRecDepth 100000 in
set_option maxHeartbeats 2000000 in
theorem all16_seq (st : Fst) (g Bs : Nat) (n : Nat) :
    SeqM Try.prog n 24 #[.pointer (some ⟨Bs, 0, none⟩)] encE (allF st) (SAll st g Bs) := fun l J Jx W F hSt hJ hJx hY h0 => by
  have cs : W.cell? ⟨Bs, 0, none⟩ = some (.pointer (some ⟨g, 0, none⟩)) := cell_of_row W Bs 0 _ _ (0, 0) hSt.box
  have hnf : ∀ w, (binOp .eql 64 (.func (.yield l) #[] #[]) .nilFunc).run Try.prog w = .ok (.bool false) w := eql_nilFunc Try.underlying64 _ _ _
  refine callsIn_of_wp Try.func24 rfl trivial ?_ rfl
  simp only [Try.ntmps24, List.size_toArray, List.length_cons, List.length_nil, Nat.reduceAdd, Nat.reduceSub, Array.replicate_succ, Array.replicate_zero, List.push_toArray, List.append_toArray, List.nil_append, List.cons_append]
  have HJ := Lib.hid (And.intro hJ hJx)
  have HY := Lib.hid hY
  have H0 := Lib.hid (And.intro h0 hSt)
  clear hJ hJx hY h0 hSt
  gi_wp2
  gi_loopw [3, 4] (fun bv ov wr => ∃ (pre : List Ev) (F : Nat → Prop), Hid (pre <+: allF st ∧ J pre F wr ∧ SAll st g Bs pre F wr) ∧ wr.cell? ⟨Bs, 0, none⟩ = some (.pointer (some ⟨g, 0, none⟩))) (fun _ _ wr => mcost g wr)
  case atStart => exact ⟨[], F, Lib.hid ⟨List.nil_prefix, H0.out⟩, cs⟩
  case round =>
    obtain ⟨pre, Fr, HI, cs2⟩ := hrel
    obtain ⟨F0, hR0, hF0, hB0⟩ := HI.out.2.2.rd
    have HRD := Lib.hid (wread16_any hR0)
    have HS := Lib.hid (step16 HI.out.1)
    have HG := Lib.hid (And.intro hR0 (And.intro hF0 hB0))
    clear hR0 hF0 hB0
    gi_wp2_with fail
    refine ⟨trivial, fun h => absurd h (by simp [Fence.wide]), (callsIn_wide.2 HRD.out).mono ?_⟩
    rintro e W2 ⟨rfl, F', hR, hM⟩
    -- what stands behind the read
    obtain ⟨G, hG⟩ : ∃ G : Nat → Prop, G = fun k => F' k ∨ Fr k := ⟨_, rfl⟩
    have hMG : Moves Fr G wr W2 := ⟨hM.os, hM.tape, hM.output, hM.size, fun k hk => by
      rw [hG] at hk
      rcases hk with hk | hk
      · exact (hM.foot k hk).imp (HG.out.2.1 k) id
      · exact .inl hk, fun k h1 h2 => hM.rest k h1 fun e => h2 (HG.out.2.1 k e)⟩
    have hbx : Row W2 Bs #[.pointer (some ⟨g, 0, none⟩)] 22 := HI.out.2.2.box.moves hM HG.out.2.2
    have hF'B : ¬ F' Bs := fun e => by
      rcases hM.foot Bs e with h1 | h1
      · exact HG.out.2.2 h1
      · have := HI.out.2.2.box.lt; omega
    have hold : ∀ k, G k → k < W2.heap.size := fun k hk => by
      rw [hG] at hk
      rcases hk with hk | hk
      · exact hR.lt.2 k hk
      · exact Nat.lt_of_lt_of_le (HI.out.2.2.old k hk) hM.size
    have HW : Hid ((∀ k, F' k → G k) ∧ G Bs ∧ ¬ F' Bs ∧ (∀ k, G k → k < W2.heap.size) ∧ Row W2 Bs #[.pointer (some ⟨g, 0, none⟩)] 22 ∧ Moves Fr G wr W2 ∧ RA16 W2 F' g (nextS (stepS st pre.length))) := Lib.hid ⟨fun k hk => by rw [hG]; exact .inl hk, by rw [hG]; exact .inr HI.out.2.2.inF, hF'B, hold, hbx, hMG, hR⟩
    clear hR hM hG hMG hbx hF'B hold HRD
    cases hn : nextF (stepS st pre.length) with
    | none =>
      obtain ⟨hv, hs⟩ := next_no hn
      have HE := Lib.hid (HS.out.1 hn)
      obtain ⟨W3, hW3⟩ : ∃ W, W = W2.alloc (.cells #[.int .i64 0, .int .i64 0, .bool false, .int .i64 0, .string ⟨#[]⟩] 29) := ⟨_, rfl⟩
      have H3 : Hid (J pre G W3 ∧ SAll st g Bs pre G W3) := Lib.hid (by
        have hb3 : Below W2.heap.size W2 W3 := by rw [hW3]; exact (Below.refl _ W2).alloc (Nat.le_refl _) _
        refine ⟨HJ.out.1 _ _ _ _ _ (HJ.out.1 _ _ _ _ _ HI.out.2.1 HW.out.2.2.2.2.2.1) (Moves.of_below hb3), HW.out.2.2.2.2.1.below hb3 HW.out.2.2.2.2.1.lt, HW.out.2.1, fun k hk => Nat.lt_of_lt_of_le (HW.out.2.2.2.1 k hk) hb3.size, F', ?_, HW.out.1, HW.out.2.2.1⟩
        have := HW.out.2.2.2.2.2.2.below hb3
        rw [hs] at this
        exact this)
      clear hn hs
      rw [hv]
      clear hv
      rw [hW3] at H3
      clear hW3
      gi_wp2
      refine ⟨fun f e => (by cases e), ?_⟩
      gi_wp2
      refine bodyPost_ret (results_none rfl _ _ _) rfl ?_
      exact ⟨⟨_, rfl⟩, G, .inl (by rw [← HE.out]; exact H3.out)⟩
    | some y =>
      obtain ⟨e, s'⟩ := y
      obtain ⟨hv, hs⟩ := next_yes hn
      obtain ⟨hp2, hs2⟩ := HS.out.2 e s' hn
      obtain ⟨W3, hW3⟩ : ∃ W, W = W2.alloc (.cells (evC e) 29) := ⟨_, rfl⟩
      have hb3 : Below W2.heap.size W2 W3 := by rw [hW3]; exact (Below.refl _ W2).alloc (Nat.le_refl _) _
      have hR3 : RA16 W3 F' g s' := by
        have := HW.out.2.2.2.2.2.2.below hb3
        rw [hs] at this
        exact this
      have hS3 : SAll st g Bs (pre ++ [e]) G W3 := ⟨HW.out.2.2.2.2.1.below hb3 HW.out.2.2.2.2.1.lt, HW.out.2.1, fun k hk => Nat.lt_of_lt_of_le (HW.out.2.2.2.1 k hk) hb3.size, F', by rw [hs2]; exact hR3, HW.out.1, HW.out.2.2.1⟩
      have hJ3 : J pre G W3 := HJ.out.1 _ _ _ _ _ (HJ.out.1 _ _ _ _ _ HI.out.2.1 HW.out.2.2.2.2.2.1) (Moves.of_below hb3)
      have hr3 : Row W3 W2.heap.size (evC e) 29 := by rw [hW3]; exact row_new W2 _ _
      obtain ⟨fn, tmps, assign, body, hy, hRd⟩ := HY.out pre e G W3 hp2 hJ3 hS3
      rw [encE_one] at hy
      have HR := Lib.hid hRd
      have HP := Lib.hid (And.intro hp2 (mcost_less HG.out.1 hR3 hn))
      have H3 := Lib.hid hS3
      have HR3 := Lib.hid hR3
      unfold evC at hr3 hW3
      have e0 : W3.cell? ⟨W2.heap.size, 0, none⟩ = some (.int .i64 (e.kind : Int)) := cell_of_row W3 _ 0 _ _ (0, 0) hr3
      have e1 : W3.cell? ⟨W2.heap.size, 1, none⟩ = some (.int .i64 (e.op : Int)) := cell_of_row W3 _ 1 _ _ (0, 0) hr3
      have e2 : W3.cell? ⟨W2.heap.size, 2, none⟩ = some (.bool e.fin) := cell_of_row W3 _ 2 _ _ (0, 0) hr3
      have e3 : W3.cell? ⟨W2.heap.size, 3, none⟩ = some (.int .i64 (e.len : Int)) := cell_of_row W3 _ 3 _ _ (0, 0) hr3
      have e4 : W3.cell? ⟨W2.heap.size, 4, none⟩ = some (S e.text) := cell_of_row W3 _ 4 _ _ (0, 0) hr3
      rw [hW3] at e0 e1 e2 e3 e4 hy
      rw [hv]
      unfold evV evC
      clear hb3 hS3 hJ3 hr3 hRd hn hs hp2 hs2 hv hR3
      gi_wp2_with fail
      rw [← hW3]
      clear e0 e1 e2 e3 e4 hy
      refine ⟨fun h => absurd h (by simp [Fence.wide]), HR.out.mono ?_⟩
      rintro e5 W4 (⟨rfl, hJ4, hk4⟩ | ⟨rfl, hJx4, hk4⟩)
      · have hS4 := H3.out.kept hk4
        have hg4 : mcost g W4 = mcost g W3 := mcost_cells (hk4.same g (HW.out.1 g HR3.out.lt.1))
        have cs4 : W4.cell? ⟨Bs, 0, none⟩ = some (.pointer (some ⟨g, 0, none⟩)) := cell_of_row W4 Bs 0 _ _ (0, 0) hS4.box
        have H4 := Lib.hid (And.intro hJ4 (And.intro hS4 hg4))
        clear hJ4 hk4 hS4 hg4 hW3
        gi_wp2
        exact ⟨⟨pre ++ [e], G, Lib.hid ⟨HP.out.1, H4.out.1, H4.out.2.1⟩, cs4⟩, by rw [H4.out.2.2]; exact HP.out.2⟩
      · have H4 := Lib.hid (And.intro hJx4 (H3.out.kept hk4))
        clear hJx4 hk4 hW3
        gi_wp2
        refine bodyPost_ret (results_none rfl _ _ _) rfl ?_
        exact ⟨⟨_, rfl⟩, G, .inr ⟨pre ++ [e], HP.out.1, H4.out.1, H4.out.2⟩⟩
/-- The box of a nil reader's iterator. -/
structure SNone (Bs : Nat) (F : Nat → Prop) (W : World) : Prop where
  box : Row W Bs #[.pointer none] 22
  inF : F Bs
  old : ∀ k, F k → k < W.heap.size
set_option maxRecDepth 100000 in
set_option maxHeartbeats 2000000 in
theorem none16_seq (Bs : Nat) (n : Nat) : SeqM Try.prog n 24 #[.pointer (some ⟨Bs, 0, none⟩)] encE [] (fun _ F W => SNone Bs F W) := fun l J Jx W F hSt hJ hJx hY h0 => by
  have cs : W.cell? ⟨Bs, 0, none⟩ = some (.pointer none) := cell_of_row W Bs 0 _ _ (0, 0) hSt.box
  refine callsIn_of_wp Try.func24 rfl trivial ?_ rfl
  simp only [Try.ntmps24, List.size_toArray, List.length_cons, List.length_nil, Nat.reduceAdd, Nat.reduceSub, Array.replicate_succ, Array.replicate_zero, List.push_toArray, List.append_toArray, List.nil_append, List.cons_append]
  have H0 := Lib.hid (And.intro h0 hSt)
  clear hJ hJx hY h0 hSt
  gi_wp2
  refine bodyPost_ret (results_none rfl _ _ _) rfl ?_
  exact ⟨⟨_, rfl⟩, F, .inl H0.out⟩
set_option maxRecDepth 100000 in
set_option maxHeartbeats 400000 in
theorem wall16 (p : Option Addr) (w : World) : Calls Try.prog 19 #[.pointer p] w fun e w' => e = .returned (.func (.func 24) #[] #[.pointer (some ⟨w.heap.size, 0, none⟩)]) ∧ w' = w.alloc (.cells #[.pointer p] 22) := by
  go_enter Try.func19, Try.ntmps19
  go_wp2
  go_ret
  exact ⟨rfl, rfl⟩
theorem wall16_any {w : World} {F : Nat → Prop} {g : Nat} {st : Fst} (h : RA16 w F g st) : Calls Try.prog 19 #[.pointer (some ⟨g, 0, none⟩)] w fun e w' => ∃ gf lb, e = .returned (.func (.func gf) #[] lb) ∧ AllIs RA16 w F g st gf lb w' ∧ Below w.heap.size w w' := by
  refine (wall16 _ w).mono ?_
  rintro e w' ⟨rfl, rfl⟩
  have hb : Below w.heap.size w (w.alloc (.cells #[.pointer (some ⟨g, 0, none⟩)] 22)) := (Below.refl _ w).alloc (Nat.le_refl _) _
  have hr : Row (w.alloc (.cells #[.pointer (some ⟨g, 0, none⟩)] 22)) w.heap.size #[.pointer (some ⟨g, 0, none⟩)] 22 := row_new w _ _
  refine ⟨24, _, rfl, ⟨enters_of Try.func24 (by kernel_rfl) rfl, fun k => F k ∨ k = w.heap.size, SAll st g w.heap.size, ⟨hr, .inr rfl, fun k hk => ?_, F, h.below hb, fun k hk => .inl hk, fun e => by have := h.lt.2 _ e; omega⟩, fun k hk => ?_, fun pre F W W' hS hk => hS.kept hk, fun pre F W hS => hS.old, fun pre F W hS => ?_, all16_seq st g w.heap.size⟩, hb⟩
  · rcases hk with hk | hk
    · exact Nat.lt_of_lt_of_le (h.lt.2 k hk) hb.size
    · rw [hk]; exact hr.lt
  · rcases hk with hk | hk
    · exact .inl hk
    · exact .inr ⟨by omega, by rw [hk]; exact hr.lt⟩
  · obtain ⟨F0, h1, h2, -⟩ := hS.rd
    exact ⟨F0, h1, h2⟩
theorem wall16_0 (w : World) : Calls Try.prog 19 #[.pointer none] w fun e w' => ∃ gf lb, e = .returned (.func (.func gf) #[] lb) ∧ NoneIs w gf lb w' ∧ Below w.heap.size w w' := by
  refine (wall16 _ w).mono ?_
  rintro e w' ⟨rfl, rfl⟩
  have hb : Below w.heap.size w (w.alloc (.cells #[.pointer none] 22)) := (Below.refl _ w).alloc (Nat.le_refl _) _
  have hr : Row (w.alloc (.cells #[.pointer none] 22)) w.heap.size #[.pointer none] 22 := row_new w _ _
  refine ⟨24, _, rfl, ⟨enters_of Try.func24 (by kernel_rfl) rfl, fun k => k = w.heap.size, fun _ F W => SNone w.heap.size F W, ⟨hr, rfl, fun k hk => by rw [hk]; exact hr.lt⟩, fun k hk => ⟨by omega, by rw [hk]; exact hr.lt⟩, fun pre F W W' hS hk => ⟨(hk.same _ hS.inF).trans hS.box, hS.inF, fun k hf => Nat.lt_of_lt_of_le (hS.old k hf) hk.size⟩, fun pre F W hS => hS.old, none16_seq w.heap.size⟩, hb⟩
end Go.Proofs.Ytlmolmmhkddpaaa
