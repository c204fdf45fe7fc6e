/- The landed package of frames as they come: All, its iterator, Next walked. The landed package of frames as they come: Next walked; the interface. The landed packages of frames: what the statements ask of them. -/
import Derived.Test.YtlmolmmhkddpaaaHw5
import Derived.Test.YtlmolmmhkddpaaaGen3
namespace Go.Proofs.Ytlmolmmhkddpaaa
open Go.RowKit
attribute [local go_sem] store_one Oper.semAt_some S_match S_store

theorem step16 {st : Fst} {pre : List Ev} (hp : pre <+: allF st) : (nextF (stepS st pre.length) = none → pre = allF st) ∧ ∀ e s', nextF (stepS st pre.length) = some (e, s') → pre ++ [e] <+: allF st ∧ stepS st (pre ++ [e]).length = s' := by
  obtain ⟨t, ht⟩ := hp
  have hl : pre.length ≤ (allF st).length := by rw [← ht, List.length_append]; omega
  have hs := all_step pre.length st hl
  have hd : (allF st).drop pre.length = t := by rw [← ht]; simp
  rw [hd] at hs
  refine ⟨fun hn => ?_, fun e s' hn => ?_⟩
  · rw [(all_none hn).1] at hs
    rw [← ht, ← hs, List.append_nil]
  · rw [(all_some hn).1] at hs
    have hp2 : pre ++ [e] <+: allF st := ⟨allF s', by rw [← ht, ← hs, List.append_assoc]; rfl⟩
    refine ⟨hp2, ?_⟩
    rw [List.length_append, List.length_singleton, ← (all_head hp2).choose_spec.2, step_succ hn]
    rfl
/-- What is left to read, off memory. -/
def mcost (g : Nat) (W : World) : Nat := 2 * (match W.cell? ⟨g, 1, none⟩ with | some (.slice _ n _) => n | _ => 0) + (match W.cell? ⟨g, 2, none⟩ with | some (.int _ n) => if n = 1 ∨ n = 2 then 1 else 0 | _ => 0)
theorem mcost_is {w : World} {F : Nat → Prop} {g : Nat} {st : Fst} (h : RA16 w F g st) : mcost g w = if st.bad then 0 else costF st := by
  obtain ⟨x, v, ow, h, hs⟩ := h
  obtain ⟨⟨c0, c1, c2, c7, c8⟩, fz⟩ := h.cells
  obtain ⟨a, c, hv, -⟩ := h.wait.form
  unfold mcost
  rw [c1, c2, hv]
  dsimp only
  cases hb : st.bad with
  | true =>
    obtain ⟨h1, h2⟩ := hs.2.1 hb
    rw [h1, h2]; rfl
  | false =>
    obtain ⟨-, h1, h2⟩ := hs.2.2 hb
    unfold costF
    rw [if_neg Bool.false_ne_true]
    cases hc : st.cur with
    | none => rw [h1 hc]; rfl
    | some y =>
      obtain ⟨k, a, l⟩ := y
      rw [(h2 k a l hc).2.2.2.1]
      split <;> rfl
theorem mcost_less {w w' : World} {F F' : Nat → Prop} {g : Nat} {st st' : Fst} {e : Ev} (h : RA16 w F g st) (h' : RA16 w' F' g st') (hn : nextF st = some (e, st')) : mcost g w' < mcost g w := by
  have hb : st.bad = false := by
    cases hb : st.bad with
    | false => rfl
    | true => rw [next_bad hb] at hn; cases hn
  rw [mcost_is h, mcost_is h', hb, if_neg Bool.false_ne_true]
  have := next_cost hn
  split <;> omega
theorem mcost_cells {g : Nat} {w w' : World} (h : w'.heap[g]? = w.heap[g]?) : mcost g w' = mcost g w := by
  have e : ∀ i, w'.cell? ⟨g, i, none⟩ = w.cell? ⟨g, i, none⟩ := fun i => World.cell?_of_block h
  unfold mcost
  rw [e 1, e 2]
/-- How the reader stands between two rounds, and the box of the iterator. -/
structure SAll (st : Fst) (g Bs : Nat) (pre : List Ev) (F : Nat → Prop) (W : World) : Prop where
  box : Row W Bs #[.pointer (some ⟨g, 0, none⟩)] 22
  inF : F Bs
  old : ∀ k, F k → k < W.heap.size
  rd : ∃ F0, RA16 W F0 g (stepS st pre.length) ∧ (∀ k, F0 k → F k) ∧ ¬ F0 Bs
theorem SAll.kept {st : Fst} {g Bs : Nat} {pre : List Ev} {F : Nat → Prop} {W W' : World} (h : SAll st g Bs pre F W) (hk : Kept F W W') : SAll st g Bs pre F W' := by
  obtain ⟨F0, h1, h2, h3⟩ := h.rd
  exact ⟨(hk.same Bs h.inF).trans h.box, h.inF, fun k hf => Nat.lt_of_lt_of_le (h.old k hf) hk.size, F0, h1.same hk.size (fun k hf => hk.same k (h2 k hf)), h2, h3⟩
theorem encE_one (e : Ev) : encE e = #[.agg #[.int .i64 (e.kind : Int), .int .i64 (e.op : Int), .bool e.fin, .int .i64 (e.len : Int), S e.text]] := rfl
set_option maxRecDepth 100000 in
set_option maxHeartbeats 2000000 in
theorem all16_seq (st : Fst) (g Bs : Nat) (n : Nat) :
    SeqM Try.prog n 24 #[.pointer (some ⟨Bs, 0, none⟩)] encE (allF st) (SAll st g Bs) := fun l J Jx W F hSt hJ hJx hY h0 => by
  have cs : W.cell? ⟨Bs, 0, none⟩ = some (.pointer (some ⟨g, 0, none⟩)) := cell_of_row W Bs 0 _ _ (0, 0) hSt.box
  have hnf : ∀ w, (binOp .eql 64 (.func (.yield l) #[] #[]) .nilFunc).run Try.prog w = .ok (.bool false) w := eql_nilFunc Try.underlying64 _ _ _
  refine callsIn_of_wp Try.func24 rfl trivial ?_ rfl
  simp only [Try.ntmps24, List.size_toArray, List.length_cons, List.length_nil, Nat.reduceAdd, Nat.reduceSub, Array.replicate_succ, Array.replicate_zero, List.push_toArray, List.append_toArray, List.nil_append, List.cons_append]
  have HJ := Lib.hid (And.intro hJ hJx)
  have HY := Lib.hid hY
  have H0 := Lib.hid (And.intro h0 hSt)
  clear hJ hJx hY h0 hSt
  gi_wp2
  gi_loopw [3, 4] (fun bv ov wr => ∃ (pre : List Ev) (F : Nat → Prop), Hid (pre <+: allF st ∧ J pre F wr ∧ SAll st g Bs pre F wr) ∧ wr.cell? ⟨Bs, 0, none⟩ = some (.pointer (some ⟨g, 0, none⟩))) (fun _ _ wr => mcost g wr)
  case atStart => exact ⟨[], F, Lib.hid ⟨List.nil_prefix, H0.out⟩, cs⟩
  case round =>
    obtain ⟨pre, Fr, HI, cs2⟩ := hrel
    obtain ⟨F0, hR0, hF0, hB0⟩ := HI.out.2.2.rd
    have HRD := Lib.hid (wread16_any hR0)
    have HS := Lib.hid (step16 HI.out.1)
    have HG := Lib.hid (And.intro hR0 (And.intro hF0 hB0))
    clear hR0 hF0 hB0
    gi_wp2_with fail
    refine ⟨trivial, fun h => absurd h (by simp [Fence.wide]), (callsIn_wide.2 HRD.out).mono ?_⟩
    rintro e W2 ⟨rfl, F', hR, hM⟩
    -- what stands behind the read
    obtain ⟨G, hG⟩ : ∃ G : Nat → Prop, G = fun k => F' k ∨ Fr k := ⟨_, rfl⟩
    have hMG : Moves Fr G wr W2 := ⟨hM.os, hM.tape, hM.output, hM.size, fun k hk => by
      rw [hG] at hk
      rcases hk with hk | hk
      · exact (hM.foot k hk).imp (HG.out.2.1 k) id
      · exact .inl hk, fun k h1 h2 => hM.rest k h1 fun e => h2 (HG.out.2.1 k e)⟩
    have hbx : Row W2 Bs #[.pointer (some ⟨g, 0, none⟩)] 22 := HI.out.2.2.box.moves hM HG.out.2.2
    have hF'B : ¬ F' Bs := fun e => by
      rcases hM.foot Bs e with h1 | h1
      · exact HG.out.2.2 h1
      · have := HI.out.2.2.box.lt; omega
    have hold : ∀ k, G k → k < W2.heap.size := fun k hk => by
      rw [hG] at hk
      rcases hk with hk | hk
      · exact hR.lt.2 k hk
      · exact Nat.lt_of_lt_of_le (HI.out.2.2.old k hk) hM.size
    have HW : Hid ((∀ k, F' k → G k) ∧ G Bs ∧ ¬ F' Bs ∧ (∀ k, G k → k < W2.heap.size) ∧ Row W2 Bs #[.pointer (some ⟨g, 0, none⟩)] 22 ∧ Moves Fr G wr W2 ∧ RA16 W2 F' g (nextS (stepS st pre.length))) := Lib.hid ⟨fun k hk => by rw [hG]; exact .inl hk, by rw [hG]; exact .inr HI.out.2.2.inF, hF'B, hold, hbx, hMG, hR⟩
    clear hR hM hG hMG hbx hF'B hold HRD
    cases hn : nextF (stepS st pre.length) with
    | none =>
      obtain ⟨hv, hs⟩ := next_no hn
      have HE := Lib.hid (HS.out.1 hn)
      obtain ⟨W3, hW3⟩ : ∃ W, W = W2.alloc (.cells #[.int .i64 0, .int .i64 0, .bool false, .int .i64 0, .string ⟨#[]⟩] 29) := ⟨_, rfl⟩
      have H3 : Hid (J pre G W3 ∧ SAll st g Bs pre G W3) := Lib.hid (by
        have hb3 : Below W2.heap.size W2 W3 := by rw [hW3]; exact (Below.refl _ W2).alloc (Nat.le_refl _) _
        refine ⟨HJ.out.1 _ _ _ _ _ (HJ.out.1 _ _ _ _ _ HI.out.2.1 HW.out.2.2.2.2.2.1) (Moves.of_below hb3), HW.out.2.2.2.2.1.below hb3 HW.out.2.2.2.2.1.lt, HW.out.2.1, fun k hk => Nat.lt_of_lt_of_le (HW.out.2.2.2.1 k hk) hb3.size, F', ?_, HW.out.1, HW.out.2.2.1⟩
        have := HW.out.2.2.2.2.2.2.below hb3
        rw [hs] at this
        exact this)
      clear hn hs
      rw [hv]
      clear hv
      rw [hW3] at H3
      clear hW3
      gi_wp2
      refine ⟨fun f e => (by cases e), ?_⟩
      gi_wp2
      refine bodyPost_ret (results_none rfl _ _ _) rfl ?_
      exact ⟨⟨_, rfl⟩, G, .inl (by rw [← HE.out]; exact H3.out)⟩
    | some y =>
      obtain ⟨e, s'⟩ := y
      obtain ⟨hv, hs⟩ := next_yes hn
      obtain ⟨hp2, hs2⟩ := HS.out.2 e s' hn
      obtain ⟨W3, hW3⟩ : ∃ W, W = W2.alloc (.cells (evC e) 29) := ⟨_, rfl⟩
      have hb3 : Below W2.heap.size W2 W3 := by rw [hW3]; exact (Below.refl _ W2).alloc (Nat.le_refl _) _
      have hR3 : RA16 W3 F' g s' := by
        have := HW.out.2.2.2.2.2.2.below hb3
        rw [hs] at this
        exact this
      have hS3 : SAll st g Bs (pre ++ [e]) G W3 := ⟨HW.out.2.2.2.2.1.below hb3 HW.out.2.2.2.2.1.lt, HW.out.2.1, fun k hk => Nat.lt_of_lt_of_le (HW.out.2.2.2.1 k hk) hb3.size, F', by rw [hs2]; exact hR3, HW.out.1, HW.out.2.2.1⟩
      have hJ3 : J pre G W3 := HJ.out.1 _ _ _ _ _ (HJ.out.1 _ _ _ _ _ HI.out.2.1 HW.out.2.2.2.2.2.1) (Moves.of_below hb3)
      have hr3 : Row W3 W2.heap.size (evC e) 29 := by rw [hW3]; exact row_new W2 _ _
      obtain ⟨fn, tmps, assign, body, hy, hRd⟩ := HY.out pre e G W3 hp2 hJ3 hS3
      rw [encE_one] at hy
      have HR := Lib.hid hRd
      have HP := Lib.hid (And.intro hp2 (mcost_less HG.out.1 hR3 hn))
      have H3 := Lib.hid hS3
      have HR3 := Lib.hid hR3
      unfold evC at hr3 hW3
      have e0 : W3.cell? ⟨W2.heap.size, 0, none⟩ = some (.int .i64 (e.kind : Int)) := cell_of_row W3 _ 0 _ _ (0, 0) hr3
      have e1 : W3.cell? ⟨W2.heap.size, 1, none⟩ = some (.int .i64 (e.op : Int)) := cell_of_row W3 _ 1 _ _ (0, 0) hr3
      have e2 : W3.cell? ⟨W2.heap.size, 2, none⟩ = some (.bool e.fin) := cell_of_row W3 _ 2 _ _ (0, 0) hr3
      have e3 : W3.cell? ⟨W2.heap.size, 3, none⟩ = some (.int .i64 (e.len : Int)) := cell_of_row W3 _ 3 _ _ (0, 0) hr3
      have e4 : W3.cell? ⟨W2.heap.size, 4, none⟩ = some (S e.text) := cell_of_row W3 _ 4 _ _ (0, 0) hr3
      rw [hW3] at e0 e1 e2 e3 e4 hy
      rw [hv]
      unfold evV evC
      clear hb3 hS3 hJ3 hr3 hRd hn hs hp2 hs2 hv hR3
      gi_wp2_with fail
      rw [← hW3]
      clear e0 e1 e2 e3 e4 hy
      refine ⟨fun h => absurd h (by simp [Fence.wide]), HR.out.mono ?_⟩
      rintro e5 W4 (⟨rfl, hJ4, hk4⟩ | ⟨rfl, hJx4, hk4⟩)
      · have hS4 := H3.out.kept hk4
        have hg4 : mcost g W4 = mcost g W3 := mcost_cells (hk4.same g (HW.out.1 g HR3.out.lt.1))
        have cs4 : W4.cell? ⟨Bs, 0, none⟩ = some (.pointer (some ⟨g, 0, none⟩)) := cell_of_row W4 Bs 0 _ _ (0, 0) hS4.box
        have H4 := Lib.hid (And.intro hJ4 (And.intro hS4 hg4))
        clear hJ4 hk4 hS4 hg4 hW3
        gi_wp2
        exact ⟨⟨pre ++ [e], G, Lib.hid ⟨HP.out.1, H4.out.1, H4.out.2.1⟩, cs4⟩, by rw [H4.out.2.2]; exact HP.out.2⟩
      · have H4 := Lib.hid (And.intro hJx4 (H3.out.kept hk4))
        clear hJx4 hk4 hW3
        gi_wp2
        refine bodyPost_ret (results_none rfl _ _ _) rfl ?_
        exact ⟨⟨_, rfl⟩, G, .inr ⟨pre ++ [e], HP.out.1, H4.out.1, H4.out.2⟩⟩
/-- The box of a nil reader's iterator. -/
structure SNone (Bs : Nat) (F : Nat → Prop) (W : World) : Prop where
  box : Row W Bs #[.pointer none] 22
  inF : F Bs
  old : ∀ k, F k → k < W.heap.size
set_option maxRecDepth 100000 in
set_option maxHeartbeats 2000000 in
theorem none16_seq (Bs : Nat) (n : Nat) : SeqM Try.prog n 24 #[.pointer (some ⟨Bs, 0, none⟩)] encE [] (fun _ F W => SNone Bs F W) := fun l J Jx W F hSt hJ hJx hY h0 => by
  have cs : W.cell? ⟨Bs, 0, none⟩ = some (.pointer none) := cell_of_row W Bs 0 _ _ (0, 0) hSt.box
  refine callsIn_of_wp Try.func24 rfl trivial ?_ rfl
  simp only [Try.ntmps24, List.size_toArray, List.length_cons, List.length_nil, Nat.reduceAdd, Nat.reduceSub, Array.replicate_succ, Array.replicate_zero, List.push_toArray, List.append_toArray, List.nil_append, List.cons_append]
  have H0 := Lib.hid (And.intro h0 hSt)
  clear hJ hJx hY h0 hSt
  gi_wp2
  refine bodyPost_ret (results_none rfl _ _ _) rfl ?_
  exact ⟨⟨_, rfl⟩, F, .inl H0.out⟩
set_option maxRecDepth 100000 in
set_option maxHeartbeats 400000 in
theorem wall16 (p : Option Addr) (w : World) : Calls Try.prog 19 #[.pointer p] w fun e w' => e = .returned (.func (.func 24) #[] #[.pointer (some ⟨w.heap.size, 0, none⟩)]) ∧ w' = w.alloc (.cells #[.pointer p] 22) := by
  go_enter Try.func19, Try.ntmps19
  go_wp2
  go_ret
  exact ⟨rfl, rfl⟩
theorem wall16_any {w : World} {F : Nat → Prop} {g : Nat} {st : Fst} (h : RA16 w F g st) : Calls Try.prog 19 #[.pointer (some ⟨g, 0, none⟩)] w fun e w' => ∃ gf lb, e = .returned (.func (.func gf) #[] lb) ∧ AllIs RA16 w F g st gf lb w' ∧ Below w.heap.size w w' := by
  refine (wall16 _ w).mono ?_
  rintro e w' ⟨rfl, rfl⟩
  have hb : Below w.heap.size w (w.alloc (.cells #[.pointer (some ⟨g, 0, none⟩)] 22)) := (Below.refl _ w).alloc (Nat.le_refl _) _
  have hr : Row (w.alloc (.cells #[.pointer (some ⟨g, 0, none⟩)] 22)) w.heap.size #[.pointer (some ⟨g, 0, none⟩)] 22 := row_new w _ _
  refine ⟨24, _, rfl, ⟨enters_of Try.func24 (by kernel_rfl) rfl, fun k => F k ∨ k = w.heap.size, SAll st g w.heap.size, ⟨hr, .inr rfl, fun k hk => ?_, F, h.below hb, fun k hk => .inl hk, fun e => by have := h.lt.2 _ e; omega⟩, fun k hk => ?_, fun pre F W W' hS hk => hS.kept hk, fun pre F W hS => hS.old, fun pre F W hS => ?_, all16_seq st g w.heap.size⟩, hb⟩
  · rcases hk with hk | hk
    · exact Nat.lt_of_lt_of_le (h.lt.2 k hk) hb.size
    · rw [hk]; exact hr.lt
  · rcases hk with hk | hk
    · exact .inl hk
    · exact .inr ⟨by omega, by rw [hk]; exact hr.lt⟩
  · obtain ⟨F0, h1, h2, -⟩ := hS.rd
    exact ⟨F0, h1, h2⟩
theorem wall16_0 (w : World) : Calls Try.prog 19 #[.pointer none] w fun e w' => ∃ gf lb, e = .returned (.func (.func gf) #[] lb) ∧ NoneIs w gf lb w' ∧ Below w.heap.size w w' := by
  refine (wall16 _ w).mono ?_
  rintro e w' ⟨rfl, rfl⟩
  have hb : Below w.heap.size w (w.alloc (.cells #[.pointer none] 22)) := (Below.refl _ w).alloc (Nat.le_refl _) _
  have hr : Row (w.alloc (.cells #[.pointer none] 22)) w.heap.size #[.pointer none] 22 := row_new w _ _
  refine ⟨24, _, rfl, ⟨enters_of Try.func24 (by kernel_rfl) rfl, fun k => k = w.heap.size, fun _ F W => SNone w.heap.size F W, ⟨hr, rfl, fun k hk => by rw [hk]; exact hr.lt⟩, fun k hk => ⟨by omega, by rw [hk]; exact hr.lt⟩, fun pre F W W' hS hk => ⟨(hk.same _ hS.inF).trans hS.box, hS.inF, fun k hf => Nat.lt_of_lt_of_le (hS.old k hf) hk.size⟩, fun pre F W hS => hS.old, none16_seq w.heap.size⟩, hb⟩

/-- What Next keeps: an event and a truth, each in a block of its own; what lies in F is apart. -/
structure NxRes (w0 : World) (F0 : Nat → Prop) (e : Ev) (b : Bool) (F : Nat → Prop) (W : World) : Prop where
  ev : Row W w0.heap.size (evC e) 29
  ok : Row W (w0.heap.size + 1) #[.bool b] 4
  ne : ¬ F w0.heap.size ∧ ¬ F (w0.heap.size + 1)
  mv : Moves F0 F w0 W
theorem NxRes.moves {w0 : World} {F0 : Nat → Prop} {e : Ev} {b : Bool} {F F' : Nat → Prop} {W W' : World} (h : NxRes w0 F0 e b F W) (hm : Moves F F' W W') : NxRes w0 F0 e b F' W' := by
  have l1 := h.ev.lt
  have l2 := h.ok.lt
  refine ⟨h.ev.moves hm h.ne.1, h.ok.moves hm h.ne.2, ⟨fun hf => ?_, fun hf => ?_⟩, h.mv.trans hm⟩
  · rcases hm.foot _ hf with h1 | h1
    · exact h.ne.1 h1
    · omega
  · rcases hm.foot _ hf with h1 | h1
    · exact h.ne.2 h1
    · omega
theorem NxRes.set {w0 : World} {F0 : Nat → Prop} {e e' : Ev} {b b' : Bool} {F : Nat → Prop} {W : World} (h : NxRes w0 F0 e b F W) (c0 c1 c2 c3 c4 : Value) (he : evC e' = #[c0, c1, c2, c3, c4]) : NxRes w0 F0 e' b' F ((put5H W w0.heap.size c0 c1 c2 c3 c4).setCell ⟨w0.heap.size + 1, 0, none⟩ (.bool b')) := by
  have hk := put5H_keeps W w0.heap.size c0 c1 c2 c3 c4
  have hr := put5H_row (W := W) (b := w0.heap.size) (a0 := .int .i64 (e.kind : Int)) (a1 := .int .i64 (e.op : Int)) (a2 := .bool e.fin) (a3 := .int .i64 (e.len : Int)) (a4 := S e.text) h.ev c0 c1 c2 c3 c4
  have h2 : Row (put5H W w0.heap.size c0 c1 c2 c3 c4) (w0.heap.size + 1) #[.bool b] 4 := h.ok.keeps hk (by omega)
  refine ⟨by rw [he]; exact hr.other (by show w0.heap.size ≠ w0.heap.size + 1; omega), h2.set 0 _, h.ne, ?_⟩
  have m1 : Moves F0 F w0 (put5H W w0.heap.size c0 c1 c2 c3 c4) := h.mv.then16 hk (Nat.le_refl _)
  exact m1.then16 (Keeps.setCell _ 0 _) (by omega)
theorem nx_keep (W : World) (b : Nat) (c0 c1 c2 c3 c4 c5 : Value) : W.heap.size ≤ ((put5H W b c0 c1 c2 c3 c4).setCell ⟨b + 1, 0, none⟩ c5).heap.size ∧ ∀ k, k ≠ b → k ≠ b + 1 → ((put5H W b c0 c1 c2 c3 c4).setCell ⟨b + 1, 0, none⟩ c5).heap[k]? = W.heap[k]? := by
  unfold put5H
  refine ⟨by simp [World.setCell], fun k h1 h2 => ?_⟩
  rw [Below.heap_setCell _ _ _ _ h2, Below.heap_setCell _ _ _ _ h1, Below.heap_setCell _ _ _ _ h1, Below.heap_setCell _ _ _ _ h1, Below.heap_setCell _ _ _ _ h1, Below.heap_setCell _ _ _ _ h1]
theorem nx_moves {w0 W : World} {F0 F F1 : Nat → Prop} {B : Nat} (h : Moves F0 (with2 F B) w0 W) (hf : ∀ k, F1 k → F k) (hB : w0.heap.size + 2 ≤ B) : Moves F0 F1 w0 (W.putObj B (.deferred none)) :=
  ⟨h.os, h.tape, h.output, by simpa using h.size, fun k hk => h.foot k (.inl (hf k hk)), fun k h1 h2 => (World.putObj_heap_other (by omega)).trans (h.rest k h1 h2)⟩
theorem nx_end {w0 W : World} {F0 F : Nat → Prop} {e : Ev} {b : Bool} {D : Nat} {tmps : Array Value} {Q : Ending → World → Prop} (h : NxRes w0 F0 e b F W) (hd : W.heap[D]? = some (.deferred (some []))) (hD : w0.heap.size + 2 ≤ D)
    (ht2 : tmps[2]? = some (.pointer (some ⟨w0.heap.size, 0, none⟩))) (ht3 : tmps[3]? = some (.pointer (some ⟨w0.heap.size + 1, 0, none⟩))) (hq : Q (.returned (.tuple #[evV e, .bool b])) (W.putObj D (.deferred none))) :
    bodyPostM Fence.wide 5 Try.prog Try.f13 Q .ret { tmps := tmps, defers := [{ target := .collected D, args := #[] }] } W := by
  refine ⟨by simp, .inl ⟨_, _, rfl, run_takeDeferred hd, ?_⟩⟩
  have hr : Row (W.putObj D (.deferred none)) w0.heap.size (evC e) 29 := by
    unfold Row; rw [World.putObj_heap_other (by omega)]; exact h.ev
  have hne : w0.heap.size + 1 ≠ D := by omega
  have hr2 : Row (W.putObj D (.deferred none)) (w0.heap.size + 1) #[.bool b] 4 := by
    unfold Row; rw [World.putObj_heap_other hne]; exact h.ok
  have hc : (W.putObj D (.deferred none)).cell? ⟨w0.heap.size + 1, 0, none⟩ = some (.bool b) := cell_of_row _ _ 0 _ 4 (0, 0) hr2
  have e0 : (W.putObj D (.deferred none)).cell? ⟨w0.heap.size, 0, none⟩ = some (.int .i64 (e.kind : Int)) := cell_of_row _ _ 0 _ _ (0, 0) hr
  have e1 : (W.putObj D (.deferred none)).cell? ⟨w0.heap.size, 1, none⟩ = some (.int .i64 (e.op : Int)) := cell_of_row _ _ 1 _ _ (0, 0) hr
  have e2 : (W.putObj D (.deferred none)).cell? ⟨w0.heap.size, 2, none⟩ = some (.bool e.fin) := cell_of_row _ _ 2 _ _ (0, 0) hr
  have e3 : (W.putObj D (.deferred none)).cell? ⟨w0.heap.size, 3, none⟩ = some (.int .i64 (e.len : Int)) := cell_of_row _ _ 3 _ _ (0, 0) hr
  have e4 : (W.putObj D (.deferred none)).cell? ⟨w0.heap.size, 4, none⟩ = some (S e.text) := cell_of_row _ _ 4 _ _ (0, 0) hr
  refine ⟨.tuple #[evV e, .bool b], ?_, hq⟩
  simp [results, Try.f13, go_sem, hc, ht2, ht3, e0, e1, e2, e3, e4, evV, evC]
section
variable {w : World} {F : Nat → Prop} {g : Nat} {st : Fst}
set_option maxRecDepth 100000 in
set_option maxHeartbeats 2000000 in
theorem wnext16_any (h : RA16 w F g st) : Calls Try.prog 13 #[.pointer (some ⟨g, 0, none⟩)] w (NextR F g st w) := by
  obtain ⟨W1, hW1⟩ : ∃ W1, W1 = (w.alloc (.cells #[.int .i64 0, .int .i64 0, .bool false, .int .i64 0, .string ⟨#[]⟩] 29)).alloc (.cells #[.bool false] 4) := ⟨_, rfl⟩
  have hB1 : Below w.heap.size w W1 := by rw [hW1]; exact ((Below.refl _ w).alloc (Nat.le_refl _) _).alloc (by simp) _
  have h1 := h.below hB1
  have hN1 : NxRes w F ev0 false F W1 := by
    rw [hW1]
    refine ⟨(row_new w _ _).alloc _, ?_, ⟨fun hf => by have := h.lt.2 _ hf; omega, fun hf => by have := h.lt.2 _ hf; omega⟩, Moves.of_below (by rw [← hW1]; exact hB1)⟩
    have := row_new (w.alloc (.cells #[.int .i64 0, .int .i64 0, .bool false, .int .i64 0, .string ⟨#[]⟩] 29)) #[.bool false] 4
    rw [alloc_size] at this; exact this
  have HA := Lib.hid (wall16_any h1)
  have H1 := Lib.hid (And.intro hN1 h)
  clear hB1 h1 hN1 h
  refine (callsIn_wide (n := 5)).1 (callsIn_of_wp_marks Try.func13 rfl trivial ?_ rfl)
  simp only [Try.ntmps13, List.size_toArray, List.length_cons, List.length_nil, Nat.reduceAdd, Nat.reduceSub, Array.replicate_succ, Array.replicate_zero, List.push_toArray, List.append_toArray, List.nil_append, List.cons_append]
  rw [wpIn_wide]
  go_wp2_with fail
  rw [← hW1]
  clear hW1
  refine HA.out.mono ?_
  rintro e W6 ⟨gf, lb, rfl, ⟨eg, F1, St, hS0, hF1, hk, hlt, hrd, hseq⟩, hB⟩
  have hw6 : NxRes w F ev0 false F1 W6 := by
    have h1 := H1.out.1.moves (Moves.of_below (F := F) hB)
    refine ⟨h1.ev, h1.ok, ⟨fun hf => ?_, fun hf => ?_⟩, ⟨h1.mv.os, h1.mv.tape, h1.mv.output, h1.mv.size, fun k hf => ?_, h1.mv.rest⟩⟩
    · rcases hF1 _ hf with e | e
      · exact h1.ne.1 e
      · have := H1.out.1.ev.lt; omega
    · rcases hF1 _ hf with e | e
      · exact h1.ne.2 e
      · have := H1.out.1.ok.lt; omega
    · rcases hF1 _ hf with e | e
      · exact .inl e
      · have := H1.out.1.mv.size; exact .inr (by omega)
  have hs6 : w.heap.size + 2 ≤ W6.heap.size := by have := hw6.ok.lt; omega
  have H6 := Lib.hid (And.intro hw6 hs6)
  have HR := Lib.hid (And.intro hlt hrd)
  have hl6 := hlt _ _ _ hS0
  clear hB hF1 hw6 hlt hrd
  go_wp2
  rw [← wpIn_wide (n := 5)]
  refine wpIn_rangeFunc_M (gf := gf) (lb := lb) rfl eg hseq hk hS0 hl6 (fun _ => rfl)
    (fun pre F' W => pre = [] ∧ NxRes w F ev0 false F' W) (fun c pre F' W => c = .ret ∧ ∃ e, pre = [e] ∧ NxRes w F e true F' W)
    ?hI ?hIx ⟨rfl, ?h0⟩ ?round ?done ?stop
  case hI =>
    rintro pre F' F'' W W' ⟨hp, h⟩ hm
    exact ⟨hp, h.moves hm⟩
  case hIx =>
    rintro c pre F' F'' W W' ⟨hc, e, hp, h⟩ hm
    exact ⟨hc, e, hp, h.moves hm⟩
  case h0 =>
    have h := H6.out.1
    refine ⟨h.ev, h.ok, ⟨fun hf => ?_, fun hf => ?_⟩, ⟨h.mv.os, h.mv.tape, h.mv.output, h.mv.size, fun k hf => ?_, h.mv.rest⟩⟩
    · rcases hf with e | e | e
      · exact h.ne.1 e
      · have := H6.out.2; omega
      · have := H6.out.2; omega
    · rcases hf with e | e | e
      · exact h.ne.2 e
      · have := H6.out.2; omega
      · have := H6.out.2; omega
    · rcases hf with e | e | e
      · exact h.mv.foot k e
      · have := H6.out.2; exact .inr (by omega)
      · have := H6.out.2; exact .inr (by omega)
  case round =>
    intro l pre x F' W K hl hpx hI hSt hnF hsz hK
    obtain ⟨rfl, hN⟩ := hI
    unfold encE evV
    have HN := Lib.hid (And.intro hN (And.intro hSt hnF))
    have hx : evC x = #[.int .i64 (x.kind : Int), .int .i64 (x.op : Int), .bool x.fin, .int .i64 (x.len : Int), S x.text] := rfl
    rw [hx]
    clear hN hSt hnF
    gi_wp2
    refine hK _ _ ?_ ?_
    · exact ⟨by simp, fun r hr => Below.heap_alloc _ _ _ (by
        rcases hr with hr | hr | hr
        · exact HR.out.1 _ _ _ HN.out.2.1 r hr
        · omega
        · omega)⟩
    intro W2 hg hl2
    have hm2 : Moves (with2 F' W6.heap.size) (with2 F' W6.heap.size) W W2 := by
      have h1 := moves_alloc (with2 F' W6.heap.size) (w := W) (.cells #[.int .i64 (x.kind : Int), .int .i64 (x.op : Int), .bool x.fin, .int .i64 (x.len : Int), S x.text] 29)
      refine h1.trans ⟨hg.os, hg.tape, hg.output, hg.size, fun _ hk => .inl hk, fun k hk hn => hg.block k hk fun e => hn (.inr (.inr (Option.some.inj e)))⟩
    have hN2 := HN.out.1.moves hm2
    have hrb : Row W2 W.heap.size #[.int .i64 (x.kind : Int), .int .i64 (x.op : Int), .bool x.fin, .int .i64 (x.len : Int), S x.text] 29 := by
      have h1 := row_new W #[.int .i64 (x.kind : Int), .int .i64 (x.op : Int), .bool x.fin, .int .i64 (x.len : Int), S x.text] 29
      unfold Row
      rw [hg.block _ h1.lt (fun e => by have := Option.some.inj e; omega)]
      exact h1
    have y0 : W2.cell? ⟨W.heap.size, 0, none⟩ = some (.int .i64 (x.kind : Int)) := cell_of_row W2 _ 0 _ _ (0, 0) hrb
    have yf0 : W2.frozen? ⟨W.heap.size, 0, none⟩ = false := Row.frozen hrb 0
    have y1 : W2.cell? ⟨W.heap.size, 1, none⟩ = some (.int .i64 (x.op : Int)) := cell_of_row W2 _ 1 _ _ (0, 0) hrb
    have yf1 : W2.frozen? ⟨W.heap.size, 1, none⟩ = false := Row.frozen hrb 1
    have y2 : W2.cell? ⟨W.heap.size, 2, none⟩ = some (.bool x.fin) := cell_of_row W2 _ 2 _ _ (0, 0) hrb
    have yf2 : W2.frozen? ⟨W.heap.size, 2, none⟩ = false := Row.frozen hrb 2
    have y3 : W2.cell? ⟨W.heap.size, 3, none⟩ = some (.int .i64 (x.len : Int)) := cell_of_row W2 _ 3 _ _ (0, 0) hrb
    have yf3 : W2.frozen? ⟨W.heap.size, 3, none⟩ = false := Row.frozen hrb 3
    have y4 : W2.cell? ⟨W.heap.size, 4, none⟩ = some (S x.text) := cell_of_row W2 _ 4 _ _ (0, 0) hrb
    have yf4 : W2.frozen? ⟨W.heap.size, 4, none⟩ = false := Row.frozen hrb 4
    have z0 : W2.cell? ⟨w.heap.size, 0, none⟩ = some (.int .i64 0) := cell_of_row W2 _ 0 _ _ (0, 0) hN2.ev
    have zf0 : W2.frozen? ⟨w.heap.size, 0, none⟩ = false := Row.frozen hN2.ev 0
    have z1 : W2.cell? ⟨w.heap.size, 1, none⟩ = some (.int .i64 0) := cell_of_row W2 _ 1 _ _ (0, 0) hN2.ev
    have zf1 : W2.frozen? ⟨w.heap.size, 1, none⟩ = false := Row.frozen hN2.ev 1
    have z2 : W2.cell? ⟨w.heap.size, 2, none⟩ = some (.bool false) := cell_of_row W2 _ 2 _ _ (0, 0) hN2.ev
    have zf2 : W2.frozen? ⟨w.heap.size, 2, none⟩ = false := Row.frozen hN2.ev 2
    have z3 : W2.cell? ⟨w.heap.size, 3, none⟩ = some (.int .i64 0) := cell_of_row W2 _ 3 _ _ (0, 0) hN2.ev
    have zf3 : W2.frozen? ⟨w.heap.size, 3, none⟩ = false := Row.frozen hN2.ev 3
    have z4 : W2.cell? ⟨w.heap.size, 4, none⟩ = some (.string ⟨#[]⟩) := cell_of_row W2 _ 4 _ _ (0, 0) hN2.ev
    have zf4 : W2.frozen? ⟨w.heap.size, 4, none⟩ = false := Row.frozen hN2.ev 4
    have k0 : W2.cell? ⟨w.heap.size + 1, 0, none⟩ = some (.bool false) := cell_of_row W2 _ 0 _ _ (0, 0) hN2.ok
    have kf0 : W2.frozen? ⟨w.heap.size + 1, 0, none⟩ = false := Row.frozen hN2.ok 0
    have HE := Lib.hid hN2
    clear hm2 hN2 hrb hl2 hg
    gi_wp2
    have hN8 := HE.out.set (e' := x) (b' := true) (.int .i64 (x.kind : Int)) (.int .i64 (x.op : Int)) (.bool x.fin) (.int .i64 (x.len : Int)) (S x.text) rfl
    have hk8 := nx_keep W2 w.heap.size (.int .i64 (x.kind : Int)) (.int .i64 (x.op : Int)) (.bool x.fin) (.int .i64 (x.len : Int)) (S x.text) (.bool true)
    unfold put5H at hN8 hk8
    exact ⟨⟨hk8.1, fun k hk => hk8.2 k (fun e => HE.out.ne.1 (by rw [← e]; exact hk)) (fun e => HE.out.ne.2 (by rw [← e]; exact hk))⟩, rfl, x, rfl, hN8⟩
  case done =>
    rintro F' W ⟨hp, hN⟩ hSt hnF hD
    obtain ⟨F0, hR0, hF0⟩ := HR.out.2 _ _ _ hSt
    rw [hp] at hR0
    have hno : nextF st = none := by
      cases hn : nextF st with
      | none => rfl
      | some y => rw [(all_some (show nextF st = some (y.1, y.2) from hn)).1] at hp; cases hp
    obtain ⟨hv, hs⟩ := next_no hno
    have z0 : W.cell? ⟨w.heap.size, 0, none⟩ = some (.int .i64 0) := cell_of_row W _ 0 _ _ (0, 0) hN.ev
    have zf0 : W.frozen? ⟨w.heap.size, 0, none⟩ = false := Row.frozen hN.ev 0
    have z1 : W.cell? ⟨w.heap.size, 1, none⟩ = some (.int .i64 0) := cell_of_row W _ 1 _ _ (0, 0) hN.ev
    have zf1 : W.frozen? ⟨w.heap.size, 1, none⟩ = false := Row.frozen hN.ev 1
    have z2 : W.cell? ⟨w.heap.size, 2, none⟩ = some (.bool false) := cell_of_row W _ 2 _ _ (0, 0) hN.ev
    have zf2 : W.frozen? ⟨w.heap.size, 2, none⟩ = false := Row.frozen hN.ev 2
    have z3 : W.cell? ⟨w.heap.size, 3, none⟩ = some (.int .i64 0) := cell_of_row W _ 3 _ _ (0, 0) hN.ev
    have zf3 : W.frozen? ⟨w.heap.size, 3, none⟩ = false := Row.frozen hN.ev 3
    have z4 : W.cell? ⟨w.heap.size, 4, none⟩ = some (.string ⟨#[]⟩) := cell_of_row W _ 4 _ _ (0, 0) hN.ev
    have zf4 : W.frozen? ⟨w.heap.size, 4, none⟩ = false := Row.frozen hN.ev 4
    have k0 : W.cell? ⟨w.heap.size + 1, 0, none⟩ = some (.bool false) := cell_of_row W _ 0 _ _ (0, 0) hN.ok
    have kf0 : W.frozen? ⟨w.heap.size + 1, 0, none⟩ = false := Row.frozen hN.ok 0
    have H7 := Lib.hid (And.intro hN (And.intro hR0 (And.intro hF0 (And.intro hnF (And.intro hD (And.intro hv hs))))))
    clear hp hN hSt hnF hD hR0 hF0 hno hv hs
    go_wp2
    have hN8 := H7.out.1.set (e' := ev0) (b' := false) (.int .i64 0) (.int .i64 0) (.bool false) (.int .i64 0) (.string ⟨#[]⟩) rfl
    have hk8 := nx_keep W w.heap.size (.int .i64 0) (.int .i64 0) (.bool false) (.int .i64 0) (.string ⟨#[]⟩) (.bool false)
    unfold put5H at hN8 hk8
    refine nx_end hN8 ((hk8.2 _ (by have := H6.out.2; omega) (by have := H6.out.2; omega)).trans H7.out.2.2.2.2.1) H6.out.2 rfl rfl ?_
    refine ⟨by rw [H7.out.2.2.2.2.2.1]; rfl, F0, ?_, nx_moves hN8.mv H7.out.2.2.1 H6.out.2⟩
    rw [H7.out.2.2.2.2.2.2]
    refine RA16.same (st := st) H7.out.2.1 (by simp) fun k hk => ?_
    have hkF := H7.out.2.2.1 k hk
    rw [World.putObj_heap_other (fun e => H7.out.2.2.2.1.1 (by rw [← e]; exact hkF))]
    exact hk8.2 k (fun e => H7.out.1.ne.1 (by rw [← e]; exact .inl hkF)) (fun e => H7.out.1.ne.2 (by rw [← e]; exact .inl hkF))
  case stop =>
    rintro c pre F' W hpre ⟨rfl, x, rfl, hN⟩ hSt hnF hD
    obtain ⟨F0, hR0, hF0⟩ := HR.out.2 _ _ _ hSt
    obtain ⟨s', hns, hs1⟩ : ∃ s', nextF st = some (x, s') ∧ stepS st [x].length = s' := by
      obtain ⟨t, ht⟩ := hpre
      obtain ⟨s', h1, -⟩ := all_cons (st := st) (e := x) (t := t) ht.symm
      exact ⟨s', h1, step_succ h1 0⟩
    rw [hs1] at hR0
    obtain ⟨hv, hs⟩ := next_yes hns
    have H7 := Lib.hid (And.intro hN (And.intro hR0 (And.intro hF0 (And.intro hnF (And.intro hD (And.intro hv hs))))))
    clear hpre hN hSt hnF hD hR0 hF0 hv hs hns hs1
    gi_wp2
    refine nx_end H7.out.1 H7.out.2.2.2.2.1 H6.out.2 rfl rfl ?_
    refine ⟨by rw [H7.out.2.2.2.2.2.1], F0, ?_, ?_⟩
    · rw [H7.out.2.2.2.2.2.2]
      exact H7.out.2.1.same (by simp) fun k hk => World.putObj_heap_other fun e => H7.out.2.2.2.1.1 (by rw [← e]; exact H7.out.2.2.1 k hk)
    · exact nx_moves H7.out.1.mv H7.out.2.2.1 H6.out.2
end
set_option maxRecDepth 100000 in
set_option maxHeartbeats 2000000 in
theorem wnext16_0 (w : World) : Calls Try.prog 13 #[.pointer none] w fun e w' => e = .returned (.tuple #[evV ev0, .bool false]) ∧ Below w.heap.size w w' := by
  obtain ⟨W1, hW1⟩ : ∃ W1, W1 = (w.alloc (.cells #[.int .i64 0, .int .i64 0, .bool false, .int .i64 0, .string ⟨#[]⟩] 29)).alloc (.cells #[.bool false] 4) := ⟨_, rfl⟩
  have hB1 : Below w.heap.size w W1 := by rw [hW1]; exact ((Below.refl _ w).alloc (Nat.le_refl _) _).alloc (by simp) _
  have hN1 : NxRes w (fun _ => False) ev0 false (fun _ => False) W1 := by
    rw [hW1]
    refine ⟨(row_new w _ _).alloc _, ?_, ⟨fun hf => hf, fun hf => hf⟩, Moves.of_below (by rw [← hW1]; exact hB1)⟩
    have := row_new (w.alloc (.cells #[.int .i64 0, .int .i64 0, .bool false, .int .i64 0, .string ⟨#[]⟩] 29)) #[.bool false] 4
    rw [alloc_size] at this; exact this
  have HA := Lib.hid (wall16_0 W1)
  have H1 := Lib.hid hN1
  clear hB1 hN1
  refine (callsIn_wide (n := 5)).1 (callsIn_of_wp_marks Try.func13 rfl trivial ?_ rfl)
  simp only [Try.ntmps13, List.size_toArray, List.length_cons, List.length_nil, Nat.reduceAdd, Nat.reduceSub, Array.replicate_succ, Array.replicate_zero, List.push_toArray, List.append_toArray, List.nil_append, List.cons_append]
  rw [wpIn_wide]
  go_wp2_with fail
  rw [← hW1]
  clear hW1
  refine HA.out.mono ?_
  rintro e W6 ⟨gf, lb, rfl, ⟨eg, F1, St, hS0, hF1, hk, hlt, hseq⟩, hB⟩
  have hw6 : NxRes w (fun _ => False) ev0 false F1 W6 := by
    have h1 := H1.out.moves (Moves.of_below (F := fun _ => False) hB)
    refine ⟨h1.ev, h1.ok, ⟨fun hf => ?_, fun hf => ?_⟩, ⟨h1.mv.os, h1.mv.tape, h1.mv.output, h1.mv.size, fun k hf => ?_, h1.mv.rest⟩⟩
    · have := hF1 _ hf; have := H1.out.ev.lt; omega
    · have := hF1 _ hf; have := H1.out.ok.lt; omega
    · have := hF1 _ hf; have := H1.out.mv.size; exact .inr (by omega)
  have hs6 : w.heap.size + 2 ≤ W6.heap.size := by have := hw6.ok.lt; omega
  have H6 := Lib.hid (And.intro hw6 hs6)
  have hl6 := hlt _ _ _ hS0
  clear hB hF1 hw6 hlt
  go_wp2
  rw [← wpIn_wide (n := 5)]
  refine wpIn_rangeFunc_M (gf := gf) (lb := lb) rfl eg hseq hk hS0 hl6 (fun _ => rfl)
    (fun pre F' W => NxRes w (fun _ => False) ev0 false F' W) (fun c pre F' W => False)
    ?hI ?hIx ?h0 ?round ?done ?stop
  case hI =>
    intro pre F' F'' W W' h hm
    exact h.moves hm
  case hIx =>
    intro c pre F' F'' W W' h hm
    exact h
  case h0 =>
    have h := H6.out.1
    refine ⟨h.ev, h.ok, ⟨fun hf => ?_, fun hf => ?_⟩, ⟨h.mv.os, h.mv.tape, h.mv.output, h.mv.size, fun k hf => ?_, h.mv.rest⟩⟩
    · rcases hf with e | e | e
      · exact h.ne.1 e
      · have := H6.out.2; omega
      · have := H6.out.2; omega
    · rcases hf with e | e | e
      · exact h.ne.2 e
      · have := H6.out.2; omega
      · have := H6.out.2; omega
    · rcases hf with e | e | e
      · exact h.mv.foot k e
      · have := H6.out.2; exact .inr (by omega)
      · have := H6.out.2; exact .inr (by omega)
  case round =>
    intro l pre x F' W K hl hpx
    obtain ⟨t, ht⟩ := hpx
    simp at ht
  case done =>
    intro F' W hN hSt hnF hD
    have z0 : W.cell? ⟨w.heap.size, 0, none⟩ = some (.int .i64 0) := cell_of_row W _ 0 _ _ (0, 0) hN.ev
    have zf0 : W.frozen? ⟨w.heap.size, 0, none⟩ = false := Row.frozen hN.ev 0
    have z1 : W.cell? ⟨w.heap.size, 1, none⟩ = some (.int .i64 0) := cell_of_row W _ 1 _ _ (0, 0) hN.ev
    have zf1 : W.frozen? ⟨w.heap.size, 1, none⟩ = false := Row.frozen hN.ev 1
    have z2 : W.cell? ⟨w.heap.size, 2, none⟩ = some (.bool false) := cell_of_row W _ 2 _ _ (0, 0) hN.ev
    have zf2 : W.frozen? ⟨w.heap.size, 2, none⟩ = false := Row.frozen hN.ev 2
    have z3 : W.cell? ⟨w.heap.size, 3, none⟩ = some (.int .i64 0) := cell_of_row W _ 3 _ _ (0, 0) hN.ev
    have zf3 : W.frozen? ⟨w.heap.size, 3, none⟩ = false := Row.frozen hN.ev 3
    have z4 : W.cell? ⟨w.heap.size, 4, none⟩ = some (.string ⟨#[]⟩) := cell_of_row W _ 4 _ _ (0, 0) hN.ev
    have zf4 : W.frozen? ⟨w.heap.size, 4, none⟩ = false := Row.frozen hN.ev 4
    have k0 : W.cell? ⟨w.heap.size + 1, 0, none⟩ = some (.bool false) := cell_of_row W _ 0 _ _ (0, 0) hN.ok
    have kf0 : W.frozen? ⟨w.heap.size + 1, 0, none⟩ = false := Row.frozen hN.ok 0
    have H7 := Lib.hid (And.intro hN hD)
    clear hN hSt hnF hD
    go_wp2
    have hN8 := H7.out.1.set (e' := ev0) (b' := false) (.int .i64 0) (.int .i64 0) (.bool false) (.int .i64 0) (.string ⟨#[]⟩) rfl
    have hk8 := nx_keep W w.heap.size (.int .i64 0) (.int .i64 0) (.bool false) (.int .i64 0) (.string ⟨#[]⟩) (.bool false)
    unfold put5H at hN8 hk8
    refine nx_end hN8 ((hk8.2 _ (by have := H6.out.2; omega) (by have := H6.out.2; omega)).trans H7.out.2) H6.out.2 rfl rfl ?_
    refine ⟨rfl, ?_⟩
    have hm := nx_moves (F1 := fun _ => False) hN8.mv (fun k hk => hk.elim) H6.out.2
    exact hm.below (fun k hk => hk.elim) (Nat.le_refl _)
  case stop =>
    intro c pre F' W hpre hx
    exact hx.elim
/-- The landed package does what is asked of it. -/
theorem framesI (w : World) : FramesI w zr16 RA16 where
  lt := fun h => h.lt
  same := fun h hs hb => h.same hs hb
  new := fun m w' _ => wnew16_any m w'
  zero := zero16
  feed := fun s h _ hl => wfeed16_any s h hl
  feed0 := fun s w' _ _ => wfeed16_0 s w'
  next := fun h _ => wnext16_any h
  next0 := fun w' _ => wnext16_0 w'
  all := fun h _ => wall16_any h
  all0 := fun w' _ => wall16_0 w'
  bad := fun h _ => wbad16_any h
  bad0 := fun w' _ => wbad16_0 w'
  idle := fun h _ => widle16_any h
  idle0 := fun w' _ => widle16_0 w'

theorem bytesI (w : World) : ∀ (f : Frm) (W : World), Below w.heap.size w W → f.data.length ≤ 100000 → Calls Try.prog 20 #[frV f] W fun e w' => e = .returned (bytesV f) ∧ Below W.heap.size W w' :=
  fun f W _ h => wbytes_any f (by omega) W

end Go.Proofs.Ytlmolmmhkddpaaa
