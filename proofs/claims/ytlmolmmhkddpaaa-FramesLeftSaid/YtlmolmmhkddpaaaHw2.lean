/- The landed package of frames as they come: Feed, take, right walked. -/
import Derived.Test.YtlmolmmhkddpaaaHw1
namespace Go.Proofs.Ytlmolmmhkddpaaa
open Go.RowKit
attribute [local go_sem] store_one B_match B_store S_match S_store eguard_BN nguard_BN

theorem exec_append16 {a : Act} {o : Oper} (t1 t2 : TypeId) (x y : Operand) (X Y : Value) {w : World} {P : Program} (ho : o.op = .call { callee := .builtin .append, args := #[x, y], argTypes := #[t1, t2] }) (hx : a.eval x = X) (hy : a.eval y = Y) {v' : Value} {w' : World}
    (hr : (Builtin.append_ #[t1, t2] o.type #[X, Y]).run P w = .ok v' w') : (execOp a.eval o).run P w = .ok (.value v') w' := by
  simp only [execOp, ho, resolve, invoke, builtin, Sem.run_bind, Sem.run_pure, Result.andThen_ok, List.map_toArray, List.map_cons, List.map_nil, hx, hy, hr]
theorem wpList_append16 {P : Program} {ops : Array Oper} {rest : List Oper} {o : Oper} {a : Act} {w : World} {Q : Exit → Act → World → Prop} (hgd : o.guard = none) (t1 t2 : TypeId) (x y : Operand) (X Y : Value) (ho : o.op = .call { callee := .builtin .append, args := #[x, y], argTypes := #[t1, t2] }) (hx : a.eval x = X) (hy : a.eval y = Y) {v' : Value} {w' : World}
    (hr : (Builtin.append_ #[t1, t2] o.type #[X, Y]).run P w = .ok v' w') (h : wpList P ops Q rest (a.put o.dst v') w') : wpList P ops Q (o :: rest) a w :=
  wpList_plain hgd fun K hK => by
    unfold Oper.wp
    rw [exec_append16 t1 t2 x y X Y ho hx hy hr]
    exact hK _ _ h
section
variable {w : World} {F : Nat → Prop} {g : Nat} {st : Fst} {b : List UInt8} {x : Hrd} {v : Value} {ow : Option Nat}
theorem SaysH.more (h : SaysH x st) (hb : st.bad = false) (s : List UInt8) (hl : st.buf.length + s.length ≤ 100000) : SaysH x { st with buf := st.buf ++ s } :=
  ⟨by show (st.buf ++ s).length ≤ 100000; rw [List.length_append]; exact hl, fun e => absurd (show st.bad = true from e) (by rw [hb]; exact Bool.false_ne_true), h.2.2⟩
set_option maxRecDepth 100000 in
set_option maxHeartbeats 400000 in
theorem wfeed16_any (s : List UInt8) (h : RA16 w F g st) (hs : st.buf.length + s.length ≤ 100000) : Calls Try.prog 11 #[.pointer (some ⟨g, 0, none⟩), S s] w fun e w' => e = .returned (.tuple #[]) ∧ ∃ F', RA16 w' F' g (st.feed s) ∧ Moves F F' w w' := by
  have h0 := h
  obtain ⟨x, v, ow, h, hsy⟩ := h
  obtain ⟨⟨c0, c1, c2, c7, c8⟩, fz⟩ := h.cells
  have hb3 := hsy.bad3
  have q : ((x.nx : Int) == 3) = st.bad := by rw [← hb3]; exact Bool.eq_iff_iff.2 (by rw [beq_iff_eq, beq_iff_eq]; omega)
  cases hb : st.bad with
  | false =>
    rw [hb] at q
    obtain ⟨a, c, ow', w1, hrun, hw, hgr, hor⟩ := h.wait.add s (by omega) 38
    have hne : some g ≠ ow := fun e => (h.own g e.symm).2 rfl
    have hr1 := row_grown h.row hgr hne
    have d0 : w1.cell? ⟨g, 1, none⟩ = some v := cell_of_row w1 g 1 _ _ (0, 0) hr1
    have f0 : w1.frozen? ⟨g, 1, none⟩ = false := Row.frozen hr1 1
    have HN : Hid (∃ F', RA16 (w1.setCell ⟨g, 1, none⟩ (.slice a (st.buf.length + s.length) c)) F' g (st.feed s) ∧ Moves F F' w (w1.setCell ⟨g, 1, none⟩ (.slice a (st.buf.length + s.length) c))) := Lib.hid (by
      have how : ∀ k, ow' = some k → (ow = some k ∨ k = w.heap.size) := fun k hk => by
        rcases hor with e | ⟨e, _⟩
        · exact .inl (e ▸ hk)
        · rw [e] at hk; cases hk; exact .inr rfl
      have hgl := h.old g h.foot
      have hog : ∀ k, ow' = some k → k ≠ g := fun k hk => by
        rcases how k hk with e | e
        · exact (h.own k e).2
        · omega
      have hst : st.feed s = { st with buf := st.buf ++ s } := by unfold Fst.feed; rw [hb]; rfl
      rw [hst]
      have hws : w1.heap.size = (w1.setCell ⟨g, 1, none⟩ (.slice a (st.buf.length + s.length) c)).heap.size := by simp [World.setCell]
      refine ⟨fun k => F k ∨ ow' = some k, ⟨x, .slice a (st.buf.length + s.length) c, ow', ⟨hr1.set 1 _, hw.same fun k hk => Below.heap_setCell _ _ _ _ (hog k hk), .inl h.foot, fun k hk => ⟨.inr hk, hog k hk⟩, fun k hk => ?_⟩, hsy.more hb s hs⟩, ?_⟩
      · rw [← hws]
        rcases hk with hk | hk
        · exact Nat.lt_of_lt_of_le (h.old k hk) hgr.size
        · exact hw.lt k hk
      · refine ⟨hgr.os, hgr.tape, hgr.output, by rw [← hws]; exact hgr.size, fun k hk => ?_, fun j hj hn => ?_⟩
        · rcases hk with hk | hk
          · exact .inl hk
          · rcases how k hk with e | e
            · exact .inl (h.own k e).1
            · exact .inr (by omega)
        · rw [Below.heap_setCell _ _ _ _ (fun e => hn (by rw [show j = g from e]; exact h.foot))]
          exact hgr.block j hj (fun e => hn (h.own j e.symm).1))
    clear h h0 hsy hb hb3 hw hgr hor hr1 hne hs c0 c7 c8 fz
    go_enter Try.func11, Try.ntmps11
    go_wp2_with (at_builtin; refine wpList_append16 rfl 38 9 (.tmp 17) (.tmp 18) v (S s) rfl rfl rfl hrun ?_)
    refine bodyPost_end (results_none rfl _ _ _) rfl ?_
    exact ⟨rfl, HN.out⟩
  | true =>
    rw [hb] at q
    have HS : Hid (st.feed s = st ∧ RA16 w F g st) := Lib.hid ⟨by unfold Fst.feed; rw [hb]; rfl, h0⟩
    clear h h0 hsy hb hb3 hs c0 c1 c7 c8 fz
    go_enter Try.func11, Try.ntmps11
    go_wp2
    first | refine bodyPost_ret (results_none rfl _ _ _) rfl ?_ | refine bodyPost_end (results_none rfl _ _ _) rfl ?_
    rw [HS.out.1]
    exact ⟨rfl, F, HS.out.2, Moves.refl F w⟩
set_option maxRecDepth 100000 in
set_option maxHeartbeats 400000 in
theorem wtake16_any (h : HrdAt w F g b x v ow) (n : Nat) (hn : n ≤ b.length) : Calls Try.prog 37 #[.pointer (some ⟨g, 0, none⟩), .int .i64 (n : Int)] w fun e w' => e = .returned (S (b.take n)) ∧ (∃ v' ow', HrdAt w' F g (b.drop n) x v' ow') ∧ Moves F F w w' := by
  obtain ⟨⟨c0, c1, c2, c7, c8⟩, fz⟩ := h.cells
  obtain ⟨V', hsl, hV'⟩ := h.wait.toV.upto n hn
  have ht := hV'.text
  obtain ⟨a, c, hcut, hcw⟩ := h.wait.cut n hn
  obtain ⟨M, hM⟩ : ∃ M, M = b.length - n := ⟨_, rfl⟩
  rw [← hM] at hcut hcw
  have f1 := fz 1
  obtain ⟨T, hT⟩ : ∃ T, T = b.take n := ⟨_, rfl⟩
  rw [← hT] at ht ⊢
  have hk : w.cell? ⟨g, 1, none⟩ = some v := c1
  have hr1 := h.row.set 1 (.slice a M c)
  have d1 : (w.setCell ⟨g, 1, none⟩ (.slice a M c)).cell? ⟨g, 1, none⟩ = some (.slice a M c) := cell_of_row _ g 1 _ _ (0, 0) hr1
  have e1 : (w.setCell ⟨g, 1, none⟩ (.slice a M c)).frozen? ⟨g, 1, none⟩ = false := Row.frozen hr1 1
  by_cases hlt : n < b.length
  · have q : ((M : Int) == 0) = false := by rw [beq_eq_false_iff_ne]; omega
    have HN : Hid ((∃ v' ow', HrdAt (w.setCell ⟨g, 1, none⟩ (.slice a M c)) F g (b.drop n) x v' ow') ∧ Moves F F w (w.setCell ⟨g, 1, none⟩ (.slice a M c))) := Lib.hid ⟨⟨_, _, h.putW (hcw hlt) h.own⟩, moves_cell16 w h.foot 1 _⟩
    clear h hn hlt hV' hcw hM hT hk hr1 c0 c2 c7 c8 fz
    go_enter Try.func37, Try.ntmps37
    go_wp2
    go_ret
    exact ⟨rfl, HN.out⟩
  · obtain rfl : M = 0 := by omega
    have HN : Hid ((∃ v' ow', HrdAt ((w.setCell ⟨g, 1, none⟩ (.slice a 0 c)).setCell ⟨g, 1, none⟩ (.slice none 0 0)) F g (b.drop n) x v' ow') ∧ Moves F F w ((w.setCell ⟨g, 1, none⟩ (.slice a 0 c)).setCell ⟨g, 1, none⟩ (.slice none 0 0))) := Lib.hid (by
      have hd : b.drop n = [] := List.drop_eq_nil_of_le (by omega)
      have hm1 := moves_cell16 w h.foot 1 (.slice a 0 c)
      refine ⟨?_, hm1.trans (moves_cell16 _ h.foot 1 _)⟩
      rw [hd]
      refine ⟨.slice none 0 0, none, ?_, .nil _, h.foot, fun k hk => (by cases hk), fun k hk => ?_⟩
      · have := hr1.set 1 (.slice none 0 0)
        exact this
      · have := h.old k hk; simpa [World.setCell] using this)
    clear h hn hlt hV' hcw hM hT hk hr1 c0 c2 c7 c8 fz
    go_enter Try.func37, Try.ntmps37
    go_wp2
    go_ret
    exact ⟨rfl, HN.out⟩
end
/-! What a head may say, masked or not. -/
def rightB (h : Hd) : Bool := mayF h h.masked
theorem right_no1 {h : Hd} (hr : h.rsv ≠ 0) : rightB h = false := by unfold rightB mayF; rw [decide_eq_false hr]; rfl
theorem right_no2 {h : Hd} (hr : h.least = false) : rightB h = false := by unfold rightB mayF; rw [hr]; simp
theorem right_no3 {h : Hd} (hr : 9223372036854775807 < h.len) : rightB h = false := by unfold rightB mayF; rw [decide_eq_false (show ¬ h.len < 9223372036854775808 by omega)]; simp
theorem right_no4 {h : Hd} (hr : ¬ (h.op ≤ 2 ∨ (8 ≤ h.op ∧ h.op ≤ 10))) : rightB h = false := by unfold rightB mayF; rw [decide_eq_false hr]; simp
theorem right_low {h : Hd} (h0 : h.rsv = 0) (h1 : h.least = true) (h2 : h.len ≤ 9223372036854775807) (h3 : h.op ≤ 2) : rightB h = true := by
  unfold rightB mayF
  rw [decide_eq_true h0, decide_eq_true (show h.op ≤ 2 ∨ (8 ≤ h.op ∧ h.op ≤ 10) from .inl h3), decide_eq_true (show h.op < 8 ∨ (h.len ≤ 125 ∧ h.fin = true) from .inl (by omega)), h1, decide_eq_true (show h.len < 9223372036854775808 by omega)]
  simp
theorem right_high {h : Hd} (h0 : h.rsv = 0) (h1 : h.least = true) (h2 : h.len ≤ 9223372036854775807) (h3 : 8 ≤ h.op ∧ h.op ≤ 10) : rightB h = (h.fin && decide (h.len ≤ 125)) := by
  unfold rightB mayF
  rw [decide_eq_true h0, decide_eq_true (show h.op ≤ 2 ∨ (8 ≤ h.op ∧ h.op ≤ 10) from .inr h3), h1, decide_eq_true (show h.len < 9223372036854775808 by omega)]
  have h8 : ¬ h.op < 8 := by omega
  cases hf : h.fin with
  | true => simp [h8]
  | false => simp [h8]
set_option maxRecDepth 100000 in
set_option maxHeartbeats 1000000 in
theorem wright16_any (h : Hd) (hl : h.len < 18446744073709551616) (w : World) : Calls Try.prog 36 #[.agg (hdC h)] w fun e w' => e = .returned (.bool (rightB h)) ∧ Below w.heap.size w w' := by
  have n1 := @right_no1 h
  have n2 := @right_no2 h
  have n3 := @right_no3 h
  have n4 := @right_no4 h
  have n5 := @right_low h
  have n6 := @right_high h
  obtain ⟨R, hR⟩ : ∃ R, R = rightB h := ⟨_, rfl⟩
  rw [← hR] at n1 n2 n3 n4 n5 n6 ⊢
  clear hR
  obtain ⟨fin, rsv, op, m, ⟨k0, k1, k2, k3⟩, len, least⟩ := h
  unfold hdC
  dsimp only at *
  have HB : ∀ W, W = w.alloc (.cells #[.bool fin, .int .i64 (rsv : Int), .int .i64 (op : Int), .bool m, B k0, B k1, B k2, B k3, .int .u64 (len : Int), .bool least] 74) → Below w.heap.size w W := fun W hW => by rw [hW]; exact (Below.refl _ w).alloc (Nat.le_refl _) _
  have HB := Lib.hid HB
  by_cases h0 : rsv = 0
  case neg =>
    have q0 : ((rsv : Int) == 0) = false := by rw [beq_eq_false_iff_ne]; omega
    have q1 : ((rsv : Int) != 0) = true := by rw [bne_iff_ne]; omega
    obtain rfl := n1 h0
    clear n2 n3 n4 n5 n6 n1 h0 hl
    go_enter Try.func36, Try.ntmps36
    go_wp2
    go_ret
    exact ⟨rfl, HB.out _ rfl⟩
  have q0 : ((rsv : Int) == 0) = true := by rw [beq_iff_eq]; omega
  have q1 : ((rsv : Int) != 0) = false := by rw [bne_eq_false_iff_eq]; omega
  cases least with
  | false =>
    obtain rfl := n2 rfl
    clear n1 n3 n4 n5 n6 n2 h0 hl
    go_enter Try.func36, Try.ntmps36
    go_wp2
    go_ret
    exact ⟨rfl, HB.out _ rfl⟩
  | true =>
  by_cases h9 : 9223372036854775807 < len
  · have q3 : decide ((9223372036854775807 : Int) < (len : Int)) = true := decide_eq_true (by omega)
    obtain rfl := n3 h9
    clear n1 n2 n4 n5 n6 n3 h0 hl h9
    go_enter Try.func36, Try.ntmps36
    go_wp2
    go_ret
    exact ⟨rfl, HB.out _ rfl⟩
  have q3 : decide ((9223372036854775807 : Int) < (len : Int)) = false := decide_eq_false (by omega)
  have n5 := fun h3 => n5 h0 rfl (by omega) h3
  have n6 := fun h3 => n6 h0 rfl (by omega) h3
  by_cases ho : op = 0 ∨ op = 1 ∨ op = 2
  · obtain rfl := n5 (by omega)
    clear n1 n2 n3 n4 n5 n6 h0 hl h9
    rcases ho with rfl | rfl | rfl
    all_goals
      go_enter Try.func36, Try.ntmps36
      go_wp2
      go_ret
      exact ⟨rfl, HB.out _ rfl⟩
  by_cases ho2 : op = 8 ∨ op = 9 ∨ op = 10
  · obtain ⟨D, hD⟩ : ∃ D, D = decide (len ≤ 125) := ⟨_, rfl⟩
    have q4 : decide ((len : Int) ≤ 125) = D := by rw [hD]; exact decide_eq_decide.2 (by omega)
    have n6 := n6 (by omega)
    rw [← hD] at n6
    subst n6
    clear n1 n2 n3 n4 n5 h0 hl h9 hD ho
    rcases ho2 with rfl | rfl | rfl
    all_goals
      cases fin
      all_goals
        go_enter Try.func36, Try.ntmps36
        go_wp2
        go_ret
        exact ⟨rfl, HB.out _ rfl⟩
  · obtain rfl := n4 (by omega)
    have r0 : ((op : Int) == 0) = false := by rw [beq_eq_false_iff_ne]; omega
    have r1 : ((op : Int) == 1) = false := by rw [beq_eq_false_iff_ne]; omega
    have r2 : ((op : Int) == 2) = false := by rw [beq_eq_false_iff_ne]; omega
    have r8 : ((op : Int) == 8) = false := by rw [beq_eq_false_iff_ne]; omega
    have r9 : ((op : Int) == 9) = false := by rw [beq_eq_false_iff_ne]; omega
    have ra : ((op : Int) == 10) = false := by rw [beq_eq_false_iff_ne]; omega
    clear n1 n2 n3 n4 n5 n6 h0 hl h9 ho ho2
    go_enter Try.func36, Try.ntmps36
    go_wp2
    go_ret
    exact ⟨rfl, HB.out _ rfl⟩
end Go.Proofs.Ytlmolmmhkddpaaa
