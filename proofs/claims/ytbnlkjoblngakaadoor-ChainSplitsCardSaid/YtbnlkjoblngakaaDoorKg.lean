/- Steps around steps, around tell: they answer as the steps one behind the other (stage 13). -/
import Derived.Test.YtbnlkjoblngakaaDoorKe
namespace Go.Proofs.YtbnlkjoblngakaaDoor
open Go.RowKit Go.Shelf
attribute [local go_sem] store_one S_match S_store

theorem step_path {fs : Fds} {body : Tx} {s : Stp} {p q : Tx} (h : stepS fs body s p = .inl q) : q.length ≤ max 1 p.length := by
  unfold stepS at h
  repeat' split at h
  all_goals first
    | (cases h; done)
    | (injection h with h; subst h; omega)
    | (injection h with h; subst h; simp only [List.length_drop, List.length_cons, List.length_nil]; omega)
theorem go_path (fs : Fds) (body : Tx) : ∀ (l : List Stp) (p : Tx), (goS fs body l p).2.1.length ≤ max 1 p.length
  | [], p => by rw [goS]; show p.length ≤ _; omega
  | s :: l, p => by
    rw [goS]
    split
    · show p.length ≤ _; omega
    · rename_i q hq
      have h1 := step_path hq
      have h2 := go_path fs body l q
      show (goS fs body l q).2.1.length ≤ _
      omega
/-- tell's answer behind a first part that passes. -/
theorem tell_split {r : Rq} {a b : List Stp} (h : (goS r.fs r.body a r.p).2.2 = none) :
    tellA r (a ++ b) = ((tellA { r with p := (goS r.fs r.body a r.p).2.1 } b).1, (tellA { r with p := (goS r.fs r.body a r.p).2.1 } b).2.1, (tellA { r with p := (goS r.fs r.body a r.p).2.1 } b).2.2 ++ addsS r.fs a) := by
  unfold tellA
  rw [go_append, h]
  dsimp only
  cases hb : (goS r.fs r.body b (goS r.fs r.body a r.p).2.1).2.2 with
  | some x =>
    dsimp only
    rw [List.take_append, List.take_of_length_le (by omega : a.length ≤ a.length + _), Nat.add_sub_cancel_left, adds_append]
  | none =>
    dsimp only
    rw [adds_append]
theorem tell_first {r : Rq} {a b : List Stp} {x : Nat × Tx} (h : (goS r.fs r.body a r.p).2.2 = some x) : tellA r (a ++ b) = (x.1, x.2, addsS r.fs (a.take (goS r.fs r.body a r.p).1)) := by
  unfold tellA
  rw [go_append, h]
  dsimp only
  rw [h]
  dsimp only
  rw [List.take_append_of_le_length (go_le _ _ _ _)]
theorem tellA_len (r : Rq) (l : List Stp) : (tellA r l).2.2.length ≤ l.length := by
  have h0 : ∀ l : List Stp, cntS l ≤ l.length := fun l => List.length_filter_le _ _
  unfold tellA
  split
  · dsimp only
    rw [adds_len]
    exact Nat.le_trans (cnt_take l _) (h0 l)
  · dsimp only
    rw [adds_len]; exact h0 l
theorem split_does {wi wi' wo wo' : World} {gi go : Nat} {lbi lbo : Array Value} {a b : List Stp} (hi : DoesH wi wi' gi lbi b 20 #[]) (ho : DoesH wo wo' go lbo a gi lbi) (hab : b.length ≤ 100) {W : World}
    (hsi : wi'.heap.size ≤ wo.heap.size) (hso' : wo.heap.size ≤ wo'.heap.size) (hso : wo'.heap.size ≤ W.heap.size)
    (hki : ∀ k, wi.heap.size ≤ k → k < wi'.heap.size → W.heap[k]? = wi'.heap[k]?) (hko : ∀ k, wo.heap.size ≤ k → k < wo'.heap.size → W.heap[k]? = wo'.heap[k]?)
    (r : Rq) (V : Value) (bk o : Nat) (hA : FA W V r.fs bk o) (hr : SmallR r) (hb : r.fs ≠ [] → bk < W.heap.size) : Calls Tryd.prog go (#[rqV r V] ++ lbo) W (AnsV (tellA r (a ++ b)) W) := by
  refine ho W hso hko r V bk o hA hr _ ?_
  cases hg : (goS r.fs r.body a r.p).2.2 with
  | some x =>
    rw [tell_first hg]
    exact fun W' V' hB hF => ⟨V', rfl, hF, hB⟩
  | none =>
    rw [tell_split hg]
    intro N W1 V1 hB hN hFO
    obtain ⟨g1, hA1, hg1⟩ := FO.fa hFO
    have hr1 : SmallR { r with p := (goS r.fs r.body a r.p).2.1 } := ⟨hr.few, by
      have h1 := go_path r.fs r.body a r.p
      have h2 := hr.path
      show (goS r.fs r.body a r.p).2.1.length ≤ 300
      omega, hr.body, hr.each⟩
    have hsz := hB.size
    have hin := tell_does hi (W := W1) (by omega) (fun k h1 h2 => (hB.block k (by omega)).trans (hki k h1 h2)) { r with p := (goS r.fs r.body a r.p).2.1 } V1 g1 0 hA1 hr1 (fun h => hA1.lt h)
    have hlen := tellA_len { r with p := (goS r.fs r.body a r.p).2.1 } b
    generalize tellA { r with p := (goS r.fs r.body a r.p).2.1 } b = T at *
    refine hin.mono ?_
    rintro e W2 ⟨V2, rfl, hF2, hB2⟩
    obtain ⟨g2, hA2, hg2⟩ := FO.fa hF2
    refine ⟨_, V2, _, _, g2, 0, rfl, hA2, by omega, hg2.imp id (fun h e => by have := (hN g2 e).2.1; omega), hB2.size, fun k hk => ?_, fun W3 V3 hR hF => ?_⟩
    · refine hB2.block k ?_
      rcases hk with h1 | h1 | h1
      · exact (hN k h1).2.1
      · omega
      · have := hb h1.1; omega
    · refine ⟨V3, rfl, hF, (hB.trans (hB2.mono hsz)).trans (hR.below (fun k hk' h1 => by have := (hN k h1).1; omega) (Nat.le_trans hsz hB2.size))⟩
theorem right_append (a b : List Stp) : ((a ++ b).all rightS) = (a.all rightS && b.all rightS) := List.all_append
theorem wrap_small {l : List Stp} (h : l.length ≤ 8) : wrapC l = if l.all rightS = true then 0 else 1 := by unfold wrapC; rw [if_neg (by omega)]
theorem StA.drop {w : World} {V : Value} {l : List Stp} {b o : Nat} (h : StA w V l b o) {k : Nat} (hk : k ≤ l.length) : ∃ V', (∀ w', (Instr.slice 22 V (some (.int .i64 (k : Int))) none none).run Tryd.prog w' = .ok V' w') ∧ StA w V' (l.drop k) b (o + k * 4) := by
  obtain ⟨a, c, rfl, hc, ha⟩ := h.form
  refine ⟨.slice (if c = k then a else a.map (·.add (k * 4))) (l.drop k).length (c - k), fun w' => ?_, fun T w' => lenS _ _ _ T w', fun i hi w' => ?_, fun i s hs j v hv => ?_, ⟨_, _, rfl, by rw [List.length_drop]; omega, fun hne => ?_⟩⟩
  · have h2 : (k : Int) ≤ (l.length : Int) := by omega
    have h0 : (0 : Int) ≤ (k : Int) := by omega
    rw [List.length_drop]
    simp [Instr.slice, run_underlying Tryd.underlying22, Instr.sliceBounds, run_sliceBound, Result.andThen, Tryd.sizeOf35, h2, h0]
  · rw [List.length_drop] at hi
    have hne : l ≠ [] := by rintro rfl; simp at hi
    rw [ha hne, if_neg (by omega), Option.map_some, Addr.add_mid]
    exact indexS4 b (o + k * 4) _ _ i (by rw [List.length_drop]; omega) w'
  · rw [List.getElem?_drop] at hs
    have := h.cell (k + i) s hs j v hv
    rw [show o + k * 4 + i * 4 + j = o + (k + i) * 4 + j by omega]
    exact this
  · have hlt : k < l.length := by
      rcases Nat.lt_or_ge k l.length with h1 | h1
      · exact h1
      · exact absurd (List.drop_eq_nil_of_le h1) hne
    rw [ha (by rintro rfl; simp at hlt), if_neg (by omega), Option.map_some, Addr.add_mid]
theorem StA.take {w : World} {V : Value} {l : List Stp} {b o : Nat} (h : StA w V l b o) {k : Nat} (hk : k ≤ l.length) : ∃ V', (∀ w', (Instr.slice 22 V none (some (.int .i64 (k : Int))) none).run Tryd.prog w' = .ok V' w') ∧ StA w V' (l.take k) b o := by
  obtain ⟨a, c, rfl, hc, ha⟩ := h.form
  have hlk : (l.take k).length = k := by rw [List.length_take]; omega
  refine ⟨.slice a (l.take k).length c, fun w' => ?_, fun T w' => lenS _ _ _ T w', fun i hi w' => ?_, fun i s hs j v hv => ?_, ⟨_, _, rfl, by omega, fun hne => ?_⟩⟩
  · have h2 : (k : Int) ≤ (c : Int) := by omega
    have h0 : (0 : Int) ≤ (k : Int) := by omega
    rw [hlk]
    simp [Instr.slice, run_underlying Tryd.underlying22, Instr.sliceBounds, run_sliceBound, Result.andThen, Tryd.sizeOf35, h2, h0]
    intro _
    cases a with
    | none => rfl
    | some x => simp [Addr.add]
  · have hne : l ≠ [] := by rintro rfl; simp at hi
    rw [ha hne]
    exact indexS4 b o _ _ i hi w'
  · have hi := (List.getElem?_eq_some_iff.1 hs).1
    rw [List.getElem?_take_of_lt (by omega)] at hs
    exact h.cell i s hs j v hv
  · exact ha (by rintro rfl; simp at hne)
end Go.Proofs.YtbnlkjoblngakaaDoor
