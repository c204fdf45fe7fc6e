/- ChainOnce (stage 13) walked, over any package of chains. -/
import Derived.Test.YtbnlkjoblngakaaDoorKd
namespace Go.Proofs.YtbnlkjoblngakaaDoor
open Go.RowKit Go.Shelf
attribute [local go_sem] store_one S_match S_store

theorem refuse_is {fs : Fds} {body : Tx} {s : Stp} {p : Tx} {x : Nat × Tx} (h : stepS fs body s p = .inr x) : x = (403, [102, 111, 114, 98, 105, 100, 100, 101, 110]) ∨ x = (413, [116, 111, 111, 32, 108, 111, 110, 103]) ∨ x = (404, [110, 111, 116, 32, 102, 111, 117, 110, 100]) := by
  unfold stepS at h
  repeat' split at h
  all_goals first | (cases h; done) | (injection h with h; subst h; simp; done)
theorem go_some {fs : Fds} {body : Tx} : ∀ {l : List Stp} {p : Tx} {x : Nat × Tx}, (goS fs body l p).2.2 = some x → x = (403, [102, 111, 114, 98, 105, 100, 100, 101, 110]) ∨ x = (413, [116, 111, 111, 32, 108, 111, 110, 103]) ∨ x = (404, [110, 111, 116, 32, 102, 111, 117, 110, 100])
  | [], p, x, h => by cases h
  | s :: l, p, x, h => by
    rw [goS] at h
    split at h
    · rename_i y hy
      injection h with h
      subst h
      exact refuse_is hy
    · exact go_some h
/-- How many steps add a field. -/
def cntS (l : List Stp) : Nat := (l.filter fun s => s.kind == 1 || s.kind == 5).length
theorem adds_len (fs : Fds) : ∀ l : List Stp, (addsS fs l).length = cntS l
  | [] => rfl
  | s :: l => by
    rw [adds_cons, List.length_append, adds_len fs l]
    unfold cntS addS
    rw [List.filter_cons]
    by_cases h1 : s.kind = 1
    · simp [h1]
    · by_cases h5 : s.kind = 5
      · simp [h5]
      · have e1 : (s.kind == 1) = false := beq_eq_false_iff_ne.2 h1
        have e5 : (s.kind == 5) = false := beq_eq_false_iff_ne.2 h5
        simp [h1, h5, e1, e5]
theorem cnt_take (l : List Stp) (n : Nat) : cntS (l.take n) ≤ cntS l := by
  have : cntS l = cntS (l.take n) + cntS (l.drop n) := by
    unfold cntS
    rw [← List.length_append, ← List.filter_append, List.take_append_drop]
  omega
theorem cnt_next {l : List Stp} {i : Nat} {s : Stp} (h : l[i]? = some s) : cntS (l.take (i + 1)) = cntS (l.take i) + if s.kind = 1 ∨ s.kind = 5 then 1 else 0 := by
  unfold cntS
  rw [List.take_add_one, h, Option.toList_some, List.filter_append, List.length_append]
  congr 1
  by_cases h1 : s.kind = 1
  · simp [h1]
  · by_cases h5 : s.kind = 5
    · simp [h5]
    · have e1 : (s.kind == 1) = false := beq_eq_false_iff_ne.2 h1
      have e5 : (s.kind == 5) = false := beq_eq_false_iff_ne.2 h5
      simp [h1, h5, e1, e5]
theorem set_rest (W : World) (b o : Nat) (v : Value) : Rest (fun k => k = b) W (W.setCell ⟨b, o, none⟩ v) := by
  have h := set_grown W b o v
  exact ⟨h.os, h.tape, h.output, h.size, fun k hk hn => h.block k hk (by simpa using hn)⟩
set_option maxRecDepth 100000 in
set_option maxHeartbeats 1000000 in
/-- The handler that counts. -/
theorem once_any (r : Rq) (V : Value) (bn : Nat) (k : Nat) (hk : k < 1000) (w : World) (hn : Row w bn #[.int .i64 (k : Int)] 3) :
    Calls Tryd.prog 22 (#[rqV r V] ++ #[.pointer (some ⟨bn, 0, none⟩)]) w fun e w' => e = .returned (rpV 299 (.slice none 0 0) []) ∧ Rest (fun j => j = bn) w w' ∧ Row w' bn #[.int .i64 ((k : Int) + 1)] 3 := by
  unfold rqV rqC
  obtain ⟨m, p, q, v, fs, body, cl⟩ := r
  dsimp only
  obtain ⟨W1, hW1⟩ : ∃ W, W = (w.alloc (.cells #[S m, S p, S q, .int .i64 v, V, S body, .bool cl] 25)) := ⟨_, rfl⟩
  have hr1 : Row W1 bn #[.int .i64 (k : Int)] 3 := by rw [hW1]; exact hn.alloc _
  have hlt := hn.lt
  have hw1 : IntKind.i64.wrap ((k : Int) + 1) = (k : Int) + 1 := by rw [IntKind.wrap_i64]; omega
  have hr2 : Row (W1.alloc (.cells #[.int .i64 0, .slice none 0 0, .string ⟨#[]⟩] 27)) bn #[.int .i64 (k : Int)] 3 := hr1.alloc _
  have c0 := cell_of_row _ bn 0 _ 3 (0, 0) hr2
  have cf := hr2.frozen 0
  have c0 : (W1.alloc (.cells #[.int .i64 0, .slice none 0 0, .string ⟨#[]⟩] 27)).cell? ⟨bn, 0, none⟩ = some (.int .i64 (k : Int)) := c0
  rw [hW1] at c0 cf
  go_enter Tryd.func22, Tryd.ntmps22
  go_wp2
  have hsz : (w.setCell ⟨bn, 0, none⟩ (.int .i64 ((k : Int) + 1))).heap.size = w.heap.size := by simp
  have hq : Row (((w.setCell ⟨bn, 0, none⟩ (.int .i64 ((k : Int) + 1))).alloc (.cells #[S m, S p, S q, .int .i64 v, V, S body, .bool cl] 25)).alloc (.cells #[.int .i64 299, .slice none 0 0, .string ⟨#[]⟩] 27)) bn #[.int .i64 ((k : Int) + 1)] 3 := ((hn.set 0 _).alloc _).alloc _
  refine bodyPost_ret (results_row_one rfl _ _ (w.heap.size + 1) 27 #[.int .i64 299, .slice none 0 0, .string ⟨#[]⟩] (0, 0) _ rfl ?_ Tryd.underlying27 rfl infoRp) rfl ?_
  · have h := row_new ((w.setCell ⟨bn, 0, none⟩ (.int .i64 ((k : Int) + 1))).alloc (.cells #[S m, S p, S q, .int .i64 v, V, S body, .bool cl] 25)) #[.int .i64 299, .slice none 0 0, .string ⟨#[]⟩] 27
    rw [alloc_size, hsz] at h
    exact h
  · refine ⟨rfl, ?_, hq⟩
    have h1 := set_rest w bn 0 (.int .i64 ((k : Int) + 1))
    have h2 : Rest (fun j => j = bn) (w.setCell ⟨bn, 0, none⟩ (.int .i64 ((k : Int) + 1))) _ := Rest.of_below (((Below.refl _ (w.setCell ⟨bn, 0, none⟩ (.int .i64 ((k : Int) + 1)))).alloc (Nat.le_refl _) (.cells #[S m, S p, S q, .int .i64 v, V, S body, .bool cl] 25)).alloc (by rw [alloc_size]; omega) (.cells #[.int .i64 299, .slice none 0 0, .string ⟨#[]⟩] 27))
    exact (h1.trans h2).mono (fun j _ h => h.elim id id)
/-- What ChainOnce's steps answer. -/
def OnceP (W : World) (_r : Rq) (l : List Stp) (bn : Nat) (e : Ending) (w' : World) : Prop :=
  ∃ c n V' body fs', e = .returned (rpV c V' body) ∧ FO W.heap.size V' fs' w' ∧ Row w' bn #[.int .i64 (n : Int)] 3 ∧ Rest (fun j => j = bn) W w' ∧
    ((c = 299 ∧ n = 1 ∧ fs'.length = cntS l) ∨ (n = 0 ∧ fs'.length ≤ cntS l ∧ ((c = 403 ∧ body = [102, 111, 114, 98, 105, 100, 100, 101, 110]) ∨ (c = 413 ∧ body = [116, 111, 111, 32, 108, 111, 110, 103]) ∨ (c = 404 ∧ body = [110, 111, 116, 32, 102, 111, 117, 110, 100]))))
theorem once_does {wk w' : World} {g : Nat} {lb : Array Value} {l : List Stp} {bn : Nat} (h : DoesH wk w' g lb l 22 #[.pointer (some ⟨bn, 0, none⟩)]) (hbn : bn < wk.heap.size) {W : World} (hs : w'.heap.size ≤ W.heap.size) (_hws : wk.heap.size ≤ w'.heap.size)
    (hk : ∀ k, wk.heap.size ≤ k → k < w'.heap.size → W.heap[k]? = w'.heap[k]?) (r : Rq) (V : Value) (b o : Nat) (hA : FA W V r.fs b o) (hr : SmallR r) (hb : r.fs ≠ [] → b < W.heap.size ∧ b ≠ bn) (hn : Row W bn #[.int .i64 0] 3) :
    Calls Tryd.prog g (#[rqV r V] ++ lb) W (OnceP W r l bn) := by
  refine h W hs hk r V b o hA hr _ ?_
  have hbW := hn.lt
  cases hg : (goS r.fs r.body l r.p).2.2 with
  | some x =>
    intro W' V' hB hF
    refine ⟨_, 0, V', _, _, rfl, hF, hn.below hB hbW, Rest.of_below hB, .inr ⟨rfl, ?_, ?_⟩⟩
    · rw [adds_len]; exact cnt_take l _
    · rcases go_some hg with rfl | rfl | rfl <;> simp
  | none =>
    intro N W1 V1 hB hN _
    have hn1 := hn.below hB hbW
    refine (once_any { r with p := (goS r.fs r.body l r.p).2.1 } V1 bn 0 (by omega) W1 hn1).mono ?_
    rintro e W2 ⟨rfl, hR, hn2⟩
    refine ⟨299, .slice none 0 0, [], [], 0, 0, rfl, fa_nil _ _ _, by simp, .inl rfl, hR.size, fun k hk' => ?_, fun W3 V3 hR3 hF => ?_⟩
    · have hsz := hB.size
      rcases hk' with h1 | h1 | h1
      · exact hR.rest k (hN k h1).2.1 (fun e => by have := (hN k h1).1; omega)
      · exact hR.rest k (by omega) (by omega)
      · exact hR.rest k (by have := (hb h1.1).1; omega) (by have := (hb h1.1).2; omega)
    · have hsz := hB.size
      have hsz2 := hR.size
      have hn3 : Row W3 bn #[.int .i64 1] 3 := by
        have h4 : W3.heap[bn]? = W2.heap[bn]? := hR3.rest bn hn2.lt (fun e => by have := (hN bn e).1; omega)
        unfold Row at hn2 ⊢
        rw [h4]; exact hn2
      refine ⟨299, 1, V3, [], _, rfl, hF, hn3, ?_, .inl ⟨rfl, rfl, by rw [List.nil_append, adds_len]⟩⟩
      exact (((Rest.of_below (N := fun j => j = bn) hB).trans hR).trans (hR3.mono (N' := fun j => W.heap.size ≤ j) (fun k _ h1 => (hN k h1).1))).mono (fun k hk' h1 => by
        rcases h1 with (h1 | h1) | h1
        · exact h1
        · exact h1
        · omega)
end Go.Proofs.YtbnlkjoblngakaaDoor
