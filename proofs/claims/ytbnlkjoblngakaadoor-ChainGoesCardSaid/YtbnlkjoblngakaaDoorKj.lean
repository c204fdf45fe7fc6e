/- The handler of ChainStays: it writes into the fields that it is given (stage 13). -/
import Derived.Test.YtbnlkjoblngakaaDoorKi
namespace Go.Proofs.YtbnlkjoblngakaaDoor
open Go.RowKit Go.Shelf
attribute [local go_sem] store_one S_match S_store

theorem fcells_set : ∀ (fs : Fds) (i : Nat) (f : Tx × Tx) (t : Tx), fs[i]? = some f → fcells (fs.set i (f.1, t)) = (fcells fs).set (i * 2 + 1) (S t)
  | [], i, f, t, h => by simp at h
  | g :: fs, 0, f, t, h => by
    simp only [List.getElem?_cons_zero, Option.some.injEq] at h
    subst h
    rfl
  | g :: fs, i + 1, f, t, h => by
    rw [List.getElem?_cons_succ] at h
    have ih := fcells_set fs i f t h
    rw [List.set_cons_succ, show fcells (g :: fs.set i (f.1, t)) = S g.1 :: S g.2 :: fcells (fs.set i (f.1, t)) from rfl, ih, show (i + 1) * 2 + 1 = i * 2 + 1 + 1 + 1 by omega]
    rfl
/-- One of one's own fields, its value turned. -/
theorem FO.turn {base : Nat} {V : Value} {fs : Fds} {w : World} {i : Nat} {f : Tx × Tx} (h : FO base V fs w) (hf : fs[i]? = some f) (t : Tx) :
    ∃ g, V.ownBlock = some g ∧ base ≤ g ∧ g < w.heap.size ∧ (∀ w', (Instr.indexAt 23 V (.int .i64 (i : Int))).run Tryd.prog w' = .ok (.pointer (some ⟨g, i * 2, none⟩)) w') ∧
      w.cell? ⟨g, i * 2 + 1, none⟩ = some (S f.2) ∧ w.frozen? ⟨g, i * 2 + 1, none⟩ = false ∧ FO base V (fs.set i (f.1, t)) (w.setCell ⟨g, i * 2 + 1, none⟩ (S t)) := by
  have hi := (List.getElem?_eq_some_iff.1 hf).1
  have hset := fcells_set fs i f t hf
  unfold FO at h ⊢
  rcases h.2 with ⟨_, h0⟩ | ⟨g, cap, cur, rfl, hb, hg, hn, hm, hs, ht⟩
  · omega
  · have hR : Row w g cur 53 := hg
    refine ⟨g, rfl, hb, hR.lt, fun w' => ?_, ?_, hR.frozen _, ?_, ?_⟩
    · have := run_index_at (P := Tryd.prog) Tryd.underlying23 (fun w => Tryd.sizeOf53 w) g 0 fs.length cap i hi w'
      rwa [Nat.zero_add] at this
    · obtain ⟨_, h2⟩ := fcells_get fs i f hf
      rw [← ht] at h2
      rw [cell_of_row w g _ cur 53 (0, 0) hg]
      rw [List.getElem?_take] at h2
      split at h2
      · simpa using h2
      · cases h2
    · rw [hset, List.length_set, List.length_set]; exact h.1
    · rw [hset, List.length_set]
      refine .inr ⟨g, cap, cur.setIfInBounds (i * 2 + 1) (S t), rfl, hb, hR.set _ _, hn, hm, by rw [Array.size_setIfInBounds]; exact hs, ?_⟩
      rw [Array.toList_setIfInBounds, List.take_set, ht]
def turnedT : Tx := [116, 117, 114, 110, 101, 100]
set_option maxRecDepth 100000 in
set_option maxHeartbeats 1000000 in
theorem turn_any (r : Rq) (V : Value) (base bx : Nat) (c : Int) (ax : Option Addr) (nx cx : Nat) (body : Tx) (w : World) (hF : FO base V r.fs w) (hl : r.fs.length ≤ 40) (hx : Row w bx (rpC c (.slice ax nx cx) body) 27) (hb : bx < base) :
    Calls Tryd.prog 21 (#[rqV r V] ++ #[.pointer (some ⟨bx, 0, none⟩)]) w fun e w' => e = .returned (rpV c (.slice ax nx cx) body) ∧ Rest (fun j => V.ownBlock = some j) w w' := by
  unfold rqV rqC
  obtain ⟨m, p, q, v, fs, bd, cl⟩ := r
  dsimp only at *
  obtain ⟨b2, hb2⟩ : ∃ b, b = w.heap.size := ⟨_, rfl⟩
  obtain ⟨W2, hW2⟩ : ∃ W, W = (w.alloc (.cells #[S m, S p, S q, .int .i64 v, V, S bd, .bool cl] 25)).alloc (.cells #[.int .i64 0, .slice none 0 0, .string ⟨#[]⟩] 27) := ⟨_, rfl⟩
  have hB2 : Below w.heap.size w W2 := by rw [hW2]; exact ((Below.refl _ w).alloc (Nat.le_refl _) _).alloc (by rw [alloc_size]; omega) _
  have hr1 : Row W2 b2 #[S m, S p, S q, .int .i64 v, V, S bd, .bool cl] 25 := by rw [hW2, hb2]; exact (row_new _ _ _).alloc _
  have hr2 : Row W2 (b2 + 1) #[.int .i64 0, .slice none 0 0, .string ⟨#[]⟩] 27 := by
    have h := row_new (w.alloc (.cells #[S m, S p, S q, .int .i64 v, V, S bd, .bool cl] 25)) #[.int .i64 0, .slice none 0 0, .string ⟨#[]⟩] 27
    rw [alloc_size, ← hb2] at h
    rw [hW2]; exact h
  obtain ⟨g0, hA, -⟩ := hF.fa
  obtain ⟨a, n0, hv⟩ := hA.form
  subst hv
  obtain ⟨K, hK⟩ : ∃ K, K = fs.length := ⟨_, rfl⟩
  have hlK : ∀ w', (Builtin.len_ #[23] 3 #[.slice a K n0]).run Tryd.prog w' = .ok (.int .i64 (K : Int)) w' := fun w' => by simp [Builtin.len_, run_underlying Tryd.underlying23, Result.andThen, goInt]
  change List.length fs ≤ 40 at hl
  rw [← hK] at hF hr1 hW2 hl ⊢
  obtain ⟨VV, hVV⟩ : ∃ V, V = Value.slice a K n0 := ⟨_, rfl⟩
  have HF : Hid (FO base VV fs W2) := Lib.hid (by
    rw [hVV]
    unfold FO at hF ⊢
    rcases hF.2 with hn | ⟨g, cap, cur, h1, h2, h3, h4⟩
    · exact ⟨hF.1, .inl hn⟩
    · exact ⟨hF.1, .inr ⟨g, cap, cur, h1, h2, (by rw [hB2.block g (Array.getElem?_eq_some_iff.1 h3).1]; exact h3), h4⟩⟩)
  have HX : Hid (Row W2 bx (rpC c (.slice ax nx cx) body) 27) := Lib.hid (hx.below hB2 hx.lt)
  have HK := Lib.hid hK
  have hfr : ∀ k, VV.ownBlock = some k → base ≤ k ∧ k < w.heap.size := fun k hk => by
    rw [hVV] at hk
    unfold FO at hF
    rcases hF.2 with ⟨h0, _⟩ | ⟨g, cap, cur, h1, h2, h3, h4⟩
    · rw [h0] at hk; cases hk
    · rw [h1] at hk; injection hk with hk; subst hk; exact ⟨h2, (Array.getElem?_eq_some_iff.1 h3).1⟩
  have HFR := Lib.hid hfr
  have HR1 := Lib.hid hr1
  have HR2 := Lib.hid hr2
  have HB := Lib.hid (And.intro hb (And.intro hb2 hB2))
  have c4 : W2.cell? ⟨b2, 4, none⟩ = some (.slice a K n0) := cell_of_row W2 b2 4 _ _ (0, 0) hr1
  clear hF hA hx hK hr1 hr2 hfr hB2 hb
  go_enter Tryd.func21, Tryd.ntmps21
  go_wp2
  rw [← hW2, ← hb2]
  clear hW2 hb2 c4
  go_loopw [4] (fun iv wr => ∃ i : Nat, i ≤ K ∧ iv = .int .i64 (i : Int) ∧ Hid (∃ fs' : Fds, fs'.length = K ∧ FO base VV fs' wr ∧ Rest (fun j => VV.ownBlock = some j) W2 wr)) (fun iv _ => K - (intOf iv).toNat)
  case atStart => exact ⟨0, Nat.zero_le _, rfl, Lib.hid ⟨fs, HK.out.symm, HF.out, Rest.of_below (Below.refl _ _)⟩⟩
  case round =>
    obtain ⟨i, hi, rfl, HI⟩ := hrel
    obtain ⟨fs', hl', hF', hR'⟩ := HI.out
    have hbs : w.heap.size = b2 := HB.out.2.1.symm
    have d4 : wr.cell? ⟨b2, 4, none⟩ = some (.slice a K n0) := hR'.cell (fun e => by have := (HFR.out b2 e).2; omega) (cell_of_row W2 b2 4 _ _ (0, 0) HR1.out)
    by_cases hlt : i < K
    · have g1 : decide ((i : Int) < (K : Int)) = true := decide_eq_true (by omega)
      obtain ⟨f, hf⟩ : ∃ f, fs'[i]? = some f := ⟨fs'[i]'(by omega), List.getElem?_eq_getElem _⟩
      obtain ⟨g, hg, hg1, hg2, hix, hc, hz, hF2⟩ := hF'.turn hf turnedT
      rw [hVV] at hix
      obtain ⟨kk, hkk⟩ : ∃ k, k = i * 2 := ⟨_, rfl⟩
      rw [← hkk] at hix hc hz hF2
      have hw1 : IntKind.i64.wrap ((i : Int) + 1) = (i : Int) + 1 := by rw [IntKind.wrap_i64]; omega
      have HE : Hid (∃ fs'' : Fds, fs''.length = K ∧ FO base VV fs'' (wr.setCell ⟨g, kk + 1, none⟩ (S turnedT)) ∧ Rest (fun j => VV.ownBlock = some j) W2 (wr.setCell ⟨g, kk + 1, none⟩ (S turnedT))) :=
        Lib.hid ⟨_, by rw [List.length_set]; exact hl', hF2, (hR'.trans (set_rest wr g (kk + 1) (S turnedT))).mono fun k _ h => h.elim id fun e => e ▸ hg⟩
      clear hF2 hF' hR' HI hf hg hg1 hg2 hkk hl' hbs
      go_wp2
      exact ⟨⟨i + 1, by omega, by go_num, HE⟩, by simp [intOf]; omega⟩
    · have g1 : decide ((i : Int) < (K : Int)) = false := decide_eq_false (by omega)
      have hno : ¬ VV.ownBlock = some (b2 + 1) := fun e => by have := (HFR.out _ e).2; omega
      have hnx : ¬ VV.ownBlock = some bx := fun e => by have := (HFR.out _ e).1; have := HB.out.1; omega
      have e0 : wr.cell? ⟨b2 + 1, 0, none⟩ = some (.int .i64 0) := hR'.cell hno (cell_of_row W2 (b2 + 1) 0 _ _ (0, 0) HR2.out)
      have e1 : wr.cell? ⟨b2 + 1, 1, none⟩ = some (.slice none 0 0) := hR'.cell hno (cell_of_row W2 (b2 + 1) 1 _ _ (0, 0) HR2.out)
      have e2 : wr.cell? ⟨b2 + 1, 2, none⟩ = some (.string ⟨#[]⟩) := hR'.cell hno (cell_of_row W2 (b2 + 1) 2 _ _ (0, 0) HR2.out)
      have x0 : wr.cell? ⟨bx, 0, none⟩ = some (.int .i64 c) := hR'.cell hnx (cell_of_row W2 bx 0 _ _ (0, 0) HX.out)
      have x1 : wr.cell? ⟨bx, 1, none⟩ = some (.slice ax nx cx) := hR'.cell hnx (cell_of_row W2 bx 1 _ _ (0, 0) HX.out)
      have x2 : wr.cell? ⟨bx, 2, none⟩ = some (S body) := hR'.cell hnx (cell_of_row W2 bx 2 _ _ (0, 0) HX.out)
      have hr3 : Row wr (b2 + 1) #[.int .i64 0, .slice none 0 0, .string ⟨#[]⟩] 27 := by
        have h := hR'.rest (b2 + 1) HR2.out.lt hno
        unfold Row; rw [h]; exact HR2.out
      have z0 := hr3.frozen 0
      have z1 := hr3.frozen 1
      have z2 := hr3.frozen 2
      have HR3 := Lib.hid hr3
      have HRR := Lib.hid hR'
      clear hF' hR' HI hl' hr3 hno hnx
      go_wp2
      refine bodyPost_ret (results_row_one rfl _ _ (b2 + 1) 27 #[.int .i64 c, .slice ax nx cx, S body] (0, 0) _ rfl (put3k_row HR3.out _ _ _) Tryd.underlying27 rfl infoRp) rfl ?_
      rw [← hVV]
      refine ⟨rfl, ?_⟩
      have h2 : Rest (fun j => VV.ownBlock = some j) w W2 := Rest.of_below HB.out.2.2
      have h3 := h2.trans HRR.out
      have h4 : Rest (fun k => k = b2 + 1) wr (put3k wr (b2 + 1) (.int .i64 c) (.slice ax nx cx) (S body)) :=
        (((set_rest wr (b2 + 1) 0 (.int .i64 c)).trans (set_rest _ (b2 + 1) 1 (.slice ax nx cx))).trans (set_rest _ (b2 + 1) 2 (S body))).mono fun k _ h => h.elim (fun h => h.elim id id) id
      exact (h3.trans h4).mono fun k hk h => h.elim (fun h => h.elim id id) (fun e => by omega)
end Go.Proofs.YtbnlkjoblngakaaDoor
