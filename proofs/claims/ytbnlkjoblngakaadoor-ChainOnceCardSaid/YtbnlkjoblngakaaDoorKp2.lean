/- The landed package of chains: rows of fields copied, a field put behind others, what is refused. -/
import Derived.Test.YtbnlkjoblngakaaDoorKp0
import Derived.Test.YtbnlkjoblngakaaDoorKp1
import Derived.Test.YtbnlkjoblngakaaDoorKl
namespace Go.Proofs.YtbnlkjoblngakaaDoor
open Go.RowKit Go.Shelf
attribute [local go_sem] store_one S_match S_store

theorem fa_none {w : World} {fs : Fds} {b o c : Nat} (h : FA w (.slice none fs.length c) fs b o) : fs = [] := by
  cases fs with
  | nil => rfl
  | cons f r =>
    have hix := h.index 0 (by simp) w
    simp [Instr.indexAt, boundsPanic, go_sem] at hix
set_option maxRecDepth 100000 in
set_option maxHeartbeats 1000000 in
theorem clone13_any (V : Value) (fs : Fds) (b o : Nat) (w : World) (h : FA w V fs b o) (hl : fs.length ≤ 1000) :
    Calls Tryd.prog 44 #[V] w fun e w' => ∃ V', e = .returned V' ∧ FO w.heap.size V' fs w' ∧ Below w.heap.size w w' := by
  have q23 : ∀ (w : World) (a : Option Addr) (n c n' c' : Nat), (binOp .eql 23 (.slice a n c) (.slice none n' c')).run Tryd.prog w = .ok (.bool a.isNone) w := fun w a n c n' c' => Lib.run_eql_slice_nil w _ _ a n c n' c' Tryd.underlying23
  obtain ⟨a, c, rfl⟩ := h.form
  obtain ⟨V', W', hr, hF, hB⟩ := run_copyF h hl 23
  have HR := Lib.hid hr
  have HE := Lib.hid (And.intro hF hB)
  have HN := Lib.hid h
  obtain ⟨N, hN⟩ : ∃ N, N = fs.length := ⟨_, rfl⟩
  rw [← hN] at HR ⊢
  have HL := Lib.hid hN
  clear hr hF hB h hl hN
  cases a with
  | none =>
    go_enter Tryd.func44, Tryd.ntmps44
    go_wp2
    go_ret
    have e := fa_none HN.out
    exact ⟨_, rfl, by rw [e]; exact ⟨rfl, .inl ⟨rfl, rfl⟩⟩, Below.refl _ _⟩
  | some a =>
    go_enter Tryd.func44, Tryd.ntmps44
    go_wp2_with (at_builtin; refine wpList_append_at rfl (.tmp 5) (.tmp 6) 23 rfl _ _ rfl rfl V' W' HR.out ?_)
    go_ret
    exact ⟨_, rfl, HE.out⟩
set_option maxRecDepth 100000 in
set_option maxHeartbeats 1000000 in
theorem refused_any (c : Int) (t : Tx) (w : World) : Calls Tryd.prog 61 #[.int .i64 c, S t] w fun e w' => e = .returned (rpV c (.slice none 0 0) t) ∧ Below w.heap.size w w' := by
  go_enter Tryd.func61, Tryd.ntmps61
  go_wp2
  refine bodyPost_ret (results_row_one rfl _ _ w.heap.size 27 #[.int .i64 c, .slice none 0 0, S t] (0, 0) _ rfl (row_new w _ _) Tryd.underlying27 rfl infoRp) rfl ?_
  exact ⟨rfl, (Below.refl _ w).alloc (Nat.le_refl _) _⟩
set_option maxRecDepth 100000 in
set_option maxHeartbeats 1000000 in
/-- A field behind those of a reply. -/
theorem with_any (c : Int) (V : Value) (body : Tx) (n u : Tx) (B : Nat) (fs : Fds) (w : World) (hF : FO B V fs w) (hB : B ≤ w.heap.size) (hl : fs.length ≤ 100000) :
    Calls Tryd.prog 66 #[rpV c V body, .agg #[S n, S u]] w fun e w' => ∃ V', e = .returned (rpV c V' body) ∧ FO B V' (fs ++ [(n, u)]) w' ∧ Rest (fun k => B ≤ k) w w' := by
  unfold rpV rpC
  obtain ⟨W3, hW3⟩ : ∃ W, W = ((w.alloc (.cells #[.int .i64 c, V, S body] 27)).alloc (.cells #[S n, S u] 53)).alloc (.cells #[.int .i64 0, .slice none 0 0, .string ⟨#[]⟩] 27) := ⟨_, rfl⟩
  have hs3 : W3.heap.size = w.heap.size + 3 := by rw [hW3]; simp
  have hB3 : Below w.heap.size w W3 := by rw [hW3]; exact (((Below.refl _ w).alloc (Nat.le_refl _) _).alloc (by rw [alloc_size]; omega) _).alloc (by simp; omega) _
  have hr0 : Row W3 w.heap.size #[.int .i64 c, V, S body] 27 := by rw [hW3]; exact ((row_new w _ _).alloc _).alloc _
  have hr2 : Row W3 (w.heap.size + 2) #[.int .i64 0, .slice none 0 0, .string ⟨#[]⟩] 27 := by
    have h := row_new ((w.alloc (.cells #[.int .i64 c, V, S body] 27)).alloc (.cells #[S n, S u] 53)) #[.int .i64 0, .slice none 0 0, .string ⟨#[]⟩] 27
    rw [alloc_size, alloc_size] at h
    rw [hW3]; exact h
  have HF3 : Hid (World.ownsRow W3 B 53 2 V fs.length (fcells fs)) := Lib.hid (own_below hF hB3)
  have hlt : ∀ k, V.ownBlock = some k → k < w.heap.size := fun k hk => (World.ownsRow.lt hF k hk).2
  have HS := Lib.hid (And.intro hr0 (And.intro hr2 (And.intro hlt (And.intro hB3 hs3))))
  have HL := Lib.hid (And.intro hl hB)
  have hone : ∀ v ∈ (#[S n, S u] : Array Value).toList, v.oneCell' = true := by intro v hv; simp at hv; rcases hv with rfl | rfl <;> rfl
  clear hF hB hl hr0 hr2 hB3 hs3 hlt
  go_enter Tryd.func66, Tryd.ntmps66
  go_wp2_with (at_builtin; refine wpList_addL rfl 23 53 (.tmp 6) (.tmp 8) rfl Tryd.underlying23 eleF (by omega) B _ V rfl fs.length (fcells fs) (by rw [← hW3]; exact HF3.out) #[S n, S u] rfl hone rfl (w.heap.size + 3) (by rw [← hW3]; exact HS.out.2.2.2.2) rfl (by have := HL.out.1; omega) (by rw [← hW3]; have := HS.out.2.2.2.2; have := HL.out.2; omega) ?_; intro gg cap W9 o2 g2 g3 g4; rw [← hW3] at g2 g3; have H9 := Lib.hid (And.intro o2 (And.intro g2 g3))
               have k0 : Row W9 w.heap.size #[.int .i64 c, V, S body] 27 := (by unfold Row; rw [g2.block w.heap.size (by have := HS.out.2.2.2.2; omega) (fun e => by have := HS.out.2.2.1 _ e.symm; omega)]; exact HS.out.1)
               have k2 : Row W9 (w.heap.size + 2) #[.int .i64 0, .slice none 0 0, .string ⟨#[]⟩] 27 := (by unfold Row; rw [g2.block (w.heap.size + 2) (by have := HS.out.2.2.2.2; omega) (fun e => by have := HS.out.2.2.1 _ e.symm; omega)]; exact HS.out.2.1)
               have HK := Lib.hid (And.intro k0 k2)
               have x0 : W9.cell? ⟨w.heap.size, 0, none⟩ = some (.int .i64 c) := cell_of_row W9 _ 0 _ _ (0, 0) k0
               have x1 : W9.cell? ⟨w.heap.size, 1, none⟩ = some V := cell_of_row W9 _ 1 _ _ (0, 0) k0
               have x2 : W9.cell? ⟨w.heap.size, 2, none⟩ = some (S body) := cell_of_row W9 _ 2 _ _ (0, 0) k0
               have z1 := k0.frozen 1
               have e0 : W9.cell? ⟨w.heap.size + 2, 0, none⟩ = some (.int .i64 0) := cell_of_row W9 _ 0 _ _ (0, 0) k2
               have e1 : W9.cell? ⟨w.heap.size + 2, 1, none⟩ = some (.slice none 0 0) := cell_of_row W9 _ 1 _ _ (0, 0) k2
               have e2 : W9.cell? ⟨w.heap.size + 2, 2, none⟩ = some (.string ⟨#[]⟩) := cell_of_row W9 _ 2 _ _ (0, 0) k2
               have y0 := k2.frozen 0
               have y1 := k2.frozen 1
               have y2 := k2.frozen 2
               clear o2 g2 g3 g4 k0 k2)
  have h2 : Row (W9.setCell ⟨w.heap.size, 1, none⟩ (.slice (some ⟨gg, 0, none⟩) (fs.length + 1) cap)) (w.heap.size + 2) #[.int .i64 0, .slice none 0 0, .string ⟨#[]⟩] 27 := by
    unfold Row
    rw [(set_rest W9 w.heap.size 1 _).rest (w.heap.size + 2) HK.out.2.lt (by omega)]
    exact HK.out.2
  refine bodyPost_ret (results_row_one rfl _ _ (w.heap.size + 2) 27 #[.int .i64 c, .slice (some ⟨gg, 0, none⟩) (fs.length + 1) cap, S body] (0, 0) _ rfl (put3k_row h2 _ _ _) Tryd.underlying27 rfl infoRp) rfl ?_
  refine ⟨_, rfl, ?_, ?_⟩
  · have hR : Rest (fun k => w.heap.size ≤ k ∧ k < W3.heap.size) W9 (put3k (W9.setCell ⟨w.heap.size, 1, none⟩ (.slice (some ⟨gg, 0, none⟩) (fs.length + 1) cap)) (w.heap.size + 2) (.int .i64 c) (.slice (some ⟨gg, 0, none⟩) (fs.length + 1) cap) (S body)) :=
      ((((set_rest W9 w.heap.size 1 _).trans (set_rest _ (w.heap.size + 2) 0 (.int .i64 c))).trans (set_rest _ (w.heap.size + 2) 1 _)).trans (set_rest _ (w.heap.size + 2) 2 (S body))).mono fun k _ h => by have := HS.out.2.2.2.2; omega
    have ho := own_same H9.out.1 (w' := put3k (W9.setCell ⟨w.heap.size, 1, none⟩ (.slice (some ⟨gg, 0, none⟩) (fs.length + 1) cap)) (w.heap.size + 2) (.int .i64 c) (.slice (some ⟨gg, 0, none⟩) (fs.length + 1) cap) (S body)) (fun j hj => hR.rest j (World.ownsRow.lt H9.out.1 j hj).2 (fun h => by
      simp only [Value.ownBlock, Option.some.injEq] at hj
      rcases H9.out.2.2 with h1 | h1
      · have := HS.out.2.2.1 _ h1; omega
      · omega))
    unfold FO
    rw [fcells_snoc, List.length_append]
    exact ho
  · have hR1 : Rest (fun k => B ≤ k) w W3 := Rest.of_below HS.out.2.2.2.1
    have hR2 : Rest (fun k => V.ownBlock = some k) W3 W9 := ⟨H9.out.2.1.os, H9.out.2.1.tape, H9.out.2.1.output, H9.out.2.1.size, fun k hk hn => H9.out.2.1.block k hk (fun e => hn e.symm)⟩
    have hR3 := ((((set_rest W9 w.heap.size 1 (.slice (some ⟨gg, 0, none⟩) (fs.length + 1) cap)).trans (set_rest _ (w.heap.size + 2) 0 (.int .i64 c))).trans (set_rest _ (w.heap.size + 2) 1 (.slice (some ⟨gg, 0, none⟩) (fs.length + 1) cap))).trans (set_rest _ (w.heap.size + 2) 2 (S body)))
    refine ((hR1.trans hR2).trans hR3).mono fun k hk h => ?_
    have := HL.out.2
    rcases h with (h | h) | h
    · exact h
    · exact (World.ownsRow.lt HF3.out k h).1
    · omega
end Go.Proofs.YtbnlkjoblngakaaDoor
