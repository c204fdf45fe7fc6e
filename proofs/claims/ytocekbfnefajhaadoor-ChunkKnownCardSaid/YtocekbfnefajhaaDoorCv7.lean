/- The landed readData, endHead, endTrailer and endLine walked. -/
import Derived.Test.YtocekbfnefajhaaDoorCv5
import Derived.Test.YtocekbfnefajhaaDoorCv6
namespace Go.Proofs.YtocekbfnefajhaaDoor
open Go.RowKit
attribute [local go_sem] store_one B_match B_store S_match S_store eguard_BN nguard_BN

/-- A reader's blocks, and what was made since. -/
def Wider (F : Nat → Prop) (w w' : World) : Nat → Prop := fun k => F k ∨ (w.heap.size ≤ k ∧ k < w'.heap.size)
section
variable {w w' : World} {F : Nat → Prop} {g : Nat} {x : Raw} {vl vb : Value}
/-- The bytes grew: the new slice is stored. -/
theorem RawIn.moreB (h : RawIn w F g x vl vb) {k n c : Nat} {b : List UInt8} (hV : Own 0 (.slice (some ⟨k, 0, none⟩) n c) (b.map B) w') (hg : w.grownBy w' vb.ownBlock) (hk : vb.ownBlock = some k ∨ w.heap.size ≤ k) (hkw : k < w'.heap.size) :
    RawIn (w'.setCell ⟨g, 2, none⟩ (.slice (some ⟨k, 0, none⟩) n c)) (Wider F w w') g ⟨x.nx, x.line, b, x.lacks, x.since, x.flds, x.bad⟩ vl (.slice (some ⟨k, 0, none⟩) n c) := by
  have hrow : Row w' g (rawC x vl vb) 38 := row_grown h.row hg (fun e => (h.atB g e.symm).2.1 rfl)
  have hline : Own 0 vl (x.line.map B) w' := h.line.grown hg (fun j hj e => (h.atB j e.symm).2.2 hj)
  have hs := hg.size
  have hkg : k ≠ g := by
    rcases hk with hk | hk
    · exact (h.atB k hk).2.1
    · have := h.old g h.foot; omega
  refine ⟨hrow.set 2 _, hline.of_block (by simp [World.setCell]) (fun j hj => Below.heap_setCell _ _ _ _ (fun e => (h.atL j hj).2 e)), hV.of_block (by simp [World.setCell]) (fun j hj => Below.heap_setCell _ _ _ _ (fun e => ?_)), fun j hj => ⟨.inl (h.atL j hj).1, (h.atL j hj).2⟩, fun j hj => ?_, .inl h.foot, fun j hj => ?_⟩
  · have e1 : k = j := Option.some.inj hj
    exact hkg (e1.trans e)
  · have e1 : k = j := Option.some.inj hj
    subst e1
    refine ⟨?_, hkg, fun e => ?_⟩
    · rcases hk with hk | hk
      · exact .inl (h.atB k hk).1
      · exact .inr ⟨hk, hkw⟩
    · rcases hk with hk | hk
      · exact (h.atB k hk).2.2 e
      · have := h.old k (h.atL k e).1; omega
  · rw [show (w'.setCell ⟨g, 2, none⟩ (.slice (some ⟨k, 0, none⟩) n c)).heap.size = w'.heap.size by simp [World.setCell]]
    rcases hj with hj | hj
    · have := h.old j hj; omega
    · exact hj.2
/-- The line grew: the new slice is stored. -/
theorem RawIn.moreL (h : RawIn w F g x vl vb) {k n c : Nat} {b : List UInt8} (hV : Own 0 (.slice (some ⟨k, 0, none⟩) n c) (b.map B) w') (hg : w.grownBy w' vl.ownBlock) (hk : vl.ownBlock = some k ∨ w.heap.size ≤ k) (hkw : k < w'.heap.size) :
    RawIn (w'.setCell ⟨g, 1, none⟩ (.slice (some ⟨k, 0, none⟩) n c)) (Wider F w w') g ⟨x.nx, b, x.body, x.lacks, x.since, x.flds, x.bad⟩ (.slice (some ⟨k, 0, none⟩) n c) vb := by
  have hrow : Row w' g (rawC x vl vb) 38 := row_grown h.row hg (fun e => (h.atL g e.symm).2 rfl)
  have hbody : Own 0 vb (x.body.map B) w' := h.body.grown hg (fun j hj e => (h.atB j hj).2.2 e.symm)
  have hs := hg.size
  have hkg : k ≠ g := by
    rcases hk with hk | hk
    · exact (h.atL k hk).2
    · have := h.old g h.foot; omega
  refine ⟨hrow.set 1 _, hV.of_block (by simp [World.setCell]) (fun j hj => Below.heap_setCell _ _ _ _ (fun e => ?_)), hbody.of_block (by simp [World.setCell]) (fun j hj => Below.heap_setCell _ _ _ _ (fun e => (h.atB j hj).2.1 e)), fun j hj => ?_, fun j hj => ⟨.inl (h.atB j hj).1, (h.atB j hj).2.1, fun e => ?_⟩, .inl h.foot, fun j hj => ?_⟩
  · have e1 : k = j := Option.some.inj hj
    exact hkg (e1.trans e)
  · have e1 : k = j := Option.some.inj hj
    subst e1
    refine ⟨?_, hkg⟩
    rcases hk with hk | hk
    · exact .inl (h.atL k hk).1
    · exact .inr ⟨hk, hkw⟩
  · have e1 : k = j := Option.some.inj e
    subst e1
    rcases hk with hk | hk
    · exact (h.atB k hj).2.2 hk
    · have := h.old k (h.atB k hj).1; omega
  · rw [show (w'.setCell ⟨g, 1, none⟩ (.slice (some ⟨k, 0, none⟩) n c)).heap.size = w'.heap.size by simp [World.setCell]]
    rcases hj with hj | hj
    · have := h.old j hj; omega
    · exact hj.2
end
set_option maxRecDepth 100000 in
set_option maxHeartbeats 1000000 in
theorem readdata_any {w : World} {F : Nat → Prop} {g : Nat} {x : Raw} (c : UInt8) (h : RawAt w F g x) (hb : x.body.length ≤ 100000) (h1 : 1 ≤ x.lacks) (h2 : x.lacks ≤ 100000) :
    Calls Tryd.prog 31 #[.pointer (some ⟨g, 0, none⟩), B c] w fun r w' => r = .returned (.tuple #[]) ∧ ∃ F', RawAt w' F' g (x.dat c) ∧ Moves F F' w w' := by
  obtain ⟨vl, vb, h⟩ := h
  obtain ⟨⟨_, _, c2, _⟩, _⟩ := h.cells
  obtain ⟨k, cp, W2, hrun, hown, hgr, hkk, hkw⟩ := own_more (P := Tryd.prog) h.body Tryd.underlying35 elem5 35 (B c) rfl (by rw [List.length_map]; omega)
  rw [List.length_map] at hrun hown
  rw [show x.body.map B ++ [B c] = (x.body ++ [c]).map B by simp] at hown
  have h3 := h.moreB hown hgr hkk hkw
  have hrow : Row W2 g (rawC x vl vb) 38 := row_grown h.row hgr (fun e => (h.atB g e.symm).2.1 rfl)
  obtain ⟨l, hl⟩ : ∃ l, x.lacks = l + 1 := ⟨x.lacks - 1, by omega⟩
  have d0 : W2.cell? ⟨g, 0, none⟩ = some (.int .i64 (x.nx : Int)) := cell_of_row W2 _ 0 _ _ (0, 0) hrow
  have d2 : W2.cell? ⟨g, 2, none⟩ = some vb := cell_of_row W2 _ 2 _ _ (0, 0) hrow
  have d3 : W2.cell? ⟨g, 3, none⟩ = some (.int .i64 ((l : Int) + 1)) := by
    have := cell_of_row W2 g 3 _ _ (0, 0) hrow
    rw [this]
    show some (Value.int .i64 (x.lacks : Int)) = _
    rw [hl]; rfl
  have f0 := hrow.frozen 0
  have f2 := hrow.frozen 2
  have f3 := hrow.frozen 3
  have hM : Moves F (Wider F w W2) w W2 := ⟨hgr.os, hgr.tape, hgr.output, hgr.size, fun j hj => hj.imp id (·.1), fun j hj hn => hgr.block j hj (fun e => hn (h.atB j e.symm).1)⟩
  have hw1 : IntKind.i64.wrap ((l : Int) + 1 - 1) = (l : Int) := by rw [IntKind.wrap_i64]; omega
  have hw2 : IntKind.i64.wrap (l : Int) = (l : Int) := by rw [IntKind.wrap_i64]; omega
  have HH := Lib.hid (And.intro h3 (And.intro hM hl))
  clear h h1 h2 h3 hM hown hgr hkk hkw hrow hb
  by_cases h0 : l = 0
  · have hz : ((l : Int) == 0) = true := by rw [beq_iff_eq]; omega
    go_enter Tryd.func31, Tryd.ntmps31
    go_wp2_with (at_builtin; refine wpList_append_by rfl 35 35 (.tmp 8) (.tmp 10) rfl vb (.slice (some ⟨w.heap.size, 0, none⟩) 1 1) rfl rfl _ _ hrun ?_)
    go_wp2
    refine bodyPost_end (results_none rfl _ _ _) rfl ?_
    have hl := HH.out.2.2
    have e1 := HH.out.1.put (y := ⟨x.nx, x.line, x.body ++ [c], 0, x.since, x.flds, x.bad⟩) 3 (.int .i64 0) rfl rfl rfl
    have e2 := e1.put (y := x.dat c) 0 (.int .i64 2) (by unfold Raw.dat; rw [if_pos (by omega), show x.lacks - 1 = 0 by omega]; rfl) rfl rfl
    exact ⟨rfl, _, ⟨_, _, e2⟩, ((HH.out.2.1.trans (Moves.cell _ HH.out.1.foot 2 _)).trans (Moves.cell _ HH.out.1.foot 3 _)).trans (Moves.cell _ HH.out.1.foot 0 _)⟩
  · have hz : ((l : Int) == 0) = false := by rw [beq_eq_false_iff_ne]; omega
    go_enter Tryd.func31, Tryd.ntmps31
    go_wp2_with (at_builtin; refine wpList_append_by rfl 35 35 (.tmp 8) (.tmp 10) rfl vb (.slice (some ⟨w.heap.size, 0, none⟩) 1 1) rfl rfl _ _ hrun ?_)
    go_wp2
    refine bodyPost_end (results_none rfl _ _ _) rfl ?_
    have hl := HH.out.2.2
    have e1 := HH.out.1.put (y := x.dat c) 3 (.int .i64 (l : Int)) (by unfold Raw.dat; rw [if_neg (by omega), show x.lacks - 1 = l by omega]; rfl) rfl rfl
    exact ⟨rfl, _, ⟨_, _, e1⟩, (HH.out.2.1.trans (Moves.cell _ HH.out.1.foot 2 _)).trans (Moves.cell _ HH.out.1.foot 3 _)⟩
set_option maxRecDepth 100000 in
set_option maxHeartbeats 1000000 in
theorem endhead_any {w : World} {F : Nat → Prop} {g : Nat} {x : Raw} (s : List UInt8) (hs : s.length ≤ 90000) (h : RawAt w F g x) (hb : x.body.length ≤ 4096) :
    Calls Tryd.prog 47 #[.pointer (some ⟨g, 0, none⟩), S s] w fun r w' => r = .returned (.tuple #[]) ∧ RawAt w' F g (x.endHead s) ∧ Moves F F w w' := by
  have hsz := sizeof_any s hs w
  have hff : ∀ (W : World), RawAt W F g x → Calls Tryd.prog 33 #[.pointer (some ⟨g, 0, none⟩), .int .i64 400] W fun r w' => r = .returned (.tuple #[]) ∧ RawAt w' F g (x.fail 400) ∧ Moves F F W w' := fun W h => fail_any 400 h
  have hfg : ∀ (W : World), RawAt W F g x → Calls Tryd.prog 33 #[.pointer (some ⟨g, 0, none⟩), .int .i64 413] W fun r w' => r = .returned (.tuple #[]) ∧ RawAt w' F g (x.fail 413) ∧ Moves F F W w' := fun W h => fail_any 413 h
  have H4 := Lib.hid hff
  have H5 := Lib.hid hfg
  have H := Lib.hid h
  clear hff hfg h
  have hX : x.endHead s = match sizeF s with
    | none => x.fail 400
    | some n => if 4096 < x.body.length + n then x.fail 413 else if n = 0 then ⟨3, x.line, x.body, x.lacks, x.since, x.flds, x.bad⟩ else ⟨1, x.line, x.body, n, x.since, x.flds, x.bad⟩ := rfl
  cases hz : sizeF s with
  | none =>
    rw [hz] at hsz hX
    unfold szT at hsz
    dsimp only at hsz hX
    have HS := Lib.hid hsz
    rw [hX]
    clear hsz hz hX
    go_enter Tryd.func47, Tryd.ntmps47
    go_wp2_with fail
    refine HS.out.mono ?_
    rintro e W1 ⟨rfl, hB⟩
    have H1 := Lib.hid (And.intro (H.out.below hB) (Moves.of_below (F := F) hB))
    clear hB
    go_wp2_with fail
    refine (H4.out _ H1.out.1).mono ?_
    rintro e W2 ⟨rfl, hR, hM⟩
    have H2 := Lib.hid (And.intro hR hM)
    clear hR hM
    go_wp2
    refine bodyPost_end (results_none rfl _ _ _) rfl ?_
    exact ⟨rfl, H2.out.1, H1.out.2.trans H2.out.2⟩
  | some n =>
    rw [hz] at hsz hX
    have hn := sizeF_small hz
    unfold szT at hsz
    dsimp only at hsz hX
    have HS := Lib.hid hsz
    obtain ⟨b, hbb⟩ : ∃ b, b = x.body.length := ⟨_, rfl⟩
    rw [← hbb] at hX
    have hw : IntKind.i64.wrap (4096 - (b : Int)) = 4096 - (b : Int) := by rw [IntKind.wrap_i64]; omega
    clear hsz hz
    by_cases hbig : 4096 < b + n
    · rw [if_pos hbig] at hX
      rw [hX]
      have hg : decide ((n : Int) > 4096 - (b : Int)) = true := decide_eq_true (by omega)
      have hg' : decide (4096 - (b : Int) < (n : Int)) = true := decide_eq_true (by omega)
      have HB := Lib.hid hbb
      clear hX hbig hbb hb hn
      go_enter Tryd.func47, Tryd.ntmps47
      go_wp2_with fail
      refine HS.out.mono ?_
      rintro e W1 ⟨rfl, hB⟩
      have H1 := Lib.hid (And.intro (H.out.below hB) (Moves.of_below (F := F) hB))
      clear hB
      obtain ⟨vl, vb, hi⟩ := H1.out.1
      obtain ⟨⟨_, _, c2, _⟩, _⟩ := hi.cells
      have hlen := fun W => own_len (P := Tryd.prog) hi.body 35 5 3 Tryd.underlying35 W
      rw [List.length_map, ← HB.out] at hlen
      clear hi
      go_wp2_with fail
      refine (H5.out _ H1.out.1).mono ?_
      rintro e W2 ⟨rfl, hR, hM⟩
      have H2 := Lib.hid (And.intro hR hM)
      clear hR hM
      go_wp2
      refine bodyPost_end (results_none rfl _ _ _) rfl ?_
      exact ⟨rfl, H2.out.1, H1.out.2.trans H2.out.2⟩
    · rw [if_neg hbig] at hX
      have hg : decide ((n : Int) > 4096 - (b : Int)) = false := decide_eq_false (by omega)
      have hg' : decide (4096 - (b : Int) < (n : Int)) = false := decide_eq_false (by omega)
      have HB := Lib.hid hbb
      clear hbb
      by_cases h0 : n = 0
      · rw [if_pos h0] at hX
        rw [hX]
        have hz0 : ((n : Int) == 0) = true := by rw [beq_iff_eq]; omega
        clear hX hbig hb hn h0
        go_enter Tryd.func47, Tryd.ntmps47
        go_wp2_with fail
        refine HS.out.mono ?_
        rintro e W1 ⟨rfl, hB⟩
        have H1 := Lib.hid (And.intro (H.out.below hB) (Moves.of_below (F := F) hB))
        clear hB
        obtain ⟨vl, vb, hi⟩ := H1.out.1
        obtain ⟨⟨c0, _, c2, _⟩, _, fz⟩ := hi.cells
        have f0 := fz 0
        have hlen := fun W => own_len (P := Tryd.prog) hi.body 35 5 3 Tryd.underlying35 W
        rw [List.length_map, ← HB.out] at hlen
        have HI := Lib.hid hi
        clear hi fz
        go_wp2
        refine bodyPost_end (results_none rfl _ _ _) rfl ?_
        exact ⟨rfl, ⟨_, _, HI.out.put 0 (.int .i64 3) rfl rfl rfl⟩, H1.out.2.trans (Moves.cell _ HI.out.foot 0 _)⟩
      · rw [if_neg h0] at hX
        rw [hX]
        have hz0 : ((n : Int) == 0) = false := by rw [beq_eq_false_iff_ne]; omega
        clear hX hbig hb hn h0
        go_enter Tryd.func47, Tryd.ntmps47
        go_wp2_with fail
        refine HS.out.mono ?_
        rintro e W1 ⟨rfl, hB⟩
        have H1 := Lib.hid (And.intro (H.out.below hB) (Moves.of_below (F := F) hB))
        clear hB
        obtain ⟨vl, vb, hi⟩ := H1.out.1
        obtain ⟨⟨c0, _, c2, c3⟩, _, fz⟩ := hi.cells
        have f0 := fz 0
        have f3 := fz 3
        have hlen := fun W => own_len (P := Tryd.prog) hi.body 35 5 3 Tryd.underlying35 W
        rw [List.length_map, ← HB.out] at hlen
        have HI := Lib.hid hi
        clear hi fz
        go_wp2
        refine bodyPost_end (results_none rfl _ _ _) rfl ?_
        have e1 := HI.out.put (y := ⟨1, x.line, x.body, x.lacks, x.since, x.flds, x.bad⟩) 0 (.int .i64 1) rfl rfl rfl
        exact ⟨rfl, ⟨_, _, e1.put 3 (.int .i64 (n : Int)) rfl rfl rfl⟩, (H1.out.2.trans (Moves.cell _ HI.out.foot 0 _)).trans (Moves.cell _ HI.out.foot 3 _)⟩
end Go.Proofs.YtocekbfnefajhaaDoor
