/- The landed read walked. (mkcv9.py writes it.) -/
import Derived.Test.YtocekbfnefajhaaDoorCv8
namespace Go.Proofs.YtocekbfnefajhaaDoor
open Go.RowKit
attribute [local go_sem] store_one B_match B_store S_match S_store eguard_BN nguard_BN

/-- What a reader's cells are while it reads. -/
structure Small (x : Raw) : Prop where
  line : x.line.length ≤ 2048
  body : x.body.length ≤ 4096
  since : x.since ≤ 2048
  flds : x.flds ≤ 32
  lacks : x.nx = 1 → 1 ≤ x.lacks ∧ x.lacks ≤ 4096
theorem ShpR.small {st : Cst} {x : Raw} (h : ShpR st x) (hs : st.stop = false) : Small x := by
  obtain ⟨hp, hb, hm⟩ := h
  have hb4 : x.body.length ≤ 4096 := by rw [hb]; exact room_le hm
  obtain ⟨ph, d⟩ := st
  cases ph with
  | done => cases hs
  | bad e => cases hs
  | head cur =>
    obtain ⟨h1, h2, h3, h4, h5, h6⟩ := hp
    exact ⟨by rw [h2]; exact h6, hb4, by omega, by omega, fun h => by omega⟩
  | body n =>
    obtain ⟨h1, h2, h3, h4, h5, h6, h7, h8⟩ := hp
    exact ⟨by rw [h2]; simp, hb4, by omega, by omega, fun h => by omega⟩
  | cr =>
    obtain ⟨h1, h2, h3, h4, h5⟩ := hp
    exact ⟨by rw [h2]; simp, hb4, by omega, by omega, fun h => by omega⟩
  | lf =>
    obtain ⟨h1, h2, h3, h4, h5⟩ := hp
    exact ⟨by rw [h2]; simp, hb4, by omega, by omega, fun h => by omega⟩
  | tail cur k f =>
    obtain ⟨h1, h2, h3, h4, h5, h6, h7, h8⟩ := hp
    exact ⟨by rw [h2]; omega, hb4, by omega, by omega, fun h => by omega⟩
theorem fault_cr {nx since : Nat} {line : List UInt8} (h : faultN nx since line 10 = 0) : endCR line = true := by
  unfold faultN at h
  split at h
  · cases h
  · split at h
    · cases h
    · rename_i h2
      have := Classical.not_not.1 h2
      exact this.symm
set_option maxRecDepth 100000 in
set_option maxHeartbeats 2000000 in
theorem read_any {w : World} {F : Nat → Prop} {g : Nat} {x : Raw} (c : UInt8) (h : RawAt w F g x) (hs : Small x) :
    Calls Tryd.prog 20 #[.pointer (some ⟨g, 0, none⟩), B c] w fun r w' => r = .returned (.tuple #[]) ∧ ∃ F', RawAt w' F' g (x.read c) ∧ Moves F F' w w' := by
  by_cases n1 : x.nx = 1
  · have H1 := Lib.hid (readdata_any c h (by have := hs.body; omega) (hs.lacks n1).1 (by have := (hs.lacks n1).2; omega))
    obtain ⟨vl, vb, hi⟩ := h
    obtain ⟨⟨c0, _, _, _⟩, _⟩ := hi.cells
    have q1 : ((x.nx : Int) == 1) = true := by rw [beq_iff_eq]; omega
    rw [Raw.read, if_pos n1]
    clear hi hs n1
    go_enter Tryd.func20, Tryd.ntmps20
    go_wp2_with fail
    refine H1.out.mono ?_
    rintro e W1 ⟨rfl, hR⟩
    have HR := Lib.hid hR
    clear hR
    go_wp2
    refine bodyPost_ret (results_none rfl _ _ _) rfl ?_
    exact ⟨rfl, HR.out⟩
  have q1 : ((x.nx : Int) == 1) = false := by rw [beq_eq_false_iff_ne]; omega
  rw [Raw.read, if_neg n1]
  obtain ⟨y, hy⟩ : ∃ y, y = x.more := ⟨_, rfl⟩
  rw [← hy]
  obtain ⟨E, hE⟩ : ∃ E, E = faultN y.nx y.since y.line c := ⟨_, rfl⟩
  have hfa : ∀ W, RawAt W F g y → Calls Tryd.prog 32 #[.pointer (some ⟨g, 0, none⟩), B c] W fun r w' => r = .returned (.int .i64 (E : Int)) ∧ Drawn W w' := fun W h => by rw [hE]; exact faultat_any c h
  have HF := Lib.hid hfa
  have HE := Lib.hid hE
  clear hfa hE n1
  have hsy : y.line.length ≤ 2048 ∧ y.body.length ≤ 4096 ∧ y.flds ≤ 32 := by rw [hy]; exact ⟨hs.line, hs.body, hs.flds⟩
  have HSs := Lib.hid hsy
  have hw : IntKind.i64.wrap ((x.since : Int) + 1) = (x.since : Int) + 1 := by have := hs.since; rw [IntKind.wrap_i64]; omega
  obtain ⟨vl0, vb0, hi0⟩ := h
  obtain ⟨⟨c0, _, _, _⟩, ⟨c4, _, _⟩, fz⟩ := hi0.cells
  have f4 := fz 4
  by_cases n3 : x.nx = 3
  · have q3 : ((x.nx : Int) == 3) = true := by rw [beq_iff_eq]; omega
    have e1 : RawIn (w.setCell ⟨g, 4, none⟩ (.int .i64 ((x.since : Int) + 1))) F g y vl0 vb0 := hi0.put 4 (.int .i64 ((x.since : Int) + 1)) (by rw [hy]; unfold Raw.more; rw [if_pos n3]; rfl) (by rw [hy]; rfl) (by rw [hy]; rfl)
    have HY : Hid (RawAt (w.setCell ⟨g, 4, none⟩ (.int .i64 ((x.since : Int) + 1))) F g y ∧ Moves F F w (w.setCell ⟨g, 4, none⟩ (.int .i64 ((x.since : Int) + 1)))) := Lib.hid ⟨⟨_, _, e1⟩, Moves.cell _ hi0.foot 4 _⟩
    clear e1 hi0 fz hy hs hsy n3
    go_enter Tryd.func20, Tryd.ntmps20
    go_wp2_with fail
    clear c0 c4 f4 q1 q3 hw
    refine (HF.out _ HY.out.1).mono ?_
    rintro e W1 ⟨rfl, hD⟩
    have H1 := Lib.hid (And.intro (HY.out.1.drawn hD) (HY.out.2.trans (Moves.of_drawn hD)))
    clear hD
    by_cases hE0 : E = 0
    · have n0 : ((E : Int) != 0) = false := by rw [hE0]; rfl
      by_cases hc : c = 10
      · have q3 : binOp .neq 5 (B c) (.int .u8 10) = pure (.bool false) := by rw [hc]; rfl
        have hcr : endCR y.line = true := fault_cr (by rw [← hc, ← HE.out, hE0])
        rcases List.eq_nil_or_concat y.line with h0 | ⟨l, z, h0⟩
        · rw [h0] at hcr; cases hcr
        rw [List.concat_eq_append] at h0
        have hX : y.rest c = Raw.endLine ⟨y.nx, [], y.body, y.lacks, y.since, y.flds, y.bad⟩ l := by
          unfold Raw.rest
          rw [← HE.out, if_neg (by rw [hE0]; exact fun h => h rfl), if_neg (fun h => h hc), h0, List.dropLast_concat]
        obtain ⟨vl, vb, hi⟩ := H1.out.1
        obtain ⟨⟨_, c1, _, _⟩, _, fz⟩ := hi.cells
        have f1 := fz 1
        have hlen := fun W => own_len (P := Tryd.prog) hi.line 35 5 3 Tryd.underlying35 W
        have hll : ((y.line.map B).length : Int) = (l.length : Int) + 1 := by rw [h0]; simp
        rw [hll] at hlen
        have hln : l.length + 1 = (y.line.map B).length := by rw [h0]; simp
        have hl2 : l.length ≤ 2048 := by have := HSs.out.1; rw [h0, List.length_append] at this; omega
        obtain ⟨a1, p1, hs1, ho1, _⟩ := own_upto (P := Tryd.prog) hi.line Tryd.underlying35 size5 l.length (by omega)
        have htk : (y.line.map B).take l.length = l.map B := by rw [h0, List.map_append, List.take_left' (by simp)]
        rw [htk] at ho1
        obtain ⟨a0, p0, hs0, ho0, hb0⟩ := own_upto (P := Tryd.prog) hi.line Tryd.underlying35 size5 0 (Nat.zero_le _)
        have hs0' : ∀ W, (Instr.slice 35 vl none (some (.int .i64 0)) none).run Tryd.prog W = .ok (.slice a0 0 p0) W := hs0
        have hcv : ∀ k, (convert 35 9 (.slice a1 l.length p1)).run Tryd.prog (W1.drewN k) = .ok (S l) (W1.drewN k) := fun k => own_text Tryd.underlying9 Tryd.underlying35 Tryd.underlying5 (ho1.drawn ⟨k, rfl⟩)
        have HI := Lib.hid (And.intro hi (And.intro ho0 (And.intro hb0 (And.intro hX hl2))))
        obtain ⟨n, hn⟩ : ∃ n, n = l.length := ⟨_, rfl⟩
        rw [← hn] at hlen hs1 hcv
        have hsub : IntKind.i64.wrap ((n : Int) + 1 - 1) = (n : Int) := by rw [IntKind.wrap_i64]; omega
        have hsub' : IntKind.i64.wrap (n : Int) = (n : Int) := by rw [IntKind.wrap_i64]; omega
        clear hs0 ho0 hb0 ho1 htk hll hln hl2 hi fz hX hcr h0 hc hE0 hn
        go_wp2
        go_quiet (fail)
        obtain ⟨Wq, hWq⟩ : ∃ Wq, Wq = W1.drewN nq := ⟨_, rfl⟩
        rw [← hWq]
        have hDq : Drawn W1 Wq := ⟨nq, hWq⟩
        have q1 : Wq.cell? ⟨g, 1, none⟩ = some vl := by rw [hDq.cell]; exact c1
        have qf : Wq.frozen? ⟨g, 1, none⟩ = false := by rw [hWq]; exact f1
        have HD := Lib.hid hDq
        clear hDq hWq c1 f1 hcv hlen hs1
        go_wp2_with fail
        have hb0 := HI.out.2.2.1
        have e1 := (HI.out.1.drawn HD.out).putL (y := ⟨y.nx, [], y.body, y.lacks, y.since, y.flds, y.bad⟩) (vn := .slice a0 0 p0) rfl (HI.out.2.1.drawn HD.out)
          (fun k hk => by rw [hb0] at hk; exact ⟨(HI.out.1.atL k hk).1, (HI.out.1.atL k hk).2, fun e => (HI.out.1.atB k e).2.2 hk⟩) rfl
        have H2 := Lib.hid e1
        clear e1 hb0
        refine (endline_any l (by have := HI.out.2.2.2.2; omega) ⟨_, _, H2.out⟩ HSs.out.2.1 HSs.out.2.2).mono ?_
        rintro e W3 ⟨rfl, hR, hM⟩
        have HR := Lib.hid (And.intro hR hM)
        clear hR hM
        go_wp2
        refine bodyPost_end (results_none rfl _ _ _) rfl ?_
        rw [HI.out.2.2.2.1]
        exact ⟨rfl, _, HR.out.1, ((H1.out.2.trans (Moves.of_drawn HD.out)).trans (Moves.cell _ H2.out.foot 1 _)).trans HR.out.2⟩
      · have q3 : binOp .neq 5 (B c) (.int .u8 10) = pure (.bool true) := by rw [B_neqN, show ((c.toNat : Int) != 10) = !(c == 10) from neqN c 10, beq_eq_false_iff_ne.2 hc]; rfl
        have hX : y.rest c = ⟨y.nx, y.line ++ [c], y.body, y.lacks, y.since, y.flds, y.bad⟩ := by
          unfold Raw.rest
          rw [← HE.out, if_neg (by rw [hE0]; exact fun h => h rfl), if_pos hc]
        have HX := Lib.hid hX
        obtain ⟨vl, vb, hi⟩ := H1.out.1
        obtain ⟨⟨_, c1, _, _⟩, _⟩ := hi.cells
        obtain ⟨k, cp, W2, hrun, hown, hgr, hkk, hkw⟩ := own_more (P := Tryd.prog) hi.line Tryd.underlying35 elem5 35 (B c) rfl (by rw [List.length_map]; have := HSs.out.1; omega)
        rw [List.length_map] at hrun hown
        rw [show y.line.map B ++ [B c] = (y.line ++ [c]).map B by simp] at hown
        have h3 := hi.moreL hown hgr hkk hkw
        have hrow : Row W2 g (rawC y vl vb) 38 := row_grown hi.row hgr (fun e => (hi.atL g e.symm).2 rfl)
        have d1 : W2.cell? ⟨g, 1, none⟩ = some vl := cell_of_row W2 _ 1 _ _ (0, 0) hrow
        have f1 := hrow.frozen 1
        have hM : Moves F (Wider F W1 W2) W1 W2 := ⟨hgr.os, hgr.tape, hgr.output, hgr.size, fun j hj => hj.imp id (·.1), fun j hj hn => hgr.block j hj (fun e => hn (hi.atL j e.symm).1)⟩
        have HH := Lib.hid (And.intro h3 hM)
        clear h3 hM hown hgr hkk hkw hrow hi hX hc hE0
        go_wp2_with (at_builtin; refine wpList_append_by rfl 35 35 (.tmp 40) (.tmp 42) rfl vl (.slice (some ⟨W1.heap.size, 0, none⟩) 1 1) rfl rfl _ _ hrun ?_)
        go_wp2
        refine bodyPost_ret (results_none rfl _ _ _) rfl ?_
        rw [HX.out]
        exact ⟨rfl, _, ⟨_, _, HH.out.1⟩, H1.out.2.trans (HH.out.2.trans (Moves.cell _ HH.out.1.foot 1 _))⟩
    · have n0 : ((E : Int) != 0) = true := by rw [bne_iff_ne]; omega
      have hX : y.rest c = y.fail E := by
        unfold Raw.rest
        rw [← HE.out, if_pos hE0]
      have HX := Lib.hid hX
      clear hX hE0
      go_wp2_with fail
      refine (fail_any E H1.out.1).mono ?_
      rintro e W2 ⟨rfl, hR, hM⟩
      have HR := Lib.hid (And.intro hR (H1.out.2.trans hM))
      clear hR hM
      go_wp2
      refine bodyPost_ret (results_none rfl _ _ _) rfl ?_
      rw [HX.out]
      exact ⟨rfl, _, HR.out.1, HR.out.2⟩
  · have q3 : ((x.nx : Int) == 3) = false := by rw [beq_eq_false_iff_ne]; omega
    have e1 : RawIn w F g y vl0 vb0 := by
      have e : y = x := by rw [hy]; unfold Raw.more; rw [if_neg n3]
      rw [e]; exact hi0
    have HY : Hid (RawAt w F g y ∧ Moves F F w w) := Lib.hid ⟨⟨_, _, e1⟩, Moves.refl F w⟩
    clear e1 hi0 fz hy hs hsy n3
    go_enter Tryd.func20, Tryd.ntmps20
    go_wp2_with fail
    clear c0 c4 f4 q1 q3 hw
    refine (HF.out _ HY.out.1).mono ?_
    rintro e W1 ⟨rfl, hD⟩
    have H1 := Lib.hid (And.intro (HY.out.1.drawn hD) (HY.out.2.trans (Moves.of_drawn hD)))
    clear hD
    by_cases hE0 : E = 0
    · have n0 : ((E : Int) != 0) = false := by rw [hE0]; rfl
      by_cases hc : c = 10
      · have q3 : binOp .neq 5 (B c) (.int .u8 10) = pure (.bool false) := by rw [hc]; rfl
        have hcr : endCR y.line = true := fault_cr (by rw [← hc, ← HE.out, hE0])
        rcases List.eq_nil_or_concat y.line with h0 | ⟨l, z, h0⟩
        · rw [h0] at hcr; cases hcr
        rw [List.concat_eq_append] at h0
        have hX : y.rest c = Raw.endLine ⟨y.nx, [], y.body, y.lacks, y.since, y.flds, y.bad⟩ l := by
          unfold Raw.rest
          rw [← HE.out, if_neg (by rw [hE0]; exact fun h => h rfl), if_neg (fun h => h hc), h0, List.dropLast_concat]
        obtain ⟨vl, vb, hi⟩ := H1.out.1
        obtain ⟨⟨_, c1, _, _⟩, _, fz⟩ := hi.cells
        have f1 := fz 1
        have hlen := fun W => own_len (P := Tryd.prog) hi.line 35 5 3 Tryd.underlying35 W
        have hll : ((y.line.map B).length : Int) = (l.length : Int) + 1 := by rw [h0]; simp
        rw [hll] at hlen
        have hln : l.length + 1 = (y.line.map B).length := by rw [h0]; simp
        have hl2 : l.length ≤ 2048 := by have := HSs.out.1; rw [h0, List.length_append] at this; omega
        obtain ⟨a1, p1, hs1, ho1, _⟩ := own_upto (P := Tryd.prog) hi.line Tryd.underlying35 size5 l.length (by omega)
        have htk : (y.line.map B).take l.length = l.map B := by rw [h0, List.map_append, List.take_left' (by simp)]
        rw [htk] at ho1
        obtain ⟨a0, p0, hs0, ho0, hb0⟩ := own_upto (P := Tryd.prog) hi.line Tryd.underlying35 size5 0 (Nat.zero_le _)
        have hs0' : ∀ W, (Instr.slice 35 vl none (some (.int .i64 0)) none).run Tryd.prog W = .ok (.slice a0 0 p0) W := hs0
        have hcv : ∀ k, (convert 35 9 (.slice a1 l.length p1)).run Tryd.prog (W1.drewN k) = .ok (S l) (W1.drewN k) := fun k => own_text Tryd.underlying9 Tryd.underlying35 Tryd.underlying5 (ho1.drawn ⟨k, rfl⟩)
        have HI := Lib.hid (And.intro hi (And.intro ho0 (And.intro hb0 (And.intro hX hl2))))
        obtain ⟨n, hn⟩ : ∃ n, n = l.length := ⟨_, rfl⟩
        rw [← hn] at hlen hs1 hcv
        have hsub : IntKind.i64.wrap ((n : Int) + 1 - 1) = (n : Int) := by rw [IntKind.wrap_i64]; omega
        have hsub' : IntKind.i64.wrap (n : Int) = (n : Int) := by rw [IntKind.wrap_i64]; omega
        clear hs0 ho0 hb0 ho1 htk hll hln hl2 hi fz hX hcr h0 hc hE0 hn
        go_wp2
        go_quiet (fail)
        obtain ⟨Wq, hWq⟩ : ∃ Wq, Wq = W1.drewN nq := ⟨_, rfl⟩
        rw [← hWq]
        have hDq : Drawn W1 Wq := ⟨nq, hWq⟩
        have q1 : Wq.cell? ⟨g, 1, none⟩ = some vl := by rw [hDq.cell]; exact c1
        have qf : Wq.frozen? ⟨g, 1, none⟩ = false := by rw [hWq]; exact f1
        have HD := Lib.hid hDq
        clear hDq hWq c1 f1 hcv hlen hs1
        go_wp2_with fail
        have hb0 := HI.out.2.2.1
        have e1 := (HI.out.1.drawn HD.out).putL (y := ⟨y.nx, [], y.body, y.lacks, y.since, y.flds, y.bad⟩) (vn := .slice a0 0 p0) rfl (HI.out.2.1.drawn HD.out)
          (fun k hk => by rw [hb0] at hk; exact ⟨(HI.out.1.atL k hk).1, (HI.out.1.atL k hk).2, fun e => (HI.out.1.atB k e).2.2 hk⟩) rfl
        have H2 := Lib.hid e1
        clear e1 hb0
        refine (endline_any l (by have := HI.out.2.2.2.2; omega) ⟨_, _, H2.out⟩ HSs.out.2.1 HSs.out.2.2).mono ?_
        rintro e W3 ⟨rfl, hR, hM⟩
        have HR := Lib.hid (And.intro hR hM)
        clear hR hM
        go_wp2
        refine bodyPost_end (results_none rfl _ _ _) rfl ?_
        rw [HI.out.2.2.2.1]
        exact ⟨rfl, _, HR.out.1, ((H1.out.2.trans (Moves.of_drawn HD.out)).trans (Moves.cell _ H2.out.foot 1 _)).trans HR.out.2⟩
      · have q3 : binOp .neq 5 (B c) (.int .u8 10) = pure (.bool true) := by rw [B_neqN, show ((c.toNat : Int) != 10) = !(c == 10) from neqN c 10, beq_eq_false_iff_ne.2 hc]; rfl
        have hX : y.rest c = ⟨y.nx, y.line ++ [c], y.body, y.lacks, y.since, y.flds, y.bad⟩ := by
          unfold Raw.rest
          rw [← HE.out, if_neg (by rw [hE0]; exact fun h => h rfl), if_pos hc]
        have HX := Lib.hid hX
        obtain ⟨vl, vb, hi⟩ := H1.out.1
        obtain ⟨⟨_, c1, _, _⟩, _⟩ := hi.cells
        obtain ⟨k, cp, W2, hrun, hown, hgr, hkk, hkw⟩ := own_more (P := Tryd.prog) hi.line Tryd.underlying35 elem5 35 (B c) rfl (by rw [List.length_map]; have := HSs.out.1; omega)
        rw [List.length_map] at hrun hown
        rw [show y.line.map B ++ [B c] = (y.line ++ [c]).map B by simp] at hown
        have h3 := hi.moreL hown hgr hkk hkw
        have hrow : Row W2 g (rawC y vl vb) 38 := row_grown hi.row hgr (fun e => (hi.atL g e.symm).2 rfl)
        have d1 : W2.cell? ⟨g, 1, none⟩ = some vl := cell_of_row W2 _ 1 _ _ (0, 0) hrow
        have f1 := hrow.frozen 1
        have hM : Moves F (Wider F W1 W2) W1 W2 := ⟨hgr.os, hgr.tape, hgr.output, hgr.size, fun j hj => hj.imp id (·.1), fun j hj hn => hgr.block j hj (fun e => hn (hi.atL j e.symm).1)⟩
        have HH := Lib.hid (And.intro h3 hM)
        clear h3 hM hown hgr hkk hkw hrow hi hX hc hE0
        go_wp2_with (at_builtin; refine wpList_append_by rfl 35 35 (.tmp 40) (.tmp 42) rfl vl (.slice (some ⟨W1.heap.size, 0, none⟩) 1 1) rfl rfl _ _ hrun ?_)
        go_wp2
        refine bodyPost_ret (results_none rfl _ _ _) rfl ?_
        rw [HX.out]
        exact ⟨rfl, _, ⟨_, _, HH.out.1⟩, H1.out.2.trans (HH.out.2.trans (Moves.cell _ HH.out.1.foot 1 _))⟩
    · have n0 : ((E : Int) != 0) = true := by rw [bne_iff_ne]; omega
      have hX : y.rest c = y.fail E := by
        unfold Raw.rest
        rw [← HE.out, if_pos hE0]
      have HX := Lib.hid hX
      clear hX hE0
      go_wp2_with fail
      refine (fail_any E H1.out.1).mono ?_
      rintro e W2 ⟨rfl, hR, hM⟩
      have HR := Lib.hid (And.intro hR (H1.out.2.trans hM))
      clear hR hM
      go_wp2
      refine bodyPost_ret (results_none rfl _ _ _) rfl ?_
      rw [HX.out]
      exact ⟨rfl, _, HR.out.1, HR.out.2⟩
end Go.Proofs.YtocekbfnefajhaaDoor
