/- The landed endTrailer and endLine walked. -/
import Derived.Test.YtocekbfnefajhaaDoorCv7
namespace Go.Proofs.YtocekbfnefajhaaDoor
open Go.RowKit
attribute [local go_sem] store_one B_match B_store S_match S_store eguard_BN nguard_BN

set_option maxRecDepth 100000 in
set_option maxHeartbeats 1000000 in
theorem endtrailer_any {w : World} {F : Nat → Prop} {g : Nat} {x : Raw} (s : List UInt8) (hs : s.length ≤ 90000) (h : RawAt w F g x) (hf : x.flds ≤ 32) :
    Calls Tryd.prog 48 #[.pointer (some ⟨g, 0, none⟩), S s] w fun r w' => r = .returned (.tuple #[]) ∧ RawAt w' F g (x.endTrailer s) ∧ Moves F F w w' := by
  have hq : binOp .eql 9 (S s) (.string ⟨#[]⟩) = pure (.bool (s == [])) := eql_S 9 s []
  have hqg : ∀ a b, eqGuard .eql 9 a b (S s) (.string ⟨#[]⟩) = pure () := fun a b => guard_S 9 a b s []
  have hX : x.endTrailer s = if s = [] then ⟨4, [], x.body, x.lacks, x.since, x.flds, x.bad⟩
      else if (parseF s).2.2 = false then x.fail 400
      else if 32 < x.flds + 1 then ⟨4, [], x.body, x.lacks, x.since, x.flds + 1, 431⟩
      else ⟨x.nx, x.line, x.body, x.lacks, x.since, x.flds + 1, x.bad⟩ := rfl
  by_cases h0 : s = []
  · rw [if_pos h0] at hX
    rw [hX]
    rw [show (s == []) = true by rw [h0]; rfl] at hq
    obtain ⟨vl, vb, hi⟩ := h
    obtain ⟨⟨c0, c1, _, _⟩, _, fz⟩ := hi.cells
    have f0 := fz 0
    have f1 := fz 1
    have HI := Lib.hid hi
    clear hi fz hX h0 hs
    go_enter Tryd.func48, Tryd.ntmps48
    go_wp2
    refine bodyPost_ret (results_none rfl _ _ _) rfl ?_
    have e1 := HI.out.put (y := ⟨4, x.line, x.body, x.lacks, x.since, x.flds, x.bad⟩) 0 (.int .i64 4) rfl rfl rfl
    have e2 := e1.putL (y := ⟨4, [], x.body, x.lacks, x.since, x.flds, x.bad⟩) (vn := .slice none 0 0) rfl (.inl ⟨rfl, rfl⟩) (fun k hk => by cases hk) rfl
    exact ⟨rfl, ⟨_, _, e2⟩, (Moves.cell _ HI.out.foot 0 _).trans (Moves.cell _ HI.out.foot 1 _)⟩
  rw [if_neg h0] at hX
  rw [show (s == []) = false by rw [beq_eq_false_iff_ne]; exact h0] at hq
  have hp := parse10_any s (by omega) w
  obtain ⟨p, hpd⟩ : ∃ p, p = parseF s := ⟨_, rfl⟩
  rw [← hpd] at hp hX
  clear hpd h0 hs
  obtain ⟨n, v, b⟩ := p
  dsimp only at hX
  unfold parseV at hp
  dsimp only at hp
  have HP := Lib.hid hp
  have HH := Lib.hid h
  clear hp
  cases b with
  | false =>
    rw [if_pos rfl] at hX
    rw [hX]
    have hff : ∀ (W : World), RawAt W F g x → Calls Tryd.prog 33 #[.pointer (some ⟨g, 0, none⟩), .int .i64 400] W fun r w' => r = .returned (.tuple #[]) ∧ RawAt w' F g (x.fail 400) ∧ Moves F F W w' := fun W h => fail_any 400 h
    have H4 := Lib.hid hff
    clear hX hff h
    go_enter Tryd.func48, Tryd.ntmps48
    go_wp2_with fail
    refine HP.out.mono ?_
    rintro e W1 ⟨rfl, hB⟩
    have H1 := Lib.hid hB
    clear hB
    go_wp2_with fail
    have hB2 : Below w.heap.size w (W1.alloc (.cells #[S n, S v] 58)) := H1.out.alloc H1.out.size _
    have H2 := Lib.hid (And.intro (HH.out.below hB2) (Moves.of_below (F := F) hB2))
    clear hB2
    refine (H4.out _ H2.out.1).mono ?_
    rintro e W2 ⟨rfl, hR, hM⟩
    have H3 := Lib.hid (And.intro hR hM)
    clear hR hM
    go_wp2
    refine bodyPost_ret (results_none rfl _ _ _) rfl ?_
    exact ⟨rfl, H3.out.1, H2.out.2.trans H3.out.2⟩
  | true =>
    rw [if_neg (by decide)] at hX
    have hfg : ∀ (y : Raw) (W : World), RawAt W F g y → Calls Tryd.prog 33 #[.pointer (some ⟨g, 0, none⟩), .int .i64 431] W fun r w' => r = .returned (.tuple #[]) ∧ RawAt w' F g (y.fail 431) ∧ Moves F F W w' := fun y W h => fail_any 431 h
    have H5 := Lib.hid hfg
    clear hfg h
    have hw : IntKind.i64.wrap ((x.flds : Int) + 1) = (x.flds : Int) + 1 := by rw [IntKind.wrap_i64]; omega
    by_cases h32 : 32 < x.flds + 1
    · rw [if_pos h32] at hX
      rw [hX]
      have hg : decide ((x.flds : Int) + 1 > 32) = true := decide_eq_true (by omega)
      have hg' : decide ((32 : Int) < (x.flds : Int) + 1) = true := decide_eq_true (by omega)
      clear hX h32 hf
      go_enter Tryd.func48, Tryd.ntmps48
      go_wp2_with fail
      refine HP.out.mono ?_
      rintro e W1 ⟨rfl, hB⟩
      have hB2 : Below w.heap.size w (W1.alloc (.cells #[S n, S v] 58)) := hB.alloc hB.size _
      obtain ⟨vl, vb, hi⟩ := HH.out.below hB2
      obtain ⟨_, ⟨_, c5, _⟩, fz⟩ := hi.cells
      have f5 := fz 5
      have H2 := Lib.hid (And.intro hi (Moves.of_below (F := F) hB2))
      clear hB hB2 hi fz
      go_wp2_with fail
      have e1 := H2.out.1.put (y := ⟨x.nx, x.line, x.body, x.lacks, x.since, x.flds + 1, x.bad⟩) 5 (.int .i64 ((x.flds : Int) + 1)) rfl rfl rfl
      have H3 := Lib.hid e1
      clear e1
      refine (H5.out _ _ ⟨_, _, H3.out⟩).mono ?_
      rintro e W2 ⟨rfl, hR, hM⟩
      have H4 := Lib.hid (And.intro hR hM)
      clear hR hM
      go_wp2
      refine bodyPost_end (results_none rfl _ _ _) rfl ?_
      exact ⟨rfl, H4.out.1, (H2.out.2.trans (Moves.cell _ H2.out.1.foot 5 _)).trans H4.out.2⟩
    · rw [if_neg h32] at hX
      rw [hX]
      have hg : decide ((x.flds : Int) + 1 > 32) = false := decide_eq_false (by omega)
      have hg' : decide ((32 : Int) < (x.flds : Int) + 1) = false := decide_eq_false (by omega)
      clear hX h32 hf
      go_enter Tryd.func48, Tryd.ntmps48
      go_wp2_with fail
      refine HP.out.mono ?_
      rintro e W1 ⟨rfl, hB⟩
      have hB2 : Below w.heap.size w (W1.alloc (.cells #[S n, S v] 58)) := hB.alloc hB.size _
      obtain ⟨vl, vb, hi⟩ := HH.out.below hB2
      obtain ⟨_, ⟨_, c5, _⟩, fz⟩ := hi.cells
      have f5 := fz 5
      have H2 := Lib.hid (And.intro hi (Moves.of_below (F := F) hB2))
      clear hB hB2 hi fz
      go_wp2
      refine bodyPost_end (results_none rfl _ _ _) rfl ?_
      have e1 := H2.out.1.put (y := ⟨x.nx, x.line, x.body, x.lacks, x.since, x.flds + 1, x.bad⟩) 5 (.int .i64 ((x.flds : Int) + 1)) rfl rfl rfl
      exact ⟨rfl, ⟨_, _, e1⟩, H2.out.2.trans (Moves.cell _ H2.out.1.foot 5 _)⟩
set_option maxRecDepth 100000 in
set_option maxHeartbeats 1000000 in
theorem endline_any {w : World} {F : Nat → Prop} {g : Nat} {x : Raw} (s : List UInt8) (hs : s.length ≤ 90000) (h : RawAt w F g x) (hb : x.body.length ≤ 4096) (hf : x.flds ≤ 32) :
    Calls Tryd.prog 34 #[.pointer (some ⟨g, 0, none⟩), S s] w fun r w' => r = .returned (.tuple #[]) ∧ RawAt w' F g (x.endLine s) ∧ Moves F F w w' := by
  have H1 := Lib.hid (endhead_any s hs h hb)
  have H2 := Lib.hid (endtrailer_any s hs h hf)
  have hX : x.endLine s = if x.nx = 0 then x.endHead s else if x.nx = 2 then ⟨0, x.line, x.body, x.lacks, x.since, x.flds, x.bad⟩ else if x.nx = 3 then x.endTrailer s else x := rfl
  obtain ⟨vl, vb, hi⟩ := h
  obtain ⟨⟨c0, _, _, _⟩, _, fz⟩ := hi.cells
  have f0 := fz 0
  have HI := Lib.hid hi
  clear hi fz hb hf hs
  by_cases n0 : x.nx = 0
  · have q0 : ((x.nx : Int) == 0) = true := by rw [beq_iff_eq]; omega
    rw [if_pos n0] at hX
    rw [hX]
    clear hX n0
    go_enter Tryd.func34, Tryd.ntmps34
    go_wp2_with fail
    refine H1.out.mono ?_
    rintro e W1 ⟨rfl, hR⟩
    have HR := Lib.hid hR
    clear hR
    go_wp2
    refine bodyPost_end (results_none rfl _ _ _) rfl ?_
    exact ⟨rfl, HR.out⟩
  have q0 : ((x.nx : Int) == 0) = false := by rw [beq_eq_false_iff_ne]; omega
  rw [if_neg n0] at hX
  by_cases n2 : x.nx = 2
  · have q2 : ((x.nx : Int) == 2) = true := by rw [beq_iff_eq]; omega
    rw [if_pos n2] at hX
    rw [hX]
    clear hX n0 n2
    go_enter Tryd.func34, Tryd.ntmps34
    go_wp2
    refine bodyPost_end (results_none rfl _ _ _) rfl ?_
    exact ⟨rfl, ⟨_, _, HI.out.put 0 (.int .i64 0) rfl rfl rfl⟩, Moves.cell _ HI.out.foot 0 _⟩
  have q2 : ((x.nx : Int) == 2) = false := by rw [beq_eq_false_iff_ne]; omega
  rw [if_neg n2] at hX
  by_cases n3 : x.nx = 3
  · have q3 : ((x.nx : Int) == 3) = true := by rw [beq_iff_eq]; omega
    rw [if_pos n3] at hX
    rw [hX]
    clear hX n0 n2 n3
    go_enter Tryd.func34, Tryd.ntmps34
    go_wp2_with fail
    refine H2.out.mono ?_
    rintro e W1 ⟨rfl, hR⟩
    have HR := Lib.hid hR
    clear hR
    go_wp2
    refine bodyPost_end (results_none rfl _ _ _) rfl ?_
    exact ⟨rfl, HR.out⟩
  · have q3 : ((x.nx : Int) == 3) = false := by rw [beq_eq_false_iff_ne]; omega
    rw [if_neg n3] at hX
    rw [hX]
    clear hX n0 n2 n3
    go_enter Tryd.func34, Tryd.ntmps34
    go_wp2
    refine bodyPost_end (results_none rfl _ _ _) rfl ?_
    exact ⟨rfl, ⟨_, _, HI.out⟩, Moves.refl F w⟩
end Go.Proofs.YtocekbfnefajhaaDoor
