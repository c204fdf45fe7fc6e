/- RequestStops walked, over any package that does what is asked of it. -/
import Derived.Test.YtplajlccnnbifaaDoorJc
import Derived.Deep.LoopGhost
namespace Go.Proofs.YtplajlccnnbifaaDoor
open Go.RowKit
attribute [local go_sem] store_one S_match S_store

set_option maxRecDepth 100000 in
set_option maxHeartbeats 4000000 in
theorem rstops_any {RA : World → (Nat → Prop) → Nat → PSt → Prop} {w : World} (C : RequestI w RA) (s t : List UInt8) : Calls Tryd.prog 4 #[S s, S t] w fun e w' => e = .returned (.bool true) ∧ Below w.heap.size w w' := by
  have hlenS := run_len_S (P := Tryd.prog) Tryd.underlying9 3 s
  have hlenT := run_len_S (P := Tryd.prog) Tryd.underlying9 3 t
  have HC := Lib.hid C
  have HAW := Lib.hid (awake_request C)
  clear C
  by_cases hs : 5000 < s.length
  · have j1 : decide ((5000 : Int) < (s.length : Int)) = true := decide_eq_true (by omega)
    go_enter Tryd.func4, Tryd.ntmps4
    go_wp2_with fail
    refine HAW.out.mono ?_
    rintro e W1 ⟨rfl, hB⟩
    have HB := Lib.hid hB
    clear hB
    go_wp2
    go_ret
    exact ⟨rfl, HB.out⟩
  have j1 : decide ((5000 : Int) < (s.length : Int)) = false := decide_eq_false (by omega)
  by_cases ht : 5000 < t.length
  · have j2 : decide ((5000 : Int) < (t.length : Int)) = true := decide_eq_true (by omega)
    go_enter Tryd.func4, Tryd.ntmps4
    go_wp2_with fail
    refine HAW.out.mono ?_
    rintro e W1 ⟨rfl, hB⟩
    have HB := Lib.hid hB
    clear hB
    go_wp2
    go_ret
    exact ⟨rfl, HB.out⟩
  have j2 : decide ((5000 : Int) < (t.length : Int)) = false := decide_eq_false (by omega)
  have hadd : binOp .add 9 (.string ⟨#[71, 69, 84, 32, 47, 102, 105, 114, 115, 116, 32, 72, 84, 84, 80, 47, 49, 46, 48, 13, 10, 13, 10]⟩) (S s) = pure (S (firstL ++ s)) := S_add 9 firstL s (by have : firstL.length = 23 := rfl; omega)
  have hst : stepS (firstL ++ s) = .req ⟨[71, 69, 84], [47, 102, 105, 114, 115, 116], [], 10, [], [], true⟩ s := (step_append firstL s).2 _ _ first_step
  have hfl : (firstL ++ s).length ≤ 100000 := by have : firstL.length = 23 := rfl; rw [List.length_append]; omega
  obtain ⟨L, p', hd, _⟩ := drains_ex s.length ⟨s, 0⟩ (Nat.le_refl _)
  obtain ⟨X, hX⟩ : ∃ X, X = firstL ++ s := ⟨_, rfl⟩
  rw [← hX] at hadd hst hfl
  have HX := Lib.hid (And.intro hst (And.intro hfl (And.intro hd (show s.length ≤ 5000 ∧ t.length ≤ 5000 by omega))))
  clear hst hfl hX hs ht hd
  go_enter Tryd.func4, Tryd.ntmps4
  go_wp2_with fail
  refine HAW.out.mono ?_
  rintro e W0 ⟨rfl, hB⟩
  have HB := Lib.hid hB
  clear hB
  go_wp2_with fail
  refine (OneK.make HC.out HB.out).mono ?_
  rintro e W1 ⟨g, rfl, h, _⟩
  have H1 := Lib.hid (h.mono (K' := fun _ => False) (fun _ h => h.elim))
  clear h
  go_wp2_with fail
  refine (H1.out.feed HC.out X (by have := HX.out.2.1; show 0 + _ ≤ _; omega)).mono ?_
  rintro e W2 ⟨rfl, h, _⟩
  have h2 : OneK RA w g ⟨X, 0⟩ (fun _ => False) W2 := h
  have H2 := Lib.hid h2
  clear h h2 H1
  go_wp2_with fail
  refine (H2.out.nextSome HC.out HX.out.2.1 (next_req HX.out.1)).mono ?_
  rintro e W3 ⟨a, c, gf, rfl, _, h, _⟩
  have H3 := Lib.hid (h.mono (K' := fun _ => False) (fun _ h => h.elim))
  clear h H2
  unfold rqCells
  dsimp only [S]
  have hB4 : Below W3.heap.size W3 (W3.alloc (.cells (rqCells [71, 69, 84] [47, 102, 105, 114, 115, 116] [] 10 (.slice a 0 c) [] true) 30)) := (Below.refl _ W3).alloc (Nat.le_refl _) _
  have H4 := Lib.hid (H3.out.below HC.out hB4)
  clear hB4 H3
  go_wp2_with fail
  refine (H4.out.bad HC.out).mono ?_
  rintro e W5 ⟨rfl, h, _⟩
  have H5 := Lib.hid h
  clear h H4
  rw [show ((PSt.bad ⟨s, 0⟩ : Nat) : Int) = 0 from rfl]
  go_wp2
  go_loopg [7] (L.length + 1) (fun k ov wr => (ov = .bool true ∧ ∃ (u : PSt) (rest : List Rq), k = rest.length + 1 ∧ Hid (OneK RA w g u (fun _ => False) wr ∧ Drains u rest p' ∧ u.buf.length ≤ 5000)) ∨ (ov = .bool false ∧ k = 0 ∧ Hid (OneK RA w g p' (fun _ => False) wr)))
  case atStart => exact .inl ⟨rfl, ⟨s, 0⟩, L, rfl, Lib.hid ⟨H5.out, HX.out.2.2.1, HX.out.2.2.2.1⟩⟩
  case round =>
    rcases hrel with ⟨rfl, u, rest, rfl, HR⟩ | ⟨rfl, rfl, HR⟩
    · cases rest with
      | nil =>
        have hn : u.next = (none, p') := by cases HR.out.2.1 with | stop hn => exact hn
        have HN := Lib.hid hn
        clear hn
        go_wp2_with fail
        refine (HR.out.1.nextNone HC.out (by have := HR.out.2.2; omega) HN.out).mono ?_
        rintro e W6 ⟨rfl, h, _⟩
        have H6 := Lib.hid h
        clear h
        go_wp2
        go_roundg 0
        case rel => exact .inr ⟨rfl, rfl, H6⟩
        case measure => simp
      | cons r rest =>
        obtain ⟨u1, hn, hd1⟩ : ∃ u1, u.next = (some r, u1) ∧ Drains u1 rest p' := by cases HR.out.2.1 with | more hn hd1 => exact ⟨_, hn, hd1⟩
        have hl1 := (next_len hn).2.2.1
        have HN := Lib.hid (And.intro hn (And.intro hd1 (show u1.buf.length ≤ 5000 by have := HR.out.2.2; omega)))
        clear hn hd1 hl1
        go_wp2_with fail
        refine (HR.out.1.nextSome HC.out (by have := HR.out.2.2; omega) HN.out.1).mono ?_
        rintro e W6 ⟨a6, c6, gf6, rfl, _, h, _⟩
        have H6 := Lib.hid (h.mono (K' := fun _ => False) (fun _ h => h.elim))
        clear h
        go_wp2
        go_roundg (rest.length + 1)
        case rel => exact .inl ⟨rfl, u1, rest, rfl, Lib.hid ⟨H6.out, HN.out.2.1, HN.out.2.2⟩⟩
        case measure => simp
    · go_wp2_with fail
      refine (HR.out.bad HC.out).mono ?_
      rintro e W6 ⟨rfl, h, _⟩
      have H6 := Lib.hid h
      clear h
      have htold := drains_told HX.out.2.2.1 rfl
      have HT := Lib.hid HX.out.2.2.2.2
      clear HX HR
      obtain ⟨buf, b⟩ := p'
      dsimp only at htold ⊢
      by_cases hb : b = 0
      · subst hb
        go_wp2
        go_ret
        exact ⟨rfl, H6.out.bel⟩
      obtain ⟨hcode, hbuf⟩ := htold hb
      clear htold
      have hb0 : ((b : Int) == 0) = false := by rw [beq_eq_false_iff_ne]; omega
      subst hbuf
      have HS := Lib.hid (And.intro (feed_stuck (p := ⟨[], b⟩) hb t) (next_stuck (p := ⟨[], b⟩) hb))
      have HBB := Lib.hid hb
      clear hb
      go_wp2_with fail
      refine (H6.out.feed HC.out t (by have := HT.out; show 0 + _ ≤ _; omega)).mono ?_
      rintro e W7 ⟨rfl, h, _⟩
      rw [HS.out.1] at h
      have H7 := Lib.hid h
      clear h H6
      go_wp2_with fail
      refine (H7.out.nextNone HC.out (Nat.zero_le _) HS.out.2).mono ?_
      rintro e W8 ⟨rfl, h, _⟩
      have hB9 : Below W8.heap.size W8 (W8.alloc (.cells zeroR 30)) := (Below.refl _ W8).alloc (Nat.le_refl _) _
      have H9 := Lib.hid (h.below HC.out hB9)
      clear h hB9 H7
      unfold zeroR
      rcases hcode with rfl | rfl | rfl
      · go_wp2_with fail
        refine (H9.out.bad HC.out).mono ?_
        rintro e W10 ⟨rfl, h, _⟩
        have H10 := Lib.hid h
        clear h H9
        dsimp only
        go_wp2_with fail
        refine (H10.out.rest HC.out).mono ?_
        rintro e W11 ⟨rfl, h, _⟩
        have H11 := Lib.hid h
        clear h H10
        dsimp only [S, PSt.rest]
        go_wp2_with fail
        refine (H11.out.idle HC.out).mono ?_
        rintro e W12 ⟨rfl, h, _⟩
        have H12 := Lib.hid h.bel
        clear h H11
        rw [show (decide ((PSt.rest ⟨[], 400⟩).bad = 0) && ((PSt.rest ⟨[], 400⟩).buf == [])) = false from rfl]
        go_wp2
        go_ret
        exact ⟨rfl, H12.out⟩
      · go_wp2_with fail
        refine (H9.out.bad HC.out).mono ?_
        rintro e W10 ⟨rfl, h, _⟩
        have H10 := Lib.hid h
        clear h H9
        dsimp only
        go_wp2_with fail
        refine (H10.out.rest HC.out).mono ?_
        rintro e W11 ⟨rfl, h, _⟩
        have H11 := Lib.hid h
        clear h H10
        dsimp only [S, PSt.rest]
        go_wp2_with fail
        refine (H11.out.idle HC.out).mono ?_
        rintro e W12 ⟨rfl, h, _⟩
        have H12 := Lib.hid h.bel
        clear h H11
        rw [show (decide ((PSt.rest ⟨[], 413⟩).bad = 0) && ((PSt.rest ⟨[], 413⟩).buf == [])) = false from rfl]
        go_wp2
        go_ret
        exact ⟨rfl, H12.out⟩
      · go_wp2_with fail
        refine (H9.out.bad HC.out).mono ?_
        rintro e W10 ⟨rfl, h, _⟩
        have H10 := Lib.hid h
        clear h H9
        dsimp only
        go_wp2_with fail
        refine (H10.out.rest HC.out).mono ?_
        rintro e W11 ⟨rfl, h, _⟩
        have H11 := Lib.hid h
        clear h H10
        dsimp only [S, PSt.rest]
        go_wp2_with fail
        refine (H11.out.idle HC.out).mono ?_
        rintro e W12 ⟨rfl, h, _⟩
        have H12 := Lib.hid h.bel
        clear h H11
        rw [show (decide ((PSt.rest ⟨[], 431⟩).bad = 0) && ((PSt.rest ⟨[], 431⟩).buf == [])) = false from rfl]
        go_wp2
        go_ret
        exact ⟨rfl, H12.out⟩
end Go.Proofs.YtplajlccnnbifaaDoor
