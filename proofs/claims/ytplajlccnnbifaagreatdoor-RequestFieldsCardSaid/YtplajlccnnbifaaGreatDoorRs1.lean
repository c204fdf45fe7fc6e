/- RequestReads walked, over any package that does what is asked of it. (mkrf.py writes it.) -/
import Derived.Test.YtplajlccnnbifaaGreatDoorRl2
import Derived.Test.YtplajlccnnbifaaGreatDoorRi
namespace Go.Proofs.YtplajlccnnbifaaGreatDoor
open Go.RowKit
attribute [local go_sem] store_one S_match S_store

set_option maxRecDepth 100000 in
set_option maxHeartbeats 4000000 in
theorem rreads_any {RA : World → (Nat → Prop) → Nat → PSt → Prop} {w : World} (C : RequestI w RA) (s : List UInt8) : Calls Tryz.prog 14 #[S s] w fun e w' => e = .returned (.bool true) ∧ Below w.heap.size w w' := by
  have hlenS := run_len_S (P := Tryz.prog) Tryz.underlying9 3 s
  have HC := Lib.hid C
  have HAW := Lib.hid (awake_request C)
  clear C
  by_cases hs : 20000 < s.length
  · have j1 : decide ((20000 : Int) < (s.length : Int)) = true := decide_eq_true (by omega)
    go_enter Tryz.func14, Tryz.ntmps14
    go_wp2_with fail
    refine HAW.out.mono ?_
    rintro e W1 ⟨rfl, hB⟩
    have HB := Lib.hid hB
    clear hB
    go_wp2
    go_ret
    exact ⟨rfl, HB.out⟩
  have j1 : decide ((20000 : Int) < (s.length : Int)) = false := decide_eq_false (by omega)
  obtain ⟨L, p', hd, _⟩ := drains_ex s.length ⟨s, 0⟩ (Nat.le_refl _)
  obtain ⟨buf, b⟩ := p'
  have htold := drains_told hd rfl
  dsimp only at htold
  have hbl := drains_len hd
  dsimp only at hbl
  have HD := Lib.hid (And.intro hd (And.intro (show s.length ≤ 20000 by omega) htold))
  obtain ⟨z, hz⟩ : ∃ z, z = (s == []) := ⟨_, rfl⟩
  have qz : binOp .eql 9 (S s) (.string ⟨#[]⟩) = pure (.bool z) := by rw [hz]; exact eql_S 9 s []
  have qg := guard_S 9
  have qg0 : ∀ a b x, eqGuard .eql 9 a b (S x) (.string ⟨#[]⟩) = pure () := fun a b x => guard_S 9 a b x []
  obtain ⟨y, hy⟩ : ∃ y, y = (buf == []) := ⟨_, rfl⟩
  have qy : binOp .eql 9 (S buf) (.string ⟨#[]⟩) = pure (.bool y) := by rw [hy]; exact eql_S 9 buf []
  have qn : binOp .neq 9 (S buf) (S buf) = pure (.bool false) := by rw [neql_S]; simp
  have qng := nguard_S 9
  have b1 : ∀ (x : Bool) w, (binOp .neq 4 (.bool x) (.bool x)).run Tryz.prog w = .ok (.bool false) w := fun x w => by cases x <;> rfl
  have n1 : ((b : Int) != (b : Int)) = false := by simp
  have n2 : ((b : Int) == (b : Int)) = true := by simp
  have HZ := Lib.hid (And.intro hz hy)
  clear hs hd hz hy htold hbl
  go_enter Tryz.func14, Tryz.ntmps14
  go_wp2_with fail
  refine HAW.out.mono ?_
  rintro e W0 ⟨rfl, hB⟩
  have HB0 := Lib.hid hB
  clear hB
  go_wp2_with fail
  refine (dall_any s HD.out.2.1 W0 L ⟨buf, b⟩ HD.out.1).mono ?_
  rintro e W1 ⟨V, xs, rfl, hR, hxs, hB⟩
  have H1 := Lib.hid (And.intro hR (And.intro hxs (HB0.out.trans (hB.mono HB0.out.size))))
  clear hR hxs hB HB0
  dsimp only
  go_wp2_with fail
  refine (OneK.make HC.out H1.out.2.2).mono ?_
  rintro e W2 ⟨g, rfl, h, hB⟩
  have H2 := Lib.hid (And.intro h (H1.out.1.below hB))
  clear h hB
  go_wp2_with fail
  refine (H2.out.1.feed HC.out s (by have := HD.out.2.1; show 0 + _ ≤ _; omega)).mono ?_
  rintro e W3 ⟨rfl, h, hsm⟩
  have h2 : OneK RA w g ⟨s, 0⟩ (fun k => k < W1.heap.size) W3 := h
  have H3 := Lib.hid (And.intro h2 (H2.out.2.kept (fun k hk => hsm k hk.2) (fun k hk => h2.lt k hk.2)))
  clear h h2 hsm H2
  go_wp2_with fail
  refine (H3.out.1.idle HC.out).mono ?_
  rintro e W4 ⟨rfl, h, hB⟩
  have H4 := Lib.hid (And.intro h (H3.out.2.below hB))
  clear h hB H3
  rw [show (decide ((PSt.bad ⟨s, 0⟩ : Nat) = 0) && (PSt.buf ⟨s, 0⟩ == [])) = z by rw [HZ.out.1]; rfl]
  go_wp2_with fail
  refine (H4.out.1.bad HC.out).mono ?_
  rintro e W5 ⟨rfl, h, hB⟩
  have H5 := Lib.hid (And.intro h (H4.out.2.below hB))
  clear h hB H4
  rw [show ((PSt.bad ⟨s, 0⟩ : Nat) : Int) = 0 from rfl]
  go_wp2_with fail
  refine (gets_any HC.out H5.out.1 (by have := HD.out.2.1; show s.length ≤ _; omega) HD.out.1 H5.out.2 (fun k hk => hk.2) H1.out.2.1 (drains_fs HD.out.1)).mono ?_
  rintro e W6 ⟨rfl, h, _⟩
  have H6 := Lib.hid h
  clear h H5 H1
  go_wp2_with fail
  refine (H6.out.bad HC.out).mono ?_
  rintro e W7 ⟨rfl, h, _⟩
  have H7 := Lib.hid h
  clear h H6
  dsimp only
  go_wp2_with fail
  refine (H7.out.idle HC.out).mono ?_
  rintro e W8 ⟨rfl, h, _⟩
  have H8 := Lib.hid h
  clear h H7
  have hid : (decide ((PSt.bad ⟨buf, b⟩ : Nat) = 0) && (PSt.buf ⟨buf, b⟩ == [])) = (decide (b = 0) && y) := by rw [HZ.out.2]
  rw [hid]
  clear hid
  by_cases hb : b = 0
  · subst hb
    rw [show (decide ((0 : Nat) = 0) && y) = y by simp]
    go_wp2_with fail
    refine (H8.out.rest HC.out).mono ?_
    rintro e W9 ⟨rfl, h, _⟩
    have h2 : OneK RA w g PSt.new (fun k => k < W1.heap.size) W9 := h
    have H9 := Lib.hid h2
    clear h h2 H8
    dsimp only
    go_wp2_with fail
    refine (H9.out.feed HC.out get10L (by decide)).mono ?_
    rintro e W10 ⟨rfl, h, _⟩
    have h2 : OneK RA w g ⟨get10L, 0⟩ (fun k => k < W1.heap.size) W10 := h
    have H10 := Lib.hid h2
    clear h h2 H9
    go_wp2_with fail
    refine (H10.out.nextSome HC.out (by decide) (next_req get10_step)).mono ?_
    rintro e W11 ⟨a, c, gf, rfl, _, h, _⟩
    have H11 := Lib.hid h
    clear h H10
    unfold rqCells
    dsimp only [S]
    have hB12 : Below W11.heap.size W11 (W11.alloc (.cells (rqCells [71, 69, 84] [47] [] 10 (.slice a 0 c) [] true) 27)) := (Below.refl _ W11).alloc (Nat.le_refl _) _
    have H12 := Lib.hid (H11.out.below HC.out hB12)
    clear hB12 H11
    go_wp2_with fail
    refine (H12.out.bad HC.out).mono ?_
    rintro e W13 ⟨rfl, h, _⟩
    have H13 := Lib.hid h.bel
    clear h H12
    rw [show ((PSt.bad ⟨[], 0⟩ : Nat) : Int) = 0 from rfl]
    go_wp2
    go_ret
    exact ⟨rfl, H13.out⟩
  · have c0 : ((b : Int) == 0) = false := by rw [beq_eq_false_iff_ne]; omega
    rw [show (decide (b = 0) && y) = false by rw [decide_eq_false hb]; rfl]
    have hbuf : buf = [] := (HD.out.2.2 hb).2
    subst hbuf
    have HBB := Lib.hid hb
    clear hb
    go_wp2_with fail
    refine (H8.out.rest HC.out).mono ?_
    rintro e W9 ⟨rfl, h, _⟩
    have h2 : OneK RA w g ⟨[], b⟩ (fun k => k < W1.heap.size) W9 := h
    have H9 := Lib.hid h2
    clear h h2 H8
    dsimp only
    go_wp2_with fail
    refine (H9.out.feed HC.out get10L (by show 0 + get10L.length ≤ 100000; decide)).mono ?_
    rintro e W10 ⟨rfl, h, _⟩
    rw [feed_stuck (p := ⟨[], b⟩) HBB.out] at h
    have H10 := Lib.hid h
    clear h H9
    go_wp2_with fail
    refine (H10.out.nextNone HC.out (Nat.zero_le _) (next_stuck (p := ⟨[], b⟩) HBB.out)).mono ?_
    rintro e W11 ⟨rfl, h, _⟩
    have hB12 : Below W11.heap.size W11 (W11.alloc (.cells zeroR 27)) := (Below.refl _ W11).alloc (Nat.le_refl _) _
    have H12 := Lib.hid (h.below HC.out hB12)
    clear h hB12 H10
    unfold zeroR
    go_wp2_with fail
    refine (H12.out.bad HC.out).mono ?_
    rintro e W13 ⟨rfl, h, _⟩
    have H13 := Lib.hid h.bel
    clear h H12
    dsimp only
    go_wp2
    go_ret
    exact ⟨rfl, H13.out⟩
end Go.Proofs.YtplajlccnnbifaaGreatDoor
