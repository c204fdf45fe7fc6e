/- RequestNobody walked, over any package that does what is asked of it. -/
import Derived.Test.YtplajlccnnbifaaGreatDoorRl2
import Derived.Test.YtplajlccnnbifaaGreatDoorRi
import Derived.Test.YtplajlccnnbifaaGreatDoorJh
namespace Go.Proofs.YtplajlccnnbifaaGreatDoor
open Go.RowKit
attribute [local go_sem] store_one S_match S_store

set_option maxRecDepth 100000 in
set_option maxHeartbeats 4000000 in
theorem rnobody_any {RA : World → (Nat → Prop) → Nat → PSt → Prop} {w : World} (C : RequestI w RA) (hzero : ∀ w : World, RA (w.alloc (.cells zeroP 39)) (fun k => k = w.heap.size) w.heap.size PSt.new) (s : List UInt8) :
    Calls Tryz.prog 5 #[S s] w fun e w' => e = .returned (.bool true) ∧ Below w.heap.size w w' := by
  have hlenS := run_len_S (P := Tryz.prog) Tryz.underlying9 3 s
  have HC := Lib.hid C
  have HAW := Lib.hid (awake_request C)
  have HZ := Lib.hid hzero
  clear C hzero
  by_cases hs : 3000 < s.length
  · have j1 : decide ((3000 : Int) < (s.length : Int)) = true := decide_eq_true (by omega)
    go_enter Tryz.func5, Tryz.ntmps5
    go_wp2_with fail
    refine HAW.out.mono ?_
    rintro e W1 ⟨rfl, hB⟩
    have HB := Lib.hid hB
    clear hB
    go_wp2
    go_ret
    exact ⟨rfl, HB.out⟩
  have j1 : decide ((3000 : Int) < (s.length : Int)) = false := decide_eq_false (by omega)
  obtain ⟨L, p', hd, _⟩ := drains_ex s.length ⟨s, 0⟩ (Nat.le_refl _)
  have hl := drains_len hd
  have HD := Lib.hid (And.intro hd (show s.length ≤ 3000 by omega))
  clear hs hd hl
  go_enter Tryz.func5, Tryz.ntmps5
  go_wp2_with fail
  refine HAW.out.mono ?_
  rintro e W0 ⟨rfl, hB⟩
  have HB0 := Lib.hid hB
  clear hB
  go_wp2_with fail
  refine (HC.out.feed0 s W0 (by have := HD.out.2; omega)).mono ?_
  rintro e W1 ⟨rfl, hB⟩
  have HB1 := Lib.hid (HB0.out.trans (hB.mono HB0.out.size))
  clear hB HB0
  go_wp2_with fail
  refine (HC.out.next0 W1).mono ?_
  rintro e W2 ⟨rfl, hB⟩
  have hB2 := HB1.out.trans (hB.mono HB1.out.size)
  have hB3 : Below w.heap.size w (W2.alloc (.cells zeroR 27)) := hB2.alloc hB2.size _
  have hz := HZ.out (W2.alloc (.cells zeroR 27))
  have hs3 : (W2.alloc (.cells zeroR 27)).heap.size = W2.heap.size + 1 := alloc_size _ _
  rw [hs3] at hz
  have hO : OneK RA w (W2.heap.size + 1) PSt.new (fun _ => False) ((W2.alloc (.cells zeroR 27)).alloc (.cells zeroP 39)) :=
    ⟨⟨_, hz, fun k hk => by rw [hk]; have := hB2.size; omega, fun k hk => hk.elim⟩, hB3.alloc hB3.size _⟩
  have HO := Lib.hid hO
  unfold zeroR
  clear hB hB2 hB3 hz hs3 hO HB1
  go_wp2_with fail
  refine (HO.out.idle HC.out).mono ?_
  obtain ⟨g, hg⟩ : ∃ g, g = W2.heap.size + 1 := ⟨_, rfl⟩
  obtain ⟨b4, hb4⟩ : ∃ b, b = W2.heap.size := ⟨_, rfl⟩
  rintro e W5 ⟨rfl, h, _⟩
  rw [← hg] at h
  rw [← hg, ← hb4]
  have H5 := Lib.hid h
  clear h HO hg hb4
  rw [show (decide (PSt.new.bad = 0) && (PSt.new.buf == [])) = true from rfl]
  go_wp2_with fail
  refine (H5.out.bad HC.out).mono ?_
  rintro e W6 ⟨rfl, h, _⟩
  have H6 := Lib.hid h
  clear h H5
  rw [show ((PSt.new.bad : Nat) : Int) = 0 from rfl]
  go_wp2_with fail
  refine (H6.out.rest HC.out).mono ?_
  rintro e W7 ⟨rfl, h, _⟩
  have h2 : OneK RA w g PSt.new (fun _ => False) W7 := h
  have H7 := Lib.hid h2
  clear h h2 H6
  rw [show S PSt.new.buf = .string ⟨#[]⟩ from rfl]
  go_wp2_with fail
  refine (H7.out.feed HC.out s (by have := HD.out.2; show 0 + _ ≤ _; omega)).mono ?_
  rintro e W8 ⟨rfl, h, _⟩
  have h2 : OneK RA w g ⟨s, 0⟩ (fun _ => False) W8 := h
  have H8 := Lib.hid h2
  clear h h2 H7
  go_wp2_with fail
  refine (dall_any s (by have := HD.out.2; omega) W8 L p' HD.out.1).mono ?_
  rintro e W9 ⟨V, xs, rfl, hR, hxs, hB⟩
  have H9 := Lib.hid (And.intro (H8.out.grow HC.out hB) (And.intro hR hxs))
  clear hR hxs hB H8
  go_wp2_with fail
  refine (HC.out.bad0 W9).mono ?_
  rintro e W10 ⟨rfl, hB⟩
  have H10 := Lib.hid (And.intro (H9.out.1.below HC.out hB) (H9.out.2.1.below hB))
  clear hB
  go_wp2_with fail
  refine (HC.out.idle0 W10).mono ?_
  rintro e W11 ⟨rfl, hB⟩
  have H11 := Lib.hid (And.intro (H10.out.1.below HC.out hB) (H10.out.2.below hB))
  clear hB H10
  go_wp2_with fail
  refine (HC.out.rest0 W11).mono ?_
  rintro e W12 ⟨rfl, hB⟩
  have H12 := Lib.hid (And.intro (H11.out.1.below HC.out hB) (H11.out.2.below hB))
  clear hB H11
  dsimp only [S]
  go_wp2_with fail
  refine (gets_any HC.out H12.out.1 (by have := HD.out.2; show s.length ≤ _; omega) HD.out.1 H12.out.2 (fun k hk => .inr hk) H9.out.2.2 (drains_fs HD.out.1)).mono ?_
  rintro e W13 ⟨rfl, h, _⟩
  have H13 := Lib.hid h
  clear h H12 H9
  go_wp2_with fail
  refine (H13.out.bad HC.out).mono ?_
  rintro e W14 ⟨rfl, h, _⟩
  have H14 := Lib.hid h.bel
  clear h H13
  go_wp2
  go_ret
  exact ⟨rfl, H14.out⟩
end Go.Proofs.YtplajlccnnbifaaGreatDoor
