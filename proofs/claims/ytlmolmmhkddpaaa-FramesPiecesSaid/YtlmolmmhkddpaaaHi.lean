/- FramesTell (stage 16) walked, over any package of frames as they come. -/
import Derived.Test.YtlmolmmhkddpaaaHh
namespace Go.Proofs.Ytlmolmmhkddpaaa
open Go.RowKit
attribute [local go_sem] store_one B_match B_store S_match S_store

/-- A row beside a reader. -/
def RowE (t : TypeId) (base : Nat) (V : Value) (l : List Ev) (W : World) (F : Nat → Prop) : Prop := EvR t base V l W ∧ ∀ k, V.ownBlock = some k → ¬ F k
section
variable {RA : World → (Nat → Prop) → Nat → Fst → Prop} {w0 w W W' : World} {zr : Array Value} {F F' : Nat → Prop} {g : Nat} {st st' : Fst} {t : TypeId} {base : Nat} {V : Value} {l : List Ev}
theorem RowE.moves (h : RowE t base V l W F) (hm : Moves F F' W W') : RowE t base V l W' F' :=
  ⟨h.1.same fun j hj => hm.rest j (h.1.lt hj).2 (h.2 j hj), fun k hk e => by rcases hm.foot k e with h1 | h1; exact h.2 k hk h1; have := (h.1.lt hk).2; omega⟩
theorem RowE.below (h : RowE t base V l W F) (hb : Below W.heap.size W W') : RowE t base V l W' F := h.moves (Moves.of_below hb)
theorem Moves.weaken {G : Nat → Prop} (h : Moves G F' W W') (hg : ∀ k, G k → F k) : Moves F F' W W' := ⟨h.os, h.tape, h.output, h.size, fun k hk => (h.foot k hk).imp (hg k) id, fun k hk hn => h.rest k hk fun e => hn (hg k e)⟩
theorem next_done (st : Fst) : nextV (endF st) = .tuple #[evV ev0, .bool false] ∧ nextS (endF st) = endF st := by
  unfold nextV nextS
  rw [next_end]
  exact ⟨rfl, rfl⟩
/-- told, from nothing on. -/
theorem told16_new (C : FramesI w zr RA) (h : AtR RA w W F g st) (hl : st.buf.length ≤ 100000) :
    Calls Try.prog 12 #[.pointer (some ⟨g, 0, none⟩), .slice none 0 0] W fun e w' => ∃ V' F', e = .returned V' ∧ RowE 29 w.heap.size V' (toldF [] st) w' F' ∧ AtR RA w w' F' g (endF st) ∧ Moves F F' W w' := by
  have h1 := all_len st
  have h2 := all_text st
  refine (told16_any C h.2.1 h.1 h.2.2 (evr_nil _ w.heap.size W) ⟨Nat.le_refl _, h.2.1.size⟩ (fun k e => by cases e) ⟨by simp; omega, by unfold textN at *; simp; omega⟩).mono ?_
  rintro e W1 ⟨V', F', rfl, hev, hR, hown, hm⟩
  have hm2 : Moves F F' W W1 := hm.weaken fun k hk => by
    rcases hk with hk | hk
    · exact hk
    · cases hk
  exact ⟨V', F', rfl, ⟨hev, fun k hk => (hown k hk).1⟩, h.moves hR hm2, hm2⟩
theorem toldF_len (st : Fst) : (toldF [] st).length ≤ 2 * st.buf.length + 1 := by
  have h1 := (fold_size (allF st) []).1
  have h2 := all_len st
  unfold toldF
  simp at h1
  omega
end
set_option maxRecDepth 100000 in
set_option maxHeartbeats 4000000 in
theorem tell16_any {w : World} {zr : Array Value} {RA : World → (Nat → Prop) → Nat → Fst → Prop} (C : FramesI w zr RA) (s : List UInt8) (m : Bool) : Calls Try.prog 4 #[S s, .bool m] w fun e w' => e = .returned (.bool true) ∧ Below w.heap.size w w' := by
  have HA := Lib.hid (awake16_any C)
  have hlN := run_len_S (P := Try.prog) Try.underlying9 3 s
  obtain ⟨N, hN⟩ : ∃ N, N = s.length := ⟨_, rfl⟩
  rw [← hN] at hlN
  have HN := Lib.hid hN
  clear hN
  have i0 : (fresh16 m).idle = true := rfl
  have i1 : (fresh16 m).bad = false := rfl
  go_enter Try.func4, Try.ntmps4
  go_wp2_with fail
  refine HA.out.mono ?_
  rintro e W1 ⟨rfl, hB1⟩
  have HB1 := Lib.hid hB1
  clear hB1 HA
  by_cases hbig : 20000 < N
  · have g1 : decide ((20000 : Int) < (N : Int)) = true := decide_eq_true (by omega)
    have g1' : decide ((N : Int) > 20000) = true := decide_eq_true (by omega)
    go_wp2
    go_ret
    exact ⟨rfl, HB1.out⟩
  have g1 : decide ((20000 : Int) < (N : Int)) = false := decide_eq_false (by omega)
  have g1' : decide ((N : Int) > 20000) = false := decide_eq_false (by omega)
  have hsl : s.length ≤ 20000 := by have := HN.out; omega
  have HSL := Lib.hid hsl
  have HC := Lib.hid (all16_any s m (by omega) W1)
  clear hsl hbig
  obtain ⟨Bd, hBd⟩ : ∃ x, x = (endF (atS m s)).bad := ⟨_, rfl⟩
  obtain ⟨Id, hId⟩ : ∃ x, x = (endF (atS m s)).idle := ⟨_, rfl⟩
  rw [← hBd, ← hId] at HC
  have HBI := Lib.hid (And.intro hBd hId)
  have z1 : (Bd == Bd) = true := by simp
  have z2 : (Id == Id) = true := by simp
  clear hBd hId
  go_wp2_with fail
  refine HC.out.mono ?_
  rintro e W2 ⟨V2, rfl, hev, hB⟩
  have H2 := Lib.hid (And.intro hev (HB1.out.trans (hB.mono HB1.out.size)))
  clear hev hB HC
  have HC := Lib.hid (C.new m W2 H2.out.2)
  go_wp2_with fail
  refine HC.out.mono ?_
  rintro e W3 ⟨g, F3, rfl, hR, hF, hB⟩
  have H3 : Hid (AtR RA w W3 F3 g (fresh16 m) ∧ RowE 62 W1.heap.size V2 (toldF [] (atS m s)) W3 F3) := Lib.hid ⟨⟨hR, H2.out.2.trans (hB.mono H2.out.2.size), fun k hk => Nat.le_trans H2.out.2.size (hF k hk)⟩, H2.out.1.below hB, fun k hk e => by have := (H2.out.1.lt hk).2; have := hF k e; omega⟩
  clear hR hF hB HC H2
  have HC := Lib.hid (C.idle H3.out.1.1 H3.out.1.2.1)
  rw [i0] at HC
  go_wp2_with fail
  refine HC.out.mono ?_
  rintro e W4 ⟨rfl, hB⟩
  have H4 := Lib.hid (And.intro (H3.out.1.below C hB) (H3.out.2.below hB))
  clear hB HC H3
  have HC := Lib.hid (C.bad H4.out.1.1 H4.out.1.2.1)
  rw [i1] at HC
  go_wp2_with fail
  refine HC.out.mono ?_
  rintro e W5 ⟨rfl, hB⟩
  have H5 := Lib.hid (And.intro (H4.out.1.below C hB) (H4.out.2.below hB))
  clear hB HC H4
  have HC := Lib.hid (C.feed s H5.out.1.1 H5.out.1.2.1 (by have := HSL.out; show 0 + s.length ≤ 100000; omega))
  rw [fresh_feed] at HC
  go_wp2_with fail
  refine HC.out.mono ?_
  rintro e W6 ⟨rfl, F6, hR, hm⟩
  have H6 := Lib.hid (And.intro (H5.out.1.moves hR hm) (H5.out.2.moves hm))
  clear hR hm HC H5
  have HC := Lib.hid (told16_new C H6.out.1 (by have := HSL.out; show s.length ≤ 100000; omega))
  go_wp2_with fail
  refine HC.out.mono ?_
  rintro e W7 ⟨V7, F7, rfl, hrow, hat, hm⟩
  have H7 := Lib.hid (And.intro hat (And.intro (H6.out.2.moves hm) hrow))
  clear hat hm hrow HC H6
  have HC := Lib.hid (C.next H7.out.1.1 H7.out.1.2.1)
  rw [(next_done _).1, (next_done _).2] at HC
  unfold evV evC ev0 at HC
  dsimp only at HC
  go_wp2_with fail
  refine HC.out.mono ?_
  rintro e W8 ⟨rfl, F8, hR, hm⟩
  obtain ⟨W9, hW9⟩ : ∃ W, W = W8.alloc (.cells #[.int .i64 0, .int .i64 0, .bool false, .int .i64 0, S []] 29) := ⟨_, rfl⟩
  have hal : Below W8.heap.size W8 W9 := by rw [hW9]; exact (Below.refl _ _).alloc (Nat.le_refl _) _
  have H9 := Lib.hid (And.intro ((H7.out.1.moves hR hm).below C hal) (And.intro ((H7.out.2.1.moves hm).below hal) ((H7.out.2.2.moves hm).below hal)))
  clear hR hm HC H7 hal
  have HC := Lib.hid (same16_true H9.out.2.2.1 H9.out.2.1.1 (by have h := toldF_len (atS m s); have e : (atS m s).buf = s := rfl; rw [e] at h; have := HSL.out; omega))
  rw [hW9] at HC
  go_wp2_with fail
  refine HC.out.mono ?_
  rintro e W10 ⟨rfl, hB⟩
  rw [← hW9] at hB
  have H10 := Lib.hid (H9.out.1.below C hB)
  clear hB HC H9 hW9
  have HC := Lib.hid (C.bad H10.out.1 H10.out.2.1)
  rw [← HBI.out.1] at HC
  go_wp2_with fail
  refine HC.out.mono ?_
  rintro e W11 ⟨rfl, hB⟩
  have H11 := Lib.hid (H10.out.below C hB)
  clear hB HC H10
  have HC := Lib.hid (C.idle H11.out.1 H11.out.2.1)
  rw [← HBI.out.2] at HC
  go_wp2_with fail
  refine HC.out.mono ?_
  rintro e W12 ⟨rfl, hB⟩
  have HB := Lib.hid (H11.out.2.1.trans (hB.mono H11.out.2.1.size))
  clear hB HC H11
  go_wp2
  go_ret
  exact ⟨rfl, HB.out⟩
end Go.Proofs.Ytlmolmmhkddpaaa
