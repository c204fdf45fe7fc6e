/- FramesLeft (stage 16) walked, over any package of frames as they come: a walk within a walk. -/
import Derived.Test.YtlmolmmhkddpaaaHi
import Derived.Test.YtlmolmmhkddpaaaHm4
namespace Go.Proofs.Ytlmolmmhkddpaaa
open Go.RowKit
attribute [local go_sem] store_one Oper.semAt_some B_match B_store S_match S_store

theorem left_early {w W : World} {x : Bool} {tmps : Array Value} {b : Nat} (hr : Row W b #[.bool x] 4) (hx : x = true) (hb : Below w.heap.size w W) (ht : tmps[4]? = some (.pointer (some ⟨b, 0, none⟩))) :
    bodyPostM Fence.wide 5 Try.prog Try.f9 (fun e w' => e = .returned (.bool true) ∧ Below w.heap.size w w') .ret { tmps := tmps, defers := [] } W := by
  subst hx
  have hc := cell_of_row W _ 0 _ 4 (0, 0) hr
  exact ⟨.bool true, by simp [results, Try.f9, go_sem, hc, ht], rfl, hb⟩
theorem left_end {w W : World} {tmps : Array Value} {b D : Nat} (hr : Row W b #[.bool true] 4) (hb : Below w.heap.size w W) (hd : W.heap[D]? = some (.deferred (some []))) (hD : w.heap.size ≤ D) (ht : tmps[4]? = some (.pointer (some ⟨b, 0, none⟩))) :
    bodyPostM Fence.wide 5 Try.prog Try.f9 (fun e w' => e = .returned (.bool true) ∧ Below w.heap.size w w') .ret { tmps := tmps, defers := [{ target := .collected D, args := #[] }] } W := by
  have ca := cell_of_row W _ 0 _ 4 (0, 0) hr
  refine ⟨by simp, .inl ⟨_, _, rfl, run_takeDeferred hd, ?_⟩⟩
  have hc : (W.putObj D (.deferred none)).cell? ⟨b, 0, none⟩ = some (.bool true) :=
    cell_kept ca (grownBy_putObj' _ _ (.deferred none)) (fun r e => by cases e; exact ⟨_, hd, rfl⟩)
  have hsz := hb.size
  refine ⟨.bool true, ?_, rfl, hb.grown (grownBy_putObj' _ _ _) hsz (fun k e => by cases e; omega)⟩
  simp [results, Try.f9, go_sem, hc, ht]
/-- The second reader and the boxes, beside blocks Fc that may turn. -/
structure OInv (RA : World → (Nat → Prop) → Nat → Fst → Prop) (w : World) (gx b bx : Nat) (stx : Fst) (Fc : Nat → Prop) (W : World) (Fx : Nat → Prop) : Prop where
  x : AtR RA w W Fx gx stx
  sep : ∀ k, Fx k → ¬ Fc k
  rb : Row W b #[.bool false] 4
  nb : ¬ Fc b ∧ ¬ Fx b
  rx : Row W bx #[.pointer (some ⟨gx, 0, none⟩)] 22
  nx : ¬ Fc bx ∧ ¬ Fx bx
  foot : ∀ k, Fc k → w.heap.size ≤ k
section
variable {RA : World → (Nat → Prop) → Nat → Fst → Prop} {w W W' : World} {zr : Array Value} {gx b bx : Nat} {Fc Fc' Fx : Nat → Prop} {stx : Fst}
theorem OInv.moves (C : FramesI w zr RA) (h : OInv RA w gx b bx stx Fc W Fx) (hm : Moves Fc Fc' W W') : OInv RA w gx b bx stx Fc' W' Fx where
  x := ⟨C.same h.x.1 hm.size fun k hk => hm.rest k ((C.lt h.x.1).2 k hk) (h.sep k hk), h.x.2.1.trans (hm.below h.foot h.x.2.1.size), h.x.2.2⟩
  sep := fun k hk e => by rcases hm.foot k e with h1 | h1; exact h.sep k hk h1; have := (C.lt h.x.1).2 k hk; omega
  rb := h.rb.moves hm h.nb.1
  nb := ⟨fun e => by rcases hm.foot _ e with h1 | h1; exact h.nb.1 h1; have := h.rb.lt; omega, h.nb.2⟩
  rx := h.rx.moves hm h.nx.1
  nx := ⟨fun e => by rcases hm.foot _ e with h1 | h1; exact h.nx.1 h1; have := h.rx.lt; omega, h.nx.2⟩
  foot := hm.from h.foot h.x.2.1.size
theorem OInv.below (C : FramesI w zr RA) (h : OInv RA w gx b bx stx Fc W Fx) (hb : Below W.heap.size W W') : OInv RA w gx b bx stx Fc W' Fx := h.moves C (Moves.of_below hb)
theorem OInv.xmoves (h : OInv RA w gx b bx stx Fc W Fx) {stx' : Fst} {Fx' : Nat → Prop} (hr : RA W' Fx' gx stx') (hm : Moves Fx Fx' W W') (hlt : ∀ k, Fc k → k < W.heap.size) : OInv RA w gx b bx stx' Fc W' Fx' where
  x := h.x.moves hr hm
  sep := fun k hk e => by rcases hm.foot k hk with h1 | h1; exact h.sep k h1 e; have := hlt k e; omega
  rb := h.rb.moves hm h.nb.2
  nb := ⟨h.nb.1, fun e => by rcases hm.foot _ e with h1 | h1; exact h.nb.2 h1; have := h.rb.lt; omega⟩
  rx := h.rx.moves hm h.nx.2
  nx := ⟨h.nx.1, fun e => by rcases hm.foot _ e with h1 | h1; exact h.nx.2 h1; have := h.rx.lt; omega⟩
  foot := h.foot
/-- The boxes alone, while the second reader is ranged over; Fo: what the first range stands on. -/
structure IInv (w : World) (gx b bx be bn : Nat) (e : Ev) (v : Nat) (Fo : Nat → Prop) (W0 : World) (Fc : Nat → Prop) (W : World) : Prop where
  re : Row W be (evC e) 29
  rn : Row W bn #[.int .i64 v] 3
  rb : Row W b #[.bool false] 4
  rx : Row W bx #[.pointer (some ⟨gx, 0, none⟩)] 22
  no : ¬ Fc be ∧ ¬ Fc bn ∧ ¬ Fc b ∧ ¬ Fc bx
  kept : Kept Fo W0 W
  out : ∀ k, Fo k → ¬ Fc k ∧ k < W0.heap.size
  bel : Below w.heap.size w W
  foot : ∀ k, Fc k → w.heap.size ≤ k
theorem IInv.moves {be bn : Nat} {e : Ev} {v : Nat} {Fo : Nat → Prop} {W0 : World} (h : IInv w gx b bx be bn e v Fo W0 Fc W) (hm : Moves Fc Fc' W W') : IInv w gx b bx be bn e v Fo W0 Fc' W' := by
  have key : ∀ k, k < W.heap.size → ¬ Fc k → ¬ Fc' k := fun k hk hn e => by rcases hm.foot _ e with h1 | h1; exact hn h1; omega
  exact ⟨h.re.moves hm h.no.1, h.rn.moves hm h.no.2.1, h.rb.moves hm h.no.2.2.1, h.rx.moves hm h.no.2.2.2, ⟨key _ h.re.lt h.no.1, key _ h.rn.lt h.no.2.1, key _ h.rb.lt h.no.2.2.1, key _ h.rx.lt h.no.2.2.2⟩,
    ⟨Nat.le_trans h.kept.size hm.size, fun r hr => (hm.rest r (Nat.lt_of_lt_of_le (h.out r hr).2 h.kept.size) (h.out r hr).1).trans (h.kept.same r hr)⟩, fun k hk => ⟨key k (Nat.lt_of_lt_of_le (h.out k hk).2 h.kept.size) (h.out k hk).1, (h.out k hk).2⟩, h.bel.trans (hm.below h.foot h.bel.size), hm.from h.foot h.bel.size⟩
end
set_option maxRecDepth 100000 in
set_option maxHeartbeats 4000000 in
theorem left16_any {w : World} {zr : Array Value} {RA : World → (Nat → Prop) → Nat → Fst → Prop} (C : FramesI w zr RA) (s : List UInt8) (m : Bool) : Calls Try.prog 9 #[S s, .bool m] w fun e w' => e = .returned (.bool true) ∧ Below w.heap.size w w' := by
  have hlN := run_len_S (P := Try.prog) Try.underlying9 3 s
  obtain ⟨N, hN⟩ : ∃ N, N = s.length := ⟨_, rfl⟩
  rw [← hN] at hlN
  have HN := Lib.hid hN
  clear hN
  obtain ⟨b, hb⟩ : ∃ b, b = w.heap.size := ⟨_, rfl⟩
  obtain ⟨W1, hW1⟩ : ∃ W, W = w.alloc (.cells #[.bool false] 4) := ⟨_, rfl⟩
  have H1 : Hid (Below w.heap.size w W1 ∧ Row W1 b #[.bool false] 4) := Lib.hid (by rw [hW1, hb]; exact ⟨(Below.refl _ _).alloc (Nat.le_refl _) _, row_new _ _ _⟩)
  have HA := Lib.hid (awake16_any (C.up H1.out.1))
  rw [hW1] at HA
  refine (callsIn_wide (n := 5)).1 (callsIn_of_wp_marks Try.func9 rfl trivial ?_ rfl)
  simp only [Try.ntmps9, List.size_toArray, List.length_cons, List.length_nil, Nat.reduceAdd, Nat.reduceSub, Array.replicate_succ, Array.replicate_zero, List.push_toArray, List.append_toArray, List.nil_append, List.cons_append]
  rw [wpIn_wide]
  go_wp2_with fail
  refine HA.out.mono ?_
  rintro e W2 ⟨rfl, hB⟩
  rw [← hW1] at hB
  rw [← hb]
  have H2 : Hid (Below w.heap.size w W2 ∧ Row W2 b #[.bool false] 4 ∧ b = w.heap.size) := Lib.hid ⟨H1.out.1.trans (hB.mono H1.out.1.size), H1.out.2.below hB H1.out.2.lt, hb⟩
  clear hB hW1 H1 HA hb
  by_cases hbig : 3000 < N
  · have g1 : decide ((3000 : Int) < (N : Int)) = true := decide_eq_true (by omega)
    have g1' : decide ((N : Int) > 3000) = true := decide_eq_true (by omega)
    have c2 := cell_of_row W2 _ 0 _ 4 (0, 0) H2.out.2.1
    have z2 := H2.out.2.1.frozen 0
    go_wp2
    exact left_early (H2.out.2.1.set 0 _) rfl (H2.out.1.setCell (p := ⟨b, 0, none⟩) (by show _ ≤ b; rw [H2.out.2.2]; exact Nat.le_refl _) _) rfl
  have g1 : decide ((3000 : Int) < (N : Int)) = false := decide_eq_false (by omega)
  have g1' : decide ((N : Int) > 3000) = false := decide_eq_false (by omega)
  have HSL : Hid (s.length ≤ 3000) := Lib.hid (by have := HN.out; omega)
  clear hbig
  have HC := Lib.hid (C.new m W2 H2.out.1)
  go_wp2_with fail
  refine HC.out.mono ?_
  rintro e W3 ⟨g, F3, rfl, hR, hF, hB⟩
  have H3 : Hid (AtR RA w W3 F3 g (fresh16 m) ∧ (Row W3 b #[.bool false] 4 ∧ ¬ F3 b) ∧ b = w.heap.size) := Lib.hid ⟨⟨hR, H2.out.1.trans (hB.mono H2.out.1.size), fun k hk => Nat.le_trans H2.out.1.size (hF k hk)⟩, ⟨H2.out.2.1.below hB H2.out.2.1.lt, fun e => by have := hF b e; have := H2.out.2.1.lt; omega⟩, H2.out.2.2⟩
  clear hR hF hB HC H2
  have HC := Lib.hid (C.feed s H3.out.1.1 H3.out.1.2.1 (by have := HSL.out; show 0 + s.length ≤ 100000; omega))
  rw [fresh_feed] at HC
  go_wp2_with fail
  refine HC.out.mono ?_
  rintro e W4 ⟨rfl, F4, hR, hm⟩
  have H4 : Hid (AtR RA w W4 F4 g (atS m s) ∧ BoxR W4 F4 b #[.bool false] 4 ∧ b = w.heap.size) := Lib.hid ⟨H3.out.1.moves hR hm, BoxR.moves H3.out.2.1 hm, H3.out.2.2⟩
  clear hR hm HC H3
  have HC := Lib.hid (C.new m W4 H4.out.1.2.1)
  go_wp2_with fail
  refine HC.out.mono ?_
  rintro e W5 ⟨gx, F5, rfl, hR, hF, hB⟩
  obtain ⟨W6, hW6⟩ : ∃ W, W = W5.alloc (.cells #[.pointer (some ⟨gx, 0, none⟩)] 22) := ⟨_, rfl⟩
  obtain ⟨bx, hbx⟩ : ∃ x, x = W5.heap.size := ⟨_, rfl⟩
  have hal : Below W5.heap.size W5 W6 := by rw [hW6]; exact (Below.refl _ _).alloc (Nat.le_refl _) _
  have hrb5 := H4.out.2.1.below hB
  have hrb6 := hrb5.below hal
  have hfl : ∀ k, F4 k → k < W4.heap.size := (C.lt H4.out.1.1).2
  have h5s := hB.size
  have H6 : Hid (AtR RA w W6 F4 g (atS m s) ∧ OInv RA w gx b bx (fresh16 m) F4 W6 F5 ∧ b = w.heap.size) := Lib.hid ⟨(H4.out.1.below C hB).below C hal, ⟨⟨C.below hR hal, H4.out.1.2.1.trans ((hB.trans (hal.mono hB.size)).mono H4.out.1.2.1.size), fun k hk => Nat.le_trans H4.out.1.2.1.size (hF k hk)⟩,
    fun k hk e => by have := hF k hk; have := hfl k e; omega, hrb6.1, ⟨hrb6.2, fun e => by have := hF b e; have := H4.out.2.1.1.lt; omega⟩, by rw [hW6, hbx]; exact row_new _ _ _, ⟨fun e => by have := hfl _ e; omega, fun e => by have := (C.lt hR).2 _ e; omega⟩, H4.out.1.2.2⟩, H4.out.2.2⟩
  have c6 : (W5.alloc (.cells #[.pointer (some ⟨gx, 0, none⟩)] 22)).cell? ⟨bx, 0, none⟩ = some (.pointer (some ⟨gx, 0, none⟩)) := by rw [← hW6]; exact cell_of_row W6 _ 0 _ _ (0, 0) H6.out.2.1.rx
  have HC := Lib.hid (C.feed s H6.out.2.1.x.1 H6.out.2.1.x.2.1 (by have := HSL.out; show 0 + s.length ≤ 100000; omega))
  rw [fresh_feed, hW6] at HC
  clear hR hF hB hal hrb5 hrb6 hfl h5s H4
  go_wp2_with fail
  refine HC.out.mono ?_
  rintro e W7 ⟨rfl, F7, hR, hm⟩
  rw [← hW6] at hm
  rw [← hbx]
  have H7 : Hid (AtR RA w W7 F4 g (atS m s) ∧ OInv RA w gx b bx (atS m s) F4 W7 F7 ∧ b = w.heap.size) := Lib.hid ⟨⟨C.same H6.out.1.1 hm.size fun k hk => hm.rest k ((C.lt H6.out.1.1).2 k hk) fun e => H6.out.2.1.sep k e hk, H6.out.1.2.1.trans (hm.below H6.out.2.1.x.2.2 H6.out.1.2.1.size), H6.out.1.2.2⟩, H6.out.2.1.xmoves hR hm (C.lt H6.out.1.1).2, H6.out.2.2⟩
  clear hR hm HC H6 c6 hW6 hbx
  have HC := Lib.hid (C.all H7.out.1.1 H7.out.1.2.1)
  have heq0 : ∀ (gf : Nat) (lb : Array Value) (w : World), (binOp .eql 41 (.func (.func gf) #[] lb) .nilFunc).run Try.prog w = .ok (.bool false) w := fun gf lb => eql_nilFunc Try.underlying41 (.func gf) #[] lb
  have HEQ := Lib.hid heq0
  clear heq0
  go_wp2_with fail
  refine HC.out.mono ?_
  rintro e W8 ⟨gf1, lb1, rfl, -, hB⟩
  have heq := HEQ.out gf1 lb1
  have H8 := Lib.hid (And.intro (H7.out.1.below C hB) (And.intro (H7.out.2.1.below C hB) H7.out.2.2))
  clear hB HC H7
  have HC := Lib.hid (C.all H8.out.1.1 H8.out.1.2.1)
  go_wp2_with fail
  refine HC.out.mono ?_
  rintro e W9 ⟨gf, lb, rfl, hall, hB⟩
  obtain ⟨heg, F1, St, hS0, hF1, hkeep, hStlt, hStR, hseq⟩ := hall
  have hF4 := (C.lt H8.out.1.1).2
  have h8x := (C.lt H8.out.2.1.x.1).2
  have h8s := hB.size
  have H9 : Hid (OInv RA w gx b bx (atS m s) (with2 F1 W9.heap.size) W9 F7 ∧ b = w.heap.size) := Lib.hid (by
    have h := H8.out.2.1.below C hB
    have key : ∀ k, k < W8.heap.size → ¬ F4 k → ¬ with2 F1 W9.heap.size k := fun k hk hn e => by
      rcases e with e | e
      · rcases hF1 k e with h1 | h1
        · exact hn h1
        · omega
      · omega
    exact ⟨⟨h.x, fun k hk => key k (h8x k hk) (h.sep k hk), h.rb, ⟨key b H8.out.2.1.rb.lt h.nb.1, h.nb.2⟩, h.rx, ⟨key bx H8.out.2.1.rx.lt h.nx.1, h.nx.2⟩, fun k hk => by
      rcases hk with hk | hk
      · rcases hF1 k hk with h1 | h1
        · exact h.foot k h1
        · have := H8.out.1.2.1.size; omega
      · have := H8.out.1.2.1.size; omega⟩, H8.out.2.2⟩)
  have HB9 := Lib.hid H9.out.1.x.2.1
  have HS := Lib.hid (And.intro hkeep (And.intro hStlt hStR))
  have hF19 : ∀ k, F1 k → k < W9.heap.size := hStlt _ _ _ hS0
  clear heq HC H8 hB hF1 hF4 h8x h8s
  go_wp2_with fail
  rw [← wpIn_wide (n := 5)]
  refine wpIn_rangeFunc_M (gf := gf) (lb := lb) (L := allF (atS m s)) (encs := encE) (St := St) (F0 := F1) rfl heg (fun m => hseq m) hkeep hS0 hF19 (fun _ => rfl)
    (fun pre Fc W => ∃ Fx, OInv RA w gx b bx (stepS (atS m s) pre.length) Fc W Fx) (fun _ _ _ _ => False)
    (fun pre Fa Fb A A' h hm => h.imp fun _ h => h.moves C hm) (fun _ _ _ _ _ _ h _ => h) ⟨F7, H9.out.1⟩ ?round ?done ?stop
  case stop => exact fun c pre F W _ h => h.elim
  case done =>
    rintro Fy W ⟨Fx, hO⟩ hSt hnB hD
    rw [stepS_end] at hO
    have hDx : ¬ Fx W9.heap.size := fun e => hO.sep _ e (.inr (.inl rfl))
    have c6 := cell_of_row W _ 0 _ _ (0, 0) hO.rx
    have HO := Lib.hid (And.intro hO (And.intro hDx hD))
    have HC := Lib.hid (C.next hO.x.1 hO.x.2.1)
    rw [(next_done _).1, (next_done _).2] at HC
    unfold evV evC ev0 at HC
    dsimp only at HC
    clear hO hDx hD hSt hnB hS0 hseq heg hkeep hStlt hStR hF19
    gi_wp2
    go_wp2_with fail
    refine HC.out.mono ?_
    rintro e Wn ⟨rfl, Fn, hR, hm⟩
    obtain ⟨Wb, hWb⟩ : ∃ W, W = Wn.alloc (.cells #[.int .i64 0, .int .i64 0, .bool false, .int .i64 0, S []] 29) := ⟨_, rfl⟩
    have hal : Below Wn.heap.size Wn Wb := by rw [hWb]; exact (Below.refl _ _).alloc (Nat.le_refl _) _
    have hat := (HO.out.1.x.moves hR hm).2.1
    have hrb := (HO.out.1.rb.moves hm HO.out.1.nb.2)
    have hrb2 := hrb.below hal hrb.lt
    have hDl := (Array.getElem?_eq_some_iff.1 HO.out.2.2).1
    have hD2 : Wb.heap[W9.heap.size]? = some (.deferred (some [])) := (hal.block _ (Nat.lt_of_lt_of_le hDl hm.size)).trans ((hm.rest _ hDl HO.out.2.1).trans HO.out.2.2)
    have HF := Lib.hid (And.intro hrb2 (And.intro (hat.trans (hal.mono hat.size)) (And.intro hD2 (show b ≠ W9.heap.size from fun e => by have := H9.out.1.rb.lt; omega))))
    have cb := cell_of_row Wb _ 0 _ 4 (0, 0) hrb2
    have zb := hrb2.frozen 0
    rw [hWb] at cb zb
    clear HC hR hm hal hat hrb hrb2 hDl hD2
    go_wp2
    rw [← hWb]
    exact left_end (HF.out.1.set 0 _) (HF.out.2.1.setCell (p := ⟨b, 0, none⟩) (by show _ ≤ b; rw [H9.out.2]; exact Nat.le_refl _) _) ((Below.heap_setCell _ _ _ _ (fun e => HF.out.2.2.2 e.symm)).trans HF.out.2.2.1) HB9.out.size rfl
  case round =>
    intro ll pre x Fy W KK hll hpx hI hSt hnB hsz hK
    obtain ⟨Fx, hO⟩ := hI
    obtain ⟨t, hat, hst1⟩ := all_head hpx
    have hfl : ∀ k, with2 Fy W9.heap.size k → k < W.heap.size := fun k hk => by
      rcases hk with hk | hk
      · exact HS.out.2.1 _ _ _ hSt k hk
      · omega
    obtain ⟨st, hst⟩ : ∃ y, y = stepS (atS m s) pre.length := ⟨_, rfl⟩
    have hpl : stepS st 1 = stepS (atS m s) (pre ++ [x]).length := by rw [hst, hst1, List.length_append, List.length_singleton]
    rw [← hst] at hO hat
    have HX := Lib.hid (And.intro hO (And.intro hat (And.intro hpl hfl)))
    clear hO hat hst1 hpl hst hSt hnB hpx hfl hS0 hseq heg hkeep hStlt hStR hF19
    subst hll
    obtain ⟨be, hbe⟩ : ∃ y, y = W.heap.size := ⟨_, rfl⟩
    have HXE : Hid (∃ y, y = x) := Lib.hid ⟨_, rfl⟩
    obtain ⟨kd, op, fin, ln, tx⟩ := x
    unfold encE evV evC
    gi_wp2
    obtain ⟨Wa, hWa⟩ : ∃ X, X = W.alloc (.cells #[.int .i64 (kd : Int), .int .i64 (op : Int), .bool fin, .int .i64 (ln : Int), S tx] 29) := ⟨_, rfl⟩
    rw [← hWa, ← hbe]
    have hBa : Below W.heap.size W Wa := by rw [hWa]; exact (Below.refl _ _).alloc (Nat.le_refl _) _
    have hra : Row Wa be #[.int .i64 (kd : Int), .int .i64 (op : Int), .bool fin, .int .i64 (ln : Int), S tx] 29 := by rw [hWa, hbe]; exact row_new _ _ _
    clear hWa
    obtain ⟨hO, hat, hpl, hfl⟩ := HX.out
    refine hK _ Wa ⟨hBa.size, fun r hr => hBa.block r (hfl r hr)⟩ ?_
    intro W2 hg ⟨rl, hrl⟩
    have hO2 := (hO.below C hBa).moves C ⟨hg.os, hg.tape, hg.output, hg.size, fun _ hk => .inl hk, fun k hk hn => hg.block k hk fun e => hn (.inr (.inr (Option.some.inj e)))⟩
    have hre : Row W2 be #[.int .i64 (kd : Int), .int .i64 (op : Int), .bool fin, .int .i64 (ln : Int), S tx] 29 := row_grown hra hg (fun e => by have := Option.some.inj e; omega)
    have hxl := (C.lt hO.x.1).2
    have hb2s : W.heap.size + 1 ≤ W2.heap.size := by have := hra.lt; have := hg.size; omega
    -- the box of n
    obtain ⟨W3, hW3⟩ : ∃ X, X = W2.alloc (.cells #[.int .i64 0] 3) := ⟨_, rfl⟩
    obtain ⟨bn, hbn⟩ : ∃ y, y = W2.heap.size := ⟨_, rfl⟩
    have hal : Below W2.heap.size W2 W3 := by rw [hW3]; exact (Below.refl _ _).alloc (Nat.le_refl _) _
    have H3 : Hid (OInv RA w gx b bx st (with2 Fy W9.heap.size) W3 Fx ∧ Row W3 be #[.int .i64 (kd : Int), .int .i64 (op : Int), .bool fin, .int .i64 (ln : Int), S tx] 29 ∧ Row W3 bn #[.int .i64 0] 3 ∧ Below W2.heap.size W2 W3 ∧ W3.heap[W9.heap.size + 1]? = some (.loop rl) ∧ W9.heap.size + 1 < W.heap.size) := Lib.hid ⟨hO2.below C hal, hre.below hal hre.lt, by rw [hW3, hbn]; exact row_new _ _ _, hal, (hal.block _ (Array.getElem?_eq_some_iff.1 hrl).1).trans hrl, by omega⟩
    have HX2 := Lib.hid (And.intro hat (And.intro hpl (And.intro hfl (And.intro hxl (And.intro hbe (And.intro hbn hb2s))))))
    have c6 := cell_of_row W3 _ 0 _ _ (0, 0) H3.out.1.rx
    have HC := Lib.hid (C.all H3.out.1.x.1 H3.out.1.x.2.1)
    rw [hW3] at HC c6
    clear hO hat hpl hfl hBa hra hg hrl hO2 hre hxl hb2s hal hsz hK HX hbe hbn
    gi_wp2_with fail
    refine ⟨trivial, ((callsIn_wide.2 HC.out).inRound (W9.heap.size + 1)).mono ?_⟩
    rintro e W4 ⟨gi1, li1, rfl, -, hB⟩
    rw [← hW3] at hB
    have hbn := HX2.out.2.2.2.2.2.1
    rw [← hbn]
    have heq := HEQ.out gi1 li1
    have hs3 : W2.heap.size ≤ W3.heap.size := H3.out.2.2.2.1.size
    have H4 : Hid (OInv RA w gx b bx st (with2 Fy W9.heap.size) W4 Fx ∧ Row W4 be #[.int .i64 (kd : Int), .int .i64 (op : Int), .bool fin, .int .i64 (ln : Int), S tx] 29 ∧ Row W4 bn #[.int .i64 0] 3 ∧ Below W2.heap.size W2 W4 ∧ W4.heap[W9.heap.size + 1]? = some (.loop rl) ∧ W9.heap.size + 1 < W.heap.size) := Lib.hid ⟨H3.out.1.below C hB, H3.out.2.1.below hB H3.out.2.1.lt, H3.out.2.2.1.below hB H3.out.2.2.1.lt, H3.out.2.2.2.1.trans (hB.mono hs3), (hB.block _ (Array.getElem?_eq_some_iff.1 H3.out.2.2.2.2.1).1).trans H3.out.2.2.2.2.1, H3.out.2.2.2.2.2⟩
    have c64 := cell_of_row W4 _ 0 _ _ (0, 0) H4.out.1.rx
    clear hB HC c6 hs3 hW3 H3 hbn
    have HC := Lib.hid (C.all H4.out.1.x.1 H4.out.1.x.2.1)
    gi_wp2_with fail
    refine ⟨trivial, ((callsIn_wide.2 HC.out).inRound (W9.heap.size + 1)).mono ?_⟩
    rintro e W5 ⟨gf2, lb2, rfl, hall, hB⟩
    obtain ⟨heg2, F2, St2, hS2, hF2, hkeep2, hStlt2, hStR2, hseq2⟩ := hall
    have hs4 : W2.heap.size ≤ W4.heap.size := H4.out.2.2.2.1.size
    have hx4 := (C.lt H4.out.1.x.1).2
    have hs5 := hB.size
    have H5 : Hid (OInv RA w gx b bx st (with2 Fy W9.heap.size) W5 Fx ∧ Row W5 be #[.int .i64 (kd : Int), .int .i64 (op : Int), .bool fin, .int .i64 (ln : Int), S tx] 29 ∧ Row W5 bn #[.int .i64 0] 3 ∧ Below W2.heap.size W2 W5 ∧ W5.heap[W9.heap.size + 1]? = some (.loop rl) ∧ W9.heap.size + 1 < W.heap.size) := Lib.hid ⟨H4.out.1.below C hB, H4.out.2.1.below hB H4.out.2.1.lt, H4.out.2.2.1.below hB H4.out.2.2.1.lt, H4.out.2.2.2.1.trans (hB.mono hs4), (hB.block _ (Array.getElem?_eq_some_iff.1 H4.out.2.2.2.2.1).1).trans H4.out.2.2.2.2.1, H4.out.2.2.2.2.2⟩
    -- where the inner range may turn things
    have hfresh : ∀ k, k < W4.heap.size → ¬ Fx k → ¬ with1 F2 W5.heap.size k := fun k hk hn e => by
      rcases e with e | e
      · rcases hF2 k e with h1 | h1
        · exact hn h1
        · omega
      · omega
    have hxb := HX2.out.2.2.2.1
    have hI0 : IInv w gx b bx be bn ⟨kd, op, fin, ln, tx⟩ 0 (with2 Fy W9.heap.size) W2 (with1 F2 W5.heap.size) W5 :=
      ⟨H5.out.2.1, H5.out.2.2.1, H5.out.1.rb, H5.out.1.rx, ⟨hfresh _ H4.out.2.1.lt (fun e => by have := hxb _ e; have := HX2.out.2.2.2.2.1; omega), hfresh _ H4.out.2.2.1.lt (fun e => by have := hxb _ e; have := HX2.out.2.2.2.2.2.1; have := HX2.out.2.2.2.2.2.2; omega), hfresh _ H4.out.1.rb.lt H4.out.1.nb.2, hfresh _ H4.out.1.rx.lt H4.out.1.nx.2⟩,
        ⟨H5.out.2.2.2.1.size, fun r hr => H5.out.2.2.2.1.block r (by have := HX2.out.2.2.1 r hr; have := HX2.out.2.2.2.2.2.2; omega)⟩, fun k hk => ⟨hfresh k (by have := HX2.out.2.2.1 k hk; have := HX2.out.2.2.2.2.2.2; omega) (fun e => H4.out.1.sep k e hk), by have := HX2.out.2.2.1 k hk; have := HX2.out.2.2.2.2.2.2; omega⟩, H5.out.1.x.2.1, fun k hk => by
          rcases hk with hk | hk
          · rcases hF2 k hk with h1 | h1
            · exact H4.out.1.x.2.2 k h1
            · have := H4.out.1.x.2.1.size; omega
          · have := H5.out.1.x.2.1.size; omega⟩
    have hF25 : ∀ k, F2 k → k < W5.heap.size := hStlt2 _ _ _ hS2
    have hl5 := H5.out.2.2.2.2.1
    have HS2 := Lib.hid (And.intro hStlt2 hStR2)
    clear heq HC hB c64 H4 hF2 hs4 hx4 hs5 hfresh hxb
    gi_wp2_with fail
    refine wpIn_rangeFunc_MN (l₀ := W9.heap.size + 1) (r₀ := rl) hl5 (gf := gf2) (lb := lb2) (L := allF st) (encs := encE) (St := St2) (F0 := F2) rfl heg2 (fun m => hseq2 m) hkeep2 hS2 hF25 (fun _ => rfl)
      (fun pre' Fc W => pre' = [] ∧ IInv w gx b bx be bn ⟨kd, op, fin, ln, tx⟩ 0 (with2 Fy W9.heap.size) W2 Fc W) (fun c pre' Fc W => c = .exit 2 ∧ pre' = [⟨kd, op, fin, ln, tx⟩] ∧ IInv w gx b bx be bn ⟨kd, op, fin, ln, tx⟩ 1 (with2 Fy W9.heap.size) W2 Fc W)
      (fun _ _ _ _ _ h hm => ⟨h.1, h.2.moves hm⟩) (fun _ _ _ _ _ _ h hm => ⟨h.1, h.2.1, h.2.2.moves hm⟩) ⟨rfl, hI0⟩ ?iround ?idone ?istop
    case idone =>
      rintro Fz Wz ⟨he, -⟩ _ _
      rw [HX2.out.1] at he
      cases he
    case istop =>
      rintro c pre' Fz Wz hp ⟨rfl, rfl, hI⟩ hSt hnz
      have cn : Wz.cell? ⟨bn, 0, none⟩ = some (.int .i64 1) := cell_of_row Wz _ 0 _ _ (0, 0) hI.rn
      have HI := Lib.hid (And.intro hI (And.intro hSt hnz))
      clear hI hSt hnz hS2 hseq2 hI0
      gi_wp2
      obtain ⟨hI, hSt, hnz⟩ := HI.out
      obtain ⟨F0, hRA, hF0⟩ := HS2.out.2 _ _ _ hSt
      refine ⟨hI.kept, F0, ⟨by rw [← HX2.out.2.1]; exact hRA, hI.bel, fun k hk => hI.foot k (.inl (hF0 k hk))⟩, fun k hk e => (hI.out k e).1 (.inl (hF0 k hk)), hI.rb, ⟨H5.out.1.nb.1, fun e => hI.no.2.2.1 (.inl (hF0 _ e))⟩, hI.rx, ⟨H5.out.1.nx.1, fun e => hI.no.2.2.2 (.inl (hF0 _ e))⟩, H5.out.1.foot⟩
    case iround =>
      intro l2 pre' x' Fz Wz K2 hl2 hpx2 hI2 hSt2 hnz hsz2 hK2
      obtain ⟨rfl, hI⟩ := hI2
      obtain rfl : x' = ⟨kd, op, fin, ln, tx⟩ := by
        obtain ⟨r, hr⟩ := hpx2
        rw [HX2.out.1] at hr
        exact (List.cons.inj hr).1
      subst hl2
      have hfz : ∀ k, with1 Fz W5.heap.size k → k < Wz.heap.size := fun k hk => by
        rcases hk with hk | hk
        · exact HS2.out.1 _ _ _ hSt2 k hk
        · omega
      have HI := Lib.hid (And.intro hI (And.intro hnz hfz))
      clear hI hSt2 hnz hpx2 hfz hsz2 hS2 hseq2 hI0
      unfold encE evV evC
      gi_wp2
      obtain ⟨Wb, hWb⟩ : ∃ X, X = Wz.alloc (.cells #[.int .i64 (kd : Int), .int .i64 (op : Int), .bool fin, .int .i64 (ln : Int), S tx] 29) := ⟨_, rfl⟩
      obtain ⟨bf, hbf⟩ : ∃ y, y = Wz.heap.size := ⟨_, rfl⟩
      rw [← hWb, ← hbf]
      have hBb : Below Wz.heap.size Wz Wb := by rw [hWb]; exact (Below.refl _ _).alloc (Nat.le_refl _) _
      have hrb : Row Wb bf #[.int .i64 (kd : Int), .int .i64 (op : Int), .bool fin, .int .i64 (ln : Int), S tx] 29 := by rw [hWb, hbf]; exact row_new _ _ _
      clear hWb
      have HBF := Lib.hid hbf
      clear hbf
      refine hK2 _ Wb ⟨hBb.size, fun r hr => hBb.block r (HI.out.2.2 r hr)⟩ ?_
      intro Wc hg2 _
      have hI3 := (HI.out.1.moves (Moves.of_below hBb)).moves (W' := Wc) (Fc' := with1 Fz W5.heap.size) ⟨hg2.os, hg2.tape, hg2.output, hg2.size, fun _ hk => .inl hk, fun k hk hn => hg2.block k hk fun e => hn (.inr (Option.some.inj e))⟩
      have hrf : Row Wc bf #[.int .i64 (kd : Int), .int .i64 (op : Int), .bool fin, .int .i64 (ln : Int), S tx] 29 := row_grown hrb hg2 (fun e => by have := Option.some.inj e; have := HI.out.2.2 W5.heap.size (.inr rfl); have := HBF.out; omega)
      have c0 : Wc.cell? ⟨bf, 0, none⟩ = some (.int .i64 (kd : Int)) := cell_of_row Wc _ 0 _ _ (0, 0) hrf
      have d0 : Wc.cell? ⟨be, 0, none⟩ = some (.int .i64 (kd : Int)) := cell_of_row Wc _ 0 _ _ (0, 0) hI3.re
      have c1 : Wc.cell? ⟨bf, 1, none⟩ = some (.int .i64 (op : Int)) := cell_of_row Wc _ 1 _ _ (0, 0) hrf
      have d1 : Wc.cell? ⟨be, 1, none⟩ = some (.int .i64 (op : Int)) := cell_of_row Wc _ 1 _ _ (0, 0) hI3.re
      have c2 : Wc.cell? ⟨bf, 2, none⟩ = some (.bool fin) := cell_of_row Wc _ 2 _ _ (0, 0) hrf
      have d2 : Wc.cell? ⟨be, 2, none⟩ = some (.bool fin) := cell_of_row Wc _ 2 _ _ (0, 0) hI3.re
      have c3 : Wc.cell? ⟨bf, 3, none⟩ = some (.int .i64 (ln : Int)) := cell_of_row Wc _ 3 _ _ (0, 0) hrf
      have d3 : Wc.cell? ⟨be, 3, none⟩ = some (.int .i64 (ln : Int)) := cell_of_row Wc _ 3 _ _ (0, 0) hI3.re
      have c4 : Wc.cell? ⟨bf, 4, none⟩ = some (S tx) := cell_of_row Wc _ 4 _ _ (0, 0) hrf
      have d4 : Wc.cell? ⟨be, 4, none⟩ = some (S tx) := cell_of_row Wc _ 4 _ _ (0, 0) hI3.re
      have cn : Wc.cell? ⟨bn, 0, none⟩ = some (.int .i64 0) := cell_of_row Wc _ 0 _ _ (0, 0) hI3.rn
      have zn := hI3.rn.frozen 0
      have eF : ∀ W, (Op.equalIn 10000 29 (.agg #[.int .i64 (kd : Int), .int .i64 (op : Int), .bool fin, .int .i64 (ln : Int), S tx]) (.agg #[.int .i64 (kd : Int), .int .i64 (op : Int), .bool fin, .int .i64 (ln : Int), S tx])).run Try.prog W = .ok true W := fun W => eqin_evF ⟨kd, op, fin, ln, tx⟩ W
      have gF : ∀ x y W, (eqGuard .neq 29 x y (.agg #[.int .i64 (kd : Int), .int .i64 (op : Int), .bool fin, .int .i64 (ln : Int), S tx]) (.agg #[.int .i64 (kd : Int), .int .i64 (op : Int), .bool fin, .int .i64 (ln : Int), S tx])).run Try.prog W = .ok () W := fun x y W => run_eqGuard_agg W .neq 29 x y _ _ (by kernel_rfl)
      have H3i := Lib.hid (And.intro hI3 (show ∀ k, with1 Fz W5.heap.size k → k < Wc.heap.size from fun k hk => by have := HI.out.2.2 k hk; have := hBb.size; have := hg2.size; omega))
      clear hBb hrb hg2 hI3 hrf hK2
      gi_wp2
      obtain ⟨hI3, hl3⟩ := H3i.out
      have hso := set_grown Wc bn 0 (.int .i64 1)
      have hne : ∀ k, some k = some bn → k = bn := fun k e => Option.some.inj e
      have hbe := HX2.out.2.2.2.2.1
      have hbn := HX2.out.2.2.2.2.2.1
      have hb2 := HX2.out.2.2.2.2.2.2
      have hbw : b < bn ∧ bx < bn := ⟨by have := hI3.out; have := H9.out.1.rb.lt; have := H5.out.2.2.2.2.2; omega, by have := H9.out.1.rx.lt; have := H5.out.2.2.2.2.2; omega⟩
      refine ⟨⟨hso.size, fun r hr => hso.block r (hl3 r hr) (fun e => hI3.no.2.1 (hne r e ▸ hr))⟩, rfl, rfl, row_grown hI3.re hso (fun e => by have := hne _ e; omega), hI3.rn.set 0 _, row_grown hI3.rb hso (fun e => by have := hne _ e; omega), row_grown hI3.rx hso (fun e => by have := hne _ e; omega), hI3.no,
        ⟨Nat.le_trans hI3.kept.size hso.size, fun r hr => (hso.block r (Nat.lt_of_lt_of_le (hI3.out r hr).2 hI3.kept.size) (fun e => by have := hne r e; have := (hI3.out r hr).2; omega)).trans (hI3.kept.same r hr)⟩, hI3.out, hI3.bel.grown hso hI3.bel.size (fun k e => by have := hne k e.symm; have := hI3.bel.size; have := HB9.out.size; have := H5.out.2.2.2.2.2; omega), hI3.foot⟩
end Go.Proofs.Ytlmolmmhkddpaaa
