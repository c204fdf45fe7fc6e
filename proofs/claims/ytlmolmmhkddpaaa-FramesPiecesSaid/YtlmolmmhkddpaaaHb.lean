/- The statements' told (stage 16) walked: it gathers what a reader tells, Pieces that follow one another as one. -/
import Derived.Test.YtlmolmmhkddpaaaHa
import Derived.Test.YtlmolmmhkddpaaaHm2
import Derived.Test.YtlmolmmhkddpaaaTi
import Derived.OwnWalkIn
namespace Go.Proofs.Ytlmolmmhkddpaaa
open Go.RowKit
attribute [local go_sem] store_one Oper.semAt_some S_match S_store

/-- Nothing but what lies on G has turned. -/
def Rests (G : Nat → Prop) (w W : World) : Prop := Moves G (fun _ => False) w W
theorem Rests.refl (G : Nat → Prop) (w : World) : Rests G w w := ⟨rfl, rfl, rfl, Nat.le_refl _, fun _ h => h.elim, fun _ _ _ => rfl⟩
theorem Rests.to {G F' : Nat → Prop} {w W : World} (h : Rests G w W) (hf : ∀ k, F' k → G k ∨ w.heap.size ≤ k) : Moves G F' w W := ⟨h.os, h.tape, h.output, h.size, hf, h.rest⟩
theorem Rests.step {G F F' : Nat → Prop} {w W W' : World} (h : Rests G w W) (hm : Moves F F' W W') (hf : ∀ k, F k → G k ∨ w.heap.size ≤ k) : Rests G w W' :=
  ⟨hm.os.trans h.os, hm.tape.trans h.tape, hm.output.trans h.output, Nat.le_trans h.size hm.size, fun _ hk => hk.elim, fun k hk hn => by
    rw [hm.rest k (Nat.lt_of_lt_of_le hk h.size) (fun e => by rcases hf k e with h1 | h1; exact hn h1; omega), h.rest k hk hn]⟩
theorem Rests.grown {G : Nat → Prop} {w W W' : World} {row : Option Nat} (h : Rests G w W) (hg : W.grownBy W' row) (hr : ∀ k, row = some k → G k ∨ w.heap.size ≤ k) : Rests G w W' :=
  ⟨hg.os.trans h.os, hg.tape.trans h.tape, hg.output.trans h.output, Nat.le_trans h.size hg.size, fun _ hk => hk.elim, fun k hk hn => by
    rw [hg.block k (Nat.lt_of_lt_of_le hk h.size) (fun e => by rcases hr k e.symm with h1 | h1; exact hn h1; omega), h.rest k hk hn]⟩
theorem Rests.below {G : Nat → Prop} {w w' : World} (h : Below w.heap.size w w') : Rests G w w' := ⟨h.os, h.tape, h.output, h.size, fun _ e => e.elim, fun k hk _ => h.block k hk⟩
theorem Rests.after {G : Nat → Prop} {w W W' : World} {n : Nat} (h : Rests G w W) (hb : Below n W W') (hn : w.heap.size ≤ n) : Rests G w W' :=
  ⟨hb.os.trans h.os, hb.tape.trans h.tape, hb.output.trans h.output, Nat.le_trans h.size hb.size, fun _ e => e.elim, fun k hk hk' => by
    rw [hb.block k (by omega), h.rest k hk hk']⟩
/-- What stands around told behind some events: the row in its box b. -/
structure ToldI (w : World) (G : Nat → Prop) (V0 : Value) (b base : Nat) (Fc : Nat → Prop) (W : World) (V : Value) (l : List Ev) : Prop where
  row : Row W b #[V] 25
  ev : EvR 29 base V l W
  own : ∀ k, V.ownBlock = some k → ¬ Fc k ∧ k ≠ b ∧ (V0.ownBlock = some k ∨ w.heap.size ≤ k)
  box : ¬ Fc b ∧ w.heap.size ≤ b
  foot : ∀ k, Fc k → G k ∨ w.heap.size ≤ k
  rests : Rests G w W
section
variable {w W W' : World} {G Fc Fc' : Nat → Prop} {V0 V : Value} {b base : Nat} {l : List Ev}
theorem ToldI.moves (h : ToldI w G V0 b base Fc W V l) (hm : Moves Fc Fc' W W') : ToldI w G V0 b base Fc' W' V l where
  row := h.row.moves hm h.box.1
  ev := h.ev.same fun j hj => hm.rest j (h.ev.lt hj).2 (h.own j hj).1
  own := fun k hk => ⟨fun e => by
    rcases hm.foot k e with h1 | h1
    · exact (h.own k hk).1 h1
    · have := (h.ev.lt hk).2; omega, (h.own k hk).2⟩
  box := ⟨fun e => by
    rcases hm.foot b e with h1 | h1
    · exact h.box.1 h1
    · have := h.row.lt; omega, h.box.2⟩
  foot := fun k hk => by
    rcases hm.foot k hk with h1 | h1
    · exact h.foot k h1
    · have := h.rests.size; exact .inr (by omega)
  rests := h.rests.step hm h.foot
theorem ToldI.grown (h : ToldI w G V0 b base Fc W V l) {row : Option Nat} (hg : W.grownBy W' row) (hr : ∀ k, row = some k → Fc k) : ToldI w G V0 b base Fc W' V l :=
  h.moves ⟨hg.os, hg.tape, hg.output, hg.size, fun _ hk => .inl hk, fun k hk hn => hg.block k hk fun e => hn (hr k e.symm)⟩
end
theorem textN_app (l m : List Ev) : textN (l ++ m) = textN l + textN m := by unfold textN; rw [List.map_append, List.sum_append]
theorem merge_size (l : List Ev) (e : Ev) : (mergeE l e).length ≤ l.length + 1 ∧ textN (mergeE l e) = textN l + e.text.length := by
  rcases List.eq_nil_or_concat l with rfl | ⟨l, p, rfl⟩
  · exact ⟨Nat.le_refl _, by simp [mergeE, textN]⟩
  · rw [List.concat_eq_append, merge_snoc]
    split
    · exact ⟨by simp, by simp [textN]; omega⟩
    · exact ⟨by simp, by simp [textN]; omega⟩
theorem fold_size : ∀ (pre l : List Ev), (pre.foldl mergeE l).length ≤ l.length + pre.length ∧ textN (pre.foldl mergeE l) = textN l + textN pre
  | [], l => ⟨Nat.le_refl _, rfl⟩
  | e :: pre, l => by
    obtain ⟨h1, h2⟩ := fold_size pre (mergeE l e)
    obtain ⟨h3, h4⟩ := merge_size l e
    rw [List.foldl_cons, List.length_cons]
    exact ⟨by omega, by rw [h2, h4]; unfold textN; rw [List.map_cons, List.sum_cons]; omega⟩
theorem infoEv : ∃ i, Try.prog.info? 29 = some i ∧ i.zero = some (.agg #[.int .i64 0, .int .i64 0, .bool false, .int .i64 0, .string ⟨#[]⟩]) ∧ i.size = 5 ∧ i.bytes = 48 := info_ev (by kernel_rfl)
set_option maxRecDepth 100000 in
set_option maxHeartbeats 4000000 in
theorem told16_any {w0 w : World} {zr : Array Value} {RA : World → (Nat → Prop) → Nat → Fst → Prop} (C : FramesI w0 zr RA) {F : Nat → Prop} {g : Nat} {st : Fst} {V : Value} {l : List Ev} {base : Nat}
    (hb0 : Below w0.heap.size w0 w) (hR : RA w F g st) (hF : ∀ k, F k → w0.heap.size ≤ k) (hV : EvR 29 base V l w) (hbase : w0.heap.size ≤ base ∧ base ≤ w.heap.size) (hsep : ∀ k, V.ownBlock = some k → ¬ F k)
    (hl : l.length + (allF st).length ≤ 1000000 ∧ textN l + textN (allF st) ≤ 1000000) :
    Calls Try.prog 12 #[.pointer (some ⟨g, 0, none⟩), V] w fun e w' => ∃ V' F', e = .returned V' ∧ EvR 29 base V' (toldF l st) w' ∧ RA w' F' g (endF st) ∧ (∀ k, V'.ownBlock = some k → ¬ F' k ∧ (V.ownBlock = some k ∨ w.heap.size ≤ k)) ∧
      Moves (fun k => F k ∨ V.ownBlock = some k) F' w w' := by
  obtain ⟨a0, c0, hv, -⟩ := hV.form
  obtain ⟨N0, hN0⟩ : ∃ N, N = l.length := ⟨_, rfl⟩
  rw [← hN0] at hv
  subst hv
  clear hN0
  have HH := Lib.hid (And.intro hb0 (And.intro hR (And.intro hF (And.intro hV (And.intro hbase (And.intro hsep hl))))))
  obtain ⟨W1, hW1⟩ : ∃ W, W = w.alloc (.cells #[(Value.slice a0 N0 c0)] 25) := ⟨_, rfl⟩
  have hB1 : Below w.heap.size w W1 := by rw [hW1]; exact (Below.refl _ w).alloc (Nat.le_refl _) _
  have hr1 : Row W1 w.heap.size #[(Value.slice a0 N0 c0)] 25 := by rw [hW1]; exact row_new _ _ _
  have hR1 : RA W1 F g st := C.below hR hB1
  have HA1 := Lib.hid (C.all hR1 (hb0.trans (hB1.mono hb0.size)))
  have H1 := Lib.hid (And.intro hB1 (And.intro hr1 hR1))
  clear hb0 hR hF hV hbase hsep hl hB1 hr1 hR1
  refine (callsIn_wide (n := 5)).1 (callsIn_of_wp_marks Try.func12 rfl trivial ?_ rfl)
  simp only [Try.ntmps12, List.size_toArray, List.length_cons, List.length_nil, Nat.reduceAdd, Nat.reduceSub, Array.replicate_succ, Array.replicate_zero, List.push_toArray, List.append_toArray, List.nil_append, List.cons_append]
  rw [wpIn_wide]
  have heq : ∀ (gf : Nat) (lb : Array Value) (w : World), (binOp .eql 41 (.func (.func gf) #[] lb) .nilFunc).run Try.prog w = .ok (.bool false) w := fun gf lb => eql_nilFunc Try.underlying41 (.func gf) #[] lb
  go_wp2_with fail
  rw [hW1] at HA1
  refine HA1.out.mono ?_
  rintro e W2 ⟨gf1, lb1, rfl, -, hB2⟩
  rw [← hW1] at hB2 HA1
  have heq := heq gf1 lb1
  have hr2 := H1.out.2.1.below hB2 H1.out.2.1.lt
  have hR2 : RA W2 F g st := C.below H1.out.2.2 hB2
  have hBW2 := H1.out.1.trans (hB2.mono H1.out.1.size)
  have HA2 := Lib.hid (C.all hR2 (HH.out.1.trans (hBW2.mono HH.out.1.size)))
  have H2 := Lib.hid (And.intro hBW2 (And.intro hr2 (And.intro hR2 (Nat.lt_of_lt_of_le H1.out.2.1.lt hB2.size))))
  clear hr2 hR2 hBW2 hB2 H1 HA1 hW1
  go_wp2_with fail
  clear heq
  refine HA2.out.mono ?_
  rintro e W3 ⟨gf, lb, rfl, hall, hB3⟩
  obtain ⟨heg, F1, St, hS0, hF1, hkeep, hStlt, hStR, hseq⟩ := hall
  have hr3 := H2.out.2.1.below hB3 H2.out.2.1.lt
  have hBW3 := H2.out.1.trans (hB3.mono H2.out.1.size)
  have H3 := Lib.hid (And.intro hBW3 (And.intro hr3 (And.intro H2.out.2.2.2 hB3.size)))
  clear hr3 hBW3 hB3 HA2
  go_wp2_with fail
  have hF13 : ∀ k, F1 k → k < W3.heap.size := hStlt _ _ _ hS0
  have h0 : ∃ V', ToldI w (fun k => F k ∨ (Value.slice a0 N0 c0).ownBlock = some k) (Value.slice a0 N0 c0) w.heap.size base (with2 F1 W3.heap.size) W3 V' ([].foldl mergeE l) := by
    obtain ⟨hB, hr, hl2, hl3⟩ := H3.out
    obtain ⟨-, hR, hF, hV, hbase, hsep, -⟩ := HH.out
    have hlt := (C.lt hR).2
    refine ⟨_, hr, hV.below hB, fun k hk => ⟨fun e => ?_, fun e => ?_, .inl hk⟩, ⟨fun e => ?_, Nat.le_refl _⟩, fun k hk => ?_, .below hB⟩
    · have := (hV.lt hk).2
      rcases e with e | e
      · rcases hF1 k e with h1 | h1
        · exact hsep k hk h1
        · omega
      · omega
    · have := (hV.lt hk).2; omega
    · rcases e with e | e
      · rcases hF1 _ e with h1 | h1
        · have := hlt _ h1; omega
        · omega
      · omega
    · rcases hk with hk | hk
      · rcases hF1 k hk with h1 | h1
        · exact .inl (.inl h1)
        · exact .inr (by omega)
      · exact .inr (by omega)
  have HS := Lib.hid (And.intro hkeep (And.intro hStlt hStR))
  have HZ := Lib.hid (And.intro H3.out.2.2.1 H3.out.2.2.2)
  rw [← wpIn_wide (n := 5)]
  refine wpIn_rangeFunc_M (gf := gf) (lb := lb) (L := allF st) (encs := encE) (St := St) (F0 := F1) rfl heg (fun m => hseq m) hkeep hS0 hF13 (fun _ => rfl)
    (fun pre Fc W => ∃ V', ToldI w (fun k => F k ∨ (Value.slice a0 N0 c0).ownBlock = some k) (Value.slice a0 N0 c0) w.heap.size base Fc W V' (pre.foldl mergeE l)) (fun _ _ _ _ => False)
    (fun pre F F' W W' h hm => h.imp fun (Value.slice a0 N0 c0) h => h.moves hm) (fun _ _ _ _ _ _ h _ => h) h0 ?round ?done ?stop
  case stop => exact fun c pre F W _ h => h.elim
  case done =>
    rintro Fx W ⟨V', h⟩ hSt hnB hD
    have c3 : W.cell? ⟨w.heap.size, 0, none⟩ = some V' := cell_of_row W _ 0 _ _ (0, 0) h.row
    have H := Lib.hid (And.intro h (And.intro hSt (And.intro hnB hD)))
    clear h hSt hnB hD
    rw [show (allF st).foldl mergeE l = toldF l st from rfl] at H
    gi_wp2
    go_wp2
    obtain ⟨h, hSt, hnB, hD⟩ := H.out
    obtain ⟨F0, hRA, hF0⟩ := HS.out.2.2 _ _ _ hSt
    rw [stepS_end] at hRA
    have hg := grownBy_putObj' W W3.heap.size (.deferred none)
    have hz := HZ.out
    have hvb : ∀ j, V'.ownBlock = some j → j ≠ W3.heap.size := fun j hj e => (h.own j hj).1 (.inr (.inl e))
    refine ⟨by simp, .inl ⟨_, _, rfl, run_takeDeferred hD, ⟨V', by simp [results, Try.f12, go_sem], V', F0, rfl, h.ev.same fun j hj => hg.block j (h.ev.lt hj).2 (fun e => hvb j hj (Option.some.inj e)), C.same hRA hg.size fun k hk => hg.block k ((C.lt hRA).2 k hk) (fun e => hnB.1 (Option.some.inj e ▸ hF0 k hk)), fun k hk => ⟨fun e => (h.own k hk).1 (.inl (hF0 k e)), (h.own k hk).2.2⟩, ?_⟩⟩⟩
    exact (h.rests.grown hg fun k e => .inr (by have := Option.some.inj e; omega)).to fun k hk => h.foot k (.inl (hF0 k hk))
  case round =>
    intro ll pre x Fx W KK _ hpx hI hSt hnB hsz hK
    obtain ⟨V', hI⟩ := hI
    obtain ⟨a, c, hv, hrow⟩ := hI.ev.form
    subst hv
    obtain ⟨lc, hlc⟩ : ∃ x, x = pre.foldl mergeE l := ⟨_, rfl⟩
    have hnx : (pre ++ [x]).foldl mergeE l = mergeE lc x := by rw [List.foldl_append, hlc]; rfl
    rw [← hlc] at hI hrow
    have hlen : lc.length + 1 ≤ 1000000 ∧ textN lc + x.text.length ≤ 1000000 := by
      obtain ⟨rest, hr⟩ := hpx
      have hl := HH.out.2.2.2.2.2.2
      obtain ⟨h1, h2⟩ := fold_size pre l
      rw [← hr] at hl
      rw [textN_app, textN_app] at hl
      have : textN [x] = x.text.length := by simp [textN]
      simp only [List.length_append, List.length_singleton] at hl
      rw [← hlc] at h1 h2
      omega
    obtain ⟨kd, op, fin, ln, tx⟩ := x
    obtain ⟨N, hN⟩ : ∃ N, N = lc.length := ⟨_, rfl⟩
    rw [← hN] at hI hlen
    have HT : Hid (textN lc + tx.length ≤ 1000000) := Lib.hid hlen.2
    have hlen := hlen.1
    have HX := Lib.hid (And.intro hI (And.intro hSt (And.intro hnB (And.intro hsz (And.intro hlen hN)))))
    have HNX := Lib.hid hnx
    clear hI hSt hnB hsz hlen hpx hnx hlc hN
    unfold encE evV evC
    gi_wp2
    obtain ⟨Wa, hWa⟩ : ∃ X, X = W.alloc (.cells #[.int .i64 kd, .int .i64 op, .bool fin, .int .i64 ln, S tx] 29) := ⟨_, rfl⟩
    rw [← hWa]
    have hBa : Below W.heap.size W Wa := by rw [hWa]; exact (Below.refl _ _).alloc (Nat.le_refl _) _
    have hra : Row Wa W.heap.size #[.int .i64 kd, .int .i64 op, .bool fin, .int .i64 ln, S tx] 29 := by rw [hWa]; exact row_new _ _ _
    clear hWa
    obtain ⟨hI, hSt, hnB, hsz, hlen, hN⟩ := HX.out
    have hfl : ∀ k, with2 Fx W3.heap.size k → k < W.heap.size := fun k hk => by
      rcases hk with hk | hk
      · exact HS.out.2.1 _ _ _ hSt k hk
      · omega
    refine hK _ Wa ⟨hBa.size, fun r hr => hBa.block r (hfl r hr)⟩ ?_
    intro W2 hg _
    have hI2 := (hI.moves (Moves.of_below hBa)).grown hg fun k e => .inr (.inr (Option.some.inj e).symm)
    have hra2 : Row W2 W.heap.size _ 29 := row_grown hra hg (fun e => by have := Option.some.inj e; omega)
    have hs2 : W.heap.size + 1 ≤ W2.heap.size := hra2.lt
    have hI2r := hI2.row
    have d0 : W2.cell? ⟨W.heap.size, 0, none⟩ = some (.int .i64 kd) := cell_of_row W2 _ 0 _ _ (0, 0) hra2
    have d4 : W2.cell? ⟨W.heap.size, 4, none⟩ = some (S tx) := cell_of_row W2 _ 4 _ _ (0, 0) hra2
    have d1 : W2.cell? ⟨W.heap.size, 1, none⟩ = some (.int .i64 op) := cell_of_row W2 _ 1 _ _ (0, 0) hra2
    have d2 : W2.cell? ⟨W.heap.size, 2, none⟩ = some (.bool fin) := cell_of_row W2 _ 2 _ _ (0, 0) hra2
    have d3 : W2.cell? ⟨W.heap.size, 3, none⟩ = some (.int .i64 ln) := cell_of_row W2 _ 3 _ _ (0, 0) hra2
    have c3 : W2.cell? ⟨w.heap.size, 0, none⟩ = some (.slice a N c) := cell_of_row W2 _ 0 _ _ (0, 0) hI2r
    have z3 := hI2r.frozen 0
    have HM := Lib.hid (And.intro hI2 (And.intro hra2 (And.intro (show ∀ k, with2 Fx W3.heap.size k → k < W2.heap.size from fun k hk => by have := hfl k hk; omega) hs2)))
    clear hI hSt hnB hsz hfl hra hBa hI2 hI2r hra2 hg hs2 hK hrow
    -- the append
    have HAP : Hid (mergeE lc ⟨kd, op, fin, ln, tx⟩ = lc ++ [⟨kd, op, fin, ln, tx⟩] → ∃ a' c' W4, (Builtin.append_ #[25, 25] 25 #[.slice a N c, .slice (some ⟨W2.heap.size, 0, none⟩) 1 1]).run Try.prog (W2.alloc (.cells #[.int .i64 kd, .int .i64 op, .bool fin, .int .i64 ln, S tx] 29)) = .ok (.slice a' (N + 1) c') W4 ∧
        W4.cell? ⟨w.heap.size, 0, none⟩ = some (.slice a N c) ∧ W4.frozen? ⟨w.heap.size, 0, none⟩ = false ∧ Kept (with2 Fx W3.heap.size) W2 (W4.setCell ⟨w.heap.size, 0, none⟩ (.slice a' (N + 1) c')) ∧
        ToldI w (fun k => F k ∨ (Value.slice a0 N0 c0).ownBlock = some k) (.slice a0 N0 c0) w.heap.size base (with2 Fx W3.heap.size) (W4.setCell ⟨w.heap.size, 0, none⟩ (.slice a' (N + 1) c')) (.slice a' (N + 1) c') (mergeE lc ⟨kd, op, fin, ln, tx⟩)) := Lib.hid (fun hm => by
      obtain ⟨hI, hra, hfl, hs⟩ := HM.out
      have hbs : base ≤ W2.heap.size := Nat.le_trans HH.out.2.2.2.2.1.2 hI.rests.size
      obtain ⟨a', c', W4, hrun, hev, hgr, hblk⟩ := run_addE Try.underlying25 infoEv hI.ev (by omega) hbs ⟨kd, op, fin, ln, tx⟩ 25
      rw [← hN] at hrun hev hblk
      have hal := World.grownBy_alloc W2 (.cells (evC ⟨kd, op, fin, ln, tx⟩) 29) none
      have hrb := row_grown (row_grown hI.row hal (fun e => by cases e)) hgr (fun e => (hI.own _ e.symm).2.1 rfl)
      have hbl := hI.row.lt
      have hso := set_grown W4 w.heap.size 0 (.slice a' (N + 1) c')
      have hown : ∀ k, (Value.slice a' (N + 1) c').ownBlock = some k → ¬ with2 Fx W3.heap.size k ∧ k ≠ w.heap.size ∧ ((Value.slice a0 N0 c0).ownBlock = some k ∨ w.heap.size ≤ k) := fun k hk => by
        rcases hblk with h1 | ⟨g1, h1, h2⟩
        · exact hI.own k (h1 ▸ hk)
        · have : k = g1 := Option.some.inj (hk.symm.trans h1)
          exact ⟨fun e => by have := hfl k e; omega, by omega, .inr (by omega)⟩
      refine ⟨a', c', W4, hrun, cell_of_row W4 _ 0 _ _ (0, 0) hrb, hrb.frozen 0, ⟨?_, fun r hr => ?_⟩, ?_⟩
      · have := hal.size; have := hgr.size; have := hso.size; omega
      · have hrl := hfl r hr
        rw [hso.block r (by have := hal.size; have := hgr.size; omega) (fun e => by have := Option.some.inj e; subst this; exact hI.box.1 hr), hgr.block r (by have := hal.size; omega) (fun e => (hI.own r e.symm).1 hr), hal.block r hrl (fun e => by cases e)]
      · rw [hm]
        exact ⟨hrb.set 0 _, hev.same fun j hj => hso.block j (hev.lt hj).2 (fun e => (hown j hj).2.1 (Option.some.inj e)), hown, hI.box, hI.foot, ((hI.rests.grown hal (fun _ e => by cases e)).grown hgr (fun k e => (hI.own k e).2.2.imp .inr id)).grown hso (fun k e => .inr (by have := Option.some.inj e; omega))⟩)
    have HLEN := Lib.hid (HM.out.1.ev.len Try.underlying25 3)
    have hlS : ∀ W, (Builtin.len_ #[25] 3 #[.slice a N c]).run Try.prog W = .ok (.int .i64 (N : Int)) W := by rw [hN]; rw [hN] at HLEN; exact HLEN.out
    have HN := Lib.hid hN
    clear HLEN hN
    by_cases hk : kd = 2
    · have q1 : ((kd : Int) == 2) = true := by rw [beq_iff_eq]; omega
      rcases List.eq_nil_or_concat lc with hlc | ⟨l2, p, hlc⟩
      · have hN0 : N = 0 := by rw [HN.out, hlc]; rfl
        have g1 : decide ((N : Int) > 0) = false := decide_eq_false (by omega)
        have g2 : decide ((0 : Int) < (N : Int)) = false := decide_eq_false (by omega)
        have g3 : decide (0 < N) = false := decide_eq_false (by omega)
        obtain ⟨a', c', W4, hrun, hcs, hfz, hkp, hto⟩ := HAP.out (by rw [hlc]; rfl)
        have H4 := Lib.hid (And.intro hkp hto)
        clear hkp hto HAP hk hN0 hlc
        gi_wp2_with (gi_at_builtin; refine wpListIn_append_run rfl (.tmp 45) (.tmp 47) 25 rfl (.slice a N c) (.slice (some ⟨W2.heap.size, 0, none⟩) 1 1) rfl rfl (.slice a' (N + 1) c') W4 hrun ?_)
        exact ⟨H4.out.1, by dsimp only; rw [HNX.out]; exact ⟨_, H4.out.2⟩⟩
      · rw [List.concat_eq_append] at hlc
        have hNM : N = l2.length + 1 := by rw [HN.out, hlc]; simp
        obtain ⟨a1, c1, hv1, hrow⟩ := HM.out.1.ev.form
        obtain ⟨g1, hag, -, hgl, hcell⟩ := hrow (by rw [hlc]; simp)
        obtain ⟨rfl, rfl⟩ : a = a1 ∧ c = c1 := by injection hv1 with e1 _ e3; exact ⟨e1, e3⟩
        subst hag
        have hlast : lc[l2.length]? = some p := by rw [hlc]; simp
        obtain ⟨M, hM⟩ : ∃ M, M = l2.length := ⟨_, rfl⟩
        rw [← hM] at hlast hNM
        have hix := fun W => indexEv Try.underlying25 (fun w => Try.sizeOf29 w) g1 N c M (by omega) W
        have y0 := (hcell M p 0 (.int .i64 p.kind) hlast rfl).1
        have y4 := (hcell M p 4 (S p.text) hlast rfl).1
        have z4 := (hcell M p 4 (S p.text) hlast rfl).2
        rw [Nat.add_zero] at y0
        obtain ⟨KB, hKB⟩ : ∃ x, x = M * 5 := ⟨_, rfl⟩
        rw [← hKB] at hix y0 y4 z4
        have g1' : decide ((N : Int) > 0) = true := decide_eq_true (by omega)
        have g2 : decide ((0 : Int) < (N : Int)) = true := decide_eq_true (by omega)
        have g3 : decide (0 < N) = true := decide_eq_true (by omega)
        have hw1 : IntKind.i64.wrap ((N : Int) - 1) = (M : Int) := by rw [IntKind.wrap_i64]; omega
        have hw2 : (N : Int) - 1 = (M : Int) := by omega
        have HMN := Lib.hid (And.intro hM (And.intro hNM hKB))
        have HLC := Lib.hid hlc
        clear hM hNM hKB hcell hlast hrow hv1 
        by_cases hpk : p.kind = 2
        · have q2 : ((p.kind : Int) == 2) = true := by rw [beq_iff_eq]; omega
          obtain ⟨pk, po, pf, pl, pt⟩ := p
          have hadd : binOp .add 9 (S pt) (S tx) = pure (S (pt ++ tx)) := S_add 9 pt tx (by
            have h := HT.out
            rw [hlc, textN_app] at h
            have h2 : textN [⟨pk, po, pf, pl, pt⟩] = pt.length := by simp [textN]
            omega)
          have hmg : mergeE lc ⟨kd, op, fin, ln, tx⟩ = l2 ++ [⟨pk, po, pf, pl, pt ++ tx⟩] := by rw [hlc, merge_snoc, if_pos ⟨hk, hpk⟩]
          have HF : Hid (Kept (with2 Fx W3.heap.size) W2 (W2.drew.setCell ⟨g1, KB + 4, none⟩ (S (pt ++ tx))) ∧
              ToldI w (fun k => F k ∨ (Value.slice a0 N0 c0).ownBlock = some k) (.slice a0 N0 c0) w.heap.size base (with2 Fx W3.heap.size) (W2.drew.setCell ⟨g1, KB + 4, none⟩ (S (pt ++ tx))) (.slice (some ⟨g1, 0, none⟩) N c) (mergeE lc ⟨kd, op, fin, ln, tx⟩)) := Lib.hid (by
            obtain ⟨hI, hra, hfl, hs⟩ := HM.out
            have hso := set_grown W2.drew g1 (KB + 4) (S (pt ++ tx))
            have hgo := hI.own g1 rfl
            rw [hmg]
            refine ⟨⟨hso.size, fun r hr => hso.block r (hfl r hr) (fun e => hgo.1 (Option.some.inj e ▸ hr))⟩, row_grown (show Row W2.drew _ _ _ from hI.row) hso (fun e => hgo.2.1 (Option.some.inj e).symm), ?_, hI.own, hI.box, hI.foot, ?_⟩
            · have he : EvR 29 base (.slice (some ⟨g1, 0, none⟩) (l2.length + 1) c) (l2 ++ [⟨pk, po, pf, pl, pt⟩]) W2.drew := by
                rw [← HMN.out.1, ← HMN.out.2.1, ← hlc]; exact hI.ev.same fun _ _ => rfl
              have h := he.text (pt ++ tx)
              rw [← HMN.out.1, ← HMN.out.2.1, ← HMN.out.2.2] at h
              exact h
            · exact (show Rests _ w W2.drew from ⟨hI.rests.os, hI.rests.tape, hI.rests.output, hI.rests.size, hI.rests.foot, hI.rests.rest⟩).grown hso fun k e => hgo.2.2.imp (fun h => .inr (Option.some.inj e ▸ h)) (fun h => Option.some.inj e ▸ h))
          have hmx : Try.prog.follows .mixedOrders = true := by kernel_rfl
          clear hmg HAP hk hpk hlc hgl
          have hw3 : IntKind.i64.wrap (M : Int) = (M : Int) := by
            have := HMN.out.2.1
            have := HX.out.2.2.2.2.1
            rw [IntKind.wrap_i64]; omega
          have e3 : W2.drew.cell? ⟨w.heap.size, 0, none⟩ = some (.slice (some ⟨g1, 0, none⟩) N c) := c3
          have e4 : W2.drew.cell? ⟨g1, KB + 4, none⟩ = some (S pt) := y4
          have e5 : W2.drew.cell? ⟨W.heap.size, 4, none⟩ = some (S tx) := d4
          have f4 : W2.drew.frozen? ⟨g1, KB + 4, none⟩ = false := z4
          gi_wp2_with fail
          refine wpIn_region_still_tail 14 hmx (by kernel_rfl) (by kernel_rfl) ?_
          simp only [List.take_succ_cons, List.take_zero, List.drop_succ_cons, List.drop_zero]
          repeat still_step
          try refine wpStill_nil ?_
          gi_wp2
          exact ⟨HF.out.1, by dsimp only; rw [HNX.out]; exact ⟨_, HF.out.2⟩⟩
        · have q2 : ((p.kind : Int) == 2) = false := by rw [beq_eq_false_iff_ne]; omega
          obtain ⟨a', c', W4, hrun, hcs, hfz, hkp, hto⟩ := HAP.out (by rw [hlc, merge_snoc, if_neg (fun e => hpk e.2)])
          have H4 := Lib.hid (And.intro hkp hto)
          clear hkp hto HAP hk hpk hlc hgl
          gi_wp2_with (gi_at_builtin; refine wpListIn_append_run rfl (.tmp 45) (.tmp 47) 25 rfl (.slice (some ⟨g1, 0, none⟩) N c) (.slice (some ⟨W2.heap.size, 0, none⟩) 1 1) rfl rfl (.slice a' (N + 1) c') W4 hrun ?_)
          exact ⟨H4.out.1, by dsimp only; rw [HNX.out]; exact ⟨_, H4.out.2⟩⟩
    · have q1 : ((kd : Int) == 2) = false := by rw [beq_eq_false_iff_ne]; omega
      obtain ⟨a', c', W4, hrun, hcs, hfz, hkp, hto⟩ := HAP.out (merge_not _ _ hk)
      have H4 := Lib.hid (And.intro hkp hto)
      clear hkp hto HAP hk
      gi_wp2_with (gi_at_builtin; refine wpListIn_append_run rfl (.tmp 45) (.tmp 47) 25 rfl (.slice a N c) (.slice (some ⟨W2.heap.size, 0, none⟩) 1 1) rfl rfl (.slice a' (N + 1) c') W4 hrun ?_)
      exact ⟨H4.out.1, by dsimp only; rw [HNX.out]; exact ⟨_, H4.out.2⟩⟩
end Go.Proofs.Ytlmolmmhkddpaaa
