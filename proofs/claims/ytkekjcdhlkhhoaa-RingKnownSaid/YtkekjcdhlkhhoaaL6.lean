/- does: the walk over all, in which things are pushed and popped. -/
import Derived.Test.YtkekjcdhlkhhoaaL5
import Derived.RangeFuncNested
import Derived.RangeFuncBound
import Derived.RangeFuncCalls
import Derived.RangeFuncLeaves
import Derived.Shelf.Abstract
import Derived.Shelf.RegionOpen
namespace Go.Proofs.Ytkekjcdhlkhhoaa
open Go.RowKit Go.Shelf
attribute [local go_sem] store_one S_match S_store Oper.semAt_some

theorem placed_length (xs : List (List UInt8)) : (placed xs).length = xs.length := by simp [placed]
theorem placed_at {xs : List (List UInt8)} {pre : List (Nat × List UInt8)} {x : Nat × List UInt8} (h : pre ++ [x] <+: placed xs) : ∃ y, x = (pre.length, y) ∧ xs[pre.length]? = some y := by
  obtain ⟨t, ht⟩ := h
  have h1 : (placed xs)[pre.length]? = some x := by rw [← ht, List.append_assoc, List.getElem?_append_right (Nat.le_refl _), Nat.sub_self]; rfl
  unfold placed at h1
  rw [List.getElem?_map] at h1
  cases hr : (List.range xs.length)[pre.length]? with
  | none => rw [hr] at h1; cases h1
  | some i =>
    rw [hr] at h1
    have hi : i = pre.length ∧ pre.length < xs.length := by
      obtain ⟨hlt, he⟩ := List.getElem?_eq_some_iff.1 hr
      rw [List.getElem_range] at he
      exact ⟨he.symm, by simpa using hlt⟩
    obtain ⟨rfl, hlt⟩ := hi
    refine ⟨xs.getD pre.length [], (Option.some.inj h1).symm, ?_⟩
    rw [List.getD_eq_getElem?_getD, List.getElem?_eq_getElem hlt]; rfl

section
variable {RA : World → (Nat → Prop) → Nat → Nat → List (List UInt8) → Prop}
/-- What holds in the walk: n rounds have been; a is in the ring, b in the document's. -/
structure Parts (RA : World → (Nat → Prop) → Nat → Nat → List (List UInt8) → Prop) (w0 : World) (g h m : Nat) (N : Int) (u : List UInt8) (F0 G0 : Nat → Prop) (xs : List (List UInt8)) (v0 : Value) (k0 o0 B K : Nat) (n : Nat) (F G : Nat → Prop) (vv : Value) (a b : List (List UInt8)) (W : World) : Prop where
  at_ : At RA w0 g h m 5 N u (.bool false) F0 G0 F G a b W
  off : ∀ k, F k ∨ G k → k < w0.heap.size ∨ B + K ≤ k
  r4 : Row W (w0.heap.size + 1 + 1 + 1 + 1) #[v0] 46
  r5 : Row W (w0.heap.size + 1 + 1 + 1 + 1 + 1) #[.int .i64 (n : Int)] 3
  rh : Row W h #[.int .i64 (m : Int), vv] 48
  sp : SpareOut 1 vv k0 o0 xs.length
  cs : ∀ i y, xs[i]? = some y → W.cell? ⟨k0, o0 + i, none⟩ = some (S y)
  nf : ¬ F k0
section
variable {w0 W W' : World} {g h m k0 o0 B K n : Nat} {N : Int} {u : List UInt8} {F0 G0 F G F' G' : Nat → Prop} {xs a b a' b' : List (List UInt8)} {v0 vv : Value}
theorem Parts.left (R : RingS RA) (P : Parts RA w0 g h m N u F0 G0 xs v0 k0 o0 B K n F G vv a b W) (h1 : RA W' F' g m a') (hm : Moves F F' W W') (hB : w0.heap.size + 6 ≤ B) (hW : B + K ≤ W.heap.size) (hk : k0 < w0.heap.size) : Parts RA w0 g h m N u F0 G0 xs v0 k0 o0 B K n F' G vv a' b W' := by
  have hoff := P.off
  refine ⟨P.at_.left R h1 hm, fun k hk' => ?_, P.r4.moves hm ?_, P.r5.moves hm ?_, P.rh.moves hm ?_, P.sp, fun i y hy => ?_, fun hf => ?_⟩
  · rcases hk' with hk' | hk'
    · rcases hm.foot k hk' with h2 | h2
      · exact hoff k (.inl h2)
      · exact .inr (by omega)
    · exact hoff k (.inr hk')
  · intro hf; have := hoff _ (.inl hf); omega
  · intro hf; have := hoff _ (.inl hf); omega
  · intro hf; exact P.at_.two.apart h hf P.at_.two.l.lt.1
  · have h2 := P.cs i y hy
    rw [World.cell?_of_block (w := W) (hm.rest k0 (World.block_lt_of_cell? W _ h2) P.nf)]
    exact h2
  · rcases hm.foot k0 hf with h2 | h2
    · exact P.nf h2
    · omega
theorem Parts.right (R : RingS RA) (P : Parts RA w0 g h m N u F0 G0 xs v0 k0 o0 B K n F G vv a b W) (h1 : ListF W' G' h m b') (hm : Moves G G' W W') (hc : KeepsCells W W' h) (hB : w0.heap.size + 6 ≤ B) (hW : B + K ≤ W.heap.size) (hk : k0 < w0.heap.size) (hkh : k0 ≠ h) :
    ∃ vv', Parts RA w0 g h m N u F0 G0 xs v0 k0 o0 B K n F G' vv' a b' W' := by
  have hoff := P.off
  obtain ⟨v', ⟨m', hr'⟩, hkeep⟩ := hc _ _ P.rh
  have hmm : m' = .int .i64 (m : Int) := by
    obtain ⟨v2, hr2, _⟩ := h1
    exact (row_inj hr' hr2).1
  subst hmm
  have hk2 := hkeep k0 o0 xs.length (by omega) hkh P.sp
  refine ⟨v', P.at_.right R h1 hm, fun k hk' => ?_, P.r4.moves hm ?_, P.r5.moves hm ?_, hr', hk2.2, fun i y hy => ?_, P.nf⟩
  · rcases hk' with hk' | hk'
    · exact hoff k (.inl hk')
    · rcases hm.foot k hk' with h2 | h2
      · exact hoff k (.inr h2)
      · exact .inr (by omega)
  · intro hf; have := hoff _ (.inr hf); omega
  · intro hf; have := hoff _ (.inr hf); omega
  · rw [hk2.1 (o0 + i) (by omega) (by have := (List.getElem?_eq_some_iff.1 hy).1; omega)]
    exact P.cs i y hy
theorem kept_moves {bs : Nat → Prop} (hm : Moves F F' W W') (hb : ∀ r, bs r → r < W.heap.size ∧ ¬ F r) : Kept bs W W' := ⟨hm.size, fun r hr => hm.rest r (hb r hr).1 (hb r hr).2⟩
theorem Parts.apart {bs : Nat → Prop} (P : Parts RA w0 g h m N u F0 G0 xs v0 k0 o0 B K n F G vv a b W) (hW : B + K ≤ W.heap.size) (hb : ∀ r, bs r → w0.heap.size ≤ r ∧ r < B + K) : ∀ r, bs r → r < W.heap.size ∧ ¬ F r ∧ ¬ G r := fun r hr => by
  have h1 := hb r hr
  refine ⟨by omega, fun hf => ?_, fun hg => ?_⟩
  · have := P.off r (.inl hf); omega
  · have := P.off r (.inr hg); omega
end
/-- What holds between two rounds of the walk: n of them have been. -/
def Going (RA : World → (Nat → Prop) → Nat → Nat → List (List UInt8) → Prop) (w0 : World) (g h m : Nat) (N : Int) (u : List UInt8) (F0 G0 : Nat → Prop) (xs : List (List UInt8)) (v0 : Value) (k0 o0 B K : Nat) (n : Nat) (W : World) : Prop :=
  ∃ F G vv ys, Parts RA w0 g h m N u F0 G0 xs v0 k0 o0 B K n F G vv ys ys W
theorem going_abides (R : RingS RA) {w0 : World} {g h m : Nat} {N : Int} {u : List UInt8} {F0 G0 : Nat → Prop} {xs : List (List UInt8)} {v0 : Value} {k0 o0 B K : Nat} (hB : w0.heap.size + 6 ≤ B) (hk : k0 < w0.heap.size) (hh : h < w0.heap.size) (f : List (Nat × List UInt8) → Nat) :
    AbidesIn B K (fun (pre : List (Nat × List UInt8)) W => Going RA w0 g h m N u F0 G0 xs v0 k0 o0 B K (f pre) W) := by
  rintro pre W W' row ⟨F, G, vv, ys, hA, hoff, h4, h5, hh', hs, hc, hf⟩ hg hr
  have hne : ∀ b, b < B → some b ≠ row := fun b hb e => by have := hr b e.symm; omega
  refine ⟨F, G, vv, ys, hA.grown R hg (fun k e => ?_), hoff, row_grown h4 hg (hne _ (by omega)), row_grown h5 hg (hne _ (by omega)), row_grown hh' hg (hne _ (by omega)), hs, fun i y hy => ?_, hf⟩
  · have h1 := hr k e
    refine ⟨by omega, fun hF => ?_, fun hG => ?_⟩
    · have := hoff k (.inl hF); omega
    · have := hoff k (.inr hG); omega
  · have h1 := hc i y hy
    rw [World.cell?_of_block (w := W) (hg.block k0 (World.block_lt_of_cell? W _ h1) (hne _ (by omega)))]
    exact h1

theorem walk_end (R : RingS RA) {w W : World} {g h m : Nat} {N : Int} {u : List UInt8} {F0 G0 F G : Nat → Prop} {ys : List (List UInt8)} {D : Nat} {tmps : Array Value} (hA : At RA w g h m 5 N u (.bool false) F0 G0 F G ys ys W)
    (hd : W.heap[D]? = some (.deferred (some []))) (hD : w.heap.size + 6 ≤ D) (hnF : ¬ F D) (hnG : ¬ G D) (ht : tmps[6]? = some (.pointer (some ⟨w.heap.size + 1 + 1 + 1, 0, none⟩))) (v : Bool) (hv : v = true) :
    bodyPostM Fence.wide 5 Try.prog Try.f19 (fun e w' => e = .returned (.bool true) ∧ ∃ ys, Side RA g h m F0 G0 ys ys w w') .ret { tmps := tmps, defers := [{ target := .collected D, args := #[] }] } (W.setCell ⟨w.heap.size + 1 + 1 + 1, 0, none⟩ (.bool v)) := by
  subst hv
  have h1 := hA.set R (.bool true)
  have k2 : (W.setCell ⟨w.heap.size + 1 + 1 + 1, 0, none⟩ (.bool true)).heap[D]? = some (.deferred (some [])) := (Below.heap_setCell _ _ _ _ (by show D ≠ w.heap.size + 1 + 1 + 1; omega)).trans hd
  have h2 := h1.grown R (grownBy_putObj' _ D (.deferred none)) (fun k e => by cases e; exact ⟨by omega, hnF, hnG⟩)
  refine ⟨by simp, .inl ⟨_, _, rfl, run_takeDeferred k2, ?_⟩⟩
  have hc := h2.bx.co
  refine ⟨.bool true, ?_, rfl, ys, h2.side⟩
  simp [results, Try.f19, go_sem, hc, ht]

set_option maxRecDepth 100000 in
set_option maxHeartbeats 4000000 in
theorem does_walk (R : RingS RA) {g h m : Nat} {F G : Nat → Prop} {xs : List (List UInt8)} (N : Int) (u : List UInt8) (hu : u.length ≤ 20000) (w : World) (H : Both RA g h m F G xs xs w) :
    Calls Try.prog 19 #[.pointer (some ⟨g, 0, none⟩), .pointer (some ⟨h, 0, none⟩), .agg #[.int .i64 5, .int .i64 N, S u]] w fun e w' => e = .returned (.bool true) ∧ ∃ ys, Side RA g h m F G ys ys w w' := by
  have HA := Lib.hid (at_start R w 5 N u H)
  have hlen : Hid (xs.length < 1000000) := Lib.hid (by have := (R.fits H.r); omega)
  have hu2 : Hid (u.length ≤ maxLen) := Lib.hid (by simp only [maxLen]; omega)
  have hhw : h < w.heap.size := H.l.lt.2 h H.l.lt.1
  -- the list as it is
  obtain ⟨v, hrow, hli, hvh, hGv⟩ := H.l
  obtain ⟨a1, c1, rfl⟩ := hli.form
  obtain ⟨k0, o0, hk0, hnF, hidx, hcell, hsp, hk0h⟩ : ∃ k0 o0, k0 < w.heap.size ∧ ¬ F k0 ∧ (∀ i, i < xs.length → ∀ W, (Instr.indexAt 46 (.slice a1 xs.length c1) (.int .i64 (i : Int))).run Try.prog W = .ok (.pointer (some ⟨k0, o0 + i, none⟩)) W) ∧
      (∀ i y, xs[i]? = some y → w.cell? ⟨k0, o0 + i, none⟩ = some (S y)) ∧ SpareOut 1 (.slice a1 xs.length c1) k0 o0 xs.length ∧ (0 < xs.length → k0 ≠ h) := by
    by_cases hx : xs.length = 0
    · refine ⟨h, 0, hhw, fun hf => H.apart h hf H.l.lt.1, fun i hi => by omega, fun i y hy => ?_, fun g' o' n' c' he hg' j h1 h2 => ?_, fun h0 => absurd h0 (by omega)⟩
      · have := (List.getElem?_eq_some_iff.1 hy).1; omega
      · omega
    · obtain ⟨k, o, hb, hi, hc⟩ := hli.index Try.underlying46 (fun w => Try.sizeOf9 w)
      have hb0 := hb (by omega)
      refine ⟨k, o, hb0.2, fun hf => H.apart k hf ((hGv k).2 (.inr hb0.1)), fun i hi' W => by have := hi i hi' W; rwa [Nat.mul_one] at this, fun i y hy => ?_, fun g' o' n' c' he hg' j h1 h2 => ?_, fun _ => hvh k hb0.1⟩
      · have hlt := (List.getElem?_eq_some_iff.1 hy).1
        have := (hc i 0 hlt (by omega)).1
        rw [Nat.add_zero, Nat.add_zero, Nat.mul_one, List.getElem?_map, hy] at this
        exact this
      · obtain ⟨k', o2, c2, he2, _, _⟩ := hli.shape (by omega)
        have hkk : k' = k := by rw [he2] at hb0; exact Option.some.inj hb0.1
        have h0 := hi 0 (by omega) w
        rw [he2] at h0
        have h00 := run_index_at (P := Try.prog) (sz := 1) Try.underlying46 (fun w => Try.sizeOf9 w) k' o2 xs.length c2 0 (by omega) w
        have e3 := h0.symm.trans h00
        injection e3 with e3 _
        simp only [Value.pointer.injEq, Option.some.injEq, Addr.mk.injEq, and_true] at e3
        rw [he2] at he
        simp only [Value.slice.injEq, Option.some.injEq, Addr.mk.injEq, and_true] at he
        omega
  have hlv : ∀ T W, (Builtin.len_ #[46] T #[.slice a1 xs.length c1]).run Try.prog W = .ok (.int .i64 (xs.length : Int)) W := hli.len Try.underlying46
  have hlv3 := hlv 3
  obtain ⟨L, hL⟩ : ∃ L, L = xs.length := ⟨_, rfl⟩
  rw [← hL] at hlv3 hidx hli hrow hsp hk0h
  have HK := Lib.hid (And.intro hk0 (And.intro hnF (And.intro hcell (And.intro hhw (And.intro hrow (And.intro hL (And.intro hsp hk0h)))))))
  clear hlv hli hvh hGv hcell hsp hnF hu hL hk0h
  have hnl : ∀ (f : Fn) (x y : Array Value) w, (binOp .eql 92 (.func f x y) .nilFunc).run Try.prog w = .ok (.bool false) w := fun f x y w => eql_nilFunc Try.underlying92 _ _ _ w
  have hvW : ((((w.alloc (.cells #[.pointer (some ⟨g, 0, none⟩)] 42)).alloc (.cells #[.pointer (some ⟨h, 0, none⟩)] 45)).alloc (.cells #[.int .i64 5, .int .i64 N, S u] 51)).alloc (.cells #[.bool false] 4)).cell? ⟨h, 1, none⟩ = some (.slice a1 L c1) := cell_of_row _ h 1 _ 48 (0, 0) ((((HK.out.2.2.2.2.1.alloc _).alloc _).alloc _).alloc _)
  clear hrow
  refine (callsIn_wide (n := 5)).1 (callsIn_of_wp_marks Try.func19 rfl trivial ?_ rfl)
  simp only [Try.ntmps19, List.size_toArray, List.length_cons, List.length_nil, Nat.reduceAdd, Nat.reduceSub, Array.replicate_succ, Array.replicate_zero, List.push_toArray, List.append_toArray, List.nil_append, List.cons_append]
  gi_wp2_with fail
  obtain ⟨W2, hW2⟩ : ∃ W2, W2 = (((((w.alloc (.cells #[.pointer (some ⟨g, 0, none⟩)] 42)).alloc (.cells #[.pointer (some ⟨h, 0, none⟩)] 45)).alloc (.cells #[.int .i64 5, .int .i64 N, S u] 51)).alloc (.cells #[.bool false] 4)).alloc (.cells #[.slice a1 L c1] 46)).alloc (.cells #[.int .i64 0] 3) := ⟨_, rfl⟩
  have hb2 : Below ((((w.alloc (.cells #[.pointer (some ⟨g, 0, none⟩)] 42)).alloc (.cells #[.pointer (some ⟨h, 0, none⟩)] 45)).alloc (.cells #[.int .i64 5, .int .i64 N, S u] 51)).alloc (.cells #[.bool false] 4)).heap.size ((((w.alloc (.cells #[.pointer (some ⟨g, 0, none⟩)] 42)).alloc (.cells #[.pointer (some ⟨h, 0, none⟩)] 45)).alloc (.cells #[.int .i64 5, .int .i64 N, S u] 51)).alloc (.cells #[.bool false] 4)) W2 := by
    rw [hW2]; exact ((Below.refl _ _).alloc (Nat.le_refl _) _).alloc (by simp) _
  have hz2 : W2.heap.size = w.heap.size + 6 := by rw [hW2]; simp
  have r4 : Row W2 (w.heap.size + 1 + 1 + 1 + 1) #[.slice a1 L c1] 46 := by
    have h1 := row_new ((((w.alloc (.cells #[.pointer (some ⟨g, 0, none⟩)] 42)).alloc (.cells #[.pointer (some ⟨h, 0, none⟩)] 45)).alloc (.cells #[.int .i64 5, .int .i64 N, S u] 51)).alloc (.cells #[.bool false] 4)) #[.slice a1 L c1] 46
    rw [alloc_size, alloc_size, alloc_size, alloc_size] at h1
    rw [hW2]; exact h1.alloc _
  have r5 : Row W2 (w.heap.size + 1 + 1 + 1 + 1 + 1) #[.int .i64 0] 3 := by
    have h1 := row_new (((((w.alloc (.cells #[.pointer (some ⟨g, 0, none⟩)] 42)).alloc (.cells #[.pointer (some ⟨h, 0, none⟩)] 45)).alloc (.cells #[.int .i64 5, .int .i64 N, S u] 51)).alloc (.cells #[.bool false] 4)).alloc (.cells #[.slice a1 L c1] 46)) #[.int .i64 0] 3
    rw [alloc_size, alloc_size, alloc_size, alloc_size, alloc_size] at h1
    rw [hW2]; exact h1
  have hbw : Below w.heap.size w W2 := by
    refine Below.trans ?_ (hb2.mono (by simp; omega))
    exact ((((Below.refl _ w).alloc (Nat.le_refl _) _).alloc (by simp) _).alloc (by simp; omega) _).alloc (by simp; omega) _
  have H2 := Lib.hid (And.intro (HA.out.below R hb2) (And.intro r4 (And.intro r5 (And.intro hbw hz2))))
  rw [← hW2]
  clear hW2 hb2 hz2 r4 r5 hbw HA hvW
  refine ⟨trivial, (callsIn_wide.2 (R.all H2.out.1.two.r)).mono ?_⟩
  rintro e W3 ⟨gf3, lb3, _, _, rfl, hb3, _⟩
  have H3 := Lib.hid (And.intro (H2.out.1.below R hb3) (And.intro (H2.out.2.1.below hb3 H2.out.2.1.lt) (And.intro (H2.out.2.2.1.below hb3 H2.out.2.2.1.lt) (And.intro (H2.out.2.2.2.1.trans (hb3.mono H2.out.2.2.2.1.size)) (show w.heap.size + 6 ≤ W3.heap.size by have := hb3.size; have := H2.out.2.2.2.2; omega)))))
  clear hb3 H2
  have k1 := H3.out.1.bx.cr
  gi_wp2_with fail
  refine ⟨trivial, (callsIn_wide.2 (R.all H3.out.1.two.r)).mono ?_⟩
  rintro e W4 ⟨gf, lb, K, Kb, rfl, hb4, hKb, eg, hseq⟩
  have H4 := Lib.hid (And.intro (H3.out.1.below R hb4) (And.intro (H3.out.2.1.below hb4 H3.out.2.1.lt) (And.intro (H3.out.2.2.1.below hb4 H3.out.2.2.1.lt) (And.intro (H3.out.2.2.2.1.trans (hb4.mono H3.out.2.2.2.1.size)) (And.intro (show w.heap.size + 6 ≤ W4.heap.size by have := hb4.size; have := H3.out.2.2.2.2; omega) (show ∀ r, Kb r → w.heap.size + 6 ≤ r ∧ r < W4.heap.size from fun r hr => by have := hKb r hr; have := H3.out.2.2.2.2; omega))))))
  clear hb4 hKb H3 k1
  gi_wp2
  refine wpIn_rangeFunc_L2 (gf := gf) (lb := lb) rfl eg hseq (fun r hr => (H4.out.2.2.2.2.2 r hr).2) (fun W hb => hb) (fun _ => rfl)
    (fun pre W => Going RA w g h m N u F G xs (.slice a1 L c1) k0 o0 W4.heap.size (K + 2) pre.length W)
    (fun c pre W => c = .exit 1 ∧ 1 ≤ N ∧ N ≤ (L : Int) ∧ N = (pre.length : Int) ∧ Going RA w g h m N u F G xs (.slice a1 L c1) k0 o0 W4.heap.size (K + 2) pre.length W)
    (going_abides R H4.out.2.2.2.2.1 HK.out.1 HK.out.2.2.2.1 List.length)
    (fun c => (abidesIn_pure (fun _ => c = .exit 1)).and ((abidesIn_pure (fun _ => 1 ≤ N)).and ((abidesIn_pure (fun _ => N ≤ (L : Int))).and ((abidesIn_pure (fun pre => N = ((pre : List (Nat × List UInt8)).length : Int))).and (going_abides R H4.out.2.2.2.2.1 HK.out.1 HK.out.2.2.2.1 List.length)))))
    ?start ?round ?done ?stop
  case start =>
    refine ⟨F, G, .slice a1 L c1, xs, H4.out.1, fun k hk => .inl ?_, H4.out.2.1, H4.out.2.2.1, HK.out.2.2.2.2.1.below H4.out.2.2.2.1 HK.out.2.2.2.1, by rw [← HK.out.2.2.2.2.2.1]; exact HK.out.2.2.2.2.2.2.1, fun i y hy => ?_, HK.out.2.1⟩
    · rcases hk with hk | hk
      · exact (R.lt H.r).2 k hk
      · exact H.l.lt.2 k hk
    · have h1 := HK.out.2.2.1 i y hy
      rw [H4.out.2.2.2.1.cell HK.out.1]; exact h1
  case round =>
    intro l pre x W1 Kc hpx hKc
    obtain ⟨y, rfl, hy⟩ := placed_at hpx
    unfold encP
    have hlt : pre.length < L := by rw [HK.out.2.2.2.2.2.1]; exact (List.getElem?_eq_some_iff.1 hy).1
    have hix := hidx pre.length hlt
    generalize hn : pre.length = n at *
    gi_wp2
    rintro W ⟨F1, G1, vv, ys, hA, hoff, h4, h5, hh, hs, hc, hnf⟩ hsz
    have c4 : W.cell? ⟨w.heap.size + 1 + 1 + 1 + 1, 0, none⟩ = some (.slice a1 L c1) := cell_of_row W _ 0 _ 46 (0, 0) h4
    have c5 : W.cell? ⟨w.heap.size + 1 + 1 + 1 + 1 + 1, 0, none⟩ = some (.int .i64 (n : Int)) := cell_of_row W _ 0 _ 3 (0, 0) h5
    have f5 : W.frozen? ⟨w.heap.size + 1 + 1 + 1 + 1 + 1, 0, none⟩ = false := Row.frozen h5 0
    have k3 := hA.bx.c1
    have cy := hc n y hy
    have hneq : binOp .neq 9 (S y) (S y) = pure (.bool false) := by rw [neql_S]; simp
    have hgd := nguard_S 9
    have q1 : decide ((L : Int) ≤ (n : Int)) = false := decide_eq_false (by omega)
    have q2 : decide (L ≤ n) = false := decide_eq_false (by omega)
    have hL5 : L < 1000000 := by rw [HK.out.2.2.2.2.2.1]; exact hlen.out
    have hw1 : IntKind.i64.wrap ((n : Int) + 1) = (n : Int) + 1 := by rw [IntKind.wrap_i64]; omega
    have hset : Going RA w g h m N u F G xs (.slice a1 L c1) k0 o0 W4.heap.size (K + 2) (n + 1) (W.setCell ⟨w.heap.size + 1 + 1 + 1 + 1 + 1, 0, none⟩ (.int .i64 ((n : Int) + 1))) := by
      have hB4 := H4.out.2.2.2.2.1
      have hk := HK.out.1
      have hh1 := HK.out.2.2.2.1
      have hne : ∀ k, k ≠ w.heap.size + 1 + 1 + 1 + 1 + 1 → (W.setCell ⟨w.heap.size + 1 + 1 + 1 + 1 + 1, 0, none⟩ (.int .i64 ((n : Int) + 1))).heap[k]? = W.heap[k]? := fun k hk => Below.heap_setCell _ _ _ _ hk
      refine ⟨F1, G1, vv, ys, hA.grown R (grown_cell W _ 0 _) (fun k e => ?_), hoff, h4.other (by show _ ≠ w.heap.size + 1 + 1 + 1 + 1 + 1; omega), h5.set 0 _, hh.other (by show h ≠ w.heap.size + 1 + 1 + 1 + 1 + 1; omega), hs, fun j z hz => ?_, hnf⟩
      · cases e
        refine ⟨by omega, fun hF => ?_, fun hG => ?_⟩
        · have := hoff _ (.inl hF); omega
        · have := hoff _ (.inr hG); omega
      · rw [World.cell?_setCell_other (h := show (⟨w.heap.size + 1 + 1 + 1 + 1 + 1, 0, none⟩ : Addr) ≠ ⟨k0, o0 + j, none⟩ by intro e; simp only [Addr.mk.injEq] at e; omega)]
        exact hc j z hz
    have HS := Lib.hid hset
    have hkp : Hid (Kept (fun r => Kb r ∨ (W4.heap.size ≤ r ∧ r < W4.heap.size + (K + 2))) W (W.setCell ⟨w.heap.size + 1 + 1 + 1 + 1 + 1, 0, none⟩ (.int .i64 ((n : Int) + 1)))) := Lib.hid ⟨by simp [World.setCell], fun r hr => Below.heap_setCell _ _ _ _ (by
      show r ≠ w.heap.size + 1 + 1 + 1 + 1 + 1
      have hB4 := H4.out.2.2.2.2.1
      rcases hr with hr | hr
      · have := (H4.out.2.2.2.2.2 r hr).1; omega
      · omega)⟩
    have hszz : W4.heap.size + (K + 2) ≤ (W.setCell ⟨w.heap.size + 1 + 1 + 1 + 1 + 1, 0, none⟩ (.int .i64 ((n : Int) + 1))).heap.size := by simpa [World.setCell] using hsz
    have k3' : (W.setCell ⟨w.heap.size + 1 + 1 + 1 + 1 + 1, 0, none⟩ (.int .i64 ((n : Int) + 1))).cell? ⟨w.heap.size + 1 + 1, 1, none⟩ = some (.int .i64 N) := by
      rw [World.cell?_setCell_other (h := show (⟨w.heap.size + 1 + 1 + 1 + 1 + 1, 0, none⟩ : Addr) ≠ ⟨w.heap.size + 1 + 1, 1, none⟩ by intro e; simp only [Addr.mk.injEq] at e; omega)]
      exact k3
    have k5' : (W.setCell ⟨w.heap.size + 1 + 1 + 1 + 1 + 1, 0, none⟩ (.int .i64 ((n : Int) + 1))).cell? ⟨w.heap.size + 1 + 1 + 1 + 1 + 1, 0, none⟩ = some (.int .i64 ((n : Int) + 1)) := World.cell?_setCell_same _ _ _ c5
    clear hset hA h4 h5 hh hs hc hnf hoff k3
    have hlen1 : ∀ z : Nat × List UInt8, (pre ++ [z]).length = n + 1 := fun z => by rw [List.length_append, hn]; rfl
    by_cases hN : N = (n : Int) + 1
    · have q3 : ((n : Int) + 1 == N) = true := by rw [beq_iff_eq, hN]
      have hN' := Lib.hid hN
      clear hN
      gi_wp2
      refine ⟨hkp.out, rfl, by have := hN'.out; omega, by have := hN'.out; omega, by rw [hlen1, hN'.out]; omega, ?_⟩
      rw [hlen1]
      exact HS.out
    · have q3 : ((n : Int) + 1 == N) = false := by rw [beq_eq_false_iff_ne]; exact fun e => hN e.symm
      clear hN
      have kr : (W.setCell ⟨w.heap.size + 1 + 1 + 1 + 1 + 1, 0, none⟩ (.int .i64 ((n : Int) + 1))).cell? ⟨w.heap.size, 0, none⟩ = some (.pointer (some ⟨g, 0, none⟩)) := by
        obtain ⟨F1, G1, vv, ys, hP⟩ := HS.out
        exact hP.at_.bx.cr
      have ku : (W.setCell ⟨w.heap.size + 1 + 1 + 1 + 1 + 1, 0, none⟩ (.int .i64 ((n : Int) + 1))).cell? ⟨w.heap.size + 1 + 1, 2, none⟩ = some (S u) := by
        obtain ⟨F1, G1, vv, ys, hP⟩ := HS.out
        exact hP.at_.bx.c2
      gi_wp2_with fail
      have hB4 := H4.out.2.2.2.2.1
      have hk0w := HK.out.1
      have hkh : k0 ≠ h := HK.out.2.2.2.2.2.2.2 (by omega)
      have hbs : ∀ r, (Kb r ∨ (W4.heap.size ≤ r ∧ r < W4.heap.size + (K + 2))) → w.heap.size ≤ r ∧ r < W4.heap.size + (K + 2) := fun r hr => by
        rcases hr with hr | hr
        · have := H4.out.2.2.2.2.2 r hr; omega
        · omega
      obtain ⟨F1, G1, vv1, ys, P1⟩ := HS.out
      generalize W.setCell ⟨w.heap.size + 1 + 1 + 1 + 1 + 1, 0, none⟩ (.int .i64 ((n : Int) + 1)) = V0 at *
      clear HS k3' k5' kr ku
      have hys : ys.length < 1000000 := by have := R.fits P1.at_.two.r; omega
      have ap1 := P1.apart hszz hbs
      refine ⟨trivial, ((callsIn_wide.2 (R.push u P1.at_.two.r hu2.out)).inRound l).mono ?_⟩
      rintro e V1 ⟨rfl, F2, q2r, m2⟩
      have P2 := P1.left R q2r m2 hB4 hszz hk0w
      have K2 := hkp.out.trans (kept_moves m2 (fun r hr => ⟨(ap1 r hr).1, (ap1 r hr).2.1⟩))
      have s2 : W4.heap.size + (K + 2) ≤ V1.heap.size := Nat.le_trans hszz m2.size
      have HP2 := Lib.hid (And.intro P2 (And.intro K2 s2))
      have kl := P2.at_.bx.cl
      have ku := P2.at_.bx.c2
      clear P1 q2r m2 P2 K2 ap1
      gi_wp2_with fail
      refine ⟨trivial, ((callsIn_wide.2 (pushK u HP2.out.1.at_.two.l hys)).inRound l).mono ?_⟩
      rintro e V2 ⟨rfl, ⟨G2, q3r, m3⟩, kc3⟩
      obtain ⟨vv3, P3⟩ := HP2.out.1.right R q3r m3 kc3 hB4 s2 hk0w hkh
      have ap2 := HP2.out.1.apart s2 hbs
      have K3 := HP2.out.2.1.trans (kept_moves m3 (fun r hr => ⟨(ap2 r hr).1, (ap2 r hr).2.2⟩))
      have s3 : W4.heap.size + (K + 2) ≤ V2.heap.size := Nat.le_trans s2 m3.size
      have HP3 := Lib.hid (And.intro P3 (And.intro K3 s3))
      have kr := P3.at_.bx.cr
      clear q3r m3 kc3 P3 K3 ap2 kl ku
      generalize (if ys.length < m then ys ++ [u] else ys) = zs at *
      cases zs with
      | nil =>
        gi_wp2_with fail
        refine ⟨trivial, ((callsIn_wide.2 (R.pop_none HP3.out.1.at_.two.r)).inRound l).mono ?_⟩
        rintro e V3 ⟨rfl, F4, q4r, m4⟩
        have P4 := HP3.out.1.left R q4r m4 hB4 s3 hk0w
        have ap3 := HP3.out.1.apart s3 hbs
        have K4 := HP3.out.2.1.trans (kept_moves m4 (fun r hr => ⟨(ap3 r hr).1, (ap3 r hr).2.1⟩))
        have HP4 := Lib.hid (And.intro P4 K4)
        have kl := P4.at_.bx.cl
        clear q4r m4 P4 K4 ap3 kr
        gi_wp2_with fail
        refine ⟨trivial, ((callsIn_wide.2 (refPop_none h _ m _ HP4.out.1.at_.two.l.toA)).inRound l).mono ?_⟩
        rintro e V4 ⟨rfl, hw⟩
        have hw2 := hw.symm
        subst hw2
        clear hw
        gi_wp2
        refine ⟨HP4.out.2, ?_⟩
        show Going RA w g h m N u F G xs _ k0 o0 W4.heap.size (K + 2) (pre ++ [(n, y)]).length _
        rw [hlen1]
        exact ⟨_, _, _, _, HP4.out.1⟩
      | cons z zs =>
        gi_wp2_with fail
        refine ⟨trivial, ((callsIn_wide.2 (R.pop_some HP3.out.1.at_.two.r)).inRound l).mono ?_⟩
        rintro e V3 ⟨rfl, F4, q4r, m4⟩
        have P4 := HP3.out.1.left R q4r m4 hB4 s3 hk0w
        have ap3 := HP3.out.1.apart s3 hbs
        have K4 := HP3.out.2.1.trans (kept_moves m4 (fun r hr => ⟨(ap3 r hr).1, (ap3 r hr).2.1⟩))
        have s4 : W4.heap.size + (K + 2) ≤ V3.heap.size := Nat.le_trans s3 m4.size
        have HP4 := Lib.hid (And.intro P4 K4)
        have kl := P4.at_.bx.cl
        clear q4r m4 P4 K4 ap3 kr
        gi_wp2_with fail
        refine ⟨trivial, ((callsIn_wide.2 (popK HP4.out.1.at_.two.l)).inRound l).mono ?_⟩
        rintro e V4 ⟨rfl, ⟨G4, q5r, m5⟩, kc5⟩
        obtain ⟨vv5, P5⟩ := HP4.out.1.right R q5r m5 kc5 hB4 s4 hk0w hkh
        have ap4 := HP4.out.1.apart s4 hbs
        have K5 := HP4.out.2.trans (kept_moves m5 (fun r hr => ⟨(ap4 r hr).1, (ap4 r hr).2.2⟩))
        have HP5 := Lib.hid (And.intro P5 K5)
        clear q5r m5 kc5 P5 K5 ap4 kl
        gi_wp2
        refine ⟨HP5.out.2, ?_⟩
        show Going RA w g h m N u F G xs _ k0 o0 W4.heap.size (K + 2) (pre ++ [(n, y)]).length _
        rw [hlen1]
        exact ⟨_, _, _, _, HP5.out.1⟩
  case done =>
    rintro W hG hKd
    rw [placed_length, ← HK.out.2.2.2.2.2.1] at hG
    obtain ⟨F1, G1, vv, ys, P⟩ := hG
    have hB4 := H4.out.2.2.2.2.1
    have k3 := P.at_.bx.c1
    have k5 := P.at_.bx.co
    have k6 := P.at_.bx.fo
    have c4 : W.cell? ⟨w.heap.size + 1 + 1 + 1 + 1, 0, none⟩ = some (.slice a1 L c1) := cell_of_row W _ 0 _ 46 (0, 0) P.r4
    have c5 := cell_of_row W _ 0 _ 3 (0, 0) P.r5
    have hnF : ¬ F1 W4.heap.size := fun hf => by have := P.off _ (.inl hf); omega
    have hnG : ¬ G1 W4.heap.size := fun hf => by have := P.off _ (.inr hf); omega
    have HP := Lib.hid P.at_
    clear P
    have c5' : W.cell? ⟨w.heap.size + 1 + 1 + 1 + 1 + 1, 0, none⟩ = some (.int .i64 (L : Int)) := c5
    clear c5
    by_cases n1 : 1 ≤ N
    · have q1 : decide (1 ≤ N) = true := decide_eq_true n1
      by_cases n2 : N ≤ (L : Int)
      · have q2 : decide (N ≤ (L : Int)) = true := decide_eq_true n2
        by_cases n3 : (L : Int) = N
        · have q3 : ((L : Int) == N) = true := by rw [beq_iff_eq]; exact n3
          clear n1 n2 n3
          gi_wp2
          exact walk_end R HP.out hKd hB4 hnF hnG rfl _ (by simp)
        · have q3 : ((L : Int) == N) = false := by rw [beq_eq_false_iff_ne]; exact n3
          clear n1 n2 n3
          gi_wp2
          exact walk_end R HP.out hKd hB4 hnF hnG rfl _ (by simp)
      · have q2 : decide (N ≤ (L : Int)) = false := decide_eq_false n2
        clear n1 n2
        gi_wp2
        exact walk_end R HP.out hKd hB4 hnF hnG rfl _ (by simp)
    · have q1 : decide (1 ≤ N) = false := decide_eq_false n1
      clear n1
      gi_wp2
      exact walk_end R HP.out hKd hB4 hnF hnG rfl _ (by simp)
  case stop =>
    rintro c pre W hpre ⟨rfl, n1, n2, n3, hG⟩ hKd
    generalize hn : pre.length = n at *
    obtain ⟨F1, G1, vv, ys, P⟩ := hG
    have hB4 := H4.out.2.2.2.2.1
    have k3 := P.at_.bx.c1
    have k5 := P.at_.bx.co
    have k6 := P.at_.bx.fo
    have c4 : W.cell? ⟨w.heap.size + 1 + 1 + 1 + 1, 0, none⟩ = some (.slice a1 L c1) := cell_of_row W _ 0 _ 46 (0, 0) P.r4
    have c5 := cell_of_row W _ 0 _ 3 (0, 0) P.r5
    have hnF : ¬ F1 W4.heap.size := fun hf => by have := P.off _ (.inl hf); omega
    have hnG : ¬ G1 W4.heap.size := fun hf => by have := P.off _ (.inr hf); omega
    have HP := Lib.hid P.at_
    clear P
    have c5' : W.cell? ⟨w.heap.size + 1 + 1 + 1 + 1 + 1, 0, none⟩ = some (.int .i64 N) := by rw [n3]; exact c5
    clear c5 n3 hn
    have q1 : decide (1 ≤ N) = true := decide_eq_true n1
    have q2 : decide (N ≤ (L : Int)) = true := decide_eq_true n2
    clear n1 n2
    gi_wp2
    exact walk_end R HP.out hKd hB4 hnF hnG rfl _ (by simp)
end
end Go.Proofs.Ytkekjcdhlkhhoaa
