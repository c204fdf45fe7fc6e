/- The walk of RingNobody, over any rings of nothing. -/
import Derived.Test.YtkekjcdhlkhhoaaLc
namespace Go.Proofs.Ytkekjcdhlkhhoaa
open Go.RowKit Go.Shelf
attribute [local go_sem] store_one S_match S_store Oper.semAt_some

/-- What is asked of a ring of numbers that is none, or that New did not make: RN: the ring of block g may turn the blocks F. -/
structure RingN (RN : World → (Nat → Prop) → Nat → Prop) : Prop where
  lt : ∀ {w F g}, RN w F g → F g ∧ ∀ k, F k → k < w.heap.size
  same : ∀ {w w' : World} {F g}, RN w F g → w.heap.size ≤ w'.heap.size → (∀ k, F k → w'.heap[k]? = w.heap[k]?) → RN w' F g
  bare : ∀ w : World, RN (w.alloc (.cells #[.int .i64 0, .slice none 0 0, .int .i64 0, .int .i64 0] 57)) (fun k => k = w.heap.size) w.heap.size
  pop0 : ∀ w, Calls Try.prog 22 #[.pointer none] w fun e w' => e = .returned (.tuple #[.int .i64 0, .bool false]) ∧ Below w.heap.size w w'
  at0 : ∀ (n : Int) w, Calls Try.prog 23 #[.pointer none, .int .i64 n] w fun e w' => e = .returned (.tuple #[.int .i64 0, .bool false]) ∧ Below w.heap.size w w'
  push0 : ∀ (n : Int) w, Calls Try.prog 25 #[.pointer none, .int .i64 n] w fun e w' => e = .returned (.bool false) ∧ Below w.heap.size w w'
  set0 : ∀ (i n : Int) w, Calls Try.prog 26 #[.pointer none, .int .i64 i, .int .i64 n] w fun e w' => e = .returned (.bool false) ∧ Below w.heap.size w w'
  clear0 : ∀ w, Calls Try.prog 27 #[.pointer none] w fun e w' => e = .returned (.int .i64 0) ∧ Below w.heap.size w w'
  len0 : ∀ w, Calls Try.prog 28 #[.pointer none] w fun e w' => e = .returned (.int .i64 0) ∧ Below w.heap.size w w'
  all0 : ∀ w, Calls Try.prog 24 #[.pointer none] w fun e w' => ∃ gf lb k Kb, e = .returned (.func (.func gf) #[] lb) ∧ Below w.heap.size w w' ∧ (∀ r, Kb r → w.heap.size ≤ r ∧ r < w'.heap.size) ∧
    (∀ args W, (callFunc gf args).run Try.prog W = .ok (.enter gf args) W) ∧ ∀ n, SeqL Try.prog n gf lb encU k Kb [] (fun W => Below w'.heap.size w' W)
  pop : ∀ {w F g}, RN w F g → Calls Try.prog 22 #[.pointer (some ⟨g, 0, none⟩)] w fun e w' => e = .returned (.tuple #[.int .i64 0, .bool false]) ∧ ∃ F', RN w' F' g ∧ Moves F F' w w'
  atN : ∀ {w F g} (n : Int), RN w F g → Calls Try.prog 23 #[.pointer (some ⟨g, 0, none⟩), .int .i64 n] w fun e w' => e = .returned (.tuple #[.int .i64 0, .bool false]) ∧ ∃ F', RN w' F' g ∧ Moves F F' w w'
  push : ∀ {w F g} (n : Int), RN w F g → Calls Try.prog 25 #[.pointer (some ⟨g, 0, none⟩), .int .i64 n] w fun e w' => e = .returned (.bool false) ∧ ∃ F', RN w' F' g ∧ Moves F F' w w'
  set : ∀ {w F g} (i n : Int), RN w F g → Calls Try.prog 26 #[.pointer (some ⟨g, 0, none⟩), .int .i64 i, .int .i64 n] w fun e w' => e = .returned (.bool false) ∧ ∃ F', RN w' F' g ∧ Moves F F' w w'
  clear : ∀ {w F g}, RN w F g → Calls Try.prog 27 #[.pointer (some ⟨g, 0, none⟩)] w fun e w' => e = .returned (.int .i64 0) ∧ ∃ F', RN w' F' g ∧ Moves F F' w w'
  len : ∀ {w F g}, RN w F g → Calls Try.prog 28 #[.pointer (some ⟨g, 0, none⟩)] w fun e w' => e = .returned (.int .i64 0) ∧ ∃ F', RN w' F' g ∧ Moves F F' w w'
  all : ∀ {w F g}, RN w F g → Calls Try.prog 24 #[.pointer (some ⟨g, 0, none⟩)] w fun e w' => ∃ gf lb k Kb, e = .returned (.func (.func gf) #[] lb) ∧ Below w.heap.size w w' ∧ (∀ r, Kb r → w.heap.size ≤ r ∧ r < w'.heap.size) ∧
    (∀ args W, (callFunc gf args).run Try.prog W = .ok (.enter gf args) W) ∧ ∀ n, SeqL Try.prog n gf lb encU k Kb [] (fun W => Below w'.heap.size w' W)

/-- One ring of nothing made since w0. -/
def OneN (RN : World → (Nat → Prop) → Nat → Prop) (w0 : World) (g : Nat) (W : World) : Prop :=
  ∃ F, RN W F g ∧ (∀ k, F k → w0.heap.size ≤ k) ∧ Below w0.heap.size w0 W
section
variable {RN : World → (Nat → Prop) → Nat → Prop} {w0 W W' : World} {g : Nat}
theorem OneN.moves {F F' : Nat → Prop} (h0 : ∀ k, F k → w0.heap.size ≤ k) (hb : Below w0.heap.size w0 W) (h : RN W' F' g) (hm : Moves F F' W W') : OneN RN w0 g W' :=
  ⟨F', h, fun k hk => by
    rcases hm.foot k hk with h1 | h1
    · exact h0 k h1
    · have := hb.size; omega, hb.trans (hm.below h0 hb.size)⟩
theorem OneN.below (R : RingN RN) (H : OneN RN w0 g W) (hb : Below W.heap.size W W') : OneN RN w0 g W' := by
  obtain ⟨F, h, h0, h1⟩ := H
  exact ⟨F, R.same h hb.size (fun k hk => hb.block k ((R.lt h).2 k hk)), h0, h1.trans (hb.mono h1.size)⟩
theorem OneN.bel (H : OneN RN w0 g W) : Below w0.heap.size w0 W := H.choose_spec.2.2
/-- One ring of nothing, and two lists of what is deferred: none of it is deferred. -/
structure OneD (RN : World → (Nat → Prop) → Nat → Prop) (w0 : World) (g d e : Nat) (F : Nat → Prop) (W : World) : Prop where
  r : RN W F g
  lo : ∀ k, F k → w0.heap.size ≤ k
  bel : Below w0.heap.size w0 W
  fd : ¬ F d
  fe : ¬ F e
  hd : W.heap[d]? = some (.deferred (some []))
  he : W.heap[e]? = some (.deferred (some []))
theorem OneD.below (R : RingN RN) {d e : Nat} {F : Nat → Prop} (H : OneD RN w0 g d e F W) (hb : Below W.heap.size W W') : OneD RN w0 g d e F W' :=
  ⟨R.same H.r hb.size (fun k hk => hb.block k ((R.lt H.r).2 k hk)), H.lo, H.bel.trans (hb.mono H.bel.size), H.fd, H.fe, (hb.block _ (Array.getElem?_eq_some_iff.1 H.hd).1).trans H.hd, (hb.block _ (Array.getElem?_eq_some_iff.1 H.he).1).trans H.he⟩
theorem OneD.moves {d e : Nat} {F F' : Nat → Prop} (H : OneD RN w0 g d e F W) (h : RN W' F' g) (hm : Moves F F' W W') : OneD RN w0 g d e F' W' := by
  have h1 := (Array.getElem?_eq_some_iff.1 H.hd).1
  have h2 := (Array.getElem?_eq_some_iff.1 H.he).1
  have hz := H.bel.size
  refine ⟨h, fun k hk => ?_, H.bel.trans (hm.below H.lo hz), fun hf => ?_, fun hf => ?_, (hm.rest d h1 H.fd).trans H.hd, (hm.rest e h2 H.fe).trans H.he⟩
  · rcases hm.foot k hk with h3 | h3
    · exact H.lo k h3
    · omega
  · rcases hm.foot _ hf with h3 | h3
    · exact H.fd h3
    · omega
  · rcases hm.foot _ hf with h3 | h3
    · exact H.fe h3
    · omega
/-- A call of a ring of nothing. -/
theorem OneN.call {f : Nat} {a : Array Value} {v : Value} (H : OneN RN w0 g W) (h : ∀ F, RN W F g → Calls Try.prog f a W fun e w' => e = .returned v ∧ ∃ F', RN w' F' g ∧ Moves F F' W w') :
    Calls Try.prog f a W fun e w' => e = .returned v ∧ OneN RN w0 g w' := by
  obtain ⟨F, h1, h0, hb⟩ := H
  refine (h F h1).mono ?_
  rintro e w' ⟨rfl, F', h2, hm⟩
  exact ⟨rfl, OneN.moves h0 hb h2 hm⟩
end
theorem abides_one {RN : World → (Nat → Prop) → Nat → Prop} (R : RingN RN) {w1 : World} {g B K : Nat} {F : Nat → Prop} (hF : ∀ k, F k → k < B) (hB : w1.heap.size ≤ B) : AbidesIn B K (fun (_ : List (Nat × Nat)) W => RN W F g ∧ Below w1.heap.size w1 W) := by
  rintro pre W W' row ⟨h, hb⟩ hg hr
  exact ⟨R.same h hg.size (fun k hk => hg.block k ((R.lt h).2 k hk) (fun e => by have := hr k e.symm; have := hF k hk; omega)), hb.grown hg hb.size (fun k e => by have := hr k e; omega)⟩
theorem nobody_end {w W : World} {D E : Nat} {tmps : Array Value} (ha : Row W w.heap.size #[.bool false] 4) (hb : Below w.heap.size w W) (hd : W.heap[D]? = some (.deferred (some []))) (he : W.heap[E]? = some (.deferred (some []))) (hne : D ≠ E) (hD : w.heap.size + 1 ≤ D) (hE : w.heap.size + 1 ≤ E)
    (ht : tmps[2]? = some (.pointer (some ⟨w.heap.size, 0, none⟩))) :
    bodyPostM Fence.wide 5 Try.prog Try.f5 (fun e w' => e = .returned (.bool true) ∧ Below w.heap.size w w') .ret { tmps := tmps, defers := [{ target := .collected E, args := #[] }, { target := .collected D, args := #[] }] } (W.setCell ⟨w.heap.size, 0, none⟩ (.bool true)) := by
  have ca := cell_of_row W _ 0 _ 4 (0, 0) ha
  have hsz := hb.size
  have k1 : (W.setCell ⟨w.heap.size, 0, none⟩ (.bool true)).heap[E]? = some (.deferred (some [])) := (Below.heap_setCell _ _ _ _ (by show E ≠ w.heap.size; omega)).trans he
  have k2 : (W.setCell ⟨w.heap.size, 0, none⟩ (.bool true)).heap[D]? = some (.deferred (some [])) := (Below.heap_setCell _ _ _ _ (by show D ≠ w.heap.size; omega)).trans hd
  have g1 := grownBy_putObj' (W.setCell ⟨w.heap.size, 0, none⟩ (.bool true)) E (.deferred none)
  have k3 : ((W.setCell ⟨w.heap.size, 0, none⟩ (.bool true)).putObj E (.deferred none)).heap[D]? = some (.deferred (some [])) := (g1.block D (Array.getElem?_eq_some_iff.1 k2).1 (fun h => hne (Option.some.inj h))).trans k2
  refine ⟨by simp, .inl ⟨_, _, rfl, run_takeDeferred k1, ?_⟩⟩
  refine ⟨by simp, .inl ⟨_, _, rfl, run_takeDeferred k3, ?_⟩⟩
  have hc0 : (W.setCell ⟨w.heap.size, 0, none⟩ (.bool true)).cell? ⟨w.heap.size, 0, none⟩ = some (.bool true) := World.cell?_setCell_same _ _ _ ca
  have hc1 : ((W.setCell ⟨w.heap.size, 0, none⟩ (.bool true)).putObj E (.deferred none)).cell? ⟨w.heap.size, 0, none⟩ = some (.bool true) :=
    cell_kept hc0 g1 (fun r e => by cases e; exact ⟨_, k1, rfl⟩)
  have hc : (((W.setCell ⟨w.heap.size, 0, none⟩ (.bool true)).putObj E (.deferred none)).putObj D (.deferred none)).cell? ⟨w.heap.size, 0, none⟩ = some (.bool true) :=
    cell_kept hc1 (grownBy_putObj' _ _ (.deferred none)) (fun r e => by cases e; exact ⟨_, k3, rfl⟩)
  have hb1 := (hb.setCell (p := ⟨w.heap.size, 0, none⟩) (Nat.le_refl _) (.bool true)).grown g1 (by simpa [World.setCell] using hsz) (fun k e => by cases e; omega)
  refine ⟨.bool true, ?_, rfl, hb1.grown (grownBy_putObj' _ _ _) hb1.size (fun k e => by cases e; omega)⟩
  simp [results, Try.f5, go_sem, hc, ht]
section
variable {RA : World → (Nat → Prop) → Nat → Nat → List (List UInt8) → Prop} {RN : World → (Nat → Prop) → Nat → Prop}
set_option maxRecDepth 100000 in
set_option maxHeartbeats 4000000 in
theorem nobody_any (RS : RingS RA) (R : RingN RN) (n : Int) (w : World) :
    Calls Try.prog 5 #[.int .i64 n] w fun e w' => e = .returned (.bool true) ∧ Below w.heap.size w w' := by
  refine (callsIn_wide (n := 5)).1 (callsIn_of_wp_marks Try.func5 rfl trivial ?_ rfl)
  simp only [Try.ntmps5, List.size_toArray, List.length_cons, List.length_nil, Nat.reduceAdd, Nat.reduceSub, Array.replicate_succ, Array.replicate_zero, List.push_toArray, List.append_toArray, List.nil_append, List.cons_append]
  rw [wpIn_wide]
  have hnl : ∀ (f : Fn) (x y : Array Value) w, (binOp .eql 62 (.func f x y) .nilFunc).run Try.prog w = .ok (.bool false) w := fun f x y w => eql_nilFunc Try.underlying62 _ _ _ w
  go_wp2_with fail
  refine (awake_any RS _).mono ?_
  rintro e W1 ⟨rfl, hB⟩
  have hans : Row W1 w.heap.size #[.bool false] 4 := (row_new w #[.bool false] 4).below hB (by simp)
  have HB := Lib.hid (And.intro hans (((Below.refl w.heap.size w).alloc (Nat.le_refl _) (.cells #[.bool false] 4)).trans (hB.mono (by simp))))
  clear hB hans
  have hO : OneN RN W1 W1.heap.size (W1.alloc (.cells #[.int .i64 0, .slice none 0 0, .int .i64 0, .int .i64 0] 57)) := ⟨_, R.bare W1, fun k hk => by cases hk; exact Nat.le_refl _, (Below.refl _ W1).alloc (Nat.le_refl _) _⟩
  have H2 := Lib.hid hO
  clear hO
  go_wp2_with fail
  generalize (W1.alloc (.cells #[.int .i64 0, .slice none 0 0, .int .i64 0, .int .i64 0] 57)) = W2 at *
  obtain ⟨g, hg⟩ : ∃ g, g = W1.heap.size := ⟨_, rfl⟩
  rw [← hg] at H2 ⊢
  clear hg
  refine (R.pop0 W2).mono ?_
  rintro e W3 ⟨rfl, hb⟩
  have H3 := Lib.hid (H2.out.below R hb)
  clear hb H2
  go_wp2_with fail
  refine (R.at0 n W3).mono ?_
  rintro e W4 ⟨rfl, hb⟩
  have H4 := Lib.hid (H3.out.below R hb)
  clear hb H3
  go_wp2_with fail
  refine (H4.out.call fun F h => R.pop h).mono ?_
  rintro e W5 ⟨rfl, hb⟩
  have H5 := Lib.hid hb
  clear hb H4
  go_wp2_with fail
  refine (H5.out.call fun F h => R.atN n h).mono ?_
  rintro e W6 ⟨rfl, hb⟩
  have H6 := Lib.hid hb
  clear hb H5
  go_wp2_with fail
  refine (R.all0 W6).mono ?_
  rintro e W7 ⟨gf3, lb3, _, _, rfl, hb, _⟩
  have H7 := Lib.hid (H6.out.below R hb)
  clear hb H6
  go_wp2_with fail
  refine (R.all0 W7).mono ?_
  rintro e W8 ⟨gf, lb, K, Kb, rfl, hb, hKb, eg, hseq⟩
  have H8 := Lib.hid (H7.out.below R hb)
  have hKb2 : ∀ r, Kb r → r < W8.heap.size := fun r hr => (hKb r hr).2
  clear hb H7 hKb
  go_wp2
  rw [← wpIn_wide (n := 5)]
  obtain ⟨F8, r8, f8, b8⟩ := H8.out
  refine wpIn_rangeFunc_L2 (gf := gf) (lb := lb) rfl eg hseq hKb2 (fun W hb => hb) (fun _ => rfl)
    (fun _ W => RN W F8 g ∧ Below W1.heap.size W1 W) (fun _ _ _ => False) (abides_one R (R.lt r8).2 b8.size) (fun _ _ _ _ _ hs _ _ => hs)
    ⟨r8, b8⟩ ?round ?done ?stop
  case round =>
    rintro l pre x W Kc ⟨t, ht⟩ hKc
    simp at ht
  case stop =>
    rintro c pre W _ h _
    exact h.elim
  case done =>
    rintro W9 ⟨hO9, hb9⟩ hK9
    have hF8 := (R.lt r8).2
    have H9 := Lib.hid (And.intro hO9 (And.intro f8 (And.intro hb9 (And.intro hF8 hK9))))
    have hD8 : W8.heap.size < W9.heap.size := (Array.getElem?_eq_some_iff.1 hK9).1
    have hD1 : W1.heap.size ≤ W8.heap.size := b8.size
    clear hO9 hb9 hseq eg hKb2 H8 r8 f8 b8 hK9 hF8
    go_wp2_with fail
    refine (R.all H9.out.1).mono ?_
    rintro e W10 ⟨gf4, lb4, _, _, rfl, hb, _⟩
    have H10 := Lib.hid (And.intro (R.same H9.out.1 hb.size (fun k hk => hb.block k ((R.lt H9.out.1).2 k hk))) (And.intro (H9.out.2.2.1.trans (hb.mono H9.out.2.2.1.size)) ((hb.block _ hD8).trans H9.out.2.2.2.2)))
    have HF := Lib.hid (And.intro H9.out.2.1 H9.out.2.2.2.1)
    have hD10 : W8.heap.size < W10.heap.size := by have := hb.size; omega
    clear hb H9 hD8
    go_wp2_with fail
    refine (R.all H10.out.1).mono ?_
    rintro e W11 ⟨gf5, lb5, K5, Kb5, rfl, hb, hKb, eg5, hseq5⟩
    have H11 := Lib.hid (And.intro (R.same H10.out.1 hb.size (fun k hk => hb.block k ((R.lt H10.out.1).2 k hk))) (And.intro (H10.out.2.1.trans (hb.mono H10.out.2.1.size)) ((hb.block _ hD10).trans H10.out.2.2)))
    have hD11 : W8.heap.size < W11.heap.size := by have := hb.size; omega
    have hKb2 : ∀ r, Kb5 r → r < W11.heap.size := fun r hr => (hKb r hr).2
    clear hb H10 hKb hD10
    go_wp2
    rw [← wpIn_wide (n := 5)]
    have hab5 : AbidesIn W11.heap.size (K5 + 2) (fun (_ : List (Nat × Nat)) W => (RN W F8 g ∧ Below W1.heap.size W1 W) ∧ W.heap[W8.heap.size]? = some (.deferred (some []))) := by
      refine AbidesIn.and (abides_one R (fun k hk => by have := HF.out.2 k hk; omega) (by omega)) ?_
      intro pre W W' row h hg hr
      have hlt := (Array.getElem?_eq_some_iff.1 h).1
      exact (hg.block _ hlt (fun e => by have := hr _ e.symm; omega)).trans h
    refine wpIn_rangeFunc_L2 (gf := gf5) (lb := lb5) rfl eg5 hseq5 hKb2 (fun W hb => hb) (fun _ => rfl)
      (fun _ W => (RN W F8 g ∧ Below W1.heap.size W1 W) ∧ W.heap[W8.heap.size]? = some (.deferred (some []))) (fun _ _ _ => False) hab5 (fun _ _ _ _ _ hs _ _ => hs)
      ⟨⟨H11.out.1, H11.out.2.1⟩, H11.out.2.2⟩ ?round2 ?done2 ?stop2
    case round2 =>
      rintro l pre x W Kc ⟨t, ht⟩ hKc
      simp at ht
    case stop2 =>
      rintro c pre W _ h _
      exact h.elim
    case done2 =>
      rintro W12 ⟨⟨hO12, hb12⟩, hk12⟩ hK12
      have H12 : Hid (OneD RN W1 g W8.heap.size W11.heap.size F8 W12) := Lib.hid ⟨hO12, HF.out.1, hb12, fun hf => by have := HF.out.2 _ hf; omega, fun hf => by have := HF.out.2 _ hf; omega, hk12, hK12⟩
      have hds : W8.heap.size ≠ W11.heap.size := by omega
      clear hO12 hb12 hseq5 eg5 hKb2 H11 hK12 hk12 hab5 HF
      go_wp2_with fail
      refine (R.push0 n W12).mono ?_
      rintro e W13 ⟨rfl, hb'⟩
      have H13 := Lib.hid (H12.out.below R hb')
      clear hb' H12
      go_wp2_with fail
      refine (R.push n H13.out.r).mono ?_
      rintro e W14 ⟨rfl, G14, hr', hm'⟩
      have H14 := Lib.hid (H13.out.moves hr' hm')
      clear hr' hm' H13
      go_wp2_with fail
      refine (R.set0 n n W14).mono ?_
      rintro e W15 ⟨rfl, hb'⟩
      have H15 := Lib.hid (H14.out.below R hb')
      clear hb' H14
      go_wp2_with fail
      refine (R.set 0 n H15.out.r).mono ?_
      rintro e W16 ⟨rfl, G16, hr', hm'⟩
      have H16 := Lib.hid (H15.out.moves hr' hm')
      clear hr' hm' H15
      go_wp2_with fail
      refine (R.clear0 W16).mono ?_
      rintro e W17 ⟨rfl, hb'⟩
      have H17 := Lib.hid (H16.out.below R hb')
      clear hb' H16
      go_wp2_with fail
      refine (R.clear H17.out.r).mono ?_
      rintro e W18 ⟨rfl, G18, hr', hm'⟩
      have H18 := Lib.hid (H17.out.moves hr' hm')
      clear hr' hm' H17
      go_wp2_with fail
      refine (R.len0 W18).mono ?_
      rintro e W19 ⟨rfl, hb'⟩
      have H19 := Lib.hid (H18.out.below R hb')
      clear hb' H18
      go_wp2_with fail
      refine (R.len H19.out.r).mono ?_
      rintro e W20 ⟨rfl, G20, hr', hm'⟩
      have H20 := Lib.hid (H19.out.moves hr' hm')
      clear hr' hm' H19
      have cb := cell_of_row W20 _ 0 _ 4 (0, 0) (HB.out.1.below H20.out.bel HB.out.1.lt)
      have fb := Row.frozen (HB.out.1.below H20.out.bel HB.out.1.lt) 0
      go_wp2_with fail
      have hz := HB.out.1.lt
      exact nobody_end (HB.out.1.below H20.out.bel HB.out.1.lt) (HB.out.2.trans (H20.out.bel.mono HB.out.2.size)) H20.out.hd H20.out.he hds (by omega) (by omega) rfl
end
end Go.Proofs.Ytkekjcdhlkhhoaa
