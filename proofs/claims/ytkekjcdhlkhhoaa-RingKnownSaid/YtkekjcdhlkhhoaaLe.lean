/- The walk of RingKnown, over any rings that do what is asked of them. -/
import Derived.Test.YtkekjcdhlkhhoaaLd
import Derived.Test.YtkekjcdhlkhhoaaGen7
import Derived.Laws.StructEq
namespace Go.Proofs.Ytkekjcdhlkhhoaa
open Go.RowKit Go.Shelf
attribute [local go_sem] store_one S_match S_store Oper.semAt_some

/-- A field as a value: of this name, of no value. -/
def fv (s : List UInt8) : Value := .agg #[S s, .string ⟨#[]⟩]
def encF (x : Nat × List UInt8) : Array Value := #[.int .i64 (x.1 : Int), fv x.2]
/-- What is asked of a ring of fields, as far as the chapter's examples go. -/
structure RingF (RF : World → (Nat → Prop) → Nat → Nat → List (List UInt8) → Prop) : Prop where
  lt : ∀ {w F g m xs}, RF w F g m xs → F g ∧ ∀ k, F k → k < w.heap.size
  same : ∀ {w w' : World} {F g m xs}, RF w F g m xs → w.heap.size ≤ w'.heap.size → (∀ k, F k → w'.heap[k]? = w.heap[k]?) → RF w' F g m xs
  new_good : ∀ (m : Nat) (w : World), 1 ≤ m → m ≤ 65536 → Calls Try.prog 8 #[.int .i64 (m : Int)] w fun e w' => ∃ g F, e = .returned (.tuple #[.pointer (some ⟨g, 0, none⟩), .int .i64 0]) ∧ RF w' F g m [] ∧ (∀ k, F k → w.heap.size ≤ k) ∧ Below w.heap.size w w'
  push : ∀ {w F g m xs} (x : List UInt8), RF w F g m xs → x.length ≤ maxLen → Calls Try.prog 9 #[.pointer (some ⟨g, 0, none⟩), fv x] w fun e w' => e = .returned (.bool (decide (xs.length < m))) ∧ ∃ F', RF w' F' g m (if xs.length < m then xs ++ [x] else xs) ∧ Moves F F' w w'
  pop_some : ∀ {w F g m} {x : List UInt8} {r}, RF w F g m (x :: r) → Calls Try.prog 10 #[.pointer (some ⟨g, 0, none⟩)] w fun e w' => e = .returned (.tuple #[fv x, .bool true]) ∧ ∃ F', RF w' F' g m r ∧ Moves F F' w w'
  at_none : ∀ {w F g m xs} (n : Int), RF w F g m xs → (n < 0 ∨ (xs.length : Int) ≤ n) → Calls Try.prog 12 #[.pointer (some ⟨g, 0, none⟩), .int .i64 n] w fun e w' => e = .returned (.tuple #[fv [], .bool false]) ∧ Below w.heap.size w w'
  clear : ∀ {w F g m xs}, RF w F g m xs → Calls Try.prog 15 #[.pointer (some ⟨g, 0, none⟩)] w fun e w' => e = .returned (.int .i64 (xs.length : Int)) ∧ ∃ F', RF w' F' g m [] ∧ Moves F F' w w'
  len : ∀ {w F g m xs}, RF w F g m xs → Calls Try.prog 16 #[.pointer (some ⟨g, 0, none⟩)] w fun e w' => e = .returned (.int .i64 (xs.length : Int)) ∧ Below w.heap.size w w'
  all : ∀ {w F g m xs}, RF w F g m xs → Calls Try.prog 11 #[.pointer (some ⟨g, 0, none⟩)] w fun e w' => ∃ gf lb k Kb, e = .returned (.func (.func gf) #[] lb) ∧ Below w.heap.size w w' ∧ (∀ r, Kb r → w.heap.size ≤ r ∧ r < w'.heap.size) ∧
    (∀ args W, (callFunc gf args).run Try.prog W = .ok (.enter gf args) W) ∧ ∀ n, SeqL Try.prog n gf lb encF k Kb (placed xs) (fun W => Below w'.heap.size w' W)
  int_bad : ∀ (n : Int) (w : World), n < 1 ∨ 65536 < n → Calls Try.prog 13 #[.int .i64 n] w fun e w' => e = .returned (.tuple #[.pointer none, .int .i64 1]) ∧ Below w.heap.size w w'
  int_good : ∀ (n : Int) (w : World), 1 ≤ n → n ≤ 65536 → Calls Try.prog 13 #[.int .i64 n] w fun e w' => ∃ g, e = .returned (.tuple #[.pointer (some g), .int .i64 0]) ∧ Below w.heap.size w w'

/-- One ring of fields made since w0. -/
def OneF (RF : World → (Nat → Prop) → Nat → Nat → List (List UInt8) → Prop) (w0 : World) (g m : Nat) (xs : List (List UInt8)) (W : World) : Prop :=
  ∃ F, RF W F g m xs ∧ (∀ k, F k → w0.heap.size ≤ k) ∧ Below w0.heap.size w0 W
section
variable {RF : World → (Nat → Prop) → Nat → Nat → List (List UInt8) → Prop} {w0 W W' : World} {g m : Nat} {xs ys : List (List UInt8)}
theorem OneF.moves {F F' : Nat → Prop} (h0 : ∀ k, F k → w0.heap.size ≤ k) (hb : Below w0.heap.size w0 W) (h : RF W' F' g m ys) (hm : Moves F F' W W') : OneF RF w0 g m ys W' :=
  ⟨F', h, fun k hk => by
    rcases hm.foot k hk with h1 | h1
    · exact h0 k h1
    · have := hb.size; omega, hb.trans (hm.below h0 hb.size)⟩
theorem OneF.below (R : RingF RF) (H : OneF RF w0 g m xs W) (hb : Below W.heap.size W W') : OneF RF w0 g m xs W' := by
  obtain ⟨F, h, h0, h1⟩ := H
  exact ⟨F, R.same h hb.size (fun k hk => hb.block k ((R.lt h).2 k hk)), h0, h1.trans (hb.mono h1.size)⟩
end
/-- What holds while it is walked: the ring holds two fields, and names are in block c. -/
structure Kn (RF : World → (Nat → Prop) → Nat → Nat → List (List UInt8) → Prop) (w0 : World) (g c : Nat) (F : Nat → Prop) (s : List UInt8) (W : World) : Prop where
  r : RF W F g 2 [[98], [100]]
  off : ∀ k, F k → w0.heap.size ≤ k ∧ k < c
  bel : Below w0.heap.size w0 W
  nm : Row W c #[S s] 9
  lo : w0.heap.size ≤ c
section
variable {RF : World → (Nat → Prop) → Nat → Nat → List (List UInt8) → Prop} {w0 W W' : World} {g c : Nat} {F : Nat → Prop} {s : List UInt8}
theorem Kn.grown (R : RingF RF) {row : Option Nat} (H : Kn RF w0 g c F s W) (hg : W.grownBy W' row) (hr : ∀ k, row = some k → c + 1 ≤ k) : Kn RF w0 g c F s W' := by
  have hlo := H.lo
  exact ⟨R.same H.r hg.size (fun k hk => hg.block k ((R.lt H.r).2 k hk) (fun e => by have := hr k e.symm; have := (H.off k hk).2; omega)), H.off, H.bel.grown hg H.bel.size (fun k e => by have := hr k e; omega), row_grown H.nm hg (fun e => by have := hr _ e.symm; omega), H.lo⟩
theorem Kn.below (R : RingF RF) (H : Kn RF w0 g c F s W) (hb : Below W.heap.size W W') : Kn RF w0 g c F s W' :=
  H.grown R (row := none) ⟨hb.os, hb.tape, hb.output, hb.size, fun k hk _ => hb.block k hk⟩ (fun k e => by cases e)
theorem Kn.put (R : RingF RF) (H : Kn RF w0 g c F s W) (s' : List UInt8) : Kn RF w0 g c F s' (W.setCell ⟨c, 0, none⟩ (S s')) :=
  ⟨R.same H.r (by simp [World.setCell]) (fun k hk => Below.heap_setCell _ _ _ _ (by show k ≠ c; have := H.off k hk; omega)), H.off, H.bel.setCell (p := ⟨c, 0, none⟩) H.lo _, H.nm.set 0 (S s'), H.lo⟩
theorem kn_abides (R : RingF RF) {B K : Nat} {f : List (Nat × List UInt8) → List UInt8} (hB : c + 1 ≤ B) : AbidesIn B K (fun (pre : List (Nat × List UInt8)) W => Kn RF w0 g c F (f pre) W) := by
  rintro pre W W' row h hg hr
  exact h.grown R hg (fun k e => by have := hr k e; omega)
end
theorem placed_bd {pre : List (Nat × List UInt8)} {x : Nat × List UInt8} (h : pre ++ [x] <+: placed [[98], [100]]) : ∃ (p : Nat) (y : UInt8), x = (p, [y]) ∧ pre.length = p ∧ (p = 0 ∧ y = 98 ∨ p = 1 ∧ y = 100) := by
  obtain ⟨t, ht⟩ := h
  have e : placed [[98], [100]] = [(0, [98]), (1, [100])] := rfl
  rw [e] at ht
  match pre, ht with
  | [], ht => simp at ht; exact ⟨0, 98, ht.1, rfl, .inl ⟨rfl, rfl⟩⟩
  | [a], ht => simp at ht; exact ⟨1, 100, ht.2.1, rfl, .inr ⟨rfl, rfl⟩⟩
  | a :: b :: r, ht => simp at ht
theorem known_end {w W : World} {D : Nat} {tmps : Array Value} (ha : Row W w.heap.size #[.bool false] 4) (hb : Below w.heap.size w W) (hd : W.heap[D]? = some (.deferred (some []))) (hD : w.heap.size + 1 ≤ D)
    (ht : tmps[0]? = some (.pointer (some ⟨w.heap.size, 0, none⟩))) :
    bodyPostM Fence.wide 5 Try.prog Try.f3 (fun e w' => e = .returned (.bool true) ∧ Below w.heap.size w w') .ret { tmps := tmps, defers := [{ target := .collected D, args := #[] }] } (W.setCell ⟨w.heap.size, 0, none⟩ (.bool true)) := by
  have ca := cell_of_row W _ 0 _ 4 (0, 0) ha
  have k2 : (W.setCell ⟨w.heap.size, 0, none⟩ (.bool true)).heap[D]? = some (.deferred (some [])) := (Below.heap_setCell _ _ _ _ (by show D ≠ w.heap.size; omega)).trans hd
  refine ⟨by simp, .inl ⟨_, _, rfl, run_takeDeferred k2, ?_⟩⟩
  have hc0 : (W.setCell ⟨w.heap.size, 0, none⟩ (.bool true)).cell? ⟨w.heap.size, 0, none⟩ = some (.bool true) := World.cell?_setCell_same _ _ _ ca
  have hc : ((W.setCell ⟨w.heap.size, 0, none⟩ (.bool true)).putObj D (.deferred none)).cell? ⟨w.heap.size, 0, none⟩ = some (.bool true) :=
    cell_kept hc0 (grownBy_putObj' _ _ (.deferred none)) (fun r e => by cases e; exact ⟨_, k2, rfl⟩)
  have hsz := hb.size
  refine ⟨.bool true, ?_, rfl, (hb.setCell (p := ⟨w.heap.size, 0, none⟩) (Nat.le_refl _) _).grown (grownBy_putObj' _ _ _) (by simpa [World.setCell] using hsz) (fun k e => by cases e; omega)⟩
  simp [results, Try.f3, go_sem, hc, ht]
section
variable {RA : World → (Nat → Prop) → Nat → Nat → List (List UInt8) → Prop} {RF : World → (Nat → Prop) → Nat → Nat → List (List UInt8) → Prop}
set_option maxRecDepth 100000 in
set_option maxHeartbeats 4000000 in
theorem known_any (RS : RingS RA) (R : RingF RF) (w : World) :
    Calls Try.prog 3 #[] w fun e w' => e = .returned (.bool true) ∧ Below w.heap.size w w' := by
  refine (callsIn_wide (n := 5)).1 (callsIn_of_wp_marks Try.func3 rfl trivial ?_ rfl)
  simp only [Try.ntmps3, List.size_toArray, List.length_nil, Nat.reduceSub, Array.replicate_succ, Array.replicate_zero, List.push_toArray, List.append_toArray, List.nil_append, List.cons_append]
  rw [wpIn_wide]
  have hnl : ∀ (f : Fn) (x y : Array Value) w, (binOp .eql 32 (.func f x y) .nilFunc).run Try.prog w = .ok (.bool false) w := fun f x y w => eql_nilFunc Try.underlying32 _ _ _ w
  obtain ⟨w0, hw0⟩ : ∃ w0, w0 = w.alloc (.cells #[.bool false] 4) := ⟨_, rfl⟩
  have HA0 : Hid (Row w0 w.heap.size #[.bool false] 4 ∧ Below w.heap.size w w0 ∧ w.heap.size + 1 ≤ w0.heap.size) := Lib.hid (by rw [hw0]; exact ⟨row_new w #[.bool false] 4, (Below.refl w.heap.size w).alloc (Nat.le_refl _) _, by simp⟩)
  go_wp2_with fail
  rw [← hw0]
  clear hw0
  refine (R.new_good 2 w0 (by decide) (by decide)).mono ?_
  rintro e W1 ⟨g, F1, rfl, h1, f1, b1⟩
  have H1 : Hid (OneF RF w0 g 2 [] W1) := Lib.hid ⟨F1, h1, f1, b1⟩
  clear h1 f1 b1
  obtain ⟨F2, r2, f2, b2⟩ := H1.out
  have h2 : Calls Try.prog 9 #[.pointer (some ⟨g, 0, none⟩), .agg #[.string ⟨#[97]⟩, .string ⟨#[]⟩]] W1 fun e w' => e = .returned (.bool true) ∧ ∃ F', RF w' F' g 2 [[97]] ∧ Moves F2 F' W1 w' := R.push [97] r2 (by decide)
  go_wp2_with fail
  refine h2.mono ?_
  rintro e W2 ⟨rfl, G2, q2, m2⟩
  have H2 := Lib.hid (OneF.moves f2 b2 q2 m2)
  clear r2 f2 b2 h2 q2 m2 H1
  obtain ⟨F2, r2, f2, b2⟩ := H2.out
  have h2 : Calls Try.prog 9 #[.pointer (some ⟨g, 0, none⟩), .agg #[.string ⟨#[98]⟩, .string ⟨#[]⟩]] W2 fun e w' => e = .returned (.bool true) ∧ ∃ F', RF w' F' g 2 [[97], [98]] ∧ Moves F2 F' W2 w' := R.push [98] r2 (by decide)
  go_wp2_with fail
  refine h2.mono ?_
  rintro e W3 ⟨rfl, G2, q2, m2⟩
  have H3 := Lib.hid (OneF.moves f2 b2 q2 m2)
  clear r2 f2 b2 h2 q2 m2 H2
  obtain ⟨F2, r2, f2, b2⟩ := H3.out
  have h2 : Calls Try.prog 10 #[.pointer (some ⟨g, 0, none⟩)] W3 fun e w' => e = .returned (.tuple #[.agg #[.string ⟨#[97]⟩, .string ⟨#[]⟩], .bool true]) ∧ ∃ F', RF w' F' g 2 [[98]] ∧ Moves F2 F' W3 w' := R.pop_some r2
  go_wp2_with fail
  refine h2.mono ?_
  rintro e W4 ⟨rfl, G2, q2, m2⟩
  have H4 := Lib.hid (OneF.moves f2 b2 q2 m2)
  clear r2 f2 b2 h2 q2 m2 H3
  obtain ⟨F2, r2, f2, b2⟩ := H4.out
  have h2 : Calls Try.prog 9 #[.pointer (some ⟨g, 0, none⟩), .agg #[.string ⟨#[100]⟩, .string ⟨#[]⟩]] W4 fun e w' => e = .returned (.bool true) ∧ ∃ F', RF w' F' g 2 [[98], [100]] ∧ Moves F2 F' W4 w' := R.push [100] r2 (by decide)
  go_wp2_with fail
  refine h2.mono ?_
  rintro e W5 ⟨rfl, G2, q2, m2⟩
  have H5 := Lib.hid (OneF.moves f2 b2 q2 m2)
  clear r2 f2 b2 h2 q2 m2 H4
  go_wp2_with fail
  obtain ⟨c, hc⟩ : ∃ c, c = W5.heap.size := ⟨_, rfl⟩
  have hK : Hid (∃ F, Kn RF w0 g c F [] (W5.alloc (.cells #[.string ⟨#[]⟩] 9))) := Lib.hid (by
    obtain ⟨F, r, f, b⟩ := H5.out
    have hb : Below W5.heap.size W5 (W5.alloc (.cells #[.string ⟨#[]⟩] 9)) := (Below.refl _ W5).alloc (Nat.le_refl _) _
    rw [hc]
    exact ⟨F, R.same r hb.size (fun k hk => hb.block k ((R.lt r).2 k hk)), fun k hk => ⟨f k hk, (R.lt r).2 k hk⟩, b.trans (hb.mono b.size), row_new W5 #[.string ⟨#[]⟩] 9, b.size⟩)
  rw [← hc]
  clear hc H5
  generalize (W5.alloc (.cells #[.string ⟨#[]⟩] 9)) = W6 at *
  obtain ⟨F, hK6⟩ := hK.out
  have H6 := Lib.hid hK6
  clear hK6 hK
  refine (R.all H6.out.r).mono ?_
  rintro e W7 ⟨gf3, lb3, _, _, rfl, hb, _⟩
  have H7 := Lib.hid (H6.out.below R hb)
  clear hb H6
  go_wp2_with fail
  refine (R.all H7.out.r).mono ?_
  rintro e W8 ⟨gf, lb, K, Kb, rfl, hb, hKb, eg, hseq⟩
  have H8 := Lib.hid (H7.out.below R hb)
  have hKb2 : ∀ r, Kb r → w0.heap.size ≤ r ∧ c + 1 ≤ r ∧ r < W8.heap.size := fun r hr => by have := hKb r hr; have := H7.out.nm.lt; have := H7.out.lo; omega
  clear hb H7 hKb
  go_wp2
  rw [← wpIn_wide (n := 5)]
  have hc8 := H8.out.nm.lt
  refine wpIn_rangeFunc_L3 (gf := gf) (lb := lb) rfl eg hseq (fun r hr => (hKb2 r hr).2.2) (fun W hb => hb) (fun _ => rfl)
    (fun pre W => Kn RF w0 g c F (([98, 100] : List UInt8).take pre.length) W) (fun _ _ _ => False) (kn_abides R (by omega)) (fun _ _ _ _ _ hs _ _ => hs)
    H8.out ?round ?done ?stop
  case round =>
    rintro l pre x W Kc hpx hO hsz hKc
    obtain ⟨p, y, hx, hp, hst⟩ : ∃ (p : Nat) (y : UInt8), x = (p, [y]) ∧ pre.length = p ∧ (p = 0 ∧ y = 98 ∨ p = 1 ∧ y = 100) := placed_bd hpx
    subst hx
    have hOW := Lib.hid hO
    have hp1 : (pre ++ [(p, [y])]).length = p + 1 := by rw [List.length_append, hp]; rfl
    rw [hp] at hOW
    clear hO hpx
    unfold encF fv
    gi_wp2
    refine hKc _ _ ((Below.refl _ W).alloc (Nat.le_refl _) _) (fun W2 hg2 => ?_)
    have hAl : Below W.heap.size W (W.alloc (.cells #[S [y], .string ⟨#[]⟩] 27)) := (Below.refl _ W).alloc (Nat.le_refl _) _
    have hx2 : Row W2 W.heap.size #[S [y], .string ⟨#[]⟩] 27 := row_grown (row_new W #[S [y], .string ⟨#[]⟩] 27) hg2 (by intro e; have := Option.some.inj e; omega)
    have hO2 := (hOW.out.below R hAl).grown R hg2 (fun k e => by cases e; omega)
    clear hg2 hKc hAl
    have hcx : c ≠ W.heap.size := by omega
    have cx := cell_of_row W2 _ 0 _ 27 (0, 0) hx2
    have HO2 := Lib.hid (And.intro hO2 hx2)
    generalize W.heap.size = bx at *
    rcases hst with ⟨rfl, rfl⟩ | ⟨rfl, rfl⟩
    · have hnm : Row W2 c #[.string ⟨#[]⟩] 9 := hO2.nm
      have cn := cell_of_row W2 _ 0 _ 9 (0, 0) hnm
      have fn := Row.frozen hnm 0
      replace cx : W2.cell? ⟨bx, 0, none⟩ = some (.string ⟨#[98]⟩) := cx
      clear hO2 hx2 hnm
      gi_wp2
      refine ⟨⟨by simp [World.setCell], fun r hr => Below.heap_setCell _ _ _ _ (by
        show r ≠ c
        rcases hr with hr | hr
        · have := hKb2 r hr; omega
        · omega)⟩, ?_⟩
      show Kn RF w0 g c F (([98, 100] : List UInt8).take (pre ++ [(0, [98])]).length) _
      rw [hp1]
      exact HO2.out.1.put R [98]
    · have hnm : Row W2 c #[.string ⟨#[98]⟩] 9 := hO2.nm
      have cn := cell_of_row W2 _ 0 _ 9 (0, 0) hnm
      have fn := Row.frozen hnm 0
      replace cx : W2.cell? ⟨bx, 0, none⟩ = some (.string ⟨#[100]⟩) := cx
      clear hO2 hx2 hnm
      gi_wp2
      refine ⟨⟨by simp [World.setCell], fun r hr => Below.heap_setCell _ _ _ _ (by
        show r ≠ c
        rcases hr with hr | hr
        · have := hKb2 r hr; omega
        · omega)⟩, ?_⟩
      show Kn RF w0 g c F (([98, 100] : List UInt8).take (pre ++ [(1, [100])]).length) _
      rw [hp1]
      exact HO2.out.1.put R [98, 100]
  case done =>
    rintro W9 hO9 hK9
    have hO9' : Kn RF w0 g c F [98, 100] W9 := hO9
    have H9 := Lib.hid (And.intro hO9' hK9)
    have hD8 : W8.heap.size < W9.heap.size := (Array.getElem?_eq_some_iff.1 hK9).1
    clear hO9 hO9' hK9 hseq eg hKb2 H8
    have h2 : Calls Try.prog 12 #[.pointer (some ⟨g, 0, none⟩), .int .i64 2] W9 fun e w' => e = .returned (.tuple #[.agg #[.string ⟨#[]⟩, .string ⟨#[]⟩], .bool false]) ∧ Below W9.heap.size W9 w' := R.at_none (w := W9) 2 H9.out.1.r (.inr (by decide))
    go_wp2_with fail
    refine h2.mono ?_
    rintro e W10 ⟨rfl, hb⟩
    have H10 := Lib.hid (And.intro (H9.out.1.below R hb) ((hb.block _ hD8).trans H9.out.2))
    have hD10 : W8.heap.size < W10.heap.size := by have := hb.size; omega
    clear hb H9 h2 hD8
    go_wp2_with fail
    obtain ⟨bx, hbx⟩ : ∃ bx, bx = W10.heap.size := ⟨_, rfl⟩
    rw [← hbx]
    obtain ⟨W11, hW11⟩ : ∃ W11, W11 = W10.alloc (.cells #[.string ⟨#[]⟩, .string ⟨#[]⟩] 27) := ⟨_, rfl⟩
    rw [← hW11]
    have hb : Below W10.heap.size W10 W11 := by rw [hW11]; exact (Below.refl _ W10).alloc (Nat.le_refl _) _
    have hx11 : Row W11 bx #[.string ⟨#[]⟩, .string ⟨#[]⟩] 27 := by rw [hW11, hbx]; exact row_new W10 #[.string ⟨#[]⟩, .string ⟨#[]⟩] 27
    have H11 := Lib.hid (And.intro (H10.out.1.below R hb) (And.intro hx11 ((hb.block _ hD10).trans H10.out.2)))
    have hD11 : W8.heap.size < W11.heap.size := by have := hb.size; omega
    have hDb : W8.heap.size < bx := by omega
    clear hb H10 hW11 hbx hx11 hD10
    refine (R.int_bad 0 W11 (.inl (by decide))).mono ?_
    rintro e W12 ⟨rfl, hb⟩
    have H12 := Lib.hid (And.intro (H11.out.1.below R hb) (And.intro (H11.out.2.1.below hb H11.out.2.1.lt) ((hb.block _ hD11).trans H11.out.2.2)))
    have hD12 : W8.heap.size < W12.heap.size := by have := hb.size; omega
    clear hb H11 hD11
    go_wp2_with fail
    refine (R.int_good 65536 W12 (by decide) (by decide)).mono ?_
    rintro e W13 ⟨gi, rfl, hb⟩
    have H13 := Lib.hid (And.intro (H12.out.1.below R hb) (And.intro (H12.out.2.1.below hb H12.out.2.1.lt) ((hb.block _ hD12).trans H12.out.2.2)))
    have hD13 : W8.heap.size < W13.heap.size := by have := hb.size; omega
    clear hb H12 hD12
    go_wp2_with fail
    refine (awake_any RS W13).mono ?_
    rintro e W14 ⟨rfl, hb⟩
    have H14 := Lib.hid (And.intro (H13.out.1.below R hb) (And.intro (H13.out.2.1.below hb H13.out.2.1.lt) ((hb.block _ hD13).trans H13.out.2.2)))
    have hD14 : W8.heap.size < W14.heap.size := by have := hb.size; omega
    clear hb H13 hD13
    have hnm : Row W14 c #[.string ⟨#[98, 100]⟩] 9 := H14.out.1.nm
    have cn := cell_of_row W14 _ 0 _ 9 (0, 0) hnm
    have cx0 := cell_of_row W14 _ 0 _ 27 (0, 0) H14.out.2.1
    have cx1 := cell_of_row W14 _ 1 _ 27 (0, 0) H14.out.2.1
    have heq : ∀ w, (binOp .eql 27 (.agg #[.string ⟨#[]⟩, .string ⟨#[]⟩]) (.agg #[.string ⟨#[]⟩, .string ⟨#[]⟩])).run Try.prog w = .ok (.bool true) w := fun w => by
      simp [go_sem, run_eql_struct]
    clear hnm
    go_wp2_with fail
    refine (R.clear H14.out.1.r).mono ?_
    rintro e W15 ⟨rfl, F', hr', hm'⟩
    have hlt14 := H14.out.1.nm.lt
    have hlo14 := H14.out.1.lo
    have hbel : Below w0.heap.size w0 W15 := H14.out.1.bel.trans (hm'.below (fun k hk => (H14.out.1.off k hk).1) H14.out.1.bel.size)
    have hK15 : W15.heap[W8.heap.size]? = some (.deferred (some [])) := (hm'.rest _ hD14 (fun hf => by have := H14.out.1.off _ hf; omega)).trans H14.out.2.2
    clear hm' H14 cn cx0 cx1 heq
    go_wp2_with fail
    refine (R.len hr').mono ?_
    rintro e W16 ⟨rfl, hb⟩
    have hz := HA0.out.1.lt
    have hz2 := HA0.out.2.2
    have hbel16 := hbel.trans (hb.mono hbel.size)
    have hans := HA0.out.1.below hbel16 HA0.out.1.lt
    have ca := cell_of_row W16 _ 0 _ 4 (0, 0) hans
    have fa := Row.frozen hans 0
    have hK16 := (hb.block _ (Array.getElem?_eq_some_iff.1 hK15).1).trans hK15
    go_wp2_with fail
    exact known_end hans (HA0.out.2.1.trans (hbel16.mono HA0.out.2.1.size)) hK16 (by omega) rfl
  case stop =>
    rintro c pre W _ h _
    exact h.elim
end
end Go.Proofs.Ytkekjcdhlkhhoaa
