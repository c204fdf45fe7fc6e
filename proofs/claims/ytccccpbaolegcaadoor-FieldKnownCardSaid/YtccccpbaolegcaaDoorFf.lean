/- FieldKnown walked, over any package that does what is asked of it. -/
import Derived.Test.YtccccpbaolegcaaDoorFc
namespace Go.Proofs.YtccccpbaolegcaaDoor
open Go.RowKit
attribute [local go_sem] store_one Oper.semAt_some S_match S_store

/-- A stroke behind each. -/
def slashF (l : List (List UInt8)) : List UInt8 := l.flatMap fun p => p ++ [47]
theorem slash_next (l : List (List UInt8)) (p : List UInt8) : slashF (l ++ [p]) = (slashF l ++ p) ++ [47] := by unfold slashF; simp
theorem slash_mono {a b : List (List UInt8)} (h : a <+: b) : (slashF a).length ≤ (slashF b).length := by
  obtain ⟨c, rfl⟩ := h
  unfold slashF
  rw [List.flatMap_append, List.length_append]; omega
theorem step_alloc {w W W' : World} {o : Obj} (h : Below w.heap.size w W) (hb : Below (W.alloc o).heap.size (W.alloc o) W') : Below w.heap.size w W' :=
  (h.alloc h.size o).trans (hb.mono (by have := h.size; simp; omega))
theorem flds_nil (w : World) (nm vl : Nat → List UInt8) : Flds w (.slice none 0 0) 0 0 0 nm vl := by
  refine ⟨⟨fun _ _ => .bool false, ⟨fun T w' => ?_, fun i hi => absurd hi (by omega), fun i j hi => absurd hi (by omega)⟩, fun i hi => absurd hi (by omega)⟩, by omega, fun i hi => absurd hi (by omega)⟩
  simp [Builtin.len_, run_underlying Tryd.underlying36, Result.andThen, goInt]
theorem kn_parts : partsF [97, 44, 32, 44, 98, 44, 44, 32, 67, 32] = [[97], [98], [67]] := by decide
/-- What stands about: the field that was read, and the text that grows. -/
structure Kn (w : World) (b : Nat) (x : List UInt8) (W : World) : Prop where
  fld : Row W b #[.string ⟨#[88]⟩, .string ⟨#[]⟩] 23
  txt : Row W (b + 1) #[S x] 9
  bel : Below w.heap.size w W
  lo : w.heap.size ≤ b
theorem Kn.below {w W W' : World} {b : Nat} {x : List UInt8} (h : Kn w b x W) (hb : Below W.heap.size W W') : Kn w b x W' :=
  ⟨h.fld.below hb h.fld.lt, h.txt.below hb h.txt.lt, h.bel.trans (hb.mono h.bel.size), h.lo⟩
theorem Kn.grown {w W W' : World} {b : Nat} {x : List UInt8} {row : Option Nat} (h : Kn w b x W) (hg : W.grownBy W' row) (hr : ∀ k, row = some k → b + 2 ≤ k) : Kn w b x W' :=
  ⟨row_grown h.fld hg (fun e => by have := hr _ e.symm; omega), row_grown h.txt hg (fun e => by have := hr _ e.symm; omega), h.bel.grown hg h.bel.size (fun k e => by have := hr k e; have := h.lo; omega), h.lo⟩
theorem Kn.set {w W : World} {b : Nat} {x : List UInt8} (h : Kn w b x W) (y : List UInt8) : Kn w b y (W.setCell ⟨b + 1, 0, none⟩ (S y)) :=
  ⟨h.fld.other (by show b ≠ b + 1; omega), h.txt.set 0 _, h.bel.setCell (p := ⟨b + 1, 0, none⟩) (by have := h.lo; show w.heap.size ≤ b + 1; omega) _, h.lo⟩
set_option maxRecDepth 100000 in
set_option maxHeartbeats 4000000 in
theorem known_any (F : FieldI) (w : World) : Calls Tryd.prog 3 #[] w fun e w' => e = .returned (.bool true) ∧ Below w.heap.size w w' := by
  have h1 : Hid (∀ w, Calls Tryd.prog 10 #[.string ⟨#[72, 111, 115, 116, 32, 58, 32, 97]⟩] w fun e w' => e = .returned (.tuple #[.agg #[.string ⟨#[]⟩, .string ⟨#[]⟩], .bool false]) ∧ Below w.heap.size w w') := Lib.hid fun w => F.parse [72, 111, 115, 116, 32, 58, 32, 97] w (by decide)
  have h2 : Hid (∀ w, Calls Tryd.prog 10 #[.string ⟨#[58, 32, 97]⟩] w fun e w' => e = .returned (.tuple #[.agg #[.string ⟨#[]⟩, .string ⟨#[]⟩], .bool false]) ∧ Below w.heap.size w w') := Lib.hid fun w => F.parse [58, 32, 97] w (by decide)
  have h3 : Hid (∀ w, Calls Tryd.prog 10 #[.string ⟨#[88, 58]⟩] w fun e w' => e = .returned (.tuple #[.agg #[.string ⟨#[88]⟩, .string ⟨#[]⟩], .bool true]) ∧ Below w.heap.size w w') := Lib.hid fun w => F.parse [88, 58] w (by decide)
  have h4 : Hid (∀ w, Calls Tryd.prog 12 #[.slice none 0 0, .string ⟨#[97]⟩] w fun e w' => e = .returned (.tuple #[.string ⟨#[]⟩, .int .i64 0]) ∧ Below w.heap.size w w') := Lib.hid fun w => F.get _ 0 0 0 (fun _ => []) (fun _ => []) [97] w (by decide) (flds_nil w _ _)
  have h5 : Hid (∀ w, Calls Tryd.prog 14 #[.string ⟨#[117, 112, 103, 114, 97, 100, 101, 100]⟩, .string ⟨#[117, 112, 103, 114, 97, 100, 101]⟩] w fun e w' => e = .returned (.bool false) ∧ Below w.heap.size w w') := Lib.hid fun w => F.has [117, 112, 103, 114, 97, 100, 101, 100] [117, 112, 103, 114, 97, 100, 101] w (by decide) (by decide)
  have h6 : Hid (∀ w, Calls Tryd.prog 15 #[.string ⟨#[]⟩] w fun e w' => e = .returned (.bool false) ∧ Below w.heap.size w w') := Lib.hid fun w => F.token [] w (by decide)
  have h7 : Hid (∀ w, Calls Tryd.prog 15 #[.string ⟨#[97, 32, 98]⟩] w fun e w' => e = .returned (.bool false) ∧ Below w.heap.size w w') := Lib.hid fun w => F.token [97, 32, 98] w (by decide)
  have h8 : Hid (∀ w, Calls Tryd.prog 16 #[.string ⟨#[]⟩, .string ⟨#[]⟩] w fun e w' => e = .returned (.bool true) ∧ Below w.heap.size w w') := Lib.hid fun w => F.alike [] [] w (by decide) (by decide)
  have h9 : Hid (∀ w, Calls Tryd.prog 16 #[.string ⟨#[64]⟩, .string ⟨#[96]⟩] w fun e w' => e = .returned (.bool false) ∧ Below w.heap.size w w') := Lib.hid fun w => F.alike [64] [96] w (by decide) (by decide)
  have hE : Hid (∀ W, Calls Tryd.prog 11 #[.string ⟨#[97, 44, 32, 44, 98, 44, 44, 32, 67, 32]⟩] W fun e w' => ∃ gf lb k Kb, e = .returned (.func (.func gf) #[] lb) ∧ Below W.heap.size W w' ∧ (∀ r, Kb r → W.heap.size ≤ r ∧ r < w'.heap.size) ∧
    (∀ args W, (callFunc gf args).run Tryd.prog W = .ok (.enter gf args) W) ∧ ∀ n, SeqL Tryd.prog n gf lb encS k Kb [[97], [98], [67]] (fun W => Below w'.heap.size w' W)) := Lib.hid fun W => by
      have := F.each [97, 44, 32, 44, 98, 44, 44, 32, 67, 32] W (by decide)
      rw [kn_parts] at this; exact this
  refine (callsIn_wide (n := 5)).1 (callsIn_of_wp_marks Tryd.func3 rfl trivial ?_ rfl)
  simp only [Tryd.ntmps3, List.size_toArray, List.length_nil, Nat.reduceSub, Array.replicate_succ, Array.replicate_zero, List.push_toArray, List.append_toArray, List.nil_append, List.cons_append]
  rw [wpIn_wide]
  go_wp2_with fail
  refine (h1.out _).mono ?_
  rintro e W1 ⟨rfl, hB⟩
  have H1 : Hid (Below w.heap.size w W1) := Lib.hid hB
  clear hB h1
  go_wp2_with fail
  refine (h2.out _).mono ?_
  rintro e W2 ⟨rfl, hB⟩
  have H2 : Hid (Below w.heap.size w W2) := Lib.hid (step_alloc H1.out hB)
  clear hB h2 H1
  go_wp2_with fail
  refine (h3.out _).mono ?_
  rintro e W3 ⟨rfl, hB⟩
  have H3 : Hid (Below w.heap.size w W3) := Lib.hid (step_alloc H2.out hB)
  clear hB h3 H2
  go_wp2_with fail
  obtain ⟨b, hb⟩ : ∃ b, b = W3.heap.size := ⟨_, rfl⟩
  obtain ⟨W4, hW4⟩ : ∃ W4, W4 = (W3.alloc (.cells #[.string ⟨#[88]⟩, .string ⟨#[]⟩] 23)).alloc (.cells #[.string ⟨#[]⟩] 9) := ⟨_, rfl⟩
  have H4 : Hid (Kn w b [] W4) := Lib.hid (by
    have h0 := H3.out
    rw [hW4, hb]
    refine ⟨(row_new W3 _ _).alloc _, ?_, (h0.alloc h0.size _).alloc (by have := h0.size; simp; omega) _, h0.size⟩
    have := row_new (W3.alloc (.cells #[.string ⟨#[88]⟩, .string ⟨#[]⟩] 23)) #[.string ⟨#[]⟩] 9
    rw [alloc_size] at this; exact this)
  rw [← hb, ← hW4]
  clear hb hW4 H3
  have hnl : ∀ (f : Fn) (x y : Array Value) w, (binOp .eql 27 (.func f x y) .nilFunc).run Tryd.prog w = .ok (.bool false) w := fun f x y w => eql_nilFunc Tryd.underlying27 _ _ _ w
  refine (hE.out _).mono ?_
  rintro e W5 ⟨gf3, lb3, _, _, rfl, hB, _⟩
  have H5 : Hid (Kn w b [] W5) := Lib.hid (H4.out.below hB)
  clear hB H4
  go_wp2_with fail
  refine (hE.out _).mono ?_
  rintro e W6 ⟨gf, lb, K, Kb, rfl, hB, hKb, eg, hseq⟩
  have H6 : Hid (Kn w b [] W6 ∧ (∀ r, Kb r → b + 2 ≤ r ∧ r < W6.heap.size) ∧ b + 2 ≤ W6.heap.size) := Lib.hid ⟨H5.out.below hB, fun r hr => by have := hKb r hr; have := H5.out.txt.lt; omega, by have := hB.size; have := H5.out.txt.lt; omega⟩
  clear hB H5 hKb hE
  go_wp2
  rw [← wpIn_wide (n := 5)]
  refine wpIn_rangeFunc_L2 (gf := gf) (lb := lb) rfl eg hseq (fun r hr => (H6.out.2.1 r hr).2) (fun W hb => hb) (fun _ => rfl)
    (fun pre W => Kn w b (slashF pre) W) (fun _ _ _ => False)
    ?hI (fun _ _ _ _ _ hs _ _ => hs) H6.out.1 ?round ?done ?stop
  case hI =>
    rintro pre W W' row h hg hr
    exact h.grown hg (fun k e => by have := hr k e; have := H6.out.2.2; omega)
  case round =>
    intro l pre x W1 Kc hpx hKc
    unfold encS
    gi_wp2
    rintro W hK hsz
    have hl := slash_mono hpx
    have hl2 : (slashF [[97], [98], [67]]).length = 6 := by decide
    rw [hl2, slash_next] at hl
    have ct := cell_of_row W _ 0 _ 9 (0, 0) hK.txt
    have ft := Row.frozen hK.txt 0
    obtain ⟨y, hy⟩ : ∃ y, y = slashF pre := ⟨_, rfl⟩
    rw [← hy] at ct hl
    have hle : ((y ++ x) ++ [47]).length ≤ 6 := hl
    rw [List.length_append, List.length_append] at hle
    have a1 : binOp .add 9 (S y) (S x) = pure (S (y ++ x)) := S_add 9 y x (by omega)
    have a2 : binOp .add 9 (S (y ++ x)) (.string ⟨#[47]⟩) = pure (S ((y ++ x) ++ [47])) := S_add 9 (y ++ x) [47] (by rw [List.length_append]; omega)
    have hn : (y ++ x) ++ [47] = slashF (pre ++ [x]) := by rw [slash_next, hy]
    have HI : Hid (Kn w b (slashF pre) W ∧ (y ++ x) ++ [47] = slashF (pre ++ [x])) := Lib.hid ⟨hK, hn⟩
    clear hl hl2 hle hK hn hy
    obtain ⟨z2, hz2⟩ : ∃ z2, z2 = (y ++ x) ++ [47] := ⟨_, rfl⟩
    rw [← hz2] at a2 HI
    clear hz2
    generalize y ++ x = z1 at *
    gi_wp2
    have hg := grown_cell W (b + 1) 0 (S z2)
    refine ⟨⟨hg.size, fun r hr => hg.block r ?_ (fun e => ?_)⟩, ?_⟩
    · rcases hr with hr | hr
      · have := H6.out.2.1 r hr; omega
      · omega
    · have e := Option.some.inj e
      have := H6.out.2.2
      rcases hr with hr | hr
      · have := H6.out.2.1 r hr; omega
      · omega
    · show Kn w b (slashF (pre ++ [x])) _
      rw [← HI.out.2]; exact HI.out.1.set z2
  case done =>
    rintro W hK hD
    have H7 : Hid (Kn w b (slashF [[97], [98], [67]]) W ∧ W.heap[W6.heap.size]? = some (.deferred (some []))) := Lib.hid ⟨hK, hD⟩
    clear hK hD
    go_wp2_with fail
    refine (h4.out _).mono ?_
    rintro e W8 ⟨rfl, hB⟩
    have H8 : Hid (Kn w b (slashF [[97], [98], [67]]) W8 ∧ W8.heap[W6.heap.size]? = some (.deferred (some []))) := Lib.hid ⟨H7.out.1.below hB, (hB.block _ (Array.getElem?_eq_some_iff.1 H7.out.2).1).trans H7.out.2⟩
    clear hB H7 h4
    go_wp2_with fail
    refine (awake_any F _).mono ?_
    rintro e W9 ⟨rfl, hB⟩
    have H9 : Hid (Kn w b (slashF [[97], [98], [67]]) W9 ∧ W9.heap[W6.heap.size]? = some (.deferred (some []))) := Lib.hid ⟨H8.out.1.below hB, (hB.block _ (Array.getElem?_eq_some_iff.1 H8.out.2).1).trans H8.out.2⟩
    clear hB H8
    have c0 := cell_of_row W9 _ 0 _ 23 (0, 0) H9.out.1.fld
    have c1 := cell_of_row W9 _ 1 _ 23 (0, 0) H9.out.1.fld
    have c2 : W9.cell? ⟨b + 1, 0, none⟩ = some (.string ⟨#[97, 47, 98, 47, 67, 47]⟩) := cell_of_row W9 _ 0 _ 9 (0, 0) H9.out.1.txt
    have heq : ∀ w, (binOp .eql 23 (.agg #[.string ⟨#[88]⟩, .string ⟨#[]⟩]) (.agg #[.string ⟨#[88]⟩, .string ⟨#[]⟩])).run Tryd.prog w = .ok (.bool true) w := fun w => by
      simp [go_sem, run_eql_struct]
    go_wp2_with fail
    clear c0 c1 c2 heq
    refine (h5.out _).mono ?_
    rintro e W10 ⟨rfl, hB⟩
    have H10 : Hid (Kn w b (slashF [[97], [98], [67]]) W10 ∧ W10.heap[W6.heap.size]? = some (.deferred (some []))) := Lib.hid ⟨H9.out.1.below hB, (hB.block _ (Array.getElem?_eq_some_iff.1 H9.out.2).1).trans H9.out.2⟩
    clear hB H9 h5
    go_wp2_with fail
    refine (h6.out _).mono ?_
    rintro e W11 ⟨rfl, hB⟩
    have H11 : Hid (Kn w b (slashF [[97], [98], [67]]) W11 ∧ W11.heap[W6.heap.size]? = some (.deferred (some []))) := Lib.hid ⟨H10.out.1.below hB, (hB.block _ (Array.getElem?_eq_some_iff.1 H10.out.2).1).trans H10.out.2⟩
    clear hB H10 h6
    go_wp2_with fail
    refine (h7.out _).mono ?_
    rintro e W12 ⟨rfl, hB⟩
    have H12 : Hid (Kn w b (slashF [[97], [98], [67]]) W12 ∧ W12.heap[W6.heap.size]? = some (.deferred (some []))) := Lib.hid ⟨H11.out.1.below hB, (hB.block _ (Array.getElem?_eq_some_iff.1 H11.out.2).1).trans H11.out.2⟩
    clear hB H11 h7
    go_wp2_with fail
    refine (h8.out _).mono ?_
    rintro e W13 ⟨rfl, hB⟩
    have H13 : Hid (Kn w b (slashF [[97], [98], [67]]) W13 ∧ W13.heap[W6.heap.size]? = some (.deferred (some []))) := Lib.hid ⟨H12.out.1.below hB, (hB.block _ (Array.getElem?_eq_some_iff.1 H12.out.2).1).trans H12.out.2⟩
    clear hB H12 h8
    go_wp2_with fail
    refine (h9.out _).mono ?_
    rintro e W14 ⟨rfl, hB⟩
    have H14 : Hid (Kn w b (slashF [[97], [98], [67]]) W14 ∧ W14.heap[W6.heap.size]? = some (.deferred (some []))) := Lib.hid ⟨H13.out.1.below hB, (hB.block _ (Array.getElem?_eq_some_iff.1 H13.out.2).1).trans H13.out.2⟩
    clear hB H13 h9
    go_wp2
    refine ⟨by simp, .inl ⟨_, _, rfl, run_takeDeferred H14.out.2, ?_⟩⟩
    have hsz := H14.out.1.bel.size
    refine ⟨.bool true, ?_, rfl, H14.out.1.bel.grown (grownBy_putObj' _ _ _) hsz (fun k e => by cases e; have := H6.out.2.2; have := H6.out.1.lo; omega)⟩
    simp [results, Tryd.f3, go_sem]
  case stop => exact fun c pre W hpre h hK => h.elim
end Go.Proofs.YtccccpbaolegcaaDoor
