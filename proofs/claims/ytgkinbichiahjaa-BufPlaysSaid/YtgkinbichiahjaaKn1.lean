/- The walk of BufKnown. -/
import Derived.Test.YtgkinbichiahjaaA1
namespace Go.Proofs.Ytgkinbichiahjaa
open Go.RowKit
attribute [local go_sem] store_one S_match S_store

theorem BufAt.also {w w' : World} {g : Nat} {A : Nat → Prop} {mk : Bool} {m : Nat} {x : List UInt8} (h : BufAt w g A mk m x) (hb : Below w.heap.size w w') (A' : Nat → Prop) (hA : ∀ k, A' k → A k ∨ (w.heap.size ≤ k ∧ k < w'.heap.size)) : BufAt w' g A' mk m x := by
  have h' := h.below hb
  obtain ⟨⟨v, pre, hl, ha, hp⟩, h1, h2, h3⟩ := h
  refine ⟨⟨v, pre, ⟨hl.1.below hb hl.1.lt, ?_⟩, fun k hk => ⟨fun hk' => ?_, (ha k hk).2⟩, hp⟩, h1, h2, fun k hk => ?_⟩
  · exact hl.2.kept (row := none) ⟨hb.os, hb.tape, hb.output, hb.size, fun k hk _ => hb.block k hk⟩ (by cases v.ownBlock <;> simp)
  · rcases hA k hk' with h | h
    · exact (ha k hk).1 h
    · have := (hl.2.lt k hk).2; omega
  · rcases hA k hk with h | h
    · exact Nat.lt_of_lt_of_le (h3 k h) hb.size
    · exact h.2
theorem FreshAt.spare {w w' : World} {g m b : Nat} {A : Nat → Prop} (h : FreshAt w g m) (hs : Spare b A w w') (hA : A g) (hn : g ≠ b) : FreshAt w' g m := by
  unfold FreshAt Row; rw [hs.block g hA hn]; exact h
theorem FreshAt.below {w w' : World} {g m : Nat} (h : FreshAt w g m) (hb : Below w.heap.size w w') : FreshAt w' g m := Row.below h hb h.lt
/-- What is below g, and f. -/
def With (g f : Nat) : Nat → Prop := fun k => k < g ∨ k = f
theorem Spare.belowW {w w' : World} {g f : Nat} (h : Spare g (With g f) w w') : Below g w w' :=
  ⟨h.os, h.tape, h.output, h.size, fun k hk => h.block k (.inl hk) (by omega)⟩
theorem BufAt.lt {w : World} {g : Nat} {A : Nat → Prop} {mk : Bool} {m : Nat} {x : List UInt8} (h : BufAt w g A mk m x) : g < w.heap.size := by
  obtain ⟨⟨v, pre, hl, _⟩, _⟩ := h
  exact hl.1.lt
/-- The two buffers of BufKnown. -/
structure Two (w0 : World) (g f : Nat) (x : List UInt8) (w : World) : Prop where
  b : BufAt w g (With g f) true 5 x
  f : FreshAt w f 0
  bel : Below g w0 w
theorem Two.below {w0 w w' : World} {g f : Nat} {x : List UInt8} (h : Two w0 g f x w) (hb : Below w.heap.size w w') : Two w0 g f x w' :=
  ⟨h.b.below hb, h.f.below hb, h.bel.trans (hb.mono (Nat.le_of_lt h.b.lt))⟩
theorem Two.spare {w0 w w' : World} {g f : Nat} {x y : List UInt8} (h : Two w0 g f x w) (hfg : f ≠ g) (hb : BufAt w' g (With g f) true 5 y) (hs : Spare g (With g f) w w') : Two w0 g f y w' :=
  ⟨hb, h.f.spare hs (.inr rfl) hfg, h.bel.trans hs.belowW⟩

set_option maxRecDepth 100000 in
set_option maxHeartbeats 2000000 in
theorem known_any (w : World) (hm : MaxAt w) : Calls Try.prog 3 #[] w fun e w' => e = .returned (.bool true) ∧ Below w.heap.size w w' := by
  have hpos := hm.pos
  go_enter Try.func3, Try.ntmps3
  go_wp2_with fail
  refine (new_good 5 w (by decide)).mono ?_
  rintro e W1 ⟨rfl, hF, hz, hB1⟩
  have b1 : BufAt W1 w.heap.size (Under w.heap.size) true 5 [] := hF.buf _ (fun k hk => by unfold Under at hk; omega) (by decide)
  have H1 := Lib.hid (And.intro b1 hB1)
  clear hF b1 hB1 hz
  generalize hg : w.heap.size = g at *
  go_wp2_with fail
  have h2 : Calls Try.prog 9 #[.pointer (some ⟨g, 0, none⟩), .string ⟨#[97, 98, 99, 100, 101]⟩] W1 fun e w' => e = .returned (.int .i64 5) ∧ BufAt w' g (Under g) true 5 [97, 98, 99, 100, 101] ∧ Spare g (Under g) W1 w' :=
    write_any g (Under g) true 5 [] [97, 98, 99, 100, 101] W1 H1.out.1 (by decide)
  refine h2.mono ?_
  rintro e W2 ⟨rfl, b2, s2⟩
  have H2 := Lib.hid (And.intro b2 (H1.out.2.trans (s2.below (Nat.le_refl _))))
  clear b2 s2 h2
  go_wp2_with fail
  have h3 : Calls Try.prog 10 #[.pointer (some ⟨g, 0, none⟩), .string ⟨#[]⟩] W2 fun e w' => e = .returned (.int .i64 0) ∧ Below W2.heap.size W2 w' := by
    have := find_any g (Under g) 5 [97, 98, 99, 100, 101] [] W2 H2.out.1 (by decide) (hm.below H2.out.2 hpos)
    rw [show findF [97, 98, 99, 100, 101] [] 0 = 0 from by rw [findF_zero]; decide] at this
    exact this
  refine h3.mono ?_
  rintro e W3 ⟨rfl, s3⟩
  have H3 := Lib.hid (And.intro (H2.out.1.below s3) (H2.out.2.trans (s3.mono (Nat.le_of_lt H2.out.1.lt))))
  clear s3 h3
  go_wp2_with fail
  have h4 : Calls Try.prog 10 #[.pointer (some ⟨g, 0, none⟩), .string ⟨#[100, 101]⟩] W3 fun e w' => e = .returned (.int .i64 3) ∧ Below W3.heap.size W3 w' := by
    have := find_any g (Under g) 5 [97, 98, 99, 100, 101] [100, 101] W3 H3.out.1 (by decide) (hm.below H3.out.2 hpos)
    rw [show findF [97, 98, 99, 100, 101] [100, 101] 0 = 3 from by rw [findF_zero]; decide] at this
    exact this
  refine h4.mono ?_
  rintro e W4 ⟨rfl, s4⟩
  have H4 := Lib.hid (And.intro (H3.out.1.below s4) (H3.out.2.trans (s4.mono (Nat.le_of_lt H3.out.1.lt))))
  clear s4 h4
  go_wp2_with fail
  have h5 : Calls Try.prog 11 #[.pointer (some ⟨g, 0, none⟩), .int .i64 4] W4 fun e w' => e = .returned (.string ⟨#[97, 98, 99, 100]⟩) ∧ BufAt w' g (Under g) true 5 [101] ∧ Spare g (Under g) W4 w' :=
    read_any g (Under g) true 5 [97, 98, 99, 100, 101] 4 W4 H4.out.1
  refine h5.mono ?_
  rintro e W5 ⟨rfl, b5, s5⟩
  have H5 := Lib.hid (And.intro b5 (H4.out.2.trans (s5.below (Nat.le_refl _))))
  clear b5 s5 h5
  go_wp2_with fail
  refine (new_good 0 W5 (by decide)).mono ?_
  rintro e W6 ⟨rfl, hF, hz, hB6⟩
  have H6 : Hid (Two w g W5.heap.size [101] W6 ∧ g < W5.heap.size ∧ W5.heap.size < W6.heap.size) := Lib.hid ⟨⟨H5.out.1.also hB6 _ (fun k hk => by
    rcases hk with h | h
    · exact .inl h
    · exact .inr (by omega)), hF, H5.out.2.trans (hB6.mono (Nat.le_of_lt H5.out.1.lt))⟩, H5.out.1.lt, by omega⟩
  clear hF hz hB6
  generalize W5.heap.size = f at *
  go_wp2_with fail
  have h7 := awake_any W6 (hm.below H6.out.1.bel hpos)
  refine h7.mono ?_
  rintro e W7 ⟨rfl, s7⟩
  have H7 := Lib.hid (H6.out.1.below s7)
  clear s7 h7
  go_wp2_with fail
  have h8 : Calls Try.prog 10 #[.pointer (some ⟨g, 0, none⟩), .string ⟨#[97]⟩] W7 fun e w' => e = .returned (.int .i64 (-1)) ∧ Below W7.heap.size W7 w' := by
    have := find_any g (With g f) 5 [101] [97] W7 H7.out.b (by decide) (hm.below H7.out.bel hpos)
    rw [show findF [101] [97] 0 = -1 from by rw [findF_zero]; decide] at this
    exact this
  refine h8.mono ?_
  rintro e W8 ⟨rfl, s8⟩
  have H8 := Lib.hid (H7.out.below s8)
  clear s8 h8
  go_wp2_with fail
  have h9 : Calls Try.prog 11 #[.pointer (some ⟨g, 0, none⟩), .int .i64 (-1)] W8 fun e w' => e = .returned (.string ⟨#[]⟩) ∧ BufAt w' g (With g f) true 5 [101] ∧ Spare g (With g f) W8 w' :=
    read_any g (With g f) true 5 [101] (-1) W8 H8.out.b
  refine h9.mono ?_
  rintro e W9 ⟨rfl, b9, s9⟩
  have H9 := Lib.hid (H8.out.spare (Nat.ne_of_gt H6.out.2.1) b9 s9)
  clear b9 s9 h9
  go_wp2_with fail
  have h10 : Calls Try.prog 11 #[.pointer (some ⟨g, 0, none⟩), .int .i64 (0)] W9 fun e w' => e = .returned (.string ⟨#[]⟩) ∧ BufAt w' g (With g f) true 5 [101] ∧ Spare g (With g f) W9 w' :=
    read_any g (With g f) true 5 [101] (0) W9 H9.out.b
  refine h10.mono ?_
  rintro e W10 ⟨rfl, b10, s10⟩
  have H10 := Lib.hid (H9.out.spare (Nat.ne_of_gt H6.out.2.1) b10 s10)
  clear b10 s10 h10
  go_wp2_with fail
  have h11 : Calls Try.prog 11 #[.pointer (some ⟨g, 0, none⟩), .int .i64 (9)] W10 fun e w' => e = .returned (.string ⟨#[101]⟩) ∧ BufAt w' g (With g f) true 5 [] ∧ Spare g (With g f) W10 w' :=
    read_any g (With g f) true 5 [101] (9) W10 H10.out.b
  refine h11.mono ?_
  rintro e W11 ⟨rfl, b11, s11⟩
  have H11 := Lib.hid (H10.out.spare (Nat.ne_of_gt H6.out.2.1) b11 s11)
  clear b11 s11 h11
  go_wp2_with fail
  have h12 : Calls Try.prog 11 #[.pointer (some ⟨g, 0, none⟩), .int .i64 (1)] W11 fun e w' => e = .returned (.string ⟨#[]⟩) ∧ BufAt w' g (With g f) true 5 [] ∧ Spare g (With g f) W11 w' :=
    read_any g (With g f) true 5 [] (1) W11 H11.out.b
  refine h12.mono ?_
  rintro e W12 ⟨rfl, b12, s12⟩
  have H12 := Lib.hid (H11.out.spare (Nat.ne_of_gt H6.out.2.1) b12 s12)
  clear b12 s12 h12
  have bf : BufAt W12 f (Under W12.heap.size) true 0 [] := H12.out.f.buf _ (fun k hk => hk) (by decide)
  have HF := Lib.hid bf
  clear bf
  go_wp2_with fail
  have h13 : Calls Try.prog 9 #[.pointer (some ⟨f, 0, none⟩), .string ⟨#[120]⟩] W12 fun e w' => e = .returned (.int .i64 0) ∧ BufAt w' f (Under W12.heap.size) true 0 [] ∧ Spare f (Under W12.heap.size) W12 w' :=
    write_any f (Under W12.heap.size) true 0 [] [120] W12 HF.out (by decide)
  refine h13.mono ?_
  rintro e W13 ⟨rfl, b13, s13⟩
  have H13 : Hid (BufAt W13 f (Under W12.heap.size) true 0 [] ∧ Below g w W13) := Lib.hid ⟨b13, H12.out.bel.trans ⟨s13.os, s13.tape, s13.output, s13.size, fun k hk => s13.block k (by have := H12.out.b.lt; unfold Under; omega) (by have := H6.out.2.1; omega)⟩⟩
  clear b13 s13 h13
  go_wp2_with fail
  have h14 : Calls Try.prog 13 #[.pointer (some ⟨f, 0, none⟩)] W13 fun e w' => e = .returned (.int .i64 0) ∧ Drawn W13 w' :=
    room_any f _ true 0 [] W13 H13.out.1
  refine h14.mono ?_
  rintro e W14 ⟨rfl, s14⟩
  have H14 := Lib.hid (And.intro (H13.out.1.drawn s14) (H13.out.2.trans ((Spare.of_drawn (g := g) (A := Under g) s14).below (Nat.le_refl _))))
  clear s14 h14
  go_wp2_with fail
  have h15 : Calls Try.prog 10 #[.pointer (some ⟨f, 0, none⟩), .string ⟨#[]⟩] W14 fun e w' => e = .returned (.int .i64 0) ∧ Below W14.heap.size W14 w' := by
    have := find_any f _ 0 [] [] W14 H14.out.1 (by decide) (hm.below H14.out.2 hpos)
    rw [show findF [] [] 0 = 0 from by rw [findF_zero]; decide] at this
    exact this
  refine h15.mono ?_
  rintro e W15 ⟨rfl, s15⟩
  have hgw : g ≤ W14.heap.size := by have := H14.out.2.size; omega
  have H15 := Lib.hid (H14.out.2.trans (s15.mono hgw))
  clear s15 h15
  go_wp2
  go_ret
  exact ⟨rfl, by rw [hg]; exact H15.out⟩
end Go.Proofs.Ytgkinbichiahjaa
