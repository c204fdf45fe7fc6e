/- The wake walked. -/
import Derived.Test.YtgkinbichiahjaaK6
namespace Go.Proofs.Ytgkinbichiahjaa
open Go.RowKit
attribute [local go_sem] store_one S_match S_store

/-- The blocks below n. -/
def Under (n : Nat) : Nat → Prop := fun k => k < n
theorem Spare.below {w w' : World} {g n : Nat} (h : Spare g (Under n) w w') (hg : n ≤ g) : Below n w w' :=
  ⟨h.os, h.tape, h.output, h.size, fun k hk => h.block k hk (by omega)⟩

set_option maxRecDepth 100000 in
set_option maxHeartbeats 1000000 in
theorem awake_any (w : World) (hm : MaxAt w) : Calls Try.prog 12 #[] w fun e w' => e = .returned (.bool true) ∧ Below w.heap.size w w' := by
  have hpos := hm.pos
  go_enter Try.func12, Try.ntmps12
  go_wp2_with fail
  refine (new_good 5 w (by decide)).mono ?_
  rintro e W1 ⟨rfl, hF, hz, hB1⟩
  have b1 : BufAt W1 w.heap.size (Under w.heap.size) true 5 [] := hF.buf _ (fun k hk => by unfold Under at hk; omega) (by decide)
  have H1 := Lib.hid (And.intro b1 hB1)
  clear hF b1 hB1 hz
  generalize hg : w.heap.size = g at *
  go_wp2_with fail
  have h2 : Calls Try.prog 9 #[.pointer (some ⟨g, 0, none⟩), .string ⟨#[97, 98, 99]⟩] W1 fun e w' => e = .returned (.int .i64 3) ∧ BufAt w' g (Under g) true 5 [97, 98, 99] ∧ Spare g (Under g) W1 w' :=
    write_any g (Under g) true 5 [] [97, 98, 99] W1 H1.out.1 (by decide)
  refine h2.mono ?_
  rintro e W2 ⟨rfl, b2, s2⟩
  have H2 := Lib.hid (And.intro b2 (H1.out.2.trans (s2.below (Nat.le_refl _))))
  clear b2 s2 h2
  go_wp2_with fail
  have h3 : Calls Try.prog 9 #[.pointer (some ⟨g, 0, none⟩), .string ⟨#[100, 101, 102, 103]⟩] W2 fun e w' => e = .returned (.int .i64 2) ∧ BufAt w' g (Under g) true 5 [97, 98, 99, 100, 101] ∧ Spare g (Under g) W2 w' :=
    write_any g (Under g) true 5 [97, 98, 99] [100, 101, 102, 103] W2 H2.out.1 (by decide)
  refine h3.mono ?_
  rintro e W3 ⟨rfl, b3, s3⟩
  have H3 := Lib.hid (And.intro b3 (H2.out.2.trans (s3.below (Nat.le_refl _))))
  clear b3 s3 h3
  go_wp2_with fail
  have h4 : Calls Try.prog 17 #[.pointer (some ⟨g, 0, none⟩), .int .i64 2] W3 fun e w' => e = .returned (.string ⟨#[97, 98]⟩) ∧ Drawn W3 w' :=
    peek_any g (Under g) true 5 [97, 98, 99, 100, 101] 2 W3 H3.out.1
  refine h4.mono ?_
  rintro e W4 ⟨rfl, s4⟩
  have H4 := Lib.hid (And.intro (H3.out.1.drawn s4) (H3.out.2.trans ((Spare.of_drawn (g := g) (A := Under g) s4).below (Nat.le_refl _))))
  clear s4 h4
  go_wp2_with fail
  have h5 : Calls Try.prog 11 #[.pointer (some ⟨g, 0, none⟩), .int .i64 4] W4 fun e w' => e = .returned (.string ⟨#[97, 98, 99, 100]⟩) ∧ BufAt w' g (Under g) true 5 [101] ∧ Spare g (Under g) W4 w' :=
    read_any g (Under g) true 5 [97, 98, 99, 100, 101] 4 W4 H4.out.1
  refine h5.mono ?_
  rintro e W5 ⟨rfl, b5, s5⟩
  have H5 := Lib.hid (And.intro b5 (H4.out.2.trans (s5.below (Nat.le_refl _))))
  clear b5 s5 h5
  go_wp2_with fail
  have h6 : Calls Try.prog 13 #[.pointer (some ⟨g, 0, none⟩)] W5 fun e w' => e = .returned (.int .i64 4) ∧ Drawn W5 w' :=
    room_any g (Under g) true 5 [101] W5 H5.out.1
  refine h6.mono ?_
  rintro e W6 ⟨rfl, s6⟩
  have H6 := Lib.hid (And.intro (H5.out.1.drawn s6) (H5.out.2.trans ((Spare.of_drawn (g := g) (A := Under g) s6).below (Nat.le_refl _))))
  clear s6 h6
  go_wp2_with fail
  have h7 : Calls Try.prog 10 #[.pointer (some ⟨g, 0, none⟩), .string ⟨#[101]⟩] W6 fun e w' => e = .returned (.int .i64 0) ∧ Below W6.heap.size W6 w' := by
    have := find_any g (Under g) 5 [101] [101] W6 H6.out.1 (by decide) (hm.below H6.out.2 hpos)
    rw [show findF [101] [101] 0 = 0 from by rw [findF_zero]; decide] at this
    exact this
  refine h7.mono ?_
  rintro e W7 ⟨rfl, s7⟩
  have H7 := Lib.hid (And.intro (H6.out.1.below s7) (H6.out.2.trans (s7.mono (by have := H6.out.2.size; rw [← hg] at *; exact this))))
  clear s7 h7
  go_wp2_with fail
  have h8 : Calls Try.prog 20 #[.pointer (some ⟨g, 0, none⟩)] W7 fun e w' => e = .returned (.int .i64 1) ∧ Drawn W7 w' :=
    len_any g (Under g) true 5 [101] W7 H7.out.1
  refine h8.mono ?_
  rintro e W8 ⟨rfl, s8⟩
  have H8 := Lib.hid (H7.out.2.trans ((Spare.of_drawn (g := g) (A := Under g) s8).below (Nat.le_refl _)))
  clear s8 h8
  go_wp2
  go_ret
  exact ⟨rfl, by rw [hg]; exact H8.out⟩
end Go.Proofs.Ytgkinbichiahjaa
