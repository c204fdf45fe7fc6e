/- The law's own function bad; ChunkKnown walked. (mkcy.py writes it; its beginning is XCy.head.) -/
import Derived.Test.YtocekbfnefajhaaDoorCo
namespace Go.Proofs.YtocekbfnefajhaaDoor
open Go.RowKit
attribute [local go_sem] store_one S_match S_store

set_option maxRecDepth 100000 in
set_option maxHeartbeats 1000000 in
theorem cbad_any {RA : World → (Nat → Prop) → Nat → Cst → Prop} (C : ChunkI RA) (s : List UInt8) (n : Nat) (st : Cst) (hs : s.length ≤ 100000) (hr : Cst.new.run s = (n, st)) (w0 w : World) (hB : Below w0.heap.size w0 w) :
    Calls Tryd.prog 10 #[S s] w fun e w' => e = .returned (.tuple #[.int .i64 (st.badN : Int), .int .i64 (n : Int)]) ∧ Below w0.heap.size w0 w' := by
  have HC := Lib.hid C
  have HB := Lib.hid hB
  have HR := Lib.hid (And.intro hs hr)
  clear C hB hs hr
  go_enter Tryd.func10, Tryd.ntmps10
  go_wp2_with fail
  refine (One.make HC.out HB.out).mono ?_
  rintro e W1 ⟨g, rfl, h1⟩
  have H1 := Lib.hid h1
  clear h1
  go_wp2_with fail
  refine (H1.out.feedAs HC.out HR.out.1 HR.out.2).mono ?_
  rintro e W2 ⟨rfl, h2⟩
  have H2 := Lib.hid h2
  clear h2
  go_wp2_with fail
  refine (H2.out.bad HC.out).mono ?_
  rintro e W3 ⟨rfl, h3⟩
  have H3 := Lib.hid h3
  clear h3
  go_wp2
  go_ret2
  exact ⟨rfl, H3.out.bel⟩
/-- 1000, 4096 letters x, 00, a: b, an empty line. -/
def bigL : List UInt8 := ([49, 48, 48, 48, 13, 10] ++ List.replicate 4096 120) ++ [13, 10, 48, 48, 13, 10, 97, 58, 32, 98, 13, 10, 13, 10]
theorem tail_ab (d : List UInt8) : (⟨.tail [] 0 0, d⟩ : Cst).run [97, 58, 32, 98, 13, 10, 13, 10] = (8, ⟨.done, d⟩) := by rfl
theorem big_run : Cst.new.run bigL = (4116, ⟨.done, List.replicate 4096 120⟩) := by
  obtain ⟨X, hX⟩ : ∃ X : List UInt8, X = List.replicate 4096 120 := ⟨_, rfl⟩
  have hl : X.length = 4096 := by rw [hX, List.length_replicate]
  have hne : X ≠ [] := by intro e; rw [e] at hl; cases hl
  have e : bigL = ([49, 48, 48, 48] ++ [13, 10] ++ (X ++ [13, 10])) ++ ([48, 48] ++ [13, 10] ++ [97, 58, 32, 98, 13, 10, 13, 10]) := by
    unfold bigL; rw [← hX]; simp
  have h1 := run_chunk (t := [49, 48, 48, 48]) (d := []) (x := X) (by decide) (by decide) (by decide) hne (by rw [hl]; decide) (by rw [hl]; decide)
  have h2 := run_head_line (t := [48, 48]) (d := X) (by decide) (by decide) (by decide)
  have h3 : headF [48, 48] X = .tail [] 0 0 := by
    rw [show headF [48, 48] X = if 4096 < X.length + 0 then .bad 413 else .tail [] 0 0 from rfl, if_neg (by omega)]
  rw [e, ← hX]
  show (⟨.head [], []⟩ : Cst).run _ = _
  rw [run_append, h1]
  dsimp only
  rw [run_append, List.nil_append, h2]
  dsimp only
  rw [h3, tail_ab, hl]
  rfl
theorem run_0 : Cst.new.run [51, 13, 10, 97, 98, 99, 100] = (7, ⟨.bad 400, [97, 98, 99]⟩) := by rfl
theorem run_1 : Cst.new.run [49, 48, 48, 49, 13, 10] = (6, ⟨.bad 413, []⟩) := by rfl
theorem run_2 : Cst.new.run [49, 48, 48, 48, 48, 48, 48, 48, 48, 13, 10] = (11, ⟨.bad 400, []⟩) := by rfl
theorem run_3 : Cst.new.run [103, 13, 10] = (3, ⟨.bad 400, []⟩) := by rfl
theorem run_4 : Cst.new.run [49, 13, 10, 120, 13, 10, 49, 48, 48, 48, 13, 10] = (12, ⟨.bad 413, [120]⟩) := by rfl
theorem run_5 : Cst.new.run [48, 10] = (2, ⟨.bad 400, []⟩) := by rfl
set_option maxRecDepth 100000 in
set_option maxHeartbeats 4000000 in
theorem cknown_any {RA : World → (Nat → Prop) → Nat → Cst → Prop} (C : ChunkI RA) (w : World) : Calls Tryd.prog 3 #[] w fun e w' => e = .returned (.bool true) ∧ Below w.heap.size w w' := by
  have HC := Lib.hid C
  clear C
  have hb0 : ∀ W, Below w.heap.size w W → Calls Tryd.prog 10 #[.string ⟨#[51, 13, 10, 97, 98, 99, 100]⟩] W fun e w' => e = .returned (.tuple #[.int .i64 400, .int .i64 7]) ∧ Below w.heap.size w w' := fun W h => cbad_any HC.out [51, 13, 10, 97, 98, 99, 100] _ _ (by decide) run_0 w W h
  have HB0 := Lib.hid hb0
  clear hb0
  have hb1 : ∀ W, Below w.heap.size w W → Calls Tryd.prog 10 #[.string ⟨#[49, 48, 48, 49, 13, 10]⟩] W fun e w' => e = .returned (.tuple #[.int .i64 413, .int .i64 6]) ∧ Below w.heap.size w w' := fun W h => cbad_any HC.out [49, 48, 48, 49, 13, 10] _ _ (by decide) run_1 w W h
  have HB1 := Lib.hid hb1
  clear hb1
  have hb2 : ∀ W, Below w.heap.size w W → Calls Tryd.prog 10 #[.string ⟨#[49, 48, 48, 48, 48, 48, 48, 48, 48, 13, 10]⟩] W fun e w' => e = .returned (.tuple #[.int .i64 400, .int .i64 11]) ∧ Below w.heap.size w w' := fun W h => cbad_any HC.out [49, 48, 48, 48, 48, 48, 48, 48, 48, 13, 10] _ _ (by decide) run_2 w W h
  have HB2 := Lib.hid hb2
  clear hb2
  have hb3 : ∀ W, Below w.heap.size w W → Calls Tryd.prog 10 #[.string ⟨#[103, 13, 10]⟩] W fun e w' => e = .returned (.tuple #[.int .i64 400, .int .i64 3]) ∧ Below w.heap.size w w' := fun W h => cbad_any HC.out [103, 13, 10] _ _ (by decide) run_3 w W h
  have HB3 := Lib.hid hb3
  clear hb3
  have hb4 : ∀ W, Below w.heap.size w W → Calls Tryd.prog 10 #[.string ⟨#[49, 13, 10, 120, 13, 10, 49, 48, 48, 48, 13, 10]⟩] W fun e w' => e = .returned (.tuple #[.int .i64 413, .int .i64 12]) ∧ Below w.heap.size w w' := fun W h => cbad_any HC.out [49, 13, 10, 120, 13, 10, 49, 48, 48, 48, 13, 10] _ _ (by decide) run_4 w W h
  have HB4 := Lib.hid hb4
  clear hb4
  have hb5 : ∀ W, Below w.heap.size w W → Calls Tryd.prog 10 #[.string ⟨#[48, 10]⟩] W fun e w' => e = .returned (.tuple #[.int .i64 400, .int .i64 2]) ∧ Below w.heap.size w w' := fun W h => cbad_any HC.out [48, 10] _ _ (by decide) run_5 w W h
  have HB5 := Lib.hid hb5
  clear hb5
  have HR : Hid (∀ w, Calls Tryd.prog 13 #[.string ⟨#[120]⟩, .int .i64 4096] w fun e w' => e = .returned (S (List.replicate 4096 120)) ∧ Below w.heap.size w w') := Lib.hid fun w => rep_any 120 4096 (by decide) w
  have HBG := Lib.hid big_run
  obtain ⟨X, hX⟩ : ∃ X : List UInt8, X = List.replicate 4096 120 := ⟨_, rfl⟩
  have hXl : X.length = 4096 := by rw [hX, List.length_replicate]
  obtain ⟨Y, hY⟩ : ∃ Y : List UInt8, Y = [49, 48, 48, 48, 13, 10] ++ X := ⟨_, rfl⟩
  obtain ⟨Z, hZ⟩ : ∃ Z : List UInt8, Z = Y ++ [13, 10, 48, 48, 13, 10, 97, 58, 32, 98, 13, 10, 13, 10] := ⟨_, rfl⟩
  have a1 : binOp .add 9 (.string ⟨#[49, 48, 48, 48, 13, 10]⟩) (S X) = pure (S Y) := by rw [hY]; exact S_add 9 [49, 48, 48, 48, 13, 10] X (by simp; omega)
  have a2 : binOp .add 9 (S Y) (.string ⟨#[13, 10, 48, 48, 13, 10, 97, 58, 32, 98, 13, 10, 13, 10]⟩) = pure (S Z) := by rw [hZ]; exact S_add 9 Y [13, 10, 48, 48, 13, 10, 97, 58, 32, 98, 13, 10, 13, 10] (by rw [hY, List.length_append, hXl]; decide)
  have hlX : ∀ w, (Builtin.len_ #[9] 3 #[S X]).run Tryd.prog w = .ok (.int .i64 4096) w := fun w => by
    have := run_len_S (P := Tryd.prog) Tryd.underlying9 3 X w
    rw [hXl] at this
    exact this
  have HZl : Hid (Z.length ≤ 100000) := Lib.hid (by rw [hZ, hY, List.length_append, List.length_append, hXl]; decide)
  have HBZ : Hid (Cst.new.run Z = (4116, ⟨.done, X⟩)) := Lib.hid (by
    have := HBG.out
    unfold bigL at this
    rw [← hX, ← hY, ← hZ] at this
    exact this)
  rw [← hX] at HR
  clear HBG hX hXl hY hZ
  go_enter Tryd.func3, Tryd.ntmps3
  go_wp2_with fail
  refine (HB0.out _ (Below.refl _ _)).mono ?_
  rintro e W1 ⟨rfl, h1⟩
  have H1 := Lib.hid h1
  clear h1 HB0
  go_wp2_with fail
  refine (HB1.out _ H1.out).mono ?_
  rintro e W2 ⟨rfl, h2⟩
  have H2 := Lib.hid h2
  clear h2 HB1
  go_wp2_with fail
  refine (HB2.out _ H2.out).mono ?_
  rintro e W3 ⟨rfl, h3⟩
  have H3 := Lib.hid h3
  clear h3 HB2
  go_wp2_with fail
  refine (HB3.out _ H3.out).mono ?_
  rintro e W4 ⟨rfl, h4⟩
  have H4 := Lib.hid h4
  clear h4 HB3
  go_wp2_with fail
  refine (One.make HC.out H4.out).mono ?_
  rintro e W5 ⟨g, rfl, h5⟩
  have H5 := Lib.hid h5
  clear h5
  go_wp2_with fail
  refine (HR.out _).mono ?_
  rintro e W6 ⟨rfl, h6⟩
  have H6 := Lib.hid (H5.out.below HC.out h6)
  clear h6 H5 HR
  go_wp2_with fail
  refine (H6.out.feedAs HC.out HZl.out HBZ.out).mono ?_
  rintro e W7 ⟨rfl, h7⟩
  have H7 := Lib.hid h7
  clear h7 H6
  have hmore : ∀ W, One RA w g ⟨.done, X⟩ W → Calls Tryd.prog 12 #[.pointer (some ⟨g, 0, none⟩), .string ⟨#[109, 111, 114, 101]⟩] W fun e W' => e = .returned (.int .i64 0) ∧ One RA w g ⟨.done, X⟩ W' := fun W h => h.feedAs HC.out (x := [109, 111, 114, 101]) (by decide) (run_stop rfl _)
  have HM := Lib.hid hmore
  clear hmore
  go_wp2_with fail
  refine (HM.out _ H7.out).mono ?_
  rintro e W8 ⟨rfl, h8⟩
  have H8 := Lib.hid h8
  clear h8 H7 HM
  have hq4 : ∀ W, One RA w g ⟨.done, X⟩ W → Calls Tryd.prog 10 #[.string ⟨#[49, 13, 10, 120, 13, 10, 49, 48, 48, 48, 13, 10]⟩] W fun e w' => e = .returned (.tuple #[.int .i64 413, .int .i64 12]) ∧ One RA w g ⟨.done, X⟩ w' := fun W h => (cbad_any HC.out [49, 13, 10, 120, 13, 10, 49, 48, 48, 48, 13, 10] _ _ (by decide) run_4 W W (Below.refl _ _)).mono (by rintro e W' ⟨he, hb⟩; exact ⟨he, h.below HC.out hb⟩)
  have hq5 : ∀ W, One RA w g ⟨.done, X⟩ W → Calls Tryd.prog 10 #[.string ⟨#[48, 10]⟩] W fun e w' => e = .returned (.tuple #[.int .i64 400, .int .i64 2]) ∧ One RA w g ⟨.done, X⟩ w' := fun W h => (cbad_any HC.out [48, 10] _ _ (by decide) run_5 W W (Below.refl _ _)).mono (by rintro e W' ⟨he, hb⟩; exact ⟨he, h.below HC.out hb⟩)
  have HQ4 := Lib.hid hq4
  have HQ5 := Lib.hid hq5
  clear hq4 hq5 HB4 HB5
  go_wp2_with fail
  refine (HQ4.out _ H8.out).mono ?_
  rintro e W9 ⟨rfl, h9⟩
  have H9 := Lib.hid h9
  clear h9 H8
  go_wp2_with fail
  refine (HQ5.out _ H9.out).mono ?_
  rintro e W10 ⟨rfl, h10⟩
  have H10 := Lib.hid h10
  clear h10 H9
  go_wp2_with fail
  refine (awake_chunk HC.out _).mono ?_
  rintro e W11 ⟨rfl, h11⟩
  have H11 := Lib.hid (H10.out.below HC.out h11)
  clear h11 H10
  go_wp2_with fail
  refine (H11.out.done HC.out).mono ?_
  rintro e W12 ⟨rfl, h12⟩
  have H12 := Lib.hid h12
  clear h12 H11
  rw [show Cst.isDone ⟨.done, X⟩ = true from rfl]
  go_wp2_with fail
  refine (H12.out.data HC.out).mono ?_
  rintro e W13 ⟨rfl, h13⟩
  have H13 := Lib.hid h13
  clear h13 H12
  go_wp2
  go_ret
  exact ⟨rfl, H13.out.bel⟩
end Go.Proofs.YtocekbfnefajhaaDoor
