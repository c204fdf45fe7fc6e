/- LineKnown walked, over any package that does what is asked of it. (mklk.py writes it.) -/
import Derived.Test.YtemlbegafkmgbaaDoorLi
namespace Go.Proofs.YtemlbegafkmgbaaDoor
open Go.RowKit
attribute [local go_sem] store_one S_match S_store

theorem okT_plain : ∀ s : List UInt8, (∀ c ∈ s, c ≠ 37 ∧ pathB c = true) → okT s = true
  | [], _ => rfl
  | c :: r, h => by
    rw [okT_one (h c (.head _)).1, (h c (.head _)).2, okT_plain r (fun d hd => h d (.tail _ hd))]; simp
def longL : List UInt8 := 47 :: List.replicate 511 120
theorem long_len : longL.length = 512 := by unfold longL; rw [List.length_cons, List.length_replicate]
theorem long_mem {c : UInt8} (h : c ∈ longL) : c = 47 ∨ c = 120 := by
  unfold longL at h
  rcases List.mem_cons.1 h with h | h
  · exact .inl h
  · exact .inr (List.eq_of_mem_replicate h)
theorem long_is : targetF longL = (longL, [], true) :=
  target_path rfl (by rw [long_len]; omega) (okT_plain _ (fun c hc => by rcases long_mem hc with rfl | rfl <;> decide)) (fun h => by rcases long_mem h with h | h <;> exact absurd h (by decide))
set_option maxRecDepth 100000 in
set_option maxHeartbeats 4000000 in
theorem lknown_any (L : LineI) (hrep : ∀ w, Calls Tryd.prog 12 #[.string ⟨#[120]⟩, .int .i64 511] w fun e w' => e = .returned (S (List.replicate 511 120)) ∧ Below w.heap.size w w') (w : World) :
    Calls Tryd.prog 3 #[] w fun e w' => e = .returned (.bool true) ∧ Below w.heap.size w w' := by
  have h1 : Hid (∀ w, Calls Tryd.prog 9 #[.string ⟨#[71, 69, 84, 32, 32, 47, 97, 32, 72, 84, 84, 80, 47, 49, 46, 49]⟩] w fun e w' => e = .returned (.tuple #[.string ⟨#[]⟩, .string ⟨#[]⟩, .int .i64 0, .bool false]) ∧ Below w.heap.size w w') := Lib.hid fun w => by
    have h := L.parse [71, 69, 84, 32, 32, 47, 97, 32, 72, 84, 84, 80, 47, 49, 46, 49] w (by decide)
    rw [show lineF [71, 69, 84, 32, 32, 47, 97, 32, 72, 84, 84, 80, 47, 49, 46, 49] = ([], [], 0, false) by decide +kernel] at h
    exact h
  have h2 : Hid (∀ w, Calls Tryd.prog 9 #[.string ⟨#[71, 69, 84, 32, 47, 97, 32, 72, 84, 84, 80, 47, 50, 46, 48]⟩] w fun e w' => e = .returned (.tuple #[.string ⟨#[]⟩, .string ⟨#[]⟩, .int .i64 0, .bool false]) ∧ Below w.heap.size w w') := Lib.hid fun w => by
    have h := L.parse [71, 69, 84, 32, 47, 97, 32, 72, 84, 84, 80, 47, 50, 46, 48] w (by decide)
    rw [show lineF [71, 69, 84, 32, 47, 97, 32, 72, 84, 84, 80, 47, 50, 46, 48] = ([], [], 0, false) by decide +kernel] at h
    exact h
  have h3 : Hid (∀ w, Calls Tryd.prog 10 #[.string ⟨#[47, 97, 37, 50]⟩] w fun e w' => e = .returned (.tuple #[.string ⟨#[]⟩, .string ⟨#[]⟩, .bool false]) ∧ Below w.heap.size w w') := Lib.hid fun w => by
    have h := L.target [47, 97, 37, 50] w (by decide)
    rw [show targetF [47, 97, 37, 50] = ([], [], false) by decide +kernel] at h
    exact h
  have h4 : Hid (∀ w, Calls Tryd.prog 10 #[.string ⟨#[42]⟩] w fun e w' => e = .returned (.tuple #[.string ⟨#[]⟩, .string ⟨#[]⟩, .bool false]) ∧ Below w.heap.size w w') := Lib.hid fun w => by
    have h := L.target [42] w (by decide)
    rw [show targetF [42] = ([], [], false) by decide +kernel] at h
    exact h
  have h5 : Hid (∀ w, Calls Tryd.prog 10 #[.string ⟨#[47, 97, 35, 98]⟩] w fun e w' => e = .returned (.tuple #[.string ⟨#[]⟩, .string ⟨#[]⟩, .bool false]) ∧ Below w.heap.size w w') := Lib.hid fun w => by
    have h := L.target [47, 97, 35, 98] w (by decide)
    rw [show targetF [47, 97, 35, 98] = ([], [], false) by decide +kernel] at h
    exact h
  have h6 : Hid (∀ w, Calls Tryd.prog 11 #[.string ⟨#[72, 84, 84, 80, 47, 49, 46, 49, 32, 57, 57, 32, 120]⟩] w fun e w' => e = .returned (.tuple #[.int .i64 0, .string ⟨#[]⟩, .bool false]) ∧ Below w.heap.size w w') := Lib.hid fun w => by
    have h := L.status [72, 84, 84, 80, 47, 49, 46, 49, 32, 57, 57, 32, 120] w (by decide)
    rw [show statusF [72, 84, 84, 80, 47, 49, 46, 49, 32, 57, 57, 32, 120] = (0, [], false) by decide +kernel] at h
    exact h
  have h7 : Hid (∀ w, Calls Tryd.prog 10 #[S longL] w fun e w' => e = .returned (.tuple #[S longL, S [], .bool true]) ∧ Below w.heap.size w w') := Lib.hid fun w => by
    have h := L.target longL w (by rw [long_len]; omega)
    rw [long_is] at h
    exact h
  have h8 : Hid (∀ w, Calls Tryd.prog 10 #[S (longL ++ [63])] w fun e w' => e = .returned (.tuple #[S [], S [], .bool false]) ∧ Below w.heap.size w w') := Lib.hid fun w => by
    have h := L.target (longL ++ [63]) w (by rw [List.length_append, long_len]; decide)
    rw [target_long (by rw [List.length_append, long_len]; decide)] at h
    exact h
  have h9 : Hid (∀ w, Calls Tryd.prog 10 #[.string ⟨#[47, 63]⟩] w fun e w' => e = .returned (.tuple #[.string ⟨#[47]⟩, .string ⟨#[]⟩, .bool true]) ∧ Below w.heap.size w w') := Lib.hid fun w => by
    have h := L.target [47, 63] w (by decide)
    rw [show targetF [47, 63] = ([47], [], true) by decide +kernel] at h
    exact h
  have ha : Hid (∀ w, Calls Tryd.prog 11 #[.string ⟨#[72, 84, 84, 80, 47, 49, 46, 49, 32, 50, 48, 48, 32]⟩] w fun e w' => e = .returned (.tuple #[.int .i64 200, .string ⟨#[]⟩, .bool true]) ∧ Below w.heap.size w w') := Lib.hid fun w => by
    have h := L.status [72, 84, 84, 80, 47, 49, 46, 49, 32, 50, 48, 48, 32] w (by decide)
    rw [show statusF [72, 84, 84, 80, 47, 49, 46, 49, 32, 50, 48, 48, 32] = (200, [], true) by decide +kernel] at h
    exact h
  have a1 : binOp .add 9 (.string ⟨#[47]⟩) (S (List.replicate 511 120)) = pure (S longL) := S_add 9 [47] (List.replicate 511 120) (by simp)
  have a2 : binOp .add 9 (S longL) (.string ⟨#[63]⟩) = pure (S (longL ++ [63])) := S_add 9 longL [63] (by rw [long_len]; decide)
  have HR := Lib.hid hrep
  clear hrep
  generalize longL ++ [63] = Q at *
  generalize longL = G at *
  generalize List.replicate 511 (120 : UInt8) = E at *
  go_enter Tryd.func3, Tryd.ntmps3
  go_wp2_with fail
  refine (h1.out _).mono ?_
  rintro e W1 ⟨rfl, hB⟩
  have H1 : Hid (Below w.heap.size w W1) := Lib.hid hB
  clear hB
  go_wp2_with fail
  refine (h2.out _).mono ?_
  rintro e W2 ⟨rfl, hB⟩
  have H2 : Hid (Below w.heap.size w W2) := Lib.hid (H1.out.trans (hB.mono H1.out.size))
  clear hB H1
  go_wp2_with fail
  refine (h3.out _).mono ?_
  rintro e W3 ⟨rfl, hB⟩
  have H3 : Hid (Below w.heap.size w W3) := Lib.hid (H2.out.trans (hB.mono H2.out.size))
  clear hB H2
  go_wp2_with fail
  refine (h4.out _).mono ?_
  rintro e W4 ⟨rfl, hB⟩
  have H4 : Hid (Below w.heap.size w W4) := Lib.hid (H3.out.trans (hB.mono H3.out.size))
  clear hB H3
  go_wp2_with fail
  refine (h5.out _).mono ?_
  rintro e W5 ⟨rfl, hB⟩
  have H5 : Hid (Below w.heap.size w W5) := Lib.hid (H4.out.trans (hB.mono H4.out.size))
  clear hB H4
  go_wp2_with fail
  refine (h6.out _).mono ?_
  rintro e W6 ⟨rfl, hB⟩
  have H6 : Hid (Below w.heap.size w W6) := Lib.hid (H5.out.trans (hB.mono H5.out.size))
  clear hB H5
  go_wp2_with fail
  refine (HR.out _).mono ?_
  rintro e W7 ⟨rfl, hB⟩
  have H7 : Hid (Below w.heap.size w W7) := Lib.hid (H6.out.trans (hB.mono H6.out.size))
  clear hB H6
  go_wp2_with fail
  refine (h7.out _).mono ?_
  rintro e W8 ⟨rfl, hB⟩
  have H8 : Hid (Below w.heap.size w W8) := Lib.hid (H7.out.trans (hB.mono H7.out.size))
  clear hB H7
  go_wp2_with fail
  refine (h8.out _).mono ?_
  rintro e W9 ⟨rfl, hB⟩
  have H9 : Hid (Below w.heap.size w W9) := Lib.hid (H8.out.trans (hB.mono H8.out.size))
  clear hB H8
  go_wp2_with fail
  refine (h9.out _).mono ?_
  rintro e W10 ⟨rfl, hB⟩
  have H10 : Hid (Below w.heap.size w W10) := Lib.hid (H9.out.trans (hB.mono H9.out.size))
  clear hB H9
  go_wp2_with fail
  refine (ha.out _).mono ?_
  rintro e W11 ⟨rfl, hB⟩
  have H11 : Hid (Below w.heap.size w W11) := Lib.hid (H10.out.trans (hB.mono H10.out.size))
  clear hB H10
  go_wp2_with fail
  refine (awake_line L _).mono ?_
  rintro e WZ ⟨rfl, hB⟩
  have HZ := Lib.hid (H11.out.trans (hB.mono H11.out.size))
  clear hB
  go_wp2
  go_ret
  exact ⟨rfl, HZ.out⟩
end Go.Proofs.YtemlbegafkmgbaaDoor
