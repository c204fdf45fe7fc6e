/- What is asked of the package of lines; awake walked over it. -/
import Derived.Test.YtemlbegafkmgbaaDoorLm3
import Derived.Test.YtemlbegafkmgbaaDoorProg
namespace Go.Proofs.YtemlbegafkmgbaaDoor
open Go.RowKit
attribute [local go_sem] store_one S_match S_store

/-- What is asked of the package: each call's answer is the document's. -/
structure LineI : Prop where
  parse : ∀ (s : List UInt8) (w : World), s.length ≤ 100000 → Calls Tryd.prog 9 #[S s] w fun e w' => e = .returned (lineV (lineF s)) ∧ Below w.heap.size w w'
  target : ∀ (s : List UInt8) (w : World), s.length ≤ 100000 → Calls Tryd.prog 10 #[S s] w fun e w' => e = .returned (targetV (targetF s)) ∧ Below w.heap.size w w'
  status : ∀ (s : List UInt8) (w : World), s.length ≤ 100000 → Calls Tryd.prog 11 #[S s] w fun e w' => e = .returned (statusV (statusF s)) ∧ Below w.heap.size w w'

set_option maxRecDepth 100000 in
set_option maxHeartbeats 1000000 in
theorem awake_line (L : LineI) (w : World) : Calls Tryd.prog 13 #[] w fun e w' => e = .returned (.bool true) ∧ Below w.heap.size w w' := by
  have h1 : Calls Tryd.prog 9 #[.string ⟨#[71, 69, 84, 32, 47, 97, 63, 98, 32, 72, 84, 84, 80, 47, 49, 46, 49]⟩] w fun e w' => e = .returned (.tuple #[.string ⟨#[71, 69, 84]⟩, .string ⟨#[47, 97, 63, 98]⟩, .int .i64 11, .bool true]) ∧ Below w.heap.size w w' :=
    L.parse [71, 69, 84, 32, 47, 97, 63, 98, 32, 72, 84, 84, 80, 47, 49, 46, 49] w (by decide)
  have h2 : Hid (∀ w, Calls Tryd.prog 10 #[.string ⟨#[47, 97, 37, 50, 48, 98, 63, 120, 61, 49, 63, 121]⟩] w fun e w' => e = .returned (.tuple #[.string ⟨#[47, 97, 37, 50, 48, 98]⟩, .string ⟨#[120, 61, 49, 63, 121]⟩, .bool true]) ∧ Below w.heap.size w w') := Lib.hid fun w => by
    have h := L.target [47, 97, 37, 50, 48, 98, 63, 120, 61, 49, 63, 121] w (by decide)
    rw [show targetF [47, 97, 37, 50, 48, 98, 63, 120, 61, 49, 63, 121] = ([47, 97, 37, 50, 48, 98], [120, 61, 49, 63, 121], true) by decide] at h
    exact h
  have h3 : Hid (∀ w, Calls Tryd.prog 11 #[.string ⟨#[72, 84, 84, 80, 47, 49, 46, 49, 32, 52, 48, 52, 32, 78, 111, 116, 32, 70, 111, 117, 110, 100]⟩] w fun e w' => e = .returned (.tuple #[.int .i64 404, .string ⟨#[78, 111, 116, 32, 70, 111, 117, 110, 100]⟩, .bool true]) ∧ Below w.heap.size w w') := Lib.hid fun w =>
    L.status [72, 84, 84, 80, 47, 49, 46, 49, 32, 52, 48, 52, 32, 78, 111, 116, 32, 70, 111, 117, 110, 100] w (by decide)
  go_enter Tryd.func13, Tryd.ntmps13
  go_wp2_with fail
  refine h1.mono ?_
  rintro e W1 ⟨rfl, hb1⟩
  have H1 := Lib.hid hb1
  clear h1 hb1
  go_wp2_with fail
  refine (h2.out _).mono ?_
  rintro e W2 ⟨rfl, hb⟩
  have H2 := Lib.hid (H1.out.trans (hb.mono H1.out.size))
  clear h2 hb H1
  go_wp2_with fail
  refine (h3.out _).mono ?_
  rintro e W3 ⟨rfl, hb⟩
  have H3 := Lib.hid (H2.out.trans (hb.mono H2.out.size))
  clear h3 hb H2
  go_wp2
  go_ret
  exact ⟨rfl, H3.out⟩
end Go.Proofs.YtemlbegafkmgbaaDoor
