/- UtfKnown returns true: the chapter's examples, and the last characters, hold. It takes nothing; no condition. -/
import Derived.Test.YtmamklahnpmgjaaW9
import Derived.Test.YtmamklahnpmgjaaRows
import Derived.ProofKit
import Derived.Handed
namespace Go.Proofs.Ytmamklahnpmgjaa
open Go.ChangeShapes Go.WideShapes Go.ChangeAt Go.RowKit

def r1 : Chk := feed Chk.start [97, 237, 160, 128]
theorem r1_says : (!(feed Chk.start [97, 237, 160, 128]).bad) = false ∧ r1.bad = true ∧ r1.n = 2 := by decide
theorem texts_say : textB [244, 144, 128, 128] = false ∧ textB [244, 143, 191, 191, 238, 128, 128, 239, 191, 191, 0] = true ∧ textB [] = true ∧ textB [226, 130] = false := by decide

set_option maxRecDepth 100000 in
set_option maxHeartbeats 1000000 in
theorem known_any (w : World) : Calls Try.prog 3 #[] w fun e w' => e = .returned (.bool true) ∧ Below w.heap.size w w' := by
  go_enter Try.func3, Try.ntmps3
  go_wp2_with fail
  refine (new_any w).mono ?_
  rintro e W1 ⟨rfl, hC1, hB1⟩
  obtain ⟨g, hg⟩ : ∃ g, g = w.heap.size := ⟨_, rfl⟩
  rw [← hg] at hC1 hB1
  rw [← hg]
  have HG := Lib.hid hg
  have H1 := Lib.hid (And.intro hC1 hB1)
  clear hC1 hB1 hg
  go_wp2_with fail
  refine (feed_any [97, 237, 160, 128] Chk.start g W1 H1.out.1 (by decide)).mono ?_
  rintro e W2 ⟨rfl, hC2, hK2⟩
  rw [r1_says.1]
  have H2 := Lib.hid (And.intro (show ChkAt W2 g r1 from hC2) hK2)
  clear hC2 hK2
  go_wp2_with fail
  refine (awake_any W2).mono ?_
  rintro e W3 ⟨rfl, hB3⟩
  have H3 := Lib.hid (And.intro (H2.out.1.below hB3 H2.out.1.lt) hB3)
  clear hB3
  go_wp2_with fail
  refine (bad_any r1 g _ H3.out.1).mono ?_
  rintro e W3 ⟨rfl, rfl⟩
  rw [r1_says.2.1]
  go_wp2_with fail
  refine (at_any r1 g _ H3.out.1).mono ?_
  rintro e W3 ⟨rfl, rfl⟩
  rw [r1_says.2.2]
  go_wp2_with fail
  refine (valid_any [244, 144, 128, 128] (by decide) _).mono ?_
  rintro e W4 ⟨rfl, hB4⟩
  rw [texts_say.1]
  go_wp2_with fail
  refine (valid_any [244, 143, 191, 191, 238, 128, 128, 239, 191, 191, 0] (by decide) _).mono ?_
  rintro e W5 ⟨rfl, hB5⟩
  rw [texts_say.2.1]
  go_wp2_with fail
  refine (valid_any [] (by decide) _).mono ?_
  rintro e W6 ⟨rfl, hB6⟩
  rw [texts_say.2.2.1]
  go_wp2_with fail
  refine (valid_any [226, 130] (by decide) _).mono ?_
  rintro e W7 ⟨rfl, hB7⟩
  rw [texts_say.2.2.2]
  go_wp2
  go_ret
  refine ⟨rfl, ?_⟩
  have h1 : w.heap.size ≤ W1.heap.size := by have := H1.out.2.size; have := HG.out; have := H1.out.1.lt; omega
  have h2 := H2.out.2.size
  have h3 := H3.out.2.size
  have h4 := hB4.size
  have h5 := hB5.size
  have h6 := hB6.size
  have hg := HG.out
  have b1 : Below w.heap.size w W1 := by rw [← hg]; exact H1.out.2
  exact (((((b1.trans (H2.out.2.below h1 (by omega))).trans (H3.out.2.mono (by omega))).trans (hB4.mono (by omega))).trans (hB5.mono (by omega))).trans (hB6.mono (by omega))).trans (hB7.mono (by omega))

theorem Try.own : ownKnob Try.prog.godebug = none := by kernel_rfl

set_option maxRecDepth 100000 in
theorem known_lifted (os : Os) (started : os.Started) (H : Type) (enc : TypeId × Value → H) :
    ReturnsInHanded {} Try.checked os 3 .any (Rows.utfKnownSpec.pre6 enc Try.prog Try.f3 Rows.utfKnownRow.domain false) (Rows.utfKnownSpec.post enc Try.prog Try.f3 false true false false) := by
  refine returnsInHanded_of_change (C := Try.checked) Try.own started (by kernel_rfl) Try.func3
    (ChangeSpec.witness6 (enc := enc) (C := Try.checked) false ⟨#[], #[], []⟩ 8 (by kernel_rfl) (by kernel_rfl) (by kernel_rfl) (by kernel_rfl)) ?_
  intro W base args ds gs before hval0 hW hcnd _
  have hW' := hW
  obtain ⟨p, q, hA0, hV, rfl, hfz, hnd⟩ := hW
  have hA : DataW.TrodAll enc Try.prog W 0 (fun _ => true) true Try.f3.params.toList args.toList ds p := hA0
  rw [Try.params3] at hA
  obtain ⟨rfl, rfl, rfl⟩ := trodAll_none hA
  obtain ⟨rfl, rfl⟩ := trodVars_none hV
  clear hA0 hval0
  refine (known_any W).mono fun e W' ⟨he, hnx⟩ => ?_
  subst he
  exact ⟨_, rfl, _, _, _, [], [], [], hW', trodAll_mk1 (shut_bool Try.underlying4 true), trodAll_mk0, rfl, hnx.frame _, fun h => by cases h⟩

theorem known_holds : Rows.UtfKnownSaid :=
  OpenClaim.holds_of_wide 3 Try.f3 rfl rfl rfl rfl rfl rfl rfl ⟨rfl, rfl, rfl, rfl, rfl⟩ rfl rfl rfl rfl rfl (by kernel_rfl) Try.func3 (by kernel_rfl)
    (of_decide_eq_true (by kernel_rfl)) (by unfold Func.isWrapper; rw [if_neg (of_decide_eq_false (by kernel_rfl))]; exact ⟨rfl, rfl⟩)
    (fun os started H enc _ => known_lifted os started H enc)
end Go.Proofs.Ytmamklahnpmgjaa
