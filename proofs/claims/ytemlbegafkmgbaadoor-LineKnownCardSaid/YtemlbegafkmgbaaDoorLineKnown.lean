/- LineKnown returns true: the chapter's examples; the longest target. It takes nothing; no condition. The listed variables are tied to the program's text. -/
import Derived.Test.YtemlbegafkmgbaaDoorLk
import Derived.Test.YtemlbegafkmgbaaDoorLq
import Derived.Test.YtemlbegafkmgbaaDoorLz
import Derived.Test.YtemlbegafkmgbaaDoorOwn
import Derived.Test.YtemlbegafkmgbaaDoorRows
import Derived.ProofKit
import Derived.Handed
import Derived.OpenShut
import Derived.LaidLaws
import Derived.Lay
import Derived.Test.YtemlbegafkmgbaaDoorTie
import Derived.Test.YtemlbegafkmgbaaDoorCards
import Derived.SevenTiedAt
namespace Go.Proofs.YtemlbegafkmgbaaDoor
open Go Go.ChangeShapes Go.WideShapes Go.ChangeAt Go.RowKit
open Go.ChangeMaps (open_string shut_string)
open Go.WideMaps Go.WideElems
noncomputable def start_LineKnown (os : Os) : World := World.laidAll Tryd.prog os Rows.lineKnownRow.laid
theorem met_LineKnown (os : Os) (args : Array Value) : laidMet Tryd.prog Rows.lineKnownRow.laid ((start_LineKnown os).forCall (fun _ _ => 0) ⟨#[], args, []⟩).memory :=
  laidMet_laidAll _ (by kernel_rfl) (by kernel_rfl)
theorem os_LineKnown (os : Os) : (start_LineKnown os).os = os := World.laidAll_os _ _ _

set_option maxRecDepth 100000 in
theorem lineKnown_lifted (os : Os) (started : os.Started) (H : Type) (enc : TypeId × Value → H) :
    ReturnsInHanded {} Tryd.checked os 3 .any (fun w args => (Rows.lineKnownSpec.pre enc Tryd.prog Tryd.f3 Rows.lineKnownRow.domain false w args ∧ laidMet Tryd.prog Rows.lineKnownRow.laid w) ∧ sizedMet enc Tryd.prog Tryd.f3 (OpenSpec.ofChange Rows.lineKnownSpec) false w args)
      (Rows.lineKnownSpec.post enc Tryd.prog Tryd.f3 false true false false) := by
  refine returnsInHanded_of_change_and (C := Tryd.checked) (X := fun w _ => laidMet Tryd.prog Rows.lineKnownRow.laid w) (fun _ _ _ hh h => h.of_heap hh) Tryd.own started (by kernel_rfl) Tryd.func3
    (ChangeSpec.witness_shaped (enc := enc) (C := Tryd.checked) (os := os) (X := fun w _ => laidMet Tryd.prog Rows.lineKnownRow.laid w) false (start_LineKnown os) #[] 8 (os_LineKnown os)
      (World.shaped_of_ZipB (by kernel_rfl) (by kernel_rfl)) (by kernel_rfl) (by kernel_rfl) (by kernel_rfl) (met_LineKnown os _)) ?_
  intro W base args ds gs before hval0 hW hcnd0 _ hL _
  have hval : ∀ (j : Nat) t v, Tryd.f3.params[j]? = some t → args[j]? = some v → Value.okWide Tryd.prog W .any base t v := hval0
  have hW' := hW
  obtain ⟨p, q, hA0, hV, rfl, hfz, hnd⟩ := hW
  have hA : DataW.TrodAll enc Tryd.prog W 0 (fun _ => true) true Tryd.f3.params.toList args.toList ds p := hA0
  rw [Tryd.params3] at hA hval
  obtain ⟨rfl, rfl, rfl⟩ := trodAll_none hA
  obtain ⟨rfl, rfl⟩ := trodVars_none hV
  clear hA0 hval0 hval
  refine (lknown_any lineI repeat_x W).mono fun e W' ⟨he, hnx⟩ => ?_
  subst he
  exact ⟨_, rfl, _, _, _, [], [], [], hW', trodAll_mk1 (shut_bool Tryd.underlying4 true),
    trodAll_mk0, rfl, hnx.frame _, fun h => by cases h⟩

theorem lineKnown_holds : Rows.LineKnownSaid :=
  OpenClaim.holds_of_wide 3 Tryd.f3 rfl rfl rfl rfl rfl rfl rfl ⟨rfl, rfl, rfl, rfl, rfl⟩ rfl rfl rfl rfl rfl (by kernel_rfl) Tryd.func3 (by kernel_rfl)
    (of_decide_eq_true (by kernel_rfl)) (by unfold Func.isWrapper; rw [if_neg (of_decide_eq_false (by kernel_rfl))]; exact ⟨rfl, rfl⟩)
    (fun os started H enc _ => lineKnown_lifted os started H enc)

theorem lineKnown_card : Rows.LineKnownCardSaid :=
  Claim7.holds_tied_plain_at .later [] [.data, .pinned] true _ false
    lineKnown_holds (fun _ h => by cases h) (by kernel_rfl) (fun _ h => by cases h) lineKnown_row_tie rfl ⟨rfl, rfl⟩ (by kernel_rfl) rfl
    (fun f fn hf hfn => by
      obtain rfl : f = 3 := Option.some.inj (hf.symm.trans (by kernel_rfl))
      obtain rfl : fn = Tryd.f3 := (Option.some.inj (Tryd.func3.symm.trans hfn)).symm
      exact ⟨by kernel_rfl, fun j t ht => by
        rw [Tryd.params3] at ht
        simp at ht⟩)
    (by kernel_rfl)
end Go.Proofs.YtemlbegafkmgbaaDoor
