/- RouterKnown returns true: the chapter's routes and what they answer; which routes can't stand beside them; too many. It takes nothing; no condition. The listed variables are tied to the program's text. -/
import Derived.Test.YtendejpkdjkmnaaGreatDoorUk
import Derived.Test.YtendejpkdjkmnaaGreatDoorJh
import Derived.Test.YtendejpkdjkmnaaGreatDoorRows
import Derived.ProofKit
import Derived.Handed
import Derived.OpenShut
import Derived.LaidLaws
import Derived.Lay
import Derived.Test.YtendejpkdjkmnaaGreatDoorTie
import Derived.Test.YtendejpkdjkmnaaGreatDoorCards
import Derived.SevenTiedAt
namespace Go.Proofs.YtendejpkdjkmnaaGreatDoor
open Go Go.ChangeShapes Go.WideShapes Go.ChangeAt Go.RowKit
open Go.ChangeMaps (open_string shut_string)
open Go.WideMaps Go.WideElems
noncomputable def start_RouterKnown (os : Os) : World := World.laidAll Tryz.prog os Rows.routerKnownRow.laid
theorem met_RouterKnown (os : Os) (args : Array Value) : laidMet Tryz.prog Rows.routerKnownRow.laid ((start_RouterKnown os).forCall (fun _ _ => 0) ⟨#[], args, []⟩).memory :=
  laidMet_laidAll _ (by kernel_rfl) (by kernel_rfl)
theorem os_RouterKnown (os : Os) : (start_RouterKnown os).os = os := World.laidAll_os _ _ _

set_option maxRecDepth 100000 in
theorem routerKnown_lifted (os : Os) (started : os.Started) (H : Type) (enc : TypeId × Value → H) :
    ReturnsInHanded {} Tryz.checked os 6 .any (fun w args => (Rows.routerKnownSpec.pre enc Tryz.prog Tryz.f6 Rows.routerKnownRow.domain false w args ∧ laidMet Tryz.prog Rows.routerKnownRow.laid w) ∧ sizedMet enc Tryz.prog Tryz.f6 (OpenSpec.ofChange Rows.routerKnownSpec) false w args)
      (Rows.routerKnownSpec.post enc Tryz.prog Tryz.f6 false true false false) := by
  refine returns_both (C := Tryz.checked) (X := fun w _ => laidMet Tryz.prog Rows.routerKnownRow.laid w) (fun _ _ _ hh h => h.of_heap hh) Tryz.own started (by kernel_rfl) Tryz.func6
    (ChangeSpec.witness_shaped (enc := enc) (C := Tryz.checked) (os := os) (X := fun w _ => laidMet Tryz.prog Rows.routerKnownRow.laid w) false (start_RouterKnown os) #[] 8 (os_RouterKnown os)
      (World.shaped_of_ZipB (by kernel_rfl) (by kernel_rfl)) (by kernel_rfl) (by kernel_rfl) (by kernel_rfl) (met_RouterKnown os _)) ?_
  intro W base args ds gs before hval0 hW hcnd0 _ hL hsh _
  have hval : ∀ (j : Nat) t v, Tryz.f6.params[j]? = some t → args[j]? = some v → Value.okWide Tryz.prog W .any base t v := hval0
  have hW' := hW
  obtain ⟨p, q, hA0, hV, rfl, hfz, hnd⟩ := hW
  have hA : DataW.TrodAll enc Tryz.prog W 0 (fun _ => true) true Tryz.f6.params.toList args.toList ds p := hA0
  rw [Tryz.params6] at hA hval
  obtain ⟨rfl, rfl, rfl⟩ := trodAll_none hA
  obtain ⟨rfl, rfl⟩ := trodVars_none hV
  clear hA0 hval0 hval
  refine (known14_any (RouterF.toI (routerF hsh))).mono fun e W' ⟨he, hnx⟩ => ?_
  subst he
  exact ⟨_, rfl, _, _, _, [], [], [], hW', trodAll_mk1 (shut_bool Tryz.underlying4 true),
    trodAll_mk0, rfl, hnx.frame _, fun h => by cases h⟩

theorem routerKnown_holds : Rows.RouterKnownSaid :=
  OpenClaim.holds_of_wide 6 Tryz.f6 rfl rfl rfl rfl rfl rfl rfl ⟨rfl, rfl, rfl, rfl, rfl⟩ rfl rfl rfl rfl rfl (by kernel_rfl) Tryz.func6 (by kernel_rfl)
    (of_decide_eq_true (by kernel_rfl)) (by unfold Func.isWrapper; rw [if_neg (of_decide_eq_false (by kernel_rfl))]; exact ⟨rfl, rfl⟩)
    (fun os started H enc _ => routerKnown_lifted os started H enc)

theorem routerKnown_card : Rows.RouterKnownCardSaid :=
  Claim7.holds_tied_plain_at .later [] [.data, .data, .data, .data, .sentinel, .sentinel, .pinned] true _ true
    routerKnown_holds (fun _ h => by cases h) (by kernel_rfl) (fun _ h => by cases h) routerKnown_row_tie rfl ⟨rfl, rfl⟩ (by kernel_rfl) rfl
    (fun f fn hf hfn => by
      obtain rfl : f = 6 := Option.some.inj (hf.symm.trans (by kernel_rfl))
      obtain rfl : fn = Tryz.f6 := (Option.some.inj (Tryz.func6.symm.trans hfn)).symm
      exact ⟨by kernel_rfl, fun j t ht => by
        rw [Tryz.params6] at ht
        simp at ht⟩)
    (by kernel_rfl)
end Go.Proofs.YtendejpkdjkmnaaGreatDoor
