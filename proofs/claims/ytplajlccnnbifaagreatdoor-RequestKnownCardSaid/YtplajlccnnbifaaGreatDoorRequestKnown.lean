/- RequestKnown returns true: the chapter's examples; the greatest head and body. It takes nothing; no condition. The listed variables are tied to the program's text. -/
import Derived.Test.YtplajlccnnbifaaGreatDoorRk
import Derived.Test.YtplajlccnnbifaaGreatDoorJh
import Derived.Test.YtplajlccnnbifaaGreatDoorRows
import Derived.ProofKit
import Derived.Handed
import Derived.OpenShut
import Derived.LaidLaws
import Derived.Lay
import Derived.Test.YtplajlccnnbifaaGreatDoorTie
import Derived.Test.YtplajlccnnbifaaGreatDoorCards
import Derived.SevenTiedAt
namespace Go.Proofs.YtplajlccnnbifaaGreatDoor
open Go Go.ChangeShapes Go.WideShapes Go.ChangeAt Go.RowKit
open Go.ChangeMaps (open_string shut_string)
open Go.WideMaps Go.WideElems
noncomputable def start_RequestKnown (os : Os) : World := World.laidAll Tryz.prog os Rows.requestKnownRow.laid
theorem met_RequestKnown (os : Os) (args : Array Value) : laidMet Tryz.prog Rows.requestKnownRow.laid ((start_RequestKnown os).forCall (fun _ _ => 0) ⟨#[], args, []⟩).memory :=
  laidMet_laidAll _ (by kernel_rfl) (by kernel_rfl)
theorem os_RequestKnown (os : Os) : (start_RequestKnown os).os = os := World.laidAll_os _ _ _

set_option maxRecDepth 100000 in
theorem requestKnown_lifted (os : Os) (started : os.Started) (H : Type) (enc : TypeId × Value → H) :
    ReturnsInHanded {} Tryz.checked os 3 .any (fun w args => (Rows.requestKnownSpec.pre enc Tryz.prog Tryz.f3 Rows.requestKnownRow.domain false w args ∧ laidMet Tryz.prog Rows.requestKnownRow.laid w) ∧ sizedMet enc Tryz.prog Tryz.f3 (OpenSpec.ofChange Rows.requestKnownSpec) false w args)
      (Rows.requestKnownSpec.post enc Tryz.prog Tryz.f3 false true false false) := by
  refine returns_both (C := Tryz.checked) (X := fun w _ => laidMet Tryz.prog Rows.requestKnownRow.laid w) (fun _ _ _ hh h => h.of_heap hh) Tryz.own started (by kernel_rfl) Tryz.func3
    (ChangeSpec.witness_shaped (enc := enc) (C := Tryz.checked) (os := os) (X := fun w _ => laidMet Tryz.prog Rows.requestKnownRow.laid w) false (start_RequestKnown os) #[] 8 (os_RequestKnown os)
      (World.shaped_of_ZipB (by kernel_rfl) (by kernel_rfl)) (by kernel_rfl) (by kernel_rfl) (by kernel_rfl) (met_RequestKnown os _)) ?_
  intro W base args ds gs before hval0 hW hcnd0 _ hL hsh _
  have hval : ∀ (j : Nat) t v, Tryz.f3.params[j]? = some t → args[j]? = some v → Value.okWide Tryz.prog W .any base t v := hval0
  have hW' := hW
  obtain ⟨p, q, hA0, hV, rfl, hfz, hnd⟩ := hW
  have hA : DataW.TrodAll enc Tryz.prog W 0 (fun _ => true) true Tryz.f3.params.toList args.toList ds p := hA0
  rw [Tryz.params3] at hA hval
  obtain ⟨rfl, rfl, rfl⟩ := trodAll_none hA
  obtain ⟨rfl, rfl⟩ := trodVars_none hV
  clear hA0 hval0 hval
  refine (rknown_any (requestI hsh)).mono fun e W' ⟨he, hnx⟩ => ?_
  subst he
  exact ⟨_, rfl, _, _, _, [], [], [], hW', trodAll_mk1 (shut_bool Tryz.underlying4 true),
    trodAll_mk0, rfl, hnx.frame _, fun h => by cases h⟩

theorem requestKnown_holds : Rows.RequestKnownSaid :=
  OpenClaim.holds_of_wide 3 Tryz.f3 rfl rfl rfl rfl rfl rfl rfl ⟨rfl, rfl, rfl, rfl, rfl⟩ rfl rfl rfl rfl rfl (by kernel_rfl) Tryz.func3 (by kernel_rfl)
    (of_decide_eq_true (by kernel_rfl)) (by unfold Func.isWrapper; rw [if_neg (of_decide_eq_false (by kernel_rfl))]; exact ⟨rfl, rfl⟩)
    (fun os started H enc _ => requestKnown_lifted os started H enc)

theorem requestKnown_card : Rows.RequestKnownCardSaid :=
  Claim7.holds_tied_plain_at .later [] [.data, .pinned] true _ false
    requestKnown_holds (fun _ h => by cases h) (by kernel_rfl) (fun _ h => by cases h) requestKnown_row_tie rfl ⟨rfl, rfl⟩ (by kernel_rfl) rfl
    (fun f fn hf hfn => by
      obtain rfl : f = 3 := Option.some.inj (hf.symm.trans (by kernel_rfl))
      obtain rfl : fn = Tryz.f3 := (Option.some.inj (Tryz.func3.symm.trans hfn)).symm
      exact ⟨by kernel_rfl, fun j t ht => by
        rw [Tryz.params3] at ht
        simp at ht⟩)
    (by kernel_rfl)
end Go.Proofs.YtplajlccnnbifaaGreatDoor
