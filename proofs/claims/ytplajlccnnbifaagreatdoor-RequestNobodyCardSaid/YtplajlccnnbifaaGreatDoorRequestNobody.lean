/- RequestNobody returns true for any text: a nil parser is bad; one that nobody made reads nothing wrong. No condition. The listed variables are tied to the program's text. -/
import Derived.Test.YtplajlccnnbifaaGreatDoorRo
import Derived.Test.YtplajlccnnbifaaGreatDoorJh
import Derived.Test.YtplajlccnnbifaaGreatDoorRows
import Derived.ProofKit
import Derived.Handed
import Derived.OpenShut
import Derived.LaidLaws
import Derived.Lay
import Derived.Test.YtplajlccnnbifaaGreatDoorTie
import Derived.Test.YtplajlccnnbifaaGreatDoorCards
import Derived.SevenTiedAt
namespace Go.Proofs.YtplajlccnnbifaaGreatDoor
open Go Go.ChangeShapes Go.WideShapes Go.ChangeAt Go.RowKit
open Go.ChangeMaps (open_string shut_string)
open Go.WideMaps Go.WideElems
noncomputable def start_RequestNobody (os : Os) : World := World.laidAll Tryz.prog os Rows.requestNobodyRow.laid
theorem met_RequestNobody (os : Os) (args : Array Value) : laidMet Tryz.prog Rows.requestNobodyRow.laid ((start_RequestNobody os).forCall (fun _ _ => 0) ⟨#[], args, []⟩).memory :=
  laidMet_laidAll _ (by kernel_rfl) (by kernel_rfl)
theorem os_RequestNobody (os : Os) : (start_RequestNobody os).os = os := World.laidAll_os _ _ _

set_option maxRecDepth 100000 in
theorem requestNobody_lifted (os : Os) (started : os.Started) (H : Type) (enc : TypeId × Value → H) :
    ReturnsInHanded {} Tryz.checked os 5 .any (fun w args => (Rows.requestNobodySpec.pre enc Tryz.prog Tryz.f5 Rows.requestNobodyRow.domain false w args ∧ laidMet Tryz.prog Rows.requestNobodyRow.laid w) ∧ sizedMet enc Tryz.prog Tryz.f5 (OpenSpec.ofChange Rows.requestNobodySpec) false w args)
      (Rows.requestNobodySpec.post enc Tryz.prog Tryz.f5 false true false false) := by
  refine returns_both (C := Tryz.checked) (X := fun w _ => laidMet Tryz.prog Rows.requestNobodyRow.laid w) (fun _ _ _ hh h => h.of_heap hh) Tryz.own started (by kernel_rfl) Tryz.func5
    (ChangeSpec.witness_shaped (enc := enc) (C := Tryz.checked) (os := os) (X := fun w _ => laidMet Tryz.prog Rows.requestNobodyRow.laid w) false (start_RequestNobody os) #[.string ⟨#[]⟩] 8 (os_RequestNobody os)
      (World.shaped_of_ZipB (by kernel_rfl) (by kernel_rfl)) (by kernel_rfl) (by kernel_rfl) (by kernel_rfl) (met_RequestNobody os _)) ?_
  intro W base args ds gs before hval0 hW hcnd0 _ hL hsh _
  have hval : ∀ (j : Nat) t v, Tryz.f5.params[j]? = some t → args[j]? = some v → Value.okWide Tryz.prog W .any base t v := hval0
  have hW' := hW
  obtain ⟨p, q, hA0, hV, rfl, hfz, hnd⟩ := hW
  have hA : DataW.TrodAll enc Tryz.prog W 0 (fun _ => true) true Tryz.f5.params.toList args.toList ds p := hA0
  rw [Tryz.params5] at hA hval
  obtain ⟨v0, d0, rfl, rfl, h0⟩ := trodAll_one hA
  obtain ⟨rfl, rfl⟩ := trodVars_none hV
  obtain ⟨s0, rfl, rfl, rfl, hs0⟩ := open_string Tryz.underlying9 (hval 0 9 v0 rfl rfl) h0
  clear hA0 hval0
  rw [S_of s0]
  refine (rnobody_any (requestI hsh) zeroPI s0.data.toList).mono fun e W' ⟨he, hnx⟩ => ?_
  subst he
  rw [← S_of s0]
  exact ⟨_, rfl, _, _, _, [], _, [], hW', trodAll_mk1 (shut_bool Tryz.underlying4 true),
    trodAll_mk1 (shut_string Tryz.underlying9 hs0), rfl, hnx.frame _, fun h => by cases h⟩

theorem requestNobody_holds : Rows.RequestNobodySaid :=
  OpenClaim.holds_of_wide 5 Tryz.f5 rfl rfl rfl rfl rfl rfl rfl ⟨rfl, rfl, rfl, rfl, rfl⟩ rfl rfl rfl rfl rfl (by kernel_rfl) Tryz.func5 (by kernel_rfl)
    (of_decide_eq_true (by kernel_rfl)) (by unfold Func.isWrapper; rw [if_neg (of_decide_eq_false (by kernel_rfl))]; exact ⟨rfl, rfl⟩)
    (fun os started H enc _ => requestNobody_lifted os started H enc)

theorem requestNobody_card : Rows.RequestNobodyCardSaid :=
  Claim7.holds_tied_plain_at .later [] [.data, .pinned] true _ false
    requestNobody_holds (fun _ h => by cases h) (by kernel_rfl) (fun _ h => by cases h) requestNobody_row_tie rfl ⟨rfl, rfl⟩ (by kernel_rfl) rfl
    (fun f fn hf hfn => by
      obtain rfl : f = 5 := Option.some.inj (hf.symm.trans (by kernel_rfl))
      obtain rfl : fn = Tryz.f5 := (Option.some.inj (Tryz.func5.symm.trans hfn)).symm
      exact ⟨by kernel_rfl, fun j t ht => by
        rw [Tryz.params5] at ht
        match j, ht with
        | 0, ht =>
          obtain rfl : t = 9 := by simpa using ht.symm
          exact (show Tryz.prog.wantsStandIn 9 = false by kernel_rfl)
        | j + 1, ht => simp at ht⟩)
    (by kernel_rfl)
end Go.Proofs.YtplajlccnnbifaaGreatDoor
