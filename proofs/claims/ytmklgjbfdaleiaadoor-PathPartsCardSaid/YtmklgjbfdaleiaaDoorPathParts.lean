/- PathParts returns true for any two texts: two paths one behind the other have the segments of both; a path has as many segments as slashes. No condition. The listed variables are tied to the program's text. -/
import Derived.Test.YtmklgjbfdaleiaaDoorAh
import Derived.Test.YtmklgjbfdaleiaaDoorGen2
import Derived.Test.YtmklgjbfdaleiaaDoorAv
import Derived.Test.YtmklgjbfdaleiaaDoorOwn
import Derived.Test.YtmklgjbfdaleiaaDoorRows
import Derived.ProofKit
import Derived.Handed
import Derived.OpenShut
import Derived.Test.YtmklgjbfdaleiaaDoorBo
import Derived.LaidLaws
import Derived.Lay
import Derived.Test.YtmklgjbfdaleiaaDoorTie
import Derived.Test.YtmklgjbfdaleiaaDoorCards
import Derived.SevenTiedAt
namespace Go.Proofs.YtmklgjbfdaleiaaDoor
open Go Go.ChangeShapes Go.WideShapes Go.ChangeAt Go.RowKit
open Go.ChangeMaps (open_string shut_string)
open Go.WideMaps Go.WideElems
noncomputable def start_PathParts (os : Os) : World := World.laidAll Tryd.prog os Rows.pathPartsRow.laid
theorem met_PathParts (os : Os) (args : Array Value) : laidMet Tryd.prog Rows.pathPartsRow.laid ((start_PathParts os).forCall (fun _ _ => 0) ⟨#[], args, []⟩).memory :=
  laidMet_laidAll _ (by kernel_rfl) (by kernel_rfl)
theorem os_PathParts (os : Os) : (start_PathParts os).os = os := World.laidAll_os _ _ _

set_option maxRecDepth 100000 in
theorem pathParts_lifted (os : Os) (started : os.Started) (H : Type) (enc : TypeId × Value → H) :
    ReturnsInHanded {} Tryd.checked os 8 .any (fun w args => (Rows.pathPartsSpec.pre enc Tryd.prog Tryd.f8 Rows.pathPartsRow.domain false w args ∧ laidMet Tryd.prog Rows.pathPartsRow.laid w) ∧ sizedMet enc Tryd.prog Tryd.f8 (OpenSpec.ofChange Rows.pathPartsSpec) false w args)
      (Rows.pathPartsSpec.post enc Tryd.prog Tryd.f8 false true false false) := by
  refine returns_both (C := Tryd.checked) (X := fun w _ => laidMet Tryd.prog Rows.pathPartsRow.laid w) (fun _ _ _ hh h => h.of_heap hh) Tryd.own started (by kernel_rfl) Tryd.func8
    (ChangeSpec.witness_shaped (enc := enc) (C := Tryd.checked) (os := os) (X := fun w _ => laidMet Tryd.prog Rows.pathPartsRow.laid w) false (start_PathParts os) #[.string ⟨#[]⟩, .string ⟨#[]⟩] 8 (os_PathParts os)
      (World.shaped_of_ZipB (by kernel_rfl) (by kernel_rfl)) (by kernel_rfl) (by kernel_rfl) (by kernel_rfl) (met_PathParts os _)) ?_
  intro W base args ds gs before hval0 hW hcnd0 _ hL hsh _
  have hval : ∀ (j : Nat) t v, Tryd.f8.params[j]? = some t → args[j]? = some v → Value.okWide Tryd.prog W .any base t v := hval0
  have hW' := hW
  obtain ⟨p, q, hA0, hV, rfl, hfz, hnd⟩ := hW
  have hA : DataW.TrodAll enc Tryd.prog W 0 (fun _ => true) true Tryd.f8.params.toList args.toList ds p := hA0
  rw [Tryd.params8] at hA hval
  obtain ⟨v0, v1, d0, d1, p0, p1, rfl, rfl, rfl, h0, h1⟩ := trodAll_two hA
  obtain ⟨rfl, rfl⟩ := trodVars_none hV
  obtain ⟨s0, rfl, rfl, rfl, hs0⟩ := open_string Tryd.underlying9 (hval 0 9 v0 rfl rfl) h0
  obtain ⟨s1, rfl, rfl, rfl, hs1⟩ := open_string Tryd.underlying9 (hval 1 9 v1 rfl rfl) h1
  clear hA0 hval0
  rw [S_of s0, S_of s1]
  refine (parts11_any (pathI hsh) s0.data.toList s1.data.toList).mono fun e W' ⟨he, hnx⟩ => ?_
  subst he
  rw [← S_of s0, ← S_of s1]
  exact ⟨_, rfl, _, _, _, [], _, [], hW', trodAll_mk1 (shut_bool Tryd.underlying4 true),
    trodAll_mk2 (shut_string Tryd.underlying9 hs0) (shut_string Tryd.underlying9 hs1), rfl, hnx.frame _, fun h => by cases h⟩

theorem pathParts_holds : Rows.PathPartsSaid :=
  OpenClaim.holds_of_wide 8 Tryd.f8 rfl rfl rfl rfl rfl rfl rfl ⟨rfl, rfl, rfl, rfl, rfl⟩ rfl rfl rfl rfl rfl (by kernel_rfl) Tryd.func8 (by kernel_rfl)
    (of_decide_eq_true (by kernel_rfl)) (by unfold Func.isWrapper; rw [if_neg (of_decide_eq_false (by kernel_rfl))]; exact ⟨rfl, rfl⟩)
    (fun os started H enc _ => pathParts_lifted os started H enc)

theorem pathParts_card : Rows.PathPartsCardSaid :=
  Claim7.holds_tied_plain_at .later [] [.data, .data, .data, .data, .sentinel, .sentinel, .pinned] true _ true
    pathParts_holds (fun _ h => by cases h) (by kernel_rfl) (fun _ h => by cases h) pathParts_row_tie rfl ⟨rfl, rfl⟩ (by kernel_rfl) rfl
    (fun f fn hf hfn => by
      obtain rfl : f = 8 := Option.some.inj (hf.symm.trans (by kernel_rfl))
      obtain rfl : fn = Tryd.f8 := (Option.some.inj (Tryd.func8.symm.trans hfn)).symm
      exact ⟨by kernel_rfl, fun j t ht => by
        rw [Tryd.params8] at ht
        match j, ht with
        | 0, ht =>
          obtain rfl : t = 9 := by simpa using ht.symm
          exact (show Tryd.prog.wantsStandIn 9 = false by kernel_rfl)
        | 1, ht =>
          obtain rfl : t = 9 := by simpa using ht.symm
          exact (show Tryd.prog.wantsStandIn 9 = false by kernel_rfl)
        | j + 2, ht => simp at ht⟩)
    (by kernel_rfl)
end Go.Proofs.YtmklgjbfdaleiaaDoor
