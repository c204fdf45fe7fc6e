/- PathJoins returns true for any row of texts: the path of these segments, or that there is none, is the document's. No condition. The listed variables are tied to the program's text. -/
import Derived.Test.YtmklgjbfdaleiaaDoorAe
import Derived.Test.YtmklgjbfdaleiaaDoorOh
import Derived.Test.YtmklgjbfdaleiaaDoorGen2
import Derived.Test.YtmklgjbfdaleiaaDoorAv
import Derived.Test.YtmklgjbfdaleiaaDoorOwn
import Derived.Test.YtmklgjbfdaleiaaDoorRows
import Derived.ProofKit
import Derived.Handed
import Derived.OpenShut
import Derived.Test.YtmklgjbfdaleiaaDoorBo
import Derived.LaidLaws
import Derived.Lay
import Derived.Test.YtmklgjbfdaleiaaDoorTie
import Derived.Test.YtmklgjbfdaleiaaDoorCards
import Derived.SevenTiedAt
namespace Go.Proofs.YtmklgjbfdaleiaaDoor
open Go Go.ChangeShapes Go.WideShapes Go.ChangeAt Go.RowKit
open Go.ChangeMaps (open_string shut_string)
open Go.WideMaps Go.WideElems
noncomputable def start_PathJoins (os : Os) : World := World.laidAll Tryd.prog os Rows.pathJoinsRow.laid
theorem met_PathJoins (os : Os) (args : Array Value) : laidMet Tryd.prog Rows.pathJoinsRow.laid ((start_PathJoins os).forCall (fun _ _ => 0) ⟨#[], args, []⟩).memory :=
  laidMet_laidAll _ (by kernel_rfl) (by kernel_rfl)
theorem os_PathJoins (os : Os) : (start_PathJoins os).os = os := World.laidAll_os _ _ _

set_option maxRecDepth 100000 in
theorem pathJoins_lifted (os : Os) (started : os.Started) (H : Type) (enc : TypeId × Value → H) :
    ReturnsInHanded {} Tryd.checked os 5 .any (fun w args => (Rows.pathJoinsSpec.pre enc Tryd.prog Tryd.f5 Rows.pathJoinsRow.domain false w args ∧ laidMet Tryd.prog Rows.pathJoinsRow.laid w) ∧ sizedMet enc Tryd.prog Tryd.f5 (OpenSpec.ofChange Rows.pathJoinsSpec) false w args)
      (Rows.pathJoinsSpec.post enc Tryd.prog Tryd.f5 false true false false) := by
  refine returns_both (C := Tryd.checked) (X := fun w _ => laidMet Tryd.prog Rows.pathJoinsRow.laid w) (fun _ _ _ hh h => h.of_heap hh) Tryd.own started (by kernel_rfl) Tryd.func5
    (ChangeSpec.witness_shaped (enc := enc) (C := Tryd.checked) (os := os) (X := fun w _ => laidMet Tryd.prog Rows.pathJoinsRow.laid w) false (start_PathJoins os) #[.slice none 0 0] 8 (os_PathJoins os)
      (World.shaped_of_ZipB (by kernel_rfl) (by kernel_rfl)) (by kernel_rfl) (by kernel_rfl) (by kernel_rfl) (met_PathJoins os _)) ?_
  intro W base args ds gs before hval0 hW hcnd0 _ hL hsh _
  have hval : ∀ (j : Nat) t v, Tryd.f5.params[j]? = some t → args[j]? = some v → Value.okWide Tryd.prog W .any base t v := hval0
  have hW' := hW
  obtain ⟨p, q, hA0, hV, rfl, hfz, hnd⟩ := hW
  have hA : DataW.TrodAll enc Tryd.prog W 0 (fun _ => true) true Tryd.f5.params.toList args.toList ds p := hA0
  rw [Tryd.params5] at hA hval
  obtain ⟨v0, d0, rfl, rfl, h0⟩ := trodAll_one hA
  obtain ⟨rfl, rfl⟩ := trodVars_none hV
  obtain ⟨a0, len0, cap0, rfl⟩ := okWide_slice Tryd.underlying22 (hval 0 22 v0 rfl rfl)
  have h0k := h0
  obtain ⟨fuel0, hf0⟩ := h0
  clear hA0 hval0
  have hW2 := hW'
  simp only [List.append_nil] at hW2
  have hlt0 : ∀ x ∈ p, x.block < W.heap.size := fun x hx => by simpa using hW2.lt x (by simp [hx])
  obtain ⟨aa0, xs0, ca0, ba0, oa0, hcs0, hX0⟩ := open_texts (by simpa [Value.cells] using hf0)
  cases hcs0
  refine (joins11_any (pathI hsh) xs0 _ ba0 oa0 hX0).mono fun e W' ⟨he, hnx⟩ => ?_
  subst he
  exact ⟨_, rfl, _, _, _, [], p, [], hW', trodAll_mk1 (shut_bool Tryd.underlying4 true),
    trodAll_mk1 (Below.trod Tryd.laidOut (by kernel_rfl) (of_decide_eq_true (by kernel_rfl)) h0k hnx hlt0), rfl, hnx.frame _, fun h => by cases h⟩

theorem pathJoins_holds : Rows.PathJoinsSaid :=
  OpenClaim.holds_of_wide 5 Tryd.f5 rfl rfl rfl rfl rfl rfl rfl ⟨rfl, rfl, rfl, rfl, rfl⟩ rfl rfl rfl rfl rfl (by kernel_rfl) Tryd.func5 (by kernel_rfl)
    (of_decide_eq_true (by kernel_rfl)) (by unfold Func.isWrapper; rw [if_neg (of_decide_eq_false (by kernel_rfl))]; exact ⟨rfl, rfl⟩)
    (fun os started H enc _ => pathJoins_lifted os started H enc)

theorem pathJoins_card : Rows.PathJoinsCardSaid :=
  Claim7.holds_tied_plain_at .later [] [.data, .data, .data, .data, .sentinel, .sentinel, .pinned] true _ true
    pathJoins_holds (fun _ h => by cases h) (by kernel_rfl) (fun _ h => by cases h) pathJoins_row_tie rfl ⟨rfl, rfl⟩ (by kernel_rfl) rfl
    (fun f fn hf hfn => by
      obtain rfl : f = 5 := Option.some.inj (hf.symm.trans (by kernel_rfl))
      obtain rfl : fn = Tryd.f5 := (Option.some.inj (Tryd.func5.symm.trans hfn)).symm
      exact ⟨by kernel_rfl, fun j t ht => by
        rw [Tryd.params5] at ht
        match j, ht with
        | 0, ht =>
          obtain rfl : t = 22 := by simpa using ht.symm
          exact (show Tryd.prog.wantsStandIn 22 = false by kernel_rfl)
        | j + 1, ht => simp at ht⟩)
    (by kernel_rfl)
end Go.Proofs.YtmklgjbfdaleiaaDoor
