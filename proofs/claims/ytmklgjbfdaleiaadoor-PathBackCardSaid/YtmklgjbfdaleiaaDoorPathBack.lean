/- PathBack returns true for any row of texts and any text: what was joined is split into the same segments, and is a target; what was split, joined and split again, too. No condition. The listed variables are tied to the program's text. -/
import Derived.Test.YtmklgjbfdaleiaaDoorAg
import Derived.Test.YtmklgjbfdaleiaaDoorOh
import Derived.Test.YtmklgjbfdaleiaaDoorGen2
import Derived.Test.YtmklgjbfdaleiaaDoorAv
import Derived.Test.YtmklgjbfdaleiaaDoorOwn
import Derived.Test.YtmklgjbfdaleiaaDoorRows
import Derived.ProofKit
import Derived.Handed
import Derived.OpenShut
import Derived.Test.YtmklgjbfdaleiaaDoorBo
import Derived.LaidLaws
import Derived.Lay
import Derived.Test.YtmklgjbfdaleiaaDoorTie
import Derived.Test.YtmklgjbfdaleiaaDoorCards
import Derived.SevenTiedAt
namespace Go.Proofs.YtmklgjbfdaleiaaDoor
open Go Go.ChangeShapes Go.WideShapes Go.ChangeAt Go.RowKit
open Go.ChangeMaps (open_string shut_string)
open Go.WideMaps Go.WideElems
noncomputable def start_PathBack (os : Os) : World := World.laidAll Tryd.prog os Rows.pathBackRow.laid
theorem met_PathBack (os : Os) (args : Array Value) : laidMet Tryd.prog Rows.pathBackRow.laid ((start_PathBack os).forCall (fun _ _ => 0) ⟨#[], args, []⟩).memory :=
  laidMet_laidAll _ (by kernel_rfl) (by kernel_rfl)
theorem os_PathBack (os : Os) : (start_PathBack os).os = os := World.laidAll_os _ _ _

set_option maxRecDepth 100000 in
theorem pathBack_lifted (os : Os) (started : os.Started) (H : Type) (enc : TypeId × Value → H) :
    ReturnsInHanded {} Tryd.checked os 7 .any (fun w args => (Rows.pathBackSpec.pre enc Tryd.prog Tryd.f7 Rows.pathBackRow.domain false w args ∧ laidMet Tryd.prog Rows.pathBackRow.laid w) ∧ sizedMet enc Tryd.prog Tryd.f7 (OpenSpec.ofChange Rows.pathBackSpec) false w args)
      (Rows.pathBackSpec.post enc Tryd.prog Tryd.f7 false true false false) := by
  refine returns_both (C := Tryd.checked) (X := fun w _ => laidMet Tryd.prog Rows.pathBackRow.laid w) (fun _ _ _ hh h => h.of_heap hh) Tryd.own started (by kernel_rfl) Tryd.func7
    (ChangeSpec.witness_shaped (enc := enc) (C := Tryd.checked) (os := os) (X := fun w _ => laidMet Tryd.prog Rows.pathBackRow.laid w) false (start_PathBack os) #[.slice none 0 0, .string ⟨#[]⟩] 8 (os_PathBack os)
      (World.shaped_of_ZipB (by kernel_rfl) (by kernel_rfl)) (by kernel_rfl) (by kernel_rfl) (by kernel_rfl) (met_PathBack os _)) ?_
  intro W base args ds gs before hval0 hW hcnd0 _ hL hsh _
  have hval : ∀ (j : Nat) t v, Tryd.f7.params[j]? = some t → args[j]? = some v → Value.okWide Tryd.prog W .any base t v := hval0
  have hW' := hW
  obtain ⟨p, q, hA0, hV, rfl, hfz, hnd⟩ := hW
  have hA : DataW.TrodAll enc Tryd.prog W 0 (fun _ => true) true Tryd.f7.params.toList args.toList ds p := hA0
  rw [Tryd.params7] at hA hval
  obtain ⟨v0, v1, d0, d1, p0, p1, rfl, rfl, rfl, h0, h1⟩ := trodAll_two hA
  obtain ⟨rfl, rfl⟩ := trodVars_none hV
  obtain ⟨a0, len0, cap0, rfl⟩ := okWide_slice Tryd.underlying22 (hval 0 22 v0 rfl rfl)
  obtain ⟨s1, rfl, rfl, rfl, hs1⟩ := open_string Tryd.underlying9 (hval 1 9 v1 rfl rfl) h1
  have h0k := h0
  obtain ⟨fuel0, hf0⟩ := h0
  clear hA0 hval0
  have hW2 := hW'
  simp only [List.append_nil] at hW2
  have hlt0 : ∀ x ∈ p0, x.block < W.heap.size := fun x hx => by simpa using hW2.lt x (by simp [hx])
  obtain ⟨aa0, xs0, ca0, ba0, oa0, hcs0, hX0⟩ := open_texts (by simpa [Value.cells] using hf0)
  cases hcs0
  rw [S_of s1]
  refine (back11_any (pathI hsh) targetI xs0 _ ba0 oa0 hX0 s1.data.toList).mono fun e W' ⟨he, hnx⟩ => ?_
  subst he
  rw [← S_of s1]
  exact ⟨_, rfl, _, _, _, [], p0 ++ [], [], hW', trodAll_mk1 (shut_bool Tryd.underlying4 true),
    trodAll_mk2 (Below.trod Tryd.laidOut (by kernel_rfl) (of_decide_eq_true (by kernel_rfl)) h0k hnx hlt0) (shut_string Tryd.underlying9 hs1), rfl, hnx.frame _, fun h => by cases h⟩

theorem pathBack_holds : Rows.PathBackSaid :=
  OpenClaim.holds_of_wide 7 Tryd.f7 rfl rfl rfl rfl rfl rfl rfl ⟨rfl, rfl, rfl, rfl, rfl⟩ rfl rfl rfl rfl rfl (by kernel_rfl) Tryd.func7 (by kernel_rfl)
    (of_decide_eq_true (by kernel_rfl)) (by unfold Func.isWrapper; rw [if_neg (of_decide_eq_false (by kernel_rfl))]; exact ⟨rfl, rfl⟩)
    (fun os started H enc _ => pathBack_lifted os started H enc)

theorem pathBack_card : Rows.PathBackCardSaid :=
  Claim7.holds_tied_plain_at .later [] [.data, .data, .data, .data, .sentinel, .sentinel, .pinned] true _ true
    pathBack_holds (fun _ h => by cases h) (by kernel_rfl) (fun _ h => by cases h) pathBack_row_tie rfl ⟨rfl, rfl⟩ (by kernel_rfl) rfl
    (fun f fn hf hfn => by
      obtain rfl : f = 7 := Option.some.inj (hf.symm.trans (by kernel_rfl))
      obtain rfl : fn = Tryd.f7 := (Option.some.inj (Tryd.func7.symm.trans hfn)).symm
      exact ⟨by kernel_rfl, fun j t ht => by
        rw [Tryd.params7] at ht
        match j, ht with
        | 0, ht =>
          obtain rfl : t = 22 := by simpa using ht.symm
          exact (show Tryd.prog.wantsStandIn 22 = false by kernel_rfl)
        | 1, ht =>
          obtain rfl : t = 9 := by simpa using ht.symm
          exact (show Tryd.prog.wantsStandIn 9 = false by kernel_rfl)
        | j + 2, ht => simp at ht⟩)
    (by kernel_rfl)
end Go.Proofs.YtmklgjbfdaleiaaDoor
