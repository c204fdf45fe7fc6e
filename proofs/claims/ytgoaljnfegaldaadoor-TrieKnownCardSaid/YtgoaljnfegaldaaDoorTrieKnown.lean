/- TrieKnown returns true: the chapter's examples, and others. It takes nothing; no condition. The listed variables are tied to the program's text. -/
import Derived.Test.YtgoaljnfegaldaaDoorTk
import Derived.Test.YtgoaljnfegaldaaDoorGen2
import Derived.Test.YtgoaljnfegaldaaDoorTv
import Derived.Test.YtgoaljnfegaldaaDoorOwn
import Derived.Test.YtgoaljnfegaldaaDoorRows
import Derived.ProofKit
import Derived.Handed
import Derived.OpenShut
import Derived.Test.YtgoaljnfegaldaaDoorBo
import Derived.LaidLaws
import Derived.Lay
import Derived.Test.YtgoaljnfegaldaaDoorTie
import Derived.Test.YtgoaljnfegaldaaDoorCards
import Derived.SevenTiedAt
namespace Go.Proofs.YtgoaljnfegaldaaDoor
open Go Go.ChangeShapes Go.WideShapes Go.ChangeAt Go.RowKit
open Go.ChangeMaps (open_string shut_string)
open Go.WideMaps Go.WideElems
noncomputable def start_TrieKnown (os : Os) : World := World.laidAll Tryd.prog os Rows.trieKnownRow.laid
theorem met_TrieKnown (os : Os) (args : Array Value) : laidMet Tryd.prog Rows.trieKnownRow.laid ((start_TrieKnown os).forCall (fun _ _ => 0) ⟨#[], args, []⟩).memory :=
  laidMet_laidAll _ (by kernel_rfl) (by kernel_rfl)
theorem os_TrieKnown (os : Os) : (start_TrieKnown os).os = os := World.laidAll_os _ _ _

set_option maxRecDepth 100000 in
theorem trieKnown_lifted (os : Os) (started : os.Started) (H : Type) (enc : TypeId × Value → H) :
    ReturnsInHanded {} Tryd.checked os 6 .any (fun w args => (Rows.trieKnownSpec.pre enc Tryd.prog Tryd.f6 Rows.trieKnownRow.domain false w args ∧ laidMet Tryd.prog Rows.trieKnownRow.laid w) ∧ sizedMet enc Tryd.prog Tryd.f6 (OpenSpec.ofChange Rows.trieKnownSpec) false w args)
      (Rows.trieKnownSpec.post enc Tryd.prog Tryd.f6 false true false false) := by
  refine returns_both (C := Tryd.checked) (X := fun w _ => laidMet Tryd.prog Rows.trieKnownRow.laid w) (fun _ _ _ hh h => h.of_heap hh) Tryd.own started (by kernel_rfl) Tryd.func6
    (ChangeSpec.witness_shaped (enc := enc) (C := Tryd.checked) (os := os) (X := fun w _ => laidMet Tryd.prog Rows.trieKnownRow.laid w) false (start_TrieKnown os) #[] 8 (os_TrieKnown os)
      (World.shaped_of_ZipB (by kernel_rfl) (by kernel_rfl)) (by kernel_rfl) (by kernel_rfl) (by kernel_rfl) (met_TrieKnown os _)) ?_
  intro W base args ds gs before hval0 hW hcnd0 _ hL hsh _
  have hval : ∀ (j : Nat) t v, Tryd.f6.params[j]? = some t → args[j]? = some v → Value.okWide Tryd.prog W .any base t v := hval0
  have hW' := hW
  obtain ⟨p, q, hA0, hV, rfl, hfz, hnd⟩ := hW
  have hA : DataW.TrodAll enc Tryd.prog W 0 (fun _ => true) true Tryd.f6.params.toList args.toList ds p := hA0
  rw [Tryd.params6] at hA hval
  obtain ⟨rfl, rfl, rfl⟩ := trodAll_none hA
  obtain ⟨rfl, rfl⟩ := trodVars_none hV
  clear hA0 hval0 hval
  refine (known12_any (trieI (max_of hsh)) (trieM (max_of hsh)) (rightI (max_of hsh))).mono fun e W' ⟨he, hnx⟩ => ?_
  subst he
  exact ⟨_, rfl, _, _, _, [], [], [], hW', trodAll_mk1 (shut_bool Tryd.underlying4 true),
    trodAll_mk0, rfl, hnx.frame _, fun h => by cases h⟩

theorem trieKnown_holds : Rows.TrieKnownSaid :=
  OpenClaim.holds_of_wide 6 Tryd.f6 rfl rfl rfl rfl rfl rfl rfl ⟨rfl, rfl, rfl, rfl, rfl⟩ rfl rfl rfl rfl rfl (by kernel_rfl) Tryd.func6 (by kernel_rfl)
    (of_decide_eq_true (by kernel_rfl)) (by unfold Func.isWrapper; rw [if_neg (of_decide_eq_false (by kernel_rfl))]; exact ⟨rfl, rfl⟩)
    (fun os started H enc _ => trieKnown_lifted os started H enc)

theorem trieKnown_card : Rows.TrieKnownCardSaid :=
  Claim7.holds_tied_plain_at .later [] [.data, .pinned] true _ false
    trieKnown_holds (fun _ h => by cases h) (by kernel_rfl) (fun _ h => by cases h) trieKnown_row_tie rfl ⟨rfl, rfl⟩ (by kernel_rfl) rfl
    (fun f fn hf hfn => by
      obtain rfl : f = 6 := Option.some.inj (hf.symm.trans (by kernel_rfl))
      obtain rfl : fn = Tryd.f6 := (Option.some.inj (Tryd.func6.symm.trans hfn)).symm
      exact ⟨by kernel_rfl, fun j t ht => by
        rw [Tryd.params6] at ht
        simp at ht⟩)
    (by kernel_rfl)
end Go.Proofs.YtgoaljnfegaldaaDoor
