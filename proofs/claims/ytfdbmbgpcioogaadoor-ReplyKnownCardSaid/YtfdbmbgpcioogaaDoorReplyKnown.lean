/- ReplyKnown returns true: the chapter's examples; what may not be. It takes nothing; no condition. The listed variables are tied to the program's text. -/
import Derived.Test.YtfdbmbgpcioogaaDoorPn
import Derived.Test.YtfdbmbgpcioogaaDoorJf
import Derived.Test.YtfdbmbgpcioogaaDoorRows
import Derived.ProofKit
import Derived.Handed
import Derived.OpenShut
import Derived.LaidLaws
import Derived.Lay
import Derived.Test.YtfdbmbgpcioogaaDoorTie
import Derived.Test.YtfdbmbgpcioogaaDoorCards
import Derived.SevenTiedAt
namespace Go.Proofs.YtfdbmbgpcioogaaDoor
open Go Go.ChangeShapes Go.WideShapes Go.ChangeAt Go.RowKit
open Go.ChangeMaps (open_string shut_string)
open Go.WideMaps Go.WideElems
noncomputable def start_ReplyKnown (os : Os) : World := World.laidAll Tryd.prog os Rows.replyKnownRow.laid
theorem met_ReplyKnown (os : Os) (args : Array Value) : laidMet Tryd.prog Rows.replyKnownRow.laid ((start_ReplyKnown os).forCall (fun _ _ => 0) ⟨#[], args, []⟩).memory :=
  laidMet_laidAll _ (by kernel_rfl) (by kernel_rfl)
theorem os_ReplyKnown (os : Os) : (start_ReplyKnown os).os = os := World.laidAll_os _ _ _

set_option maxRecDepth 100000 in
theorem replyKnown_lifted (os : Os) (started : os.Started) (H : Type) (enc : TypeId × Value → H) :
    ReturnsInHanded {} Tryd.checked os 3 .any (fun w args => (Rows.replyKnownSpec.pre enc Tryd.prog Tryd.f3 Rows.replyKnownRow.domain false w args ∧ laidMet Tryd.prog Rows.replyKnownRow.laid w) ∧ sizedMet enc Tryd.prog Tryd.f3 (OpenSpec.ofChange Rows.replyKnownSpec) false w args)
      (Rows.replyKnownSpec.post enc Tryd.prog Tryd.f3 false true false false) := by
  refine returns_both (C := Tryd.checked) (X := fun w _ => laidMet Tryd.prog Rows.replyKnownRow.laid w) (fun _ _ _ hh h => h.of_heap hh) Tryd.own started (by kernel_rfl) Tryd.func3
    (ChangeSpec.witness_shaped (enc := enc) (C := Tryd.checked) (os := os) (X := fun w _ => laidMet Tryd.prog Rows.replyKnownRow.laid w) false (start_ReplyKnown os) #[] 8 (os_ReplyKnown os)
      (World.shaped_of_ZipB (by kernel_rfl) (by kernel_rfl)) (by kernel_rfl) (by kernel_rfl) (by kernel_rfl) (met_ReplyKnown os _)) ?_
  intro W base args ds gs before hval0 hW hcnd0 _ hL hsh _
  have hval : ∀ (j : Nat) t v, Tryd.f3.params[j]? = some t → args[j]? = some v → Value.okWide Tryd.prog W .any base t v := hval0
  have hW' := hW
  obtain ⟨p, q, hA0, hV, rfl, hfz, hnd⟩ := hW
  have hA : DataW.TrodAll enc Tryd.prog W 0 (fun _ => true) true Tryd.f3.params.toList args.toList ds p := hA0
  rw [Tryd.params3] at hA hval
  obtain ⟨rfl, rfl, rfl⟩ := trodAll_none hA
  obtain ⟨rfl, rfl⟩ := trodVars_none hV
  clear hA0 hval0 hval
  refine (known10_any (replyI hsh (pow_of (.tail _ (.tail _ (.head _))) hL))).mono fun e W' ⟨he, hnx⟩ => ?_
  subst he
  exact ⟨_, rfl, _, _, _, [], [], [], hW', trodAll_mk1 (shut_bool Tryd.underlying4 true),
    trodAll_mk0, rfl, hnx.frame _, fun h => by cases h⟩

theorem replyKnown_holds : Rows.ReplyKnownSaid :=
  OpenClaim.holds_of_wide 3 Tryd.f3 rfl rfl rfl rfl rfl rfl rfl ⟨rfl, rfl, rfl, rfl, rfl⟩ rfl rfl rfl rfl rfl (by kernel_rfl) Tryd.func3 (by kernel_rfl)
    (of_decide_eq_true (by kernel_rfl)) (by unfold Func.isWrapper; rw [if_neg (of_decide_eq_false (by kernel_rfl))]; exact ⟨rfl, rfl⟩)
    (fun os started H enc _ => replyKnown_lifted os started H enc)

theorem replyKnown_card : Rows.ReplyKnownCardSaid :=
  Claim7.holds_tied_plain_at .later [] [.data, .data, .data, .data, .sentinel, .sentinel, .pinned] true _ true
    replyKnown_holds (fun _ h => by cases h) (by kernel_rfl) (fun _ h => by cases h) replyKnown_row_tie rfl ⟨rfl, rfl⟩ (by kernel_rfl) rfl
    (fun f fn hf hfn => by
      obtain rfl : f = 3 := Option.some.inj (hf.symm.trans (by kernel_rfl))
      obtain rfl : fn = Tryd.f3 := (Option.some.inj (Tryd.func3.symm.trans hfn)).symm
      exact ⟨by kernel_rfl, fun j t ht => by
        rw [Tryd.params3] at ht
        simp at ht⟩)
    (by kernel_rfl)
end Go.Proofs.YtfdbmbgpcioogaaDoor
