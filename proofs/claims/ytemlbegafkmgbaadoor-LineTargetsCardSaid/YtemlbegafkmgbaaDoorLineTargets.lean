/- LineTargets returns true for any two texts and any cut: a path and a query are a target of these; each beginning of a path that does not cut a percent sign's digits is one; two paths are one. No condition. The listed variables are tied to the program's text. -/
import Derived.Test.YtemlbegafkmgbaaDoorLt
import Derived.Test.YtemlbegafkmgbaaDoorLz
import Derived.Test.YtemlbegafkmgbaaDoorOwn
import Derived.Test.YtemlbegafkmgbaaDoorRows
import Derived.ProofKit
import Derived.Handed
import Derived.OpenShut
import Derived.LaidLaws
import Derived.Lay
import Derived.Test.YtemlbegafkmgbaaDoorTie
import Derived.Test.YtemlbegafkmgbaaDoorCards
import Derived.SevenTiedAt
namespace Go.Proofs.YtemlbegafkmgbaaDoor
open Go Go.ChangeShapes Go.WideShapes Go.ChangeAt Go.RowKit
open Go.ChangeMaps (open_string shut_string)
open Go.WideMaps Go.WideElems
noncomputable def start_LineTargets (os : Os) : World := World.laidAll Tryd.prog os Rows.lineTargetsRow.laid
theorem met_LineTargets (os : Os) (args : Array Value) : laidMet Tryd.prog Rows.lineTargetsRow.laid ((start_LineTargets os).forCall (fun _ _ => 0) ⟨#[], args, []⟩).memory :=
  laidMet_laidAll _ (by kernel_rfl) (by kernel_rfl)
theorem os_LineTargets (os : Os) : (start_LineTargets os).os = os := World.laidAll_os _ _ _

set_option maxRecDepth 100000 in
theorem lineTargets_lifted (os : Os) (started : os.Started) (H : Type) (enc : TypeId × Value → H) :
    ReturnsInHanded {} Tryd.checked os 7 .any (fun w args => (Rows.lineTargetsSpec.pre enc Tryd.prog Tryd.f7 Rows.lineTargetsRow.domain false w args ∧ laidMet Tryd.prog Rows.lineTargetsRow.laid w) ∧ sizedMet enc Tryd.prog Tryd.f7 (OpenSpec.ofChange Rows.lineTargetsSpec) false w args)
      (Rows.lineTargetsSpec.post enc Tryd.prog Tryd.f7 false true false false) := by
  refine returnsInHanded_of_change_and (C := Tryd.checked) (X := fun w _ => laidMet Tryd.prog Rows.lineTargetsRow.laid w) (fun _ _ _ hh h => h.of_heap hh) Tryd.own started (by kernel_rfl) Tryd.func7
    (ChangeSpec.witness_shaped (enc := enc) (C := Tryd.checked) (os := os) (X := fun w _ => laidMet Tryd.prog Rows.lineTargetsRow.laid w) false (start_LineTargets os) #[.string ⟨#[]⟩, .string ⟨#[]⟩, .int .u16 0] 8 (os_LineTargets os)
      (World.shaped_of_ZipB (by kernel_rfl) (by kernel_rfl)) (by kernel_rfl) (by kernel_rfl) (by kernel_rfl) (met_LineTargets os _)) ?_
  intro W base args ds gs before hval0 hW hcnd0 _ hL _
  have hval : ∀ (j : Nat) t v, Tryd.f7.params[j]? = some t → args[j]? = some v → Value.okWide Tryd.prog W .any base t v := hval0
  have hW' := hW
  obtain ⟨p, q, hA0, hV, rfl, hfz, hnd⟩ := hW
  have hA : DataW.TrodAll enc Tryd.prog W 0 (fun _ => true) true Tryd.f7.params.toList args.toList ds p := hA0
  rw [Tryd.params7] at hA hval
  obtain ⟨v0, v1, v2, d0, d1, d2, p0, p1, p2, rfl, rfl, rfl, h0, h1, h2⟩ := trodAll_three hA
  obtain ⟨rfl, rfl⟩ := trodVars_none hV
  obtain ⟨s0, rfl, rfl, rfl, hs0⟩ := open_string Tryd.underlying9 (hval 0 9 v0 rfl rfl) h0
  obtain ⟨s1, rfl, rfl, rfl, hs1⟩ := open_string Tryd.underlying9 (hval 1 9 v1 rfl rfl) h1
  obtain ⟨n2, rfl, rfl, rfl, wn2⟩ := open_int Tryd.underlying35 (hval 2 35 v2 rfl rfl) h2
  clear hA0 hval0
  have bn2 := bounds_u16 wn2
  obtain ⟨m2, rfl⟩ : ∃ m : Nat, n2 = (m : Int) := ⟨n2.toNat, by omega⟩
  rw [S_of s0, S_of s1]
  refine (ltargets_any lineI s0.data.toList s1.data.toList m2 hs0 hs1 (by omega) W).mono fun e W' ⟨he, hnx⟩ => ?_
  subst he
  rw [← S_of s0, ← S_of s1]
  exact ⟨_, rfl, _, _, _, [], _, [], hW', trodAll_mk1 (shut_bool Tryd.underlying4 true),
    trodAll_mk3 (shut_string Tryd.underlying9 hs0) (shut_string Tryd.underlying9 hs1) (shut_int Tryd.underlying35 wn2), rfl, hnx.frame _, fun h => by cases h⟩

theorem lineTargets_holds : Rows.LineTargetsSaid :=
  OpenClaim.holds_of_wide 7 Tryd.f7 rfl rfl rfl rfl rfl rfl rfl ⟨rfl, rfl, rfl, rfl, rfl⟩ rfl rfl rfl rfl rfl (by kernel_rfl) Tryd.func7 (by kernel_rfl)
    (of_decide_eq_true (by kernel_rfl)) (by unfold Func.isWrapper; rw [if_neg (of_decide_eq_false (by kernel_rfl))]; exact ⟨rfl, rfl⟩)
    (fun os started H enc _ => lineTargets_lifted os started H enc)

theorem lineTargets_card : Rows.LineTargetsCardSaid :=
  Claim7.holds_tied_plain_at .later [] [.data, .pinned] true _ false
    lineTargets_holds (fun _ h => by cases h) (by kernel_rfl) (fun _ h => by cases h) lineTargets_row_tie rfl ⟨rfl, rfl⟩ (by kernel_rfl) rfl
    (fun f fn hf hfn => by
      obtain rfl : f = 7 := Option.some.inj (hf.symm.trans (by kernel_rfl))
      obtain rfl : fn = Tryd.f7 := (Option.some.inj (Tryd.func7.symm.trans hfn)).symm
      exact ⟨by kernel_rfl, fun j t ht => by
        rw [Tryd.params7] at ht
        match j, ht with
        | 0, ht =>
          obtain rfl : t = 9 := by simpa using ht.symm
          exact (show Tryd.prog.wantsStandIn 9 = false by kernel_rfl)
        | 1, ht =>
          obtain rfl : t = 9 := by simpa using ht.symm
          exact (show Tryd.prog.wantsStandIn 9 = false by kernel_rfl)
        | 2, ht =>
          obtain rfl : t = 35 := by simpa using ht.symm
          exact (show Tryd.prog.wantsStandIn 35 = false by kernel_rfl)
        | j + 3, ht => simp at ht⟩)
    (by kernel_rfl)
end Go.Proofs.YtemlbegafkmgbaaDoor
