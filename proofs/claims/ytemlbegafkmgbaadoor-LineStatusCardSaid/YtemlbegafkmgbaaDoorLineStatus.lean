/- LineStatus returns true for any code, any reason and any text: a code and a reason are a reply's line of these. No condition. The listed variables are tied to the program's text. -/
import Derived.Test.YtemlbegafkmgbaaDoorLs
import Derived.Test.YtemlbegafkmgbaaDoorLw
import Derived.Test.YtemlbegafkmgbaaDoorLz
import Derived.Test.YtemlbegafkmgbaaDoorOwn
import Derived.Test.YtemlbegafkmgbaaDoorRows
import Derived.ProofKit
import Derived.Handed
import Derived.OpenShut
import Derived.LaidLaws
import Derived.Lay
import Derived.Test.YtemlbegafkmgbaaDoorTie
import Derived.Test.YtemlbegafkmgbaaDoorCards
import Derived.SevenTiedAt
namespace Go.Proofs.YtemlbegafkmgbaaDoor
open Go Go.ChangeShapes Go.WideShapes Go.ChangeAt Go.RowKit
open Go.ChangeMaps (open_string shut_string)
open Go.WideMaps Go.WideElems
noncomputable def start_LineStatus (os : Os) : World := World.laidAll Tryd.prog os Rows.lineStatusRow.laid
theorem met_LineStatus (os : Os) (args : Array Value) : laidMet Tryd.prog Rows.lineStatusRow.laid ((start_LineStatus os).forCall (fun _ _ => 0) ⟨#[], args, []⟩).memory :=
  laidMet_laidAll _ (by kernel_rfl) (by kernel_rfl)
theorem os_LineStatus (os : Os) : (start_LineStatus os).os = os := World.laidAll_os _ _ _

set_option maxRecDepth 100000 in
theorem lineStatus_lifted (os : Os) (started : os.Started) (H : Type) (enc : TypeId × Value → H) :
    ReturnsInHanded {} Tryd.checked os 8 .any (fun w args => (Rows.lineStatusSpec.pre enc Tryd.prog Tryd.f8 Rows.lineStatusRow.domain false w args ∧ laidMet Tryd.prog Rows.lineStatusRow.laid w) ∧ sizedMet enc Tryd.prog Tryd.f8 (OpenSpec.ofChange Rows.lineStatusSpec) false w args)
      (Rows.lineStatusSpec.post enc Tryd.prog Tryd.f8 false true false false) := by
  refine returnsInHanded_of_change_and (C := Tryd.checked) (X := fun w _ => laidMet Tryd.prog Rows.lineStatusRow.laid w) (fun _ _ _ hh h => h.of_heap hh) Tryd.own started (by kernel_rfl) Tryd.func8
    (ChangeSpec.witness_shaped (enc := enc) (C := Tryd.checked) (os := os) (X := fun w _ => laidMet Tryd.prog Rows.lineStatusRow.laid w) false (start_LineStatus os) #[.int .i64 0, .string ⟨#[]⟩, .string ⟨#[]⟩] 8 (os_LineStatus os)
      (World.shaped_of_ZipB (by kernel_rfl) (by kernel_rfl)) (by kernel_rfl) (by kernel_rfl) (by kernel_rfl) (met_LineStatus os _)) ?_
  intro W base args ds gs before hval0 hW hcnd0 _ hL _
  have hval : ∀ (j : Nat) t v, Tryd.f8.params[j]? = some t → args[j]? = some v → Value.okWide Tryd.prog W .any base t v := hval0
  have hW' := hW
  obtain ⟨p, q, hA0, hV, rfl, hfz, hnd⟩ := hW
  have hA : DataW.TrodAll enc Tryd.prog W 0 (fun _ => true) true Tryd.f8.params.toList args.toList ds p := hA0
  rw [Tryd.params8] at hA hval
  obtain ⟨v0, v1, v2, d0, d1, d2, p0, p1, p2, rfl, rfl, rfl, h0, h1, h2⟩ := trodAll_three hA
  obtain ⟨rfl, rfl⟩ := trodVars_none hV
  obtain ⟨n0, rfl, rfl, rfl, wn0⟩ := open_int Tryd.underlying3 (hval 0 3 v0 rfl rfl) h0
  obtain ⟨s1, rfl, rfl, rfl, hs1⟩ := open_string Tryd.underlying9 (hval 1 9 v1 rfl rfl) h1
  obtain ⟨s2, rfl, rfl, rfl, hs2⟩ := open_string Tryd.underlying9 (hval 2 9 v2 rfl rfl) h2
  clear hA0 hval0
  have bn0 := bounds_i64 wn0
  rw [S_of s1, S_of s2]
  refine (status_any lineI PowAt outI n0 bn0.1 bn0.2 s1.data.toList s2.data.toList hs1 hs2 W (pow_of_laid hL)).mono fun e W' ⟨he, hnx⟩ => ?_
  subst he
  rw [← S_of s1, ← S_of s2]
  exact ⟨_, rfl, _, _, _, [], _, [], hW', trodAll_mk1 (shut_bool Tryd.underlying4 true),
    trodAll_mk3 (shut_int Tryd.underlying3 wn0) (shut_string Tryd.underlying9 hs1) (shut_string Tryd.underlying9 hs2), rfl, hnx.frame _, fun h => by cases h⟩

theorem lineStatus_holds : Rows.LineStatusSaid :=
  OpenClaim.holds_of_wide 8 Tryd.f8 rfl rfl rfl rfl rfl rfl rfl ⟨rfl, rfl, rfl, rfl, rfl⟩ rfl rfl rfl rfl rfl (by kernel_rfl) Tryd.func8 (by kernel_rfl)
    (of_decide_eq_true (by kernel_rfl)) (by unfold Func.isWrapper; rw [if_neg (of_decide_eq_false (by kernel_rfl))]; exact ⟨rfl, rfl⟩)
    (fun os started H enc _ => lineStatus_lifted os started H enc)

theorem lineStatus_card : Rows.LineStatusCardSaid :=
  Claim7.holds_tied_plain_at .later [] [.data, .data, .data, .data, .pinned] true _ false
    lineStatus_holds (fun _ h => by cases h) (by kernel_rfl) (fun _ h => by cases h) lineStatus_row_tie rfl ⟨rfl, rfl⟩ (by kernel_rfl) rfl
    (fun f fn hf hfn => by
      obtain rfl : f = 8 := Option.some.inj (hf.symm.trans (by kernel_rfl))
      obtain rfl : fn = Tryd.f8 := (Option.some.inj (Tryd.func8.symm.trans hfn)).symm
      exact ⟨by kernel_rfl, fun j t ht => by
        rw [Tryd.params8] at ht
        match j, ht with
        | 0, ht =>
          obtain rfl : t = 3 := by simpa using ht.symm
          exact (show Tryd.prog.wantsStandIn 3 = false by kernel_rfl)
        | 1, ht =>
          obtain rfl : t = 9 := by simpa using ht.symm
          exact (show Tryd.prog.wantsStandIn 9 = false by kernel_rfl)
        | 2, ht =>
          obtain rfl : t = 9 := by simpa using ht.symm
          exact (show Tryd.prog.wantsStandIn 9 = false by kernel_rfl)
        | j + 3, ht => simp at ht⟩)
    (by kernel_rfl)
end Go.Proofs.YtemlbegafkmgbaaDoor
