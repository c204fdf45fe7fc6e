/- RequestFields returns true for any number of fields, any number and any text: what a request's fields say of it is what is read of it. No condition. The listed variables are tied to the program's text. -/
import Derived.Test.YtplajlccnnbifaaGreatDoorRf
import Derived.Test.YtplajlccnnbifaaGreatDoorJh
import Derived.Test.YtplajlccnnbifaaGreatDoorRows
import Derived.ProofKit
import Derived.Handed
import Derived.OpenShut
import Derived.LaidLaws
import Derived.Lay
import Derived.Test.YtplajlccnnbifaaGreatDoorTie
import Derived.Test.YtplajlccnnbifaaGreatDoorCards
import Derived.SevenTiedAt
namespace Go.Proofs.YtplajlccnnbifaaGreatDoor
open Go Go.ChangeShapes Go.WideShapes Go.ChangeAt Go.RowKit
open Go.ChangeMaps (open_string shut_string)
open Go.WideMaps Go.WideElems
noncomputable def start_RequestFields (os : Os) : World := World.laidAll Tryz.prog os Rows.requestFieldsRow.laid
theorem met_RequestFields (os : Os) (args : Array Value) : laidMet Tryz.prog Rows.requestFieldsRow.laid ((start_RequestFields os).forCall (fun _ _ => 0) ⟨#[], args, []⟩).memory :=
  laidMet_laidAll _ (by kernel_rfl) (by kernel_rfl)
theorem os_RequestFields (os : Os) : (start_RequestFields os).os = os := World.laidAll_os _ _ _

set_option maxRecDepth 100000 in
theorem requestFields_lifted (os : Os) (started : os.Started) (H : Type) (enc : TypeId × Value → H) :
    ReturnsInHanded {} Tryz.checked os 4 .any (fun w args => (Rows.requestFieldsSpec.pre enc Tryz.prog Tryz.f4 Rows.requestFieldsRow.domain false w args ∧ laidMet Tryz.prog Rows.requestFieldsRow.laid w) ∧ sizedMet enc Tryz.prog Tryz.f4 (OpenSpec.ofChange Rows.requestFieldsSpec) false w args)
      (Rows.requestFieldsSpec.post enc Tryz.prog Tryz.f4 false true false false) := by
  refine returns_both (C := Tryz.checked) (X := fun w _ => laidMet Tryz.prog Rows.requestFieldsRow.laid w) (fun _ _ _ hh h => h.of_heap hh) Tryz.own started (by kernel_rfl) Tryz.func4
    (ChangeSpec.witness_shaped (enc := enc) (C := Tryz.checked) (os := os) (X := fun w _ => laidMet Tryz.prog Rows.requestFieldsRow.laid w) false (start_RequestFields os) #[.int .u8 0, .int .u16 0, .string ⟨#[]⟩] 8 (os_RequestFields os)
      (World.shaped_of_ZipB (by kernel_rfl) (by kernel_rfl)) (by kernel_rfl) (by kernel_rfl) (by kernel_rfl) (met_RequestFields os _)) ?_
  intro W base args ds gs before hval0 hW hcnd0 _ hL hsh _
  have hval : ∀ (j : Nat) t v, Tryz.f4.params[j]? = some t → args[j]? = some v → Value.okWide Tryz.prog W .any base t v := hval0
  have hW' := hW
  obtain ⟨p, q, hA0, hV, rfl, hfz, hnd⟩ := hW
  have hA : DataW.TrodAll enc Tryz.prog W 0 (fun _ => true) true Tryz.f4.params.toList args.toList ds p := hA0
  rw [Tryz.params4] at hA hval
  obtain ⟨v0, v1, v2, d0, d1, d2, p0, p1, p2, rfl, rfl, rfl, h0, h1, h2⟩ := trodAll_three hA
  obtain ⟨rfl, rfl⟩ := trodVars_none hV
  obtain ⟨n0, rfl, rfl, rfl, wn0⟩ := open_int Tryz.underlying5 (hval 0 5 v0 rfl rfl) h0
  obtain ⟨n1, rfl, rfl, rfl, wn1⟩ := open_int Tryz.underlying33 (hval 1 33 v1 rfl rfl) h1
  obtain ⟨s2, rfl, rfl, rfl, hs2⟩ := open_string Tryz.underlying9 (hval 2 9 v2 rfl rfl) h2
  clear hA0 hval0
  have bn0 := bounds_u8 wn0
  obtain ⟨m0, rfl⟩ : ∃ m : Nat, n0 = (m : Int) := ⟨n0.toNat, by omega⟩
  have bn1 := bounds_u16 wn1
  obtain ⟨m1, rfl⟩ : ∃ m : Nat, n1 = (m : Int) := ⟨n1.toNat, by omega⟩
  rw [S_of s2]
  refine (rfields_any (requestI hsh) m0 (by omega) m1 (by omega) s2.data.toList).mono fun e W' ⟨he, hnx⟩ => ?_
  subst he
  rw [← S_of s2]
  exact ⟨_, rfl, _, _, _, [], _, [], hW', trodAll_mk1 (shut_bool Tryz.underlying4 true),
    trodAll_mk3 (shut_int Tryz.underlying5 wn0) (shut_int Tryz.underlying33 wn1) (shut_string Tryz.underlying9 hs2), rfl, hnx.frame _, fun h => by cases h⟩

theorem requestFields_holds : Rows.RequestFieldsSaid :=
  OpenClaim.holds_of_wide 4 Tryz.f4 rfl rfl rfl rfl rfl rfl rfl ⟨rfl, rfl, rfl, rfl, rfl⟩ rfl rfl rfl rfl rfl (by kernel_rfl) Tryz.func4 (by kernel_rfl)
    (of_decide_eq_true (by kernel_rfl)) (by unfold Func.isWrapper; rw [if_neg (of_decide_eq_false (by kernel_rfl))]; exact ⟨rfl, rfl⟩)
    (fun os started H enc _ => requestFields_lifted os started H enc)

theorem requestFields_card : Rows.RequestFieldsCardSaid :=
  Claim7.holds_tied_plain_at .later [] [.data, .pinned] true _ false
    requestFields_holds (fun _ h => by cases h) (by kernel_rfl) (fun _ h => by cases h) requestFields_row_tie rfl ⟨rfl, rfl⟩ (by kernel_rfl) rfl
    (fun f fn hf hfn => by
      obtain rfl : f = 4 := Option.some.inj (hf.symm.trans (by kernel_rfl))
      obtain rfl : fn = Tryz.f4 := (Option.some.inj (Tryz.func4.symm.trans hfn)).symm
      exact ⟨by kernel_rfl, fun j t ht => by
        rw [Tryz.params4] at ht
        match j, ht with
        | 0, ht =>
          obtain rfl : t = 5 := by simpa using ht.symm
          exact (show Tryz.prog.wantsStandIn 5 = false by kernel_rfl)
        | 1, ht =>
          obtain rfl : t = 33 := by simpa using ht.symm
          exact (show Tryz.prog.wantsStandIn 33 = false by kernel_rfl)
        | 2, ht =>
          obtain rfl : t = 9 := by simpa using ht.symm
          exact (show Tryz.prog.wantsStandIn 9 = false by kernel_rfl)
        | j + 3, ht => simp at ht⟩)
    (by kernel_rfl)
end Go.Proofs.YtplajlccnnbifaaGreatDoor
