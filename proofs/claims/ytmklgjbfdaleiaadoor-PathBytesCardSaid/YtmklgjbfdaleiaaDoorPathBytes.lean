/- PathBytes returns true for any two bytes and any text: the same of each byte, as it is and with a percent sign, beside others. No condition. The listed variables are tied to the program's text. -/
import Derived.Test.YtmklgjbfdaleiaaDoorAf
import Derived.Test.YtmklgjbfdaleiaaDoorGen2
import Derived.Test.YtmklgjbfdaleiaaDoorAv
import Derived.Test.YtmklgjbfdaleiaaDoorOwn
import Derived.Test.YtmklgjbfdaleiaaDoorRows
import Derived.ProofKit
import Derived.Handed
import Derived.OpenShut
import Derived.Test.YtmklgjbfdaleiaaDoorBo
import Derived.LaidLaws
import Derived.Lay
import Derived.Test.YtmklgjbfdaleiaaDoorTie
import Derived.Test.YtmklgjbfdaleiaaDoorCards
import Derived.SevenTiedAt
namespace Go.Proofs.YtmklgjbfdaleiaaDoor
open Go Go.ChangeShapes Go.WideShapes Go.ChangeAt Go.RowKit
open Go.ChangeMaps (open_string shut_string)
open Go.WideMaps Go.WideElems
noncomputable def start_PathBytes (os : Os) : World := World.laidAll Tryd.prog os Rows.pathBytesRow.laid
theorem met_PathBytes (os : Os) (args : Array Value) : laidMet Tryd.prog Rows.pathBytesRow.laid ((start_PathBytes os).forCall (fun _ _ => 0) ⟨#[], args, []⟩).memory :=
  laidMet_laidAll _ (by kernel_rfl) (by kernel_rfl)
theorem os_PathBytes (os : Os) : (start_PathBytes os).os = os := World.laidAll_os _ _ _

set_option maxRecDepth 100000 in
theorem pathBytes_lifted (os : Os) (started : os.Started) (H : Type) (enc : TypeId × Value → H) :
    ReturnsInHanded {} Tryd.checked os 6 .any (fun w args => (Rows.pathBytesSpec.pre enc Tryd.prog Tryd.f6 Rows.pathBytesRow.domain false w args ∧ laidMet Tryd.prog Rows.pathBytesRow.laid w) ∧ sizedMet enc Tryd.prog Tryd.f6 (OpenSpec.ofChange Rows.pathBytesSpec) false w args)
      (Rows.pathBytesSpec.post enc Tryd.prog Tryd.f6 false true false false) := by
  refine returns_both (C := Tryd.checked) (X := fun w _ => laidMet Tryd.prog Rows.pathBytesRow.laid w) (fun _ _ _ hh h => h.of_heap hh) Tryd.own started (by kernel_rfl) Tryd.func6
    (ChangeSpec.witness_shaped (enc := enc) (C := Tryd.checked) (os := os) (X := fun w _ => laidMet Tryd.prog Rows.pathBytesRow.laid w) false (start_PathBytes os) #[.int .u8 0, .int .u8 0, .string ⟨#[]⟩] 8 (os_PathBytes os)
      (World.shaped_of_ZipB (by kernel_rfl) (by kernel_rfl)) (by kernel_rfl) (by kernel_rfl) (by kernel_rfl) (met_PathBytes os _)) ?_
  intro W base args ds gs before hval0 hW hcnd0 _ hL hsh _
  have hval : ∀ (j : Nat) t v, Tryd.f6.params[j]? = some t → args[j]? = some v → Value.okWide Tryd.prog W .any base t v := hval0
  have hW' := hW
  obtain ⟨p, q, hA0, hV, rfl, hfz, hnd⟩ := hW
  have hA : DataW.TrodAll enc Tryd.prog W 0 (fun _ => true) true Tryd.f6.params.toList args.toList ds p := hA0
  rw [Tryd.params6] at hA hval
  obtain ⟨v0, v1, v2, d0, d1, d2, p0, p1, p2, rfl, rfl, rfl, h0, h1, h2⟩ := trodAll_three hA
  obtain ⟨rfl, rfl⟩ := trodVars_none hV
  obtain ⟨n0, rfl, rfl, rfl, wn0⟩ := open_int Tryd.underlying5 (hval 0 5 v0 rfl rfl) h0
  obtain ⟨n1, rfl, rfl, rfl, wn1⟩ := open_int Tryd.underlying5 (hval 1 5 v1 rfl rfl) h1
  obtain ⟨s2, rfl, rfl, rfl, hs2⟩ := open_string Tryd.underlying9 (hval 2 9 v2 rfl rfl) h2
  clear hA0 hval0
  have bn0 := bounds_u8 wn0
  have hB0 : Value.int .u8 n0 = B (UInt8.ofNat n0.toNat) := by
    rw [B]
    congr 1
    rw [UInt8.toNat_ofNat']
    omega
  have bn1 := bounds_u8 wn1
  have hB1 : Value.int .u8 n1 = B (UInt8.ofNat n1.toNat) := by
    rw [B]
    congr 1
    rw [UInt8.toNat_ofNat']
    omega
  rw [hB0, hB1, S_of s2]
  refine (bytes11_any (pathI hsh) (UInt8.ofNat n0.toNat) (UInt8.ofNat n1.toNat) s2.data.toList).mono fun e W' ⟨he, hnx⟩ => ?_
  subst he
  rw [← hB0, ← hB1, ← S_of s2]
  exact ⟨_, rfl, _, _, _, [], _, [], hW', trodAll_mk1 (shut_bool Tryd.underlying4 true),
    trodAll_mk3 (shut_int Tryd.underlying5 wn0) (shut_int Tryd.underlying5 wn1) (shut_string Tryd.underlying9 hs2), rfl, hnx.frame _, fun h => by cases h⟩

theorem pathBytes_holds : Rows.PathBytesSaid :=
  OpenClaim.holds_of_wide 6 Tryd.f6 rfl rfl rfl rfl rfl rfl rfl ⟨rfl, rfl, rfl, rfl, rfl⟩ rfl rfl rfl rfl rfl (by kernel_rfl) Tryd.func6 (by kernel_rfl)
    (of_decide_eq_true (by kernel_rfl)) (by unfold Func.isWrapper; rw [if_neg (of_decide_eq_false (by kernel_rfl))]; exact ⟨rfl, rfl⟩)
    (fun os started H enc _ => pathBytes_lifted os started H enc)

theorem pathBytes_card : Rows.PathBytesCardSaid :=
  Claim7.holds_tied_plain_at .later [] [.data, .data, .data, .data, .sentinel, .sentinel, .pinned] true _ true
    pathBytes_holds (fun _ h => by cases h) (by kernel_rfl) (fun _ h => by cases h) pathBytes_row_tie rfl ⟨rfl, rfl⟩ (by kernel_rfl) rfl
    (fun f fn hf hfn => by
      obtain rfl : f = 6 := Option.some.inj (hf.symm.trans (by kernel_rfl))
      obtain rfl : fn = Tryd.f6 := (Option.some.inj (Tryd.func6.symm.trans hfn)).symm
      exact ⟨by kernel_rfl, fun j t ht => by
        rw [Tryd.params6] at ht
        match j, ht with
        | 0, ht =>
          obtain rfl : t = 5 := by simpa using ht.symm
          exact (show Tryd.prog.wantsStandIn 5 = false by kernel_rfl)
        | 1, ht =>
          obtain rfl : t = 5 := by simpa using ht.symm
          exact (show Tryd.prog.wantsStandIn 5 = false by kernel_rfl)
        | 2, ht =>
          obtain rfl : t = 9 := by simpa using ht.symm
          exact (show Tryd.prog.wantsStandIn 9 = false by kernel_rfl)
        | j + 3, ht => simp at ht⟩)
    (by kernel_rfl)
end Go.Proofs.YtmklgjbfdaleiaaDoor
