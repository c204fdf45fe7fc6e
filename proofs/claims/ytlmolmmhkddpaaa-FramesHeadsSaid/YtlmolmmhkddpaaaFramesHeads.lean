/- FramesHeads returns true for any two bytes and any text behind, masked or not: what is told of them is the document's. No condition. -/
import Derived.Test.YtlmolmmhkddpaaaHj
import Derived.Test.YtlmolmmhkddpaaaHz
import Derived.Test.YtlmolmmhkddpaaaOwn
import Derived.Test.YtlmolmmhkddpaaaRows
import Derived.ProofKit
import Derived.Handed
import Derived.OpenShut
import Derived.Carry
namespace Go.Proofs.Ytlmolmmhkddpaaa
open Go Go.ChangeShapes Go.WideShapes Go.ChangeAt Go.RowKit
open Go.ChangeMaps (open_string shut_string)
open Go.WideMaps Go.WideElems

set_option maxRecDepth 100000 in
theorem framesHeads_lifted (os : Os) (started : os.Started) (H : Type) (enc : TypeId × Value → H) :
    ReturnsInHanded {} Try.checked os 5 .any (Rows.framesHeadsSpec.pre6 enc Try.prog Try.f5 Rows.framesHeadsRow.domain false) (Rows.framesHeadsSpec.post enc Try.prog Try.f5 false true false false) := by
  refine returnsInHanded_of_change (C := Try.checked) Try.own started (by kernel_rfl) Try.func5
    (ChangeSpec.witness6 (enc := enc) (C := Try.checked) false ⟨#[], #[.int .u8 0, .int .u8 0, .string ⟨#[]⟩, .bool false], []⟩ 8 (by kernel_rfl) (by kernel_rfl) (by kernel_rfl) (by kernel_rfl)) ?_
  intro W base args ds gs before hval0 hW hcnd _
  have hval : ∀ (j : Nat) t v, Try.f5.params[j]? = some t → args[j]? = some v → Value.okWide Try.prog W .any base t v := hval0
  have hW' := hW
  obtain ⟨p, q, hA0, hV, rfl, hfz, hnd⟩ := hW
  have hA : DataW.TrodAll enc Try.prog W 0 (fun _ => true) true Try.f5.params.toList args.toList ds p := hA0
  rw [Try.params5] at hA hval
  obtain ⟨v0, v1, v2, v3, d0, d1, d2, d3, p0, p1, p2, p3, rfl, rfl, rfl, h0, h1, h2, h3⟩ := trodAll_four hA
  obtain ⟨rfl, rfl⟩ := trodVars_none hV
  obtain ⟨n0, rfl, rfl, rfl, wn0⟩ := open_int Try.underlying5 (hval 0 5 v0 rfl rfl) h0
  obtain ⟨n1, rfl, rfl, rfl, wn1⟩ := open_int Try.underlying5 (hval 1 5 v1 rfl rfl) h1
  obtain ⟨s2, rfl, rfl, rfl, hs2⟩ := open_string Try.underlying9 (hval 2 9 v2 rfl rfl) h2
  obtain ⟨b3, rfl, rfl, rfl⟩ := open_bool Try.underlying4 (hval 3 4 v3 rfl rfl) h3
  clear hA0 hval0
  have bn0 := bounds_u8 wn0
  have hB0 : Value.int .u8 n0 = B (UInt8.ofNat n0.toNat) := by
    rw [B]
    congr 1
    rw [UInt8.toNat_ofNat']
    omega
  have bn1 := bounds_u8 wn1
  have hB1 : Value.int .u8 n1 = B (UInt8.ofNat n1.toNat) := by
    rw [B]
    congr 1
    rw [UInt8.toNat_ofNat']
    omega
  rw [hB0, hB1, S_of s2]
  refine (heads16_any (framesI W) (UInt8.ofNat n0.toNat) (UInt8.ofNat n1.toNat) s2.data.toList b3).mono fun e W' ⟨he, hnx⟩ => ?_
  subst he
  rw [← hB0, ← hB1, ← S_of s2]
  exact ⟨_, rfl, _, _, _, [], _, [], hW', trodAll_mk1 (shut_bool Try.underlying4 true),
    trodAll_mk4 (shut_int Try.underlying5 wn0) (shut_int Try.underlying5 wn1) (shut_string Try.underlying9 hs2) (shut_bool Try.underlying4 b3), rfl, hnx.frame _, fun h => by cases h⟩

theorem framesHeads_holds : Rows.FramesHeadsSaid :=
  OpenClaim.holds_of_wide 5 Try.f5 rfl rfl rfl rfl rfl rfl rfl ⟨rfl, rfl, rfl, rfl, rfl⟩ rfl rfl rfl rfl rfl (by kernel_rfl) Try.func5 (by kernel_rfl)
    (of_decide_eq_true (by kernel_rfl)) (by unfold Func.isWrapper; rw [if_neg (of_decide_eq_false (by kernel_rfl))]; exact ⟨rfl, rfl⟩)
    (fun os started H enc _ => framesHeads_lifted os started H enc)
end Go.Proofs.Ytlmolmmhkddpaaa
