/- UtfFew returns true for any three bytes and any text: what UtfReads says holds of them ahead of the text, behind it, and of two and one of them alone. No condition. -/
import Derived.Test.YtmamklahnpmgjaaF1
import Derived.Test.YtmamklahnpmgjaaRows
import Derived.ProofKit
import Derived.Handed
import Derived.OpenShut
namespace Go.Proofs.Ytmamklahnpmgjaa
open Go.ChangeShapes Go.WideShapes Go.ChangeAt Go.RowKit
open Go.ChangeMaps (open_string shut_string)
open Go.WideMaps Go.WideElems

theorem Try.ownF : ownKnob Try.prog.godebug = none := by kernel_rfl
theorem S_ofF (s : ByteArray) : Value.string s = S s.data.toList := by rw [S]

theorem B_ofF (n : Int) (h0 : 0 ≤ n) (h1 : n ≤ 255) : Value.int .u8 n = B (UInt8.ofNat n.toNat) := by
  have e : ((UInt8.ofNat n.toNat).toNat : Int) = n := by rw [UInt8.toNat_ofNat']; omega
  rw [B, e]

set_option maxRecDepth 100000 in
theorem few_lifted (os : Os) (started : os.Started) (H : Type) (enc : TypeId × Value → H) :
    ReturnsInHanded {} Try.checked os 5 .any (Rows.utfFewSpec.pre6 enc Try.prog Try.f5 Rows.utfFewRow.domain false) (Rows.utfFewSpec.post enc Try.prog Try.f5 false true false false) := by
  refine returnsInHanded_of_change (C := Try.checked) Try.ownF started (by kernel_rfl) Try.func5
    (ChangeSpec.witness6 (enc := enc) (C := Try.checked) false ⟨#[], #[.int .u8 0, .int .u8 0, .int .u8 0, .string ⟨#[]⟩], []⟩ 8 (by kernel_rfl) (by kernel_rfl) (by kernel_rfl) (by kernel_rfl)) ?_
  intro W base args ds gs before hval0 hW hcnd _
  have hval : ∀ (j : Nat) t v, Try.f5.params[j]? = some t → args[j]? = some v → Value.okWide Try.prog W .any base t v := hval0
  have hW' := hW
  obtain ⟨p, q, hA0, hV, rfl, hfz, hnd⟩ := hW
  have hA : DataW.TrodAll enc Try.prog W 0 (fun _ => true) true Try.f5.params.toList args.toList ds p := hA0
  rw [Try.params5] at hA hval
  obtain ⟨v0, v1, v2, v3, d0, d1, d2, d3, p0, p1, p2, p3, rfl, rfl, rfl, h0, h1, h2, h3⟩ := trodAll_four hA
  obtain ⟨rfl, rfl⟩ := trodVars_none hV
  obtain ⟨a, rfl, rfl, rfl, wa⟩ := open_int Try.underlying5 (hval 0 5 v0 rfl rfl) h0
  obtain ⟨b, rfl, rfl, rfl, wb⟩ := open_int Try.underlying5 (hval 1 5 v1 rfl rfl) h1
  obtain ⟨c, rfl, rfl, rfl, wc⟩ := open_int Try.underlying5 (hval 2 5 v2 rfl rfl) h2
  obtain ⟨s0, rfl, rfl, rfl, hs0⟩ := open_string Try.underlying9 (hval 3 9 v3 rfl rfl) h3
  clear hA0 hval0
  have ba := bounds_u8 wa
  have bb := bounds_u8 wb
  have bc := bounds_u8 wc
  have hcall := few_any (UInt8.ofNat a.toNat) (UInt8.ofNat b.toNat) (UInt8.ofNat c.toNat) s0.data.toList W
  rw [← S_ofF s0, ← B_ofF a ba.1 ba.2, ← B_ofF b bb.1 bb.2, ← B_ofF c bc.1 bc.2] at hcall
  refine hcall.mono fun e W' ⟨he, hnx⟩ => ?_
  subst he
  exact ⟨_, rfl, _, _, _, [], _, [], hW', trodAll_mk1 (shut_bool Try.underlying4 true),
    trodAll_mk4 (shut_int Try.underlying5 wa) (shut_int Try.underlying5 wb) (shut_int Try.underlying5 wc) (shut_string Try.underlying9 hs0), rfl, hnx.frame _, fun h => by cases h⟩

theorem few_holds : Rows.UtfFewSaid :=
  OpenClaim.holds_of_wide 5 Try.f5 rfl rfl rfl rfl rfl rfl rfl ⟨rfl, rfl, rfl, rfl, rfl⟩ rfl rfl rfl rfl rfl (by kernel_rfl) Try.func5 (by kernel_rfl)
    (of_decide_eq_true (by kernel_rfl)) (by unfold Func.isWrapper; rw [if_neg (of_decide_eq_false (by kernel_rfl))]; exact ⟨rfl, rfl⟩)
    (fun os started H enc _ => few_lifted os started H enc)
end Go.Proofs.Ytmamklahnpmgjaa
