/- BufStream returns true for any text, any room from 1 on and any numbers read and written: what is read is what was written, in that order. No condition. -/
import Derived.Test.YtgkinbichiahjaaS1
import Derived.Test.YtgkinbichiahjaaRows
import Derived.Test.YtgkinbichiahjaaGen2
import Derived.HandedShaped
import Derived.ProofKit
import Derived.Handed
import Derived.OpenShut
namespace Go.Proofs.Ytgkinbichiahjaa
open Go.ChangeShapes Go.WideShapes Go.ChangeAt Go.RowKit
open Go.WideMaps Go.WideElems
open Go.ChangeMaps (open_string shut_string)

theorem Try.ownSt : ownKnob Try.prog.godebug = none := by kernel_rfl
theorem maxSt {W : World} (h : W.ShapedOpen Try.prog) : MaxAt W := Try.laysM185.s1_3 W h

theorem Try.laidOut : laidOutB Try.prog = true := by kernel_rfl
theorem Try.cells5 : Try.prog.cellsOf 5 = 1 := by kernel_rfl
theorem bounds_u16' {x : Int} (h : (Lit.int .u16 x).wf = true) : 0 ≤ x ∧ x ≤ 65535 := by
  have h1 : IntKind.u16.min = 0 := rfl
  have h2 : IntKind.u16.max = 65535 := rfl
  simp only [Lit.wf, Bool.and_eq_true, decide_eq_true_eq] at h
  omega
theorem bytes_came {w : World} {V : Value} {n : Nat} {ad : Nat → Addr} {z : Nat → Int} (h : Came Try.prog w 38 V n ad (fun i => .int .u8 (z i))) (hz : ∀ i, i < n → (Lit.int .u8 (z i)).wf = true) :
    Came Try.prog w 38 V n ad (fun i => .int .u8 (((z i).toNat : Nat) : Int)) ∧ ∀ i, i < n → (z i).toNat ≤ 255 := by
  refine ⟨⟨h.len, h.index, fun i hi => ?_⟩, fun i hi => ?_⟩
  · have := bounds_u8 (hz i hi)
    rw [h.cell i hi, show (((z i).toNat : Nat) : Int) = z i by omega]
  · have := bounds_u8 (hz i hi)
    omega

set_option maxRecDepth 100000 in
theorem stream_lifted (os : Os) (started : os.Started) (H : Type) (enc : TypeId × Value → H) :
    ReturnsInHanded {} Try.checked os 6 .any (Rows.bufStreamSpec.pre6 enc Try.prog Try.f6 Rows.bufStreamRow.domain false) (Rows.bufStreamSpec.post enc Try.prog Try.f6 false true false false) := by
  refine returnsInHanded_of_change_shaped (C := Try.checked) Try.ownSt started (by kernel_rfl) Try.func6
    (ChangeSpec.witness6 (enc := enc) (C := Try.checked) false ⟨#[], #[.string ⟨#[]⟩, .int .u16 0, .slice none 0 0], []⟩ 8 (by kernel_rfl) (by kernel_rfl) (by kernel_rfl) (by kernel_rfl)) ?_
  intro W base args ds gs before hval0 hW hcnd _ hsh _
  have hval : ∀ (j : Nat) t v, Try.f6.params[j]? = some t → args[j]? = some v → Value.okWide Try.prog W .any base t v := hval0
  have hW' := hW
  obtain ⟨p, q, hA0, hV, rfl, hfz, hnd⟩ := hW
  have hA : DataW.TrodAll enc Try.prog W 0 (fun _ => true) true Try.f6.params.toList args.toList ds p := hA0
  rw [Try.params6] at hA hval
  obtain ⟨v0, v1, v2, d0, d1, d2, p0, p1, p2, rfl, rfl, rfl, h0, h1, h2⟩ := trodAll_three hA
  obtain ⟨rfl, rfl⟩ := trodVars_none hV
  obtain ⟨s0, rfl, rfl, rfl, hs0⟩ := open_string Try.underlying9 (hval 0 9 v0 rfl rfl) h0
  obtain ⟨a, rfl, rfl, rfl, wa⟩ := open_int Try.underlying42 (hval 1 42 v1 rfl rfl) h1
  obtain ⟨a0, len, cap, rfl⟩ := okWide_slice Try.underlying38 (hval 2 38 v2 rfl rfl)
  have h2k := h2
  obtain ⟨fuel, hf⟩ := h2
  clear hA0 hval0
  have hW2 := hW'
  simp only [List.append_nil, List.nil_append] at hW2
  have hlt : ∀ x ∈ p2, x.block < W.heap.size := fun x hx => by simpa using hW2.lt x (by simp [hx])
  obtain ⟨ad, z, hcame, hzb⟩ := came_nums Try.underlying38 Try.underlying5 Try.cells5 (fun w => Try.sizeOf5 w) (by simpa [Value.cells] using hf)
  obtain ⟨hcame, hzb⟩ := bytes_came hcame hzb
  have ba := bounds_u16' wa
  obtain ⟨qn, rfl⟩ : ∃ qn : Nat, a = (qn : Int) := ⟨a.toNat, by omega⟩
  rw [S_of s0]
  refine (stream_any s0.data.toList qn (by omega) (.slice a0 len cap) len ad _ W hcame hzb (maxSt hsh)).mono fun e W' ⟨he, hnx⟩ => ?_
  subst he
  rw [← S_of s0]
  exact ⟨_, rfl, _, _, _, [], [] ++ ([] ++ p2), [], hW', trodAll_mk1 (shut_bool Try.underlying4 true),
    trodAll_mk3 (shut_string Try.underlying9 hs0) (shut_int Try.underlying42 wa) (Below.trod Try.laidOut (by kernel_rfl) (of_decide_eq_true (by kernel_rfl)) h2k hnx hlt), rfl, hnx.frame _, fun h => by cases h⟩

theorem stream_holds : Rows.BufStreamSaid :=
  OpenClaim.holds_of_wide 6 Try.f6 rfl rfl rfl rfl rfl rfl rfl ⟨rfl, rfl, rfl, rfl, rfl⟩ rfl rfl rfl rfl rfl (by kernel_rfl) Try.func6 (by kernel_rfl)
    (of_decide_eq_true (by kernel_rfl)) (by unfold Func.isWrapper; rw [if_neg (of_decide_eq_false (by kernel_rfl))]; exact ⟨rfl, rfl⟩)
    (fun os started H enc _ => stream_lifted os started H enc)
end Go.Proofs.Ytgkinbichiahjaa
