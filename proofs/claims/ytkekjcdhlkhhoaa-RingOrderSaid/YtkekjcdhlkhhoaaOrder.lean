/- RingOrder returns true for any room and any numbers: what is popped is what was pushed, each once, in that order. No condition. -/
import Derived.Test.YtkekjcdhlkhhoaaRs10
import Derived.Test.YtkekjcdhlkhhoaaRu10
import Derived.Test.YtkekjcdhlkhhoaaLc
import Derived.Test.YtkekjcdhlkhhoaaGen2
import Derived.Test.YtkekjcdhlkhhoaaRows
import Derived.ProofKit
import Derived.Handed
import Derived.OpenShut
namespace Go.Proofs.Ytkekjcdhlkhhoaa
open Go.ChangeShapes Go.WideShapes Go.ChangeAt Go.RowKit
open Go.ChangeMaps (open_string shut_string)
open Go.WideMaps Go.WideElems

theorem Try.ownOr : ownKnob Try.prog.godebug = none := by kernel_rfl
theorem Try.laidOut : laidOutB Try.prog = true := by kernel_rfl
theorem Try.cells70 : Try.prog.cellsOf 70 = 1 := by kernel_rfl
theorem bounds_u16' {x : Int} (h : (Lit.int .u16 x).wf = true) : 0 ≤ x ∧ x ≤ 65535 := by
  have h1 : IntKind.u16.min = 0 := rfl
  have h2 : IntKind.u16.max = 65535 := rfl
  simp only [Lit.wf, Bool.and_eq_true, decide_eq_true_eq] at h
  omega
theorem words_came {w : World} {V : Value} {n : Nat} {ad : Nat → Addr} {z : Nat → Int} (h : Came Try.prog w 66 V n ad (fun i => .int .u16 (z i))) (hz : ∀ i, i < n → (Lit.int .u16 (z i)).wf = true) :
    Came Try.prog w 66 V n ad (fun i => .int .u16 (((z i).toNat : Nat) : Int)) ∧ ∀ i, i < n → (z i).toNat ≤ 65535 := by
  refine ⟨⟨h.len, h.index, fun i hi => ?_⟩, fun i hi => ?_⟩
  · have := bounds_u16' (hz i hi)
    rw [h.cell i hi, show (((z i).toNat : Nat) : Int) = z i by omega]
  · have := bounds_u16' (hz i hi)
    omega
set_option maxRecDepth 100000 in
theorem order_lifted (os : Os) (started : os.Started) (H : Type) (enc : TypeId × Value → H) :
    ReturnsInHanded {} Try.checked os 6 .any (Rows.ringOrderSpec.pre6 enc Try.prog Try.f6 Rows.ringOrderRow.domain false) (Rows.ringOrderSpec.post enc Try.prog Try.f6 false true false false) := by
  refine returnsInHanded_of_change (C := Try.checked) Try.ownOr started (by kernel_rfl) Try.func6
    (ChangeSpec.witness6 (enc := enc) (C := Try.checked) false ⟨#[], #[.int .u8 0, .slice none 0 0], []⟩ 8 (by kernel_rfl) (by kernel_rfl) (by kernel_rfl) (by kernel_rfl)) ?_
  intro W base args ds gs before hval0 hW hcnd _
  have hval : ∀ (j : Nat) t v, Try.f6.params[j]? = some t → args[j]? = some v → Value.okWide Try.prog W .any base t v := hval0
  have hW' := hW
  obtain ⟨p, q, hA0, hV, rfl, hfz, hnd⟩ := hW
  have hA : DataW.TrodAll enc Try.prog W 0 (fun _ => true) true Try.f6.params.toList args.toList ds p := hA0
  rw [Try.params6] at hA hval
  obtain ⟨v0, v1, d0, d1, p0, p1, rfl, rfl, rfl, h0, h1⟩ := trodAll_two hA
  obtain ⟨rfl, rfl⟩ := trodVars_none hV
  obtain ⟨a, rfl, rfl, rfl, wa⟩ := open_int Try.underlying5 (hval 0 5 v0 rfl rfl) h0
  obtain ⟨a0, len, cap, rfl⟩ := okWide_slice Try.underlying66 (hval 1 66 v1 rfl rfl)
  have h1k := h1
  obtain ⟨fuel, hf⟩ := h1
  clear hA0 hval0
  have hW2 := hW'
  simp only [List.append_nil, List.nil_append] at hW2
  have hlt : ∀ x ∈ p1, x.block < W.heap.size := fun x hx => by simpa using hW2.lt x (by simp [hx])
  obtain ⟨ad, z, hcame, hzb⟩ := came_nums Try.underlying66 Try.underlying70 Try.cells70 (fun w => Try.sizeOf70 w) (by simpa [Value.cells] using hf)
  obtain ⟨hcame, hzb⟩ := words_came hcame hzb
  have ba := bounds_u8 wa
  obtain ⟨qn, rfl⟩ : ∃ qn : Nat, a = (qn : Int) := ⟨a.toNat, by omega⟩
  refine (order_any Rs.ringS Ru.ringU qn (by omega) (.slice a0 len cap) len ad _ W hcame hzb).mono fun e W' ⟨he, hnx⟩ => ?_
  subst he
  exact ⟨_, rfl, _, _, _, [], [] ++ p1, [], hW', trodAll_mk1 (shut_bool Try.underlying4 true),
    trodAll_mk2 (shut_int Try.underlying5 wa) (Below.trod Try.laidOut (by kernel_rfl) (of_decide_eq_true (by kernel_rfl)) h1k hnx hlt), rfl, hnx.frame _, fun h => by cases h⟩

theorem order_holds : Rows.RingOrderSaid :=
  OpenClaim.holds_of_wide 6 Try.f6 rfl rfl rfl rfl rfl rfl rfl ⟨rfl, rfl, rfl, rfl, rfl⟩ rfl rfl rfl rfl rfl (by kernel_rfl) Try.func6 (by kernel_rfl)
    (of_decide_eq_true (by kernel_rfl)) (by unfold Func.isWrapper; rw [if_neg (of_decide_eq_false (by kernel_rfl))]; exact ⟨rfl, rfl⟩)
    (fun os started H enc _ => order_lifted os started H enc)
end Go.Proofs.Ytkekjcdhlkhhoaa
