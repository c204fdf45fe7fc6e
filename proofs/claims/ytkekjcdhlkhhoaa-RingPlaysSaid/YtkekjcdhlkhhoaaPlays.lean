/- RingPlays returns true for any room and any acts: each answer is the document's. No condition. -/
import Derived.Test.YtkekjcdhlkhhoaaRs10
import Derived.Test.YtkekjcdhlkhhoaaL9
import Derived.Test.YtkekjcdhlkhhoaaGen4
import Derived.Test.YtkekjcdhlkhhoaaRows
import Derived.ProofKit
import Derived.Handed
import Derived.OpenShut
namespace Go.Proofs.Ytkekjcdhlkhhoaa
open Go.ChangeShapes Go.WideShapes Go.ChangeAt Go.RowKit
open Go.ChangeMaps (open_string shut_string)
open Go.WideMaps Go.WideElems

theorem Try.ownPl : ownKnob Try.prog.godebug = none := by kernel_rfl
theorem Try.laidOut : laidOutB Try.prog = true := by kernel_rfl
theorem acts_came {H : Type} {enc : TypeId × Value → H} {W : World} {a0 : Option Addr} {len cap fuel : Nat} {x : DataW H × List MemPlace}
    (hf : DataW.trod enc Try.prog W 0 (fun _ => true) true fuel 40 [.slice a0 len cap] = some x) :
    ∃ (d mm : Nat → Int) (s : Nat → List UInt8) (b o : Nat), Acts W (.slice a0 len cap) len b o d mm s := by
  obtain ⟨b, o, v, hc, n, hv⟩ := came_structs Try.underlying40 Try.underlying51 (by kernel_rfl) (by kernel_rfl) (by decide) (fun w => Try.sizeOf51 w) hf
  have hall : ∀ i, i < len → ∃ q : Int × Int × List UInt8, v i 0 = .int .i64 q.1 ∧ v i 1 = .int .i64 q.2.1 ∧ v i 2 = S q.2.2 ∧ q.2.2.length ≤ maxLen := fun i hi => by
    obtain ⟨y0, t0⟩ := hv i 0 _ hi rfl
    obtain ⟨y1, t1⟩ := hv i 1 _ hi rfl
    obtain ⟨y2, t2⟩ := hv i 2 _ hi rfl
    obtain ⟨z0, e0, _⟩ := field_num Try.underlying3 t0
    obtain ⟨z1, e1, _⟩ := field_num Try.underlying3 t1
    obtain ⟨z2, e2, l2⟩ := field_text Try.underlying9 t2
    exact ⟨(z0, z1, z2), e0, e1, e2, l2⟩
  obtain ⟨F, hF⟩ := choose_lt' hall
  exact ⟨fun i => (F i).1, fun i => (F i).2.1, fun i => (F i).2.2, b, o, ⟨v, hc, fun i hi => ⟨(hF i hi).1, (hF i hi).2.1, (hF i hi).2.2.1⟩⟩, fun i hi => (hF i hi).2.2.2⟩

set_option maxRecDepth 100000 in
theorem plays_lifted (os : Os) (started : os.Started) (H : Type) (enc : TypeId × Value → H) :
    ReturnsInHanded {} Try.checked os 4 .any (Rows.ringPlaysSpec.pre6 enc Try.prog Try.f4 Rows.ringPlaysRow.domain false) (Rows.ringPlaysSpec.post enc Try.prog Try.f4 false true false false) := by
  refine returnsInHanded_of_change (C := Try.checked) Try.ownPl started (by kernel_rfl) Try.func4
    (ChangeSpec.witness6 (enc := enc) (C := Try.checked) false ⟨#[], #[.int .i64 0, .slice none 0 0], []⟩ 8 (by kernel_rfl) (by kernel_rfl) (by kernel_rfl) (by kernel_rfl)) ?_
  intro W base args ds gs before hval0 hW hcnd _
  have hval : ∀ (j : Nat) t v, Try.f4.params[j]? = some t → args[j]? = some v → Value.okWide Try.prog W .any base t v := hval0
  have hW' := hW
  obtain ⟨p, q, hA0, hV, rfl, hfz, hnd⟩ := hW
  have hA : DataW.TrodAll enc Try.prog W 0 (fun _ => true) true Try.f4.params.toList args.toList ds p := hA0
  rw [Try.params4] at hA hval
  obtain ⟨v0, v1, d0, d1, p0, p1, rfl, rfl, rfl, h0, h1⟩ := trodAll_two hA
  obtain ⟨rfl, rfl⟩ := trodVars_none hV
  obtain ⟨a, rfl, rfl, rfl, wa⟩ := open_int Try.underlying3 (hval 0 3 v0 rfl rfl) h0
  obtain ⟨a0, len, cap, rfl⟩ := okWide_slice Try.underlying40 (hval 1 40 v1 rfl rfl)
  have h1k := h1
  obtain ⟨fuel, hf⟩ := h1
  clear hA0 hval0
  have hW2 := hW'
  simp only [List.append_nil, List.nil_append] at hW2
  have hlt : ∀ x ∈ p1, x.block < W.heap.size := fun x hx => by simpa using hW2.lt x (by simp [hx])
  obtain ⟨d, mm, s, b, o, hacts⟩ := acts_came (by simpa [Value.cells] using hf)
  refine (plays_any Rs.ringS a (.slice a0 len cap) len b o d mm s W hacts).mono fun e W' ⟨he, hnx⟩ => ?_
  subst he
  exact ⟨_, rfl, _, _, _, [], [] ++ p1, [], hW', trodAll_mk1 (shut_bool Try.underlying4 true),
    trodAll_mk2 (shut_int Try.underlying3 wa) (Below.trod Try.laidOut (by kernel_rfl) (of_decide_eq_true (by kernel_rfl)) h1k hnx hlt), rfl, hnx.frame _, fun h => by cases h⟩

theorem plays_holds : Rows.RingPlaysSaid :=
  OpenClaim.holds_of_wide 4 Try.f4 rfl rfl rfl rfl rfl rfl rfl ⟨rfl, rfl, rfl, rfl, rfl⟩ rfl rfl rfl rfl rfl (by kernel_rfl) Try.func4 (by kernel_rfl)
    (of_decide_eq_true (by kernel_rfl)) (by unfold Func.isWrapper; rw [if_neg (of_decide_eq_false (by kernel_rfl))]; exact ⟨rfl, rfl⟩)
    (fun os started H enc _ => plays_lifted os started H enc)
end Go.Proofs.Ytkekjcdhlkhhoaa
