/- UtfPieces returns true for any text, any cuts and anything behind: however bytes are cut, a check says the same, and nothing that comes behind a bad byte changes it. No condition. -/
import Derived.Test.YtmamklahnpmgjaaP1
import Derived.Test.YtmamklahnpmgjaaGen2
import Derived.Test.YtmamklahnpmgjaaRows
import Derived.ProofKit
import Derived.Handed
import Derived.OpenShut
namespace Go.Proofs.Ytmamklahnpmgjaa
open Go.ChangeShapes Go.WideShapes Go.ChangeAt Go.RowKit
open Go.WideMaps Go.WideElems
open Go.ChangeMaps (open_string shut_string)

theorem Try.ownP : ownKnob Try.prog.godebug = none := by kernel_rfl
theorem Try.laidOut : laidOutB Try.prog = true := by kernel_rfl
theorem Try.cells5 : Try.prog.cellsOf 5 = 1 := by kernel_rfl

theorem bytes_came {w : World} {V : Value} {n : Nat} {ad : Nat → Addr} {z : Nat → Int} (h : Came Try.prog w 35 V n ad (fun i => .int .u8 (z i))) (hz : ∀ i, i < n → (Lit.int .u8 (z i)).wf = true) :
    Came Try.prog w 35 V n ad (fun i => .int .u8 (((z i).toNat : Nat) : Int)) ∧ ∀ i, i < n → (z i).toNat ≤ 255 := by
  refine ⟨⟨h.len, h.index, fun i hi => ?_⟩, fun i hi => ?_⟩
  · have := bounds_u8 (hz i hi)
    rw [h.cell i hi, show (((z i).toNat : Nat) : Int) = z i by omega]
  · have := bounds_u8 (hz i hi)
    omega

set_option maxRecDepth 100000 in
theorem pieces_lifted (os : Os) (started : os.Started) (H : Type) (enc : TypeId × Value → H) :
    ReturnsInHanded {} Try.checked os 7 .any (Rows.utfPiecesSpec.pre6 enc Try.prog Try.f7 Rows.utfPiecesRow.domain false) (Rows.utfPiecesSpec.post enc Try.prog Try.f7 false true false false) := by
  refine returnsInHanded_of_change (C := Try.checked) Try.ownP started (by kernel_rfl) Try.func7
    (ChangeSpec.witness6 (enc := enc) (C := Try.checked) false ⟨#[], #[.string ⟨#[]⟩, .slice none 0 0, .string ⟨#[]⟩], []⟩ 8 (by kernel_rfl) (by kernel_rfl) (by kernel_rfl) (by kernel_rfl)) ?_
  intro W base args ds gs before hval0 hW hcnd _
  have hval : ∀ (j : Nat) t v, Try.f7.params[j]? = some t → args[j]? = some v → Value.okWide Try.prog W .any base t v := hval0
  have hW' := hW
  obtain ⟨p, q, hA0, hV, rfl, hfz, hnd⟩ := hW
  have hA : DataW.TrodAll enc Try.prog W 0 (fun _ => true) true Try.f7.params.toList args.toList ds p := hA0
  rw [Try.params7] at hA hval
  obtain ⟨v0, v1, v2, d0, d1, d2, p0, p1, p2, rfl, rfl, rfl, h0, h1, h2⟩ := trodAll_three hA
  obtain ⟨rfl, rfl⟩ := trodVars_none hV
  obtain ⟨s0, rfl, rfl, rfl, hs0⟩ := open_string Try.underlying9 (hval 0 9 v0 rfl rfl) h0
  obtain ⟨a0, len, cap, rfl⟩ := okWide_slice Try.underlying35 (hval 1 35 v1 rfl rfl)
  obtain ⟨s2, rfl, rfl, rfl, hs2⟩ := open_string Try.underlying9 (hval 2 9 v2 rfl rfl) h2
  have h1k := h1
  obtain ⟨fuel, hf⟩ := h1
  clear hA0 hval0
  have hW2 := hW'
  simp only [List.append_nil, List.nil_append] at hW2
  have hlt : ∀ x ∈ p1, x.block < W.heap.size := fun x hx => by simpa using hW2.lt x (by simp [hx])
  obtain ⟨ad, z, hcame, hzb⟩ := came_nums Try.underlying35 Try.underlying5 Try.cells5 (fun w => Try.sizeOf5 w) (by simpa [Value.cells] using hf)
  obtain ⟨hcame, hzb⟩ := bytes_came hcame hzb
  rw [S_of s0, S_of s2]
  refine (pieces_any s0.data.toList s2.data.toList (.slice a0 len cap) len ad _ W hcame hzb).mono fun e W' ⟨he, hnx⟩ => ?_
  subst he
  rw [← S_of s0, ← S_of s2]
  exact ⟨_, rfl, _, _, _, [], [] ++ (p1 ++ []), [], hW', trodAll_mk1 (shut_bool Try.underlying4 true),
    trodAll_mk3 (shut_string Try.underlying9 hs0) (Below.trod Try.laidOut (by kernel_rfl) (of_decide_eq_true (by kernel_rfl)) h1k hnx hlt) (shut_string Try.underlying9 hs2), rfl, hnx.frame _, fun h => by cases h⟩

theorem pieces_holds : Rows.UtfPiecesSaid :=
  OpenClaim.holds_of_wide 7 Try.f7 rfl rfl rfl rfl rfl rfl rfl ⟨rfl, rfl, rfl, rfl, rfl⟩ rfl rfl rfl rfl rfl (by kernel_rfl) Try.func7 (by kernel_rfl)
    (of_decide_eq_true (by kernel_rfl)) (by unfold Func.isWrapper; rw [if_neg (of_decide_eq_false (by kernel_rfl))]; exact ⟨rfl, rfl⟩)
    (fun os started H enc _ => pieces_lifted os started H enc)
end Go.Proofs.Ytmamklahnpmgjaa
