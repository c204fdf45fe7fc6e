/- ShaPieces: however a text is cut, its sum is the same. -/
import Derived.Test.YtihgmgphfdjcfaaDoorP
import Derived.Test.YtihgmgphfdjcfaaDoorLaid
import Derived.OpenShut
namespace Go.Proofs.YtihgmgphfdjcfaaDoor
open Go.ChangeShapes Go.WideShapes Go.ChangeAt Go.RowKit
open Go.WideMaps Go.WideElems
open Go.ChangeMaps (open_string shut_string)

theorem Tryd.laidOut : laidOutB Tryd.prog = true := by kernel_rfl
theorem Tryd.cells40 : Tryd.prog.cellsOf 40 = 1 := by kernel_rfl

theorem came_of {H : Type} {enc : TypeId × Value → H} {W : World} {a0 : Option Addr} {len cap fuel : Nat} {x : DataW H × List MemPlace}
    (hf : DataW.trod enc Tryd.prog W 0 (fun _ => true) true fuel 39 [.slice a0 len cap] = some x) :
    ∃ (ad : Nat → Addr) (z : Nat → Nat), Came W 39 (.slice a0 len cap) len ad (fun i => .int .u16 (z i : Int)) ∧ ∀ i, i < len → z i ≤ 65535 := by
  have hu := Tryd.underlying39
  have hz := Tryd.sizeOf40
  have hlen : ∀ T w', (Builtin.len_ #[39] T #[.slice a0 len cap]).run Tryd.prog w' = .ok (.int .i64 (len : Int)) w' := fun T w' => by
    simp [Builtin.len_, run_underlying hu, Result.andThen, goInt]
  rcases open_ints Tryd.underlying39 Tryd.underlying40 Tryd.cells40 hf with ⟨hcs, _⟩ | ⟨a, len', cap', zs, hcs, _, hl, _, hzs, _, hcell, hwz⟩
  · simp only [List.cons.injEq, Value.slice.injEq, and_true] at hcs
    obtain ⟨rfl, rfl, rfl⟩ := hcs
    exact ⟨fun _ => ⟨0, 0, none⟩, fun _ => 0, ⟨hlen, fun i h => absurd h (by omega), fun i h => absurd h (by omega)⟩, fun i h => absurd h (by omega)⟩
  · simp only [List.cons.injEq, Value.slice.injEq, and_true] at hcs
    obtain ⟨rfl, rfl, rfl⟩ := hcs
    simp only [if_true] at hzs
    have hb : ∀ i, i < len → 0 ≤ zs.getD i 0 ∧ zs.getD i 0 ≤ 65535 := fun i hi => by
      have hm : zs.getD i 0 ∈ zs := by
        rw [List.getD_eq_getElem?_getD, List.getElem?_eq_getElem (by omega)]; exact List.getElem_mem _
      have := hwz _ hm
      exact bounds_u16 this
    refine ⟨fun i => a.add i, fun i => (zs.getD i 0).toNat, ⟨hlen, fun i hi w' => ?_, fun i hi => ?_⟩, fun i hi => ?_⟩
    · have h1 : (0 : Int) ≤ (i : Int) ∧ (i : Int) < (len : Int) := by omega
      simp [Instr.indexAt, run_underlying hu, asIntOf, hz, h1, go_sem]
      intro hge; omega
    · rw [hcell i (by omega)]
      have := hb i hi
      congr 2
      show zs.getD i 0 = (((zs.getD i 0).toNat : Nat) : Int)
      omega
    · have := hb i hi
      show (zs.getD i 0).toNat ≤ 65535
      omega

set_option maxRecDepth 100000 in
theorem pieces_lifted (os : Os) (started : os.Started) (H : Type) (enc : TypeId × Value → H) :
    ReturnsInHanded {} Tryd.checked os 7 .any (fun w args => (Rows.shaPiecesSpec.pre enc Tryd.prog Tryd.f7 Rows.shaPiecesRow.domain false w args ∧ laidMet Tryd.prog Rows.shaPiecesRow.laid w) ∧ sizedMet enc Tryd.prog Tryd.f7 (OpenSpec.ofChange Rows.shaPiecesSpec) false w args)
      (Rows.shaPiecesSpec.post enc Tryd.prog Tryd.f7 false true false false) := by
  refine returnsInHanded_of_change_and (C := Tryd.checked) (X := fun w _ => laidMet Tryd.prog Rows.shaPiecesRow.laid w) (fun _ _ _ hh h => h.of_heap hh) Tryd.own started (by kernel_rfl) Tryd.func7
    (ChangeSpec.witness_at (enc := enc) (C := Tryd.checked) (os := os) (X := fun w _ => laidMet Tryd.prog Rows.shaPiecesRow.laid w) false (startWorld os) #[.string ⟨#[]⟩, .slice none 0 0] 8 rfl (by kernel_rfl) (by kernel_rfl) (by kernel_rfl) (by kernel_rfl) (by kernel_rfl) (laid_met os _)) ?_
  intro W base args ds gs before hval0 hW hcnd0 _ hL _
  have hval : ∀ (j : Nat) t v, Tryd.f7.params[j]? = some t → args[j]? = some v → Value.okWide Tryd.prog W .any base t v := hval0
  have hW' := hW
  obtain ⟨p, q, hA0, hV, rfl, hfz, hnd⟩ := hW
  have hA : DataW.TrodAll enc Tryd.prog W 0 (fun _ => true) true Tryd.f7.params.toList args.toList ds p := hA0
  rw [Tryd.params7] at hA hval
  obtain ⟨v0, v1, d0, d1, p0, p1, rfl, rfl, rfl, h0, h1⟩ := trodAll_two hA
  obtain ⟨rfl, rfl⟩ := trodVars_none hV
  obtain ⟨s, rfl, rfl, rfl, hsl⟩ := open_string Tryd.underlying9 (hval 0 9 v0 rfl rfl) h0
  obtain ⟨a0, len, cap, rfl⟩ := okWide_slice Tryd.underlying39 (hval 1 39 v1 rfl rfl)
  have h1k := h1
  obtain ⟨fuel, hf⟩ := h1
  clear hA0 hval0
  have hW2 := hW'
  simp only [List.append_nil, List.nil_append] at hW2
  have hlt : ∀ x ∈ p1, x.block < W.heap.size := fun x hx => by simpa using hW2.lt x hx
  obtain ⟨ad, z, hcame, hzb⟩ := came_of (by simpa [Value.cells] using hf)
  obtain ⟨l, hl⟩ : ∃ l, l = s.data.toList := ⟨_, rfl⟩
  have hS : Value.string s = S l := by rw [S, hl]
  rw [hS]
  refine (pieces_any l (.slice a0 len cap) len ad z W (start_of_laid hL) hcame hzb).mono fun e W' ⟨he, hnx⟩ => ?_
  subst he
  rw [← hS]
  exact ⟨_, rfl, _, _, _, [], [] ++ p1, [], hW', trodAll_mk1 (shut_bool Tryd.underlying4 true),
    trodAll_mk2 (shut_string Tryd.underlying9 hsl) (Below.trod Tryd.laidOut (by kernel_rfl) (of_decide_eq_true (by kernel_rfl)) h1k hnx hlt), rfl, hnx.frame _, fun h => by cases h⟩

theorem pieces_holds : Rows.ShaPiecesSaid :=
  OpenClaim.holds_of_wide 7 Tryd.f7 rfl rfl rfl rfl rfl rfl rfl ⟨rfl, rfl, rfl, rfl, rfl⟩ rfl rfl rfl rfl rfl (by kernel_rfl) Tryd.func7 (by kernel_rfl)
    (of_decide_eq_true (by kernel_rfl)) (by unfold Func.isWrapper; rw [if_neg (of_decide_eq_false (by kernel_rfl))]; exact ⟨rfl, rfl⟩)
    (fun os started H enc _ => pieces_lifted os started H enc)
end Go.Proofs.YtihgmgphfdjcfaaDoor
