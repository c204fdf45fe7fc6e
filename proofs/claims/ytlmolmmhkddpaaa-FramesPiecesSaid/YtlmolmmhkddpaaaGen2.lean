/- Slices that came in, opened: of numbers, of texts. Over any program. -/
import Derived.Test.YtlmolmmhkddpaaaGen
import Derived.ProofKit
import Derived.Handed
import Derived.OpenShut
import Derived.SliceStrings
namespace Go.Proofs.Ytlmolmmhkddpaaa
open Go.ChangeShapes Go.WideShapes Go.ChangeAt Go.RowKit
open Go.WideMaps Go.WideElems
variable {P : Program}

theorem S_of (s : ByteArray) : Value.string s = S s.data.toList := by rw [S]
theorem B_of (n : Int) (h0 : 0 ≤ n) (h1 : n ≤ 255) : Value.int .u8 n = B (UInt8.ofNat n.toNat) := by
  have e : ((UInt8.ofNat n.toNat).toNat : Int) = n := by rw [UInt8.toNat_ofNat']; omega
  rw [B, e]

theorem came_nums {t e : TypeId} {k : IntKind} (hu : P.underlying t = some (.slice e)) (he : P.underlying e = some (.int k)) (hcs : P.cellsOf e = 1) (hz : ∀ w, (sizeOf e).run P w = .ok 1 w)
    {H : Type} {enc : TypeId × Value → H} {W : World} {a0 : Option Addr} {len cap fuel : Nat} {x : DataW H × List MemPlace}
    (hf : DataW.trod enc P W 0 (fun _ => true) true fuel t [.slice a0 len cap] = some x) :
    ∃ (ad : Nat → Addr) (z : Nat → Int), Came P W t (.slice a0 len cap) len ad (fun i => .int k (z i)) ∧ ∀ i, i < len → (Lit.int k (z i)).wf = true := by
  have hlen : ∀ T w', (Builtin.len_ #[t] T #[.slice a0 len cap]).run P w' = .ok (.int .i64 (len : Int)) w' := fun T w' => by
    simp [Builtin.len_, run_underlying hu, Result.andThen, goInt]
  rcases open_ints hu he hcs hf with ⟨hcs, _⟩ | ⟨a, len', cap', zs, hcs, _, hl, _, hzs, _, hcell, hwz⟩
  · simp only [List.cons.injEq, Value.slice.injEq, and_true] at hcs
    obtain ⟨rfl, rfl, rfl⟩ := hcs
    exact ⟨fun _ => ⟨0, 0, none⟩, fun _ => 0, ⟨hlen, fun i h => absurd h (by omega), fun i h => absurd h (by omega)⟩, fun i h => absurd h (by omega)⟩
  · simp only [List.cons.injEq, Value.slice.injEq, and_true] at hcs
    obtain ⟨rfl, rfl, rfl⟩ := hcs
    simp only [if_true] at hzs
    refine ⟨fun i => a.add i, fun i => zs.getD i 0, ⟨hlen, fun i hi w' => ?_, fun i hi => hcell i (by omega)⟩, fun i hi => ?_⟩
    · have h1 : (0 : Int) ≤ (i : Int) ∧ (i : Int) < (len : Int) := by omega
      simp [Instr.indexAt, run_underlying hu, asIntOf, hz, h1, go_sem]
      intro hge; omega
    · refine hwz _ ?_
      show zs.getD i 0 ∈ zs
      rw [List.getD_eq_getElem?_getD, List.getElem?_eq_getElem (by omega)]
      exact List.getElem_mem _
theorem came_texts {t e : TypeId} (hu : P.underlying t = some (.slice e)) (he : P.underlying e = some .string) (hcs : P.cellsOf e = 1) (hz : ∀ w, (sizeOf e).run P w = .ok 1 w)
    {H : Type} {enc : TypeId × Value → H} {W : World} {a0 : Option Addr} {len cap fuel : Nat} {x : DataW H × List MemPlace}
    (hf : DataW.trod enc P W 0 (fun _ => true) true fuel t [.slice a0 len cap] = some x) :
    ∃ (ad : Nat → Addr) (z : Nat → List UInt8), Came P W t (.slice a0 len cap) len ad (fun i => S (z i)) := by
  have hlen : ∀ T w', (Builtin.len_ #[t] T #[.slice a0 len cap]).run P w' = .ok (.int .i64 (len : Int)) w' := fun T w' => by
    simp [Builtin.len_, run_underlying hu, Result.andThen, goInt]
  rcases open_strings hu he hcs hf with ⟨hcs, _⟩ | ⟨a, len', cap', ss, hcs, _, hl, _, hss, _, hcell, _⟩
  · simp only [List.cons.injEq, Value.slice.injEq, and_true] at hcs
    obtain ⟨rfl, rfl, rfl⟩ := hcs
    exact ⟨fun _ => ⟨0, 0, none⟩, fun _ => [], ⟨hlen, fun i h => absurd h (by omega), fun i h => absurd h (by omega)⟩⟩
  · simp only [List.cons.injEq, Value.slice.injEq, and_true] at hcs
    obtain ⟨rfl, rfl, rfl⟩ := hcs
    simp only [if_true] at hss
    refine ⟨fun i => a.add i, fun i => (ss.getD i ByteArray.empty).data.toList, ⟨hlen, fun i hi w' => ?_, fun i hi => ?_⟩⟩
    · have h1 : (0 : Int) ≤ (i : Int) ∧ (i : Int) < (len : Int) := by omega
      simp [Instr.indexAt, run_underlying hu, asIntOf, hz, h1, go_sem]
      intro hge; omega
    · rw [hcell i (by omega), S_of]
end Go.Proofs.Ytlmolmmhkddpaaa
