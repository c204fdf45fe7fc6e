/- A row of texts that came in as an argument. -/
import Derived.Test.YtgoaljnfegaldaaDoorTr
import Derived.Test.YtgoaljnfegaldaaDoorGen2
import Derived.SliceStrings
import Derived.SizedLaws
namespace Go.Proofs.YtgoaljnfegaldaaDoor
open Go.RowKit

theorem cellsT9 : Tryd.prog.cellsOf 9 = 1 := by kernel_rfl
section
variable {H : Type} {enc : TypeId × Value → H} {W : World}
theorem open_texts {fuel : Nat} {v : Value} {y : DataW H × List MemPlace} (hf : DataW.trod enc Tryd.prog W 0 (fun _ => true) true fuel 22 [v] = some y) :
    ∃ a l c b o, v = .slice a (List.length l) c ∧ TA W (.slice a (List.length l) c) l b o := by
  rcases Go.ChangeShapes.open_strings Tryd.underlying22 Tryd.underlying9 cellsT9 hf with ⟨hcs, _⟩ | ⟨a, len, cap, ss, hcs, _, hl, _, hz, _, hcell, _⟩
  · exact ⟨none, [], 0, 0, 0, by simpa using hcs, ta_nil W none 0⟩
  have hv : v = .slice (some a) len cap := by simpa using hcs
  subst hv
  obtain ⟨l, hll⟩ : ∃ l, l = (ss.take len).map fun s => s.data.toList := ⟨_, rfl⟩
  have hle : len ≤ ss.length := by rw [hz]; exact hl
  have hlen : l.length = len := by rw [hll, List.length_map, List.length_take]; omega
  rcases Nat.eq_zero_or_pos len with rfl | hpos
  · exact ⟨some a, [], cap, 0, 0, rfl, ta_nil W (some a) cap⟩
  obtain ⟨b, o, spot⟩ := a
  have hspot : spot = none := by
    have := World.cell?_spot (hcell 0 (by omega))
    simpa [Addr.add] using this
  subst hspot
  refine ⟨some ⟨b, o, none⟩, l, cap, b, o, by rw [hlen], fun T w' => by rw [hlen]; exact lenT _ _ _ T w', fun i hi w' => by rw [hlen] at hi ⊢; exact indexT b o len cap i hi w', fun i s hs => ?_, ⟨_, _, rfl⟩, .inr ⟨cap, by rw [hlen], by rw [hlen]; exact hl⟩⟩
  have hi : i < len := by
    have := (List.getElem?_eq_some_iff.1 hs).1
    omega
  have h1 := hcell i (by omega)
  have h2 : l[i]? = some (ss.getD i ByteArray.empty).data.toList := by
    rw [hll, List.getElem?_map, List.getElem?_take, if_pos hi, List.getD, List.getElem?_eq_getElem (by omega)]
    rfl
  rw [hs] at h2
  rw [Option.some.inj h2, ← S_of, ← Addr.add_mid]
  exact h1
end
end Go.Proofs.YtgoaljnfegaldaaDoor
