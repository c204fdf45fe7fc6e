/- A key of sixteen bytes that came in as an argument: opened (stage 17; okWide_arr is Ey's: not beside it). -/
import Derived.Test.YtnaekjmlikhglaaDoorDa
import Derived.Test.YtnaekjmlikhglaaDoorGen9
import Derived.OpenShut
import Derived.SizedLaws
import Derived.ChangeSame
import Derived.WideShapes
namespace Go.Proofs.YtnaekjmlikhglaaDoor
open Go.RowKit Go.ChangeShapes

theorem okWide_arr {P : Program} {w : World} {r : Reach} {base : Nat} {t e : TypeId} {n : Nat} {v : Value} (ht : P.underlying t = some (.array n e)) (h : Value.okWide P w r base t v) : ∃ cs, v = .agg cs ∧ cs.size = P.cellsOf t := by
  simp only [Value.okWide, ht] at h
  obtain ⟨cs, h1, h2, _⟩ := h
  exact ⟨cs, h1, h2⟩
section
variable {H : Type} {enc : TypeId × Value → H} {W : World}
theorem cellsO5 : Tryd.prog.cellsOf 5 = 1 := by kernel_rfl
theorem cellsO16 : Tryd.prog.cellsOf 40 = 16 := by kernel_rfl
theorem byteO {n : Nat} {v : Value} {y : DataW H × List MemPlace} (h : DataW.trod enc Tryd.prog W 0 (fun _ => true) true n 5 [v] = some y) : ∃ c : UInt8, v = B c := by
  obtain ⟨z, rfl, hz⟩ := field_num Tryd.underlying5 h
  have hb := bounds_u8 hz
  refine ⟨UInt8.ofNat z.toNat, ?_⟩
  rw [B]
  congr 1
  rw [UInt8.toNat_ofNat']
  omega
theorem bytesO : ∀ (cs : List Value), (∀ i, i < cs.length → ∃ c : UInt8, cs[i]? = some (B c)) → ∃ k : List UInt8, cs = k.map B
  | [], _ => ⟨[], rfl⟩
  | v :: r, h => by
    obtain ⟨c, hc⟩ := h 0 (by simp)
    obtain ⟨k, hk⟩ := bytesO r (fun i hi => by
      obtain ⟨c, hc⟩ := h (i + 1) (by simp only [List.length_cons]; omega)
      exact ⟨c, by rw [List.getElem?_cons_succ] at hc; exact hc⟩)
    refine ⟨c :: k, ?_⟩
    rw [List.getElem?_cons_zero] at hc
    rw [Option.some.inj hc, hk, List.map_cons]
/-- Sixteen bytes. -/
theorem open_k16 {fuel : Nat} {cs : List Value} {y : DataW H × List MemPlace} (hf : DataW.trod enc Tryd.prog W 0 (fun _ => true) true fuel 40 cs = some y) : ∃ k : List UInt8, k.length = 16 ∧ cs = k.map B := by
  obtain ⟨xs, n, rfl, hy, hl, hlen, hfld⟩ := DataW.trod_array Tryd.underlying40 hf
  subst hy
  rw [cellsO16] at hl
  rw [cellsO5] at hfld
  obtain ⟨k, hk⟩ := bytesO cs fun i hi => by
    have h := hfld i (by omega)
    have e : cs[i]? = some cs[i] := List.getElem?_eq_getElem hi
    have hx : xs[i]? = some (xs[i]'(by omega)) := List.getElem?_eq_getElem _
    rw [Nat.mul_one, List.drop_eq_getElem_cons hi, List.take_succ_cons, List.take_zero, hx] at h
    obtain ⟨c, hc⟩ := byteO h
    exact ⟨c, by rw [e, hc]⟩
  exact ⟨k, by rw [hk, List.length_map] at hl; exact hl, hk⟩
end
end Go.Proofs.YtnaekjmlikhglaaDoor
