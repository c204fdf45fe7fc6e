/- A frame and a key that came in as arguments: opened. -/
import Derived.Test.YtlmolmmhkddpaaaEa
import Derived.Test.YtlmolmmhkddpaaaGen4
import Derived.OpenShut
import Derived.SizedLaws
import Derived.ChangeSame
import Derived.WideShapes
namespace Go.Proofs.Ytlmolmmhkddpaaa
open Go.RowKit Go.ChangeShapes

theorem okWide_arr {P : Program} {w : World} {r : Reach} {base : Nat} {t e : TypeId} {n : Nat} {v : Value} (ht : P.underlying t = some (.array n e)) (h : Value.okWide P w r base t v) : ∃ cs, v = .agg cs ∧ cs.size = P.cellsOf t := by
  simp only [Value.okWide, ht] at h
  obtain ⟨cs, h1, h2, _⟩ := h
  exact ⟨cs, h1, h2⟩
section
variable {H : Type} {enc : TypeId × Value → H} {W : World}
theorem cellsE9 : Try.prog.cellsOf 9 = 1 := by kernel_rfl
theorem cellsE5 : Try.prog.cellsOf 5 = 1 := by kernel_rfl
theorem cellsE3 : Try.prog.cellsOf 3 = 1 := by kernel_rfl
theorem cellsE4 : Try.prog.cellsOf 4 = 1 := by kernel_rfl
theorem cellsEK : Try.prog.cellsOf 43 = 4 := by kernel_rfl
theorem cellsEF : Try.prog.cellsOf 51 = 9 := by kernel_rfl
theorem byteE {n : Nat} {v : Value} {y : DataW H × List MemPlace} (h : DataW.trod enc Try.prog W 0 (fun _ => true) true n 5 [v] = some y) : ∃ c : UInt8, v = B c := by
  obtain ⟨z, rfl, hz⟩ := field_num Try.underlying5 h
  have hb := bounds_u8 hz
  refine ⟨UInt8.ofNat z.toNat, ?_⟩
  rw [B]
  congr 1
  rw [UInt8.toNat_ofNat']
  omega
set_option maxRecDepth 100000 in
/-- A key. -/
theorem open_key {fuel : Nat} {cs : List Value} {y : DataW H × List MemPlace} (hf : DataW.trod enc Try.prog W 0 (fun _ => true) true fuel 43 cs = some y) : ∃ K : Key4, cs = [B K.k0, B K.k1, B K.k2, B K.k3] := by
  obtain ⟨xs, n, rfl, hy, hl, hlen, hfld⟩ := DataW.trod_array Try.underlying43 hf
  subst hy
  rw [cellsEK] at hl
  rw [cellsE5] at hfld
  match cs, hl, xs, hlen with
  | [c0, c1, c2, c3], _, [x0, x1, x2, x3], _ =>
    obtain ⟨a, rfl⟩ := byteE (v := c0) (hfld 0 (by omega))
    obtain ⟨b, rfl⟩ := byteE (v := c1) (hfld 1 (by omega))
    obtain ⟨c, rfl⟩ := byteE (v := c2) (hfld 2 (by omega))
    obtain ⟨d, rfl⟩ := byteE (v := c3) (hfld 3 (by omega))
    exact ⟨⟨a, b, c, d⟩, rfl⟩
set_option maxRecDepth 100000 in
/-- A frame. -/
theorem open_frame {fuel : Nat} {cs : List Value} {y : DataW H × List MemPlace} (hf : DataW.trod enc Try.prog W 0 (fun _ => true) true fuel 51 cs = some y) : ∃ f : Frm, cs = (frC f).toList := by
  obtain ⟨xs, n, rfl, hy, hl, hlen, hfld⟩ := DataW.trod_struct Try.underlying51 hf
  subst hy
  rw [cellsEF] at hl
  match cs, hl, xs, hlen with
  | [c0, c1, c2, c3, c4, c5, c6, c7, c8], _, [x0, x1, x2, x3, x4, x5], _ =>
    have h0 : DataW.trod enc Try.prog W 0 (fun _ => true) true n 4 (List.take (Try.prog.cellsOf 4) [c0, c1, c2, c3, c4, c5, c6, c7, c8]) = some x0 := hfld 0 _ rfl
    have h1 : DataW.trod enc Try.prog W 0 (fun _ => true) true n 3 (List.take (Try.prog.cellsOf 3) [c1, c2, c3, c4, c5, c6, c7, c8]) = some x1 := hfld 1 _ rfl
    have h2 : DataW.trod enc Try.prog W 0 (fun _ => true) true n 3 (List.take (Try.prog.cellsOf 3) [c2, c3, c4, c5, c6, c7, c8]) = some x2 := hfld 2 _ rfl
    have h3 : DataW.trod enc Try.prog W 0 (fun _ => true) true n 4 (List.take (Try.prog.cellsOf 4) [c3, c4, c5, c6, c7, c8]) = some x3 := hfld 3 _ rfl
    have h4 : DataW.trod enc Try.prog W 0 (fun _ => true) true n 43 (List.take (Try.prog.cellsOf 43) [c4, c5, c6, c7, c8]) = some x4 := hfld 4 _ rfl
    have h5 : DataW.trod enc Try.prog W 0 (fun _ => true) true n 9 (List.take (Try.prog.cellsOf 9) [c8]) = some x5 := hfld 5 _ rfl
    rw [cellsE4] at h0 h3
    rw [cellsE3] at h1 h2
    rw [cellsEK] at h4
    rw [cellsE9] at h5
    obtain ⟨a, rfl⟩ := field_bool (v := c0) Try.underlying4 h0
    obtain ⟨b, rfl, _⟩ := field_num (v := c1) Try.underlying3 h1
    obtain ⟨c, rfl, _⟩ := field_num (v := c2) Try.underlying3 h2
    obtain ⟨d, rfl⟩ := field_bool (v := c3) Try.underlying4 h3
    obtain ⟨K, hK⟩ := open_key h4
    obtain ⟨s, rfl, _⟩ := field_text Try.underlying9 h5
    simp only [List.take_succ_cons, List.take_zero, List.cons.injEq, and_true] at hK
    obtain ⟨rfl, rfl, rfl, rfl⟩ := hK
    exact ⟨⟨a, b, c, d, K, s⟩, rfl⟩
end
end Go.Proofs.Ytlmolmmhkddpaaa
