/- Rows of plain structs, requests and replies that came in as arguments: opened. -/
import Derived.Test.YtlmolmmhkddpaaaFl
import Derived.Test.YtlmolmmhkddpaaaGen4
import Derived.SizedLaws
import Derived.ChangeSame
namespace Go.Proofs.Ytlmolmmhkddpaaa
open Go.RowKit Go.ChangeShapes

section
variable {H : Type} {P : Program} {enc : TypeId × Value → H} {W : World}
/-- A slice whose elements are opened one by one. -/
theorem open_rowK {α : Type} [Inhabited α] {sl e : TypeId} (hu : P.underlying sl = some (.slice e)) {k : Nat} (hk : P.cellsOf e = k) (_h0 : 0 < k) (cells : α → List Value) (hl0 : ∀ x, 0 < (cells x).length)
    (hel : ∀ (n : Nat) (cs : List Value) (y : DataW H × List MemPlace), cs.length = k → DataW.trod enc P W 0 (fun _ => true) true n e cs = some y → ∃ x, cs = cells x)
    {fuel : Nat} {v : Value} {y : DataW H × List MemPlace} (hf : DataW.trod enc P W 0 (fun _ => true) true fuel sl [v] = some y) :
    ∃ a l c b o, v = .slice a (List.length l) c ∧ List.length l ≤ c ∧ (l ≠ [] → a = some ⟨b, o, none⟩) ∧ ∀ (i : Nat) (x : α), l[i]? = some x → ∀ (j : Nat) (u : Value), (cells x)[j]? = some u → W.cell? ⟨b, o + i * k + j, none⟩ = some u := by
  rcases DataW.trod_slice hu hf with ⟨hc, _⟩ | ⟨a, len, cap, elems, rest, n, rfl, hc, hy, _, hcap, _, hlen, hall, _, _⟩
  · exact ⟨none, [], 0, 0, 0, by simpa using hc, Nat.le_refl _, fun h => absurd rfl h, fun i x hx => (by simp at hx)⟩
  subst hy
  have hv : v = .slice (some a) len cap := by simpa using hc
  subst hv
  have hone : ∀ i, i < len → ∃ x : α, ∀ (j : Nat) (u : Value), (cells x)[j]? = some u → W.cell? ((a.add (i * k)).add j) = some u := fun i hi => by
    have h := hall i hi
    obtain ⟨ei, he⟩ : ∃ e, elems[i]? = some e := ⟨elems[i]'(by omega), List.getElem?_eq_getElem _⟩
    rw [he, hk] at h
    cases hcs : W.cells? 0 (a.add (i * k)) k with
    | none => rw [hcs] at h; simp at h
    | some cs' =>
      rw [hcs] at h
      have h' : DataW.trod enc P W 0 (fun _ => true) true n e cs' = some ei := by simpa using h
      obtain ⟨_, hl', hcell⟩ := World.cells?_some hcs
      obtain ⟨x, hx⟩ := hel n cs' ei hl' h'
      refine ⟨x, fun j u hu => ?_⟩
      rw [← hx] at hu
      have hj : j < k := by
        have := (List.getElem?_eq_some_iff.1 hu).1
        omega
      rw [hcell j hj]; exact hu
  obtain ⟨F, hF⟩ := choose_lt' (α := α) (p := fun i x => ∀ (j : Nat) (u : Value), (cells x)[j]? = some u → W.cell? ((a.add (i * k)).add j) = some u) hone
  have hfl : ((List.range len).map F).length = len := by simp
  have hget : ∀ i x, ((List.range len).map F)[i]? = some x → i < len ∧ x = F i := fun i x h => by
    rw [List.getElem?_map] at h
    rcases Nat.lt_or_ge i len with hi | hi
    · rw [List.getElem?_range hi] at h
      exact ⟨hi, (Option.some.inj h).symm⟩
    · rw [List.getElem?_eq_none (by simpa using hi)] at h
      cases h
  rcases Nat.eq_zero_or_pos len with rfl | hpos
  · exact ⟨some a, [], cap, 0, 0, rfl, hcap, fun h => absurd rfl h, fun i x hx => (by simp at hx)⟩
  obtain ⟨b, o, spot⟩ := a
  have hspot : spot = none := by
    obtain ⟨u, hu⟩ : ∃ u, (cells (F 0))[0]? = some u := ⟨_, List.getElem?_eq_getElem (hl0 (F 0))⟩
    have := World.cell?_spot (hF 0 hpos 0 u hu)
    simpa [Addr.add] using this
  subst hspot
  refine ⟨_, (List.range len).map F, cap, b, o, by rw [hfl], by rw [hfl]; exact hcap, fun _ => rfl, fun i x hx j u hu => ?_⟩
  obtain ⟨h1, rfl⟩ := hget i x hx
  have h := hF i h1 j u hu
  rw [Addr.add_mid, Addr.add_mid] at h
  exact h
end
section
variable {H : Type} {enc : TypeId × Value → H} {W : World}
theorem cellsO9 : Try.prog.cellsOf 9 = 1 := by kernel_rfl
theorem cellsO3 : Try.prog.cellsOf 3 = 1 := by kernel_rfl
theorem cellsO4 : Try.prog.cellsOf 4 = 1 := by kernel_rfl
theorem textO {n : Nat} {v : Value} {y : DataW H × List MemPlace} (h : DataW.trod enc Try.prog W 0 (fun _ => true) true n 9 [v] = some y) : ∃ s, v = S s := by
  obtain ⟨s, hs, _⟩ := field_text Try.underlying9 h
  exact ⟨s, hs⟩
end
end Go.Proofs.Ytlmolmmhkddpaaa
