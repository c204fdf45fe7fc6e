/- A slice of structs that came in, opened: each field one cell. Over any program. -/
import Derived.Test.YtlmolmmhkddpaaaGen2
import Derived.Deep.Fields
namespace Go.Proofs.Ytlmolmmhkddpaaa
open Go.ChangeShapes Go.WideShapes Go.ChangeAt Go.RowKit Go.Deep
variable {P : Program}

/-- A slice of n structs of sz cells that came in: cell j of struct i holds 'v i j'. -/
structure CameS (P : Program) (w : World) (t : TypeId) (V : Value) (n b o sz : Nat) (v : Nat → Nat → Value) : Prop where
  len : ∀ T w', (Builtin.len_ #[t] T #[V]).run P w' = .ok (.int .i64 (n : Int)) w'
  index : ∀ i, i < n → ∀ w', (Instr.indexAt t V (.int .i64 (i : Int))).run P w' = .ok (.pointer (some ⟨b, o + i * sz, none⟩)) w'
  cell : ∀ i j, i < n → j < sz → w.cell? ⟨b, o + i * sz + j, none⟩ = some (v i j)
theorem CameS.below {w w' : World} {t : TypeId} {V : Value} {n b o sz : Nat} {v : Nat → Nat → Value} (h : CameS P w t V n b o sz v) (hb : Below w.heap.size w w') : CameS P w' t V n b o sz v :=
  ⟨h.len, h.index, fun i j hi hj => by rw [hb.cell (World.block_lt_of_cell? w _ (h.cell i j hi hj))]; exact h.cell i j hi hj⟩

theorem came_structs {t e : TypeId} {fs : Array Field} (hu : P.underlying t = some (.slice e)) (he : P.underlying e = some (.struct fs)) (hone : oneCellFields P fs = true) (hC : P.cellsOf e = fs.size) (hpos : 0 < fs.size)
    (hz : ∀ w, (sizeOf e).run P w = .ok fs.size w)
    {H : Type} {enc : TypeId × Value → H} {W : World} {a0 : Option Addr} {len cap fuel : Nat} {x : DataW H × List MemPlace}
    (hf : DataW.trod enc P W 0 (fun _ => true) true fuel t [.slice a0 len cap] = some x) :
    ∃ b o v, CameS P W t (.slice a0 len cap) len b o fs.size v ∧ ∃ n, ∀ i j f, i < len → fs[j]? = some f → ∃ y, DataW.trod enc P W 0 (fun _ => true) true n f.type [v i j] = some y := by
  have hlen : ∀ T w', (Builtin.len_ #[t] T #[.slice a0 len cap]).run P w' = .ok (.int .i64 (len : Int)) w' := fun T w' => by
    simp [Builtin.len_, run_underlying hu, Result.andThen, goInt]
  have h1 := hone_of hone
  rcases Nat.eq_zero_or_pos len with rfl | hlp
  · exact ⟨0, 0, fun _ _ => undef, ⟨hlen, fun i h => absurd h (by omega), fun i j h => absurd h (by omega)⟩, 0, fun i j f h => absurd h (by omega)⟩
  rcases open_slice hu hf with ⟨hcs, _⟩ | ⟨a, len', cap', m, n, D, Pl, hcs, _, hl, _, hm, _, hx⟩
  · simp only [List.cons.injEq, Value.slice.injEq, and_true] at hcs
    omega
  · simp only [List.cons.injEq, Value.slice.injEq, and_true] at hcs
    obtain ⟨rfl, rfl, rfl⟩ := hcs
    simp only [if_true] at hm
    subst hm
    rw [hC] at hx
    have hel : ∀ i, i < len → ∃ cs', cs'.length = fs.size ∧ (∀ j, j < fs.size → W.cell? ((a.add (i * fs.size)).add j) = some (cs'.getD j undef)) ∧ DataW.trod enc P W 0 (fun _ => true) true n e cs' = some (D i, Pl i) := fun i hi => by
      obtain ⟨cs', hc, ht⟩ := hx i (by omega)
      obtain ⟨_, hl', hcell⟩ := World.cells?_some hc
      refine ⟨cs', hl', fun j hj => ?_, ht⟩
      rw [hcell j hj]
      simp [List.getD, List.getElem?_eq_getElem (show j < cs'.length by omega)]
    obtain ⟨F, hF⟩ := choose_lt (α := List Value) (p := fun i cs' => cs'.length = fs.size ∧ (∀ j, j < fs.size → W.cell? ((a.add (i * fs.size)).add j) = some (cs'.getD j undef)) ∧ DataW.trod enc P W 0 (fun _ => true) true n e cs' = some (D i, Pl i)) hel
    obtain ⟨b, o, spot⟩ := a
    have hspot : spot = none := by
      have h0 := (hF 0 hlp).2.1 0 hpos
      have := World.cell?_spot h0
      simpa [Addr.add] using this
    subst hspot
    have hadd : ∀ k, (⟨b, o, none⟩ : Addr).add k = ⟨b, o + k, none⟩ := fun k => add_plain b o k
    refine ⟨b, o, fun i j => (F i).getD j undef, ⟨hlen, fun i hi w' => ?_, fun i j hi hj => ?_⟩, n, fun i j f hi hfj => ?_⟩
    · have h1 : (0 : Int) ≤ (i : Int) ∧ (i : Int) < (len : Int) := by omega
      have := hadd (i * fs.size)
      simp [Instr.indexAt, run_underlying hu, asIntOf, hz, h1, go_sem]
      intro hge; omega
    · have := (hF i hi).2.1 j hj
      rw [hadd, add_plain] at this
      exact this
    · obtain ⟨hl', _, ht⟩ := hF i hi
      obtain ⟨xs, n', rfl, _, _, hxl, hff⟩ := DataW.trod_struct he ht
      have hlt : j < fs.size := (Array.getElem?_eq_some_iff.1 hfj).1
      obtain ⟨ho, hc1⟩ := h1 j f hfj
      have g := hff j f hfj
      rw [ho, hc1, take1_drop (F i) j undef (by omega), List.getElem?_eq_getElem (by omega)] at g
      exact ⟨_, DataW.trod_succ n' _ _ _ g⟩
/-- A field that is a number, a text, a bool: what its cell holds. -/
theorem field_num {H : Type} {enc : TypeId × Value → H} {W : World} {n : Nat} {t : TypeId} {k : IntKind} {v : Value} {y : DataW H × List MemPlace} (ht : P.underlying t = some (.int k)) (h : DataW.trod enc P W 0 (fun _ => true) true n t [v] = some y) : ∃ z, v = .int k z ∧ (Lit.int k z).wf = true := by
  obtain ⟨z, hz, _, hw⟩ := DataW.trod_int ht h
  exact ⟨z, by simpa using hz, hw⟩
theorem field_text {H : Type} {enc : TypeId × Value → H} {W : World} {n : Nat} {t : TypeId} {v : Value} {y : DataW H × List MemPlace} (ht : P.underlying t = some .string) (h : DataW.trod enc P W 0 (fun _ => true) true n t [v] = some y) : ∃ s, v = S s ∧ s.length ≤ maxLen := by
  obtain ⟨s, hs, _, hl⟩ := DataW.trod_string ht h
  refine ⟨s.data.toList, by rw [← S_of]; simpa using hs, ?_⟩
  have : s.data.toList.length = s.size := by rw [Array.length_toList]; rfl
  omega
theorem field_bool {H : Type} {enc : TypeId × Value → H} {W : World} {n : Nat} {t : TypeId} {v : Value} {y : DataW H × List MemPlace} (ht : P.underlying t = some .bool) (h : DataW.trod enc P W 0 (fun _ => true) true n t [v] = some y) : ∃ b, v = .bool b := by
  obtain ⟨b, hb, _⟩ := DataW.trod_bool ht h
  exact ⟨b, by simpa using hb⟩
/-- One function for a family. -/
theorem choose_lt' {α : Type} [Inhabited α] {n : Nat} {p : Nat → α → Prop} (h : ∀ i, i < n → ∃ x, p i x) : ∃ f : Nat → α, ∀ i, i < n → p i (f i) := choose_lt h
end Go.Proofs.Ytlmolmmhkddpaaa
