/- A slice of replies, and one of bools, that came in as arguments: opened. -/
import Derived.Test.YtfdbmbgpcioogaaDoorOf
namespace Go.Proofs.YtfdbmbgpcioogaaDoor
open Go.RowKit Go.ChangeShapes

abbrev Rpl := Int × List Fld × List UInt8
/-- A slice of replies that came in. -/
structure RepsA (w : World) (a : Option Addr) (c : Nat) (xs : List Rpl) (b o : Nat) : Prop where
  len : ∀ T w', (Builtin.len_ #[42] T #[.slice a (List.length xs) c]).run Tryd.prog w' = .ok (.int .i64 (xs.length : Int)) w'
  index : ∀ i, i < xs.length → ∀ w', (Instr.indexAt 42 (.slice a (List.length xs) c) (.int .i64 (i : Int))).run Tryd.prog w' = .ok (.pointer (some ⟨b, o + i * 3, none⟩)) w'
  cell : ∀ i x, xs[i]? = some x → ∃ fa fc fb fo, w.cell? ⟨b, o + i * 3, none⟩ = some (.int .i64 x.1) ∧ w.cell? ⟨b, o + i * 3 + 1, none⟩ = some (.slice fa (List.length x.2.1) fc) ∧ w.cell? ⟨b, o + i * 3 + 2, none⟩ = some (S x.2.2) ∧ FA w (.slice fa (List.length x.2.1) fc) x.2.1 fb fo
theorem RepsA.below {w w' : World} {a : Option Addr} {c : Nat} {xs : List Rpl} {b o : Nat} (h : RepsA w a c xs b o) (hb : Below w.heap.size w w') : RepsA w' a c xs b o :=
  ⟨h.len, h.index, fun i x hx => by
    obtain ⟨fa, fc, fb, fo, h1, h2, h3, h4⟩ := h.cell i x hx
    exact ⟨fa, fc, fb, fo, by rw [hb.cell (World.block_lt_of_cell? w _ h1)]; exact h1, by rw [hb.cell (World.block_lt_of_cell? w _ h2)]; exact h2, by rw [hb.cell (World.block_lt_of_cell? w _ h3)]; exact h3, h4.below hb⟩⟩
/-- A slice of bools that came in. -/
structure BoolsA (w : World) (a : Option Addr) (c : Nat) (hs : List Bool) (b o : Nat) : Prop where
  len : ∀ T w', (Builtin.len_ #[43] T #[.slice a (List.length hs) c]).run Tryd.prog w' = .ok (.int .i64 (hs.length : Int)) w'
  index : ∀ i, i < hs.length → ∀ w', (Instr.indexAt 43 (.slice a (List.length hs) c) (.int .i64 (i : Int))).run Tryd.prog w' = .ok (.pointer (some ⟨b, o + i, none⟩)) w'
  cell : ∀ i x, hs[i]? = some x → w.cell? ⟨b, o + i, none⟩ = some (.bool x)
theorem BoolsA.below {w w' : World} {a : Option Addr} {c : Nat} {hs : List Bool} {b o : Nat} (h : BoolsA w a c hs b o) (hb : Below w.heap.size w w') : BoolsA w' a c hs b o :=
  ⟨h.len, h.index, fun i x hx => by
    have h1 := h.cell i x hx
    rw [hb.cell (World.block_lt_of_cell? w _ h1)]; exact h1⟩
section
variable {H : Type} {enc : TypeId × Value → H} {W : World}
set_option maxRecDepth 100000 in
/-- A slice of replies. -/
theorem open_replies {fuel : Nat} {v : Value} {y : DataW H × List MemPlace} {B : Nat} (hf : DataW.trod enc Tryd.prog W 0 (fun _ => true) true fuel 42 [v] = some y) (hw : ∀ k ∈ y.1.weights Tryd.prog 42, k ≤ B) :
    ∃ a xs c b o, v = .slice a (List.length xs) c ∧ RepsA W a c xs b o ∧ ∀ x ∈ xs, x.2.2.length ≤ B := by
  have hlenF : ∀ (a : Option Addr) (n c : Nat) (T : TypeId) (w' : World), (Builtin.len_ #[42] T #[.slice a n c]).run Tryd.prog w' = .ok (.int .i64 (n : Int)) w' := fun a n c T w' => by simp [Builtin.len_, run_underlying Tryd.underlying42, Result.andThen, goInt]
  rcases DataW.trod_slice Tryd.underlying42 hf with ⟨hc, _⟩ | ⟨a, len, cap, elems, rest, n, rfl, hc, hy, _, _, _, hlen, hel, _, _⟩
  · exact ⟨none, [], 0, 0, 0, by simpa using hc, ⟨fun T w' => hlenF none 0 0 T w', fun i hi => absurd hi (by simp), fun i f hf => (by simp at hf)⟩, by simp⟩
  subst hy
  have hv : v = .slice (some a) len cap := by simpa using hc
  subst hv
  have hone : ∀ i, i < len → ∃ x : Rpl, (∃ fa fc fb fo, W.cell? ((a.add (i * 3)).add 0) = some (.int .i64 x.1) ∧ W.cell? ((a.add (i * 3)).add 1) = some (.slice fa (List.length x.2.1) fc) ∧ W.cell? ((a.add (i * 3)).add 2) = some (S x.2.2) ∧ FA W (.slice fa (List.length x.2.1) fc) x.2.1 fb fo) ∧ x.2.2.length ≤ B := fun i hi => by
    have h := hel i hi
    obtain ⟨ei, he⟩ : ∃ e, elems[i]? = some e := ⟨elems[i]'(by omega), List.getElem?_eq_getElem _⟩
    rw [he, cellsQP] at h
    cases hcs : W.cells? 0 (a.add (i * 3)) 3 with
    | none => rw [hcs] at h; simp at h
    | some cs' =>
      rw [hcs] at h
      have h' : DataW.trod enc Tryd.prog W 0 (fun _ => true) true n 29 cs' = some ei := by simpa using h
      obtain ⟨_, hl', hcell⟩ := World.cells?_some hcs
      have hmem := weights_memQ (P := Tryd.prog) (e := 29) (List.mem_map_of_mem (f := fun p : DataW H × List MemPlace => p.1) (List.mem_of_getElem? he))
      obtain ⟨vi, fa, fs, fc, bd, fb, fo, hcs3, hbd, _, hA⟩ := open_reply (B := B) h' (fun k hk => by
        refine hw k ?_
        have h2 := hmem k hk
        simp only [DataW.weights, Tryd.underlying42]
        exact List.mem_cons_of_mem _ (List.mem_append_left _ h2))
      subst hcs3
      refine ⟨(vi, fs, bd), ⟨fa, fc, fb, fo, ?_, ?_, ?_, hA⟩, hbd⟩
      · rw [hcell 0 (by omega)]; simp
      · rw [hcell 1 (by omega)]; simp
      · rw [hcell 2 (by omega)]; simp
  obtain ⟨F, hF⟩ := choose_lt' (α := Rpl) hone
  have hfl : ((List.range len).map F).length = len := by simp
  have hget : ∀ i f, ((List.range len).map F)[i]? = some f → i < len ∧ f = F i := fun i f h => by
    rw [List.getElem?_map] at h
    rcases Nat.lt_or_ge i len with hi | hi
    · rw [List.getElem?_range hi] at h
      exact ⟨hi, (Option.some.inj h).symm⟩
    · rw [List.getElem?_eq_none (by simpa using hi)] at h
      cases h
  have hall : ∀ x ∈ (List.range len).map F, x.2.2.length ≤ B := fun f hf => by
    obtain ⟨i, hi⟩ := List.getElem?_of_mem hf
    obtain ⟨h1, rfl⟩ := hget i f hi
    exact (hF i h1).2
  rcases Nat.eq_zero_or_pos len with rfl | hpos
  · exact ⟨some a, [], cap, 0, 0, rfl, ⟨fun T w' => hlenF _ 0 _ T w', fun i hi => absurd hi (by simp), fun i f hf => (by simp at hf)⟩, by simp⟩
  obtain ⟨b, o, spot⟩ := a
  have hspot : spot = none := by
    obtain ⟨⟨fa, fc, fb, fo, h1, _⟩, _⟩ := hF 0 hpos
    have := World.cell?_spot h1
    simpa [Addr.add] using this
  subst hspot
  refine ⟨_, (List.range len).map F, cap, b, o, by rw [hfl], ⟨fun T w' => ?_, fun i hi w' => ?_, fun i f hf => ?_⟩, hall⟩
  · rw [hfl]; exact hlenF _ _ _ T w'
  · rw [hfl] at hi ⊢
    exact run_index_at (P := Tryd.prog) Tryd.underlying42 (fun w => Tryd.sizeOf29 w) b o len cap i hi w'
  · obtain ⟨h1, rfl⟩ := hget i f hf
    obtain ⟨⟨fa, fc, fb, fo, h2, h3, h4, h5⟩, _⟩ := hF i h1
    rw [Addr.add_mid, Addr.add_mid] at h2 h3 h4
    exact ⟨fa, fc, fb, fo, h2, h3, h4, h5⟩
theorem cellsQ4 : Tryd.prog.cellsOf 4 = 1 := by kernel_rfl
set_option maxRecDepth 100000 in
/-- A slice of bools. -/
theorem open_bools {fuel : Nat} {v : Value} {y : DataW H × List MemPlace} (hf : DataW.trod enc Tryd.prog W 0 (fun _ => true) true fuel 43 [v] = some y) :
    ∃ a hs c b o, v = .slice a (List.length hs) c ∧ BoolsA W a c hs b o := by
  have hlenF : ∀ (a : Option Addr) (n c : Nat) (T : TypeId) (w' : World), (Builtin.len_ #[43] T #[.slice a n c]).run Tryd.prog w' = .ok (.int .i64 (n : Int)) w' := fun a n c T w' => by simp [Builtin.len_, run_underlying Tryd.underlying43, Result.andThen, goInt]
  rcases DataW.trod_slice Tryd.underlying43 hf with ⟨hc, _⟩ | ⟨a, len, cap, elems, rest, n, rfl, hc, hy, _, _, _, hlen, hel, _, _⟩
  · exact ⟨none, [], 0, 0, 0, by simpa using hc, ⟨fun T w' => hlenF none 0 0 T w', fun i hi => absurd hi (by simp), fun i f hf => (by simp at hf)⟩⟩
  subst hy
  have hv : v = .slice (some a) len cap := by simpa using hc
  subst hv
  have hone : ∀ i, i < len → ∃ x : Bool, W.cell? ((a.add (i * 1)).add 0) = some (.bool x) := fun i hi => by
    have h := hel i hi
    obtain ⟨ei, he⟩ : ∃ e, elems[i]? = some e := ⟨elems[i]'(by omega), List.getElem?_eq_getElem _⟩
    rw [he, cellsQ4] at h
    cases hcs : W.cells? 0 (a.add (i * 1)) 1 with
    | none => rw [hcs] at h; simp at h
    | some cs' =>
      rw [hcs] at h
      have h' : DataW.trod enc Tryd.prog W 0 (fun _ => true) true n 4 cs' = some ei := by simpa using h
      obtain ⟨_, hl', hcell⟩ := World.cells?_some hcs
      match cs', hl' with
      | [c0], _ =>
        obtain ⟨x, rfl⟩ := field_bool (v := c0) Tryd.underlying4 h'
        exact ⟨x, by rw [hcell 0 (by omega)]; simp⟩
  obtain ⟨F, hF⟩ := choose_lt' (α := Bool) hone
  have hfl : ((List.range len).map F).length = len := by simp
  have hget : ∀ i f, ((List.range len).map F)[i]? = some f → i < len ∧ f = F i := fun i f h => by
    rw [List.getElem?_map] at h
    rcases Nat.lt_or_ge i len with hi | hi
    · rw [List.getElem?_range hi] at h
      exact ⟨hi, (Option.some.inj h).symm⟩
    · rw [List.getElem?_eq_none (by simpa using hi)] at h
      cases h
  rcases Nat.eq_zero_or_pos len with rfl | hpos
  · exact ⟨some a, [], cap, 0, 0, rfl, ⟨fun T w' => hlenF _ 0 _ T w', fun i hi => absurd hi (by simp), fun i f hf => (by simp at hf)⟩⟩
  obtain ⟨b, o, spot⟩ := a
  have hspot : spot = none := by
    have := World.cell?_spot (hF 0 hpos)
    simpa [Addr.add] using this
  subst hspot
  refine ⟨_, (List.range len).map F, cap, b, o, by rw [hfl], ⟨fun T w' => ?_, fun i hi w' => ?_, fun i f hf => ?_⟩⟩
  · rw [hfl]; exact hlenF _ _ _ T w'
  · rw [hfl] at hi ⊢
    have := run_index_at (P := Tryd.prog) Tryd.underlying43 (fun w => Tryd.sizeOf4 w) b o len cap i hi w'
    rwa [Nat.mul_one] at this
  · obtain ⟨h1, rfl⟩ := hget i f hf
    have h := hF i h1
    rw [Addr.add_mid, Addr.add_mid, Nat.mul_one, Nat.add_zero] at h
    exact h
end
end Go.Proofs.YtfdbmbgpcioogaaDoor
