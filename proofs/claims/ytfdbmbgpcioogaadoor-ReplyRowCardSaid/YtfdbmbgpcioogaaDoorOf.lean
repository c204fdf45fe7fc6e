/- A reply, a field, that came in as an argument: opened, with the reach of their texts. -/
import Derived.Test.YtfdbmbgpcioogaaDoorJc
import Derived.SizedLaws
import Derived.ChangeSame
namespace Go.Proofs.YtfdbmbgpcioogaaDoor
open Go.RowKit Go.ChangeShapes

theorem cellsQ9 : Tryd.prog.cellsOf 9 = 1 := by kernel_rfl
theorem cellsQ3 : Tryd.prog.cellsOf 3 = 1 := by kernel_rfl
theorem cellsQS : Tryd.prog.cellsOf 27 = 1 := by kernel_rfl
theorem cellsQF : Tryd.prog.cellsOf 26 = 2 := by kernel_rfl
theorem cellsQP : Tryd.prog.cellsOf 29 = 3 := by kernel_rfl
section
variable {H : Type} {enc : TypeId × Value → H} {W : World}
theorem weights_memQ {P : Program} {e : TypeId} : ∀ {ds : List (DataW H)} {d : DataW H}, d ∈ ds → ∀ n ∈ d.weights P e, n ∈ DataW.weightsAll P e ds
  | d0 :: ds, d, hd, n, hn => by
    simp only [DataW.weightsAll, List.mem_append]
    rcases List.mem_cons.1 hd with rfl | hd
    · exact .inl hn
    · exact .inr (weights_memQ hd n hn)
  | [], d, hd, n, hn => by simp at hd
/-- A text's cell, and its reach. -/
theorem text_reachQ {n : Nat} {v : Value} {y : DataW H × List MemPlace} {B : Nat} (h : DataW.trod enc Tryd.prog W 0 (fun _ => true) true n 9 [v] = some y) (hw : ∀ k ∈ y.1.weights Tryd.prog 9, k ≤ B) : ∃ s : List UInt8, v = S s ∧ s.length ≤ B := by
  obtain ⟨s, hs, hy, _⟩ := DataW.trod_string Tryd.underlying9 h
  subst hy
  exact ⟨s.data.toList, by rw [← S_of]; simpa using hs, hw _ (by simp [DataW.weights])⟩
set_option maxRecDepth 100000 in
/-- A row of fields. -/
theorem open_fldsQ {fuel : Nat} {v : Value} {y : DataW H × List MemPlace} {B : Nat} (hf : DataW.trod enc Tryd.prog W 0 (fun _ => true) true fuel 27 [v] = some y) (hw : ∀ k ∈ y.1.weights Tryd.prog 27, k ≤ B) :
    ∃ a fs c b o, v = .slice a (List.length fs) c ∧ FA W (.slice a (List.length fs) c) fs b o ∧ ∀ f ∈ fs, f.1.length ≤ B ∧ f.2.length ≤ B := by
  rcases DataW.trod_slice Tryd.underlying27 hf with ⟨hc, _⟩ | ⟨a, len, cap, elems, rest, n, rfl, hc, hy, _, _, _, hlen, hel, _, _⟩
  · exact ⟨none, [], 0, 0, 0, by simpa using hc, ⟨fun T w' => by simp [Builtin.len_, run_underlying Tryd.underlying27, Result.andThen, goInt], fun i hi => absurd hi (by simp), fun i f hf => (by simp at hf), ⟨_, _, rfl⟩⟩, by simp⟩
  subst hy
  have hv : v = .slice (some a) len cap := by simpa using hc
  subst hv
  have hone : ∀ i, i < len → ∃ f : List UInt8 × List UInt8, W.cell? ((a.add (i * 2)).add 0) = some (S f.1) ∧ W.cell? ((a.add (i * 2)).add 1) = some (S f.2) ∧ f.1.length ≤ B ∧ f.2.length ≤ B := fun i hi => by
    have h := hel i hi
    obtain ⟨ei, he⟩ : ∃ e, elems[i]? = some e := ⟨elems[i]'(by omega), List.getElem?_eq_getElem _⟩
    rw [he, cellsQF] at h
    cases hcs : W.cells? 0 (a.add (i * 2)) 2 with
    | none => rw [hcs] at h; simp at h
    | some cs' =>
      rw [hcs] at h
      have h' : DataW.trod enc Tryd.prog W 0 (fun _ => true) true n 26 cs' = some ei := by simpa using h
      obtain ⟨_, hl', hcell⟩ := World.cells?_some hcs
      obtain ⟨y0, y1, n', he2, _, h0, h1⟩ := trod_struct2 Tryd.underlying26 h'
      subst he2
      match cs', hl' with
      | [c0, c1], _ =>
        dsimp only at h0 h1
        rw [cellsQ9] at h0 h1
        have hmem := weights_memQ (P := Tryd.prog) (e := 26) (List.mem_map_of_mem (f := fun p : DataW H × List MemPlace => p.1) (List.mem_of_getElem? he))
        have hwi : ∀ j t d, ([9, 9] : List TypeId)[j]? = some t → [y0.1, y1.1][j]? = some d → ∀ k ∈ DataW.weights Tryd.prog t d, k ≤ B := fun j t d hj hd k hk => by
          refine hw k ?_
          have h2 := hmem k (by
            simp only [DataW.weights, Tryd.underlying26]
            exact DataW.weights_mem_each hj hd k hk)
          simp only [DataW.weights, Tryd.underlying27]
          exact List.mem_cons_of_mem _ (List.mem_append_left _ h2)
        obtain ⟨s0, hs0, hl0⟩ := text_reachQ (v := c0) h0 (hwi 0 9 y0.1 rfl rfl)
        obtain ⟨s1, hs1, hl1⟩ := text_reachQ (v := c1) h1 (hwi 1 9 y1.1 rfl rfl)
        refine ⟨(s0, s1), ?_, ?_, hl0, hl1⟩
        · rw [hcell 0 (by omega)]; simp [hs0]
        · rw [hcell 1 (by omega)]; simp [hs1]
  obtain ⟨F, hF⟩ := choose_lt' (α := List UInt8 × List UInt8) (p := fun i f => W.cell? ((a.add (i * 2)).add 0) = some (S f.1) ∧ W.cell? ((a.add (i * 2)).add 1) = some (S f.2) ∧ f.1.length ≤ B ∧ f.2.length ≤ B) hone
  have hfl : ((List.range len).map F).length = len := by simp
  have hget : ∀ i f, ((List.range len).map F)[i]? = some f → i < len ∧ f = F i := fun i f h => by
    rw [List.getElem?_map] at h
    rcases Nat.lt_or_ge i len with hi | hi
    · rw [List.getElem?_range hi] at h
      exact ⟨hi, (Option.some.inj h).symm⟩
    · rw [List.getElem?_eq_none (by simpa using hi)] at h
      cases h
  have hall : ∀ f ∈ (List.range len).map F, f.1.length ≤ B ∧ f.2.length ≤ B := fun f hf => by
    obtain ⟨i, hi⟩ := List.getElem?_of_mem hf
    obtain ⟨h1, rfl⟩ := hget i f hi
    exact (hF i h1).2.2
  rcases Nat.eq_zero_or_pos len with rfl | hpos
  · exact ⟨some a, [], cap, 0, 0, rfl, ⟨fun T w' => by simp [Builtin.len_, run_underlying Tryd.underlying27, Result.andThen, goInt], fun i hi => absurd hi (by simp), fun i f hf => (by simp at hf), ⟨_, _, rfl⟩⟩, by simp⟩
  obtain ⟨b, o, spot⟩ := a
  have hspot : spot = none := by
    have := World.cell?_spot (hF 0 hpos).1
    simpa [Addr.add] using this
  subst hspot
  refine ⟨_, (List.range len).map F, cap, b, o, by rw [hfl], ⟨fun T w' => by simp [Builtin.len_, run_underlying Tryd.underlying27, Result.andThen, goInt], fun i hi w' => ?_, fun i f hf => ?_, ⟨_, _, rfl⟩⟩, hall⟩
  · rw [hfl] at hi ⊢
    exact run_index_at (P := Tryd.prog) Tryd.underlying27 (fun w => Tryd.sizeOf26 w) b o len cap i hi w'
  · obtain ⟨h1, rfl⟩ := hget i f hf
    have h := hF i h1
    rw [Addr.add_mid, Addr.add_mid, Addr.add_mid] at h
    exact ⟨h.1, h.2.1⟩
set_option maxRecDepth 100000 in
/-- A reply. -/
theorem open_reply {fuel : Nat} {cs : List Value} {y : DataW H × List MemPlace} {B : Nat} (hf : DataW.trod enc Tryd.prog W 0 (fun _ => true) true fuel 29 cs = some y) (hw : ∀ k ∈ y.1.weights Tryd.prog 29, k ≤ B) :
    ∃ vi a fs c bd b o, cs = [.int .i64 vi, .slice a (List.length fs) c, S bd] ∧ bd.length ≤ B ∧ (∀ f ∈ fs, f.1.length ≤ B ∧ f.2.length ≤ B) ∧ FA W (.slice a (List.length fs) c) fs b o := by
  obtain ⟨xs, n, rfl, hy, hl, hlen, hfld⟩ := DataW.trod_struct Tryd.underlying29 hf
  subst hy
  rw [cellsQP] at hl
  match cs, hl, xs, hlen with
  | [c0, c1, c2], _, [x0, x1, x2], _ =>
    have hwi : ∀ j t d, ([3, 27, 9] : List TypeId)[j]? = some t → [x0.1, x1.1, x2.1][j]? = some d → ∀ k ∈ DataW.weights Tryd.prog t d, k ≤ B := fun j t d hj hd k hk => by
      refine hw k ?_
      simp only [DataW.weights, Tryd.underlying29]
      exact DataW.weights_mem_each hj hd k hk
    have h0 : DataW.trod enc Tryd.prog W 0 (fun _ => true) true n 3 (List.take (Tryd.prog.cellsOf 3) [c0, c1, c2]) = some x0 := hfld 0 _ rfl
    have h1 : DataW.trod enc Tryd.prog W 0 (fun _ => true) true n 27 (List.take (Tryd.prog.cellsOf 27) [c1, c2]) = some x1 := hfld 1 _ rfl
    have h2 : DataW.trod enc Tryd.prog W 0 (fun _ => true) true n 9 (List.take (Tryd.prog.cellsOf 9) [c2]) = some x2 := hfld 2 _ rfl
    rw [cellsQ9] at h2
    rw [cellsQ3] at h0
    rw [cellsQS] at h1
    obtain ⟨vi, rfl, _⟩ := field_num (v := c0) Tryd.underlying3 h0
    obtain ⟨a, fs, c, b, o, rfl, hA, hfs⟩ := open_fldsQ (v := c1) h1 (hwi 1 27 x1.1 rfl rfl)
    obtain ⟨bd, rfl, hbd⟩ := text_reachQ (v := c2) h2 (hwi 2 9 x2.1 rfl rfl)
    exact ⟨vi, a, fs, c, bd, b, o, rfl, hbd, hfs, hA⟩
set_option maxRecDepth 100000 in
/-- A field. -/
theorem open_field {fuel : Nat} {cs : List Value} {y : DataW H × List MemPlace} {B : Nat} (hf : DataW.trod enc Tryd.prog W 0 (fun _ => true) true fuel 26 cs = some y) (hw : ∀ k ∈ y.1.weights Tryd.prog 26, k ≤ B) :
    ∃ n u, cs = [S n, S u] := by
  obtain ⟨xs, n, rfl, hy, hl, hlen, hfld⟩ := DataW.trod_struct Tryd.underlying26 hf
  subst hy
  rw [cellsQF] at hl
  match cs, hl, xs, hlen with
  | [c0, c1], _, [x0, x1], _ =>
    have hwi : ∀ j t d, ([9, 9] : List TypeId)[j]? = some t → [x0.1, x1.1][j]? = some d → ∀ k ∈ DataW.weights Tryd.prog t d, k ≤ B := fun j t d hj hd k hk => by
      refine hw k ?_
      simp only [DataW.weights, Tryd.underlying26]
      exact DataW.weights_mem_each hj hd k hk
    have h0 : DataW.trod enc Tryd.prog W 0 (fun _ => true) true n 9 (List.take (Tryd.prog.cellsOf 9) [c0, c1]) = some x0 := hfld 0 _ rfl
    have h1 : DataW.trod enc Tryd.prog W 0 (fun _ => true) true n 9 (List.take (Tryd.prog.cellsOf 9) [c1]) = some x1 := hfld 1 _ rfl
    rw [cellsQ9] at h0 h1
    obtain ⟨a, rfl, _⟩ := text_reachQ (v := c0) h0 (hwi 0 9 x0.1 rfl rfl)
    obtain ⟨b, rfl, _⟩ := text_reachQ (v := c1) h1 (hwi 1 9 x1.1 rfl rfl)
    exact ⟨a, b, rfl⟩
end
end Go.Proofs.YtfdbmbgpcioogaaDoor
