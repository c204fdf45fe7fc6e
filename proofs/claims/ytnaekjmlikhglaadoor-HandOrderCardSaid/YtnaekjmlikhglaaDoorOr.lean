/- Rows of plain structs, requests and replies that came in as arguments: opened. -/
import Derived.Test.YtnaekjmlikhglaaDoorDa
import Derived.Test.YtnaekjmlikhglaaDoorGen9
import Derived.SizedLaws
import Derived.ChangeSame
namespace Go.Proofs.YtnaekjmlikhglaaDoor
open Go.RowKit Go.ChangeShapes

section
variable {H : Type} {P : Program} {enc : TypeId × Value → H} {W : World}
/-- A slice whose elements are opened one by one. -/
theorem open_rowK {α : Type} [Inhabited α] {sl e : TypeId} (hu : P.underlying sl = some (.slice e)) {k : Nat} (hk : P.cellsOf e = k) (_h0 : 0 < k) (cells : α → List Value) (hl0 : ∀ x, 0 < (cells x).length)
    (hel : ∀ (n : Nat) (cs : List Value) (y : DataW H × List MemPlace), cs.length = k → DataW.trod enc P W 0 (fun _ => true) true n e cs = some y → ∃ x, cs = cells x)
    {fuel : Nat} {v : Value} {y : DataW H × List MemPlace} (hf : DataW.trod enc P W 0 (fun _ => true) true fuel sl [v] = some y) :
    ∃ a l c b o, v = .slice a (List.length l) c ∧ List.length l ≤ c ∧ (l ≠ [] → a = some ⟨b, o, none⟩) ∧ ∀ (i : Nat) (x : α), l[i]? = some x → ∀ (j : Nat) (u : Value), (cells x)[j]? = some u → W.cell? ⟨b, o + i * k + j, none⟩ = some u := by
  rcases DataW.trod_slice hu hf with ⟨hc, _⟩ | ⟨a, len, cap, elems, rest, n, rfl, hc, hy, _, hcap, _, hlen, hall, _, _⟩
  · exact ⟨none, [], 0, 0, 0, by simpa using hc, Nat.le_refl _, fun h => absurd rfl h, fun i x hx => (by simp at hx)⟩
  subst hy
  have hv : v = .slice (some a) len cap := by simpa using hc
  subst hv
  have hone : ∀ i, i < len → ∃ x : α, ∀ (j : Nat) (u : Value), (cells x)[j]? = some u → W.cell? ((a.add (i * k)).add j) = some u := fun i hi => by
    have h := hall i hi
    obtain ⟨ei, he⟩ : ∃ e, elems[i]? = some e := ⟨elems[i]'(by omega), List.getElem?_eq_getElem _⟩
    rw [he, hk] at h
    cases hcs : W.cells? 0 (a.add (i * k)) k with
    | none => rw [hcs] at h; simp at h
    | some cs' =>
      rw [hcs] at h
      have h' : DataW.trod enc P W 0 (fun _ => true) true n e cs' = some ei := by simpa using h
      obtain ⟨_, hl', hcell⟩ := World.cells?_some hcs
      obtain ⟨x, hx⟩ := hel n cs' ei hl' h'
      refine ⟨x, fun j u hu => ?_⟩
      rw [← hx] at hu
      have hj : j < k := by
        have := (List.getElem?_eq_some_iff.1 hu).1
        omega
      rw [hcell j hj]; exact hu
  obtain ⟨F, hF⟩ := choose_lt' (α := α) (p := fun i x => ∀ (j : Nat) (u : Value), (cells x)[j]? = some u → W.cell? ((a.add (i * k)).add j) = some u) hone
  have hfl : ((List.range len).map F).length = len := by simp
  have hget : ∀ i x, ((List.range len).map F)[i]? = some x → i < len ∧ x = F i := fun i x h => by
    rw [List.getElem?_map] at h
    rcases Nat.lt_or_ge i len with hi | hi
    · rw [List.getElem?_range hi] at h
      exact ⟨hi, (Option.some.inj h).symm⟩
    · rw [List.getElem?_eq_none (by simpa using hi)] at h
      cases h
  rcases Nat.eq_zero_or_pos len with rfl | hpos
  · exact ⟨some a, [], cap, 0, 0, rfl, hcap, fun h => absurd rfl h, fun i x hx => (by simp at hx)⟩
  obtain ⟨b, o, spot⟩ := a
  have hspot : spot = none := by
    obtain ⟨u, hu⟩ : ∃ u, (cells (F 0))[0]? = some u := ⟨_, List.getElem?_eq_getElem (hl0 (F 0))⟩
    have := World.cell?_spot (hF 0 hpos 0 u hu)
    simpa [Addr.add] using this
  subst hspot
  refine ⟨_, (List.range len).map F, cap, b, o, by rw [hfl], by rw [hfl]; exact hcap, fun _ => rfl, fun i x hx j u hu => ?_⟩
  obtain ⟨h1, rfl⟩ := hget i x hx
  have h := hF i h1 j u hu
  rw [Addr.add_mid, Addr.add_mid] at h
  exact h
end
section
variable {H : Type} {enc : TypeId × Value → H} {W : World}
theorem cellsO9 : Tryd.prog.cellsOf 9 = 1 := by kernel_rfl
theorem cellsO3 : Tryd.prog.cellsOf 3 = 1 := by kernel_rfl
theorem cellsO4 : Tryd.prog.cellsOf 4 = 1 := by kernel_rfl
theorem cellsOS : Tryd.prog.cellsOf 22 = 1 := by kernel_rfl
theorem cellsOF : Tryd.prog.cellsOf 37 = 2 := by kernel_rfl
theorem cellsOQ : Tryd.prog.cellsOf 24 = 7 := by kernel_rfl
theorem cellsOP : Tryd.prog.cellsOf 30 = 3 := by kernel_rfl
theorem textO {n : Nat} {v : Value} {y : DataW H × List MemPlace} (h : DataW.trod enc Tryd.prog W 0 (fun _ => true) true n 9 [v] = some y) : ∃ s, v = S s := by
  obtain ⟨s, hs, _⟩ := field_text Tryd.underlying9 h
  exact ⟨s, hs⟩
set_option maxRecDepth 100000 in
theorem el_field (n : Nat) (cs : List Value) (y : DataW H × List MemPlace) (_ : cs.length = 2) (hf : DataW.trod enc Tryd.prog W 0 (fun _ => true) true n 37 cs = some y) : ∃ f : List UInt8 × List UInt8, cs = [S f.1, S f.2] := by
  obtain ⟨xs, n, rfl, hy, hl, hlen, hfld⟩ := DataW.trod_struct Tryd.underlying37 hf
  subst hy
  rw [cellsOF] at hl
  match cs, hl, xs, hlen with
  | [c0, c1], _, [x0, x1], _ =>
    have h0 : DataW.trod enc Tryd.prog W 0 (fun _ => true) true n 9 (List.take (Tryd.prog.cellsOf 9) [c0, c1]) = some x0 := hfld 0 _ rfl
    have h1 : DataW.trod enc Tryd.prog W 0 (fun _ => true) true n 9 (List.take (Tryd.prog.cellsOf 9) [c1]) = some x1 := hfld 1 _ rfl
    rw [cellsO9] at h0 h1
    obtain ⟨a, rfl⟩ := textO (v := c0) h0
    obtain ⟨b, rfl⟩ := textO (v := c1) h1
    exact ⟨(a, b), rfl⟩
/-- A row of fields. -/
theorem open_fldsO {fuel : Nat} {v : Value} {y : DataW H × List MemPlace} (hf : DataW.trod enc Tryd.prog W 0 (fun _ => true) true fuel 22 [v] = some y) :
    ∃ a fs c b o, v = .slice a (List.length fs) c ∧ FA W (.slice a (List.length fs) c) fs b o := by
  obtain ⟨a, l, c, b, o, hv, hc, ha, hcell⟩ := open_rowK Tryd.underlying22 cellsOF (by decide) (fun f : List UInt8 × List UInt8 => [S f.1, S f.2]) (fun _ => by simp) (fun n cs y => el_field n cs y) hf
  refine ⟨a, l, c, b, o, hv, fun T w' => by simp [Builtin.len_, run_underlying Tryd.underlying22, Result.andThen, goInt], fun i hi w' => ?_, fun i f hf => ?_, ⟨_, _, rfl⟩⟩
  · rw [ha (fun e => by rw [e] at hi; simp at hi)]
    exact run_index_at (P := Tryd.prog) Tryd.underlying22 (fun w => Tryd.sizeOf37 w) b o l.length c i hi w'
  · exact ⟨hcell i f hf 0 _ rfl, hcell i f hf 1 _ rfl⟩
set_option maxRecDepth 100000 in
/-- A request. -/
theorem open_requestO {fuel : Nat} {cs : List Value} {y : DataW H × List MemPlace} (hf : DataW.trod enc Tryd.prog W 0 (fun _ => true) true fuel 24 cs = some y) :
    ∃ m p q vi a fs c bd cl b o, cs = [S m, S p, S q, .int .i64 vi, .slice a (List.length fs) c, S bd, .bool cl] ∧ FA W (.slice a (List.length fs) c) fs b o := by
  obtain ⟨xs, n, rfl, hy, hl, hlen, hfld⟩ := DataW.trod_struct Tryd.underlying24 hf
  subst hy
  rw [cellsOQ] at hl
  match cs, hl, xs, hlen with
  | [c0, c1, c2, c3, c4, c5, c6], _, [x0, x1, x2, x3, x4, x5, x6], _ =>
    have h0 : DataW.trod enc Tryd.prog W 0 (fun _ => true) true n 9 (List.take (Tryd.prog.cellsOf 9) [c0, c1, c2, c3, c4, c5, c6]) = some x0 := hfld 0 _ rfl
    have h1 : DataW.trod enc Tryd.prog W 0 (fun _ => true) true n 9 (List.take (Tryd.prog.cellsOf 9) [c1, c2, c3, c4, c5, c6]) = some x1 := hfld 1 _ rfl
    have h2 : DataW.trod enc Tryd.prog W 0 (fun _ => true) true n 9 (List.take (Tryd.prog.cellsOf 9) [c2, c3, c4, c5, c6]) = some x2 := hfld 2 _ rfl
    have h3 : DataW.trod enc Tryd.prog W 0 (fun _ => true) true n 3 (List.take (Tryd.prog.cellsOf 3) [c3, c4, c5, c6]) = some x3 := hfld 3 _ rfl
    have h4 : DataW.trod enc Tryd.prog W 0 (fun _ => true) true n 22 (List.take (Tryd.prog.cellsOf 22) [c4, c5, c6]) = some x4 := hfld 4 _ rfl
    have h5 : DataW.trod enc Tryd.prog W 0 (fun _ => true) true n 9 (List.take (Tryd.prog.cellsOf 9) [c5, c6]) = some x5 := hfld 5 _ rfl
    have h6 : DataW.trod enc Tryd.prog W 0 (fun _ => true) true n 4 (List.take (Tryd.prog.cellsOf 4) [c6]) = some x6 := hfld 6 _ rfl
    rw [cellsO9] at h0 h1 h2 h5
    rw [cellsO3] at h3
    rw [cellsOS] at h4
    rw [cellsO4] at h6
    obtain ⟨m, rfl⟩ := textO (v := c0) h0
    obtain ⟨p, rfl⟩ := textO (v := c1) h1
    obtain ⟨q, rfl⟩ := textO (v := c2) h2
    obtain ⟨vi, rfl, _⟩ := field_num (v := c3) Tryd.underlying3 h3
    obtain ⟨a, fs, c, b, o, rfl, hA⟩ := open_fldsO (v := c4) h4
    obtain ⟨bd, rfl⟩ := textO (v := c5) h5
    obtain ⟨cl, rfl⟩ := field_bool (v := c6) Tryd.underlying4 h6
    exact ⟨m, p, q, vi, a, fs, c, bd, cl, b, o, rfl, hA⟩
set_option maxRecDepth 100000 in
/-- A reply. -/
theorem open_replyO {fuel : Nat} {cs : List Value} {y : DataW H × List MemPlace} (hf : DataW.trod enc Tryd.prog W 0 (fun _ => true) true fuel 30 cs = some y) :
    ∃ vi a fs c bd b o, cs = [.int .i64 vi, .slice a (List.length fs) c, S bd] ∧ FA W (.slice a (List.length fs) c) fs b o := by
  obtain ⟨xs, n, rfl, hy, hl, hlen, hfld⟩ := DataW.trod_struct Tryd.underlying30 hf
  subst hy
  rw [cellsOP] at hl
  match cs, hl, xs, hlen with
  | [c0, c1, c2], _, [x0, x1, x2], _ =>
    have h0 : DataW.trod enc Tryd.prog W 0 (fun _ => true) true n 3 (List.take (Tryd.prog.cellsOf 3) [c0, c1, c2]) = some x0 := hfld 0 _ rfl
    have h1 : DataW.trod enc Tryd.prog W 0 (fun _ => true) true n 22 (List.take (Tryd.prog.cellsOf 22) [c1, c2]) = some x1 := hfld 1 _ rfl
    have h2 : DataW.trod enc Tryd.prog W 0 (fun _ => true) true n 9 (List.take (Tryd.prog.cellsOf 9) [c2]) = some x2 := hfld 2 _ rfl
    rw [cellsO9] at h2
    rw [cellsO3] at h0
    rw [cellsOS] at h1
    obtain ⟨vi, rfl, _⟩ := field_num (v := c0) Tryd.underlying3 h0
    obtain ⟨a, fs, c, b, o, rfl, hA⟩ := open_fldsO (v := c1) h1
    obtain ⟨bd, rfl⟩ := textO (v := c2) h2
    exact ⟨vi, a, fs, c, bd, b, o, rfl, hA⟩
end
end Go.Proofs.YtnaekjmlikhglaaDoor
