/- Things of one kind in a slice: where each lies; one loaded, stored, cleared; a slice made. A circle of things. Over any program. -/
import Derived.Test.YtlmolmmhkddpaaaGen8
namespace Go.Proofs.Ytlmolmmhkddpaaa
open Go.RowKit
variable {P : Program} {α : Type}

/-- Things of one kind: each as a value, and as cells; the one that is nothing. -/
structure Kind (P : Program) (α : Type) where
  sl : TypeId
  el : TypeId
  sz : Nat
  val : α → Value
  cells : α → List Value
  zero : α
  under : P.underlying sl = some (.slice el)
  size : ∀ w, (sizeOf el).run P w = .ok sz w
  info : ∃ i z, P.info? el = some i ∧ i.zero = some z ∧ i.size = sz ∧ i.bytes ≤ 1024 ∧ z.cells.toList = cells zero
  pos : 0 < sz
  len : ∀ x, (cells x).length = sz
  one : ∀ x, ∀ u ∈ cells x, u.oneCell' = true
  load : ∀ x w k o, w.rangeAt k o (cells x) → (loadVar el ⟨k, o, none⟩).run P w = .ok (val x) w
  store : ∀ x w k o, w.there k o sz → (storeVar el ⟨k, o, none⟩ (val x)).run P w = .ok () (w.setCells k o (cells x))

/-- A kind of one cell. -/
def kind1 (sl el : TypeId) (val : α → Value) (zero : α) (under : P.underlying sl = some (.slice el)) (size : ∀ w, (sizeOf el).run P w = .ok 1 w)
    (info : ∃ i z, P.info? el = some i ∧ i.zero = some z ∧ i.size = 1 ∧ i.bytes ≤ 1024 ∧ z.cells.toList = [val zero]) (d : TypeDesc) (hd : P.underlying el = some d) (hr : d.isRow = false) (one : ∀ x, (val x).oneCell' = true)
    (hc : ∀ x, (val x).cells = #[val x]) : Kind P α where
  sl := sl
  el := el
  sz := 1
  val := val
  cells := fun x => [val x]
  zero := zero
  under := under
  size := size
  info := info
  pos := by decide
  len := fun _ => rfl
  one := fun x u hu => by rw [List.mem_singleton.1 hu]; exact one x
  load := fun x w k o hw => by
    have h0 := hw 0 (val x) rfl
    rw [Nat.add_zero] at h0
    have hagg : (isAgg el).run P w = .ok false w := by
      unfold isAgg
      rw [Sem.run_bind, run_underlying hd w]
      cases d <;> simp_all [Result.andThen]
    simp [loadVar, hagg, Result.andThen, run_load, h0]
  store := fun x w k o hw => by
    obtain ⟨h1, h2⟩ := hw 0 (by omega)
    rw [Nat.add_zero] at h1 h2
    have := run_store_ok P w ⟨k, o, none⟩ (val x) .plain (one x) h1 h2
    simp [storeVar, hc, size, Result.andThen, store_one, this, World.setCells]
/-- A kind of several cells. -/
def kindA (sl el : TypeId) (sz : Nat) (cells : α → List Value) (zero : α) (under : P.underlying sl = some (.slice el)) (size : ∀ w, (sizeOf el).run P w = .ok sz w)
    (info : ∃ i z, P.info? el = some i ∧ i.zero = some z ∧ i.size = sz ∧ i.bytes ≤ 1024 ∧ z.cells.toList = cells zero) (pos : 0 < sz) (d : TypeDesc) (hd : P.underlying el = some d) (hr : d.isRow = true) (len : ∀ x, (cells x).length = sz) (one : ∀ x, ∀ u ∈ cells x, u.oneCell' = true) : Kind P α where
  sl := sl
  el := el
  sz := sz
  val := fun x => .agg (cells x).toArray
  cells := cells
  zero := zero
  under := under
  size := size
  info := info
  pos := pos
  len := len
  one := one
  load := fun x w k o hw => by
    obtain ⟨i, z, hi, _, hs, _⟩ := info
    exact run_loadVar_mid w k o el (cells x) d hw hd hr (by rw [hi, Option.map_some, hs, len])
  store := fun x w k o hw => by
    obtain ⟨i, z, hi, _, hs, _⟩ := info
    exact run_storeVar_mid w k o el (cells x).toArray (by rw [List.size_toArray, len]; exact hw) (by rw [hi, Option.map_some, hs, List.size_toArray, len]) (by simpa using one x)

/-! Cells, one thing's behind the other's. -/
theorem flat_len {c : α → List Value} {sz : Nat} (h : ∀ x, (c x).length = sz) : ∀ l : List α, (l.flatMap c).length = l.length * sz
  | [] => by simp
  | x :: r => by rw [List.flatMap_cons, List.length_append, h, flat_len h r, List.length_cons, Nat.add_mul]; omega
theorem flat_take {c : α → List Value} {sz : Nat} (h : ∀ x, (c x).length = sz) : ∀ (l : List α) (i : Nat), (l.flatMap c).take (i * sz) = (l.take i).flatMap c
  | [], i => by simp
  | x :: r, 0 => by simp
  | x :: r, i + 1 => by
    rw [List.flatMap_cons, List.take_succ_cons, List.flatMap_cons, ← flat_take h r i, List.take_append, List.take_of_length_le (by rw [h, Nat.add_mul]; omega)]
    rw [h, show (i + 1) * sz - sz = i * sz by rw [Nat.add_mul]; omega]
theorem flat_drop {c : α → List Value} {sz : Nat} (h : ∀ x, (c x).length = sz) : ∀ (l : List α) (i : Nat), (l.flatMap c).drop (i * sz) = (l.drop i).flatMap c
  | [], i => by simp
  | x :: r, 0 => by simp
  | x :: r, i + 1 => by
    rw [List.flatMap_cons, List.drop_succ_cons, ← flat_drop h r i, List.drop_append, List.drop_of_length_le (by rw [h, Nat.add_mul]; omega), List.nil_append]
    rw [h, show (i + 1) * sz - sz = i * sz by rw [Nat.add_mul]; omega]
theorem flat_set {c : α → List Value} {sz : Nat} (h : ∀ x, (c x).length = sz) (l : List α) (i : Nat) (y : α) (hi : i < l.length) : (l.flatMap c).take (i * sz) ++ c y ++ (l.flatMap c).drop (i * sz + (c y).length) = (l.set i y).flatMap c := by
  rw [h, show i * sz + sz = (i + 1) * sz by rw [Nat.add_mul]; omega, flat_take h, flat_drop h, List.set_eq_take_append_cons_drop, if_pos hi, List.flatMap_append, List.flatMap_cons, List.append_assoc]
theorem flat_get {c : α → List Value} {sz : Nat} (h : ∀ x, (c x).length = sz) (l : List α) (i j : Nat) (x : α) (hx : l[i]? = some x) (hj : j < sz) : (l.flatMap c)[i * sz + j]? = (c x)[j]? := by
  have h1 : (l.flatMap c)[i * sz + j]? = ((l.flatMap c).drop (i * sz))[j]? := by rw [List.getElem?_drop]
  obtain ⟨hlt, rfl⟩ := List.getElem?_eq_some_iff.1 hx
  rw [h1, flat_drop h, List.drop_eq_getElem_cons hlt, List.flatMap_cons, List.getElem?_append_left (by rw [h]; exact hj)]
theorem rep_get {c : α → List Value} {sz : Nat} (h : ∀ x, (c x).length = sz) (h0 : 0 < sz) (a : α) (n j : Nat) (u : Value) (hu : ((List.replicate n a).flatMap c)[j]? = some u) : (c a)[j % sz]? = some u := by
  have hl := (List.getElem?_eq_some_iff.1 hu).1
  rw [flat_len h, List.length_replicate] at hl
  have hd : j / sz < n := (Nat.div_lt_iff_lt_mul h0).2 hl
  have e : j / sz * sz + j % sz = j := by rw [Nat.mul_comm]; exact Nat.div_add_mod j sz
  rw [← e, flat_get h _ _ _ a (by rw [List.getElem?_replicate, if_pos hd]) (Nat.mod_lt _ h0)] at hu
  exact hu

/-- The slice v holds these things. -/
def LiesK (K : Kind P α) (w : World) (v : Value) (cs : List α) : Prop := Lies w K.sz v cs.length (cs.flatMap K.cells)
section
variable {K : Kind P α} {w w' : World} {v : Value} {cs : List α} {k o c : Nat}
theorem liesK_nil (K : Kind P α) (w : World) : LiesK K w (.slice none 0 0) [] := lies_nil w K.sz
theorem LiesK.lt (h : LiesK K w v cs) : ∀ k, v.ownBlock = some k → k < w.heap.size := Lies.lt h
theorem LiesK.same (h : LiesK K w v cs) (hs : w.heap.size ≤ w'.heap.size) (hb : ∀ k, v.ownBlock = some k → w'.heap[k]? = w.heap[k]?) : LiesK K w' v cs := Lies.same h hs hb
theorem LiesK.len (h : LiesK K w v cs) (T : TypeId) (W : World) : (Builtin.len_ #[K.sl] T #[v]).run P W = .ok (.int .i64 (cs.length : Int)) W := Lies.len h K.under T W
theorem LiesK.shape (h : LiesK K w v cs) (h0 : 0 < cs.length) : ∃ k o c, v = .slice (some ⟨k, o, none⟩) cs.length c ∧ cs.length ≤ c ∧ k < w.heap.size := Lies.shape h h0
theorem LiesK.form (h : LiesK K w v cs) : ∃ a c, v = .slice a cs.length c := Lies.form h
theorem LiesK.idx (K : Kind P α) (k o n c i : Nat) (hi : i < n) (W : World) : (Instr.indexAt K.sl (.slice (some ⟨k, o, none⟩) n c) (.int .i64 (i : Int))).run P W = .ok (.pointer (some ⟨k, o + i * K.sz, none⟩)) W :=
  run_index_at K.under K.size k o n c i hi W
theorem LiesK.cut (K : Kind P α) (k o n c i : Nat) (hi : i + 1 ≤ c) (W : World) : (Instr.slice K.sl (.slice (some ⟨k, o, none⟩) n c) (some (.int .i64 (i : Int))) (some (.int .i64 ((i : Int) + 1))) none).run P W = .ok (.slice (some ⟨k, o + i * K.sz, none⟩) 1 (c - i)) W := by
  have := run_mid_at K.under K.size k o n c i (i + 1) (by omega) hi (by omega) W
  rw [show i + 1 - i = 1 by omega, Int.natCast_add] at this
  exact this
theorem LiesK.there (h : LiesK K w (.slice (some ⟨k, o, none⟩) cs.length c) cs) (i : Nat) (hi : i < cs.length) : w.there k (o + i * K.sz) K.sz := by
  intro j hj
  rcases h.2 with ⟨h0, _⟩ | ⟨g', o', c', he, hn, _, _, _, hth⟩
  · cases h0
  · simp only [Value.slice.injEq, Option.some.injEq, Addr.mk.injEq, and_true, true_and] at he
    obtain ⟨⟨rfl, rfl⟩, rfl⟩ := he
    rw [Nat.add_assoc]
    have h1 : (i + 1) * K.sz ≤ c * K.sz := Nat.mul_le_mul_right _ (by omega)
    rw [Nat.add_mul] at h1
    exact hth _ (by omega)
theorem LiesK.rng (h : LiesK K w (.slice (some ⟨k, o, none⟩) cs.length c) cs) (i : Nat) (x : α) (hx : cs[i]? = some x) : w.rangeAt k (o + i * K.sz) (K.cells x) := by
  intro j u hu
  rcases h.2 with ⟨h0, _⟩ | ⟨g', o', c', he, hn, _, _, hr, _⟩
  · cases h0
  · simp only [Value.slice.injEq, Option.some.injEq, Addr.mk.injEq, and_true, true_and] at he
    obtain ⟨⟨rfl, rfl⟩, rfl⟩ := he
    rw [Nat.add_assoc]
    have hj := (List.getElem?_eq_some_iff.1 hu).1
    rw [K.len] at hj
    exact hr _ u (by rw [flat_get K.len cs i j x hx hj]; exact hu)
/-- One thing turned. -/
theorem LiesK.set (h : LiesK K w (.slice (some ⟨k, o, none⟩) cs.length c) cs) (i : Nat) (y : α) (hi : i < cs.length) :
    LiesK K (w.setCells k (o + i * K.sz) (K.cells y)) (.slice (some ⟨k, o, none⟩) cs.length c) (cs.set i y) := by
  have h1 : (i + 1) * K.sz ≤ cs.length * K.sz := Nat.mul_le_mul_right _ hi
  rw [Nat.add_mul] at h1
  have := (Lies.setMid h (i * K.sz) (K.cells y) (by rw [K.len]; omega)).1
  rw [flat_set K.len cs i y hi] at this
  unfold LiesK
  rw [List.length_set]
  exact this
/-- One thing cleared. -/
theorem LiesK.clear (h : LiesK K w (.slice (some ⟨k, o, none⟩) cs.length c) cs) (i : Nat) (hi : i < cs.length) (ty : TypeId) (m : Nat) :
    (Builtin.clear_ #[K.sl] ty #[.slice (some ⟨k, o + i * K.sz, none⟩) 1 m]).run P w = .ok (.tuple #[]) (w.setCells k (o + i * K.sz) (K.cells K.zero)) := by
  obtain ⟨t, z, hti, hz, hs, _, hzc⟩ := K.info
  have hzs : z.cells.size = K.sz := by rw [← K.len K.zero, ← hzc, Array.length_toList]
  have hone : (Builtin.zeroCells z.cells 1).toList = K.cells K.zero := by
    rw [← hzc]
    unfold Builtin.zeroCells
    apply List.ext_getElem
    · simp
    · intro j h1 h2
      have hj : j < z.cells.size := by simpa using h1
      simp [Nat.mod_eq_of_lt hj, hj]
  have hth := h.there i hi
  have := run_clear (P := P) (w := w) (n := 1) K.under z (fun w => by simp [zeroValue, typeInfo, hti, hz]) (by rw [hone]; exact K.one _) ty k (o + i * K.sz) m (by decide)
    (by rw [hone, K.len]; exact fun j hj => (hth j hj).1) (by rw [hone, K.len]; exact fun j hj => (hth j hj).2)
  rw [hone] at this
  exact this
/-- A slice made. -/
theorem LiesK.make (K : Kind P α) (n : Nat) (hn : n ≤ 1000000000) (w : World) :
    ∃ w', (Instr.makeSlice K.sl (.int .i64 (n : Int)) (.int .i64 (n : Int))).run P w = .ok (.slice (some ⟨w.heap.size, 0, none⟩) n n) w' ∧ LiesK K w' (.slice (some ⟨w.heap.size, 0, none⟩) n n) (List.replicate n K.zero) ∧ w'.heap.size = w.heap.size + 1 ∧ Below w.heap.size w w' := by
  obtain ⟨t, z, hti, hz, hs, hby, hzc⟩ := K.info
  have hzs : z.cells.size = K.sz := by rw [← K.len K.zero, ← hzc, Array.length_toList]
  have hb : t.bytes * n ≤ 1024 * 1000000000 := Nat.mul_le_mul hby hn
  have hr := run_make (P := P) w K.sl K.el t z K.under hti hz .i64 .i64 n n (by omega) (by omega) (by
    have : ((t.bytes * n : Nat) : Int) ≤ 281474976710656 := by omega
    rwa [Int.natCast_mul] at this) (by omega)
  simp only [Int.toNat_natCast] at hr
  refine ⟨_, hr, ?_, alloc_size _ _, (Below.refl _ w).alloc (Nat.le_refl _) _⟩
  have hrow := row_new w (madeCells z.cells (n * t.size)) K.el
  refine ⟨by rw [flat_len K.len], .inr ⟨w.heap.size, 0, n, by rw [List.length_replicate], by rw [List.length_replicate]; exact Nat.le_refl _, by simp only [maxLen]; omega, hrow.lt, fun j u hu => ?_, fun j hj => ?_⟩⟩
  · have hj := (List.getElem?_eq_some_iff.1 hu).1
    rw [flat_len K.len, List.length_replicate] at hj
    have h1 := rep_get K.len K.pos K.zero n j u hu
    rw [Nat.zero_add, cell_of_row _ _ j _ _ _ hrow, hs]
    rw [← hzc, Array.getElem?_toList] at h1
    have hm : j % K.sz < z.cells.size := by rw [hzs]; exact Nat.mod_lt _ K.pos
    rw [Array.getElem?_eq_getElem hm] at h1
    simp [madeCells, hj, hzs]
    rw [getElem!_pos z.cells _ hm]
    exact Option.some.inj h1
  · rw [Nat.zero_add]
    exact ⟨by rw [cell_of_row _ _ j _ _ _ hrow, hs, Array.getElem?_eq_getElem (by rw [size_madeCells]; exact hj)]; rfl, hrow.frozen j⟩
end

/-! A circle of things: from place f on they stand, one behind the other. -/
theorem mod_twice {a C : Nat} (h : a < 2 * C) : a % C = if a < C then a else a - C := by
  split
  · exact Nat.mod_eq_of_lt ‹_›
  · rw [Nat.mod_eq_sub_mod (by omega), Nat.mod_eq_of_lt (by omega)]
def Turned (f : Nat) (cs xs : List α) : Prop := xs.length ≤ cs.length ∧ (f < cs.length ∨ f = 0 ∧ cs.length = 0) ∧ ∀ i x, xs[i]? = some x → cs[(f + i) % cs.length]? = some x
theorem turned_nil : Turned (α := α) 0 [] [] := ⟨Nat.le_refl _, .inr ⟨rfl, rfl⟩, fun i x h => by simp at h⟩
theorem Turned.set {f : Nat} {cs xs : List α} (h : Turned f cs xs) (i : Nat) (y : α) (hi : i < xs.length) : Turned f (cs.set ((f + i) % cs.length) y) (xs.set i y) := by
  obtain ⟨h1, h2, h3⟩ := h
  refine ⟨by rw [List.length_set, List.length_set]; exact h1, by rw [List.length_set]; exact h2, fun j x hx => ?_⟩
  have hf : f < cs.length := by omega
  rw [List.length_set]
  by_cases hj : i = j
  · subst hj
    rw [List.getElem?_set_self hi] at hx
    rw [List.getElem?_set_self (Nat.mod_lt _ (by omega))]; exact hx
  · have hjl : j < xs.length := by
      have := (List.getElem?_eq_some_iff.1 hx).1
      rwa [List.length_set] at this
    rw [List.getElem?_set_ne hj] at hx
    rw [List.getElem?_set_ne]
    · exact h3 j x hx
    · rw [mod_twice (by omega), mod_twice (by omega)]; split <;> split <;> omega
theorem Turned.push {f : Nat} {cs xs : List α} (h : Turned f cs xs) (y : α) (hl : xs.length < cs.length) : Turned f (cs.set ((f + xs.length) % cs.length) y) (xs ++ [y]) := by
  obtain ⟨h1, h2, h3⟩ := h
  refine ⟨by rw [List.length_set, List.length_append, List.length_singleton]; exact hl, by rw [List.length_set]; exact h2, fun j x hx => ?_⟩
  have hf : f < cs.length := by omega
  rw [List.length_set]
  by_cases hj : j < xs.length
  · rw [List.getElem?_append_left hj] at hx
    rw [List.getElem?_set_ne]
    · exact h3 j x hx
    · rw [mod_twice (by omega), mod_twice (by omega)]; split <;> split <;> omega
  · have hjl := (List.getElem?_eq_some_iff.1 hx).1
    rw [List.length_append, List.length_singleton] at hjl
    obtain rfl : j = xs.length := by omega
    rw [List.getElem?_append_right (Nat.le_refl _), Nat.sub_self] at hx
    rw [List.getElem?_set_self (Nat.mod_lt _ (by omega))]; exact hx
theorem Turned.pop {f : Nat} {cs r : List α} {x : α} (h : Turned f cs (x :: r)) (z : α) : Turned ((f + 1) % cs.length) (cs.set f z) r ∧ f < cs.length := by
  obtain ⟨h1, h2, h3⟩ := h
  rw [List.length_cons] at h1
  have hf : f < cs.length := by omega
  refine ⟨⟨by rw [List.length_set]; omega, by rw [List.length_set]; exact .inl (Nat.mod_lt _ (by omega)), fun j y hy => ?_⟩, hf⟩
  have hjl := (List.getElem?_eq_some_iff.1 hy).1
  have h4 := h3 (j + 1) y (by rw [List.getElem?_cons_succ]; exact hy)
  have e : ((f + 1) % cs.length + j) % cs.length = (f + (j + 1)) % cs.length := by rw [Nat.mod_add_mod]; congr 1; omega
  rw [List.length_set, e, List.getElem?_set_ne]
  · exact h4
  · rw [mod_twice (by omega)]; split <;> omega
theorem Turned.head {f : Nat} {cs r : List α} {x : α} (h : Turned f cs (x :: r)) : cs[f]? = some x := by
  have h1 := h.2.2 0 x rfl
  have h2 := h.1
  rw [List.length_cons] at h2
  have hf : f < cs.length := by have := h.2.1; omega
  rw [Nat.add_zero, Nat.mod_eq_of_lt hf] at h1
  exact h1
theorem turned_wide (xs : List α) (z : α) (m : Nat) (h : xs.length ≤ m) : Turned 0 (xs ++ List.replicate (m - xs.length) z) xs := by
  have e : (xs ++ List.replicate (m - xs.length) z).length = m := by rw [List.length_append, List.length_replicate]; omega
  refine ⟨by rw [e]; exact h, by rw [e]; omega, fun j x hx => ?_⟩
  have hj := (List.getElem?_eq_some_iff.1 hx).1
  rw [e, Nat.zero_add, Nat.mod_eq_of_lt (by omega), List.getElem?_append_left hj]
  exact hx
/-- What was copied so far, and nothing behind it. -/
def copied (xs : List α) (z : α) (m i : Nat) : List α := xs.take i ++ List.replicate (m - i) z
theorem copied_len (xs : List α) (z : α) (m i : Nat) (h : i ≤ xs.length) (hm : xs.length ≤ m) : (copied xs z m i).length = m := by
  unfold copied
  rw [List.length_append, List.length_take, List.length_replicate]; omega
theorem copied_next (xs : List α) (z : α) (m i : Nat) (x : α) (hx : xs[i]? = some x) (hm : xs.length ≤ m) : (copied xs z m i).set i x = copied xs z m (i + 1) := by
  obtain ⟨hi, rfl⟩ := List.getElem?_eq_some_iff.1 hx
  have htl : (xs.take i).length = i := by rw [List.length_take]; omega
  unfold copied
  rw [List.set_append_right _ _ (by omega), htl, Nat.sub_self, show m - i = m - (i + 1) + 1 by omega, List.replicate_succ, List.set_cons_zero, List.take_succ_eq_append_getElem hi, List.append_assoc]
  rfl
theorem copied_all (xs : List α) (z : α) (m : Nat) : copied xs z m xs.length = xs ++ List.replicate (m - xs.length) z := by
  unfold copied; rw [List.take_length]
/-- The things with their places. -/
def plc (z : α) (xs : List α) : List (Nat × α) := (List.range xs.length).map fun i => (i, xs.getD i z)
theorem plc_len (z : α) (xs : List α) : (plc z xs).length = xs.length := by simp [plc]
theorem plc_get (z : α) (xs : List α) (i : Nat) (x : α) (hx : xs[i]? = some x) : (plc z xs)[i]? = some (i, x) := by
  obtain ⟨hi, rfl⟩ := List.getElem?_eq_some_iff.1 hx
  simp [plc, hi]
theorem plc_next (z : α) (xs : List α) (i : Nat) (x : α) (hx : xs[i]? = some x) : (plc z xs).take i ++ [(i, x)] = (plc z xs).take (i + 1) := by
  have h := plc_get z xs i x hx
  obtain ⟨hi, he⟩ := List.getElem?_eq_some_iff.1 h
  rw [List.take_succ_eq_append_getElem hi, he]
theorem plc_pre {z : α} {xs : List α} {pre : List (Nat × α)} {y : Nat × α} (h : pre ++ [y] <+: plc z xs) : y.1 = pre.length ∧ xs[pre.length]? = some y.2 := by
  obtain ⟨t, ht⟩ := h
  have hl : pre.length < (plc z xs).length := by rw [← ht, List.length_append, List.length_append, List.length_singleton]; omega
  have hg : (plc z xs)[pre.length]? = some y := by rw [← ht, List.append_assoc, List.getElem?_append_right (Nat.le_refl _), Nat.sub_self]; rfl
  rw [plc_len] at hl
  rw [plc_get z xs pre.length _ (List.getElem?_eq_getElem hl)] at hg
  obtain rfl := Option.some.inj hg
  exact ⟨rfl, List.getElem?_eq_getElem hl⟩
/-! A load, a store, as operations. -/
theorem exec_load_by {P : Program} {a : Act} {o : Oper} {w : World} (ty : TypeId) (x : Operand) (ho : o.op = .load ty x) (ad : Addr) (hx : a.eval x = .pointer (some ad)) {v : Value} (h : (loadVar ty ad).run P w = .ok v w) : (execOp a.eval o).run P w = .ok (.value v) w := by
  unfold execOp
  simp only [ho, hx, Instr.loadAt, Instr.sureAddr, Sem.run_bind, Sem.run_pure, Result.andThen_ok, h]
theorem exec_index_by {P : Program} {a : Act} {o : Oper} {w : World} (t : TypeId) (x y : Operand) (ho : o.op = .indexAddr t x y) (V I : Value) (hx : a.eval x = V) (hy : a.eval y = I) (ad : Addr) (h : (Instr.indexAt t V I).run P w = .ok (.pointer (some ad)) w) : (execOp a.eval o).run P w = .ok (.value (.pointer (some ad))) w := by
  simp [execOp, ho, hx, hy, h, Result.andThen]
theorem exec_slice_by {P : Program} {a : Act} {o : Oper} {w : World} (t : TypeId) (x y z : Operand) (ho : o.op = .slice t x (some y) (some z) none) {e : TypeId} (ht : P.underlying t = some (.slice e)) (V I J : Value) (hx : a.eval x = V) (hy : a.eval y = I) (hz : a.eval z = J) {R : Value} (h : (Instr.slice t V (some I) (some J) none).run P w = .ok R w) : (execOp a.eval o).run P w = .ok (.value R) w := by
  have hs : (Instr.sliceAt t V (some I) (some J) none).run P w = .ok R w := by
    unfold Instr.sliceAt
    rw [Sem.run_bind, run_underlying ht]
    exact h
  simp only [execOp, ho, hx, hy, hz, Option.map_some, Option.map_none, Sem.run_bind, hs, Sem.run_pure, Result.andThen_ok]
theorem exec_clear_by {P : Program} {a : Act} {o : Oper} {w w' : World} (t : TypeId) (x : Operand) (ho : o.op = .call { callee := .builtin .clear, args := #[x], argTypes := #[t] }) (V : Value) (hx : a.eval x = V) {R : Value} (h : (Builtin.clear_ #[t] o.type #[V]).run P w = .ok R w') : (execOp a.eval o).run P w = .ok (.value R) w' := by
  simp only [execOp, ho, resolve, invoke, builtin, Sem.run_bind, Sem.run_pure, Result.andThen_ok, List.map_toArray, List.map_cons, List.map_nil, hx, h]
theorem exec_store_by {P : Program} {a : Act} {o : Oper} {w w' : World} (ty : TypeId) (x y : Operand) (ho : o.op = .store ty x y) (ad : Addr) (hx : a.eval x = .pointer (some ad)) {v : Value} (hy : a.eval y = v) (h : (storeVar ty ad v).run P w = .ok () w') : (execOp a.eval o).run P w = .ok .skip w' := by
  unfold execOp
  simp only [ho, hx, hy, Instr.storeAt, Instr.sureAddr, Sem.run_bind, Sem.run_pure, Result.andThen_ok, h]
end Go.Proofs.Ytlmolmmhkddpaaa
