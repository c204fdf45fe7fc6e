/- Texts of this proof that several statements share, one behind the other. -/
import Derived.Test.YtfdbmbgpcioogaaGreatDoorJa
import Derived.Test.YtfdbmbgpcioogaaGreatDoorProg
import Derived.Deep.AppendLies
import Derived.Laws.StructEq
import Derived.Lib.SlTrimSet
import Derived.Lib.IndexAny
import Derived.Lib.Bytealg
import Derived.Lib.ItoaNum
/- Things of one kind in a slice: where each lies; one loaded, stored, cleared; a slice made. A circle of things. Over any program. -/
namespace Go.Proofs.YtfdbmbgpcioogaaGreatDoor
open Go.RowKit
variable {P : Program} {α : Type}

/-- Things of one kind: each as a value, and as cells; the one that is nothing. -/
structure Kind (P : Program) (α : Type) where
  sl : TypeId
  el : TypeId
  sz : Nat
  val : α → Value
  cells : α → List Value
  zero : α
  under : P.underlying sl = some (.slice el)
  size : ∀ w, (sizeOf el).run P w = .ok sz w
  info : ∃ i z, P.info? el = some i ∧ i.zero = some z ∧ i.size = sz ∧ i.bytes ≤ 1024 ∧ z.cells.toList = cells zero
  pos : 0 < sz
  len : ∀ x, (cells x).length = sz
  one : ∀ x, ∀ u ∈ cells x, u.oneCell' = true
  load : ∀ x w k o, w.rangeAt k o (cells x) → (loadVar el ⟨k, o, none⟩).run P w = .ok (val x) w
  store : ∀ x w k o, w.there k o sz → (storeVar el ⟨k, o, none⟩ (val x)).run P w = .ok () (w.setCells k o (cells x))

/-- A kind of one cell. -/
def kind1 (sl el : TypeId) (val : α → Value) (zero : α) (under : P.underlying sl = some (.slice el)) (size : ∀ w, (sizeOf el).run P w = .ok 1 w)
    (info : ∃ i z, P.info? el = some i ∧ i.zero = some z ∧ i.size = 1 ∧ i.bytes ≤ 1024 ∧ z.cells.toList = [val zero]) (d : TypeDesc) (hd : P.underlying el = some d) (hr : d.isRow = false) (one : ∀ x, (val x).oneCell' = true)
    (hc : ∀ x, (val x).cells = #[val x]) : Kind P α where
  sl := sl
  el := el
  sz := 1
  val := val
  cells := fun x => [val x]
  zero := zero
  under := under
  size := size
  info := info
  pos := by decide
  len := fun _ => rfl
  one := fun x u hu => by rw [List.mem_singleton.1 hu]; exact one x
  load := fun x w k o hw => by
    have h0 := hw 0 (val x) rfl
    rw [Nat.add_zero] at h0
    have hagg : (isAgg el).run P w = .ok false w := by
      unfold isAgg
      rw [Sem.run_bind, run_underlying hd w]
      cases d <;> simp_all [Result.andThen]
    simp [loadVar, hagg, Result.andThen, run_load, h0]
  store := fun x w k o hw => by
    obtain ⟨h1, h2⟩ := hw 0 (by omega)
    rw [Nat.add_zero] at h1 h2
    have := run_store_ok P w ⟨k, o, none⟩ (val x) .plain (one x) h1 h2
    simp [storeVar, hc, size, Result.andThen, store_one, this, World.setCells]
/-- A kind of several cells. -/
def kindA (sl el : TypeId) (sz : Nat) (cells : α → List Value) (zero : α) (under : P.underlying sl = some (.slice el)) (size : ∀ w, (sizeOf el).run P w = .ok sz w)
    (info : ∃ i z, P.info? el = some i ∧ i.zero = some z ∧ i.size = sz ∧ i.bytes ≤ 1024 ∧ z.cells.toList = cells zero) (pos : 0 < sz) (d : TypeDesc) (hd : P.underlying el = some d) (hr : d.isRow = true) (len : ∀ x, (cells x).length = sz) (one : ∀ x, ∀ u ∈ cells x, u.oneCell' = true) : Kind P α where
  sl := sl
  el := el
  sz := sz
  val := fun x => .agg (cells x).toArray
  cells := cells
  zero := zero
  under := under
  size := size
  info := info
  pos := pos
  len := len
  one := one
  load := fun x w k o hw => by
    obtain ⟨i, z, hi, _, hs, _⟩ := info
    exact run_loadVar_mid w k o el (cells x) d hw hd hr (by rw [hi, Option.map_some, hs, len])
  store := fun x w k o hw => by
    obtain ⟨i, z, hi, _, hs, _⟩ := info
    exact run_storeVar_mid w k o el (cells x).toArray (by rw [List.size_toArray, len]; exact hw) (by rw [hi, Option.map_some, hs, List.size_toArray, len]) (by simpa using one x)

/-! Cells, one thing's behind the other's. -/
theorem flat_len {c : α → List Value} {sz : Nat} (h : ∀ x, (c x).length = sz) : ∀ l : List α, (l.flatMap c).length = l.length * sz
  | [] => by simp
  | x :: r => by rw [List.flatMap_cons, List.length_append, h, flat_len h r, List.length_cons, Nat.add_mul]; omega
theorem flat_take {c : α → List Value} {sz : Nat} (h : ∀ x, (c x).length = sz) : ∀ (l : List α) (i : Nat), (l.flatMap c).take (i * sz) = (l.take i).flatMap c
  | [], i => by simp
  | x :: r, 0 => by simp
  | x :: r, i + 1 => by
    rw [List.flatMap_cons, List.take_succ_cons, List.flatMap_cons, ← flat_take h r i, List.take_append, List.take_of_length_le (by rw [h, Nat.add_mul]; omega)]
    rw [h, show (i + 1) * sz - sz = i * sz by rw [Nat.add_mul]; omega]
theorem flat_drop {c : α → List Value} {sz : Nat} (h : ∀ x, (c x).length = sz) : ∀ (l : List α) (i : Nat), (l.flatMap c).drop (i * sz) = (l.drop i).flatMap c
  | [], i => by simp
  | x :: r, 0 => by simp
  | x :: r, i + 1 => by
    rw [List.flatMap_cons, List.drop_succ_cons, ← flat_drop h r i, List.drop_append, List.drop_of_length_le (by rw [h, Nat.add_mul]; omega), List.nil_append]
    rw [h, show (i + 1) * sz - sz = i * sz by rw [Nat.add_mul]; omega]
theorem flat_set {c : α → List Value} {sz : Nat} (h : ∀ x, (c x).length = sz) (l : List α) (i : Nat) (y : α) (hi : i < l.length) : (l.flatMap c).take (i * sz) ++ c y ++ (l.flatMap c).drop (i * sz + (c y).length) = (l.set i y).flatMap c := by
  rw [h, show i * sz + sz = (i + 1) * sz by rw [Nat.add_mul]; omega, flat_take h, flat_drop h, List.set_eq_take_append_cons_drop, if_pos hi, List.flatMap_append, List.flatMap_cons, List.append_assoc]
theorem flat_get {c : α → List Value} {sz : Nat} (h : ∀ x, (c x).length = sz) (l : List α) (i j : Nat) (x : α) (hx : l[i]? = some x) (hj : j < sz) : (l.flatMap c)[i * sz + j]? = (c x)[j]? := by
  have h1 : (l.flatMap c)[i * sz + j]? = ((l.flatMap c).drop (i * sz))[j]? := by rw [List.getElem?_drop]
  obtain ⟨hlt, rfl⟩ := List.getElem?_eq_some_iff.1 hx
  rw [h1, flat_drop h, List.drop_eq_getElem_cons hlt, List.flatMap_cons, List.getElem?_append_left (by rw [h]; exact hj)]
theorem rep_get {c : α → List Value} {sz : Nat} (h : ∀ x, (c x).length = sz) (h0 : 0 < sz) (a : α) (n j : Nat) (u : Value) (hu : ((List.replicate n a).flatMap c)[j]? = some u) : (c a)[j % sz]? = some u := by
  have hl := (List.getElem?_eq_some_iff.1 hu).1
  rw [flat_len h, List.length_replicate] at hl
  have hd : j / sz < n := (Nat.div_lt_iff_lt_mul h0).2 hl
  have e : j / sz * sz + j % sz = j := by rw [Nat.mul_comm]; exact Nat.div_add_mod j sz
  rw [← e, flat_get h _ _ _ a (by rw [List.getElem?_replicate, if_pos hd]) (Nat.mod_lt _ h0)] at hu
  exact hu

/-- The slice v holds these things. -/
def LiesK (K : Kind P α) (w : World) (v : Value) (cs : List α) : Prop := Lies w K.sz v cs.length (cs.flatMap K.cells)
section
variable {K : Kind P α} {w w' : World} {v : Value} {cs : List α} {k o c : Nat}
theorem liesK_nil (K : Kind P α) (w : World) : LiesK K w (.slice none 0 0) [] := lies_nil w K.sz
theorem LiesK.lt (h : LiesK K w v cs) : ∀ k, v.ownBlock = some k → k < w.heap.size := Lies.lt h
theorem LiesK.same (h : LiesK K w v cs) (hs : w.heap.size ≤ w'.heap.size) (hb : ∀ k, v.ownBlock = some k → w'.heap[k]? = w.heap[k]?) : LiesK K w' v cs := Lies.same h hs hb
theorem LiesK.len (h : LiesK K w v cs) (T : TypeId) (W : World) : (Builtin.len_ #[K.sl] T #[v]).run P W = .ok (.int .i64 (cs.length : Int)) W := Lies.len h K.under T W
theorem LiesK.shape (h : LiesK K w v cs) (h0 : 0 < cs.length) : ∃ k o c, v = .slice (some ⟨k, o, none⟩) cs.length c ∧ cs.length ≤ c ∧ k < w.heap.size := Lies.shape h h0
theorem LiesK.form (h : LiesK K w v cs) : ∃ a c, v = .slice a cs.length c := Lies.form h
theorem LiesK.idx (K : Kind P α) (k o n c i : Nat) (hi : i < n) (W : World) : (Instr.indexAt K.sl (.slice (some ⟨k, o, none⟩) n c) (.int .i64 (i : Int))).run P W = .ok (.pointer (some ⟨k, o + i * K.sz, none⟩)) W :=
  run_index_at K.under K.size k o n c i hi W
theorem LiesK.cut (K : Kind P α) (k o n c i : Nat) (hi : i + 1 ≤ c) (W : World) : (Instr.slice K.sl (.slice (some ⟨k, o, none⟩) n c) (some (.int .i64 (i : Int))) (some (.int .i64 ((i : Int) + 1))) none).run P W = .ok (.slice (some ⟨k, o + i * K.sz, none⟩) 1 (c - i)) W := by
  have := run_mid_at K.under K.size k o n c i (i + 1) (by omega) hi (by omega) W
  rw [show i + 1 - i = 1 by omega, Int.natCast_add] at this
  exact this
theorem LiesK.there (h : LiesK K w (.slice (some ⟨k, o, none⟩) cs.length c) cs) (i : Nat) (hi : i < cs.length) : w.there k (o + i * K.sz) K.sz := by
  intro j hj
  rcases h.2 with ⟨h0, _⟩ | ⟨g', o', c', he, hn, _, _, _, hth⟩
  · cases h0
  · simp only [Value.slice.injEq, Option.some.injEq, Addr.mk.injEq, and_true, true_and] at he
    obtain ⟨⟨rfl, rfl⟩, rfl⟩ := he
    rw [Nat.add_assoc]
    have h1 : (i + 1) * K.sz ≤ c * K.sz := Nat.mul_le_mul_right _ (by omega)
    rw [Nat.add_mul] at h1
    exact hth _ (by omega)
theorem LiesK.rng (h : LiesK K w (.slice (some ⟨k, o, none⟩) cs.length c) cs) (i : Nat) (x : α) (hx : cs[i]? = some x) : w.rangeAt k (o + i * K.sz) (K.cells x) := by
  intro j u hu
  rcases h.2 with ⟨h0, _⟩ | ⟨g', o', c', he, hn, _, _, hr, _⟩
  · cases h0
  · simp only [Value.slice.injEq, Option.some.injEq, Addr.mk.injEq, and_true, true_and] at he
    obtain ⟨⟨rfl, rfl⟩, rfl⟩ := he
    rw [Nat.add_assoc]
    have hj := (List.getElem?_eq_some_iff.1 hu).1
    rw [K.len] at hj
    exact hr _ u (by rw [flat_get K.len cs i j x hx hj]; exact hu)
/-- One thing turned. -/
theorem LiesK.set (h : LiesK K w (.slice (some ⟨k, o, none⟩) cs.length c) cs) (i : Nat) (y : α) (hi : i < cs.length) :
    LiesK K (w.setCells k (o + i * K.sz) (K.cells y)) (.slice (some ⟨k, o, none⟩) cs.length c) (cs.set i y) := by
  have h1 : (i + 1) * K.sz ≤ cs.length * K.sz := Nat.mul_le_mul_right _ hi
  rw [Nat.add_mul] at h1
  have := (Lies.setMid h (i * K.sz) (K.cells y) (by rw [K.len]; omega)).1
  rw [flat_set K.len cs i y hi] at this
  unfold LiesK
  rw [List.length_set]
  exact this
/-- One thing cleared. -/
theorem LiesK.clear (h : LiesK K w (.slice (some ⟨k, o, none⟩) cs.length c) cs) (i : Nat) (hi : i < cs.length) (ty : TypeId) (m : Nat) :
    (Builtin.clear_ #[K.sl] ty #[.slice (some ⟨k, o + i * K.sz, none⟩) 1 m]).run P w = .ok (.tuple #[]) (w.setCells k (o + i * K.sz) (K.cells K.zero)) := by
  obtain ⟨t, z, hti, hz, hs, _, hzc⟩ := K.info
  have hzs : z.cells.size = K.sz := by rw [← K.len K.zero, ← hzc, Array.length_toList]
  have hone : (Builtin.zeroCells z.cells 1).toList = K.cells K.zero := by
    rw [← hzc]
    unfold Builtin.zeroCells
    apply List.ext_getElem
    · simp
    · intro j h1 h2
      have hj : j < z.cells.size := by simpa using h1
      simp [Nat.mod_eq_of_lt hj, hj]
  have hth := h.there i hi
  have := run_clear (P := P) (w := w) (n := 1) K.under z (fun w => by simp [zeroValue, typeInfo, hti, hz]) (by rw [hone]; exact K.one _) ty k (o + i * K.sz) m (by decide)
    (by rw [hone, K.len]; exact fun j hj => (hth j hj).1) (by rw [hone, K.len]; exact fun j hj => (hth j hj).2)
  rw [hone] at this
  exact this
/-- A slice made. -/
theorem LiesK.make (K : Kind P α) (n : Nat) (hn : n ≤ 1000000000) (w : World) :
    ∃ w', (Instr.makeSlice K.sl (.int .i64 (n : Int)) (.int .i64 (n : Int))).run P w = .ok (.slice (some ⟨w.heap.size, 0, none⟩) n n) w' ∧ LiesK K w' (.slice (some ⟨w.heap.size, 0, none⟩) n n) (List.replicate n K.zero) ∧ w'.heap.size = w.heap.size + 1 ∧ Below w.heap.size w w' := by
  obtain ⟨t, z, hti, hz, hs, hby, hzc⟩ := K.info
  have hzs : z.cells.size = K.sz := by rw [← K.len K.zero, ← hzc, Array.length_toList]
  have hb : t.bytes * n ≤ 1024 * 1000000000 := Nat.mul_le_mul hby hn
  have hr := run_make (P := P) w K.sl K.el t z K.under hti hz .i64 .i64 n n (by omega) (by omega) (by
    have : ((t.bytes * n : Nat) : Int) ≤ 281474976710656 := by omega
    rwa [Int.natCast_mul] at this) (by omega)
  simp only [Int.toNat_natCast] at hr
  refine ⟨_, hr, ?_, alloc_size _ _, (Below.refl _ w).alloc (Nat.le_refl _) _⟩
  have hrow := row_new w (madeCells z.cells (n * t.size)) K.el
  refine ⟨by rw [flat_len K.len], .inr ⟨w.heap.size, 0, n, by rw [List.length_replicate], by rw [List.length_replicate]; exact Nat.le_refl _, by simp only [maxLen]; omega, hrow.lt, fun j u hu => ?_, fun j hj => ?_⟩⟩
  · have hj := (List.getElem?_eq_some_iff.1 hu).1
    rw [flat_len K.len, List.length_replicate] at hj
    have h1 := rep_get K.len K.pos K.zero n j u hu
    rw [Nat.zero_add, cell_of_row _ _ j _ _ _ hrow, hs]
    rw [← hzc, Array.getElem?_toList] at h1
    have hm : j % K.sz < z.cells.size := by rw [hzs]; exact Nat.mod_lt _ K.pos
    rw [Array.getElem?_eq_getElem hm] at h1
    simp [madeCells, hj, hzs]
    rw [getElem!_pos z.cells _ hm]
    exact Option.some.inj h1
  · rw [Nat.zero_add]
    exact ⟨by rw [cell_of_row _ _ j _ _ _ hrow, hs, Array.getElem?_eq_getElem (by rw [size_madeCells]; exact hj)]; rfl, hrow.frozen j⟩
end

/-! A circle of things: from place f on they stand, one behind the other. -/
theorem mod_twice {a C : Nat} (h : a < 2 * C) : a % C = if a < C then a else a - C := by
  split
  · exact Nat.mod_eq_of_lt ‹_›
  · rw [Nat.mod_eq_sub_mod (by omega), Nat.mod_eq_of_lt (by omega)]
def Turned (f : Nat) (cs xs : List α) : Prop := xs.length ≤ cs.length ∧ (f < cs.length ∨ f = 0 ∧ cs.length = 0) ∧ ∀ i x, xs[i]? = some x → cs[(f + i) % cs.length]? = some x
theorem turned_nil : Turned (α := α) 0 [] [] := ⟨Nat.le_refl _, .inr ⟨rfl, rfl⟩, fun i x h => by simp at h⟩
theorem Turned.set {f : Nat} {cs xs : List α} (h : Turned f cs xs) (i : Nat) (y : α) (hi : i < xs.length) : Turned f (cs.set ((f + i) % cs.length) y) (xs.set i y) := by
  obtain ⟨h1, h2, h3⟩ := h
  refine ⟨by rw [List.length_set, List.length_set]; exact h1, by rw [List.length_set]; exact h2, fun j x hx => ?_⟩
  have hf : f < cs.length := by omega
  rw [List.length_set]
  by_cases hj : i = j
  · subst hj
    rw [List.getElem?_set_self hi] at hx
    rw [List.getElem?_set_self (Nat.mod_lt _ (by omega))]; exact hx
  · have hjl : j < xs.length := by
      have := (List.getElem?_eq_some_iff.1 hx).1
      rwa [List.length_set] at this
    rw [List.getElem?_set_ne hj] at hx
    rw [List.getElem?_set_ne]
    · exact h3 j x hx
    · rw [mod_twice (by omega), mod_twice (by omega)]; split <;> split <;> omega
theorem Turned.push {f : Nat} {cs xs : List α} (h : Turned f cs xs) (y : α) (hl : xs.length < cs.length) : Turned f (cs.set ((f + xs.length) % cs.length) y) (xs ++ [y]) := by
  obtain ⟨h1, h2, h3⟩ := h
  refine ⟨by rw [List.length_set, List.length_append, List.length_singleton]; exact hl, by rw [List.length_set]; exact h2, fun j x hx => ?_⟩
  have hf : f < cs.length := by omega
  rw [List.length_set]
  by_cases hj : j < xs.length
  · rw [List.getElem?_append_left hj] at hx
    rw [List.getElem?_set_ne]
    · exact h3 j x hx
    · rw [mod_twice (by omega), mod_twice (by omega)]; split <;> split <;> omega
  · have hjl := (List.getElem?_eq_some_iff.1 hx).1
    rw [List.length_append, List.length_singleton] at hjl
    obtain rfl : j = xs.length := by omega
    rw [List.getElem?_append_right (Nat.le_refl _), Nat.sub_self] at hx
    rw [List.getElem?_set_self (Nat.mod_lt _ (by omega))]; exact hx
theorem Turned.pop {f : Nat} {cs r : List α} {x : α} (h : Turned f cs (x :: r)) (z : α) : Turned ((f + 1) % cs.length) (cs.set f z) r ∧ f < cs.length := by
  obtain ⟨h1, h2, h3⟩ := h
  rw [List.length_cons] at h1
  have hf : f < cs.length := by omega
  refine ⟨⟨by rw [List.length_set]; omega, by rw [List.length_set]; exact .inl (Nat.mod_lt _ (by omega)), fun j y hy => ?_⟩, hf⟩
  have hjl := (List.getElem?_eq_some_iff.1 hy).1
  have h4 := h3 (j + 1) y (by rw [List.getElem?_cons_succ]; exact hy)
  have e : ((f + 1) % cs.length + j) % cs.length = (f + (j + 1)) % cs.length := by rw [Nat.mod_add_mod]; congr 1; omega
  rw [List.length_set, e, List.getElem?_set_ne]
  · exact h4
  · rw [mod_twice (by omega)]; split <;> omega
theorem Turned.head {f : Nat} {cs r : List α} {x : α} (h : Turned f cs (x :: r)) : cs[f]? = some x := by
  have h1 := h.2.2 0 x rfl
  have h2 := h.1
  rw [List.length_cons] at h2
  have hf : f < cs.length := by have := h.2.1; omega
  rw [Nat.add_zero, Nat.mod_eq_of_lt hf] at h1
  exact h1
theorem turned_wide (xs : List α) (z : α) (m : Nat) (h : xs.length ≤ m) : Turned 0 (xs ++ List.replicate (m - xs.length) z) xs := by
  have e : (xs ++ List.replicate (m - xs.length) z).length = m := by rw [List.length_append, List.length_replicate]; omega
  refine ⟨by rw [e]; exact h, by rw [e]; omega, fun j x hx => ?_⟩
  have hj := (List.getElem?_eq_some_iff.1 hx).1
  rw [e, Nat.zero_add, Nat.mod_eq_of_lt (by omega), List.getElem?_append_left hj]
  exact hx
/-- What was copied so far, and nothing behind it. -/
def copied (xs : List α) (z : α) (m i : Nat) : List α := xs.take i ++ List.replicate (m - i) z
theorem copied_len (xs : List α) (z : α) (m i : Nat) (h : i ≤ xs.length) (hm : xs.length ≤ m) : (copied xs z m i).length = m := by
  unfold copied
  rw [List.length_append, List.length_take, List.length_replicate]; omega
theorem copied_next (xs : List α) (z : α) (m i : Nat) (x : α) (hx : xs[i]? = some x) (hm : xs.length ≤ m) : (copied xs z m i).set i x = copied xs z m (i + 1) := by
  obtain ⟨hi, rfl⟩ := List.getElem?_eq_some_iff.1 hx
  have htl : (xs.take i).length = i := by rw [List.length_take]; omega
  unfold copied
  rw [List.set_append_right _ _ (by omega), htl, Nat.sub_self, show m - i = m - (i + 1) + 1 by omega, List.replicate_succ, List.set_cons_zero, List.take_succ_eq_append_getElem hi, List.append_assoc]
  rfl
theorem copied_all (xs : List α) (z : α) (m : Nat) : copied xs z m xs.length = xs ++ List.replicate (m - xs.length) z := by
  unfold copied; rw [List.take_length]
/-- The things with their places. -/
def plc (z : α) (xs : List α) : List (Nat × α) := (List.range xs.length).map fun i => (i, xs.getD i z)
theorem plc_len (z : α) (xs : List α) : (plc z xs).length = xs.length := by simp [plc]
theorem plc_get (z : α) (xs : List α) (i : Nat) (x : α) (hx : xs[i]? = some x) : (plc z xs)[i]? = some (i, x) := by
  obtain ⟨hi, rfl⟩ := List.getElem?_eq_some_iff.1 hx
  simp [plc, hi]
theorem plc_next (z : α) (xs : List α) (i : Nat) (x : α) (hx : xs[i]? = some x) : (plc z xs).take i ++ [(i, x)] = (plc z xs).take (i + 1) := by
  have h := plc_get z xs i x hx
  obtain ⟨hi, he⟩ := List.getElem?_eq_some_iff.1 h
  rw [List.take_succ_eq_append_getElem hi, he]
theorem plc_pre {z : α} {xs : List α} {pre : List (Nat × α)} {y : Nat × α} (h : pre ++ [y] <+: plc z xs) : y.1 = pre.length ∧ xs[pre.length]? = some y.2 := by
  obtain ⟨t, ht⟩ := h
  have hl : pre.length < (plc z xs).length := by rw [← ht, List.length_append, List.length_append, List.length_singleton]; omega
  have hg : (plc z xs)[pre.length]? = some y := by rw [← ht, List.append_assoc, List.getElem?_append_right (Nat.le_refl _), Nat.sub_self]; rfl
  rw [plc_len] at hl
  rw [plc_get z xs pre.length _ (List.getElem?_eq_getElem hl)] at hg
  obtain rfl := Option.some.inj hg
  exact ⟨rfl, List.getElem?_eq_getElem hl⟩
/-! A load, a store, as operations. -/
theorem exec_load_by {P : Program} {a : Act} {o : Oper} {w : World} (ty : TypeId) (x : Operand) (ho : o.op = .load ty x) (ad : Addr) (hx : a.eval x = .pointer (some ad)) {v : Value} (h : (loadVar ty ad).run P w = .ok v w) : (execOp a.eval o).run P w = .ok (.value v) w := by
  unfold execOp
  simp only [ho, hx, Instr.loadAt, Instr.sureAddr, Sem.run_bind, Sem.run_pure, Result.andThen_ok, h]
theorem exec_index_by {P : Program} {a : Act} {o : Oper} {w : World} (t : TypeId) (x y : Operand) (ho : o.op = .indexAddr t x y) (V I : Value) (hx : a.eval x = V) (hy : a.eval y = I) (ad : Addr) (h : (Instr.indexAt t V I).run P w = .ok (.pointer (some ad)) w) : (execOp a.eval o).run P w = .ok (.value (.pointer (some ad))) w := by
  simp [execOp, ho, hx, hy, h, Result.andThen]
theorem exec_slice_by {P : Program} {a : Act} {o : Oper} {w : World} (t : TypeId) (x y z : Operand) (ho : o.op = .slice t x (some y) (some z) none) {e : TypeId} (ht : P.underlying t = some (.slice e)) (V I J : Value) (hx : a.eval x = V) (hy : a.eval y = I) (hz : a.eval z = J) {R : Value} (h : (Instr.slice t V (some I) (some J) none).run P w = .ok R w) : (execOp a.eval o).run P w = .ok (.value R) w := by
  have hs : (Instr.sliceAt t V (some I) (some J) none).run P w = .ok R w := by
    unfold Instr.sliceAt
    rw [Sem.run_bind, run_underlying ht]
    exact h
  simp only [execOp, ho, hx, hy, hz, Option.map_some, Option.map_none, Sem.run_bind, hs, Sem.run_pure, Result.andThen_ok]
theorem exec_clear_by {P : Program} {a : Act} {o : Oper} {w w' : World} (t : TypeId) (x : Operand) (ho : o.op = .call { callee := .builtin .clear, args := #[x], argTypes := #[t] }) (V : Value) (hx : a.eval x = V) {R : Value} (h : (Builtin.clear_ #[t] o.type #[V]).run P w = .ok R w') : (execOp a.eval o).run P w = .ok (.value R) w' := by
  simp only [execOp, ho, resolve, invoke, builtin, Sem.run_bind, Sem.run_pure, Result.andThen_ok, List.map_toArray, List.map_cons, List.map_nil, hx, h]
theorem exec_store_by {P : Program} {a : Act} {o : Oper} {w w' : World} (ty : TypeId) (x y : Operand) (ho : o.op = .store ty x y) (ad : Addr) (hx : a.eval x = .pointer (some ad)) {v : Value} (hy : a.eval y = v) (h : (storeVar ty ad v).run P w = .ok () w') : (execOp a.eval o).run P w = .ok .skip w' := by
  unfold execOp
  simp only [ho, hx, hy, Instr.storeAt, Instr.sureAddr, Sem.run_bind, Sem.run_pure, Result.andThen_ok, h]
end Go.Proofs.YtfdbmbgpcioogaaGreatDoor
/- The frame by footprints: a thing whose blocks were F is one of F' now; two things side by side. Over any program. -/
namespace Go.Proofs.YtfdbmbgpcioogaaGreatDoor
open Go.RowKit

/-- A thing whose blocks were F is one of F' now: nothing else that there was has turned. -/
structure Moves (F F' : Nat → Prop) (w w' : World) : Prop where
  os : w'.os = w.os
  tape : w'.tape = w.tape
  output : w'.output = w.output
  size : w.heap.size ≤ w'.heap.size
  foot : ∀ k, F' k → F k ∨ w.heap.size ≤ k
  rest : ∀ k, k < w.heap.size → ¬ F k → w'.heap[k]? = w.heap[k]?
section
variable {F F' F'' G : Nat → Prop} {w w' w'' : World} {n : Nat}
theorem Moves.of_below (h : Below w.heap.size w w') : Moves F F w w' := ⟨h.os, h.tape, h.output, h.size, fun _ hk => .inl hk, fun k hk _ => h.block k hk⟩
theorem Moves.refl (F : Nat → Prop) (w : World) : Moves F F w w := ⟨rfl, rfl, rfl, Nat.le_refl _, fun _ hk => .inl hk, fun _ _ _ => rfl⟩
theorem Moves.trans (h : Moves F F' w w') (k : Moves F' F'' w' w'') : Moves F F'' w w'' :=
  ⟨k.os.trans h.os, k.tape.trans h.tape, k.output.trans h.output, Nat.le_trans h.size k.size, fun j hj => by
    rcases k.foot j hj with h1 | h1
    · exact h.foot j h1
    · have := h.size; exact .inr (by omega), fun j hj hn => (k.rest j (Nat.lt_of_lt_of_le hj h.size) (fun hf => by
      rcases h.foot j hf with h1 | h1
      · exact hn h1
      · omega)).trans (h.rest j hj hn)⟩
/-- What lies apart stays as it is, and apart. -/
theorem Moves.apart (h : Moves F F' w w') (hG : ∀ k, G k → k < w.heap.size ∧ ¬ F k) : (∀ k, G k → w'.heap[k]? = w.heap[k]?) ∧ ∀ k, G k → k < w'.heap.size ∧ ¬ F' k :=
  ⟨fun k hk => h.rest k (hG k hk).1 (hG k hk).2, fun k hk => ⟨Nat.lt_of_lt_of_le (hG k hk).1 h.size, fun hf => by
    rcases h.foot k hf with h1 | h1
    · exact (hG k hk).2 h1
    · have := (hG k hk).1; omega⟩⟩
theorem Moves.below (h : Moves F F' w w') (hF : ∀ k, F k → n ≤ k) (hn : n ≤ w.heap.size) : Below n w w' :=
  ⟨h.os, h.tape, h.output, h.size, fun k hk => h.rest k (by omega) (fun hf => by have := hF k hf; omega)⟩
theorem Row.moves {b : Nat} {cs : Array Value} {t : TypeId} (hr : Row w b cs t) (h : Moves F F' w w') (hn : ¬ F b) : Row w' b cs t := by
  unfold Row; rw [h.rest b hr.lt hn]; exact hr
/-- All that it may turn lies from n on. -/
theorem Moves.from (h : Moves F F' w w') (hF : ∀ k, F k → n ≤ k) (hn : n ≤ w.heap.size) : ∀ k, F' k → n ≤ k := fun k hk => by
  rcases h.foot k hk with h1 | h1
  · exact hF k h1
  · omega
end
end Go.Proofs.YtfdbmbgpcioogaaGreatDoor
/- Structs appended to a slice of one's own; rows of fields. -/
namespace Go.Proofs.YtfdbmbgpcioogaaGreatDoor
open Go.RowKit
attribute [local go_sem] store_one S_match S_store

/-- A type whose values take k cells. -/
def EleK (P : Program) (e : TypeId) (k : Nat) : Prop := ∃ i z, P.info? e = some i ∧ i.zero = some z ∧ i.size = k ∧ i.bytes ≤ 4096 ∧ z.cells.size = k
theorem eleK_of {P : Program} {e : TypeId} {z : Value} {k n : Nat} (h : (P.info? e).map (fun i => (i.zero, i.size, i.bytes)) = some (some z, k, n)) (hn : n ≤ 4096) (hz : z.cells.size = k) : EleK P e k := by
  cases hi : P.info? e with
  | none => rw [hi] at h; cases h
  | some i =>
    rw [hi] at h
    simp only [Option.map_some, Option.some.injEq, Prod.mk.injEq] at h
    exact ⟨i, z, hi, h.1, h.2.1, by rw [h.2.2]; exact hn, hz⟩
section
variable {P : Program} {ops : Array Oper} {rest : List Oper} {o : Oper} {a : Act} {w : World} {Q : Exit → Act → World → Prop}
/-- One struct, laid in a block of its own and appended. -/
theorem wpList_addK (hgd : o.guard = none) (t e : TypeId) (s x : Operand) (ho : o.op = .call { callee := .builtin .append, args := #[s, x], argTypes := #[t, t] }) (ht : P.underlying t = some (.slice e)) {k : Nat} (he : EleK P e k) (hk : 0 < k) (base : Nat) (W : World)
    (v : Value) (hs : a.eval s = v) (n : Nat) (xs : List Value) (hown : W.ownsRow base e k v n xs) (cs : Array Value) (hcs : cs.size = k) (h1 : ∀ u ∈ cs.toList, u.oneCell' = true) (hw : w = W.alloc (.cells cs e)) (H : Nat) (hH : W.heap.size = H) (hx : a.eval x = .slice (some ⟨H, 0, none⟩) 1 1)
    (hlen : n < 1000000) (hbase : base ≤ W.heap.size)
    (h : ∀ g cap w', w'.ownsRow base e k (.slice (some ⟨g, 0, none⟩) (n + 1) cap) (n + 1) (xs ++ cs.toList) → W.grownBy w' v.ownBlock → wpList P ops Q rest (a.put o.dst (.slice (some ⟨g, 0, none⟩) (n + 1) cap)) w') : wpList P ops Q (o :: rest) a w := by
  subst hw hH
  obtain ⟨i, z, hi, hz, hsz, hby, hzs⟩ := he
  have hr := row_new W cs e
  have hnews : ∀ j u, cs.toList[j]? = some u → (W.alloc (.cells cs e)).cell? ((⟨W.heap.size, 0, none⟩ : Addr).add j) = some u := fun j u hu => by
    rw [Addr.add_mid]
    simp only [Nat.zero_add]
    rw [cell_of_row _ _ j _ _ _ hr]
    simpa using hu
  refine wpList_append_lies _ hgd s x t ho base e i z k i.bytes ht hi hz hsz rfl hzs hk v n xs hs (hown.alloc _) ⟨W.heap.size, 0, none⟩ 1 1 cs.toList hx (by rw [Array.length_toList, hcs, Nat.one_mul]) hnews h1 (by omega) (by simp [maxLen]; omega) ?_ (by rw [alloc_size]; omega) _ rfl ?_
  · have : (n + 1) * i.bytes ≤ 1000000 * 4096 := Nat.mul_le_mul (by omega) hby
    omega
  · intro g cap w' h2 h3 _ _
    exact h _ _ w' h2 ⟨h3.os, h3.tape, h3.output, Nat.le_trans (by simp) h3.size, fun k hk hn => (h3.block k (by rw [alloc_size]; omega) hn).trans (heap_alloc_old W _ hk)⟩
end
/-- Three results, the first one in a variable of its own. -/
theorem results_row_two {P : Program} {fn : Func} {p u v : Tmp} {ty : TypeId} (h : fn.results = #[.cell p ty, .tmp u, .tmp v]) (tmps : Array Value) (w : World) (g : Nat) (t : TypeId) (cs : Array Value) (fr : Nat × Nat) (d : TypeDesc)
    (hp : tmps.getD p undef = .pointer (some ⟨g, 0, none⟩)) (hg : w.heap[g]? = some (.cells cs t fr))
    (hu : P.underlying ty = some d) (hd : (match d with | .struct _ | .array _ _ => true | _ => false) = true) (hi : (P.info? ty).map (·.size) = some cs.size) :
    (results fn tmps).run P w = .ok (.tuple #[.agg cs, tmps.getD u undef, tmps.getD v undef]) w := by
  have hp' : tmps[p]?.getD undef = .pointer (some ⟨g, 0, none⟩) := by simpa using hp
  simp [results, h, hp', asAddr, run_loadVar_row w g t ty cs fr d hg hu hd hi]

def fcells (fs : List (List UInt8 × List UInt8)) : List Value := fs.flatMap fun f => [S f.1, S f.2]
theorem fcells_snoc (fs : List (List UInt8 × List UInt8)) (f : List UInt8 × List UInt8) : fcells (fs ++ [f]) = fcells fs ++ [S f.1, S f.2] := by
  unfold fcells; rw [List.flatMap_append]; simp
theorem eleF : EleK Tryz.prog 35 2 := eleK_of (z := .agg #[.string ⟨#[]⟩, .string ⟨#[]⟩]) (n := 32) (by kernel_rfl) (by omega) rfl
theorem eq_self (p : List UInt8) (w : World) : (Op.equalIn 9999 9 (S p) (S p)).run Tryz.prog w = .ok true w := by
  unfold S
  rw [run_equalIn_string w 9998 9 _ _ Tryz.underlying9, beq_self_eq_true]
theorem fcells_get : ∀ (fs : List (List UInt8 × List UInt8)) (i : Nat) (f : List UInt8 × List UInt8), fs[i]? = some f → (fcells fs)[i * 2]? = some (S f.1) ∧ (fcells fs)[i * 2 + 1]? = some (S f.2)
  | [], i, f, h => by simp at h
  | g :: fs, 0, f, h => by
    simp only [List.getElem?_cons_zero, Option.some.injEq] at h
    subst h
    exact ⟨rfl, rfl⟩
  | g :: fs, i + 1, f, h => by
    rw [List.getElem?_cons_succ] at h
    have ih := fcells_get fs i f h
    have e : fcells (g :: fs) = S g.1 :: S g.2 :: fcells fs := rfl
    rw [e, show (i + 1) * 2 = i * 2 + 1 + 1 by omega, List.getElem?_cons_succ, List.getElem?_cons_succ, List.getElem?_cons_succ, List.getElem?_cons_succ]
    exact ih
/-- A row of fields, as it is read. -/
structure FldsAt (w : World) (V : Value) (fs : List (List UInt8 × List UInt8)) (g : Nat) : Prop where
  len : ∀ T w', (Builtin.len_ #[22] T #[V]).run Tryz.prog w' = .ok (.int .i64 (fs.length : Int)) w'
  index : ∀ i, i < fs.length → ∀ w', (Instr.indexAt 22 V (.int .i64 (i : Int))).run Tryz.prog w' = .ok (.pointer (some ⟨g, i * 2, none⟩)) w'
  cell : ∀ i f, fs[i]? = some f → w.cell? ⟨g, i * 2, none⟩ = some (S f.1) ∧ w.cell? ⟨g, i * 2 + 1, none⟩ = some (S f.2)
  form : ∃ a c, V = .slice a fs.length c
theorem FldsAt.below {w w' : World} {V : Value} {fs : List (List UInt8 × List UInt8)} {g : Nat} (h : FldsAt w V fs g) (hb : Below w.heap.size w w') : FldsAt w' V fs g :=
  ⟨h.len, h.index, fun i f hf => by
    obtain ⟨h1, h2⟩ := h.cell i f hf
    exact ⟨by rw [hb.cell (World.block_lt_of_cell? w _ h1)]; exact h1, by rw [hb.cell (World.block_lt_of_cell? w _ h2)]; exact h2⟩, h.form⟩
theorem flds_at {w : World} {base : Nat} {V : Value} {fs : List (List UInt8 × List UInt8)} (h : w.ownsRow base 35 2 V fs.length (fcells fs)) : ∃ g, FldsAt w V fs g ∧ (fs = [] ∨ (base ≤ g ∧ g < w.heap.size)) := by
  rcases h.2 with ⟨rfl, h0⟩ | ⟨g, cap, cur, rfl, hb, hg, hn, hm, hs, ht⟩
  · have : fs = [] := List.length_eq_zero_iff.1 h0
    subst this
    refine ⟨0, ⟨fun T w' => by simp [Builtin.len_, run_underlying Tryz.underlying22, Result.andThen, goInt], fun i hi => absurd hi (by simp), fun i f hf => (by simp at hf), ⟨none, 0, rfl⟩⟩, .inl rfl⟩
  · refine ⟨g, ⟨fun T w' => by simp [Builtin.len_, run_underlying Tryz.underlying22, Result.andThen, goInt], fun i hi w' => ?_, fun i f hf => ?_, ⟨_, _, rfl⟩⟩, .inr ⟨hb, (Array.getElem?_eq_some_iff.1 hg).1⟩⟩
    · have := run_index_at (P := Tryz.prog) Tryz.underlying22 (fun w => Tryz.sizeOf35 w) g 0 fs.length cap i hi w'
      rwa [Nat.zero_add] at this
    · obtain ⟨h1, h2⟩ := fcells_get fs i f hf
      rw [← ht] at h1 h2
      have hi := (List.getElem?_eq_some_iff.1 hf).1
      have hrow : ∀ j u, (cur.toList.take (fs.length * 2))[j]? = some u → w.cell? ⟨g, j, none⟩ = some u := fun j u hu => by
        rw [cell_of_row w g j cur 35 (0, 0) hg]
        rw [List.getElem?_take] at hu
        split at hu
        · simpa using hu
        · cases hu
      exact ⟨hrow _ _ h1, hrow _ _ h2⟩
section
variable {P : Program} {ops : Array Oper} {rest : List Oper} {o : Oper} {a : Act} {w : World} {Q : Exit → Act → World → Prop}
/-- One struct, laid in a block of its own and appended; where it lies then. -/
theorem wpList_addL (hgd : o.guard = none) (t e : TypeId) (s x : Operand) (ho : o.op = .call { callee := .builtin .append, args := #[s, x], argTypes := #[t, t] }) (ht : P.underlying t = some (.slice e)) {k : Nat} (he : EleK P e k) (hk : 0 < k) (base : Nat) (W : World)
    (v : Value) (hs : a.eval s = v) (n : Nat) (xs : List Value) (hown : W.ownsRow base e k v n xs) (cs : Array Value) (hcs : cs.size = k) (h1 : ∀ u ∈ cs.toList, u.oneCell' = true) (hw : w = W.alloc (.cells cs e)) (H : Nat) (hH : W.heap.size = H) (hx : a.eval x = .slice (some ⟨H, 0, none⟩) 1 1)
    (hlen : n < 1000000) (hbase : base ≤ W.heap.size)
    (h : ∀ g cap w', w'.ownsRow base e k (.slice (some ⟨g, 0, none⟩) (n + 1) cap) (n + 1) (xs ++ cs.toList) → W.grownBy w' v.ownBlock → (v.ownBlock = some g ∨ W.heap.size ≤ g) → g < w'.heap.size → wpList P ops Q rest (a.put o.dst (.slice (some ⟨g, 0, none⟩) (n + 1) cap)) w') : wpList P ops Q (o :: rest) a w := by
  subst hw hH
  obtain ⟨i, z, hi, hz, hsz, hby, hzs⟩ := he
  have hr := row_new W cs e
  have hnews : ∀ j u, cs.toList[j]? = some u → (W.alloc (.cells cs e)).cell? ((⟨W.heap.size, 0, none⟩ : Addr).add j) = some u := fun j u hu => by
    rw [Addr.add_mid]
    simp only [Nat.zero_add]
    rw [cell_of_row _ _ j _ _ _ hr]
    simpa using hu
  refine wpList_append_lies _ hgd s x t ho base e i z k i.bytes ht hi hz hsz rfl hzs hk v n xs hs (hown.alloc _) ⟨W.heap.size, 0, none⟩ 1 1 cs.toList hx (by rw [Array.length_toList, hcs, Nat.one_mul]) hnews h1 (by omega) (by simp [maxLen]; omega) ?_ (by rw [alloc_size]; omega) _ rfl ?_
  · have : (n + 1) * i.bytes ≤ 1000000 * 4096 := Nat.mul_le_mul (by omega) hby
    omega
  · intro g cap w' h2 h3 h4 h5
    exact h _ _ w' h2 ⟨h3.os, h3.tape, h3.output, Nat.le_trans (by simp) h3.size, fun k hk hn => (h3.block k (by rw [alloc_size]; omega) hn).trans (heap_alloc_old W _ hk)⟩ (h4.imp id fun h => by rw [h, alloc_size]; omega) h5
end
theorem own_same {w w' : World} {base : Nat} {e : TypeId} {k n : Nat} {v : Value} {xs : List Value} (h : w.ownsRow base e k v n xs) (hb : ∀ j, v.ownBlock = some j → w'.heap[j]? = w.heap[j]?) : w'.ownsRow base e k v n xs := by
  refine ⟨h.1, ?_⟩
  rcases h.2 with h2 | ⟨g, cap, cur, rfl, h3, h4, h5⟩
  · exact .inl h2
  · exact .inr ⟨g, cap, cur, rfl, h3, (hb g rfl).trans h4, h5⟩
theorem FldsAt.same {w w' : World} {V : Value} {fs : List (List UInt8 × List UInt8)} {g : Nat} (h : FldsAt w V fs g) (hb : fs ≠ [] → w'.heap[g]? = w.heap[g]?) : FldsAt w' V fs g :=
  ⟨h.len, h.index, fun i f hf => by
    have hne : fs ≠ [] := fun e => by rw [e] at hf; simp at hf
    obtain ⟨h1, h2⟩ := h.cell i f hf
    exact ⟨by rw [World.cell?_of_block (w := w) (hb hne)]; exact h1, by rw [World.cell?_of_block (w := w) (hb hne)]; exact h2⟩, h.form⟩
theorem flds_nil (w : World) (g : Nat) : FldsAt w (.slice none 0 0) [] g :=
  ⟨fun T w' => by simp [Builtin.len_, run_underlying Tryz.underlying22, Result.andThen, goInt], fun i hi => absurd hi (by simp), fun i f hf => (by simp at hf), ⟨none, 0, rfl⟩⟩

theorem set_grown (W : World) (b o : Nat) (v : Value) : W.grownBy (W.setCell ⟨b, o, none⟩ v) (some b) := by
  obtain ⟨h1, h2, h3, h4, h5⟩ := Keeps.setCell (b := b) W o v
  exact ⟨h1, h2, h3, h4, fun k hk hn => h5 k hk (fun e => hn (by rw [e]))⟩
theorem row_own_set {W : World} {base b o : Nat} {e : TypeId} {k n : Nat} {v x : Value} {xs : List Value} (h : W.ownsRow base e k v n xs) (hb : b < base) : (W.setCell ⟨b, o, none⟩ x).ownsRow base e k v n xs := by
  refine h.kept (set_grown W b o x) ?_
  cases hv : v.ownBlock with
  | none => exact .inl rfl
  | some g =>
    right
    intro e
    have := (h.lt g hv).1
    cases e
    omega
theorem own_weak {W : World} {base base' : Nat} {e : TypeId} {k n : Nat} {v : Value} {xs : List Value} (h : W.ownsRow base e k v n xs) (hb : base' ≤ base) : W.ownsRow base' e k v n xs := by
  refine ⟨h.1, ?_⟩
  rcases h.2 with hn | ⟨g, cap, cur, h1, h2, h3⟩
  · exact .inl hn
  · exact .inr ⟨g, cap, cur, h1, by omega, h3⟩
theorem own_below {W W' : World} {base : Nat} {e : TypeId} {k n : Nat} {v : Value} {xs : List Value} (h : W.ownsRow base e k v n xs) (hb : Below W.heap.size W W') : W'.ownsRow base e k v n xs := by
  refine ⟨h.1, ?_⟩
  rcases h.2 with hn | ⟨g, cap, cur, h1, h2, h3, h4⟩
  · exact .inl hn
  · have hlt : g < W.heap.size := (Array.getElem?_eq_some_iff.1 h3).1
    exact .inr ⟨g, cap, cur, h1, h2, by rw [hb.block g hlt]; exact h3, h4⟩
/-- A row of fields, wherever it lies in its block. -/
structure FA (w : World) (V : Value) (fs : List (List UInt8 × List UInt8)) (b o : Nat) : Prop where
  len : ∀ T w', (Builtin.len_ #[22] T #[V]).run Tryz.prog w' = .ok (.int .i64 (fs.length : Int)) w'
  index : ∀ i, i < fs.length → ∀ w', (Instr.indexAt 22 V (.int .i64 (i : Int))).run Tryz.prog w' = .ok (.pointer (some ⟨b, o + i * 2, none⟩)) w'
  cell : ∀ i f, fs[i]? = some f → w.cell? ⟨b, o + i * 2, none⟩ = some (S f.1) ∧ w.cell? ⟨b, o + i * 2 + 1, none⟩ = some (S f.2)
  form : ∃ a c, V = .slice a fs.length c
theorem FA.below {w w' : World} {V : Value} {fs : List (List UInt8 × List UInt8)} {b o : Nat} (h : FA w V fs b o) (hb : Below w.heap.size w w') : FA w' V fs b o :=
  ⟨h.len, h.index, fun i f hf => by
    obtain ⟨h1, h2⟩ := h.cell i f hf
    exact ⟨by rw [hb.cell (World.block_lt_of_cell? w _ h1)]; exact h1, by rw [hb.cell (World.block_lt_of_cell? w _ h2)]; exact h2⟩, h.form⟩
theorem FldsAt.fa {w : World} {V : Value} {fs : List (List UInt8 × List UInt8)} {g : Nat} (h : FldsAt w V fs g) : FA w V fs g 0 :=
  ⟨h.len, fun i hi w' => by rw [Nat.zero_add]; exact h.index i hi w', fun i f hf => by rw [Nat.zero_add]; exact h.cell i f hf, h.form⟩
end Go.Proofs.YtfdbmbgpcioogaaGreatDoor
/- Fields as list functions: tokens, values, lines, parts; the landed ones and the document's are the same. -/
namespace Go.Proofs.YtfdbmbgpcioogaaGreatDoor
open Go.RowKit

/-- A token's characters. -/
def tokAll : List UInt8 := [65, 66, 67, 68, 69, 70, 71, 72, 73, 74, 75, 76, 77, 78, 79, 80, 81, 82, 83, 84, 85, 86, 87, 88, 89, 90, 97, 98, 99, 100, 101, 102, 103, 104, 105, 106, 107, 108, 109, 110, 111, 112, 113, 114, 115, 116, 117, 118, 119, 120, 121, 122, 48, 49, 50, 51, 52, 53, 54, 55, 56, 57, 33, 35, 36, 37, 38, 39, 42, 43, 45, 46, 94, 95, 96, 124, 126]
def tokB (c : UInt8) : Bool := tokAll.contains c
theorem take_contains {l : List UInt8} {i : Nat} {x c : UInt8} (hx : l[i]? = some x) (hn : (l.take i).contains c = false) : (l.take (i + 1)).contains c = (x == c) := by
  obtain ⟨h, rfl⟩ := List.getElem?_eq_some_iff.1 hx
  rw [List.take_succ_eq_append_getElem h, List.contains_eq_any_beq, List.any_append, ← List.contains_eq_any_beq, hn]
  simp [Bool.beq_comm]
theorem beqB (x c : UInt8) : ((x.toNat : Int) == (c.toNat : Int)) = (x == c) := by
  rw [Bool.eq_iff_iff, beq_iff_eq, beq_iff_eq]
  exact ⟨fun h => UInt8.toNat_inj.1 (by omega), fun h => by rw [h]⟩
/-- A great letter as the small one. -/
def lowB (c : UInt8) : UInt8 := if 65 ≤ c.toNat ∧ c.toNat ≤ 90 then c + 32 else c
def tokF (s : List UInt8) : Bool := s.all tokB && decide (0 < s.length)
theorem all_take_next {p : UInt8 → Bool} {s : List UInt8} {i : Nat} {c : UInt8} (hc : s[i]? = some c) (h : (s.take i).all p = true) : (s.take (i + 1)).all p = p c := by
  obtain ⟨hi, rfl⟩ := List.getElem?_eq_some_iff.1 hc
  rw [List.take_succ_eq_append_getElem hi, List.all_append, h]; simp
theorem all_of_take {p : UInt8 → Bool} {s : List UInt8} {i : Nat} (h : (s.take i).all p = false) : s.all p = false := by
  rw [← List.take_append_drop i s, List.all_append, h, Bool.false_and]
def blankB (c : UInt8) : Bool := c.toNat == 9 || c.toNat == 32
def bareF (s : List UInt8) : List UInt8 := ((s.dropWhile blankB).reverse.dropWhile blankB).reverse
theorem bareF_front {c : UInt8} {r : List UInt8} (h : blankB c = true) : bareF (c :: r) = bareF r := by unfold bareF; rw [List.dropWhile_cons, if_pos h]
/-- From behind, where nothing is to be struck at the front. -/
def backF (s : List UInt8) : List UInt8 := (s.reverse.dropWhile blankB).reverse
theorem backF_end {s : List UInt8} {c : UInt8} (h : blankB c = true) : backF (s ++ [c]) = backF s := by unfold backF; rw [List.reverse_append, List.reverse_singleton, List.singleton_append, List.dropWhile_cons, if_pos h]
theorem backF_stop {s : List UInt8} {c : UInt8} (h : blankB c = false) : backF (s ++ [c]) = s ++ [c] := by
  unfold backF
  rw [List.reverse_append, List.reverse_singleton, List.singleton_append, List.dropWhile_cons, if_neg (by rw [h]; exact Bool.false_ne_true)]
  simp
theorem bareF_stop {c : UInt8} {r : List UInt8} (h : blankB c = false) : bareF (c :: r) = backF (c :: r) := by
  unfold bareF backF; rw [List.dropWhile_cons, if_neg (by rw [h]; exact Bool.false_ne_true)]
def alikeF (a b : List UInt8) : Bool := a.map lowB == b.map lowB
theorem alike_len {a b : List UInt8} (h : a.length ≠ b.length) : alikeF a b = false := by
  unfold alikeF
  rw [beq_eq_false_iff_ne]
  intro e
  have := congrArg List.length e
  rw [List.length_map, List.length_map] at this
  exact h this
theorem map_take_next {a b : List UInt8} {i : Nat} {x y : UInt8} (hx : a[i]? = some x) (hy : b[i]? = some y) (h : (a.take i).map lowB = (b.take i).map lowB) (e : lowB x = lowB y) : (a.take (i + 1)).map lowB = (b.take (i + 1)).map lowB := by
  obtain ⟨hi, rfl⟩ := List.getElem?_eq_some_iff.1 hx
  obtain ⟨hj, rfl⟩ := List.getElem?_eq_some_iff.1 hy
  rw [List.take_succ_eq_append_getElem hi, List.take_succ_eq_append_getElem hj, List.map_append, List.map_append, h, List.map_singleton, List.map_singleton, e]
theorem alike_stop {a b : List UInt8} {i : Nat} {x y : UInt8} (hx : a[i]? = some x) (hy : b[i]? = some y) (e : lowB x ≠ lowB y) : alikeF a b = false := by
  unfold alikeF
  rw [beq_eq_false_iff_ne]
  intro h
  have h1 := congrArg (fun l => l[i]?) h
  simp only [List.getElem?_map, hx, hy, Option.map_some, Option.some.injEq] at h1
  exact e h1
def badB (c : UInt8) : Bool := (c.toNat != 9) && (decide (c.toNat < 32) || c.toNat == 127)
def nameLen (s : List UInt8) : Nat := (s.takeWhile tokB).length
/-- A line's name, value, and whether it is a field's. -/
def parseF (s : List UInt8) : List UInt8 × List UInt8 × Bool :=
  if nameLen s = 0 ∨ s[nameLen s]? ≠ some 58 ∨ (s.drop (nameLen s + 1)).any badB = true then ([], [], false)
  else (s.take (nameLen s), bareF (s.drop (nameLen s + 1)), true)
def parseV (p : List UInt8 × List UInt8 × Bool) : Value := .tuple #[.agg #[S p.1, S p.2.1], .bool p.2.2]
theorem nameLen_stop {s : List UInt8} {i : Nat} (h : (s.take i).all tokB = true) (hi : i ≤ s.length) (hc : ∀ c, s[i]? = some c → tokB c = false) : nameLen s = i := by
  have e : s = s.take i ++ s.drop i := (List.take_append_drop i s).symm
  have h1 : s.takeWhile tokB = s.take i := by
    rw [e, List.takeWhile_append_of_pos (by simpa using h)]
    have h2 : (s.drop i).takeWhile tokB = [] := by
      cases hd : s.drop i with
      | nil => rfl
      | cons c r =>
        have hcc := hc c (by
          have := congrArg (fun l => l[0]?) hd
          simpa using this)
        rw [List.takeWhile_cons, hcc]; rfl
    rw [h2, List.append_nil, List.take_append_drop]
  unfold nameLen
  rw [h1, List.length_take]; omega
theorem any_drop_next {s : List UInt8} {n i : Nat} {c : UInt8} (hc : s[i]? = some c) (hn : n ≤ i) (h : ((s.drop n).take (i - n)).any badB = false) : ((s.drop n).take (i + 1 - n)).any badB = badB c := by
  have hc2 : (s.drop n)[i - n]? = some c := by rw [List.getElem?_drop, show n + (i - n) = i by omega]; exact hc
  obtain ⟨hi, rfl⟩ := List.getElem?_eq_some_iff.1 hc2
  rw [show i + 1 - n = (i - n) + 1 by omega, List.take_succ_eq_append_getElem hi, List.any_append, h, Bool.false_or]; simp
theorem any_of_take {l : List UInt8} {i : Nat} (h : (l.take i).any badB = true) : l.any badB = true := by
  rw [← List.take_append_drop i l, List.any_append, h, Bool.true_or]
theorem dropWhile_le (p : UInt8 → Bool) (l : List UInt8) : (l.dropWhile p).length ≤ l.length := (List.dropWhile_sublist (p := p)).length_le
theorem bareF_le (s : List UInt8) : (bareF s).length ≤ s.length := by
  unfold bareF
  rw [List.length_reverse]
  have h1 := dropWhile_le blankB (s.dropWhile blankB).reverse
  rw [List.length_reverse] at h1
  have h2 := dropWhile_le blankB s
  omega
theorem taken_all {p : UInt8 → Bool} {s : List UInt8} : ∀ c ∈ s.takeWhile p, p c = true := by
  induction s with
  | nil => intro c hc; cases hc
  | cons a t ih =>
    intro c hc
    rw [List.takeWhile_cons] at hc
    split at hc
    · rename_i ha
      rcases List.mem_cons.1 hc with rfl | h
      · exact ha
      · exact ih c h
    · cases hc
theorem drop_blank {p s : List UInt8} (h : p.all blankB = true) : (p ++ s).dropWhile blankB = s.dropWhile blankB := List.dropWhile_append_of_pos (fun a ha => List.all_eq_true.1 h a ha)
theorem drop_all {p : List UInt8} (h : p.all blankB = true) : p.dropWhile blankB = [] := by
  have := drop_blank (s := []) h
  rwa [List.append_nil] at this
theorem bare_front {p s : List UInt8} (h : p.all blankB = true) : bareF (p ++ s) = bareF s := by unfold bareF; rw [drop_blank h]
theorem drop_some {s : List UInt8} (h : s.dropWhile blankB ≠ []) (q : List UInt8) : (s ++ q).dropWhile blankB = s.dropWhile blankB ++ q := by
  induction s with
  | nil => exact absurd rfl h
  | cons c r ih =>
    rw [List.cons_append, List.dropWhile_cons, List.dropWhile_cons]
    rw [List.dropWhile_cons] at h
    split
    · rename_i hc
      rw [if_pos hc] at h
      exact ih h
    · rfl
theorem bare_back {s q : List UInt8} (h : q.all blankB = true) : bareF (s ++ q) = bareF s := by
  by_cases hs : s.dropWhile blankB = []
  · have hall : s.all blankB = true := by
      rw [List.all_eq_true]
      intro c hc
      have := List.takeWhile_append_dropWhile (p := blankB) (l := s)
      rw [hs, List.append_nil] at this
      rw [← this] at hc
      exact taken_all c hc
    rw [bare_front hall]
    unfold bareF
    rw [drop_all h, hs]
  · unfold bareF
    rw [drop_some hs, List.reverse_append, drop_blank (by rw [List.all_reverse]; exact h)]
/-- No blanks at the ends. -/
structure Clean (v : List UInt8) : Prop where
  first : ∀ c r, v = c :: r → blankB c = false
  last : ∀ r c, v = r ++ [c] → blankB c = false
theorem head_drop {s : List UInt8} {c : UInt8} {r : List UInt8} (h : s.dropWhile blankB = c :: r) : blankB c = false := by
  induction s with
  | nil => cases h
  | cons a t ih =>
    rw [List.dropWhile_cons] at h
    split at h
    · exact ih h
    · rename_i hc
      cases h
      simpa using hc
theorem clean_bare (s : List UInt8) : Clean (bareF s) := by
  constructor
  · intro c r h
    unfold bareF at h
    have h1 := congrArg List.reverse h
    rw [List.reverse_reverse, List.reverse_cons] at h1
    have h2 := List.takeWhile_append_dropWhile (p := blankB) (l := (s.dropWhile blankB).reverse)
    rw [h1, ← List.append_assoc] at h2
    have h3 := congrArg List.reverse h2
    rw [List.reverse_reverse, List.reverse_append, List.reverse_singleton, List.singleton_append] at h3
    exact head_drop h3.symm
  · intro r c h
    unfold bareF at h
    have h1 := congrArg List.reverse h
    rw [List.reverse_reverse, List.reverse_append, List.reverse_singleton, List.singleton_append] at h1
    exact head_drop h1
theorem clean_self {v : List UInt8} (h : Clean v) : bareF v = v := by
  cases v with
  | nil => rfl
  | cons c r =>
    rw [bareF_stop (h.first c r rfl)]
    rcases List.eq_nil_or_concat (c :: r) with h1 | ⟨p, d, h1⟩
    · cases h1
    · rw [List.concat_eq_append] at h1
      rw [h1]
      exact backF_stop (h.last p d h1)
theorem bare_pads {p v q : List UInt8} (hp : p.all blankB = true) (hq : q.all blankB = true) (h : Clean v) : bareF (p ++ v ++ q) = v := by
  rw [bare_back hq, bare_front hp, clean_self h]
theorem bare_sub (s : List UInt8) : (bareF s).Sublist s := by
  unfold bareF
  have h1 := (List.dropWhile_sublist (p := blankB) (l := (s.dropWhile blankB).reverse)).reverse
  rw [List.reverse_reverse] at h1
  exact h1.trans (List.dropWhile_sublist (p := blankB))
theorem blank_ok {p : List UInt8} (h : p.all blankB = true) : p.any badB = false := by
  rw [List.any_eq_false]
  intro c hc
  have := List.all_eq_true.1 h c hc
  unfold blankB at this
  unfold badB
  rw [Bool.or_eq_true, beq_iff_eq, beq_iff_eq] at this
  rcases this with h1 | h1 <;> rw [h1] <;> decide
theorem any_sub {s t : List UInt8} (h : s.Sublist t) (ht : t.any badB = false) : s.any badB = false := by
  rw [List.any_eq_false] at *
  exact fun c hc => ht c (h.subset hc)
theorem colon_tok : tokB 58 = false := by decide
/-- A name, a colon, and what stands behind. -/
theorem name_of {n r : List UInt8} (h : n.all tokB = true) : nameLen (n ++ 58 :: r) = n.length := by
  refine nameLen_stop (by rw [List.take_left]; exact h) (by simp) (fun c hc => ?_)
  rw [List.getElem?_append_right (Nat.le_refl _), Nat.sub_self] at hc
  cases hc
  exact colon_tok
theorem parse_of {n r : List UInt8} (h : tokF n = true) (hr : r.any badB = false) : parseF (n ++ 58 :: r) = (n, bareF r, true) := by
  unfold tokF at h
  rw [Bool.and_eq_true, decide_eq_true_eq] at h
  have hn := name_of (r := r) h.1
  have hd : (n ++ 58 :: r).drop (n.length + 1) = r := by
    rw [List.drop_append, List.drop_of_length_le (by omega), show n.length + 1 - n.length = 1 by omega]; rfl
  unfold parseF
  rw [hn, hd, if_neg, List.take_left]
  rintro (h1 | h1 | h1)
  · omega
  · rw [List.getElem?_append_right (Nat.le_refl _), Nat.sub_self] at h1
    exact h1 rfl
  · rw [hr] at h1; cases h1
/-- What a line that is a field's says. -/
theorem parse_true {s n v : List UInt8} (h : parseF s = (n, v, true)) : tokF n = true ∧ Clean v ∧ v.any badB = false ∧ n.length ≤ s.length ∧ v.length ≤ s.length ∧ n = s.takeWhile tokB := by
  unfold parseF at h
  split at h
  · cases h
  · rename_i hn
    cases h
    have h1 : nameLen s ≠ 0 := fun e => hn (.inl e)
    have h3 : ¬ (s.drop (nameLen s + 1)).any badB = true := fun e => hn (.inr (.inr e))
    have hl : nameLen s ≤ s.length := by unfold nameLen; exact (List.takeWhile_sublist (p := tokB)).length_le
    have htk : s.take (nameLen s) = s.takeWhile tokB := by
      have e := List.takeWhile_append_dropWhile (p := tokB) (l := s)
      have : s.take (nameLen s) = (s.takeWhile tokB ++ s.dropWhile tokB).take (s.takeWhile tokB).length := by rw [e]; rfl
      rw [this, List.take_left]
    refine ⟨?_, clean_bare _, any_sub (bare_sub _) (by simpa using h3), ?_, ?_, htk⟩
    · unfold tokF
      rw [htk, Bool.and_eq_true, decide_eq_true_eq]
      exact ⟨by rw [List.all_eq_true]; exact fun c hc => taken_all c hc, by unfold nameLen at h1; omega⟩
    · rw [List.length_take]; omega
    · have := bareF_le (s.drop (nameLen s + 1))
      rw [List.length_drop] at this; omega
/-- What is left of a piece, if something is. -/
def keepF (p : List UInt8) : List (List UInt8) := if bareF p = [] then [] else [bareF p]
/-- The parts of what stands before and what is to come. -/
def ptsF : List UInt8 → List UInt8 → List (List UInt8)
  | cur, [] => keepF cur
  | cur, c :: r => if c = 44 then keepF cur ++ ptsF [] r else ptsF (cur ++ [c]) r
def partsF (s : List UInt8) : List (List UInt8) := ptsF [] s
theorem pts_comma (cur r : List UInt8) : ptsF cur (44 :: r) = keepF cur ++ ptsF [] r := by rw [ptsF, if_pos rfl]
theorem pts_more {c : UInt8} (cur r : List UInt8) (h : c ≠ 44) : ptsF cur (c :: r) = ptsF (cur ++ [c]) r := by rw [ptsF, if_neg h]
theorem keep_some {p : List UInt8} (h : bareF p ≠ []) : keepF p = [bareF p] := by rw [keepF, if_neg h]
theorem keep_none {p : List UInt8} (h : bareF p = []) : keepF p = [] := by rw [keepF, if_pos h]
theorem pts_count : ∀ (r cur : List UInt8), (ptsF cur r).length ≤ r.length + 1
  | [], cur => by rw [ptsF, keepF]; split <;> simp
  | c :: r, cur => by
    rw [ptsF]
    split
    · have := pts_count r []
      rw [List.length_append, List.length_cons]
      have h1 : (keepF cur).length ≤ 1 := by rw [keepF]; split <;> simp
      omega
    · have := pts_count r (cur ++ [c])
      rw [List.length_cons]; omega
theorem keep_le (c : List UInt8) : ∀ p ∈ keepF c, p.length ≤ c.length := by
  intro p hp
  unfold keepF at hp
  split at hp
  · cases hp
  · rw [List.mem_singleton.1 hp]; exact bareF_le c
theorem pts_le : ∀ (r cur : List UInt8), ∀ p ∈ ptsF cur r, p.length ≤ cur.length + r.length
  | [], cur, p, hp => by rw [ptsF] at hp; have := keep_le cur p hp; simp; omega
  | c :: r, cur, p, hp => by
    rw [ptsF] at hp
    split at hp
    · rcases List.mem_append.1 hp with h | h
      · have := keep_le cur p h; omega
      · have := pts_le r [] p h
        rw [List.length_nil] at this
        rw [List.length_cons]; omega
    · have := pts_le r (cur ++ [c]) p hp
      rw [List.length_append, List.length_singleton] at this
      rw [List.length_cons]; omega
theorem parts_le {s p : List UInt8} (h : p ∈ partsF s) : p.length ≤ s.length := by
  have := pts_le s [] p h
  rw [List.length_nil] at this; omega
def hasF (s w : List UInt8) : Bool := (partsF s).any fun p => alikeF p w
theorem pts_join (r : List UInt8) : ∀ (a cur : List UInt8), ptsF cur (a ++ 44 :: r) = ptsF cur a ++ partsF r
  | [], cur => by rw [List.nil_append, pts_comma]; rfl
  | c :: a, cur => by
    by_cases h : c = 44
    · subst h
      rw [List.cons_append, pts_comma, pts_comma, pts_join r a [], List.append_assoc]
    · rw [List.cons_append, pts_more _ _ h, pts_more _ _ h, pts_join r a]
theorem parts_join (a r : List UInt8) : partsF (a ++ 44 :: r) = partsF a ++ partsF r := pts_join r a []
/-- Without a comma there is one piece. -/
theorem pts_plain : ∀ (q cur : List UInt8), 44 ∉ q → ptsF cur q = keepF (cur ++ q)
  | [], cur, _ => by rw [List.append_nil]; rfl
  | c :: q, cur, h => by
    rw [List.mem_cons, not_or] at h
    rw [pts_more _ _ (fun e => h.1 e.symm), pts_plain q _ h.2, List.append_assoc, List.singleton_append]
theorem blank_comma {q : List UInt8} (h : q.all blankB = true) : 44 ∉ q := fun hm => by
  have := List.all_eq_true.1 h 44 hm
  exact absurd this (by decide)
theorem keep_back {p q : List UInt8} (h : q.all blankB = true) : keepF (p ++ q) = keepF p := by unfold keepF; rw [bare_back h]
theorem keep_front {p q : List UInt8} (h : q.all blankB = true) : keepF (q ++ p) = keepF p := by unfold keepF; rw [bare_front h]
theorem pts_back {q : List UInt8} (hq : q.all blankB = true) : ∀ (s cur : List UInt8), ptsF cur (s ++ q) = ptsF cur s
  | [], cur => by rw [List.nil_append, pts_plain _ _ (blank_comma hq), keep_back hq]; rfl
  | c :: s, cur => by
    by_cases h : c = 44
    · subst h
      rw [List.cons_append, pts_comma, pts_comma, pts_back hq s]
    · rw [List.cons_append, pts_more _ _ h, pts_more _ _ h, pts_back hq s]
theorem pts_front {q : List UInt8} (hq : q.all blankB = true) : ∀ (s cur : List UInt8), ptsF (q ++ cur) s = ptsF cur s
  | [], cur => keep_front hq
  | c :: s, cur => by
    by_cases h : c = 44
    · subst h
      rw [pts_comma, pts_comma, keep_front hq]
    · rw [pts_more _ _ h, pts_more _ _ h, List.append_assoc, pts_front hq s]
theorem pts_move : ∀ (q s cur : List UInt8), 44 ∉ q → ptsF cur (q ++ s) = ptsF (cur ++ q) s
  | [], s, cur, _ => by rw [List.append_nil]; rfl
  | c :: q, s, cur, h => by
    rw [List.mem_cons, not_or] at h
    rw [List.cons_append, pts_more _ _ (fun e => h.1 e.symm), pts_move q s _ h.2, List.append_assoc, List.singleton_append]
theorem parts_lead {q : List UInt8} (hq : q.all blankB = true) (s : List UInt8) : partsF (q ++ s) = partsF s := by
  unfold partsF
  rw [pts_move q s [] (blank_comma hq), List.nil_append]
  have := pts_front hq s []
  rwa [List.append_nil] at this
/-- The parts of two texts, with a comma and blanks between. -/
theorem parts_two (s t : List UInt8) : partsF ((s ++ [32, 44, 9]) ++ t) = partsF s ++ partsF t := by
  have e : (s ++ [32, 44, 9]) ++ t = (s ++ [32]) ++ 44 :: ([9] ++ t) := by simp
  rw [e, parts_join, show partsF (s ++ [32]) = partsF s from pts_back (q := [32]) (by decide) s [], parts_lead (q := [9]) (by decide)]
theorem parts_comma (s t : List UInt8) : partsF ((s ++ [44]) ++ t) = partsF s ++ partsF t := by
  have e : (s ++ [44]) ++ t = s ++ 44 :: t := by simp
  rw [e, parts_join]
/-- What a part is. -/
structure IsPart (p : List UInt8) : Prop where
  some : p ≠ []
  clean : Clean p
  plain : 44 ∉ p
theorem keep_part {cur : List UInt8} (h : 44 ∉ cur) : ∀ p ∈ keepF cur, IsPart p := by
  intro p hp
  unfold keepF at hp
  split at hp
  · cases hp
  · rename_i hn
    obtain rfl := List.mem_singleton.1 hp
    exact ⟨hn, clean_bare _, fun hm => h ((bare_sub cur).subset hm)⟩
theorem pts_part : ∀ (s cur : List UInt8), 44 ∉ cur → ∀ p ∈ ptsF cur s, IsPart p
  | [], cur, h => keep_part h
  | c :: s, cur, h => by
    intro p hp
    by_cases hc : c = 44
    · subst hc
      rw [pts_comma] at hp
      rcases List.mem_append.1 hp with h1 | h1
      · exact keep_part h p h1
      · exact pts_part s [] (by simp) p h1
    · rw [pts_more _ _ hc] at hp
      refine pts_part s _ (fun hm => ?_) p hp
      rcases List.mem_append.1 hm with h1 | h1
      · exact h h1
      · exact hc (List.mem_singleton.1 h1).symm
theorem parts_part {s p : List UInt8} (h : p ∈ partsF s) : IsPart p := pts_part s [] (by simp) p h
theorem part_self {p : List UInt8} (h : IsPart p) : partsF p = [p] := by
  unfold partsF
  rw [pts_plain p [] h.plain, List.nil_append, keep_some (by rw [clean_self h.clean]; exact h.some), clean_self h.clean]
/-- A token's characters that are neither letters nor digits. -/
def markL : List UInt8 := [33, 35, 36, 37, 38, 39, 42, 43, 45, 46, 94, 95, 96, 124, 126]
def inTok (n : Nat) : Bool := (decide (65 ≤ n) && decide (n ≤ 90) || decide (97 ≤ n) && decide (n ≤ 122)) || (decide (48 ≤ n) && decide (n ≤ 57)) || markL.contains (UInt8.ofNat n)
theorem tok_small : ∀ n : Fin 256, tokB (UInt8.ofNat n.1) = inTok n.1 := by decide +kernel
theorem tok_eq (c : UInt8) : tokB c = inTok c.toNat := by
  have := tok_small ⟨c.toNat, c.toNat_lt⟩
  simp only [UInt8.ofNat_toNat] at this
  exact this
/-- What may stand in a value. -/
def valB (c : UInt8) : Bool := !(badB c)
theorem index_hit {k : UInt8} : ∀ {a : List UInt8} (b : List UInt8), k ∉ a → Lib.indexByte (a ++ k :: b) k = (a.length : Int)
  | [], b, _ => by simp [Lib.indexByte]
  | c :: a, b, h => by
    have hc : (c == k) = false := beq_eq_false_iff_ne.2 (fun e => h (by rw [e]; exact List.mem_cons_self))
    have ih := index_hit (a := a) b (fun hm => h (List.mem_cons_of_mem _ hm))
    rw [List.cons_append, Lib.indexByte, hc, ih]
    have : ((a.length : Int) == -1) = false := beq_eq_false_iff_ne.2 (by omega)
    rw [this]; simp
theorem index_miss {k : UInt8} : ∀ {a : List UInt8}, k ∉ a → Lib.indexByte a k = -1
  | [], _ => rfl
  | c :: a, h => by
    have hc : (c == k) = false := beq_eq_false_iff_ne.2 (fun e => h (by rw [e]; exact List.mem_cons_self))
    have ih := index_miss (a := a) (fun hm => h (List.mem_cons_of_mem _ hm))
    rw [Lib.indexByte, hc, ih]; simp
theorem cut_cases (k : UInt8) : ∀ s : List UInt8, (∃ a b, s = a ++ k :: b ∧ k ∉ a) ∨ k ∉ s
  | [] => .inr List.not_mem_nil
  | c :: s => by
    by_cases hc : c = k
    · exact .inl ⟨[], s, by rw [hc]; rfl, List.not_mem_nil⟩
    · rcases cut_cases k s with ⟨a, b, rfl, h⟩ | h
      · exact .inl ⟨c :: a, b, rfl, fun hm => by
          rcases List.mem_cons.1 hm with e | hm
          · exact hc e.symm
          · exact h hm⟩
      · exact .inr fun hm => by
          rcases List.mem_cons.1 hm with e | hm
          · exact hc e.symm
          · exact h hm
theorem blank_in : ∀ c : UInt8, ([9, 32] : List UInt8).contains c = blankB c := fun c => by
  have : ∀ n : Fin 256, ([9, 32] : List UInt8).contains (UInt8.ofNat n.1) = blankB (UInt8.ofNat n.1) := by decide +kernel
  have := this ⟨c.toNat, c.toNat_lt⟩
  simp only [UInt8.ofNat_toNat] at this
  exact this
theorem dropWhile_nil {p : UInt8 → Bool} : ∀ {l : List UInt8}, l.dropWhile p = [] → ∀ c ∈ l, p c = true
  | [], _, c, h => by cases h
  | a :: l, h, c, hc => by
    rw [List.dropWhile_cons] at h
    split at h
    · rename_i ha
      rcases List.mem_cons.1 hc with rfl | hc
      · exact ha
      · exact dropWhile_nil h c hc
    · cases h
theorem trim_bare (s : List UInt8) : Lib.trimS s [9, 32] = bareF s := by
  have e : (fun c => ([9, 32] : List UInt8).contains c) = blankB := funext blank_in
  unfold Lib.trimS Lib.trimLeftS Lib.trimRightS
  rw [e]
  have hs : s = s.takeWhile blankB ++ s.dropWhile blankB := (List.takeWhile_append_dropWhile ..).symm
  have hp : (s.takeWhile blankB).all blankB = true := List.all_eq_true.2 taken_all
  by_cases hd : s.dropWhile blankB = []
  · have ha : s.all blankB = true := by rw [hs, hd, List.append_nil]; exact hp
    have hr : s.reverse.all blankB = true := by rw [List.all_reverse]; exact ha
    rw [drop_all hr]
    unfold bareF
    rw [hd]; rfl
  · have hne : (s.dropWhile blankB).reverse.dropWhile blankB ≠ [] := by
      intro h0
      obtain ⟨c, r, hcr⟩ := List.exists_cons_of_ne_nil hd
      have hb := head_drop hcr
      have hm : c ∈ (s.dropWhile blankB).reverse := by rw [hcr]; simp
      have := dropWhile_nil h0 c hm
      rw [hb] at this; cases this
    have h1 : s.reverse.dropWhile blankB = (s.dropWhile blankB).reverse.dropWhile blankB ++ (s.takeWhile blankB).reverse := by
      rw [← drop_some hne, ← List.reverse_append, ← hs]
    rw [h1, List.reverse_append, List.reverse_reverse, drop_blank hp]
    show List.dropWhile blankB (bareF s) = bareF s
    have hcl := clean_bare s
    cases hv : bareF s with
    | nil => rfl
    | cons c r => rw [List.dropWhile_cons, if_neg (by rw [hcl.first c r hv]; exact Bool.false_ne_true)]
theorem val_bad (b : List UInt8) : b.all valB = !(b.any badB) := by
  rw [List.not_any_eq_all_not]; rfl
theorem take_short {p : UInt8 → Bool} : ∀ {a : List UInt8} (r : List UInt8), a.all p = false → (a ++ r).takeWhile p = a.takeWhile p ∧ ∃ c, a[(a.takeWhile p).length]? = some c
  | [], _, h => by cases h
  | c :: a, r, h => by
    cases hc : p c with
    | true =>
      rw [List.all_cons, hc, Bool.true_and] at h
      obtain ⟨h1, d, h2⟩ := take_short r h
      rw [List.cons_append, List.takeWhile_cons, List.takeWhile_cons, hc, if_pos rfl, if_pos rfl, h1]
      exact ⟨rfl, d, by rw [List.length_cons, List.getElem?_cons_succ]; exact h2⟩
    | false =>
      rw [List.cons_append, List.takeWhile_cons, List.takeWhile_cons, hc, if_neg Bool.false_ne_true, if_neg Bool.false_ne_true]
      exact ⟨rfl, c, rfl⟩
theorem parse_cut (a b : List UInt8) (h : 58 ∉ a) : parseF (a ++ 58 :: b) = if (tokF a && b.all valB) = true then (a, bareF b, true) else ([], [], false) := by
  rw [val_bad]
  cases ht : a.all tokB with
  | true =>
    by_cases h0 : a.length = 0
    · have htf : tokF a = false := by unfold tokF; rw [decide_eq_false (by omega), Bool.and_false]
      rw [htf, Bool.false_and, if_neg Bool.false_ne_true]
      unfold parseF
      rw [name_of ht, if_pos (.inl h0)]
    · have htf : tokF a = true := by unfold tokF; rw [ht, decide_eq_true (by omega)]; rfl
      rw [htf, Bool.true_and]
      cases hb : b.any badB with
      | false => rw [parse_of htf hb]; rfl
      | true =>
        have hd : (a ++ 58 :: b).drop (a.length + 1) = b := by
          rw [List.drop_append, List.drop_of_length_le (by omega), show a.length + 1 - a.length = 1 by omega]; rfl
        unfold parseF
        rw [name_of ht, hd, if_pos (.inr (.inr hb))]; rfl
  | false =>
    have htf : tokF a = false := by unfold tokF; rw [ht, Bool.false_and]
    rw [htf, Bool.false_and, if_neg Bool.false_ne_true]
    obtain ⟨h1, c, h2⟩ := take_short (58 :: b) ht
    unfold parseF nameLen
    rw [h1, if_pos]
    refine .inr (.inl ?_)
    obtain ⟨hl, _⟩ := List.getElem?_eq_some_iff.1 h2
    rw [List.getElem?_append_left hl, h2]
    intro e
    cases e
    exact h (List.mem_of_getElem? h2)
theorem parse_miss {s : List UInt8} (h : 58 ∉ s) : parseF s = ([], [], false) := by
  unfold parseF
  rw [if_pos]
  exact .inr (.inl fun e => h (List.mem_of_getElem? e))
theorem parse_no {s n v : List UInt8} (h : parseF s = (n, v, false)) : n = [] ∧ v = [] := by
  unfold parseF at h
  split at h
  · cases h; exact ⟨rfl, rfl⟩
  · cases h
end Go.Proofs.YtfdbmbgpcioogaaGreatDoor
/- The document's answers for a request's line, a target and a reply's line: as list functions, and what the statements ask of them. -/
namespace Go.Proofs.YtfdbmbgpcioogaaGreatDoor
open Go.RowKit

/-! A request's line. -/
def visB (c : UInt8) : Bool := decide (33 ≤ c.toNat) && decide (c.toNat ≤ 126)
def notB (k c : UInt8) : Bool := c != k
def http0 : List UInt8 := [32, 72, 84, 84, 80, 47, 49, 46, 48]
def http1 : List UInt8 := [32, 72, 84, 84, 80, 47, 49, 46, 49]
def lineF (s : List UInt8) : List UInt8 × List UInt8 × Nat × Bool :=
  let m := s.takeWhile (notB 32)
  let r := s.drop (m.length + 1)
  let t := r.takeWhile visB
  let q := r.drop t.length
  if tokF m = true ∧ t ≠ [] then (if q = http0 then (m, t, 10, true) else if q = http1 then (m, t, 11, true) else ([], [], 0, false)) else ([], [], 0, false)
/-- A line's answer. -/
def lineV (p : List UInt8 × List UInt8 × Nat × Bool) : Value := .tuple #[S p.1, S p.2.1, .int .i64 (p.2.2.1 : Int), .bool p.2.2.2]
theorem take_while_stop {p : UInt8 → Bool} {a : List UInt8} {c : UInt8} {r : List UInt8} (ha : a.all p = true) (hc : p c = false) : (a ++ c :: r).takeWhile p = a := by
  rw [List.takeWhile_append_of_pos (by simpa using ha), List.takeWhile_cons, hc]
  simp
theorem lineF_of {m t : List UInt8} {q : List UInt8} (hm : tokF m = true) (hv : t.all visB = true) (ht : t ≠ []) (hq : q = http0 ∨ q = http1) :
    lineF (m ++ 32 :: (t ++ q)) = (m, t, (if q = http0 then 10 else 11), true) := by
  have hmb : m.all (notB 32) = true := by
    unfold tokF at hm
    rw [Bool.and_eq_true] at hm
    rw [List.all_eq_true] at hm ⊢
    intro c hc
    have := hm.1 c hc
    unfold notB
    rw [bne_iff_ne]
    rintro rfl
    exact absurd this (by decide)
  have hqs : ∃ r, q = 32 :: r := by rcases hq with rfl | rfl <;> exact ⟨_, rfl⟩
  obtain ⟨qr, hqr⟩ := hqs
  have h1 : (m ++ 32 :: (t ++ q)).takeWhile (notB 32) = m := take_while_stop hmb rfl
  have h2 : (m ++ 32 :: (t ++ q)).drop (m.length + 1) = t ++ q := by
    rw [List.drop_append, List.drop_of_length_le (by omega), show m.length + 1 - m.length = 1 by omega]; rfl
  have h3 : (t ++ q).takeWhile visB = t := by rw [hqr]; exact take_while_stop hv rfl
  unfold lineF
  simp only [h1, h2, h3, List.drop_left]
  rw [if_pos ⟨hm, ht⟩]
  rcases hq with rfl | rfl
  · rw [if_pos rfl, if_pos rfl]
  · rw [if_neg (by decide), if_pos rfl, if_neg (by decide)]
/-- What is read of a line is put together as it. -/
theorem lineF_true {s m t : List UInt8} {n : Nat} (h : lineF s = (m, t, n, true)) : tokF m = true ∧ t.all visB = true ∧ t ≠ [] ∧ ((n = 10 ∧ s = m ++ 32 :: (t ++ http0)) ∨ (n = 11 ∧ s = m ++ 32 :: (t ++ http1))) := by
  unfold lineF at h
  simp only at h
  obtain ⟨M, hM⟩ : ∃ M, M = s.takeWhile (notB 32) := ⟨_, rfl⟩
  obtain ⟨R, hR⟩ : ∃ R, R = s.drop (M.length + 1) := ⟨_, rfl⟩
  obtain ⟨T, hT⟩ : ∃ T, T = R.takeWhile visB := ⟨_, rfl⟩
  rw [← hM, ← hR, ← hT] at h
  split at h
  · rename_i hc
    have hRT : R = T ++ R.drop T.length := by
      have e := List.takeWhile_append_dropWhile (p := visB) (l := R)
      have : R.drop T.length = R.dropWhile visB := by
        rw [hT]; conv => lhs; rw [← e]
        rw [List.drop_left' (by rw [e])]
      rw [this, hT]; exact e.symm
    have hRne : R ≠ [] := fun e => by rw [e] at hT; exact hc.2 hT
    have hs : s = M ++ 32 :: R := by
      have e := List.takeWhile_append_dropWhile (p := notB 32) (l := s)
      cases hd : s.dropWhile (notB 32) with
      | nil =>
        rw [hd, List.append_nil] at e
        rw [hR, hM, e, List.drop_of_length_le (by omega)] at hRne
        exact absurd rfl hRne
      | cons c r =>
        have hcb : notB 32 c = false := by
          have := List.head?_dropWhile_not (notB 32) s
          rw [hd] at this
          simpa using this
        have hc32 : c = 32 := by unfold notB at hcb; simpa using hcb
        rw [hd, ← hM, hc32] at e
        rw [hR, ← e, List.drop_append, List.drop_of_length_le (by omega), show M.length + 1 - M.length = 1 by omega]; rfl
    have hTv : T.all visB = true := by rw [hT, List.all_eq_true]; exact fun c hc => taken_all c hc
    split at h
    · rename_i hq
      cases h
      exact ⟨hc.1, hTv, hc.2, .inl ⟨rfl, by rw [hs, ← hq, ← hRT]⟩⟩
    · split at h
      · rename_i hq
        cases h
        exact ⟨hc.1, hTv, hc.2, .inr ⟨rfl, by rw [hs, ← hq, ← hRT]⟩⟩
      · cases h
  · cases h
theorem lineF_false {s m t : List UInt8} {n : Nat} (h : lineF s = (m, t, n, false)) : m = [] ∧ t = [] ∧ n = 0 := by
  unfold lineF at h
  simp only at h
  split at h
  · split at h
    · cases h
    · split at h
      · cases h
      · cases h; exact ⟨rfl, rfl, rfl⟩
  · cases h; exact ⟨rfl, rfl, rfl⟩
/-- A line with a version behind: what is read. -/
theorem lineF_back {method target q m t : List UInt8} {n v : Nat} (hq : (v = 10 ∧ q = http0) ∨ (v = 11 ∧ q = http1)) (h : lineF ((method ++ 32 :: target) ++ q) = (m, t, n, true)) :
    m ++ 32 :: t = method ++ 32 :: target ∧ n = v ∧ tokF m = true ∧ t ≠ [] := by
  obtain ⟨h1, _, h3, h4⟩ := lineF_true h
  rcases h4 with ⟨rfl, h4⟩ | ⟨rfl, h4⟩
  · rw [show m ++ 32 :: (t ++ http0) = (m ++ 32 :: t) ++ http0 by simp] at h4
    rcases hq with ⟨rfl, rfl⟩ | ⟨rfl, rfl⟩
    · exact ⟨(List.append_cancel_right h4).symm, rfl, h1, h3⟩
    · have := (List.append_inj' h4 rfl).2
      exact absurd this (by decide)
  · rw [show m ++ 32 :: (t ++ http1) = (m ++ 32 :: t) ++ http1 by simp] at h4
    rcases hq with ⟨rfl, rfl⟩ | ⟨rfl, rfl⟩
    · have := (List.append_inj' h4 rfl).2
      exact absurd this (by decide)
    · exact ⟨(List.append_cancel_right h4).symm, rfl, h1, h3⟩
end Go.Proofs.YtfdbmbgpcioogaaGreatDoor
/- A target's answer, and what the statements ask of it. -/
namespace Go.Proofs.YtfdbmbgpcioogaaGreatDoor
open Go.RowKit

def hexAll : List UInt8 := [48, 49, 50, 51, 52, 53, 54, 55, 56, 57, 97, 98, 99, 100, 101, 102, 65, 66, 67, 68, 69, 70]
def hexB (c : UInt8) : Bool := hexAll.contains c
def pathAll : List UInt8 := [97, 98, 99, 100, 101, 102, 103, 104, 105, 106, 107, 108, 109, 110, 111, 112, 113, 114, 115, 116, 117, 118, 119, 120, 121, 122, 65, 66, 67, 68, 69, 70, 71, 72, 73, 74, 75, 76, 77, 78, 79, 80, 81, 82, 83, 84, 85, 86, 87, 88, 89, 90, 48, 49, 50, 51, 52, 53, 54, 55, 56, 57, 45, 46, 95, 126, 33, 36, 38, 39, 40, 41, 42, 43, 44, 59, 61, 58, 64, 47]
def pathB (c : UInt8) : Bool := pathAll.contains c
theorem path_pct : pathB 37 = false := by decide
theorem path_q : pathB 63 = false := by decide
theorem all_bytes {p : UInt8 → Bool} (h : ∀ n : Fin 256, p (UInt8.ofNat n.1) = true) (c : UInt8) : p c = true := by
  have := h ⟨c.toNat, c.toNat_lt⟩
  simp only [UInt8.ofNat_toNat] at this
  exact this
theorem hex_not (c : UInt8) (h : hexB c = true) : c ≠ 37 ∧ c ≠ 63 := by
  have := all_bytes (p := fun c => !hexB c || (c != 37 && c != 63)) (by decide +kernel) c
  simp only [h, Bool.not_true, Bool.false_or, Bool.and_eq_true, bne_iff_ne] at this
  exact this
/-- A path's characters, and a query's: percent signs with two digits behind. -/
def okT : List UInt8 → Bool
  | [] => true
  | [c] => c == 63 || pathB c
  | [c, d] => (c == 63 || pathB c) && (d == 63 || pathB d)
  | c :: x :: y :: r => if c = 37 ∧ hexB x = true ∧ hexB y = true then okT r else (c == 63 || pathB c) && okT (x :: y :: r)
theorem okT_one {c : UInt8} {r : List UInt8} (h : c ≠ 37) : okT (c :: r) = ((c == 63 || pathB c) && okT r) := by
  match r with
  | [] => simp [okT]
  | [d] => simp [okT]
  | x :: y :: r => rw [okT, if_neg (fun e => h e.1)]
theorem okT_pct {x y : UInt8} {r : List UInt8} (hx : hexB x = true) (hy : hexB y = true) : okT (37 :: x :: y :: r) = okT r := by rw [okT, if_pos ⟨rfl, hx, hy⟩]
theorem okT_bad {r : List UInt8} (h : ∀ x y q, r = x :: y :: q → ¬ (hexB x = true ∧ hexB y = true)) : okT (37 :: r) = false := by
  match r with
  | [] => decide
  | [d] => simp [okT, path_pct]
  | x :: y :: r =>
    rw [okT, if_neg (fun e => h x y r rfl e.2)]
    simp [path_pct]
/-- The three ways in which a text that fits may begin. -/
theorem okT_cases {s : List UInt8} (h : okT s = true) : s = [] ∨ (∃ c r, s = c :: r ∧ c ≠ 37 ∧ (c == 63 || pathB c) = true ∧ okT r = true) ∨ (∃ x y r, s = 37 :: x :: y :: r ∧ hexB x = true ∧ hexB y = true ∧ okT r = true) := by
  match s with
  | [] => exact .inl rfl
  | c :: r =>
    by_cases hc : c = 37
    · subst hc
      by_cases hr : ∃ x y q, r = x :: y :: q ∧ hexB x = true ∧ hexB y = true
      · obtain ⟨x, y, q, rfl, hx, hy⟩ := hr
        rw [okT_pct hx hy] at h
        exact .inr (.inr ⟨x, y, q, rfl, hx, hy, h⟩)
      · rw [okT_bad (fun x y q e he => hr ⟨x, y, q, e, he⟩)] at h; cases h
    · rw [okT_one hc, Bool.and_eq_true] at h
      exact .inr (.inl ⟨c, r, rfl, hc, h.1, h.2⟩)
theorem okT_append : ∀ (n : Nat) (a b : List UInt8), a.length ≤ n → okT a = true → okT (a ++ b) = okT b
  | 0, a, b, hn, _ => by
    obtain rfl := List.length_eq_zero_iff.1 (Nat.le_zero.1 hn); rfl
  | n + 1, a, b, hn, h => by
    rcases okT_cases h with rfl | ⟨c, r, rfl, hc, hp, hr⟩ | ⟨x, y, r, rfl, hx, hy, hr⟩
    · rfl
    · rw [List.cons_append, okT_one hc, hp, Bool.true_and]
      exact okT_append n r b (by simp at hn; omega) hr
    · rw [List.cons_append, List.cons_append, List.cons_append, okT_pct hx hy]
      exact okT_append n r b (by simp at hn; omega) hr
/-- A text split at a question mark. -/
theorem okT_mark : ∀ (n : Nat) (a b : List UInt8), a.length ≤ n → 63 ∉ a → okT (a ++ 63 :: b) = true → okT a = true ∧ okT b = true
  | 0, a, b, hn, _, h => by
    obtain rfl := List.length_eq_zero_iff.1 (Nat.le_zero.1 hn)
    rw [List.nil_append, okT_one (by decide)] at h
    exact ⟨rfl, by simpa using h⟩
  | n + 1, [], b, _, _, h => by
    rw [List.nil_append, okT_one (by decide)] at h
    exact ⟨rfl, by simpa using h⟩
  | n + 1, c :: a, b, hn, hq, h => by
    simp only [List.length_cons] at hn
    rcases okT_cases h with h0 | ⟨c', r, e, hc, hp, hr⟩ | ⟨x, y, r, e, hx, hy, hr⟩
    · cases h0
    · rw [List.cons_append] at e
      obtain ⟨rfl, rfl⟩ := List.cons.inj e
      obtain ⟨h1, h2⟩ := okT_mark n a b (by omega) (fun hm => hq (List.mem_cons_of_mem _ hm)) hr
      exact ⟨by rw [okT_one hc, hp, h1]; rfl, h2⟩
    · rw [List.cons_append] at e
      obtain ⟨rfl, e⟩ := List.cons.inj e
      replace e := (List.cons.inj e).2
      rcases a with _ | ⟨d, _ | ⟨f, a⟩⟩
      · have e1 := (List.cons.inj e).1
        exact absurd e1.symm (hex_not _ hx).2
      · have e1 := (List.cons.inj (List.cons.inj e).2).1
        exact absurd e1.symm (hex_not _ hy).2
      · have e1 := (List.cons.inj e).1
        have e2 := (List.cons.inj (List.cons.inj e).2).1
        have e3 := (List.cons.inj (List.cons.inj e).2).2
        subst e1 e2
        rw [← e3] at hr
        simp only [List.length_cons] at hn
        obtain ⟨h1, h2⟩ := okT_mark n a b (by omega) (fun hm => hq (List.mem_cons_of_mem _ (List.mem_cons_of_mem _ (List.mem_cons_of_mem _ hm)))) hr
        exact ⟨by rw [okT_pct hx hy]; exact h1, h2⟩
/-- A beginning fits just if it cuts no percent sign's digits. -/
theorem okT_take : ∀ (n : Nat) (p : List UInt8) (k : Nat), p.length ≤ n → okT p = true → 1 ≤ k → k ≤ p.length → okT (p.take k) = !(p[k - 1]? == some 37 || (decide (2 ≤ k) && p[k - 2]? == some 37))
  | 0, p, k, hn, _, h1, h2 => by omega
  | n + 1, p, k, hn, h, h1, h2 => by
    rcases okT_cases h with rfl | ⟨c, r, rfl, hc, hp, hr⟩ | ⟨x, y, r, rfl, hx, hy, hr⟩
    · simp at h2; omega
    · simp only [List.length_cons] at hn h2
      obtain ⟨j, rfl⟩ : ∃ j, k = j + 1 := ⟨k - 1, by omega⟩
      rw [List.take_succ_cons, okT_one hc, hp, Bool.true_and]
      rcases Nat.eq_zero_or_pos j with rfl | hj
      · simp [okT, hc]
      · rw [okT_take n r j (by omega) hr hj (by omega)]
        obtain ⟨i, rfl⟩ : ∃ i, j = i + 1 := ⟨j - 1, by omega⟩
        rcases Nat.eq_zero_or_pos i with rfl | hi
        · simp [hc]
        · obtain ⟨m, rfl⟩ : ∃ m, i = m + 1 := ⟨i - 1, by omega⟩
          simp
    · simp only [List.length_cons] at hn h2
      have hx' := hex_not x hx
      have hy' := hex_not y hy
      rcases Nat.lt_or_ge k 4 with hk | hk
      · have : k = 1 ∨ k = 2 ∨ k = 3 := by omega
        rcases this with rfl | rfl | rfl
        · simp [okT, path_pct]
        · simp [okT, path_pct]
        · rw [show (37 :: x :: y :: r).take 3 = 37 :: x :: y :: [] from rfl, okT_pct hx hy]
          simp [okT, hx'.1, hy'.1]
      · obtain ⟨j, rfl⟩ : ∃ j, k = j + 3 := ⟨k - 3, by omega⟩
        rw [show (37 :: x :: y :: r).take (j + 3) = 37 :: x :: y :: r.take j from rfl, okT_pct hx hy, okT_take n r j (by omega) hr (by omega) (by omega)]
        obtain ⟨i, rfl⟩ : ∃ i, j = i + 1 := ⟨j - 1, by omega⟩
        rcases Nat.eq_zero_or_pos i with rfl | hi
        · simp [hy'.1]
        · obtain ⟨m, rfl⟩ : ∃ m, i = m + 1 := ⟨i - 1, by omega⟩
          simp

def targetF (s : List UInt8) : List UInt8 × List UInt8 × Bool :=
  if s[0]? ≠ some 47 ∨ 512 < s.length ∨ okT s = false then ([], [], false)
  else if 63 ∉ s then (s, [], true) else (s.takeWhile (notB 63), s.drop ((s.takeWhile (notB 63)).length + 1), true)
def targetV (p : List UInt8 × List UInt8 × Bool) : Value := .tuple #[S p.1, S p.2.1, .bool p.2.2]
theorem not_mem_all {k : UInt8} {a : List UInt8} (h : k ∉ a) : a.all (notB k) = true := by
  rw [List.all_eq_true]
  intro c hc
  unfold notB
  rw [bne_iff_ne]
  rintro rfl
  exact h hc
theorem target_false {s p q : List UInt8} (h : targetF s = (p, q, false)) : p = [] ∧ q = [] := by
  unfold targetF at h
  split at h
  · cases h; exact ⟨rfl, rfl⟩
  · split at h <;> cases h
/-- A path that fits, alone. -/
theorem target_path {p : List UInt8} (h0 : p[0]? = some 47) (hl : p.length ≤ 512) (ho : okT p = true) (hq : 63 ∉ p) : targetF p = (p, [], true) := by
  unfold targetF
  rw [if_neg, if_pos hq]
  rintro (h | h | h)
  · exact h h0
  · omega
  · rw [ho] at h; cases h
theorem target_none {p : List UInt8} (ho : okT p = false) : targetF p = ([], [], false) := by
  unfold targetF; rw [if_pos (.inr (.inr ho))]
theorem target_query {p q : List UInt8} (h0 : p[0]? = some 47) (hl : p.length + 1 + q.length ≤ 512) (ho : okT p = true) (hoq : okT q = true) (hq : 63 ∉ p) : targetF ((p ++ [63]) ++ q) = (p, q, true) := by
  have e : (p ++ [63]) ++ q = p ++ 63 :: q := by simp
  have hp0 : 0 < p.length := by
    cases p with
    | nil => cases h0
    | cons => simp
  rw [e]
  unfold targetF
  have ht : (p ++ 63 :: q).takeWhile (notB 63) = p := take_while_stop (not_mem_all hq) rfl
  rw [if_neg, if_neg (fun hn => hn (by simp)), ht]
  · rw [List.drop_append, List.drop_of_length_le (by omega), show p.length + 1 - p.length = 1 by omega]; rfl
  · rintro (h | h | h)
    · rw [List.getElem?_append_left hp0] at h; exact h h0
    · rw [List.length_append, List.length_cons] at h; omega
    · rw [okT_append _ p _ (Nat.le_refl _) ho, okT_one (by decide), hoq] at h; cases h
theorem target_long {s : List UInt8} (h : 512 < s.length) : targetF s = ([], [], false) := by
  unfold targetF; rw [if_pos (.inr (.inl h))]
/-- What a target that fits says. -/
theorem target_true {s p q : List UInt8} (h : targetF s = (p, q, true)) : p[0]? = some 47 ∧ okT p = true ∧ okT q = true ∧ 63 ∉ p ∧ p.length ≤ 512 ∧ q.length ≤ 512 ∧ p.length + q.length ≤ s.length ∧ s.length ≤ 512 ∧ okT s = true := by
  unfold targetF at h
  split at h
  · cases h
  · rename_i hc
    have h0 : s[0]? = some 47 := Classical.byContradiction fun e => hc (.inl e)
    have hl : s.length ≤ 512 := Nat.le_of_not_lt fun e => hc (.inr (.inl e))
    have ho : okT s = true := by
      cases ho : okT s with
      | true => rfl
      | false => exact absurd (.inr (.inr ho)) hc
    split at h
    · rename_i hm
      cases h
      exact ⟨h0, ho, rfl, hm, hl, by simp, by simp, hl, ho⟩
    · rename_i hm
      replace hm := Classical.not_not.1 hm
      obtain ⟨a, b, rfl, hab⟩ : ∃ a b, s = a ++ 63 :: b ∧ 63 ∉ a := by
        clear h ho hc h0 hl
        induction s with
        | nil => cases hm
        | cons c s ih =>
          by_cases hc : c = 63
          · exact ⟨[], s, by rw [hc]; rfl, List.not_mem_nil⟩
          · rcases List.mem_cons.1 hm with e | hm
            · exact absurd e.symm hc
            · obtain ⟨a, b, rfl, h⟩ := ih hm
              exact ⟨c :: a, b, rfl, fun hm => by
                rcases List.mem_cons.1 hm with e | hm
                · exact hc e.symm
                · exact h hm⟩
      have ht : (a ++ 63 :: b).takeWhile (notB 63) = a := take_while_stop (not_mem_all hab) rfl
      have hd : (a ++ 63 :: b).drop (a.length + 1) = b := by
        rw [List.drop_append, List.drop_of_length_le (by omega), show a.length + 1 - a.length = 1 by omega]; rfl
      rw [ht, hd] at h
      cases h
      obtain ⟨h1, h2⟩ := okT_mark _ p q (Nat.le_refl _) hab ho
      have hll := hl
      rw [List.length_append, List.length_cons] at hll
      have ha0 : 0 < p.length := by
        cases p with
        | nil => cases h0
        | cons => simp
      rw [List.getElem?_append_left ha0] at h0
      exact ⟨h0, h1, h2, hab, by omega, by omega, by rw [List.length_append, List.length_cons]; omega, hl, ho⟩
/-- A target's characters are all to be seen. -/
theorem okT_vis : ∀ (n : Nat) (s : List UInt8), s.length ≤ n → okT s = true → s.all visB = true
  | 0, s, hn, _ => by
    obtain rfl := List.length_eq_zero_iff.1 (Nat.le_zero.1 hn); rfl
  | n + 1, s, hn, h => by
    have hv := fun c => all_bytes (p := fun c => !(c == 63 || pathB c) || visB c) (by decide +kernel) c
    have hx' := fun c => all_bytes (p := fun c => !hexB c || visB c) (by decide +kernel) c
    rcases okT_cases h with rfl | ⟨c, r, rfl, hc, hp, hr⟩ | ⟨x, y, r, rfl, hx, hy, hr⟩
    · rfl
    · have := hv c
      rw [hp] at this
      rw [List.all_cons, okT_vis n r (by simp at hn; omega) hr]
      simpa using this
    · have h1 := hx' x
      have h2 := hx' y
      rw [hx] at h1
      rw [hy] at h2
      have e37 : visB 37 = true := by decide
      rw [List.all_cons, List.all_cons, List.all_cons, okT_vis n r (by simp at hn; omega) hr, e37]
      simpa using And.intro h1 h2
theorem target_vis {s p q : List UInt8} (h : targetF s = (p, q, true)) : s.all visB = true ∧ s ≠ [] := by
  obtain ⟨_, _, _, _, _, _, _, _, ho⟩ := target_true h
  refine ⟨okT_vis _ s (Nat.le_refl _) ho, ?_⟩
  rintro rfl
  unfold targetF at h
  rw [if_pos (.inl (by simp))] at h; cases h
end Go.Proofs.YtfdbmbgpcioogaaGreatDoor
/- Bodies in chunks, byte by byte: a reader as an automaton; what is said of one that is fed in pieces. -/
namespace Go.Proofs.YtfdbmbgpcioogaaGreatDoor
open Go.RowKit

/-- A digit of 16; what it counts. -/
def hexN (c : UInt8) : Option Nat :=
  if 48 ≤ c.toNat ∧ c.toNat ≤ 57 then some (c.toNat - 48)
  else if 97 ≤ c.toNat ∧ c.toNat ≤ 102 then some (c.toNat - 87)
  else if 65 ≤ c.toNat ∧ c.toNat ≤ 70 then some (c.toNat - 55) else none
/-- A head's size: n digits were read, x is what they say. -/
def sizeGo : Nat → Nat → List UInt8 → Option Nat
  | n, x, [] => if n = 0 then none else some x
  | n, x, c :: r => if c = 59 then (if n = 0 then none else if r.any badB then none else some x)
    else match hexN c with
      | none => none
      | some d => if 8 ≤ n then none else sizeGo (n + 1) (16 * x + d) r
def sizeF (s : List UInt8) : Option Nat := sizeGo 0 0 s

/-- What is read next. -/
inductive Ph where
  | head (cur : List UInt8)
  | body (n : Nat)
  | cr
  | lf
  | tail (cur : List UInt8) (k f : Nat)
  | done
  | bad (code : Nat)
deriving DecidableEq
structure Cst where
  ph : Ph
  data : List UInt8
def Cst.new : Cst := ⟨.head [], []⟩
def Cst.stop (st : Cst) : Bool := match st.ph with
  | .done => true
  | .bad _ => true
  | _ => false
def Cst.isDone (st : Cst) : Bool := match st.ph with
  | .done => true
  | _ => false
def Cst.badN (st : Cst) : Nat := match st.ph with
  | .bad c => c
  | _ => 0
def endCR (l : List UInt8) : Bool := l.getLast? == some 13
/-- Behind a whole head. -/
def headF (text data : List UInt8) : Ph := match sizeF text with
  | none => .bad 400
  | some n => if 4096 < data.length + n then .bad 413 else if n = 0 then .tail [] 0 0 else .body n
/-- Behind a whole trailer's line. -/
def tailF (text : List UInt8) (k f : Nat) : Ph :=
  if text = [] then .done else if (parseF text).2.2 = false then .bad 400 else if f = 32 then .bad 431 else .tail [] k (f + 1)
def Cst.step (st : Cst) (c : UInt8) : Cst := match st.ph with
  | .head cur => if endCR cur ≠ (c == 10) then ⟨.bad 400, st.data⟩ else if endCR cur = true then ⟨headF cur.dropLast st.data, st.data⟩
    else if 2048 ≤ cur.length then ⟨.bad 431, st.data⟩ else ⟨.head (cur ++ [c]), st.data⟩
  | .body n => ⟨if n ≤ 1 then .cr else .body (n - 1), st.data ++ [c]⟩
  | .cr => ⟨if c = 13 then .lf else .bad 400, st.data⟩
  | .lf => ⟨if c = 10 then .head [] else .bad 400, st.data⟩
  | .tail cur k f => if 2048 ≤ k then ⟨.bad 431, st.data⟩ else if endCR cur ≠ (c == 10) then ⟨.bad 400, st.data⟩ else if endCR cur = true then ⟨tailF cur.dropLast (k + 1) f, st.data⟩
    else ⟨.tail (cur ++ [c]) (k + 1) f, st.data⟩
  | .done => st
  | .bad _ => st
/-- Fed: how many bytes are read, and how it stands then. -/
def Cst.run : Cst → List UInt8 → Nat × Cst
  | st, [] => (0, st)
  | st, c :: r => if st.stop = true then (0, st) else (((st.step c).run r).1 + 1, ((st.step c).run r).2)
theorem run_stop {st : Cst} (h : st.stop = true) (s : List UInt8) : st.run s = (0, st) := by
  cases s with
  | nil => rfl
  | cons c r => rw [Cst.run, if_pos h]
theorem run_cons {st : Cst} (h : st.stop = false) (c : UInt8) (r : List UInt8) : st.run (c :: r) = (((st.step c).run r).1 + 1, ((st.step c).run r).2) := by
  rw [Cst.run, if_neg (by rw [h]; exact Bool.false_ne_true)]
theorem run_append : ∀ (a : List UInt8) (st : Cst) (b : List UInt8), st.run (a ++ b) = ((st.run a).1 + ((st.run a).2.run b).1, ((st.run a).2.run b).2)
  | [], st, b => by simp [Cst.run]
  | c :: a, st, b => by
    cases h : st.stop with
    | true =>
      rw [run_stop h, run_stop h]
      show (0, st) = (0 + (st.run b).1, (st.run b).2)
      rw [run_stop h]; rfl
    | false =>
      rw [List.cons_append, run_cons h, run_cons h, run_append a (st.step c) b]
      simp only [Prod.mk.injEq, and_true]
      omega
theorem run_le : ∀ (s : List UInt8) (st : Cst), (st.run s).1 ≤ s.length
  | [], st => by simp [Cst.run]
  | c :: s, st => by
    cases h : st.stop with
    | true => rw [run_stop h]; simp
    | false =>
      rw [run_cons h, List.length_cons]
      have := run_le s (st.step c)
      show ((st.step c).run s).1 + 1 ≤ _
      omega
/-- What was not read stands behind the end, or what is wrong. -/
theorem run_lt : ∀ (s : List UInt8) (st : Cst), (st.run s).1 < s.length → (st.run s).2.stop = true
  | [], st, h => by simp [Cst.run] at h
  | c :: s, st, h => by
    cases hs : st.stop with
    | true => rw [run_stop hs]; exact hs
    | false =>
      rw [run_cons hs] at h ⊢
      refine run_lt s (st.step c) ?_
      simp only [List.length_cons] at h
      omega
theorem stop_cases {st : Cst} (h : st.stop = true) : (st.isDone = true ∧ st.badN = 0) ∨ st.isDone = false := by
  obtain ⟨ph, d⟩ := st
  cases ph <;> simp [Cst.isDone, Cst.badN] at *
theorem done_bad (st : Cst) : st.isDone = true → st.badN = 0 := by
  obtain ⟨ph, d⟩ := st
  cases ph <;> simp [Cst.isDone, Cst.badN]
/-- The codes that are told of what is wrong. -/
theorem headF_ok (t d : List UInt8) : ∀ c, headF t d = .bad c → c ≠ 0 := by
  intro c h
  unfold headF at h
  split at h
  · cases h; decide
  · split at h
    · cases h; decide
    · split at h <;> cases h
theorem tailF_ok (t : List UInt8) (k f : Nat) : ∀ c, tailF t k f = .bad c → c ≠ 0 := by
  intro c h
  unfold tailF at h
  split at h
  · cases h
  · split at h
    · cases h; decide
    · split at h
      · cases h; decide
      · cases h
def Cst.fine (st : Cst) : Prop := ∀ c, st.ph = .bad c → c ≠ 0
theorem step_fine (st : Cst) (c : UInt8) (h : st.fine) : (st.step c).fine := by
  obtain ⟨ph, d⟩ := st
  unfold Cst.step
  cases ph with
  | head cur =>
    dsimp only
    split
    · intro e he; cases he; decide
    · split
      · exact headF_ok _ _
      · split
        · intro e he; cases he; decide
        · intro e he; cases he
  | body n => dsimp only; split <;> intro e he <;> cases he
  | cr =>
    dsimp only
    split
    · intro e he; cases he
    · intro e he; cases he; decide
  | lf =>
    dsimp only
    split
    · intro e he; cases he
    · intro e he; cases he; decide
  | tail cur k f =>
    dsimp only
    split
    · intro e he; cases he; decide
    · split
      · intro e he; cases he; decide
      · split
        · exact tailF_ok _ _ _
        · intro e he; cases he
  | done => exact h
  | bad e => exact h
theorem run_fine : ∀ (s : List UInt8) (st : Cst), st.fine → (st.run s).2.fine
  | [], st, h => h
  | c :: s, st, h => by
    cases hs : st.stop with
    | true => rw [run_stop hs]; exact h
    | false => rw [run_cons hs]; exact run_fine s _ (step_fine st c h)
theorem new_fine : Cst.new.fine := by intro c h; cases h
/-- Stopped: done, or something is wrong. -/
theorem stop_iff {st : Cst} (h : st.fine) : st.stop = true ↔ (st.isDone = true ∨ st.badN ≠ 0) := by
  obtain ⟨ph, d⟩ := st
  cases ph with
  | bad c => simp [Cst.stop, Cst.isDone, Cst.badN]; exact h c rfl
  | _ => simp [Cst.stop, Cst.isDone, Cst.badN]
/-! The data: they only grow, no more than may be, and stand in what was fed. -/
theorem step_data (st : Cst) (c : UInt8) : (st.step c).data = st.data ∨ (st.step c).data = st.data ++ [c] := by
  obtain ⟨ph, d⟩ := st
  unfold Cst.step
  cases ph with
  | body n => exact .inr rfl
  | head cur => dsimp only; repeat' split
                all_goals exact .inl rfl
  | tail cur k f => dsimp only; repeat' split
                    all_goals exact .inl rfl
  | cr => exact .inl rfl
  | lf => exact .inl rfl
  | done => exact .inl rfl
  | bad e => exact .inl rfl
theorem run_data : ∀ (s : List UInt8) (st : Cst), ∃ d, (st.run s).2.data = st.data ++ d ∧ d.Sublist s
  | [], st => ⟨[], by simp [Cst.run], List.Sublist.refl _⟩
  | c :: s, st => by
    cases hs : st.stop with
    | true => rw [run_stop hs]; exact ⟨[], by simp, List.nil_sublist _⟩
    | false =>
      rw [run_cons hs]
      obtain ⟨d, h1, h2⟩ := run_data s (st.step c)
      rcases step_data st c with h | h
      · exact ⟨d, by rw [h1, h], h2.cons _⟩
      · exact ⟨c :: d, by rw [h1, h, List.append_assoc]; rfl, h2.cons_cons _⟩
/-- No more than may be. -/
def Cst.room (st : Cst) : Prop := match st.ph with
  | .body n => st.data.length + n ≤ 4096 ∧ 1 ≤ n
  | _ => st.data.length ≤ 4096
theorem step_room (st : Cst) (c : UInt8) (h : st.room) : (st.step c).room := by
  obtain ⟨ph, d⟩ := st
  unfold Cst.room at h
  unfold Cst.step
  cases ph with
  | head cur =>
    dsimp only at h ⊢
    split
    · exact h
    · split
      · unfold headF
        split
        · exact h
        · split
          · exact h
          · split
            · exact h
            · unfold Cst.room; dsimp only; omega
      · split
        · exact h
        · exact h
  | body n =>
    dsimp only at h ⊢
    split
    · unfold Cst.room; dsimp only; rw [List.length_append, List.length_singleton]; omega
    · unfold Cst.room; dsimp only; rw [List.length_append, List.length_singleton]; omega
  | cr => dsimp only at h ⊢; split <;> exact h
  | lf => dsimp only at h ⊢; split <;> exact h
  | tail cur k f =>
    dsimp only at h ⊢
    split
    · exact h
    · split
      · exact h
      · split
        · unfold tailF
          repeat' split
          all_goals exact h
        · exact h
  | done => exact h
  | bad e => exact h
theorem room_le {st : Cst} (h : st.room) : st.data.length ≤ 4096 := by
  obtain ⟨ph, d⟩ := st
  unfold Cst.room at h
  cases ph <;> dsimp only at h ⊢ <;> omega
theorem run_room : ∀ (s : List UInt8) (st : Cst), st.room → (st.run s).2.room
  | [], st, h => h
  | c :: s, st, h => by
    cases hs : st.stop with
    | true => rw [run_stop hs]; exact h
    | false => rw [run_cons hs]; exact run_room s _ (step_room st c h)
theorem new_room : Cst.new.room := by show (0 : Nat) ≤ 4096; omega
end Go.Proofs.YtfdbmbgpcioogaaGreatDoor
/- Bodies that were made in chunks; what stands in a text, in order. -/
namespace Go.Proofs.YtfdbmbgpcioogaaGreatDoor
open Go.RowKit

theorem endCR_snoc (l : List UInt8) (c : UInt8) : endCR (l ++ [c]) = (c == 13) := by
  unfold endCR; rw [List.getLast?_append]; simp
theorem endCR_no {l : List UInt8} (h : 13 ∉ l) : endCR l = false := by
  rcases List.eq_nil_or_concat l with rfl | ⟨p, c, rfl⟩
  · rfl
  · rw [List.concat_eq_append, endCR_snoc, beq_eq_false_iff_ne]
    rintro rfl
    exact h (by simp)
theorem run_head_text : ∀ (t cur d : List UInt8), 13 ∉ cur → 13 ∉ t → 10 ∉ t → cur.length + t.length ≤ 2048 → (⟨.head cur, d⟩ : Cst).run t = (t.length, ⟨.head (cur ++ t), d⟩)
  | [], cur, d, _, _, _, _ => by simp [Cst.run]
  | c :: t, cur, d, h1, h2, h3, h4 => by
    have hc13 : c ≠ 13 := fun e => h2 (by rw [e]; exact .head _)
    have hc10 : (c == 10) = false := beq_eq_false_iff_ne.2 fun e => h3 (by rw [e]; exact .head _)
    simp only [List.length_cons] at h4
    have hs : (⟨.head cur, d⟩ : Cst).step c = ⟨.head (cur ++ [c]), d⟩ := by
      unfold Cst.step
      dsimp only
      rw [endCR_no h1, hc10, if_neg (fun h => h rfl), if_neg Bool.false_ne_true, if_neg (by omega)]
    rw [run_cons rfl, hs, run_head_text t (cur ++ [c]) d (fun h => by
      rcases List.mem_append.1 h with h | h
      · exact h1 h
      · exact hc13 (List.mem_singleton.1 h).symm) (fun h => h2 (.tail _ h)) (fun h => h3 (.tail _ h)) (by rw [List.length_append, List.length_singleton]; omega)]
    rw [List.append_assoc]; rfl
/-- A head's line. -/
theorem run_head_line {t d : List UInt8} (h2 : 13 ∉ t) (h3 : 10 ∉ t) (h4 : t.length ≤ 2047) : (⟨.head [], d⟩ : Cst).run (t ++ [13, 10]) = (t.length + 2, ⟨headF t d, d⟩) := by
  rw [run_append, run_head_text t [] d List.not_mem_nil h2 h3 (by simp; omega)]
  have hs : (⟨.head ([] ++ t), d⟩ : Cst).step 13 = ⟨.head (t ++ [13]), d⟩ := by
    unfold Cst.step
    dsimp only
    rw [List.nil_append, endCR_no h2, show ((13 : UInt8) == 10) = false from rfl, if_neg (fun h => h rfl), if_neg Bool.false_ne_true, if_neg (by omega)]
  have hs2 : (⟨.head (t ++ [13]), d⟩ : Cst).step 10 = ⟨headF t d, d⟩ := by
    unfold Cst.step
    dsimp only
    rw [endCR_snoc, show ((13 : UInt8) == 13) = true from rfl, show ((10 : UInt8) == 10) = true from rfl, if_neg (fun h => h rfl), if_pos rfl, List.dropLast_concat]
  have e : (⟨.head ([] ++ t), d⟩ : Cst).run [13, 10] = (2, ⟨headF t d, d⟩) := by
    rw [run_cons rfl, hs, run_cons rfl, hs2]; rfl
  rw [e]
theorem run_body : ∀ (x d : List UInt8), x ≠ [] → (⟨.body x.length, d⟩ : Cst).run x = (x.length, ⟨.cr, d ++ x⟩)
  | [], _, h => absurd rfl h
  | [c], d, _ => rfl
  | c :: c' :: x, d, _ => by
    have hs : (⟨.body (c :: c' :: x).length, d⟩ : Cst).step c = ⟨.body (c' :: x).length, d ++ [c]⟩ := by
      unfold Cst.step
      dsimp only
      rw [if_neg (by simp)]; rfl
    rw [run_cons rfl, hs, run_body (c' :: x) (d ++ [c]) (by simp), List.append_assoc]; rfl
/-- A whole chunk. -/
theorem run_chunk {t d x : List UInt8} (h2 : 13 ∉ t) (h3 : 10 ∉ t) (h4 : t.length ≤ 2047) (hx : x ≠ []) (hz : sizeF t = some x.length) (hd : d.length + x.length ≤ 4096) :
    (⟨.head [], d⟩ : Cst).run ((t ++ [13, 10]) ++ (x ++ [13, 10])) = (t.length + 2 + (x.length + 2), ⟨.head [], d ++ x⟩) := by
  have hH : headF t d = .body x.length := by
    unfold headF
    rw [hz]
    dsimp only
    rw [if_neg (by omega), if_neg (fun h => hx (List.length_eq_zero_iff.1 h))]
  have e : (⟨.cr, d ++ x⟩ : Cst).run [13, 10] = (2, ⟨.head [], d ++ x⟩) := rfl
  rw [run_append, run_head_line h2 h3 h4, hH]
  dsimp only
  rw [run_append, run_body x d hx]
  dsimp only
  rw [e]
theorem run_last (d : List UInt8) (hd : d.length ≤ 4096) : (⟨.head [], d⟩ : Cst).run [48, 13, 10] = (3, ⟨.tail [] 0 0, d⟩) := by
  have := run_head_line (t := [48]) (d := d) (by decide) (by decide) (by decide)
  have hH : headF [48] d = .tail [] 0 0 := by
    unfold headF
    rw [show sizeF [48] = some 0 by decide]
    dsimp only
    rw [if_neg (by omega), if_pos rfl]
  rw [hH] at this
  exact this
theorem run_end (d : List UInt8) (k f : Nat) (hk : k + 2 ≤ 2048) : (⟨.tail [] k f, d⟩ : Cst).run [13, 10] = (2, ⟨.done, d⟩) := by
  have hs : (⟨.tail [] k f, d⟩ : Cst).step 13 = ⟨.tail [13] (k + 1) f, d⟩ := by
    unfold Cst.step; dsimp only; rw [if_neg (by omega)]; rfl
  have hs2 : (⟨.tail [13] (k + 1) f, d⟩ : Cst).step 10 = ⟨.done, d⟩ := by
    unfold Cst.step; dsimp only; rw [if_neg (by omega)]; rfl
  rw [run_cons rfl, hs, run_cons rfl, hs2]; rfl
/-- Sum: none, CR LF. -/
def sumL : List UInt8 := [83, 117, 109, 58, 32, 110, 111, 110, 101, 13, 10]
theorem run_sum (d : List UInt8) : (⟨.tail [] 0 0, d⟩ : Cst).run sumL = (11, ⟨.tail [] 11 1, d⟩) := by rfl

/-! Numerals of 16. -/
def hexC (n : Nat) : UInt8 := if n < 10 then UInt8.ofNat (48 + n) else UInt8.ofNat (87 + n)
def hexF : Nat → Nat → List UInt8
  | 0, n => [hexC n]
  | f + 1, n => if n < 16 then [hexC n] else hexF f (n / 16) ++ [hexC (n % 16)]
def hexT (n : Nat) : List UInt8 := hexF 3 n
/-- What may stand behind a size. -/
def nameL : List UInt8 := [59, 110, 97, 109, 101, 61, 118, 97, 108, 117, 101]
theorem hexN_C : ∀ n : Fin 16, hexN (hexC n.1) = some n.1 ∧ hexC n.1 ≠ 59 ∧ hexC n.1 ≠ 13 ∧ hexC n.1 ≠ 10 := by decide +kernel
theorem hexF_len : ∀ f n, (hexF f n).length ≤ f + 1 ∧ 1 ≤ (hexF f n).length
  | 0, n => by simp [hexF]
  | f + 1, n => by
    rw [hexF]
    split
    · simp
    · have := hexF_len f (n / 16)
      rw [List.length_append, List.length_singleton]; omega
theorem hexF_mem : ∀ f n, n < 16 ^ (f + 1) → ∀ c ∈ hexF f n, ∃ k : Fin 16, c = hexC k.1
  | 0, n, h, c, hc => by
    rw [hexF] at hc
    exact ⟨⟨n, by simpa using h⟩, List.mem_singleton.1 hc⟩
  | f + 1, n, h, c, hc => by
    rw [hexF] at hc
    split at hc
    · exact ⟨⟨n, by omega⟩, List.mem_singleton.1 hc⟩
    · rcases List.mem_append.1 hc with hc | hc
      · exact hexF_mem f (n / 16) (by rw [Nat.pow_succ] at h; omega) c hc
      · exact ⟨⟨n % 16, by omega⟩, List.mem_singleton.1 hc⟩
theorem size_hex : ∀ (f n : Nat) (k x : Nat) (r : List UInt8), n < 16 ^ (f + 1) → k + (hexF f n).length ≤ 8 → sizeGo k x (hexF f n ++ r) = sizeGo (k + (hexF f n).length) (16 ^ (hexF f n).length * x + n) r
  | 0, n, k, x, r, h, hk => by
    have hn : n < 16 := by simpa using h
    have hc := hexN_C ⟨n, hn⟩
    rw [hexF] at hk ⊢
    simp only [List.length_singleton] at hk ⊢
    rw [List.singleton_append, sizeGo, if_neg hc.2.1, hc.1]
    dsimp only
    rw [if_neg (by omega)]
  | f + 1, n, k, x, r, h, hk => by
    rw [hexF] at hk ⊢
    split
    · rename_i hn
      rw [if_pos hn] at hk
      have hc := hexN_C ⟨n, hn⟩
      simp only [List.length_singleton] at hk ⊢
      rw [List.singleton_append, sizeGo, if_neg hc.2.1, hc.1]
      dsimp only
      rw [if_neg (by omega)]
    · rename_i hn
      rw [if_neg hn] at hk
      rw [List.length_append, List.length_singleton] at hk
      have hc := hexN_C ⟨n % 16, by omega⟩
      rw [List.append_assoc, size_hex f (n / 16) k x _ (by rw [Nat.pow_succ] at h; omega) (by omega), List.singleton_append, sizeGo, if_neg hc.2.1, hc.1]
      dsimp only
      rw [if_neg (by omega), List.length_append, List.length_singleton]
      have e : 16 * (16 ^ (hexF f (n / 16)).length * x + n / 16) + n % 16 = 16 ^ ((hexF f (n / 16)).length + 1) * x + n := by
        rw [Nat.pow_succ, Nat.mul_add, ← Nat.mul_assoc, Nat.mul_comm 16 (16 ^ _)]; omega
      rw [e, Nat.add_assoc]
theorem size_plain {n : Nat} (h : n < 65536) : sizeF (hexT n) = some n := by
  have hl := hexF_len 3 n
  have := size_hex 3 n 0 0 [] h (by omega)
  rw [List.append_nil] at this
  unfold sizeF hexT
  rw [this, sizeGo, if_neg (by omega)]; simp
theorem size_great {n : Nat} (h : n < 65536) : sizeF (([48] ++ hexT n) ++ nameL) = some n := by
  have hl := hexF_len 3 n
  have e : sizeF (([48] ++ hexT n) ++ nameL) = sizeGo 1 0 (hexT n ++ nameL) := by
    unfold sizeF
    rw [List.append_assoc, List.singleton_append, sizeGo, if_neg (by decide), show hexN 48 = some 0 by decide]
    dsimp only
    rw [if_neg (by omega)]
  unfold hexT at *
  rw [e, size_hex 3 n 1 0 nameL h (by omega), nameL, sizeGo, if_pos rfl, if_neg (by omega), if_neg (by decide)]
  simp
theorem hex_plain {n : Nat} (h : n < 65536) : 13 ∉ hexT n ∧ 10 ∉ hexT n := by
  refine ⟨fun hm => ?_, fun hm => ?_⟩
  · obtain ⟨k, hk⟩ := hexF_mem 3 n h _ hm
    exact (hexN_C k).2.2.1 hk.symm
  · obtain ⟨k, hk⟩ := hexF_mem 3 n h _ hm
    exact (hexN_C k).2.2.2 hk.symm
/-! A text that stands in another one, in order. -/
def greedy : List UInt8 → List UInt8 → List UInt8
  | [], _ => []
  | w, [] => w
  | a :: w, c :: s => if c = a then greedy w s else greedy (a :: w) s
theorem greedy_sub : ∀ (s w : List UInt8), w.Sublist s → greedy w s = []
  | [], w, h => by
    rw [List.sublist_nil.1 h, greedy]
  | c :: s, [], _ => by rw [greedy]
  | c :: s, a :: w, h => by
    rw [greedy]
    split
    · rename_i hc
      subst hc
      exact greedy_sub s w (List.cons_sublist_cons.1 h)
    · rename_i hc
      refine greedy_sub s (a :: w) ?_
      cases h with
      | cons _ h => exact h
      | cons_cons _ h => exact absurd rfl hc
end Go.Proofs.YtfdbmbgpcioogaaGreatDoor
/- Requests out of bytes, as list functions: lines, numbers, a head, one step. -/
namespace Go.Proofs.YtfdbmbgpcioogaaGreatDoor
open Go.RowKit

/-- A head's lines, without the ends; cur: what was read of one. -/
def lnsF : List UInt8 → List UInt8 → List (List UInt8)
  | cur, [] => [cur]
  | cur, [c] => [cur ++ [c]]
  | cur, c :: d :: r => if c = 13 ∧ d = 10 then cur :: lnsF [] r else lnsF (cur ++ [c]) (d :: r)
/-- A text's number, but no more than 5000. -/
def numGo : Nat → List UInt8 → Option Nat
  | n, [] => some n
  | n, c :: r => if 48 ≤ c.toNat ∧ c.toNat ≤ 57 then numGo (min (10 * n + (c.toNat - 48)) 5000) r else none
def numF (s : List UInt8) : Option Nat := if s = [] then none else numGo 0 s
/-- Behind which place the first head ends. -/
def endF : List UInt8 → Option Nat
  | [] => none
  | c :: r => if (c :: r).take 4 = [13, 10, 13, 10] then some 4 else (endF r).map (· + 1)
def hostL : List UInt8 := [104, 111, 115, 116]
def teL : List UInt8 := [116, 114, 97, 110, 115, 102, 101, 114, 45, 101, 110, 99, 111, 100, 105, 110, 103]
def chL : List UInt8 := [99, 104, 117, 110, 107, 101, 100]
def clL : List UInt8 := [99, 111, 110, 116, 101, 110, 116, 45, 108, 101, 110, 103, 116, 104]
def coL : List UInt8 := [99, 111, 110, 110, 101, 99, 116, 105, 111, 110]
def closeL : List UInt8 := [99, 108, 111, 115, 101]
/-- What the fields said so far. -/
structure Hs where
  fs : List (List UInt8 × List UInt8)
  hosts : Nat
  coded : Nat
  len : Option Nat
  text : List UInt8
  cl : Bool
def lineH (h : Hs) (l : List UInt8) : Option Hs :=
  if (parseF l).2.2 = false then none
  else if alikeF (parseF l).1 teL = true ∧ alikeF (parseF l).2.1 chL = false then none
  else if alikeF (parseF l).1 clL = true ∧ (numF (parseF l).2.1 = none ∨ (h.len ≠ none ∧ (parseF l).2.1 ≠ h.text)) then none
  else some {
    fs := h.fs ++ [((parseF l).1, (parseF l).2.1)]
    hosts := h.hosts + (alikeF (parseF l).1 hostL).toNat
    coded := h.coded + (alikeF (parseF l).1 teL).toNat
    len := if alikeF (parseF l).1 clL = true then numF (parseF l).2.1 else h.len
    text := if alikeF (parseF l).1 clL = true then (parseF l).2.1 else h.text
    cl := h.cl || (alikeF (parseF l).1 coL && hasF (parseF l).2.1 closeL) }
def linesH : Hs → List (List UInt8) → Option Hs
  | h, [] => some h
  | h, l :: r => match lineH h l with
    | none => none
    | some h' => linesH h' r
structure Rq where
  m : List UInt8
  p : List UInt8
  q : List UInt8
  v : Nat
  fs : List (List UInt8 × List UInt8)
  body : List UInt8
  cl : Bool
/-- What a head says: what is wrong, or a request without its body, and how long that is (none: in chunks). -/
inductive Hd where
  | bad (code : Nat)
  | ok (r : Rq) (len : Option Nat)
def headL (l : List (List UInt8)) : Hd := match l with
  | [] => .bad 400
  | l0 :: ls => if 33 < (l0 :: ls).length then .bad 431
    else if (lineF l0).2.2.2 = false ∨ (targetF (lineF l0).2.1).2.2 = false then .bad 400
    else match linesH ⟨[], 0, 0, none, [], (lineF l0).2.2.1 == 10⟩ ls with
      | none => .bad 400
      | some h => if ((lineF l0).2.2.1 = 11 ∧ h.hosts ≠ 1) ∨ 1 < h.coded ∨ (h.coded = 1 ∧ ((lineF l0).2.2.1 = 10 ∨ h.len ≠ none)) then .bad 400
        else if h.coded = 1 then .ok ⟨(lineF l0).1, (targetF (lineF l0).2.1).1, (targetF (lineF l0).2.1).2.1, (lineF l0).2.2.1, h.fs, [], h.cl⟩ none
        else if 4096 < h.len.getD 0 then .bad 413
        else .ok ⟨(lineF l0).1, (targetF (lineF l0).2.1).1, (targetF (lineF l0).2.1).2.1, (lineF l0).2.2.1, h.fs, [], h.cl⟩ (some (h.len.getD 0))
def headR (s : List UInt8) : Hd := headL (lnsF [] s)
/-- One request, or what is wrong, or nothing yet. -/
inductive Stp where
  | more
  | bad (code : Nat)
  | req (r : Rq) (rest : List UInt8)
def bodyS (r : Rq) (len : Option Nat) (t : List UInt8) : Stp := match len with
  | some n => if t.length < n then .more else .req { r with body := t.take n } (t.drop n)
  | none => if (Cst.new.run t).2.badN ≠ 0 then .bad (Cst.new.run t).2.badN
    else if (Cst.new.run t).2.isDone = false then .more else .req { r with body := (Cst.new.run t).2.data } (t.drop (Cst.new.run t).1)
def stepS (s : List UInt8) : Stp := match endF s with
  | none => if 2048 ≤ s.length then .bad 431 else .more
  | some n => if 2048 < n then .bad 431 else match headR (s.take (n - 4)) with
    | .bad c => .bad c
    | .ok r len => bodyS r len (s.drop n)
theorem endF_le : ∀ (s : List UInt8) (n : Nat), endF s = some n → 4 ≤ n ∧ n ≤ s.length
  | [], n, h => by cases h
  | c :: r, n, h => by
    rw [endF] at h
    split at h
    · rename_i ht
      cases h
      have := congrArg List.length ht
      simp only [List.length_take, List.length_cons, List.length_nil] at this ⊢
      omega
    · cases hr : endF r with
      | none => rw [hr] at h; cases h
      | some k =>
        rw [hr] at h
        cases h
        have := endF_le r k hr
        simp only [List.length_cons]; omega
theorem endF_append : ∀ (s t : List UInt8) (n : Nat), endF s = some n → endF (s ++ t) = some n
  | [], t, n, h => by cases h
  | c :: r, t, n, h => by
    have hl := endF_le (c :: r) n h
    rw [endF] at h
    rw [List.cons_append, endF]
    have ht : 4 ≤ (c :: r).length → (c :: (r ++ t)).take 4 = (c :: r).take 4 := fun h4 => by
      rw [← List.cons_append, List.take_append_of_le_length h4]
    rw [ht (by omega)]
    split at h
    · rename_i h0
      rw [if_pos h0, h]
    · rename_i h0
      rw [if_neg h0]
      cases hr : endF r with
      | none => rw [hr] at h; cases h
      | some k =>
        rw [hr] at h
        rw [endF_append r t k hr]
        exact h
/-- No head ends within the first bytes, and what is behind changes nothing of it. -/
theorem endF_late : ∀ (s t : List UInt8) (n : Nat), endF s = none → endF (s ++ t) = some n → s.length < n
  | [], t, n, _, h => by have := (endF_le _ n h).1; simp; omega
  | c :: r, t, n, h0, h => by
    rw [endF] at h0
    rw [List.cons_append, endF] at h
    split at h0
    · cases h0
    · rename_i hn
      split at h
      · rename_i hy
        cases h
        by_cases h4 : 4 ≤ (c :: r).length
        · rw [← List.cons_append, List.take_append_of_le_length h4] at hy
          exact absurd hy hn
        · omega
      · cases hr : endF r with
        | some j => rw [hr] at h0; cases h0
        | none =>
          cases hrt : endF (r ++ t) with
          | none => rw [hrt] at h; cases h
          | some j =>
            rw [hrt] at h
            cases h
            have := endF_late r t j hr hrt
            simp only [List.length_cons]; omega
theorem bodyS_append {r : Rq} {len : Option Nat} {t : List UInt8} (u : List UInt8) :
    (∀ c, bodyS r len t = .bad c → bodyS r len (t ++ u) = .bad c) ∧ ∀ q x, bodyS r len t = .req q x → bodyS r len (t ++ u) = .req q (x ++ u) := by
  cases len with
  | some n =>
    unfold bodyS
    dsimp only
    refine ⟨fun c h => ?_, fun q x h => ?_⟩
    · split at h <;> cases h
    · split at h
      · cases h
      · rename_i hl
        cases h
        rw [if_neg (by rw [List.length_append]; omega), List.take_append_of_le_length (by omega), List.drop_append_of_le_length (by omega)]
  | none =>
    have hf := run_fine t _ new_fine
    unfold bodyS
    dsimp only
    refine ⟨fun c h => ?_, fun q x h => ?_⟩
    · split at h
      · rename_i hb
        cases h
        have hs : (Cst.new.run t).2.stop = true := (stop_iff hf).2 (.inr hb)
        rw [run_append, run_stop hs]
        dsimp only
        rw [if_pos hb]
      · split at h <;> cases h
    · split at h
      · cases h
      · rename_i hb
        split at h
        · cases h
        · rename_i hd
          cases h
          have hd' : (Cst.new.run t).2.isDone = true := by simpa using hd
          have hs : (Cst.new.run t).2.stop = true := (stop_iff hf).2 (.inl hd')
          rw [run_append, run_stop hs]
          dsimp only
          rw [if_neg hb, if_neg hd, Nat.add_zero, List.drop_append_of_le_length (run_le t _)]
/-- What was found stays, whatever stands behind. -/
theorem step_append (s u : List UInt8) : (∀ c, stepS s = .bad c → stepS (s ++ u) = .bad c) ∧ ∀ q x, stepS s = .req q x → stepS (s ++ u) = .req q (x ++ u) := by
  unfold stepS
  cases he : endF s with
  | none =>
    dsimp only
    refine ⟨fun c h => ?_, fun q x h => ?_⟩
    · split at h
      · rename_i hl
        cases h
        cases hu : endF (s ++ u) with
        | none => dsimp only; rw [if_pos (by rw [List.length_append]; omega)]
        | some n =>
          have := endF_late s u n he hu
          dsimp only
          rw [if_pos (by omega)]
      · cases h
    · split at h <;> cases h
  | some n =>
    rw [endF_append s u n he]
    have hn := endF_le s n he
    dsimp only
    rw [List.take_append_of_le_length (by omega), List.drop_append_of_le_length hn.2]
    split
    · exact ⟨fun c h => h, fun q x h => by cases h⟩
    · cases headR (s.take (n - 4)) with
      | bad c => exact ⟨fun c h => h, fun q x h => by cases h⟩
      | ok r len => exact bodyS_append u
theorem bodyS_shorter {r q : Rq} {len : Option Nat} {t x : List UInt8} (h : bodyS r len t = .req q x) : x.length ≤ t.length := by
  cases len with
  | some n =>
    unfold bodyS at h
    dsimp only at h
    split at h
    · cases h
    · cases h; rw [List.length_drop]; omega
  | none =>
    unfold bodyS at h
    dsimp only at h
    split at h
    · cases h
    · split at h
      · cases h
      · cases h; rw [List.length_drop]; omega
theorem step_shorter {s x : List UInt8} {q : Rq} (h : stepS s = .req q x) : x.length < s.length := by
  unfold stepS at h
  cases he : endF s with
  | none => rw [he] at h; dsimp only at h; split at h <;> cases h
  | some n =>
    have hn := endF_le s n he
    rw [he] at h
    dsimp only at h
    split at h
    · cases h
    · cases hh : headR (s.take (n - 4)) with
      | bad c => rw [hh] at h; cases h
      | ok r len =>
        rw [hh] at h
        have := bodyS_shorter h
        rw [List.length_drop] at this
        omega
/-! Which codes are told. -/
def Code (c : Nat) : Prop := c = 400 ∨ c = 413 ∨ c = 431
def Cst.told (st : Cst) : Prop := ∀ c, st.ph = .bad c → Code c
theorem headF_told (t d : List UInt8) (c : Nat) (h : headF t d = .bad c) : Code c := by
  unfold headF at h
  split at h
  · cases h; exact .inl rfl
  · split at h
    · cases h; exact .inr (.inl rfl)
    · split at h <;> cases h
theorem tailF_told (t : List UInt8) (k f c : Nat) (h : tailF t k f = .bad c) : Code c := by
  unfold tailF at h
  split at h
  · cases h
  · split at h
    · cases h; exact .inl rfl
    · split at h
      · cases h; exact .inr (.inr rfl)
      · cases h
theorem step_told (st : Cst) (c : UInt8) (h : st.told) : (st.step c).told := by
  obtain ⟨ph, d⟩ := st
  intro b hb
  cases ph with
  | head cur =>
    unfold Cst.step at hb
    dsimp only at hb
    split at hb
    · cases hb; exact .inl rfl
    · split at hb
      · exact headF_told _ _ _ hb
      · split at hb
        · cases hb; exact .inr (.inr rfl)
        · cases hb
  | body n =>
    unfold Cst.step at hb
    dsimp only at hb
    split at hb <;> cases hb
  | cr =>
    unfold Cst.step at hb
    dsimp only at hb
    split at hb
    · cases hb
    · cases hb; exact .inl rfl
  | lf =>
    unfold Cst.step at hb
    dsimp only at hb
    split at hb
    · cases hb
    · cases hb; exact .inl rfl
  | tail cur k f =>
    unfold Cst.step at hb
    dsimp only at hb
    split at hb
    · cases hb; exact .inr (.inr rfl)
    · split at hb
      · cases hb; exact .inl rfl
      · split at hb
        · exact tailF_told _ _ _ _ hb
        · cases hb
  | done => exact h b hb
  | bad k => exact h b hb
theorem run_told : ∀ (s : List UInt8) (st : Cst), st.told → (st.run s).2.told
  | [], _, h => h
  | c :: s, st, h => by
    cases hs : st.stop with
    | true => rw [run_stop hs]; exact h
    | false => rw [run_cons hs]; exact run_told s _ (step_told st c h)
theorem chunk_code (t : List UInt8) (h : (Cst.new.run t).2.badN ≠ 0) : Code (Cst.new.run t).2.badN := by
  have hf := run_told t Cst.new (fun c h => by cases h)
  generalize (Cst.new.run t).2 = st at *
  obtain ⟨ph, d⟩ := st
  cases ph with
  | bad c => exact hf c rfl
  | _ => exact absurd rfl h
theorem head_code (l : List (List UInt8)) (c : Nat) (h : headL l = .bad c) : Code c := by
  cases l with
  | nil => cases h; exact .inl rfl
  | cons l0 ls =>
    unfold headL at h
    dsimp only at h
    split at h
    · cases h; exact .inr (.inr rfl)
    · split at h
      · cases h; exact .inl rfl
      · split at h
        · cases h; exact .inl rfl
        · split at h
          · cases h; exact .inl rfl
          · split at h
            · cases h
            · split at h
              · cases h; exact .inr (.inl rfl)
              · cases h
theorem step_codes {s : List UInt8} {c : Nat} (h : stepS s = .bad c) : Code c := by
  unfold stepS at h
  cases he : endF s with
  | none =>
    rw [he] at h
    dsimp only at h
    split at h
    · cases h; exact .inr (.inr rfl)
    · cases h
  | some n =>
    rw [he] at h
    dsimp only at h
    split at h
    · cases h; exact .inr (.inr rfl)
    · cases hh : headR (s.take (n - 4)) with
      | bad b => rw [hh] at h; cases h; exact head_code _ _ hh
      | ok r len =>
        rw [hh] at h
        dsimp only at h
        cases len with
        | some k => unfold bodyS at h; dsimp only at h; split at h <;> cases h
        | none =>
          unfold bodyS at h
          dsimp only at h
          split at h
          · rename_i hb
            cases h
            exact chunk_code _ hb
          · split at h <;> cases h

/-! A parser. -/
structure PSt where
  buf : List UInt8
  bad : Nat
def PSt.new : PSt := ⟨[], 0⟩
def PSt.feed (p : PSt) (s : List UInt8) : PSt := if p.bad = 0 then ⟨p.buf ++ s, 0⟩ else p
def PSt.next (p : PSt) : Option Rq × PSt := if p.bad = 0 then (match stepS p.buf with
  | .more => (none, p)
  | .bad c => (none, ⟨[], c⟩)
  | .req r x => (some r, ⟨x, 0⟩)) else (none, p)
def PSt.rest (p : PSt) : PSt := ⟨[], p.bad⟩
/-- Asked till nothing is there. -/
inductive Drains : PSt → List Rq → PSt → Prop where
  | stop {p p' : PSt} (h : p.next = (none, p')) : Drains p [] p'
  | more {p p1 p' : PSt} {r : Rq} {l : List Rq} (h : p.next = (some r, p1)) (hd : Drains p1 l p') : Drains p (r :: l) p'
theorem next_len {p p1 : PSt} {r : Rq} (h : p.next = (some r, p1)) : p.bad = 0 ∧ p1.bad = 0 ∧ p1.buf.length < p.buf.length ∧ stepS p.buf = .req r p1.buf := by
  unfold PSt.next at h
  split at h
  · rename_i hb
    cases hs : stepS p.buf with
    | more => rw [hs] at h; cases h
    | bad c => rw [hs] at h; cases h
    | req q x => rw [hs] at h; cases h; exact ⟨hb, rfl, step_shorter hs, rfl⟩
  · cases h
theorem drains_ex : ∀ (n : Nat) (p : PSt), p.buf.length ≤ n → ∃ l p', Drains p l p' ∧ l.length ≤ p.buf.length
  | 0, p, hn => by
    obtain ⟨⟨o, p1⟩, h⟩ : ∃ x, p.next = x := ⟨_, rfl⟩
    cases o with
    | none => exact ⟨[], p1, .stop h, by simp⟩
    | some r => have := (next_len h).2.2.1; omega
  | n + 1, p, hn => by
    obtain ⟨⟨o, p1⟩, h⟩ : ∃ x, p.next = x := ⟨_, rfl⟩
    cases o with
    | none => exact ⟨[], p1, .stop h, by simp⟩
    | some r =>
      have hl := (next_len h).2.2.1
      obtain ⟨l, p', hd, hll⟩ := drains_ex n p1 (by omega)
      exact ⟨r :: l, p', .more h hd, by rw [List.length_cons]; omega⟩
theorem drains_one {p : PSt} {l l2 : List Rq} {p1 p2 : PSt} (h : Drains p l p1) (h2 : Drains p l2 p2) : l = l2 ∧ p1 = p2 := by
  induction h generalizing l2 p2 with
  | stop h =>
    cases h2 with
    | stop h' => rw [h] at h'; cases h'; exact ⟨rfl, rfl⟩
    | more h' _ => rw [h] at h'; cases h'
  | more h hd ih =>
    cases h2 with
    | stop h' => rw [h] at h'; cases h'
    | more h' hd' =>
      rw [h] at h'
      cases h'
      obtain ⟨rfl, rfl⟩ := ih hd'
      exact ⟨rfl, rfl⟩
/-- Fed behind what is left: nothing of what was told changes. -/
theorem drains_feed {p p1 p2 : PSt} {l l2 : List Rq} (s : List UInt8) (h : Drains p l p1) (h2 : Drains (p1.feed s) l2 p2) : Drains (p.feed s) (l ++ l2) p2 := by
  induction h with
  | @stop p p' h =>
    unfold PSt.next at h
    by_cases hb : p.bad = 0
    · rw [if_pos hb] at h
      cases hs : stepS p.buf with
      | more => rw [hs] at h; cases h; exact h2
      | bad c =>
        rw [hs] at h
        cases h
        have hc : c ≠ 0 := by rcases step_codes hs with h | h | h <;> omega
        have e1 : PSt.feed ⟨[], c⟩ s = ⟨[], c⟩ := by unfold PSt.feed; rw [if_neg hc]
        have e2 : PSt.next ⟨[], c⟩ = (none, ⟨[], c⟩) := by unfold PSt.next; rw [if_neg hc]
        rw [e1] at h2
        obtain ⟨rfl, rfl⟩ := drains_one h2 (.stop e2)
        refine .stop ?_
        have e3 : p.feed s = ⟨p.buf ++ s, 0⟩ := by unfold PSt.feed; rw [if_pos hb]
        rw [e3]
        unfold PSt.next
        rw [if_pos rfl]
        dsimp only
        rw [(step_append p.buf s).1 c hs]
      | req r x => rw [hs] at h; cases h
    · rw [if_neg hb] at h; cases h; exact h2
  | @more p p1 p' r l h hd ih =>
    obtain ⟨hb, hb1, _, hs⟩ := next_len h
    have e3 : p.feed s = ⟨p.buf ++ s, 0⟩ := by unfold PSt.feed; rw [if_pos hb]
    have e4 : p1.feed s = ⟨p1.buf ++ s, 0⟩ := by unfold PSt.feed; rw [if_pos hb1]
    refine .more (p1 := p1.feed s) ?_ (ih h2)
    rw [e3, e4]
    unfold PSt.next
    rw [if_pos rfl]
    dsimp only
    rw [(step_append p.buf s).2 r p1.buf hs]
end Go.Proofs.YtfdbmbgpcioogaaGreatDoor
