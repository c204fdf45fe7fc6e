/- Bytes that wait: a slice at whatever place of its block: read, cut at the front, a text appended. -/
import Derived.Test.YtlmolmmhkddpaaaGen6
import Derived.Test.YtlmolmmhkddpaaaMv
import Derived.Test.YtlmolmmhkddpaaaProg
import Derived.Lib.AppendStr
namespace Go.Proofs.Ytlmolmmhkddpaaa
open Go.RowKit

/-- A slice of bytes, to be read. -/
def WaitV (w : World) (V : Value) (x : List UInt8) : Prop :=
  ∃ a c, V = .slice a x.length c ∧ x.length ≤ c ∧ (a = none → c = 0) ∧ ∀ i (h : i < x.length), ∃ k o, a = some ⟨k, o, none⟩ ∧ w.cell? ⟨k, o + i, none⟩ = some (B x[i])
/-- v holds the bytes x, in the block that ow names. -/
def WaitO (w : World) (v : Value) (ow : Option Nat) (x : List UInt8) : Prop :=
  (v = .slice none 0 0 ∧ ow = none ∧ x = []) ∨
  ∃ g o c cur, v = .slice (some ⟨g, o, none⟩) x.length c ∧ ow = some g ∧ w.heap[g]? = some (.cells cur 5 (0, 0)) ∧ x.length ≤ c ∧ o + c ≤ cur.size ∧ c ≤ maxLen ∧ ∀ i (h : i < x.length), cur[o + i]? = some (B x[i])
theorem slice_both (W : World) (a : Option Addr) (n c lo hi : Nat) (hlo : lo ≤ hi) (hhi : hi ≤ c) :
    (Instr.slice 38 (.slice a n c) (some (.int .i64 (lo : Int))) (some (.int .i64 (hi : Int))) none).run Try.prog W = .ok (.slice (if c = lo then a else a.map (·.add lo)) (hi - lo) (c - lo)) W := by
  simp [Instr.slice, run_underlying Try.underlying38, Instr.sliceBounds, run_sliceBound, Result.andThen, Try.sizeOf5, hlo, hhi]
theorem slice_from (W : World) (a : Option Addr) (n c p : Nat) (hp : p ≤ n) (_hn : n ≤ c) :
    (Instr.slice 38 (.slice a n c) (some (.int .i64 (p : Int))) none none).run Try.prog W = .ok (.slice (if c = p then a else a.map (·.add p)) (n - p) (c - p)) W := by
  simp [Instr.slice, run_underlying Try.underlying38, Instr.sliceBounds, run_sliceBound, Result.andThen, Try.sizeOf5, hp]
theorem slice_upto (W : World) (a : Option Addr) (n c k : Nat) (hk : k ≤ c) :
    (Instr.slice 38 (.slice a n c) none (some (.int .i64 (k : Int))) none).run Try.prog W = .ok (.slice a k c) W := by
  have : (Option.map (fun x : Addr => x.add 0) a) = a := by cases a <;> simp [Addr.add]
  simp [Instr.slice, run_underlying Try.underlying38, Instr.sliceBounds, run_sliceBound, Result.andThen, Try.sizeOf5, hk, this]
theorem WaitV.len {w : World} {V : Value} {x : List UInt8} (h : WaitV w V x) (T : TypeId) (w' : World) : (Builtin.len_ #[38] T #[V]).run Try.prog w' = .ok (.int .i64 (x.length : Int)) w' := by
  obtain ⟨a, c, rfl, _⟩ := h
  simp [Builtin.len_, run_underlying Try.underlying38, Result.andThen, goInt]
theorem WaitV.upto {w : World} {V : Value} {x : List UInt8} (h : WaitV w V x) (k : Nat) (hk : k ≤ x.length) :
    ∃ V', (∀ w', (Instr.slice 38 V none (some (.int .i64 (k : Int))) none).run Try.prog w' = .ok V' w') ∧ WaitV w V' (x.take k) := by
  obtain ⟨a, c, rfl, hc, hn, hcell⟩ := h
  refine ⟨.slice a k c, fun w' => slice_upto w' _ x.length c k (by omega), a, c, ?_, ?_, hn, fun i hi => ?_⟩
  · rw [List.length_take, Nat.min_eq_left hk]
  · rw [List.length_take]; omega
  · rw [List.length_take] at hi
    obtain ⟨k', o, h1, h2⟩ := hcell i (by omega)
    exact ⟨k', o, h1, by rw [h2, List.getElem_take]⟩
theorem WaitV.mid {w : World} {V : Value} {x : List UInt8} (h : WaitV w V x) (p q : Nat) (hp : p ≤ q) (hq : q ≤ x.length) :
    ∃ V', (∀ w', (Instr.slice 38 V (some (.int .i64 (p : Int))) (some (.int .i64 (q : Int))) none).run Try.prog w' = .ok V' w') ∧ WaitV w V' ((x.drop p).take (q - p)) := by
  obtain ⟨a, c, rfl, hc, hn, hcell⟩ := h
  have hl : ((x.drop p).take (q - p)).length = q - p := by rw [List.length_take, List.length_drop]; omega
  refine ⟨_, fun w' => slice_both w' _ x.length c p q hp (by omega), _, c - p, by rw [hl], by omega, fun he => ?_, fun i hi => ?_⟩
  · split at he
    · omega
    · cases a with
      | none => have := hn rfl; omega
      | some a => cases he
  · rw [hl] at hi
    obtain ⟨k', o, h1, h2⟩ := hcell (p + i) (by omega)
    refine ⟨k', o + p, ?_, ?_⟩
    · rw [if_neg (by omega), h1]; simp [Addr.add_lit]
    · rw [Nat.add_assoc, h2, List.getElem_take, List.getElem_drop]
theorem WaitV.text {w : World} {V : Value} {x : List UInt8} (h : WaitV w V x) : (convert 38 9 V).run Try.prog w = .ok (S x) w := by
  obtain ⟨a, c, rfl, hc, _, hcell⟩ := h
  cases a with
  | none =>
    have h0 : x = [] := by
      rcases Nat.eq_zero_or_pos x.length with h | h
      · exact List.length_eq_zero_iff.1 h
      · obtain ⟨_, _, h, _⟩ := hcell 0 h; cases h
    subst h0
    exact run_convert_bytes_nil (w := w) 38 5 Try.underlying38 Try.underlying5 0 c 9 Try.underlying9
  | some a =>
    exact run_convert_bytes_back (P := Try.prog) w 38 9 5 a c x Try.underlying38 Try.underlying5 Try.underlying9 (fun j hj => by
      obtain ⟨b, o, ha, hcl⟩ := hcell j (by omega)
      cases ha
      rw [Addr.add_mid, hcl]; rfl)
theorem WaitV.below {w w' : World} {V : Value} {x : List UInt8} (h : WaitV w V x) (hb : Below w.heap.size w w') : WaitV w' V x := by
  obtain ⟨a, c, hV, hc, hn, hcell⟩ := h
  refine ⟨a, c, hV, hc, hn, fun i hi => ?_⟩
  obtain ⟨k, o, ha, hcl⟩ := hcell i hi
  exact ⟨k, o, ha, by rw [hb.cell (World.block_lt_of_cell? w _ hcl)]; exact hcl⟩
section
variable {w w' : World} {v : Value} {ow : Option Nat} {x : List UInt8}
theorem WaitO.nil (w : World) : WaitO w (.slice none 0 0) none [] := .inl ⟨rfl, rfl, rfl⟩
theorem WaitO.toV (h : WaitO w v ow x) : WaitV w v x := by
  rcases h with ⟨rfl, _, rfl⟩ | ⟨g, o, c, cur, rfl, _, hg, hc, ho, _, hx⟩
  · exact ⟨none, 0, rfl, Nat.le_refl _, fun _ => rfl, fun i hi => absurd hi (by simp)⟩
  · refine ⟨_, c, rfl, hc, fun h => by (cases h), fun i hi => ⟨g, o, rfl, ?_⟩⟩
    rw [cell_of_row w g (o + i) cur 5 (0, 0) hg]
    exact hx i hi
theorem WaitO.lt (h : WaitO w v ow x) : ∀ k, ow = some k → k < w.heap.size := by
  rintro k rfl
  rcases h with ⟨_, h, _⟩ | ⟨g, o, c, cur, _, h, hg, _⟩
  · cases h
  · cases h; exact (Array.getElem?_eq_some_iff.1 hg).1
theorem WaitO.same (h : WaitO w v ow x) (hb : ∀ k, ow = some k → w'.heap[k]? = w.heap[k]?) : WaitO w' v ow x := by
  rcases h with h | ⟨g, o, c, cur, h1, rfl, hg, h2⟩
  · exact .inl h
  · exact .inr ⟨g, o, c, cur, h1, rfl, (hb g rfl).trans hg, h2⟩
theorem WaitO.below (h : WaitO w v ow x) (hb : Below w.heap.size w w') : WaitO w' v ow x := h.same fun k hk => hb.block k (h.lt k hk)
theorem WaitO.form (h : WaitO w v ow x) : ∃ a c, v = .slice a x.length c ∧ x.length ≤ c := by
  rcases h with ⟨rfl, _, rfl⟩ | ⟨g, o, c, cur, rfl, _, _, hc, _⟩
  · exact ⟨none, 0, rfl, Nat.le_refl _⟩
  · exact ⟨_, c, rfl, hc⟩
/-- Cut at the front. -/
theorem WaitO.cut (h : WaitO w v ow x) (p : Nat) (hp : p ≤ x.length) :
    ∃ a c, (∀ W, (Instr.slice 38 v (some (.int .i64 (p : Int))) none none).run Try.prog W = .ok (.slice a (x.length - p) c) W) ∧ (p < x.length → WaitO w (.slice a (x.length - p) c) ow (x.drop p)) := by
  have hf := h.form
  obtain ⟨a, c, rfl, hc⟩ := hf
  refine ⟨_, _, fun W => slice_from W a x.length c p hp hc, fun hlt => ?_⟩
  rcases h with ⟨_, _, rfl⟩ | ⟨g, o, c', cur, he, rfl, hg, hc', ho, hm, hx⟩
  · simp at hlt
  · cases he
    refine .inr ⟨g, o + p, c - p, cur, ?_, rfl, hg, by rw [List.length_drop]; omega, by omega, by omega, fun i hi => ?_⟩
    · rw [if_neg (by omega), List.length_drop]; simp [Addr.add_lit]
    · rw [List.length_drop] at hi
      rw [Nat.add_assoc, hx (p + i) (by omega), List.getElem_drop]
end
theorem strCells_S (l : List UInt8) : Lib.strCells ⟨l.toArray⟩ = l.map B := by simp [Lib.strCells, B]
/-- There is room. -/
theorem append_room_off {P : Program} (w : World) (t u ty e : TypeId) (i : TypeInfo) (ht : P.underlying t = some (.slice e)) (hu : P.underlying u = some .string) (hi : P.info? e = some i) (hs1 : i.size = 1)
    (g o sLen sCap : Nat) (cur : Array Value) (hg : w.heap[g]? = some (.cells cur e (0, 0))) (s : ByteArray)
    (hroom : sLen + s.size ≤ sCap) (hfit : o + sLen + s.size ≤ cur.size) :
    (Builtin.append_ #[t, u] ty #[.slice (some ⟨g, o, none⟩) sLen sCap, .string s]).run P w =
      .ok (.slice (some ⟨g, o, none⟩) (sLen + s.size) sCap) (w.setRow g (cur.toList.take (o + sLen) ++ Lib.strCells s ++ cur.toList.drop (o + sLen + s.size)).toArray) := by
  have hf := Lib.run_firstCells_string (P := P) w 1 s
  have hst := run_storeCells_at P g (o + sLen) e (Lib.strCells s) 0 cur w hg (by simpa [Lib.strCells_length] using hfit) (Lib.strCells_oneCell s)
  simp only [Nat.add_zero, Lib.strCells_length] at hst
  simp [Builtin.append_, run_underlying ht, run_underlying hu, sizeOf, typeInfo, hi, hs1, Builtin.lenOf, hroom, hf, Addr.add_lit, hst]
theorem info5 : (Try.prog.info? 5).map (fun i => (i.zero, i.size, i.bytes)) = some (some (.int .u8 0), 1, 1) := by kernel_rfl
/-- A text is appended. -/
theorem WaitO.add {w : World} {v : Value} {ow : Option Nat} {x : List UInt8} (h : WaitO w v ow x) (s : List UInt8) (hb : x.length + s.length ≤ 1000000) (ty : TypeId) :
    ∃ a c ow' w', (Builtin.append_ #[38, 9] ty #[v, S s]).run Try.prog w = .ok (.slice a (x.length + s.length) c) w' ∧ WaitO w' (.slice a (x.length + s.length) c) ow' (x ++ s) ∧ w.grownBy w' ow ∧ (ow' = ow ∨ (ow' = some w.heap.size ∧ w.heap.size < w'.heap.size)) := by
  obtain ⟨i, hi, hz0, hz1, hz2⟩ : ∃ i, Try.prog.info? 5 = some i ∧ i.zero = some (Value.int .u8 0) ∧ i.size = 1 ∧ i.bytes = 1 := by
    have := info5
    cases hi : Try.prog.info? 5 with
    | none => rw [hi] at this; cases this
    | some i =>
      simp only [hi, Option.map_some, Option.some.injEq, Prod.mk.injEq] at this
      exact ⟨i, rfl, this.1, this.2.1, this.2.2⟩
  have hsz := S_size s
  have hlen : (x ++ s).length = x.length + s.length := List.length_append
  have grown : ∀ (old : Nat), old < x.length + s.length →
      WaitO (w.drew.alloc (.cells ((x.map B).toArray ++ (Lib.strCells ⟨s.toArray⟩).toArray ++ Builtin.zeroCells (Value.int .u8 0).cells (grownCap w (x.length + s.length) old 5 - (x.length + s.length))) 5))
        (.slice (some ⟨w.heap.size, 0, none⟩) (x.length + s.length) (grownCap w (x.length + s.length) old 5)) (some w.heap.size) (x ++ s) ∧
      w.grownBy (w.drew.alloc (.cells ((x.map B).toArray ++ (Lib.strCells ⟨s.toArray⟩).toArray ++ Builtin.zeroCells (Value.int .u8 0).cells (grownCap w (x.length + s.length) old 5 - (x.length + s.length))) 5)) ow := by
    intro old ho
    have hge := grownCap_ge w (x.length + s.length) old 5
    have hcm : grownCap w (x.length + s.length) old 5 ≤ maxLen := grownCap_le_maxLen w (x.length + s.length) old 5 (by simp only [maxLen]; omega)
    refine ⟨.inr ⟨w.heap.size, 0, _, _, by rw [hlen], rfl, heap_alloc_new w.drew _, by rw [hlen]; exact hge, ?_, hcm, fun j hj => ?_⟩, ⟨rfl, rfl, rfl, by simp, fun k hk _ => heap_alloc_old w.drew _ hk⟩⟩
    · have hz1' : (Value.int IntKind.u8 0).cells.size = 1 := rfl
      simp only [Array.size_append, List.size_toArray, size_zeroCells, hz1', List.length_map, strCells_S]
      omega
    · rw [Nat.zero_add, strCells_S, Array.getElem?_append_left (by simp only [Array.size_append, List.size_toArray, List.length_map]; omega)]
      rw [← Array.getElem?_toList, Array.toList_append]
      show (x.map B ++ s.map B)[j]? = _
      rw [← List.map_append, List.getElem?_map, List.getElem?_eq_getElem hj]; rfl
  rcases h with ⟨rfl, rfl, rfl⟩ | ⟨g, o, cap, cur, rfl, rfl, hg, hc, ho, hm, hx⟩
  · by_cases hs0 : s.length = 0
    · obtain rfl := List.length_eq_zero_iff.1 hs0
      refine ⟨none, 0, none, w, ?_, WaitO.nil w, ⟨rfl, rfl, rfl, Nat.le_refl _, fun _ _ _ => rfl⟩, .inl rfl⟩
      have hf := Lib.run_firstCells_string (P := Try.prog) w 1 ⟨#[]⟩
      have hsz0 : (⟨#[]⟩ : ByteArray).size = 0 := rfl
      rw [hsz0] at hf
      simp [S, Builtin.append_, run_underlying Try.underlying38, run_underlying Try.underlying9, sizeOf, typeInfo, hi, hz1, Builtin.lenOf, hsz0, hf, Lib.strCells]
    · have hr := run_append_nil_string (P := Try.prog) w 38 9 ty 5 i (.int .u8 0) Try.underlying38 Try.underlying9 hi hz0 ⟨s.toArray⟩ (by rw [hsz]; omega) (by rw [hsz]; omega) (by rw [hsz, hz2]; simp only [List.length_nil] at hb; omega)
      have hgr := grown 0 (by simp only [List.length_nil]; omega)
      rw [hsz] at hr
      simp only [List.length_nil, Nat.zero_add, List.map_nil, List.nil_append, Array.empty_append] at hgr ⊢
      have e1 : ((⟨s.toArray⟩ : ByteArray).data.map fun b => Value.int .u8 b.toNat) = (Lib.strCells ⟨s.toArray⟩).toArray := by
        apply Array.ext'
        simp [Lib.strCells]
      rw [e1] at hr
      exact ⟨_, _, _, _, hr, hgr.1, hgr.2, .inr ⟨rfl, by simp⟩⟩
  · by_cases hroom : x.length + s.length ≤ cap
    · have hr := append_room_off (P := Try.prog) w 38 9 ty 5 i Try.underlying38 Try.underlying9 hi hz1 g o x.length cap cur hg ⟨s.toArray⟩ (by rw [hsz]; exact hroom) (by rw [hsz]; omega)
      rw [hsz] at hr
      refine ⟨_, _, _, _, hr, .inr ⟨g, o, cap, _, by rw [hlen], rfl, setRow_heap w g cur _ 5 _ hg, by rw [hlen]; exact hroom, ?_, hm, fun j hj => ?_⟩, ⟨rfl, rfl, rfl, by simp, fun k _ hk => setRow_other w g k _ (fun e => hk (by rw [e]))⟩, .inl rfl⟩
      · simp only [List.size_toArray, List.length_append, List.length_take, List.length_drop, Array.length_toList, strCells_S, List.length_map]
        omega
      · rw [hlen] at hj
        have hcu : cur.toList.length = cur.size := Array.length_toList
        rw [List.getElem?_toArray, strCells_S]
        by_cases hj1 : j < x.length
        · rw [List.append_assoc, List.getElem?_append_left (by rw [List.length_take, hcu]; omega), List.getElem?_take, if_pos (by omega), Array.getElem?_toList, hx j hj1, List.getElem_append_left hj1]
        · rw [List.getElem?_append_left (by simp only [List.length_append, List.length_take, hcu, List.length_map]; omega), List.getElem?_append_right (by rw [List.length_take, hcu]; omega)]
          rw [List.length_take, hcu, show o + j - min (o + x.length) cur.size = j - x.length by omega, List.getElem?_map, List.getElem?_eq_getElem (by omega), List.getElem_append_right (by omega)]; rfl
    · have hr := Lib.run_append_grow_string (P := Try.prog) w 38 9 ty 5 i (.int .u8 0) Try.underlying38 Try.underlying9 hi hz0 ⟨g, o, none⟩ x.length cap (x.map B) (by rw [hz1, List.length_map, Nat.mul_one]) (fun j u hu => by
        rw [List.getElem?_map] at hu
        obtain ⟨b, hb', rfl⟩ := Option.map_eq_some_iff.1 hu
        obtain ⟨hjl, rfl⟩ := List.getElem?_eq_some_iff.1 hb'
        rw [Addr.add_mid, cell_of_row w g (o + j) cur 5 (0, 0) hg]
        exact hx j hjl) ⟨s.toArray⟩ (by rw [hsz]; omega) (by rw [hsz]; omega) (by rw [hsz, hz2]; exact growslice_fits (by omega) (by omega))
      rw [hsz] at hr
      have hgr := grown cap (by omega)
      exact ⟨_, _, _, _, hr, hgr.1, hgr.2, .inr ⟨rfl, by simp⟩⟩
end Go.Proofs.Ytlmolmmhkddpaaa
