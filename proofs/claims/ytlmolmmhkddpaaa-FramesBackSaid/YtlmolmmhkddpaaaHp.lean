/- Rows of frames, one's own and such as came in; the statement's frames brought to what may be (stage 16). -/
import Derived.Test.YtlmolmmhkddpaaaHi
import Derived.Test.YtlmolmmhkddpaaaHm5
namespace Go.Proofs.Ytlmolmmhkddpaaa
open Go.RowKit
/-- A slice of frames that came in. -/
structure FrsA (w : World) (V : Value) (l : List Frm) (b o : Nat) : Prop where
  len : ∀ T w', (Builtin.len_ #[48] T #[V]).run Try.prog w' = .ok (.int .i64 (l.length : Int)) w'
  index : ∀ i, i < l.length → ∀ w', (Instr.indexAt 48 V (.int .i64 (i : Int))).run Try.prog w' = .ok (.pointer (some ⟨b, o + i * 9, none⟩)) w'
  cell : ∀ i f, l[i]? = some f → ∀ j v, (frC f)[j]? = some v → w.cell? ⟨b, o + i * 9 + j, none⟩ = some v
  form : ∃ a c, V = .slice a l.length c
theorem FrsA.below {w w' : World} {V : Value} {l : List Frm} {b o : Nat} (h : FrsA w V l b o) (hb : Below w.heap.size w w') : FrsA w' V l b o :=
  ⟨h.len, h.index, fun i s hs j v hv => by
    have h1 := h.cell i s hs j v hv
    rw [hb.cell (World.block_lt_of_cell? w _ h1)]; exact h1, h.form⟩
def frCells (l : List Frm) : List Value := l.flatMap fun f => (frC f).toList
theorem frCells_len (l : List Frm) : (frCells l).length = l.length * 9 := by
  unfold frCells
  induction l with
  | nil => rfl
  | cons e l ih => rw [List.flatMap_cons, List.length_append, ih, List.length_cons]; simp [frC]; omega
theorem frCells_snoc (l : List Frm) (e : Frm) : frCells (l ++ [e]) = frCells l ++ (frC e).toList := by
  unfold frCells; rw [List.flatMap_append]; simp
theorem frCells_get : ∀ (l : List Frm) (i : Nat) (e : Frm), l[i]? = some e → ∀ j v, (frC e)[j]? = some v → (frCells l)[i * 9 + j]? = some v
  | [], i, e, h, _, _, _ => by simp at h
  | d :: l, 0, e, h, j, v, hv => by
    simp only [List.getElem?_cons_zero, Option.some.injEq] at h
    subst h
    unfold frCells
    have hj : j < 9 := by
      obtain ⟨hl, _⟩ := Array.getElem?_eq_some_iff.1 hv
      exact hl
    rw [List.flatMap_cons, Nat.zero_mul, Nat.zero_add, List.getElem?_append_left (by simpa [frC] using hj), Array.getElem?_toList]
    exact hv
  | d :: l, i + 1, e, h, j, v, hv => by
    rw [List.getElem?_cons_succ] at h
    have ih := frCells_get l i e h j v hv
    unfold frCells at ih ⊢
    rw [List.flatMap_cons, List.getElem?_append_right (by simp [frC]; omega)]
    rw [show (i + 1) * 9 + j - (frC d).toList.length = i * 9 + j by simp [frC]; omega]
    exact ih
/-- A row of frames of one's own. -/
def FrR (base : Nat) (V : Value) (l : List Frm) (w : World) : Prop := w.ownsRow base 51 9 V l.length (frCells l)
section
variable {base : Nat} {V : Value} {l : List Frm} {w w' : World}
theorem frr_nil (base : Nat) (w : World) : FrR base (.slice none 0 0) [] w := ⟨rfl, .inl ⟨rfl, rfl⟩⟩
theorem FrR.lt (h : FrR base V l w) {k : Nat} (hk : V.ownBlock = some k) : base ≤ k ∧ k < w.heap.size := World.ownsRow.lt h k hk
theorem FrR.same (h : FrR base V l w) (hb : ∀ j, V.ownBlock = some j → w'.heap[j]? = w.heap[j]?) : FrR base V l w' := own_same h hb
theorem FrR.below (h : FrR base V l w) (hb : Below w.heap.size w w') : FrR base V l w' := h.same fun j hj => hb.block j (h.lt hj).2
theorem FrR.form (h : FrR base V l w) : ∃ a c, V = .slice a l.length c ∧ (l ≠ [] → ∃ g, a = some ⟨g, 0, none⟩ ∧ base ≤ g ∧ g < w.heap.size ∧ ∀ i e j v, l[i]? = some e → (frC e)[j]? = some v → w.cell? ⟨g, i * 9 + j, none⟩ = some v) := by
  rcases h.2 with ⟨rfl, h0⟩ | ⟨g, cap, cur, rfl, hb, hg, hn, hm, hs, hx⟩
  · have : l = [] := List.length_eq_zero_iff.1 h0
    subst this
    exact ⟨none, 0, rfl, fun e => absurd rfl e⟩
  · refine ⟨_, cap, rfl, fun _ => ⟨g, rfl, hb, (Array.getElem?_eq_some_iff.1 hg).1, fun i e j v hi hv => ?_⟩⟩
    have hc := frCells_get l i e hi j v hv
    rw [← hx, List.getElem?_take] at hc
    have hrow : Row w g cur 51 := hg
    rw [cell_of_row w g _ cur 51 (0, 0) hrow]
    split at hc
    · simpa using hc
    · cases hc
theorem FrR.len (h : FrR base V l w) (T : TypeId) (W : World) : (Builtin.len_ #[48] T #[V]).run Try.prog W = .ok (.int .i64 (l.length : Int)) W := by
  obtain ⟨a, c, rfl, -⟩ := h.form
  simp [Builtin.len_, run_underlying Try.underlying48, Result.andThen, goInt]
end
theorem indexFr (b n c i : Nat) (hi : i < n) (w' : World) : (Instr.indexAt 48 (.slice (some ⟨b, 0, none⟩) n c) (.int .i64 (i : Int))).run Try.prog w' = .ok (.pointer (some ⟨b, i * 9, none⟩)) w' := by
  have h := run_index_at (P := Try.prog) Try.underlying48 (fun w => Try.sizeOf51 w) b 0 n c i hi w'
  rw [Nat.zero_add] at h
  exact h
theorem frT_ele (e : Frm) : ∀ u ∈ (frC e).toList, u.oneCell' = true := by
  intro u hu
  simp [frC] at hu
  rcases hu with rfl | rfl | rfl | rfl | rfl | rfl | rfl | rfl | rfl <;> rfl
theorem infoFr : (Try.prog.info? 51).map (fun i => (i.zero, i.size, i.bytes)) = some (some (.agg #[.bool false, .int .i64 0, .int .i64 0, .bool false, .int .u8 0, .int .u8 0, .int .u8 0, .int .u8 0, .string ⟨#[]⟩]), 9, 48) := by kernel_rfl
theorem run_addFr {W : World} {base : Nat} {V : Value} {l : List Frm} (h : FrR base V l W) (hl : l.length ≤ 1000000) (hb : base ≤ W.heap.size) (e : Frm) (T : TypeId) :
    ∃ a c W', (Builtin.append_ #[48, 48] T #[V, .slice (some ⟨W.heap.size, 0, none⟩) 1 1]).run Try.prog (W.alloc (.cells (frC e) 51)) = .ok (.slice a (l.length + 1) c) W' ∧ FrR base (.slice a (l.length + 1) c) (l ++ [e]) W' ∧ (W.alloc (.cells (frC e) 51)).grownBy W' V.ownBlock ∧
      ((Value.slice a (l.length + 1) c).ownBlock = V.ownBlock ∨ ∃ g, (Value.slice a (l.length + 1) c).ownBlock = some g ∧ W.heap.size < g) := by
  obtain ⟨i, hi, hz, hsz, hby⟩ : ∃ i, Try.prog.info? 51 = some i ∧ i.zero = some (.agg #[.bool false, .int .i64 0, .int .i64 0, .bool false, .int .u8 0, .int .u8 0, .int .u8 0, .int .u8 0, .string ⟨#[]⟩]) ∧ i.size = 9 ∧ i.bytes = 48 := by
    have h := infoFr
    cases hi : Try.prog.info? 51 with
    | none => rw [hi] at h; cases h
    | some i =>
      rw [hi] at h
      simp only [Option.map_some, Option.some.injEq, Prod.mk.injEq] at h
      exact ⟨i, rfl, h.1, h.2.1, h.2.2⟩
  have h0 := h
  unfold FrR at h
  have hr := row_new W (frC e) 51
  have hal : (W.alloc (.cells (frC e) 51)).ownsRow base 51 9 V l.length (frCells l) := h.alloc _
  obtain ⟨V', W', hrun, hown, hgr, _, hblk⟩ := run_append_own_at (P := Try.prog) (w := W.alloc (.cells (frC e) 51)) base 48 T 51 i _ 9 48 Try.underlying48 hi hz hsz hby rfl (by decide)
    V l.length (frCells l) hal ⟨W.heap.size, 0, none⟩ 1 1 (frC e).toList rfl (fun j u hu => by
      rw [Addr.add_lit]
      rw [cell_of_row _ _ _ _ _ _ hr]
      simpa using hu) (frT_ele e)
    (by simp only [maxLen]; omega) (by omega) (by rw [alloc_size]; omega)
  have hF : FrR base V' (l ++ [e]) W' := by
    unfold FrR
    rw [List.length_append, List.length_singleton, frCells_snoc]; exact hown
  obtain ⟨a, c, hv, -⟩ := hF.form
  rw [List.length_append, List.length_singleton] at hv
  subst hv
  exact ⟨a, c, W', hrun, hF, hgr, hblk.imp id fun h => ⟨_, h, by rw [alloc_size]; omega⟩⟩
/-- Brought to what may be. -/
def opN (op : Int) : Nat := opsL.getD (min (max op 0) 5).toNat 0
def normF (m : Bool) (f : Frm) : Frm := ⟨f.fin || decide (8 ≤ opN f.op), 0, (opN f.op : Int), m, if m then f.key else key0, if 8 ≤ opN f.op then f.data.take 125 else f.data⟩
theorem opN_in (op : Int) : opN op ≤ 2 ∨ (8 ≤ opN op ∧ opN op ≤ 10) := by
  unfold opN
  obtain ⟨k, hk⟩ : ∃ k, k = (min (max op 0) 5).toNat := ⟨_, rfl⟩
  rw [← hk]
  have : k = 0 ∨ k = 1 ∨ k = 2 ∨ k = 3 ∨ k = 4 ∨ k = 5 := by omega
  rcases this with h | h | h | h | h | h <;> (rw [h]; decide)
theorem opN_low (op : Int) (h : op ≤ 0) : opN op = 0 := by unfold opN; rw [show (min (max op 0) 5).toNat = 0 by omega]; rfl
theorem opN_high (op : Int) (h : 5 ≤ op) : opN op = 10 := by unfold opN; rw [show (min (max op 0) 5).toNat = 5 by omega]; rfl
theorem norm_ok (m : Bool) (f : Frm) : okFr (normF m f) = true := by
  have h := opN_in f.op
  unfold okFr normF
  dsimp only
  cases m
  · simp; omega
  · simp; omega
theorem norm_len (m : Bool) (f : Frm) : (normF m f).data.length ≤ f.data.length := by
  unfold normF
  dsimp only
  split
  · rw [List.length_take]; omega
  · exact Nat.le_refl _
theorem norm_may (m : Bool) (f : Frm) (hl : f.data.length ≤ 100000) : mayF (hdOf (normF m f)) m = true := by
  have h := opN_in f.op
  have hn := norm_len m f
  unfold mayF hdOf
  simp only [Bool.and_eq_true, decide_eq_true_eq]
  refine ⟨rfl, ?_, by simp [normF], ?_, trivial, by omega⟩
  · show ((opN f.op : Nat) : Int).toNat ≤ 2 ∨ _
    rw [Int.toNat_natCast]
    exact h
  · show ((opN f.op : Nat) : Int).toNat < 8 ∨ _
    rw [Int.toNat_natCast]
    by_cases h8 : opN f.op < 8
    · exact .inl h8
    · refine .inr ⟨?_, ?_⟩
      · unfold normF; dsimp only; rw [if_pos (by omega), List.length_take]; omega
      · unfold normF; dsimp only; rw [decide_eq_true (by omega : 8 ≤ opN f.op)]; simp
end Go.Proofs.Ytlmolmmhkddpaaa
