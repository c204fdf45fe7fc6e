/- Events as values and in rows; what is asked of the package of frames as they come (stage 16). -/
import Derived.Test.YtlmolmmhkddpaaaHm1
import Derived.Test.YtlmolmmhkddpaaaMo
import Derived.Test.YtlmolmmhkddpaaaEa
import Derived.Test.YtlmolmmhkddpaaaFl
namespace Go.Proofs.Ytlmolmmhkddpaaa
open Go.RowKit
attribute [local go_sem] store_one S_match S_store

def ev0 : Ev := ⟨0, 0, false, 0, []⟩
def evC (e : Ev) : Array Value := #[.int .i64 (e.kind : Int), .int .i64 (e.op : Int), .bool e.fin, .int .i64 (e.len : Int), S e.text]
def evV (e : Ev) : Value := .agg (evC e)
def encE (e : Ev) : Array Value := #[evV e]
def nextV (st : Fst) : Value := match nextF st with
  | some (e, _) => .tuple #[evV e, .bool true]
  | none => .tuple #[evV ev0, .bool false]
def nextS (st : Fst) : Fst := match nextF st with
  | some (_, s) => s
  | none => st
/-- How it stands behind some events. -/
def stepS (st : Fst) (n : Nat) : Fst := (runF n st).2
theorem stepS_end (st : Fst) : stepS st (allF st).length = endF st := by
  have key : ∀ (n : Nat) (st : Fst), costF st ≤ n → (runF (allF st).length st).2 = endF st := by
    intro n
    induction n with
    | zero =>
      intro st h
      cases hn : nextF st with
      | none => rw [(all_none hn).1, (all_none hn).2]; rfl
      | some x => have := next_cost (show nextF st = some (x.1, x.2) from hn); omega
    | succ n ih =>
      intro st h
      cases hn : nextF st with
      | none => rw [(all_none hn).1, (all_none hn).2]; rfl
      | some x =>
        obtain ⟨e, st'⟩ := x
        have := next_cost hn
        rw [(all_some hn).1, (all_some hn).2, List.length_cons, runF, hn]
        exact ih st' (by omega)
  exact key _ st (Nat.le_refl _)
/-- What All hands back: an iterator that tells just the events of L, and moves the reader on. -/
def AllIs (RA : World → (Nat → Prop) → Nat → Fst → Prop) (w : World) (F : Nat → Prop) (g : Nat) (st : Fst) (gf : Nat) (lb : Array Value) (w' : World) : Prop :=
  (∀ args W, (callFunc gf args).run Try.prog W = .ok (.enter gf args) W) ∧ ∃ (F1 : Nat → Prop) (St : List Ev → (Nat → Prop) → World → Prop), St [] F1 w' ∧ (∀ k, F1 k → F k ∨ (w.heap.size ≤ k ∧ k < w'.heap.size)) ∧
    (∀ pre F W W', St pre F W → Kept F W W' → St pre F W') ∧ (∀ pre F W, St pre F W → ∀ k, F k → k < W.heap.size) ∧ (∀ pre F W, St pre F W → ∃ F0, RA W F0 g (stepS st pre.length) ∧ ∀ k, F0 k → F k) ∧ ∀ n, SeqM Try.prog n gf lb encE (allF st) St
/-- What a nil reader's All hands back. -/
def NoneIs (w : World) (gf : Nat) (lb : Array Value) (w' : World) : Prop :=
  (∀ args W, (callFunc gf args).run Try.prog W = .ok (.enter gf args) W) ∧ ∃ (F1 : Nat → Prop) (St : List Ev → (Nat → Prop) → World → Prop), St [] F1 w' ∧ (∀ k, F1 k → w.heap.size ≤ k ∧ k < w'.heap.size) ∧
    (∀ pre F W W', St pre F W → Kept F W W' → St pre F W') ∧ (∀ pre F W, St pre F W → ∀ k, F k → k < W.heap.size) ∧ ∀ n, SeqM Try.prog n gf lb encE [] St
/-- What a package of frames as they come does, from the world w0 on; zr: the cells of a reader that nobody made. -/
structure FramesI (w0 : World) (zr : Array Value) (RA : World → (Nat → Prop) → Nat → Fst → Prop) : Prop where
  lt : ∀ {w : World} {F : Nat → Prop} {g : Nat} {st : Fst}, RA w F g st → F g ∧ ∀ k, F k → k < w.heap.size
  same : ∀ {w w' : World} {F : Nat → Prop} {g : Nat} {st : Fst}, RA w F g st → w.heap.size ≤ w'.heap.size → (∀ k, F k → w'.heap[k]? = w.heap[k]?) → RA w' F g st
  new : ∀ (m : Bool) (w : World), Below w0.heap.size w0 w → Calls Try.prog 10 #[.bool m] w fun e w' => ∃ g F, e = .returned (.pointer (some ⟨g, 0, none⟩)) ∧ RA w' F g (fresh16 m) ∧ (∀ k, F k → w.heap.size ≤ k) ∧ Below w.heap.size w w'
  zero : ∀ (w : World), RA (w.alloc (.cells zr 45)) (fun k => k = w.heap.size) w.heap.size (fresh16 false)
  feed : ∀ {w : World} {F : Nat → Prop} {g : Nat} {st : Fst} (s : List UInt8), RA w F g st → Below w0.heap.size w0 w → st.buf.length + s.length ≤ 100000 →
    Calls Try.prog 11 #[.pointer (some ⟨g, 0, none⟩), S s] w fun e w' => e = .returned (.tuple #[]) ∧ ∃ F', RA w' F' g (st.feed s) ∧ Moves F F' w w'
  feed0 : ∀ (s : List UInt8) (w : World), Below w0.heap.size w0 w → s.length ≤ 100000 → Calls Try.prog 11 #[.pointer none, S s] w fun e w' => e = .returned (.tuple #[]) ∧ Below w.heap.size w w'
  next : ∀ {w : World} {F : Nat → Prop} {g : Nat} {st : Fst}, RA w F g st → Below w0.heap.size w0 w →
    Calls Try.prog 13 #[.pointer (some ⟨g, 0, none⟩)] w fun e w' => e = .returned (nextV st) ∧ ∃ F', RA w' F' g (nextS st) ∧ Moves F F' w w'
  next0 : ∀ (w : World), Below w0.heap.size w0 w → Calls Try.prog 13 #[.pointer none] w fun e w' => e = .returned (.tuple #[evV ev0, .bool false]) ∧ Below w.heap.size w w'
  all : ∀ {w : World} {F : Nat → Prop} {g : Nat} {st : Fst}, RA w F g st → Below w0.heap.size w0 w →
    Calls Try.prog 19 #[.pointer (some ⟨g, 0, none⟩)] w fun e w' => ∃ gf lb, e = .returned (.func (.func gf) #[] lb) ∧ AllIs RA w F g st gf lb w' ∧ Below w.heap.size w w'
  all0 : ∀ (w : World), Below w0.heap.size w0 w → Calls Try.prog 19 #[.pointer none] w fun e w' => ∃ gf lb, e = .returned (.func (.func gf) #[] lb) ∧ NoneIs w gf lb w' ∧ Below w.heap.size w w'
  bad : ∀ {w : World} {F : Nat → Prop} {g : Nat} {st : Fst}, RA w F g st → Below w0.heap.size w0 w → Calls Try.prog 14 #[.pointer (some ⟨g, 0, none⟩)] w fun e w' => e = .returned (.bool st.bad) ∧ Below w.heap.size w w'
  bad0 : ∀ (w : World), Below w0.heap.size w0 w → Calls Try.prog 14 #[.pointer none] w fun e w' => e = .returned (.bool true) ∧ Below w.heap.size w w'
  idle : ∀ {w : World} {F : Nat → Prop} {g : Nat} {st : Fst}, RA w F g st → Below w0.heap.size w0 w → Calls Try.prog 15 #[.pointer (some ⟨g, 0, none⟩)] w fun e w' => e = .returned (.bool st.idle) ∧ Below w.heap.size w w'
  idle0 : ∀ (w : World), Below w0.heap.size w0 w → Calls Try.prog 15 #[.pointer none] w fun e w' => e = .returned (.bool false) ∧ Below w.heap.size w w'
theorem FramesI.up {w W : World} {zr : Array Value} {RA : World → (Nat → Prop) → Nat → Fst → Prop} (C : FramesI w zr RA) (h : Below w.heap.size w W) : FramesI W zr RA where
  lt := C.lt
  same := C.same
  new := fun m w' b => C.new m w' (h.trans (b.mono h.size))
  zero := C.zero
  feed := fun s r b => C.feed s r (h.trans (b.mono h.size))
  feed0 := fun s w' b => C.feed0 s w' (h.trans (b.mono h.size))
  next := fun r b => C.next r (h.trans (b.mono h.size))
  next0 := fun w' b => C.next0 w' (h.trans (b.mono h.size))
  all := fun r b => C.all r (h.trans (b.mono h.size))
  all0 := fun w' b => C.all0 w' (h.trans (b.mono h.size))
  bad := fun r b => C.bad r (h.trans (b.mono h.size))
  bad0 := fun w' b => C.bad0 w' (h.trans (b.mono h.size))
  idle := fun r b => C.idle r (h.trans (b.mono h.size))
  idle0 := fun w' b => C.idle0 w' (h.trans (b.mono h.size))
theorem FramesI.below {w W W' : World} {zr : Array Value} {RA : World → (Nat → Prop) → Nat → Fst → Prop} (C : FramesI w zr RA) {F : Nat → Prop} {g : Nat} {st : Fst} (h : RA W F g st) (hb : Below W.heap.size W W') : RA W' F g st :=
  C.same h hb.size fun k hk => hb.block k ((C.lt h).2 k hk)
/-! Rows of events, of the package's type or the document's. -/
def evCells (l : List Ev) : List Value := l.flatMap fun e => (evC e).toList
theorem evCells_len (l : List Ev) : (evCells l).length = l.length * 5 := by
  unfold evCells
  induction l with
  | nil => rfl
  | cons e l ih => rw [List.flatMap_cons, List.length_append, ih, List.length_cons]; simp [evC]; omega
theorem evCells_snoc (l : List Ev) (e : Ev) : evCells (l ++ [e]) = evCells l ++ (evC e).toList := by
  unfold evCells; rw [List.flatMap_append]; simp
theorem evCells_get : ∀ (l : List Ev) (i : Nat) (e : Ev), l[i]? = some e → ∀ j v, (evC e)[j]? = some v → (evCells l)[i * 5 + j]? = some v
  | [], i, e, h, _, _, _ => by simp at h
  | d :: l, 0, e, h, j, v, hv => by
    simp only [List.getElem?_cons_zero, Option.some.injEq] at h
    subst h
    unfold evCells
    have hj : j < 5 := by
      obtain ⟨hl, _⟩ := Array.getElem?_eq_some_iff.1 hv
      exact hl
    rw [List.flatMap_cons, Nat.zero_mul, Nat.zero_add, List.getElem?_append_left (by simpa [evC] using hj), Array.getElem?_toList]
    exact hv
  | d :: l, i + 1, e, h, j, v, hv => by
    rw [List.getElem?_cons_succ] at h
    have ih := evCells_get l i e h j v hv
    unfold evCells at ih ⊢
    rw [List.flatMap_cons, List.getElem?_append_right (by simp [evC]; omega)]
    rw [show (i + 1) * 5 + j - (evC d).toList.length = i * 5 + j by simp [evC]; omega]
    exact ih
/-- A row of events of one's own; t: their type. -/
def EvR (t : TypeId) (base : Nat) (V : Value) (l : List Ev) (w : World) : Prop := w.ownsRow base t 5 V l.length (evCells l)
section
variable {t : TypeId} {base : Nat} {V : Value} {l : List Ev} {w w' : World}
theorem evr_nil (t : TypeId) (base : Nat) (w : World) : EvR t base (.slice none 0 0) [] w := ⟨rfl, .inl ⟨rfl, rfl⟩⟩
theorem EvR.lt (h : EvR t base V l w) {k : Nat} (hk : V.ownBlock = some k) : base ≤ k ∧ k < w.heap.size := World.ownsRow.lt h k hk
theorem EvR.same (h : EvR t base V l w) (hb : ∀ j, V.ownBlock = some j → w'.heap[j]? = w.heap[j]?) : EvR t base V l w' := own_same h hb
theorem EvR.below (h : EvR t base V l w) (hb : Below w.heap.size w w') : EvR t base V l w' := h.same fun j hj => hb.block j (h.lt hj).2
theorem EvR.form (h : EvR t base V l w) : ∃ a c, V = .slice a l.length c ∧ (l ≠ [] → ∃ g, a = some ⟨g, 0, none⟩ ∧ base ≤ g ∧ g < w.heap.size ∧ ∀ i e j v, l[i]? = some e → (evC e)[j]? = some v → w.cell? ⟨g, i * 5 + j, none⟩ = some v ∧ w.frozen? ⟨g, i * 5 + j, none⟩ = false) := by
  rcases h.2 with ⟨rfl, h0⟩ | ⟨g, cap, cur, rfl, hb, hg, hn, hm, hs, hx⟩
  · have : l = [] := List.length_eq_zero_iff.1 h0
    subst this
    exact ⟨none, 0, rfl, fun e => absurd rfl e⟩
  · refine ⟨_, cap, rfl, fun _ => ⟨g, rfl, hb, (Array.getElem?_eq_some_iff.1 hg).1, fun i e j v hi hv => ?_⟩⟩
    have hc := evCells_get l i e hi j v hv
    rw [← hx, List.getElem?_take] at hc
    have hrow : Row w g cur t := hg
    refine ⟨?_, hrow.frozen _⟩
    rw [cell_of_row w g _ cur t (0, 0) hrow]
    split at hc
    · simpa using hc
    · cases hc
theorem EvR.len (h : EvR t base V l w) {ts : TypeId} (ht : Try.prog.underlying ts = some (.slice t)) (T : TypeId) (W : World) : (Builtin.len_ #[ts] T #[V]).run Try.prog W = .ok (.int .i64 (l.length : Int)) W := by
  obtain ⟨a, c, rfl, -⟩ := h.form
  simp [Builtin.len_, run_underlying ht, Result.andThen, goInt]
/-- One cell of a row of one's own, turned. -/
theorem ownsRow_set {k n g c i : Nat} {xs : List Value} (h : w.ownsRow base t k (.slice (some ⟨g, 0, none⟩) n c) n xs) (_hi : i < xs.length) (v : Value) : (w.setCell ⟨g, i, none⟩ v).ownsRow base t k (.slice (some ⟨g, 0, none⟩) n c) n (xs.set i v) := by
  refine ⟨by rw [List.length_set]; exact h.1, ?_⟩
  rcases h.2 with ⟨h0, _⟩ | ⟨g', cap, cur, hv, hb, hg, hn, hm, hs, hx⟩
  · cases h0
  · obtain ⟨rfl, rfl⟩ : g = g' ∧ c = cap := by
      injection hv with e1 _ e3
      exact ⟨by injection e1 with e1; injection e1, e3⟩
    have hrow : Row w g cur t := hg
    refine .inr ⟨g, c, _, rfl, hb, hrow.set i v, hn, hm, by rw [Array.size_setIfInBounds]; exact hs, ?_⟩
    rw [← hx, Array.toList_setIfInBounds, List.take_set]
theorem evCells_set (l : List Ev) (p : Ev) (s : List UInt8) : (evCells (l ++ [p])).set (l.length * 5 + 4) (S s) = evCells (l ++ [{ p with text := s }]) := by
  rw [evCells_snoc, evCells_snoc, List.set_append_right _ _ (by rw [evCells_len]; omega), evCells_len, show l.length * 5 + 4 - l.length * 5 = 4 by omega]
  rfl
/-- The last event's text turned. -/
theorem EvR.text {g c : Nat} {p : Ev} (h : EvR t base (.slice (some ⟨g, 0, none⟩) (l.length + 1) c) (l ++ [p]) w) (s : List UInt8) : EvR t base (.slice (some ⟨g, 0, none⟩) (l.length + 1) c) (l ++ [{ p with text := s }]) (w.setCell ⟨g, l.length * 5 + 4, none⟩ (S s)) := by
  unfold EvR at h ⊢
  rw [List.length_append, List.length_singleton] at h ⊢
  have h1 := ownsRow_set h (i := l.length * 5 + 4) (by rw [evCells_len, List.length_append, List.length_singleton]; omega) (S s)
  rw [evCells_set] at h1
  exact h1
end
theorem indexEv {ts t : TypeId} (hts : Try.prog.underlying ts = some (.slice t)) (hz : ∀ w, (sizeOf t).run Try.prog w = .ok 5 w) (b n c i : Nat) (hi : i < n) (w' : World) : (Instr.indexAt ts (.slice (some ⟨b, 0, none⟩) n c) (.int .i64 (i : Int))).run Try.prog w' = .ok (.pointer (some ⟨b, i * 5, none⟩)) w' := by
  have h := run_index_at (P := Try.prog) hts hz b 0 n c i hi w'
  rw [Nat.zero_add] at h
  exact h
theorem evT_ele (e : Ev) : ∀ u ∈ (evC e).toList, u.oneCell' = true := by
  intro u hu
  simp [evC] at hu
  rcases hu with rfl | rfl | rfl | rfl | rfl <;> rfl
theorem info_ev {t : TypeId} (h : (Try.prog.info? t).map (fun i => (i.zero, i.size, i.bytes)) = some (some (.agg #[.int .i64 0, .int .i64 0, .bool false, .int .i64 0, .string ⟨#[]⟩]), 5, 48)) : ∃ i, Try.prog.info? t = some i ∧ i.zero = some (.agg #[.int .i64 0, .int .i64 0, .bool false, .int .i64 0, .string ⟨#[]⟩]) ∧ i.size = 5 ∧ i.bytes = 48 := by
  cases hi : Try.prog.info? t with
  | none => rw [hi] at h; cases h
  | some i =>
    rw [hi] at h
    simp only [Option.map_some, Option.some.injEq, Prod.mk.injEq] at h
    exact ⟨i, rfl, h.1, h.2.1, h.2.2⟩
/-- One event more. -/
theorem run_addE {t ts : TypeId} (hts : Try.prog.underlying ts = some (.slice t)) (hinf : ∃ i, Try.prog.info? t = some i ∧ i.zero = some (.agg #[.int .i64 0, .int .i64 0, .bool false, .int .i64 0, .string ⟨#[]⟩]) ∧ i.size = 5 ∧ i.bytes = 48)
    {W : World} {base : Nat} {V : Value} {l : List Ev} (h : EvR t base V l W) (hl : l.length ≤ 1000000) (hb : base ≤ W.heap.size) (e : Ev) (T : TypeId) :
    ∃ a c W', (Builtin.append_ #[ts, ts] T #[V, .slice (some ⟨W.heap.size, 0, none⟩) 1 1]).run Try.prog (W.alloc (.cells (evC e) t)) = .ok (.slice a (l.length + 1) c) W' ∧ EvR t base (.slice a (l.length + 1) c) (l ++ [e]) W' ∧ (W.alloc (.cells (evC e) t)).grownBy W' V.ownBlock ∧
      ((Value.slice a (l.length + 1) c).ownBlock = V.ownBlock ∨ ∃ g, (Value.slice a (l.length + 1) c).ownBlock = some g ∧ W.heap.size < g) := by
  obtain ⟨i, hi, hz, hsz, hby⟩ := hinf
  have h0 := h
  unfold EvR at h
  have hr := row_new W (evC e) t
  have hal : (W.alloc (.cells (evC e) t)).ownsRow base t 5 V l.length (evCells l) := h.alloc _
  obtain ⟨V', W', hrun, hown, hgr, _, hblk⟩ := run_append_own_at (P := Try.prog) (w := W.alloc (.cells (evC e) t)) base ts T t i _ 5 48 hts hi hz hsz hby rfl (by decide)
    V l.length (evCells l) hal ⟨W.heap.size, 0, none⟩ 1 1 (evC e).toList rfl (fun j u hu => by
      rw [Addr.add_lit]
      rw [cell_of_row _ _ _ _ _ _ hr]
      simpa using hu) (evT_ele e)
    (by simp only [maxLen]; omega) (by omega) (by rw [alloc_size]; omega)
  have hF : EvR t base V' (l ++ [e]) W' := by
    unfold EvR
    rw [List.length_append, List.length_singleton, evCells_snoc]; exact hown
  obtain ⟨a, c, hv, -⟩ := hF.form
  rw [List.length_append, List.length_singleton] at hv
  subst hv
  refine ⟨a, c, W', hrun, hF, hgr, hblk.imp id fun h => ⟨_, h, by rw [alloc_size]; omega⟩⟩
end Go.Proofs.Ytlmolmmhkddpaaa
