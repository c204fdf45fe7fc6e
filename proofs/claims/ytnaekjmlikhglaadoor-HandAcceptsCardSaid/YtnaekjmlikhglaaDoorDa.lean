/- Texts of this proof, one behind the other. -/
import Derived.Test.YtnaekjmlikhglaaDoorGen9
import Derived.Test.YtnaekjmlikhglaaDoorProg
import Derived.Deep.AppendLies
import Derived.Laws.StructEq
import Derived.Handed
import Derived.SizedLaws
import Derived.Test.YtnaekjmlikhglaaDoorDm1
/- The frame by footprints: a thing whose blocks were F is one of F' now; two things side by side. Over any program. -/
namespace Go.Proofs.YtnaekjmlikhglaaDoor
open Go.RowKit

/-- A thing whose blocks were F is one of F' now: nothing else that there was has turned. -/
structure Moves (F F' : Nat → Prop) (w w' : World) : Prop where
  os : w'.os = w.os
  tape : w'.tape = w.tape
  output : w'.output = w.output
  size : w.heap.size ≤ w'.heap.size
  foot : ∀ k, F' k → F k ∨ w.heap.size ≤ k
  rest : ∀ k, k < w.heap.size → ¬ F k → w'.heap[k]? = w.heap[k]?
section
variable {F F' F'' G : Nat → Prop} {w w' w'' : World} {n : Nat}
theorem Moves.of_below (h : Below w.heap.size w w') : Moves F F w w' := ⟨h.os, h.tape, h.output, h.size, fun _ hk => .inl hk, fun k hk _ => h.block k hk⟩
theorem Moves.refl (F : Nat → Prop) (w : World) : Moves F F w w := ⟨rfl, rfl, rfl, Nat.le_refl _, fun _ hk => .inl hk, fun _ _ _ => rfl⟩
theorem Moves.trans (h : Moves F F' w w') (k : Moves F' F'' w' w'') : Moves F F'' w w'' :=
  ⟨k.os.trans h.os, k.tape.trans h.tape, k.output.trans h.output, Nat.le_trans h.size k.size, fun j hj => by
    rcases k.foot j hj with h1 | h1
    · exact h.foot j h1
    · have := h.size; exact .inr (by omega), fun j hj hn => (k.rest j (Nat.lt_of_lt_of_le hj h.size) (fun hf => by
      rcases h.foot j hf with h1 | h1
      · exact hn h1
      · omega)).trans (h.rest j hj hn)⟩
/-- What lies apart stays as it is, and apart. -/
theorem Moves.apart (h : Moves F F' w w') (hG : ∀ k, G k → k < w.heap.size ∧ ¬ F k) : (∀ k, G k → w'.heap[k]? = w.heap[k]?) ∧ ∀ k, G k → k < w'.heap.size ∧ ¬ F' k :=
  ⟨fun k hk => h.rest k (hG k hk).1 (hG k hk).2, fun k hk => ⟨Nat.lt_of_lt_of_le (hG k hk).1 h.size, fun hf => by
    rcases h.foot k hf with h1 | h1
    · exact (hG k hk).2 h1
    · have := (hG k hk).1; omega⟩⟩
theorem Moves.below (h : Moves F F' w w') (hF : ∀ k, F k → n ≤ k) (hn : n ≤ w.heap.size) : Below n w w' :=
  ⟨h.os, h.tape, h.output, h.size, fun k hk => h.rest k (by omega) (fun hf => by have := hF k hf; omega)⟩
theorem Row.moves {b : Nat} {cs : Array Value} {t : TypeId} (hr : Row w b cs t) (h : Moves F F' w w') (hn : ¬ F b) : Row w' b cs t := by
  unfold Row; rw [h.rest b hr.lt hn]; exact hr
/-- All that it may turn lies from n on. -/
theorem Moves.from (h : Moves F F' w w') (hF : ∀ k, F k → n ≤ k) (hn : n ≤ w.heap.size) : ∀ k, F' k → n ≤ k := fun k hk => by
  rcases h.foot k hk with h1 | h1
  · exact hF k h1
  · omega
end
end Go.Proofs.YtnaekjmlikhglaaDoor
/- Structs appended to a slice of one's own; rows of fields. -/
namespace Go.Proofs.YtnaekjmlikhglaaDoor
open Go.RowKit
attribute [local go_sem] store_one S_match S_store

/-- A type whose values take k cells. -/
def EleK (P : Program) (e : TypeId) (k : Nat) : Prop := ∃ i z, P.info? e = some i ∧ i.zero = some z ∧ i.size = k ∧ i.bytes ≤ 4096 ∧ z.cells.size = k
theorem eleK_of {P : Program} {e : TypeId} {z : Value} {k n : Nat} (h : (P.info? e).map (fun i => (i.zero, i.size, i.bytes)) = some (some z, k, n)) (hn : n ≤ 4096) (hz : z.cells.size = k) : EleK P e k := by
  cases hi : P.info? e with
  | none => rw [hi] at h; cases h
  | some i =>
    rw [hi] at h
    simp only [Option.map_some, Option.some.injEq, Prod.mk.injEq] at h
    exact ⟨i, z, hi, h.1, h.2.1, by rw [h.2.2]; exact hn, hz⟩
section
variable {P : Program} {ops : Array Oper} {rest : List Oper} {o : Oper} {a : Act} {w : World} {Q : Exit → Act → World → Prop}
/-- One struct, laid in a block of its own and appended. -/
theorem wpList_addK (hgd : o.guard = none) (t e : TypeId) (s x : Operand) (ho : o.op = .call { callee := .builtin .append, args := #[s, x], argTypes := #[t, t] }) (ht : P.underlying t = some (.slice e)) {k : Nat} (he : EleK P e k) (hk : 0 < k) (base : Nat) (W : World)
    (v : Value) (hs : a.eval s = v) (n : Nat) (xs : List Value) (hown : W.ownsRow base e k v n xs) (cs : Array Value) (hcs : cs.size = k) (h1 : ∀ u ∈ cs.toList, u.oneCell' = true) (hw : w = W.alloc (.cells cs e)) (H : Nat) (hH : W.heap.size = H) (hx : a.eval x = .slice (some ⟨H, 0, none⟩) 1 1)
    (hlen : n < 1000000) (hbase : base ≤ W.heap.size)
    (h : ∀ g cap w', w'.ownsRow base e k (.slice (some ⟨g, 0, none⟩) (n + 1) cap) (n + 1) (xs ++ cs.toList) → W.grownBy w' v.ownBlock → wpList P ops Q rest (a.put o.dst (.slice (some ⟨g, 0, none⟩) (n + 1) cap)) w') : wpList P ops Q (o :: rest) a w := by
  subst hw hH
  obtain ⟨i, z, hi, hz, hsz, hby, hzs⟩ := he
  have hr := row_new W cs e
  have hnews : ∀ j u, cs.toList[j]? = some u → (W.alloc (.cells cs e)).cell? ((⟨W.heap.size, 0, none⟩ : Addr).add j) = some u := fun j u hu => by
    rw [Addr.add_mid]
    simp only [Nat.zero_add]
    rw [cell_of_row _ _ j _ _ _ hr]
    simpa using hu
  refine wpList_append_lies _ hgd s x t ho base e i z k i.bytes ht hi hz hsz rfl hzs hk v n xs hs (hown.alloc _) ⟨W.heap.size, 0, none⟩ 1 1 cs.toList hx (by rw [Array.length_toList, hcs, Nat.one_mul]) hnews h1 (by omega) (by simp [maxLen]; omega) ?_ (by rw [alloc_size]; omega) _ rfl ?_
  · have : (n + 1) * i.bytes ≤ 1000000 * 4096 := Nat.mul_le_mul (by omega) hby
    omega
  · intro g cap w' h2 h3 _ _
    exact h _ _ w' h2 ⟨h3.os, h3.tape, h3.output, Nat.le_trans (by simp) h3.size, fun k hk hn => (h3.block k (by rw [alloc_size]; omega) hn).trans (heap_alloc_old W _ hk)⟩
end
/-- Three results, the first one in a variable of its own. -/
theorem results_row_two {P : Program} {fn : Func} {p u v : Tmp} {ty : TypeId} (h : fn.results = #[.cell p ty, .tmp u, .tmp v]) (tmps : Array Value) (w : World) (g : Nat) (t : TypeId) (cs : Array Value) (fr : Nat × Nat) (d : TypeDesc)
    (hp : tmps.getD p undef = .pointer (some ⟨g, 0, none⟩)) (hg : w.heap[g]? = some (.cells cs t fr))
    (hu : P.underlying ty = some d) (hd : (match d with | .struct _ | .array _ _ => true | _ => false) = true) (hi : (P.info? ty).map (·.size) = some cs.size) :
    (results fn tmps).run P w = .ok (.tuple #[.agg cs, tmps.getD u undef, tmps.getD v undef]) w := by
  have hp' : tmps[p]?.getD undef = .pointer (some ⟨g, 0, none⟩) := by simpa using hp
  simp [results, h, hp', asAddr, run_loadVar_row w g t ty cs fr d hg hu hd hi]

def fcells (fs : List (List UInt8 × List UInt8)) : List Value := fs.flatMap fun f => [S f.1, S f.2]
theorem fcells_snoc (fs : List (List UInt8 × List UInt8)) (f : List UInt8 × List UInt8) : fcells (fs ++ [f]) = fcells fs ++ [S f.1, S f.2] := by
  unfold fcells; rw [List.flatMap_append]; simp
theorem eleF : EleK Tryd.prog 37 2 := eleK_of (z := .agg #[.string ⟨#[]⟩, .string ⟨#[]⟩]) (n := 32) (by kernel_rfl) (by omega) rfl
theorem eq_self (p : List UInt8) (w : World) : (Op.equalIn 9999 9 (S p) (S p)).run Tryd.prog w = .ok true w := by
  unfold S
  rw [run_equalIn_string w 9998 9 _ _ Tryd.underlying9, beq_self_eq_true]
theorem fcells_get : ∀ (fs : List (List UInt8 × List UInt8)) (i : Nat) (f : List UInt8 × List UInt8), fs[i]? = some f → (fcells fs)[i * 2]? = some (S f.1) ∧ (fcells fs)[i * 2 + 1]? = some (S f.2)
  | [], i, f, h => by simp at h
  | g :: fs, 0, f, h => by
    simp only [List.getElem?_cons_zero, Option.some.injEq] at h
    subst h
    exact ⟨rfl, rfl⟩
  | g :: fs, i + 1, f, h => by
    rw [List.getElem?_cons_succ] at h
    have ih := fcells_get fs i f h
    have e : fcells (g :: fs) = S g.1 :: S g.2 :: fcells fs := rfl
    rw [e, show (i + 1) * 2 = i * 2 + 1 + 1 by omega, List.getElem?_cons_succ, List.getElem?_cons_succ, List.getElem?_cons_succ, List.getElem?_cons_succ]
    exact ih
/-- A row of fields, as it is read. -/
structure FldsAt (w : World) (V : Value) (fs : List (List UInt8 × List UInt8)) (g : Nat) : Prop where
  len : ∀ T w', (Builtin.len_ #[22] T #[V]).run Tryd.prog w' = .ok (.int .i64 (fs.length : Int)) w'
  index : ∀ i, i < fs.length → ∀ w', (Instr.indexAt 22 V (.int .i64 (i : Int))).run Tryd.prog w' = .ok (.pointer (some ⟨g, i * 2, none⟩)) w'
  cell : ∀ i f, fs[i]? = some f → w.cell? ⟨g, i * 2, none⟩ = some (S f.1) ∧ w.cell? ⟨g, i * 2 + 1, none⟩ = some (S f.2)
  form : ∃ a c, V = .slice a fs.length c
theorem FldsAt.below {w w' : World} {V : Value} {fs : List (List UInt8 × List UInt8)} {g : Nat} (h : FldsAt w V fs g) (hb : Below w.heap.size w w') : FldsAt w' V fs g :=
  ⟨h.len, h.index, fun i f hf => by
    obtain ⟨h1, h2⟩ := h.cell i f hf
    exact ⟨by rw [hb.cell (World.block_lt_of_cell? w _ h1)]; exact h1, by rw [hb.cell (World.block_lt_of_cell? w _ h2)]; exact h2⟩, h.form⟩
theorem flds_at {w : World} {base : Nat} {V : Value} {fs : List (List UInt8 × List UInt8)} (h : w.ownsRow base 37 2 V fs.length (fcells fs)) : ∃ g, FldsAt w V fs g ∧ (fs = [] ∨ (base ≤ g ∧ g < w.heap.size)) := by
  rcases h.2 with ⟨rfl, h0⟩ | ⟨g, cap, cur, rfl, hb, hg, hn, hm, hs, ht⟩
  · have : fs = [] := List.length_eq_zero_iff.1 h0
    subst this
    refine ⟨0, ⟨fun T w' => by simp [Builtin.len_, run_underlying Tryd.underlying22, Result.andThen, goInt], fun i hi => absurd hi (by simp), fun i f hf => (by simp at hf), ⟨none, 0, rfl⟩⟩, .inl rfl⟩
  · refine ⟨g, ⟨fun T w' => by simp [Builtin.len_, run_underlying Tryd.underlying22, Result.andThen, goInt], fun i hi w' => ?_, fun i f hf => ?_, ⟨_, _, rfl⟩⟩, .inr ⟨hb, (Array.getElem?_eq_some_iff.1 hg).1⟩⟩
    · have := run_index_at (P := Tryd.prog) Tryd.underlying22 (fun w => Tryd.sizeOf37 w) g 0 fs.length cap i hi w'
      rwa [Nat.zero_add] at this
    · obtain ⟨h1, h2⟩ := fcells_get fs i f hf
      rw [← ht] at h1 h2
      have hi := (List.getElem?_eq_some_iff.1 hf).1
      have hrow : ∀ j u, (cur.toList.take (fs.length * 2))[j]? = some u → w.cell? ⟨g, j, none⟩ = some u := fun j u hu => by
        rw [cell_of_row w g j cur 37 (0, 0) hg]
        rw [List.getElem?_take] at hu
        split at hu
        · simpa using hu
        · cases hu
      exact ⟨hrow _ _ h1, hrow _ _ h2⟩
section
variable {P : Program} {ops : Array Oper} {rest : List Oper} {o : Oper} {a : Act} {w : World} {Q : Exit → Act → World → Prop}
/-- One struct, laid in a block of its own and appended; where it lies then. -/
theorem wpList_addL (hgd : o.guard = none) (t e : TypeId) (s x : Operand) (ho : o.op = .call { callee := .builtin .append, args := #[s, x], argTypes := #[t, t] }) (ht : P.underlying t = some (.slice e)) {k : Nat} (he : EleK P e k) (hk : 0 < k) (base : Nat) (W : World)
    (v : Value) (hs : a.eval s = v) (n : Nat) (xs : List Value) (hown : W.ownsRow base e k v n xs) (cs : Array Value) (hcs : cs.size = k) (h1 : ∀ u ∈ cs.toList, u.oneCell' = true) (hw : w = W.alloc (.cells cs e)) (H : Nat) (hH : W.heap.size = H) (hx : a.eval x = .slice (some ⟨H, 0, none⟩) 1 1)
    (hlen : n < 1000000) (hbase : base ≤ W.heap.size)
    (h : ∀ g cap w', w'.ownsRow base e k (.slice (some ⟨g, 0, none⟩) (n + 1) cap) (n + 1) (xs ++ cs.toList) → W.grownBy w' v.ownBlock → (v.ownBlock = some g ∨ W.heap.size ≤ g) → g < w'.heap.size → wpList P ops Q rest (a.put o.dst (.slice (some ⟨g, 0, none⟩) (n + 1) cap)) w') : wpList P ops Q (o :: rest) a w := by
  subst hw hH
  obtain ⟨i, z, hi, hz, hsz, hby, hzs⟩ := he
  have hr := row_new W cs e
  have hnews : ∀ j u, cs.toList[j]? = some u → (W.alloc (.cells cs e)).cell? ((⟨W.heap.size, 0, none⟩ : Addr).add j) = some u := fun j u hu => by
    rw [Addr.add_mid]
    simp only [Nat.zero_add]
    rw [cell_of_row _ _ j _ _ _ hr]
    simpa using hu
  refine wpList_append_lies _ hgd s x t ho base e i z k i.bytes ht hi hz hsz rfl hzs hk v n xs hs (hown.alloc _) ⟨W.heap.size, 0, none⟩ 1 1 cs.toList hx (by rw [Array.length_toList, hcs, Nat.one_mul]) hnews h1 (by omega) (by simp [maxLen]; omega) ?_ (by rw [alloc_size]; omega) _ rfl ?_
  · have : (n + 1) * i.bytes ≤ 1000000 * 4096 := Nat.mul_le_mul (by omega) hby
    omega
  · intro g cap w' h2 h3 h4 h5
    exact h _ _ w' h2 ⟨h3.os, h3.tape, h3.output, Nat.le_trans (by simp) h3.size, fun k hk hn => (h3.block k (by rw [alloc_size]; omega) hn).trans (heap_alloc_old W _ hk)⟩ (h4.imp id fun h => by rw [h, alloc_size]; omega) h5
end
theorem own_same {w w' : World} {base : Nat} {e : TypeId} {k n : Nat} {v : Value} {xs : List Value} (h : w.ownsRow base e k v n xs) (hb : ∀ j, v.ownBlock = some j → w'.heap[j]? = w.heap[j]?) : w'.ownsRow base e k v n xs := by
  refine ⟨h.1, ?_⟩
  rcases h.2 with h2 | ⟨g, cap, cur, rfl, h3, h4, h5⟩
  · exact .inl h2
  · exact .inr ⟨g, cap, cur, rfl, h3, (hb g rfl).trans h4, h5⟩
theorem FldsAt.same {w w' : World} {V : Value} {fs : List (List UInt8 × List UInt8)} {g : Nat} (h : FldsAt w V fs g) (hb : fs ≠ [] → w'.heap[g]? = w.heap[g]?) : FldsAt w' V fs g :=
  ⟨h.len, h.index, fun i f hf => by
    have hne : fs ≠ [] := fun e => by rw [e] at hf; simp at hf
    obtain ⟨h1, h2⟩ := h.cell i f hf
    exact ⟨by rw [World.cell?_of_block (w := w) (hb hne)]; exact h1, by rw [World.cell?_of_block (w := w) (hb hne)]; exact h2⟩, h.form⟩
theorem flds_nil (w : World) (g : Nat) : FldsAt w (.slice none 0 0) [] g :=
  ⟨fun T w' => by simp [Builtin.len_, run_underlying Tryd.underlying22, Result.andThen, goInt], fun i hi => absurd hi (by simp), fun i f hf => (by simp at hf), ⟨none, 0, rfl⟩⟩

theorem set_grown (W : World) (b o : Nat) (v : Value) : W.grownBy (W.setCell ⟨b, o, none⟩ v) (some b) := by
  obtain ⟨h1, h2, h3, h4, h5⟩ := Keeps.setCell (b := b) W o v
  exact ⟨h1, h2, h3, h4, fun k hk hn => h5 k hk (fun e => hn (by rw [e]))⟩
theorem row_own_set {W : World} {base b o : Nat} {e : TypeId} {k n : Nat} {v x : Value} {xs : List Value} (h : W.ownsRow base e k v n xs) (hb : b < base) : (W.setCell ⟨b, o, none⟩ x).ownsRow base e k v n xs := by
  refine h.kept (set_grown W b o x) ?_
  cases hv : v.ownBlock with
  | none => exact .inl rfl
  | some g =>
    right
    intro e
    have := (h.lt g hv).1
    cases e
    omega
theorem own_weak {W : World} {base base' : Nat} {e : TypeId} {k n : Nat} {v : Value} {xs : List Value} (h : W.ownsRow base e k v n xs) (hb : base' ≤ base) : W.ownsRow base' e k v n xs := by
  refine ⟨h.1, ?_⟩
  rcases h.2 with hn | ⟨g, cap, cur, h1, h2, h3⟩
  · exact .inl hn
  · exact .inr ⟨g, cap, cur, h1, by omega, h3⟩
theorem own_below {W W' : World} {base : Nat} {e : TypeId} {k n : Nat} {v : Value} {xs : List Value} (h : W.ownsRow base e k v n xs) (hb : Below W.heap.size W W') : W'.ownsRow base e k v n xs := by
  refine ⟨h.1, ?_⟩
  rcases h.2 with hn | ⟨g, cap, cur, h1, h2, h3, h4⟩
  · exact .inl hn
  · have hlt : g < W.heap.size := (Array.getElem?_eq_some_iff.1 h3).1
    exact .inr ⟨g, cap, cur, h1, h2, by rw [hb.block g hlt]; exact h3, h4⟩
/-- A row of fields, wherever it lies in its block. -/
structure FA (w : World) (V : Value) (fs : List (List UInt8 × List UInt8)) (b o : Nat) : Prop where
  len : ∀ T w', (Builtin.len_ #[22] T #[V]).run Tryd.prog w' = .ok (.int .i64 (fs.length : Int)) w'
  index : ∀ i, i < fs.length → ∀ w', (Instr.indexAt 22 V (.int .i64 (i : Int))).run Tryd.prog w' = .ok (.pointer (some ⟨b, o + i * 2, none⟩)) w'
  cell : ∀ i f, fs[i]? = some f → w.cell? ⟨b, o + i * 2, none⟩ = some (S f.1) ∧ w.cell? ⟨b, o + i * 2 + 1, none⟩ = some (S f.2)
  form : ∃ a c, V = .slice a fs.length c
theorem FA.below {w w' : World} {V : Value} {fs : List (List UInt8 × List UInt8)} {b o : Nat} (h : FA w V fs b o) (hb : Below w.heap.size w w') : FA w' V fs b o :=
  ⟨h.len, h.index, fun i f hf => by
    obtain ⟨h1, h2⟩ := h.cell i f hf
    exact ⟨by rw [hb.cell (World.block_lt_of_cell? w _ h1)]; exact h1, by rw [hb.cell (World.block_lt_of_cell? w _ h2)]; exact h2⟩, h.form⟩
theorem FldsAt.fa {w : World} {V : Value} {fs : List (List UInt8 × List UInt8)} {g : Nat} (h : FldsAt w V fs g) : FA w V fs g 0 :=
  ⟨h.len, fun i hi w' => by rw [Nat.zero_add]; exact h.index i hi w', fun i f hf => by rw [Nat.zero_add]; exact h.cell i f hf, h.form⟩
end Go.Proofs.YtnaekjmlikhglaaDoor
/- A lifted proof that is handed both: what is listed lies as it was laid, and the first world's shape. -/
namespace Go.Proofs.YtnaekjmlikhglaaDoor
open Go
variable {H : Type} {enc : TypeId × Value → H}
theorem returns_both {a : Assume} {C : Checked} {os : Os} {f : FuncId} {fn : Func} {s : ChangeSpec} {conds : List PathCond} {apart fresh handsOn again : Bool} {X : World → Array Value → Prop}
    (hX : ∀ (w w' : World) (args : Array Value), w.heap = w'.heap → X w args → X w' args)
    (own : ownKnob C.prog.godebug = none) (started : os.Started) (noInit : C.prog.inits.idxOf? f = none) (hfn : C.prog.funcs[f]? = some fn)
    (witness : ∃ (w : World) (tape : Tape) (i : Input), w.os = os ∧ (w.forCall tape i).Shaped C.prog ∧ i.vars = [] ∧ Input.okWide C.prog (w.forCall tape i) .any w.heap.size f i ∧
      ((s.pre enc C.prog fn conds apart (w.forCall tape i).memory i.args ∧ X (w.forCall tape i).memory i.args) ∧ sizedMet enc C.prog fn (OpenSpec.ofChange s) apart (w.forCall tape i).memory i.args) ∧ a.holds C.prog (lone (Frame.enter C.prog f i.args .normal) [] (w.forCall tape i)))
    (contract : ∀ (W : World) (base : Nat) (args : Array Value) (ds gs : List (DataW H)) (before : List MemPlace),
      (∀ (j : Nat) t v, fn.params[j]? = some t → args[j]? = some v → Value.okWide C.prog W .any base t v) →
      DataW.Whole enc C.prog fn.params.toList s.vars apart W args.toList ds gs before →
      conds.all (PathCond.test C.prog ⟨fn.params.toList, ds, s.plain.varTypes C.prog, gs⟩) = true →
      (DataW.weightsEach C.prog (fn.params.toList ++ s.plain.varTypes C.prog) (ds ++ gs)).all (· ≤ reachBytes) = true → X W args →
      W.ShapedOpen C.prog →
      a.holds C.prog (lone (Frame.enter C.prog f args .normal) [] W) →
      Calls C.prog f args W fun e W' => ∃ v, e = .returned v ∧ s.post enc C.prog fn apart fresh handsOn again W args v W') :
    ReturnsInHanded a C os f .any (fun w args => (s.pre enc C.prog fn conds apart w args ∧ X w args) ∧ sizedMet enc C.prog fn (OpenSpec.ofChange s) apart w args) (s.post enc C.prog fn apart fresh handsOn again) := by
  refine returnsInHanded_of_calls own started noInit witness ?_
  intro w tape i _ hsh _ hok hpre hholds
  obtain ⟨_, _, _, fn', hfn', _, _, _, _, hval⟩ := hok
  have e : fn' = fn := Option.some.inj (hfn'.symm.trans hfn)
  subst e
  obtain ⟨⟨⟨ds, gs, before, hw, hc⟩, hx⟩, hz⟩ := hpre
  have hw' := DataW.Whole.of_heap (w' := w.forCall tape i) (by rfl) hw
  refine (contract (w.forCall tape i) w.heap.size i.args ds gs before hval hw' hc (hz.weights hw) (hX _ _ _ (by rfl) hx) hsh hholds).mono fun e W' ⟨v, he, hp⟩ => ?_
  subst he
  exact ChangeSpec.post_blind hp
end Go.Proofs.YtnaekjmlikhglaaDoor
/- Requests and replies as values; what is asked of the package of hands. -/
namespace Go.Proofs.YtnaekjmlikhglaaDoor
open Go.RowKit

def rqC17 (m p q : DTx) (v : Int) (V : Value) (body : DTx) (cl : Bool) : Array Value := #[S m, S p, S q, .int .i64 v, V, S body, .bool cl]
def rqV17 (m p q : DTx) (v : Int) (V : Value) (body : DTx) (cl : Bool) : Value := .agg (rqC17 m p q v V body cl)
def rpV17 (c : Int) (V : Value) (body : DTx) : Value := .agg #[.int .i64 c, V, S body]
structure Small17 (fs : DFds) : Prop where
  few : fs.length ≤ 100
  each : ∀ f ∈ fs, f.1.length ≤ 200 ∧ f.2.length ≤ 200
structure HandI (w0 : World) : Prop where
  accept : ∀ (k : DTx) (w : World), Below w0.heap.size w0 w → k.length ≤ 3000 → Calls Tryd.prog 16 #[S k] w fun e w' => e = .returned (S (accF k)) ∧ Below w.heap.size w w'
  check : ∀ (m p q : DTx) (v : Int) (V : Value) (body : DTx) (cl : Bool) (fs : DFds) (b o : Nat) (w : World), Below w0.heap.size w0 w → FA w V fs b o → Small17 fs →
    Calls Tryd.prog 11 #[rqV17 m p q v V body cl] w fun e w' => e = .returned (.tuple #[S (checkF m v fs).1, .int .i64 ((checkF m v fs).2 : Int)]) ∧ Below w.heap.size w w'
  answer : ∀ (m p q : DTx) (v : Int) (V : Value) (body : DTx) (cl : Bool) (fs : DFds) (b o : Nat) (w : World), Below w0.heap.size w0 w → FA w V fs b o → Small17 fs →
    Calls Tryd.prog 13 #[rqV17 m p q v V body cl] w fun e w' => ∃ V', e = .returned (.tuple #[rpV17 ((checkF m v fs).2 : Int) V' (replyF (checkF m v fs)).2, .bool (decide ((checkF m v fs).2 = 101))]) ∧
      w'.ownsRow w.heap.size 37 2 V' (replyF (checkF m v fs)).1.length (fcells (replyF (checkF m v fs)).1) ∧ Below w.heap.size w w'
theorem HandI.up {w W : World} (C : HandI w) (h : Below w.heap.size w W) : HandI W :=
  ⟨fun k w' hb => C.accept k w' (h.trans (hb.mono h.size)), fun m p q v V body cl fs b o w' hb => C.check m p q v V body cl fs b o w' (h.trans (hb.mono h.size)), fun m p q v V body cl fs b o w' hb => C.answer m p q v V body cl fs b o w' (h.trans (hb.mono h.size))⟩
end Go.Proofs.YtnaekjmlikhglaaDoor
