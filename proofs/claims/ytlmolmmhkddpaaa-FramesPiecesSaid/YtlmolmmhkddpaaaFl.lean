/- Structs appended to a slice of one's own; rows of fields. -/
import Derived.Test.YtlmolmmhkddpaaaGen9
import Derived.Test.YtlmolmmhkddpaaaMv
import Derived.Test.YtlmolmmhkddpaaaProg
import Derived.Deep.AppendLies
import Derived.Laws.StructEq
namespace Go.Proofs.Ytlmolmmhkddpaaa
open Go.RowKit
attribute [local go_sem] store_one S_match S_store

/-- A type whose values take k cells. -/
def EleK (P : Program) (e : TypeId) (k : Nat) : Prop := ∃ i z, P.info? e = some i ∧ i.zero = some z ∧ i.size = k ∧ i.bytes ≤ 4096 ∧ z.cells.size = k
theorem eleK_of {P : Program} {e : TypeId} {z : Value} {k n : Nat} (h : (P.info? e).map (fun i => (i.zero, i.size, i.bytes)) = some (some z, k, n)) (hn : n ≤ 4096) (hz : z.cells.size = k) : EleK P e k := by
  cases hi : P.info? e with
  | none => rw [hi] at h; cases h
  | some i =>
    rw [hi] at h
    simp only [Option.map_some, Option.some.injEq, Prod.mk.injEq] at h
    exact ⟨i, z, hi, h.1, h.2.1, by rw [h.2.2]; exact hn, hz⟩
section
variable {P : Program} {ops : Array Oper} {rest : List Oper} {o : Oper} {a : Act} {w : World} {Q : Exit → Act → World → Prop}
/-- One struct, laid in a block of its own and appended. -/
theorem wpList_addK (hgd : o.guard = none) (t e : TypeId) (s x : Operand) (ho : o.op = .call { callee := .builtin .append, args := #[s, x], argTypes := #[t, t] }) (ht : P.underlying t = some (.slice e)) {k : Nat} (he : EleK P e k) (hk : 0 < k) (base : Nat) (W : World)
    (v : Value) (hs : a.eval s = v) (n : Nat) (xs : List Value) (hown : W.ownsRow base e k v n xs) (cs : Array Value) (hcs : cs.size = k) (h1 : ∀ u ∈ cs.toList, u.oneCell' = true) (hw : w = W.alloc (.cells cs e)) (H : Nat) (hH : W.heap.size = H) (hx : a.eval x = .slice (some ⟨H, 0, none⟩) 1 1)
    (hlen : n < 1000000) (hbase : base ≤ W.heap.size)
    (h : ∀ g cap w', w'.ownsRow base e k (.slice (some ⟨g, 0, none⟩) (n + 1) cap) (n + 1) (xs ++ cs.toList) → W.grownBy w' v.ownBlock → wpList P ops Q rest (a.put o.dst (.slice (some ⟨g, 0, none⟩) (n + 1) cap)) w') : wpList P ops Q (o :: rest) a w := by
  subst hw hH
  obtain ⟨i, z, hi, hz, hsz, hby, hzs⟩ := he
  have hr := row_new W cs e
  have hnews : ∀ j u, cs.toList[j]? = some u → (W.alloc (.cells cs e)).cell? ((⟨W.heap.size, 0, none⟩ : Addr).add j) = some u := fun j u hu => by
    rw [Addr.add_mid]
    simp only [Nat.zero_add]
    rw [cell_of_row _ _ j _ _ _ hr]
    simpa using hu
  refine wpList_append_lies _ hgd s x t ho base e i z k i.bytes ht hi hz hsz rfl hzs hk v n xs hs (hown.alloc _) ⟨W.heap.size, 0, none⟩ 1 1 cs.toList hx (by rw [Array.length_toList, hcs, Nat.one_mul]) hnews h1 (by omega) (by simp [maxLen]; omega) ?_ (by rw [alloc_size]; omega) _ rfl ?_
  · have : (n + 1) * i.bytes ≤ 1000000 * 4096 := Nat.mul_le_mul (by omega) hby
    omega
  · intro g cap w' h2 h3 _ _
    exact h _ _ w' h2 ⟨h3.os, h3.tape, h3.output, Nat.le_trans (by simp) h3.size, fun k hk hn => (h3.block k (by rw [alloc_size]; omega) hn).trans (heap_alloc_old W _ hk)⟩
end
/-- Three results, the first one in a variable of its own. -/
theorem results_row_two {P : Program} {fn : Func} {p u v : Tmp} {ty : TypeId} (h : fn.results = #[.cell p ty, .tmp u, .tmp v]) (tmps : Array Value) (w : World) (g : Nat) (t : TypeId) (cs : Array Value) (fr : Nat × Nat) (d : TypeDesc)
    (hp : tmps.getD p undef = .pointer (some ⟨g, 0, none⟩)) (hg : w.heap[g]? = some (.cells cs t fr))
    (hu : P.underlying ty = some d) (hd : (match d with | .struct _ | .array _ _ => true | _ => false) = true) (hi : (P.info? ty).map (·.size) = some cs.size) :
    (results fn tmps).run P w = .ok (.tuple #[.agg cs, tmps.getD u undef, tmps.getD v undef]) w := by
  have hp' : tmps[p]?.getD undef = .pointer (some ⟨g, 0, none⟩) := by simpa using hp
  simp [results, h, hp', asAddr, run_loadVar_row w g t ty cs fr d hg hu hd hi]

def fcells (fs : List (List UInt8 × List UInt8)) : List Value := fs.flatMap fun f => [S f.1, S f.2]
theorem fcells_snoc (fs : List (List UInt8 × List UInt8)) (f : List UInt8 × List UInt8) : fcells (fs ++ [f]) = fcells fs ++ [S f.1, S f.2] := by
  unfold fcells; rw [List.flatMap_append]; simp
theorem eq_self (p : List UInt8) (w : World) : (Op.equalIn 9999 9 (S p) (S p)).run Try.prog w = .ok true w := by
  unfold S
  rw [run_equalIn_string w 9998 9 _ _ Try.underlying9, beq_self_eq_true]
theorem fcells_get : ∀ (fs : List (List UInt8 × List UInt8)) (i : Nat) (f : List UInt8 × List UInt8), fs[i]? = some f → (fcells fs)[i * 2]? = some (S f.1) ∧ (fcells fs)[i * 2 + 1]? = some (S f.2)
  | [], i, f, h => by simp at h
  | g :: fs, 0, f, h => by
    simp only [List.getElem?_cons_zero, Option.some.injEq] at h
    subst h
    exact ⟨rfl, rfl⟩
  | g :: fs, i + 1, f, h => by
    rw [List.getElem?_cons_succ] at h
    have ih := fcells_get fs i f h
    have e : fcells (g :: fs) = S g.1 :: S g.2 :: fcells fs := rfl
    rw [e, show (i + 1) * 2 = i * 2 + 1 + 1 by omega, List.getElem?_cons_succ, List.getElem?_cons_succ, List.getElem?_cons_succ, List.getElem?_cons_succ]
    exact ih
section
variable {P : Program} {ops : Array Oper} {rest : List Oper} {o : Oper} {a : Act} {w : World} {Q : Exit → Act → World → Prop}
/-- One struct, laid in a block of its own and appended; where it lies then. -/
theorem wpList_addL (hgd : o.guard = none) (t e : TypeId) (s x : Operand) (ho : o.op = .call { callee := .builtin .append, args := #[s, x], argTypes := #[t, t] }) (ht : P.underlying t = some (.slice e)) {k : Nat} (he : EleK P e k) (hk : 0 < k) (base : Nat) (W : World)
    (v : Value) (hs : a.eval s = v) (n : Nat) (xs : List Value) (hown : W.ownsRow base e k v n xs) (cs : Array Value) (hcs : cs.size = k) (h1 : ∀ u ∈ cs.toList, u.oneCell' = true) (hw : w = W.alloc (.cells cs e)) (H : Nat) (hH : W.heap.size = H) (hx : a.eval x = .slice (some ⟨H, 0, none⟩) 1 1)
    (hlen : n < 1000000) (hbase : base ≤ W.heap.size)
    (h : ∀ g cap w', w'.ownsRow base e k (.slice (some ⟨g, 0, none⟩) (n + 1) cap) (n + 1) (xs ++ cs.toList) → W.grownBy w' v.ownBlock → (v.ownBlock = some g ∨ W.heap.size ≤ g) → g < w'.heap.size → wpList P ops Q rest (a.put o.dst (.slice (some ⟨g, 0, none⟩) (n + 1) cap)) w') : wpList P ops Q (o :: rest) a w := by
  subst hw hH
  obtain ⟨i, z, hi, hz, hsz, hby, hzs⟩ := he
  have hr := row_new W cs e
  have hnews : ∀ j u, cs.toList[j]? = some u → (W.alloc (.cells cs e)).cell? ((⟨W.heap.size, 0, none⟩ : Addr).add j) = some u := fun j u hu => by
    rw [Addr.add_mid]
    simp only [Nat.zero_add]
    rw [cell_of_row _ _ j _ _ _ hr]
    simpa using hu
  refine wpList_append_lies _ hgd s x t ho base e i z k i.bytes ht hi hz hsz rfl hzs hk v n xs hs (hown.alloc _) ⟨W.heap.size, 0, none⟩ 1 1 cs.toList hx (by rw [Array.length_toList, hcs, Nat.one_mul]) hnews h1 (by omega) (by simp [maxLen]; omega) ?_ (by rw [alloc_size]; omega) _ rfl ?_
  · have : (n + 1) * i.bytes ≤ 1000000 * 4096 := Nat.mul_le_mul (by omega) hby
    omega
  · intro g cap w' h2 h3 h4 h5
    exact h _ _ w' h2 ⟨h3.os, h3.tape, h3.output, Nat.le_trans (by simp) h3.size, fun k hk hn => (h3.block k (by rw [alloc_size]; omega) hn).trans (heap_alloc_old W _ hk)⟩ (h4.imp id fun h => by rw [h, alloc_size]; omega) h5
end
theorem own_same {w w' : World} {base : Nat} {e : TypeId} {k n : Nat} {v : Value} {xs : List Value} (h : w.ownsRow base e k v n xs) (hb : ∀ j, v.ownBlock = some j → w'.heap[j]? = w.heap[j]?) : w'.ownsRow base e k v n xs := by
  refine ⟨h.1, ?_⟩
  rcases h.2 with h2 | ⟨g, cap, cur, rfl, h3, h4, h5⟩
  · exact .inl h2
  · exact .inr ⟨g, cap, cur, rfl, h3, (hb g rfl).trans h4, h5⟩
theorem set_grown (W : World) (b o : Nat) (v : Value) : W.grownBy (W.setCell ⟨b, o, none⟩ v) (some b) := by
  obtain ⟨h1, h2, h3, h4, h5⟩ := Keeps.setCell (b := b) W o v
  exact ⟨h1, h2, h3, h4, fun k hk hn => h5 k hk (fun e => hn (by rw [e]))⟩
theorem row_own_set {W : World} {base b o : Nat} {e : TypeId} {k n : Nat} {v x : Value} {xs : List Value} (h : W.ownsRow base e k v n xs) (hb : b < base) : (W.setCell ⟨b, o, none⟩ x).ownsRow base e k v n xs := by
  refine h.kept (set_grown W b o x) ?_
  cases hv : v.ownBlock with
  | none => exact .inl rfl
  | some g =>
    right
    intro e
    have := (h.lt g hv).1
    cases e
    omega
theorem own_weak {W : World} {base base' : Nat} {e : TypeId} {k n : Nat} {v : Value} {xs : List Value} (h : W.ownsRow base e k v n xs) (hb : base' ≤ base) : W.ownsRow base' e k v n xs := by
  refine ⟨h.1, ?_⟩
  rcases h.2 with hn | ⟨g, cap, cur, h1, h2, h3⟩
  · exact .inl hn
  · exact .inr ⟨g, cap, cur, h1, by omega, h3⟩
theorem own_below {W W' : World} {base : Nat} {e : TypeId} {k n : Nat} {v : Value} {xs : List Value} (h : W.ownsRow base e k v n xs) (hb : Below W.heap.size W W') : W'.ownsRow base e k v n xs := by
  refine ⟨h.1, ?_⟩
  rcases h.2 with hn | ⟨g, cap, cur, h1, h2, h3, h4⟩
  · exact .inl hn
  · have hlt : g < W.heap.size := (Array.getElem?_eq_some_iff.1 h3).1
    exact .inr ⟨g, cap, cur, h1, h2, by rw [hb.block g hlt]; exact h3, h4⟩
end Go.Proofs.Ytlmolmmhkddpaaa
