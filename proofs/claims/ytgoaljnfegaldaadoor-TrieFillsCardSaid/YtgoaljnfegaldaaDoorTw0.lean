/- The nodes of a trie in memory: which block is the node at a row of keys, and what its cells are. -/
import Derived.Test.YtgoaljnfegaldaaDoorTn2
import Derived.Test.YtgoaljnfegaldaaDoorMp
import Derived.Test.YtgoaljnfegaldaaDoorFl
import Derived.Test.YtgoaljnfegaldaaDoorProg
namespace Go.Proofs.YtgoaljnfegaldaaDoor
open Go.RowKit

theorem kind_casesB (c : UInt8) : c = 58 ∨ (((c.toNat : Int) == 58) = false ∧ c = 42) ∨ (c ≠ 58 ∧ c ≠ 42 ∧ ((c.toNat : Int) == 58) = false ∧ ((c.toNat : Int) == 42) = false) := by
  have no : ∀ d : UInt8, c ≠ d → ((c.toNat : Int) == (d.toNat : Int)) = false := fun d h => by
    have h2 : c.toNat ≠ d.toNat := fun e => h (UInt8.toNat_inj.1 e)
    rw [beq_eq_false_iff_ne]; omega
  by_cases h1 : c = 58
  · exact .inl h1
  · by_cases h2 : c = 42
    · exact .inr (.inl ⟨no 58 h1, h2⟩)
    · exact .inr (.inr ⟨h1, h2, no 58 h1, no 42 h2⟩)
/-- What a block of a trie is. -/
inductive Role where
  | nd (k : List Key)
  | mp (k : List Key)
  | en
  | ar
/-- Where a node begins in its block: the first one stands in the trie's own. -/
def offK : List Key → Nat
  | [] => 1
  | _ :: _ => 0
theorem offK_snoc (k : List Key) (c : Key) : offK (k ++ [c]) = 0 := by cases k <;> rfl
def mapV : Option Nat → Value
  | none => .map none
  | some m => .map (some m)
theorem ptrO_one (o : Option Nat) : (ptrO o).oneCell' = true := by cases o <;> rfl
theorem mapV_one (o : Option Nat) : (mapV o).oneCell' = true := by cases o <;> rfl
/-- A node's map: none (nothing is below by a literal), or block m. -/
def MapAt (w : World) (C : Nat) (f : Txt → Option Nat) : Option Nat → Prop
  | none => ∀ s, f s = none
  | some m => PMap Tryd.prog 9 w m C f
theorem MapAt.same {w w' : World} {C C' : Nat} {f f' : Txt → Option Nat} {M : Option Nat} (h : MapAt w C f M) (hm : ∀ m, M = some m → w'.heap[m]? = w.heap[m]?) (hC : C ≤ C') (hf : ∀ s, f' s = f s) : MapAt w' C' f' M := by
  have e : f' = f := funext hf
  subst e
  cases M with
  | none => exact h
  | some m => exact (PMap.same h (hm m rfl)).mono hC
/-- A node's cells, from o on in block b: the map of its literals, the parameter, the rest, what ends here. -/
structure NodeAt (w : World) (b o : Nat) (N : List Key → Option Nat) (M E : Option Nat) (k : List Key) (C : Nat) : Prop where
  row : ∃ cs t, Row w b cs t ∧ cs[o]? = some (mapV M) ∧ cs[o + 1]? = some (ptrO (N (k ++ [.par]))) ∧ cs[o + 2]? = some (ptrO (N (k ++ [.rst]))) ∧ cs[o + 3]? = some (ptrO E)
  map : MapAt w C (fun s => N (k ++ [.lit s])) M
section
variable {w w' : World} {b o : Nat} {N : List Key → Option Nat} {M E : Option Nat} {k : List Key} {C : Nat}
theorem NodeAt.lits (h : NodeAt w b o N M E k C) : w.cell? ⟨b, o, none⟩ = some (mapV M) ∧ w.frozen? ⟨b, o, none⟩ = false := by
  obtain ⟨cs, t, hr, h0, _⟩ := h.row
  exact ⟨by rw [cell_of_row w b o cs t (0, 0) hr]; exact h0, hr.frozen o⟩
theorem NodeAt.par (h : NodeAt w b o N M E k C) : w.cell? ⟨b, o + 1, none⟩ = some (ptrO (N (k ++ [.par]))) ∧ w.frozen? ⟨b, o + 1, none⟩ = false := by
  obtain ⟨cs, t, hr, _, h0, _⟩ := h.row
  exact ⟨by rw [cell_of_row w b _ cs t (0, 0) hr]; exact h0, hr.frozen _⟩
theorem NodeAt.rst (h : NodeAt w b o N M E k C) : w.cell? ⟨b, o + 2, none⟩ = some (ptrO (N (k ++ [.rst]))) ∧ w.frozen? ⟨b, o + 2, none⟩ = false := by
  obtain ⟨cs, t, hr, _, _, h0, _⟩ := h.row
  exact ⟨by rw [cell_of_row w b _ cs t (0, 0) hr]; exact h0, hr.frozen _⟩
theorem NodeAt.fin (h : NodeAt w b o N M E k C) : w.cell? ⟨b, o + 3, none⟩ = some (ptrO E) ∧ w.frozen? ⟨b, o + 3, none⟩ = false := by
  obtain ⟨cs, t, hr, _, _, _, h0⟩ := h.row
  exact ⟨by rw [cell_of_row w b _ cs t (0, 0) hr]; exact h0, hr.frozen _⟩
theorem NodeAt.lt (h : NodeAt w b o N M E k C) : b < w.heap.size := by
  obtain ⟨cs, t, hr, _⟩ := h.row
  exact hr.lt
theorem NodeAt.same (h : NodeAt w b o N M E k C) (hb : w'.heap[b]? = w.heap[b]?) (hm : ∀ m, M = some m → w'.heap[m]? = w.heap[m]?) : NodeAt w' b o N M E k C := by
  refine ⟨?_, ?_⟩
  · obtain ⟨cs, t, hr, h1⟩ := h.row
    exact ⟨cs, t, by unfold Row; rw [hb]; exact hr, h1⟩
  · exact h.map.same hm (Nat.le_refl _) (fun _ => rfl)
/-- Which node is below, by another function that says the same here. -/
theorem NodeAt.to (h : NodeAt w b o N M E k C) {N' : List Key → Option Nat} (he : ∀ c, N' (k ++ [c]) = N (k ++ [c])) {C' : Nat} (hC : C ≤ C') : NodeAt w b o N' M E k C' := by
  refine ⟨?_, ?_⟩
  · rw [he, he]; exact h.row
  · exact h.map.same (fun _ _ => rfl) hC (fun s => he _)
/-- A literal below. -/
theorem NodeAt.look (h : NodeAt w b o N M E k C) {t e : TypeId} (ht : Tryd.prog.underlying t = some (.map 9 e)) (hz : ∀ w, (zeroValue e).run Tryd.prog w = .ok (.pointer none) w) {s : Txt} (hs : s.length ≤ 1000000) :
    (Instr.lookup t (mapV M) (S s) false).run Tryd.prog w = .ok (ptrO (N (k ++ [.lit s]))) w := by
  have h1 := h.map
  cases M with
  | none =>
    have h1 : N (k ++ [.lit s]) = none := h1 s
    rw [h1]
    exact nil_lookup Tryd.underlying9 ht hz hs w
  | some m => exact PMap.lookup Tryd.underlying9 ht hz h1 hs
end
/-- The nodes of the trie in block g. R: what each of its blocks is; N: the nodes; M: their maps; E: what ends there; C: no map has more; mx, av: what else the first block has. -/
structure Nodes (w : World) (g : Nat) (R : Nat → Option Role) (N M E : List Key → Option Nat) (C : Nat) (mx : Int) (av : Value) : Prop where
  top : ∃ cs t, Row w g cs t ∧ cs[0]? = some (.int .i64 mx) ∧ cs[5]? = some av
  root : N [] = some g
  pre : ∀ k c, N (k ++ [c]) ≠ none → N k ≠ none
  nR : ∀ k b, N k = some b → R b = some (.nd k)
  mR : ∀ k b, M k = some b → R b = some (.mp k) ∧ N k ≠ none
  eR : ∀ k b, E k = some b → R b = some .en ∧ N k ≠ none
  lt : ∀ b r, R b = some r → b < w.heap.size
  node : ∀ k b, N k = some b → NodeAt w b (offK k) N (M k) (E k) k C
section
variable {w w' : World} {g : Nat} {R R' : Nat → Option Role} {N M E : List Key → Option Nat} {C : Nat} {mx : Int} {av : Value}
theorem Nodes.rootR (h : Nodes w g R N M E C mx av) : R g = some (.nd []) := h.nR [] g h.root
theorem Nodes.same (h : Nodes w g R N M E C mx av) (hs : w.heap.size ≤ w'.heap.size) (hb : ∀ b, (∃ k, R b = some (.nd k) ∨ R b = some (.mp k)) → w'.heap[b]? = w.heap[b]?) : Nodes w' g R N M E C mx av :=
  { h with
    top := by
      obtain ⟨cs, t, hr, h1⟩ := h.top
      exact ⟨cs, t, by unfold Row; rw [hb g ⟨[], .inl h.rootR⟩]; exact hr, h1⟩
    lt := fun b r hr => Nat.lt_of_lt_of_le (h.lt b r hr) hs
    node := fun k b hk => (h.node k b hk).same (hb b ⟨k, .inl (h.nR k b hk)⟩) fun m hm => hb m ⟨k, .inr (h.mR k m hm).1⟩ }
theorem Nodes.below (h : Nodes w g R N M E C mx av) (hb : Below w.heap.size w w') : Nodes w' g R N M E C mx av :=
  h.same hb.size fun b ⟨_, hr⟩ => hb.block b (hr.elim (h.lt b _) (h.lt b _))
theorem Nodes.mono (h : Nodes w g R N M E C mx av) {C' : Nat} (hC : C ≤ C') : Nodes w g R N M E C' mx av :=
  { h with node := fun k b hk => (h.node k b hk).to (fun _ => rfl) hC }
theorem snoc_ne_nil {α : Type} (k : List α) (c : α) : k ++ [c] ≠ [] := by simp
theorem snoc_inj {α : Type} {k k' : List α} {c c' : α} (h : k ++ [c] = k' ++ [c']) : k = k' ∧ c = c' := by
  have := List.append_inj' h rfl
  exact ⟨this.1, by simpa using this.2⟩
theorem snoc_ne_self {α : Type} (k : List α) (c : α) : k ++ [c] ≠ k := fun h => by
  have := congrArg List.length h
  simp at this
/-- A trie whose blocks were R has R' now: but for nodes and maps nothing that there was has turned. -/
structure Grew (R R' : Nat → Option Role) (w w' : World) : Prop where
  os : w'.os = w.os
  tape : w'.tape = w.tape
  output : w'.output = w.output
  size : w.heap.size ≤ w'.heap.size
  keep : ∀ b r, R b = some r → R' b = some r
  new : ∀ b r, R' b = some r → R b = some r ∨ w.heap.size ≤ b
  rest : ∀ b, b < w.heap.size → (∀ k, R b ≠ some (.nd k) ∧ R b ≠ some (.mp k)) → w'.heap[b]? = w.heap[b]?
theorem Grew.refl (R : Nat → Option Role) (w : World) : Grew R R w w := ⟨rfl, rfl, rfl, Nat.le_refl _, fun _ _ h => h, fun _ _ h => .inl h, fun _ _ _ => rfl⟩
theorem Grew.of_below (R : Nat → Option Role) (h : Below w.heap.size w w') : Grew R R w w' := ⟨h.os, h.tape, h.output, h.size, fun _ _ h => h, fun _ _ h => .inl h, fun b hb _ => h.block b hb⟩
theorem Grew.trans {R'' : Nat → Option Role} {w'' : World} (h : Grew R R' w w') (k : Grew R' R'' w' w'') : Grew R R'' w w'' :=
  ⟨k.os.trans h.os, k.tape.trans h.tape, k.output.trans h.output, Nat.le_trans h.size k.size, fun b r hb => k.keep b r (h.keep b r hb), fun b r hb => by
    rcases k.new b r hb with h1 | h1
    · exact h.new b r h1
    · have := h.size; exact .inr (by omega),
  fun b hb hr => by
    refine (k.rest b (Nat.lt_of_lt_of_le hb h.size) fun k' => ?_).trans (h.rest b hb hr)
    have no : ∀ r, R' b = some r → R b = some r := fun r e => (h.new b r e).resolve_right (by omega)
    exact ⟨fun e => (hr k').1 (no _ e), fun e => (hr k').2 (no _ e)⟩⟩
/-- One more node. -/
theorem Nodes.grow (h : Nodes w g R N M E C mx av) {k : List Key} {b : Nat} (hk : N k = some b) {c : Key} (hc : N (k ++ [c]) = none) (nb : Nat) (M1 : Option Nat) {t : TypeId}
    (hrow : Row w' nb #[.map none, .pointer none, .pointer none, .pointer none] t)
    (hR : ∀ b r, R b = some r → R' b = some r) (hR1 : R' nb = some (.nd (k ++ [c]))) (hRlt : ∀ b r, R' b = some r → b < w'.heap.size) (hM1 : ∀ m, M1 = some m → R' m = some (.mp k))
    (hrest : ∀ b' r, R b' = some r → r ≠ .nd k → r ≠ .mp k → w'.heap[b']? = w.heap[b']?)
    (hnode : NodeAt w' b (offK k) (fun k' => if k' = k ++ [c] then some nb else N k') M1 (E k) k (C + 1))
    (htop : k = [] → ∃ cs t, Row w' g cs t ∧ cs[0]? = some (.int .i64 mx) ∧ cs[5]? = some av) :
    Nodes w' g R' (fun k' => if k' = k ++ [c] then some nb else N k') (fun k' => if k' = k then M1 else M k') E (C + 1) mx av := by
  have hnone : ∀ x, N (k ++ [c] ++ [x]) = none := fun x => by
    cases hx : N (k ++ [c] ++ [x]) with
    | none => rfl
    | some y => exact absurd hc (h.pre _ x (by rw [hx]; exact Option.some_ne_none _))
  have hMn : M (k ++ [c]) = none := by
    cases hx : M (k ++ [c]) with
    | none => rfl
    | some y => exact absurd hc (h.mR _ y hx).2
  have hEn : E (k ++ [c]) = none := by
    cases hx : E (k ++ [c]) with
    | none => rfl
    | some y => exact absurd hc (h.eR _ y hx).2
  refine ⟨?_, ?_, ?_, ?_, ?_, ?_, hRlt, ?_⟩
  · by_cases e : k = []
    · exact htop e
    · obtain ⟨cs, t, hr, h1⟩ := h.top
      refine ⟨cs, t, ?_, h1⟩
      unfold Row
      rw [hrest g _ h.rootR (fun e' => e (by injection e' with e'; exact e'.symm)) (fun e' => by cases e')]
      exact hr
  · rw [if_neg (fun e => snoc_ne_nil k c e.symm)]; exact h.root
  · intro k' x
    by_cases e1 : k' = k ++ [c]
    · rw [if_pos e1]; intro _ e; cases e
    · rw [if_neg e1]
      by_cases e2 : k' ++ [x] = k ++ [c]
      · obtain ⟨rfl, _⟩ := snoc_inj e2
        intro _; rw [hk]; exact Option.some_ne_none _
      · rw [if_neg e2]; exact h.pre k' x
  · intro k' b' hb'
    by_cases e1 : k' = k ++ [c]
    · rw [if_pos e1] at hb'
      cases hb'
      rw [e1]; exact hR1
    · rw [if_neg e1] at hb'
      exact hR _ _ (h.nR k' b' hb')
  · intro k' m hm
    have hsome : N k' ≠ none → (if k' = k ++ [c] then some nb else N k') ≠ none := fun hn => by
      split
      · exact Option.some_ne_none _
      · exact hn
    by_cases e1 : k' = k
    · rw [if_pos e1] at hm
      have h2 := hsome (by rw [e1, hk]; exact Option.some_ne_none _)
      rw [e1] at h2 ⊢
      exact ⟨hM1 m hm, h2⟩
    · rw [if_neg e1] at hm
      exact ⟨hR _ _ (h.mR k' m hm).1, hsome (h.mR k' m hm).2⟩
  · intro k' m hm
    refine ⟨hR _ _ (h.eR k' m hm).1, ?_⟩
    split
    · exact Option.some_ne_none _
    · exact (h.eR k' m hm).2
  · intro k' b' hb'
    by_cases e1 : k' = k ++ [c]
    · rw [if_pos e1] at hb'
      cases hb'
      subst e1
      rw [if_neg (snoc_ne_self k c), hMn, hEn, offK_snoc]
      refine ⟨⟨_, t, hrow, rfl, ?_, ?_, rfl⟩, ?_⟩
      · rw [if_neg (snoc_ne_self _ _), hnone]; rfl
      · rw [if_neg (snoc_ne_self _ _), hnone]; rfl
      · intro s
        show (if k ++ [c] ++ [.lit s] = k ++ [c] then some nb else N (k ++ [c] ++ [.lit s])) = none
        rw [if_neg (snoc_ne_self _ _), hnone]
    · rw [if_neg e1] at hb'
      by_cases e2 : k' = k
      · subst e2
        rw [hk] at hb'
        cases hb'
        rw [if_pos rfl]
        exact hnode
      · rw [if_neg e2]
        have h1 := h.node k' b' hb'
        refine (h1.same (hrest b' _ (h.nR k' b' hb') (fun e => e2 (by injection e)) (fun e => by cases e)) fun m hm => hrest m _ (h.mR k' m hm).1 (fun e => by cases e) (fun e => e2 (by injection e))).to (fun x => ?_) (Nat.le_succ C)
        rw [if_neg (fun e => e2 (snoc_inj e).1)]
theorem set_far {cs : Array Value} {i j : Nat} {a v : Value} (h : cs[j]? = some a) (hij : i ≠ j) : (cs.setIfInBounds i v)[j]? = some a := by
  rw [Array.getElem?_setIfInBounds_ne hij]; exact h
theorem set_at {cs : Array Value} {i : Nat} {a v : Value} (h : cs[i]? = some a) : (cs.setIfInBounds i v)[i]? = some v := by
  have := (Array.getElem?_eq_some_iff.1 h).1
  simp [this]
/-- What there is behind grow: at c below k is block b'. -/
def Grown (w : World) (g : Nat) (R : Nat → Option Role) (N E : List Key → Option Nat) (C : Nat) (mx : Int) (av : Value) (k : List Key) (c : Key) (b' : Nat) (w' : World) : Prop :=
  ∃ R' N' M', Nodes w' g R' N' M' E (C + 1) mx av ∧ (∀ k', N' k' = if k' = k ++ [c] then some b' else N k') ∧ Grew R R' w w'
theorem Grown.there (h : Nodes w g R N M E C mx av) {k : List Key} {c : Key} {b' : Nat} (hc : N (k ++ [c]) = some b') : Grown w g R N E C mx av k c b' w :=
  ⟨R, N, M, h.mono (Nat.le_succ C), fun k' => by
    split
    · rename_i e; rw [e]; exact hc
    · rfl, Grew.refl R w⟩
/-- Cells of a node, one of which is turned. -/
theorem set4 {cs : Array Value} {o : Nat} {a0 a1 a2 a3 : Value} (h : cs[o]? = some a0 ∧ cs[o + 1]? = some a1 ∧ cs[o + 2]? = some a2 ∧ cs[o + 3]? = some a3) (v : Value) :
    ((cs.setIfInBounds o v)[o]? = some v ∧ (cs.setIfInBounds o v)[o + 1]? = some a1 ∧ (cs.setIfInBounds o v)[o + 2]? = some a2 ∧ (cs.setIfInBounds o v)[o + 3]? = some a3) ∧
    ((cs.setIfInBounds (o + 1) v)[o]? = some a0 ∧ (cs.setIfInBounds (o + 1) v)[o + 1]? = some v ∧ (cs.setIfInBounds (o + 1) v)[o + 2]? = some a2 ∧ (cs.setIfInBounds (o + 1) v)[o + 3]? = some a3) ∧
    ((cs.setIfInBounds (o + 2) v)[o]? = some a0 ∧ (cs.setIfInBounds (o + 2) v)[o + 1]? = some a1 ∧ (cs.setIfInBounds (o + 2) v)[o + 2]? = some v ∧ (cs.setIfInBounds (o + 2) v)[o + 3]? = some a3) ∧
    ((cs.setIfInBounds (o + 3) v)[o]? = some a0 ∧ (cs.setIfInBounds (o + 3) v)[o + 1]? = some a1 ∧ (cs.setIfInBounds (o + 3) v)[o + 2]? = some a2 ∧ (cs.setIfInBounds (o + 3) v)[o + 3]? = some v) := by
  obtain ⟨h0, h1, h2, h3⟩ := h
  refine ⟨⟨?_, ?_, ?_, ?_⟩, ⟨?_, ?_, ?_, ?_⟩, ⟨?_, ?_, ?_, ?_⟩, ⟨?_, ?_, ?_, ?_⟩⟩ <;> first | exact set_at (by assumption) | exact set_far (by assumption) (by omega)
/-- The row that a node stands in. -/
theorem Nodes.rowOf (h : Nodes w g R N M E C mx av) {k : List Key} {b : Nat} (hk : N k = some b) : ∃ cs t, Row w b cs t ∧
    (cs[offK k]? = some (mapV (M k)) ∧ cs[offK k + 1]? = some (ptrO (N (k ++ [.par]))) ∧ cs[offK k + 2]? = some (ptrO (N (k ++ [.rst]))) ∧ cs[offK k + 3]? = some (ptrO (E k))) ∧ (k = [] → b = g ∧ cs[0]? = some (.int .i64 mx) ∧ cs[5]? = some av) := by
  obtain ⟨cs, t, hr, h4⟩ := (h.node k b hk).row
  refine ⟨cs, t, hr, h4, fun e => ?_⟩
  subst e
  have hb : b = g := Option.some.inj (hk.symm.trans h.root)
  subst hb
  obtain ⟨cs', t', hr', h1⟩ := h.top
  have : cs' = cs := by
    unfold Row at hr hr'
    rw [hr] at hr'
    injection hr' with e
    injection e with e
    exact e.symm
  subst this
  exact ⟨rfl, h1⟩
/-- A trie behind grow, by what has turned. -/
theorem Grown.of (h : Nodes w g R N M E C mx av) {k : List Key} {b : Nat} (hk : N k = some b) {c : Key} (hc : N (k ++ [c]) = none) {t : TypeId} {m1 : Option Nat} (hos : w'.os = w.os) (htape : w'.tape = w.tape) (hout : w'.output = w.output) (hsize : w.heap.size < w'.heap.size)
    (hrow : Row w' w.heap.size #[.map none, .pointer none, .pointer none, .pointer none] t) (hrest : ∀ x, x < w.heap.size → x ≠ b → M k ≠ some x → w'.heap[x]? = w.heap[x]?)
    (hm : m1 = M k ∨ (M k = none ∧ ∃ m, m1 = some m ∧ w.heap.size < m ∧ m < w'.heap.size))
    (hnode : NodeAt w' b (offK k) (fun k' => if k' = k ++ [c] then some w.heap.size else N k') m1 (E k) k (C + 1))
    (htop : k = [] → ∃ cs t, Row w' g cs t ∧ cs[0]? = some (.int .i64 mx) ∧ cs[5]? = some av) : Grown w g R N E C mx av k c w.heap.size w' := by
  have hRb := h.nR k b hk
  refine ⟨fun x => if x = w.heap.size then some (.nd (k ++ [c])) else if w.heap.size < x ∧ m1 = some x then some (.mp k) else R x, fun k' => if k' = k ++ [c] then some w.heap.size else N k', fun k' => if k' = k then m1 else M k', ?_, fun k' => rfl, hos, htape, hout, Nat.le_of_lt hsize, ?_, ?_, ?_⟩
  · refine h.grow hk hc w.heap.size m1 hrow (fun x r hx => ?_) (by rw [if_pos rfl]) (fun x r hx => ?_) (fun m e => ?_) (fun x r hx h1 h2 => ?_) hnode htop
    · have := h.lt x r hx
      rw [if_neg (by omega), if_neg (by omega)]; exact hx
    · split at hx
      · omega
      · split at hx
        · rename_i h1
          rcases hm with e | ⟨_, m, e, _, h2⟩
          · rw [e] at h1
            have := h.lt x _ (h.mR k x h1.2).1
            omega
          · rw [h1.2] at e
            cases e
            exact h2
        · have := h.lt x r hx; omega
    · rcases hm with e' | ⟨_, m', e', h1, h2⟩
      · have h1 := (h.mR k m (by rw [← e']; exact e)).1
        have := h.lt m _ h1
        rw [if_neg (by omega), if_neg (by omega)]; exact h1
      · rw [e] at e'
        cases e'
        rw [if_neg (by omega), if_pos ⟨h1, e⟩]
    · refine hrest x (h.lt x r hx) (fun e => h1 ?_) fun e => h2 ?_
      · rw [e, hRb] at hx; exact (Option.some.inj hx).symm
      · rw [(h.mR k x e).1] at hx; exact (Option.some.inj hx).symm
  · intro x r hx
    have := h.lt x r hx
    rw [if_neg (by omega), if_neg (by omega)]; exact hx
  · intro x r hx
    split at hx
    · right; omega
    · split at hx
      · right; omega
      · exact .inl hx
  · intro x hx hr
    refine hrest x hx (fun e => (hr k).1 (by rw [e]; exact hRb)) fun e => (hr k).2 (h.mR k x e).1
/-- A parameter or the rest is put below. -/
theorem Grown.cell (h : Nodes w g R N M E C mx av) {k : List Key} {b : Nat} (hk : N k = some b) {c : Key} (hc : N (k ++ [c]) = none) (t : TypeId) (j : Nat) (hj : (c = .par ∧ j = 1) ∨ (c = .rst ∧ j = 2)) :
    Grown w g R N E C mx av k c w.heap.size ((w.alloc (.cells #[.map none, .pointer none, .pointer none, .pointer none] t)).setCell ⟨b, offK k + j, none⟩ (.pointer (some ⟨w.heap.size, 0, none⟩))) := by
  obtain ⟨cs, ty, hr, h4, htop⟩ := h.rowOf hk
  have hb := hr.lt
  have hr2 := (hr.alloc (.cells #[.map none, .pointer none, .pointer none, .pointer none] t)).set (offK k + j) (.pointer (some ⟨w.heap.size, 0, none⟩))
  have hkeep := Keeps.setCell (b := b) (w.alloc (.cells #[.map none, .pointer none, .pointer none, .pointer none] t)) (offK k + j) (.pointer (some ⟨w.heap.size, 0, none⟩))
  have hnew := (row_new w #[.map none, .pointer none, .pointer none, .pointer none] t).keeps hkeep (by omega)
  have hrest : ∀ x, x < w.heap.size → x ≠ b → ((w.alloc (.cells #[.map none, .pointer none, .pointer none, .pointer none] t)).setCell ⟨b, offK k + j, none⟩ (.pointer (some ⟨w.heap.size, 0, none⟩))).heap[x]? = w.heap[x]? := fun x hx hn =>
    (hkeep.block x (by rw [alloc_size]; omega) hn).trans (heap_alloc_old w _ hx)
  refine Grown.of h hk hc (hkeep.os) (hkeep.tape) (hkeep.output) (by have := hkeep.size; rw [alloc_size] at this; omega) hnew (fun x hx h1 _ => hrest x hx h1) (.inl rfl) ⟨⟨_, ty, hr2, ?_⟩, ?_⟩ fun e => ?_
  · obtain ⟨-, s1, s2, -⟩ := set4 h4 (.pointer (some ⟨w.heap.size, 0, none⟩))
    rcases hj with ⟨rfl, rfl⟩ | ⟨rfl, rfl⟩
    · rw [if_pos rfl, if_neg (fun e => by cases (snoc_inj e).2)]; exact s1
    · rw [if_pos rfl, if_neg (fun e => by cases (snoc_inj e).2)]; exact s2
  · have hm := (h.node k b hk).map
    have hcl : ∀ s, k ++ [.lit s] ≠ k ++ [c] := fun s e => by
      have := (snoc_inj e).2
      rcases hj with ⟨rfl, _⟩ | ⟨rfl, _⟩ <;> cases this
    refine hm.same (fun m hM => ?_) (Nat.le_succ C) (fun s => if_neg (hcl s))
    have hmm := h.mR k m hM
    exact hrest m (h.lt m _ hmm.1) fun e => by
      have := hmm.1
      rw [e, h.nR k b hk] at this
      cases this
  · obtain ⟨rfl, h0, h5⟩ := htop e
    have ho : offK k = 1 := by rw [e]; rfl
    exact ⟨_, ty, hr2, set_far h0 (by omega), set_far h5 (by rcases hj with ⟨_, rfl⟩ | ⟨_, rfl⟩ <;> omega)⟩
/-- A literal is put below, into a map that there was (mb none) or a new one. -/
theorem Grown.lit (h : Nodes w g R N M E C mx av) {k : List Key} {b : Nat} (hk : N k = some b) {s : Txt} (hc : N (k ++ [.lit s]) = none) (t : TypeId) (m : Nat) (W : World) (hm : M k = some m ∧ W = w.alloc (.cells #[.map none, .pointer none, .pointer none, .pointer none] t) ∨
      M k = none ∧ m = w.heap.size + 1 ∧ W = ((w.alloc (.cells #[.map none, .pointer none, .pointer none, .pointer none] t)).alloc (.map #[] 0)).setCell ⟨b, offK k, none⟩ (.map (some m)))
    (hp : PMap Tryd.prog 9 w' m (C + 1) (updF (fun s => N (k ++ [.lit s])) s w.heap.size)) (hg : W.grownBy w' (some m)) : Grown w g R N E C mx av k (.lit s) w.heap.size w' := by
  obtain ⟨cs, ty, hr, h4, htop⟩ := h.rowOf hk
  have hb := hr.lt
  have hf : (fun x => (if k ++ [.lit x] = k ++ [.lit s] then some w.heap.size else N (k ++ [.lit x]))) = updF (fun s => N (k ++ [.lit s])) s w.heap.size := funext fun x => by
    unfold updF
    by_cases e : x = s
    · rw [if_pos e, if_pos (by rw [e])]
    · rw [if_neg e, if_neg (fun e' => e (by have := (snoc_inj e').2; injection this))]
  have hcell : ∀ c, (∀ x, c ≠ .lit x) → (if k ++ [c] = k ++ [.lit s] then some w.heap.size else N (k ++ [c])) = N (k ++ [c]) := fun c hc => if_neg fun e => hc s (snoc_inj e).2
  rcases hm with ⟨hM, rfl⟩ | ⟨hM, rfl, rfl⟩
  · have hmm := h.mR k m hM
    have hml := h.lt m _ hmm.1
    have hne : m ≠ b := fun e => by
      have := hmm.1
      rw [e, h.nR k b hk] at this
      cases this
    have hrest : ∀ x, x < w.heap.size → x ≠ m → w'.heap[x]? = w.heap[x]? := fun x hx hn => (hg.block x (by rw [alloc_size]; omega) (fun e => hn (Option.some.inj e))).trans (heap_alloc_old w _ hx)
    have hrb : Row w' b cs ty := by unfold Row; rw [hrest b hb (Ne.symm hne)]; exact hr
    refine Grown.of h hk hc hg.os hg.tape hg.output (by have := hg.size; rw [alloc_size] at this; omega) (row_grown (row_new w _ t) hg (fun e => by have := Option.some.inj e; omega)) (fun x hx _ h2 => hrest x hx fun e => h2 (by rw [e]; exact hM)) (.inl rfl) ⟨⟨cs, ty, hrb, ?_⟩, ?_⟩ fun e => ?_
    · rw [hcell _ (fun x e => by cases e), hcell _ (fun x e => by cases e)]; exact h4
    · rw [hM]
      show PMap Tryd.prog 9 w' m (C + 1) (fun x => (if k ++ [.lit x] = k ++ [.lit s] then some w.heap.size else N (k ++ [.lit x])))
      rw [hf]; exact hp
    · obtain ⟨rfl, h0, h5⟩ := htop e
      exact ⟨cs, ty, hrb, h0, h5⟩
  · have hr2 := (((hr.alloc (.cells #[.map none, .pointer none, .pointer none, .pointer none] t)).alloc (.map #[] 0)).set (offK k) (.map (some (w.heap.size + 1))))
    have hkeep := Keeps.setCell (b := b) ((w.alloc (.cells #[.map none, .pointer none, .pointer none, .pointer none] t)).alloc (.map #[] 0)) (offK k) (.map (some (w.heap.size + 1)))
    have hsz : ((w.alloc (.cells #[.map none, .pointer none, .pointer none, .pointer none] t)).alloc (.map #[] 0)).heap.size = w.heap.size + 2 := by rw [alloc_size, alloc_size]
    have hks := hkeep.size
    rw [hsz] at hks
    have hgs := hg.size
    have hold : ∀ x, x < w.heap.size → x ≠ b → w'.heap[x]? = w.heap[x]? := fun x hx hn =>
      (((hg.block x (by omega) (fun e => by have := Option.some.inj e; omega)).trans (hkeep.block x (by omega) hn)).trans (heap_alloc_old _ _ (by rw [alloc_size]; omega))).trans (heap_alloc_old w _ hx)
    have hrb := row_grown hr2 hg (fun e => by have := Option.some.inj e; omega)
    have hnew := row_grown (((row_new w #[.map none, .pointer none, .pointer none, .pointer none] t).alloc (.map #[] 0)).keeps hkeep (by omega)) hg (fun e => by have := Option.some.inj e; omega)
    refine Grown.of h hk hc (hg.os.trans hkeep.os) (hg.tape.trans hkeep.tape) (hg.output.trans hkeep.output) (by omega) hnew (fun x hx h1 _ => hold x hx h1) (.inr ⟨hM, w.heap.size + 1, rfl, by omega, PMap.lt hp⟩) ⟨⟨_, ty, hrb, ?_⟩, ?_⟩ fun e => ?_
    · rw [hcell _ (fun x e => by cases e), hcell _ (fun x e => by cases e)]
      exact (set4 h4 (.map (some (w.heap.size + 1)))).1
    · show PMap Tryd.prog 9 w' (w.heap.size + 1) (C + 1) (fun x => (if k ++ [.lit x] = k ++ [.lit s] then some w.heap.size else N (k ++ [.lit x])))
      rw [hf]; exact hp
    · obtain ⟨rfl, h0, h5⟩ := htop e
      have ho : offK k = 1 := by rw [e]; rfl
      exact ⟨_, ty, hrb, set_far h0 (by omega), set_far h5 (by omega)⟩
end
end Go.Proofs.YtgoaljnfegaldaaDoor
