/- A trie in memory: its nodes, its patterns and what they have, the row of what was added. -/
import Derived.Test.YtgoaljnfegaldaaDoorTw3
import Derived.Test.YtgoaljnfegaldaaDoorTa
namespace Go.Proofs.YtgoaljnfegaldaaDoor
open Go.RowKit

theorem OptRel.imp {α β : Type} {Q Q' : α → β → Prop} {a : Option α} {b : Option β} (h : OptRel Q a b) (hq : ∀ x y, a = some x → b = some y → Q x y → Q' x y) : OptRel Q' a b := by
  cases a <;> cases b
  · trivial
  · exact h.elim
  · exact h.elim
  · exact hq _ _ rfl rfl h
theorem results_four {fn : Func} {t u v x : Tmp} (h : fn.results = #[.tmp t, .tmp u, .tmp v, .tmp x]) (tmps : Array Value) (P : Program) (w : World) :
    (results fn tmps).run P w = .ok (.tuple #[tmps.getD t undef, tmps.getD u undef, tmps.getD v undef, tmps.getD x undef]) w := by
  simp [results, h]
abbrev ptV (b : Nat) : Value := .pointer (some ⟨b, 0, none⟩)
section
variable {w w' : World} {g : Nat} {R R' : Nat → Option Role} {N M E : List Key → Option Nat} {C : Nat} {mx : Int} {av : Value}
/-- More blocks are known. -/
theorem Nodes.more (h : Nodes w g R N M E C mx av) (hR : ∀ b r, R b = some r → R' b = some r) (hlt : ∀ b r, R' b = some r → b < w.heap.size) : Nodes w g R' N M E C mx av :=
  { h with nR := fun k b hk => hR _ _ (h.nR k b hk), mR := fun k b hk => ⟨hR _ _ (h.mR k b hk).1, (h.mR k b hk).2⟩, eR := fun k b hk => ⟨hR _ _ (h.eR k b hk).1, (h.eR k b hk).2⟩, lt := hlt }
/-- A pattern ends at a node now; what it has is in a block of its own. -/
theorem Nodes.setEnd (h : Nodes w g R N M E C mx av) {k : List Key} {b : Nat} (hk : N k = some b) (cs0 : Array Value) (t0 : TypeId) :
    Nodes ((w.alloc (.cells cs0 t0)).setCell ⟨b, offK k + 3, none⟩ (ptV w.heap.size)) g (fun x => if x = w.heap.size then some .en else R x) N M (fun k' => if k' = k then some w.heap.size else E k') C mx av := by
  obtain ⟨cs, ty, hr, h4, htop⟩ := h.rowOf hk
  have hb := hr.lt
  have hr2 := (hr.alloc (.cells cs0 t0)).set (offK k + 3) (ptV w.heap.size)
  have hkeep := Keeps.setCell (b := b) (w.alloc (.cells cs0 t0)) (offK k + 3) (ptV w.heap.size)
  have hks := hkeep.size
  rw [alloc_size] at hks
  have hrest : ∀ x, x < w.heap.size → x ≠ b → ((w.alloc (.cells cs0 t0)).setCell ⟨b, offK k + 3, none⟩ (ptV w.heap.size)).heap[x]? = w.heap[x]? := fun x hx hn =>
    (hkeep.block x (by rw [alloc_size]; omega) hn).trans (heap_alloc_old w _ hx)
  have hold : ∀ x r, R x = some r → (if x = w.heap.size then some Role.en else R x) = some r := fun x r hx => by
    have := h.lt x r hx
    rw [if_neg (by omega)]; exact hx
  refine ⟨?_, h.root, h.pre, fun k' b' hb' => hold _ _ (h.nR k' b' hb'), fun k' b' hb' => ⟨hold _ _ (h.mR k' b' hb').1, (h.mR k' b' hb').2⟩, ?_, ?_, ?_⟩
  · by_cases e : k = []
    · obtain ⟨rfl, h0, h5⟩ := htop e
      have ho : offK k = 1 := by rw [e]; rfl
      exact ⟨_, ty, hr2, set_far h0 (by omega), set_far h5 (by omega)⟩
    · obtain ⟨cs, t, hr, h1⟩ := h.top
      refine ⟨cs, t, ?_, h1⟩
      unfold Row
      rw [hrest g hr.lt (fun e' => e ?_)]
      · exact hr
      · have h2 := h.nR k b hk
        rw [← e', h.rootR] at h2
        injection h2 with h2; injection h2 with h2; exact h2.symm
  · intro k' b' hb'
    by_cases e : k' = k
    · rw [if_pos e] at hb'
      cases hb'
      rw [if_pos rfl, e]
      exact ⟨rfl, by rw [hk]; exact Option.some_ne_none _⟩
    · rw [if_neg e] at hb'
      exact ⟨hold _ _ (h.eR k' b' hb').1, (h.eR k' b' hb').2⟩
  · intro x r hx
    by_cases e : x = w.heap.size
    · omega
    · rw [if_neg e] at hx
      have := h.lt x r hx; omega
  · intro k' b' hb'
    have hn := h.node k' b' hb'
    have hmap : ∀ m, M k' = some m → ((w.alloc (.cells cs0 t0)).setCell ⟨b, offK k + 3, none⟩ (ptV w.heap.size)).heap[m]? = w.heap[m]? := fun m hm => by
      have hmm := (h.mR k' m hm).1
      refine hrest m (h.lt m _ hmm) fun e => ?_
      rw [e, h.nR k b hk] at hmm
      cases hmm
    by_cases e : k' = k
    · subst e
      have : b' = b := Option.some.inj (hb'.symm.trans hk)
      subst this
      rw [if_pos rfl]
      exact ⟨⟨_, ty, hr2, (set4 h4 (ptV w.heap.size)).2.2.2⟩, hn.map.same hmap (Nat.le_refl _) fun _ => rfl⟩
    · rw [if_neg e]
      refine hn.same (hrest b' hn.lt fun e' => e ?_) hmap
      have h2 := h.nR k' b' hb'
      rw [e', h.nR k b hk] at h2
      injection h2 with h2; injection h2 with h2; exact h2.symm
/-- The row of what was added is another one now. -/
theorem Nodes.setRow (h : Nodes w g R N M E C mx av) (v : Value) : Nodes (w.setCell ⟨g, 5, none⟩ v) g R N M E C mx v := by
  obtain ⟨cs, ty, hr, h4, htop⟩ := h.rowOf h.root
  obtain ⟨-, h0, h5⟩ := htop rfl
  have hr2 := hr.set 5 v
  have hkeep := Keeps.setCell (b := g) w 5 v
  refine ⟨⟨_, ty, hr2, set_far h0 (by omega), set_at h5⟩, h.root, h.pre, h.nR, h.mR, h.eR, fun b r hb => Nat.lt_of_lt_of_le (h.lt b r hb) hkeep.size, fun k b hk => ?_⟩
  have hn := h.node k b hk
  have hmap : ∀ m, M k = some m → (w.setCell ⟨g, 5, none⟩ v).heap[m]? = w.heap[m]? := fun m hm => by
    have hmm := (h.mR k m hm).1
    refine hkeep.block m (h.lt m _ hmm) fun e => ?_
    rw [e, h.rootR] at hmm
    cases hmm
  by_cases e : k = []
  · subst e
    have : b = g := Option.some.inj (hk.symm.trans h.root)
    subst this
    exact ⟨⟨_, ty, hr2, set_far h4.1 (by decide), set_far h4.2.1 (by decide), set_far h4.2.2.1 (by decide), set_far h4.2.2.2 (by decide)⟩, hn.map.same hmap (Nat.le_refl _) fun _ => rfl⟩
  · refine hn.same (hkeep.block b hn.lt fun e' => e ?_) hmap
    have h2 := h.nR k b hk
    rw [e', h.rootR] at h2
    injection h2 with h2; injection h2 with h2; exact h2.symm
end
/-- One more, laid in a block of its own. -/
theorem own_moreP {P : Program} {w : World} {v : Value} {xs : List Value} {t e : TypeId} (h : Own 0 v xs w) (ht : P.underlying t = some (.slice e)) (he : Elem P e) (ty : TypeId) (y : Value) (hy : y.oneCell' = true) (hl : xs.length < 1000000000000) :
    ∃ k c w', (Builtin.append_ #[t, t] ty #[v, .slice (some ⟨w.heap.size, 0, none⟩) 1 1]).run P (w.alloc (.cells #[y] e)) = .ok (.slice (some ⟨k, 0, none⟩) (xs.length + 1) c) w' ∧ Own 0 (.slice (some ⟨k, 0, none⟩) (xs.length + 1) c) (xs ++ [y]) w' ∧ w.grownBy w' v.ownBlock ∧ (v.ownBlock = some k ∨ w.heap.size ≤ k) ∧ k < w'.heap.size := by
  obtain ⟨i, z, hi, hz, hs, hby, hzs⟩ := he
  have hc : (w.alloc (.cells #[y] e)).cell? ⟨w.heap.size, 0, none⟩ = some y := by
    rw [cell_of_row _ _ 0 _ _ _ (row_new w #[y] e)]; rfl
  obtain ⟨v', w', hr, h2, h3, h4⟩ := run_push (P := P) (w.alloc (.cells #[y] e)) 0 t ty e i z ht hi hz hs hby hzs v xs (h.alloc _) ⟨w.heap.size, 0, none⟩ y hc hy hl (Nat.zero_le _)
  obtain ⟨k, c, rfl, _, hk, _⟩ := h2.form (by simp)
  rw [show (xs ++ [y]).length = xs.length + 1 by simp] at *
  refine ⟨k, c, w', hr, h2, ⟨h3.os, h3.tape, h3.output, Nat.le_trans (by simp) h3.size, fun j hj hn => (h3.block j (by rw [alloc_size]; omega) hn).trans (heap_alloc_old w _ hj)⟩, ?_, hk⟩
  rcases h4 with h | h
  · exact .inl h.symm
  · rw [alloc_size] at h; exact .inr (by have e : k = w.heap.size + 1 := Option.some.inj h; omega)
section
variable {β : Type}
/-- The trie of block g: its blocks F, its patterns l. -/
structure TrieAt (val : β → Value) (w : World) (F : Nat → Prop) (g : Nat) (max : Int) (l : Ents β) (R : Nat → Option Role) (N M E : List Key → Option Nat) (here : List Key → Option (Txt × β)) (bs : List Nat) (C : Nat) (av : Value) : Prop where
  nodes : Nodes w g R N M E C max av
  foot : ∀ k, F k ↔ ∃ r, R k = some r
  wf : Wf l
  keyd : Keyd l (domN N) here
  ents : ∀ k, OptRel (fun b (e : Txt × β) => ∃ t, Row w b #[S e.1, val e.2] t) (E k) (here k)
  own : Own 0 av (bs.map ptV) w
  ownR : ∀ k, av.ownBlock = some k → R k = some .ar
  bsl : bs.length = l.length
  bsE : ∀ (i b : Nat) (e : Txt × β), bs[i]? = some b → l[i]? = some e → E (keysF (segD e.1)) = some b
  few : C ≤ 300 * l.length ∧ l.length ≤ 100 ∧ max ≤ 100
  short : ∀ e ∈ l, e.1.length ≤ 200
def RTrie (val : β → Value) (w : World) (F : Nat → Prop) (g : Nat) (max : Int) (l : Ents β) : Prop := ∃ R N M E here bs C av, TrieAt val w F g max l R N M E here bs C av
variable {val : β → Value} {w w' : World} {F : Nat → Prop} {g : Nat} {max : Int} {l : Ents β} {R : Nat → Option Role} {N M E : List Key → Option Nat} {here : List Key → Option (Txt × β)} {bs : List Nat} {C : Nat} {av : Value}
theorem TrieAt.same (h : TrieAt val w F g max l R N M E here bs C av) (hs : w.heap.size ≤ w'.heap.size) (hb : ∀ k, F k → w'.heap[k]? = w.heap[k]?) : TrieAt val w' F g max l R N M E here bs C av :=
  { h with
    nodes := h.nodes.same hs fun b ⟨k, hr⟩ => hb b ((h.foot b).2 (hr.elim (fun e => ⟨_, e⟩) fun e => ⟨_, e⟩))
    ents := fun k => (h.ents k).imp fun b e hE _ ⟨t, hr⟩ => ⟨t, by unfold Row; rw [hb b ((h.foot b).2 ⟨_, (h.nodes.eR k b hE).1⟩)]; exact hr⟩
    own := h.own.of_block hs fun k hk => hb k ((h.foot k).2 ⟨_, h.ownR k hk⟩) }
theorem TrieAt.lt (h : TrieAt val w F g max l R N M E here bs C av) : F g ∧ ∀ k, F k → k < w.heap.size :=
  ⟨(h.foot g).2 ⟨_, h.nodes.rootR⟩, fun k hk => by obtain ⟨r, hr⟩ := (h.foot k).1 hk; exact h.nodes.lt k r hr⟩
theorem TrieAt.below (h : TrieAt val w F g max l R N M E here bs C av) (hb : Below w.heap.size w w') : TrieAt val w' F g max l R N M E here bs C av := h.same hb.size fun k hk => hb.block k (h.lt.2 k hk)
/-- Is a twin there? -/
theorem TrieAt.twin (h : TrieAt val w F g max l R N M E here bs C av) (s : List Txt) : (E (keysF s)).isSome = (l.any fun e => twinF s (segD e.1)) := by
  rw [twin_here h.keyd s]
  have := h.ents (keysF s)
  cases hE : E (keysF s) with
  | none => rw [this.none_iff.1 hE]; rfl
  | some b =>
    cases hh : here (keysF s) with
    | none => rw [this.none_iff.2 hh] at hE; cases hE
    | some e => rfl
/-- What has been grown so far for a pattern; w: where its segments were made. -/
structure GrowAt (w : World) (g : Nat) (R : Nat → Option Role) (N E : List Key → Option Nat) (C : Nat) (mx : Int) (av : Value) (l : List Txt) (i b : Nat) (wr : World) : Prop where
  ex : ∃ (R' : Nat → Option Role) (N' M' : List Key → Option Nat), Nodes wr g R' N' M' E (C + i) mx av ∧ N' (keysF (l.take i)) = some b ∧ Grew R R' w wr ∧ ∀ k, N k ≠ none → N' k ≠ none
theorem GrowAt.next {l : List Txt} {i : Nat} {wr : World} {mx : Int} {x : Txt} (hx : l[i]? = some x) {R' : Nat → Option Role} {N' : List Key → Option Nat} (hg : Grew R R' w wr) (hd : ∀ k, N k ≠ none → N' k ≠ none)
    {b' : Nat} (h : Grown wr g R' N' E (C + i) mx av (keysF (l.take i)) (keyS x) b' w') : GrowAt w g R N E C mx av l (i + 1) b' w' := by
  obtain ⟨R2, N2, M2, h1, h2, h3⟩ := h
  have hkey : keysF (l.take i) ++ [keyS x] = keysF (l.take (i + 1)) := by
    rw [(drop_at hx).2]; unfold keysF; rw [List.map_append]; rfl
  refine ⟨R2, N2, M2, h1, by rw [h2, ← hkey, if_pos rfl], hg.trans h3, fun k hn => ?_⟩
  rw [h2]
  split
  · exact Option.some_ne_none _
  · exact hd k hn
/-- A trie with one more pattern. -/
theorem TrieAt.push {W3 wr W7 : World} (h : TrieAt val W3 F g max l R N M E here bs C av) {p : Txt} {s : List Txt} (hs : segsF p = some s) (hpl : p.length ≤ 200) (x : β) (hE : E (keysF s) = none) (hmax : ¬ max ≤ (l.length : Int)) (hsl : s.length ≤ 201)
    {b : Nat} (hG : GrowAt W3 g R N E C max av s s.length b wr) (t : TypeId) {k cap : Nat}
    (hown : Own 0 (.slice (some ⟨k, 0, none⟩) (l.length + 1) cap) (bs.map ptV ++ [ptV wr.heap.size]) W7) (hgr : ((wr.alloc (.cells #[S p, val x] t)).setCell ⟨b, offK (keysF s) + 3, none⟩ (ptV wr.heap.size)).drew.grownBy W7 av.ownBlock)
    (hk : av.ownBlock = some k ∨ wr.heap.size + 1 ≤ k) (hkl : k < W7.heap.size) :
    ∃ F', RTrie val (W7.setCell ⟨g, 5, none⟩ (.slice (some ⟨k, 0, none⟩) (l.length + 1) cap)) F' g max (l ++ [(p, x)]) ∧ Moves F F' W3 (W7.setCell ⟨g, 5, none⟩ (.slice (some ⟨k, 0, none⟩) (l.length + 1) cap)) := by
  obtain ⟨R', N', M', hn, hNb, hgrew, hdom⟩ := hG.ex
  rw [List.take_length] at hNb
  have hsz3 := hgrew.size
  have hn6 := hn.setEnd hNb #[S p, val x] t
  have hkeep := Keeps.setCell (b := b) (wr.alloc (.cells #[S p, val x] t)) (offK (keysF s) + 3) (ptV wr.heap.size)
  have hks := hkeep.size
  rw [alloc_size] at hks
  have hrow6 : Row ((wr.alloc (.cells #[S p, val x] t)).setCell ⟨b, offK (keysF s) + 3, none⟩ (ptV wr.heap.size)) wr.heap.size #[S p, val x] t := (row_new wr _ t).keeps hkeep (by have := hn.lt b _ (hn.nR _ _ hNb); omega)
  have hsz6 : ((wr.alloc (.cells #[S p, val x] t)).setCell ⟨b, offK (keysF s) + 3, none⟩ (ptV wr.heap.size)).heap.size = wr.heap.size + 1 := by simp [World.setCell]
  obtain ⟨W6, hW6⟩ : ∃ W, W = (wr.alloc (.cells #[S p, val x] t)).setCell ⟨b, offK (keysF s) + 3, none⟩ (ptV wr.heap.size) := ⟨_, rfl⟩
  rw [← hW6] at hn6 hkeep hks hrow6 hsz6 hgr
  have hgs := hgr.size
  have hgs : W6.heap.size ≤ W7.heap.size := hgs
  -- what own block the row had
  have har : ∀ y, av.ownBlock = some y → R' y = some .ar := fun y hy => hgrew.keep _ _ (h.ownR y hy)
  have hblk : ∀ y, y < wr.heap.size → y ≠ b → R' y ≠ some .ar → W7.heap[y]? = wr.heap[y]? := fun y hy h1 h2 => by
    have e1 : W7.heap[y]? = W6.heap[y]? := hgr.block y (by show y < W6.heap.size; omega) fun e => h2 (har y e.symm)
    have e2 : W6.heap[y]? = (wr.alloc (.cells #[S p, val x] t)).heap[y]? := hkeep.block y (by rw [alloc_size]; omega) h1
    exact e1.trans (e2.trans (heap_alloc_old wr _ hy))
  have hbR := hn.nR _ _ hNb
  have hn7 := hn6.same hgs (w' := W7) fun y ⟨k', hr⟩ => hgr.block y (hr.elim (hn6.lt y _) (hn6.lt y _)) fun e => by
    have h1 := har y e.symm
    have h2 := hn.lt y _ h1
    rw [if_neg (by omega), h1] at hr
    rcases hr with hr | hr <;> cases hr
  obtain ⟨RR, hRR⟩ : ∃ RR : Nat → Option Role, RR = fun y => if y = k then some .ar else if y = wr.heap.size then some .en else R' y := ⟨_, rfl⟩
  have hkne : k ≠ wr.heap.size := by
    rcases hk with e | e
    · have := hn.lt k _ (har k e); omega
    · omega
  have hRkeep : ∀ y r, (if y = wr.heap.size then some Role.en else R' y) = some r → RR y = some r := fun y r hy => by
    rw [hRR]
    by_cases e : y = k
    · subst e
      rw [if_neg hkne] at hy
      rcases hk with e | e
      · rw [har y e] at hy
        dsimp only; rw [if_pos rfl]; exact hy
      · have := hn.lt y r hy; omega
    · dsimp only; rw [if_neg e]; exact hy
  have hRlt : ∀ y r, RR y = some r → y < W7.heap.size := fun y r hy => by
    rw [hRR] at hy
    dsimp only at hy
    by_cases e : y = k
    · rw [e]; exact hkl
    · rw [if_neg e] at hy
      have := hn6.lt y r hy
      omega
  have hn8 := (hn7.more hRkeep hRlt).setRow (.slice (some ⟨k, 0, none⟩) (l.length + 1) cap)
  obtain ⟨W8, hW8⟩ : ∃ W, W = W7.setCell ⟨g, 5, none⟩ (.slice (some ⟨k, 0, none⟩) (l.length + 1) cap) := ⟨_, rfl⟩
  have hkeep8 : Keeps g W7 W8 := by rw [hW8]; exact Keeps.setCell _ _ _
  rw [← hW8] at hn8 ⊢
  have hgR : R' g = some (.nd []) := hn.rootR
  have hgk : k ≠ g := fun e => by
    rcases hk with e' | e'
    · have := har k e'
      rw [e, hgR] at this; cases this
    · have := hn.lt g _ hgR; omega
  have hseg : segD p = s := by unfold segD; rw [hs]; rfl
  have hhere : here (keysF s) = none := (h.ents (keysF s)).none_iff.1 hE
  -- what was there and is no node, map or row stays
  have hen : ∀ y, R y = some .en → W8.heap[y]? = W3.heap[y]? := fun y hy => by
    have h0 := h.nodes.lt y _ hy
    have h1 := hgrew.keep y _ hy
    have e1 : W8.heap[y]? = W7.heap[y]? := hkeep8.block y (by omega) fun e => by rw [e, hgR] at h1; cases h1
    have e2 := hblk y (by omega) (fun e => by rw [e, hbR] at h1; cases h1) (fun e => by rw [h1] at e; cases e)
    exact (e1.trans e2).trans (hgrew.rest y h0 fun k' => ⟨fun e => (by rw [hy] at e; cases e), fun e => (by rw [hy] at e; cases e)⟩)
  have hrow8 : Row W8 wr.heap.size #[S p, val x] t := by
    have h1 : Row W7 wr.heap.size #[S p, val x] t := row_grown (w := W6.drew) hrow6 hgr fun e => by have := hn.lt _ _ (har _ e.symm); omega
    exact h1.keeps hkeep8 fun e => by have := hn.lt g _ hgR; omega
  refine ⟨fun y => ∃ r, RR y = some r, ⟨RR, N', M', _, fun k' => if k' = keysF (segD p) then some (p, x) else here k', bs ++ [wr.heap.size], C + s.length, _, hn8, fun _ => Iff.rfl, ?_, ?_, ?_, ?_, ?_, ?_, ?_, ?_, ?_⟩, ?_⟩
  · have := add_wf (max := max) h.wf p x
    unfold addE at this
    rw [hs] at this
    dsimp only at this
    rw [if_neg (by rw [← h.twin s, hE]; exact Bool.false_ne_true), if_neg hmax] at this
    exact this
  · refine (h.keyd.more (dom' := domN N') fun k' hk' => ?_).add p x (by rw [hseg]; exact hhere) fun k' r hkr => ?_
    · unfold domN at hk' ⊢
      have := hdom k' (fun e => by rw [e] at hk'; cases hk')
      cases hh : N' k' with
      | none => exact absurd hh this
      | some _ => rfl
    · rw [hseg] at hkr
      have hpre : ∀ (r k : List Key), N' k = none → N' (k ++ r) = none := by
        intro r
        induction r with
        | nil => intro k hk; rw [List.append_nil]; exact hk
        | cons c r ih =>
          intro k hk
          have : N' (k ++ [c]) = none := by
            cases hx : N' (k ++ [c]) with
            | none => rfl
            | some y => exact absurd hk (hn.pre k c (by rw [hx]; exact Option.some_ne_none _))
          have h2 := ih (k ++ [c]) this
          rwa [List.append_assoc] at h2
      unfold domN
      cases hh : N' k' with
      | none =>
        have := hpre r k' hh
        rw [← hkr, hNb] at this
        cases this
      | some _ => rfl
  · intro k'
    rw [hseg]
    by_cases e : k' = keysF s
    · rw [if_pos e, if_pos e]
      exact ⟨t, hrow8⟩
    · rw [if_neg e, if_neg e]
      exact (h.ents k').imp fun y e' hEy _ ⟨t', hr⟩ => ⟨t', by unfold Row; rw [hen y (h.nodes.eR k' y hEy).1]; exact hr⟩
  · rw [List.map_append]
    exact hown.of_block hkeep8.size fun y hy => hkeep8.block y (by have : k = y := Option.some.inj hy; omega) fun e => hgk (by have : k = y := Option.some.inj hy; omega)
  · intro y hy
    have : k = y := Option.some.inj hy
    rw [hRR]; dsimp only; rw [if_pos this.symm]
  · rw [List.length_append, List.length_append, h.bsl]; rfl
  · intro i b' e hb' he
    rcases Nat.lt_or_ge i l.length with hi | hi
    · rw [List.getElem?_append_left (by rw [h.bsl]; exact hi)] at hb'
      rw [List.getElem?_append_left hi] at he
      have h1 := h.bsE i b' e hb' he
      rw [if_neg (fun e' => by rw [e', hE] at h1; cases h1)]
      exact h1
    · rw [List.getElem?_append_right (by rw [h.bsl]; exact hi), h.bsl] at hb'
      rw [List.getElem?_append_right hi] at he
      cases hj : i - l.length with
      | zero =>
        rw [hj] at hb' he
        obtain rfl := Option.some.inj he
        obtain rfl := Option.some.inj hb'
        rw [hseg, if_pos rfl]
      | succ j => rw [hj] at he; simp at he
  · have := h.few
    rw [List.length_append, List.length_singleton]
    omega
  · intro e he
    rcases List.mem_append.1 he with he | he
    · exact h.short e he
    · rw [List.mem_singleton] at he
      rw [he]; exact hpl
  · refine ⟨?_, ?_, ?_, ?_, ?_, ?_⟩
    · exact hkeep8.os.trans (hgr.os.trans (hkeep.os.trans hgrew.os))
    · exact hkeep8.tape.trans (hgr.tape.trans (hkeep.tape.trans hgrew.tape))
    · exact hkeep8.output.trans (hgr.output.trans (hkeep.output.trans hgrew.output))
    · have := hkeep8.size; omega
    · rintro y ⟨r, hy⟩
      rcases Nat.lt_or_ge y W3.heap.size with hlt | hge
      · left
        rw [hRR] at hy
        dsimp only at hy
        by_cases e : y = k
        · rcases hk with e' | e'
          · rw [← e] at e'
            exact (h.foot y).2 ⟨_, h.ownR y e'⟩
          · omega
        · rw [if_neg e, if_neg (by omega)] at hy
          exact (h.foot y).2 ⟨r, (hgrew.new y r hy).resolve_right (by omega)⟩
      · exact .inr hge
    · intro y hy hF
      have hno : ∀ r, R y ≠ some r := fun r e => hF ((h.foot y).2 ⟨r, e⟩)
      have hno' : ∀ r, R' y ≠ some r := fun r e => hno r ((hgrew.new y r e).resolve_right (by omega))
      have e1 : W8.heap[y]? = W7.heap[y]? := hkeep8.block y (by omega) fun e => hno' _ (by rw [e]; exact hgR)
      exact (e1.trans (hblk y (by omega) (fun e => hno' _ (by rw [e]; exact hbR)) (hno' _))).trans (hgrew.rest y hy fun k' => ⟨hno _, hno _⟩)
theorem TrieAt.cells (h : TrieAt val w F g max l R N M E here bs C av) : w.cell? ⟨g, 0, none⟩ = some (.int .i64 max) ∧ w.cell? ⟨g, 5, none⟩ = some av ∧ w.frozen? ⟨g, 5, none⟩ = false := by
  obtain ⟨cs, t, hr, h0, h5⟩ := h.nodes.top
  exact ⟨by rw [cell_of_row w g 0 cs t (0, 0) hr]; exact h0, by rw [cell_of_row w g 5 cs t (0, 0) hr]; exact h5, hr.frozen 5⟩
/-- A trie that was made now. -/
theorem trie_new (val : β → Value) (w : World) (mx : Nat) (hm : mx ≤ 100) (t : TypeId) :
    RTrie val (w.alloc (.cells #[.int .i64 (mx : Int), .map none, .pointer none, .pointer none, .pointer none, .slice none 0 0] t)) (fun k => k = w.heap.size) w.heap.size mx [] := by
  have hr := row_new w #[.int .i64 (mx : Int), .map none, .pointer none, .pointer none, .pointer none, .slice none 0 0] t
  refine ⟨fun x => if x = w.heap.size then some (.nd []) else none, fun k => if k = [] then some w.heap.size else none, fun _ => none, fun _ => none, fun _ => none, [], 0, .slice none 0 0, ⟨⟨_, t, hr, rfl, rfl⟩, if_pos rfl, fun k c hk => ?_, fun k b hk => ?_, fun k b hk => (by cases hk), fun k b hk => (by cases hk), fun b r hb => ?_, fun k b hk => ?_⟩, fun k => ?_, wf_nil, keyd_nil _, fun _ => trivial, .inl ⟨rfl, rfl⟩, fun k hk => (by cases hk), rfl, fun i b e hb => (by simp at hb), by simp; omega, fun e he => (by cases he)⟩
  · rw [if_neg (snoc_ne_nil k c)] at hk; exact absurd rfl hk
  · by_cases e : k = []
    · rw [if_pos e] at hk
      cases hk
      rw [if_pos rfl, e]
    · rw [if_neg e] at hk; cases hk
  · by_cases e : b = w.heap.size
    · rw [alloc_size]; omega
    · rw [if_neg e] at hb; cases hb
  · by_cases e : k = []
    · rw [if_pos e] at hk
      cases hk
      subst e
      refine ⟨⟨_, t, hr, rfl, ?_, ?_, rfl⟩, fun s => ?_⟩
      · rw [if_neg (snoc_ne_nil _ _)]; rfl
      · rw [if_neg (snoc_ne_nil _ _)]; rfl
      · show (if [] ++ [Key.lit s] = [] then some w.heap.size else none) = none
        rw [if_neg (snoc_ne_nil _ _)]
    · rw [if_neg e] at hk; cases hk
  · constructor
    · intro e; exact ⟨_, if_pos e⟩
    · rintro ⟨r, hr⟩
      by_cases e : k = w.heap.size
      · exact e
      · rw [if_neg e] at hr; cases hr
end
end Go.Proofs.YtgoaljnfegaldaaDoor
