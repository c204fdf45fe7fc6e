/- What is asked of the package of tries, of any type; a trie and what lies beside it. -/
import Derived.Test.YtgoaljnfegaldaaDoorTm1
import Derived.Test.YtgoaljnfegaldaaDoorTr
import Derived.Test.YtgoaljnfegaldaaDoorFl
namespace Go.Proofs.YtgoaljnfegaldaaDoor
open Go.RowKit

section
variable {β : Type}
def fdX (z : β) (o : Option (Txt × β)) : β := (o.map (·.2)).getD z
def fdP (o : Option (Txt × β)) : Txt := (o.map (·.1)).getD []
def fdF (o : Option (Txt × β)) (path : List Txt) : List (Txt × Txt) := match o with
  | none => []
  | some e => paramsF (segD e.1) path
/-- Paths that are asked for. -/
def PathOk (path : List Txt) : Prop := path.length ≤ 12 ∧ ∀ s ∈ path, s.length ≤ 40
/-- What is asked of tries of one type: a shape (the trie of block g may turn the blocks F; it has l, and may have max), and what each call does. -/
structure TrieI (val : β → Value) (zero : β) (nw ad fd : FuncId) (w0 : World) (RA : World → (Nat → Prop) → Nat → Int → Ents β → Prop) : Prop where
  lt : ∀ {w : World} {F : Nat → Prop} {g : Nat} {max : Int} {l : Ents β}, RA w F g max l → F g ∧ ∀ k, F k → k < w.heap.size
  same : ∀ {w w' : World} {F : Nat → Prop} {g : Nat} {max : Int} {l : Ents β}, RA w F g max l → w.heap.size ≤ w'.heap.size → (∀ k, F k → w'.heap[k]? = w.heap[k]?) → RA w' F g max l
  new : ∀ (max : Nat) (w : World), max ≤ 100 → Below w0.heap.size w0 w → Calls Tryd.prog nw #[.int .i64 (max : Int)] w fun e w' => ∃ g F, e = .returned (.pointer (some ⟨g, 0, none⟩)) ∧ RA w' F g max [] ∧ (∀ k, F k → w.heap.size ≤ k) ∧ Below w.heap.size w w'
  add : ∀ {w : World} {F : Nat → Prop} {g : Nat} {max : Int} {l : Ents β} (p : Txt) (x : β), RA w F g max l → Below w0.heap.size w0 w → p.length ≤ 200 →
    Calls Tryd.prog ad #[.pointer (some ⟨g, 0, none⟩), S p, val x] w fun e w' => e = .returned (.int .i64 ((addE max l p x).1 : Int)) ∧ ∃ F', RA w' F' g max (addE max l p x).2 ∧ Moves F F' w w'
  find : ∀ {w : World} {F : Nat → Prop} {g : Nat} {max : Int} {l : Ents β} (path : List Txt) (V : Value) (b o : Nat) (r : Option (Txt × β)), RA w F g max l → Below w0.heap.size w0 w → TA w V path b o → PathOk path → FindIs l path r →
    Calls Tryd.prog fd #[.pointer (some ⟨g, 0, none⟩), V] w fun e w' => ∃ VF gf o', e = .returned (.tuple #[val (fdX zero r), VF, S (fdP r), .bool r.isSome]) ∧ FA w' VF (fdF r path) gf o' ∧ (fdF r path = [] ∨ (w.heap.size ≤ gf ∧ gf < w'.heap.size)) ∧ Below w.heap.size w w'
/-- All: the patterns, as they were added. -/
structure AllI (al : FuncId) (w0 : World) (RA : World → (Nat → Prop) → Nat → Int → Ents β → Prop) : Prop where
  all : ∀ {w : World} {F : Nat → Prop} {g : Nat} {max : Int} {l : Ents β}, RA w F g max l → Below w0.heap.size w0 w →
    Calls Tryd.prog al #[.pointer (some ⟨g, 0, none⟩)] w fun e w' => ∃ V b o, e = .returned V ∧ TA w' V (l.map (·.1)) b o ∧ Below w.heap.size w w'
/-- A trie whose blocks are new. -/
structure OneT (RA : World → (Nat → Prop) → Nat → Int → Ents β → Prop) (w : World) (g : Nat) (max : Int) (l : Ents β) (W : World) : Prop where
  ex : ∃ F, RA W F g max l ∧ ∀ k, F k → w.heap.size ≤ k
  bel : Below w.heap.size w W
/-- A trie, and a row of fields that it does not turn. -/
structure RowT (RA : World → (Nat → Prop) → Nat → Int → Ents β → Prop) (w : World) (g : Nat) (max : Int) (l : Ents β) (V : Value) (fs : List (Txt × Txt)) (gf o : Nat) (W : World) : Prop where
  ex : ∃ F, RA W F g max l ∧ (∀ k, F k → w.heap.size ≤ k) ∧ (fs = [] ∨ (gf < W.heap.size ∧ ¬ F gf))
  row : FA W V fs gf o
  bel : Below w.heap.size w W
theorem FA.moves {F F' : Nat → Prop} {w w' : World} {V : Value} {fs : List (Txt × Txt)} {b o : Nat} (h : FA w V fs b o) (hm : Moves F F' w w') (ha : fs = [] ∨ (b < w.heap.size ∧ ¬ F b)) : FA w' V fs b o :=
  ⟨h.len, h.index, fun i f hf => by
    have h3 : b < w.heap.size ∧ ¬ F b := ha.resolve_left fun e => by rw [e] at hf; simp at hf
    obtain ⟨h1, h2⟩ := h.cell i f hf
    exact ⟨by rw [World.cell?_of_block (w := w) (hm.rest b h3.1 h3.2)]; exact h1, by rw [World.cell?_of_block (w := w) (hm.rest b h3.1 h3.2)]; exact h2⟩, h.form⟩
/-- Two of them, side by side. -/
structure TwoT (RA : World → (Nat → Prop) → Nat → Int → Ents β → Prop) (w : World) (g : Nat) (max : Int) (l : Ents β) (g' : Nat) (max' : Int) (l' : Ents β) (W : World) : Prop where
  ex : ∃ F F', RA W F g max l ∧ RA W F' g' max' l' ∧ (∀ k, F k → w.heap.size ≤ k ∧ ¬ F' k) ∧ ∀ k, F' k → w.heap.size ≤ k
  bel : Below w.heap.size w W
section
variable {val : β → Value} {zero : β} {nw ad fd al : FuncId} {RA : World → (Nat → Prop) → Nat → Int → Ents β → Prop} {w W W' : World} {g g' : Nat} {max max' : Int} {l l' : Ents β}
theorem TrieI.up (C : TrieI val zero nw ad fd w RA) (h : Below w.heap.size w W) : TrieI val zero nw ad fd W RA := { C with
  new := fun m a k b => C.new m a k (h.trans (b.mono h.size))
  add := fun p x a b => C.add p x a (h.trans (b.mono h.size))
  find := fun p V b o r a c => C.find p V b o r a (h.trans (c.mono h.size)) }
theorem AllI.up (C : AllI al w RA) (h : Below w.heap.size w W) : AllI al W RA := ⟨fun a b => C.all a (h.trans (b.mono h.size))⟩
theorem TrieI.below {F : Nat → Prop} (C : TrieI val zero nw ad fd w RA) (h : RA W F g max l) (hb : Below W.heap.size W W') : RA W' F g max l := C.same h hb.size (fun k hk => hb.block k ((C.lt h).2 k hk))
theorem OneT.below (C : TrieI val zero nw ad fd w RA) (h : OneT RA w g max l W) (hb : Below W.heap.size W W') : OneT RA w g max l W' := by
  obtain ⟨⟨F, h1, h2⟩, hB⟩ := h
  exact ⟨⟨F, C.below h1 hb, h2⟩, hB.trans (hb.mono hB.size)⟩
theorem OneT.make (C : TrieI val zero nw ad fd w RA) (m : Nat) (hm : m ≤ 100) (h : Below w.heap.size w W) : Calls Tryd.prog nw #[.int .i64 (m : Int)] W fun e W' => ∃ g, e = .returned (.pointer (some ⟨g, 0, none⟩)) ∧ OneT RA w g m [] W' := by
  refine (C.new m W hm h).mono ?_
  rintro e W' ⟨g, F, he, h1, h2, hB⟩
  exact ⟨g, he, ⟨F, h1, fun k hk => by have := h2 k hk; have := h.size; omega⟩, h.trans (hB.mono h.size)⟩
theorem OneT.add (C : TrieI val zero nw ad fd w RA) (h : OneT RA w g max l W) (p : Txt) (x : β) (hp : p.length ≤ 200) :
    Calls Tryd.prog ad #[.pointer (some ⟨g, 0, none⟩), S p, val x] W fun e W' => e = .returned (.int .i64 ((addE max l p x).1 : Int)) ∧ OneT RA w g max (addE max l p x).2 W' := by
  obtain ⟨⟨F, h1, h2⟩, hB⟩ := h
  refine (C.add p x h1 hB hp).mono ?_
  rintro e W' ⟨he, F', h1', hm⟩
  exact ⟨he, ⟨F', h1', hm.from h2 hB.size⟩, hB.trans (hm.below h2 hB.size)⟩
theorem OneT.find (C : TrieI val zero nw ad fd w RA) (h : OneT RA w g max l W) {path : List Txt} {V : Value} {b o : Nat} (hV : TA W V path b o) (hp : PathOk path) {r : Option (Txt × β)} (hr : FindIs l path r) :
    Calls Tryd.prog fd #[.pointer (some ⟨g, 0, none⟩), V] W fun e W' => ∃ VF gf o', e = .returned (.tuple #[val (fdX zero r), VF, S (fdP r), .bool r.isSome]) ∧ RowT RA w g max l VF (fdF r path) gf o' W' ∧ Below W.heap.size W W' := by
  obtain ⟨⟨F, h1, h2⟩, hB⟩ := h
  refine (C.find path V b o r h1 hB hV hp hr).mono ?_
  rintro e W' ⟨VF, gf, o', he, hf, ha, hb⟩
  exact ⟨VF, gf, o', he, ⟨⟨F, C.below h1 hb, h2, ha.imp id fun h => ⟨h.2, fun e => by have := (C.lt h1).2 gf e; omega⟩⟩, hf, hB.trans (hb.mono hB.size)⟩, hb⟩
theorem RowT.one {V : Value} {fs : List (Txt × Txt)} {gf o : Nat} (h : RowT RA w g max l V fs gf o W) : OneT RA w g max l W := by
  obtain ⟨⟨F, h1, h2, _⟩, _, hB⟩ := h
  exact ⟨⟨F, h1, h2⟩, hB⟩
theorem RowT.below {V : Value} {fs : List (Txt × Txt)} {gf o : Nat} (C : TrieI val zero nw ad fd w RA) (h : RowT RA w g max l V fs gf o W) (hb : Below W.heap.size W W') : RowT RA w g max l V fs gf o W' := by
  obtain ⟨⟨F, h1, h2, h3⟩, hf, hB⟩ := h
  exact ⟨⟨F, C.below h1 hb, h2, h3.imp id fun h => ⟨Nat.lt_of_lt_of_le h.1 hb.size, h.2⟩⟩, hf.below hb, hB.trans (hb.mono hB.size)⟩
theorem RowT.add {V : Value} {fs : List (Txt × Txt)} {gf o : Nat} (C : TrieI val zero nw ad fd w RA) (h : RowT RA w g max l V fs gf o W) (p : Txt) (x : β) (hp : p.length ≤ 200) :
    Calls Tryd.prog ad #[.pointer (some ⟨g, 0, none⟩), S p, val x] W fun e W' => e = .returned (.int .i64 ((addE max l p x).1 : Int)) ∧ RowT RA w g max (addE max l p x).2 V fs gf o W' := by
  obtain ⟨⟨F, h1, h2, h3⟩, hf, hB⟩ := h
  refine (C.add p x h1 hB hp).mono ?_
  rintro e W' ⟨he, F', h1', hm⟩
  exact ⟨he, ⟨F', h1', hm.from h2 hB.size, h3.imp id fun h => ⟨Nat.lt_of_lt_of_le h.1 hm.size, fun e => by
    rcases hm.foot gf e with k | k
    · exact h.2 k
    · have := h.1; omega⟩⟩, hf.moves hm h3, hB.trans (hm.below h2 hB.size)⟩
theorem OneT.all (C : TrieI val zero nw ad fd w RA) (D : AllI al w RA) (h : OneT RA w g max l W) :
    Calls Tryd.prog al #[.pointer (some ⟨g, 0, none⟩)] W fun e W' => ∃ V b o, e = .returned V ∧ TA W' V (l.map (·.1)) b o ∧ OneT RA w g max l W' := by
  have h0 := h
  obtain ⟨⟨F, h1, _⟩, hB⟩ := h
  refine (D.all h1 hB).mono ?_
  rintro e W' ⟨V, b, o, he, hf, hb⟩
  exact ⟨V, b, o, he, hf, h0.below C hb⟩
theorem OneT.two (C : TrieI val zero nw ad fd w RA) (h : OneT RA w g max l W) (m : Nat) (hm : m ≤ 100) : Calls Tryd.prog nw #[.int .i64 (m : Int)] W fun e W' => ∃ g', e = .returned (.pointer (some ⟨g', 0, none⟩)) ∧ TwoT RA w g max l g' m [] W' := by
  obtain ⟨⟨F, h1, h2⟩, hB⟩ := h
  refine (C.new m W hm hB).mono ?_
  rintro e W' ⟨g', F', he, h3, h4, hb⟩
  exact ⟨g', he, ⟨F, F', C.below h1 hb, h3, fun k hk => ⟨h2 k hk, fun e => by have := h4 k e; have := (C.lt h1).2 k hk; omega⟩, fun k hk => by have := h4 k hk; have := hB.size; omega⟩, hB.trans (hb.mono hB.size)⟩
theorem TwoT.below (C : TrieI val zero nw ad fd w RA) (h : TwoT RA w g max l g' max' l' W) (hb : Below W.heap.size W W') : TwoT RA w g max l g' max' l' W' := by
  obtain ⟨⟨F, F', h1, h2, h3⟩, hB⟩ := h
  exact ⟨⟨F, F', C.below h1 hb, C.below h2 hb, h3⟩, hB.trans (hb.mono hB.size)⟩
theorem TwoT.swap (h : TwoT RA w g max l g' max' l' W) : TwoT RA w g' max' l' g max l W := by
  obtain ⟨⟨F, F', h1, h2, h3, h4⟩, hB⟩ := h
  exact ⟨⟨F', F, h2, h1, fun k hk => ⟨h4 k hk, fun e => (h3 k e).2 hk⟩, fun k hk => (h3 k hk).1⟩, hB⟩
theorem TwoT.one (h : TwoT RA w g max l g' max' l' W) : OneT RA w g max l W := by
  obtain ⟨⟨F, F', h1, h2, h3, h4⟩, hB⟩ := h
  exact ⟨⟨F, h1, fun k hk => (h3 k hk).1⟩, hB⟩
theorem TwoT.add (C : TrieI val zero nw ad fd w RA) (h : TwoT RA w g max l g' max' l' W) (p : Txt) (x : β) (hp : p.length ≤ 200) :
    Calls Tryd.prog ad #[.pointer (some ⟨g, 0, none⟩), S p, val x] W fun e W' => e = .returned (.int .i64 ((addE max l p x).1 : Int)) ∧ TwoT RA w g max (addE max l p x).2 g' max' l' W' := by
  obtain ⟨⟨F, F', h1, h2, h3, h4⟩, hB⟩ := h
  refine (C.add p x h1 hB hp).mono ?_
  rintro e W' ⟨he, G, h1', hm⟩
  have ha := hm.apart (G := F') (fun k hk => ⟨(C.lt h2).2 k hk, fun e => (h3 k e).2 hk⟩)
  exact ⟨he, ⟨G, F', h1', C.same h2 hm.size ha.1, fun k hk => ⟨hm.from (fun k hk => (h3 k hk).1) hB.size k hk, fun e => (ha.2 k e).2 hk⟩, h4⟩, hB.trans (hm.below (fun k hk => (h3 k hk).1) hB.size)⟩
end
end
abbrev iV (n : Int) : Value := .int .i64 n
/-- Right: whether it is one. -/
def RightI (w0 : World) : Prop := ∀ (s : Txt) (w : World), s.length ≤ 200 → Below w0.heap.size w0 w → Calls Tryd.prog 17 #[S s] w fun e w' => e = .returned (.bool (segsF s).isSome) ∧ Below w.heap.size w w'
abbrev IntI (w0 : World) (RA : World → (Nat → Prop) → Nat → Int → Ents Int → Prop) : Prop := TrieI iV 0 14 15 16 w0 RA
abbrev TxtI (w0 : World) (RA : World → (Nat → Prop) → Nat → Int → Ents Txt → Prop) : Prop := TrieI S [] 9 10 12 w0 RA
theorem RightI.up {w W : World} (C : RightI w) (h : Below w.heap.size w W) : RightI W := fun s a k b => C s a k (h.trans (b.mono h.size))
end Go.Proofs.YtgoaljnfegaldaaDoor
