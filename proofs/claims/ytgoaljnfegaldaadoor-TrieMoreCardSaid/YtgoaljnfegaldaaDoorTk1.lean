/- A trie and blocks that it does not turn; what else is asked of tries: Set, Get, Len. (mktk.py writes it.) -/
import Derived.Test.YtgoaljnfegaldaaDoorTb
namespace Go.Proofs.YtgoaljnfegaldaaDoor
open Go.RowKit

section
variable {β : Type}
/-- Set: what is wrong, and what there is then. -/
def setE (l : Ents β) (p : Txt) (x : β) : Nat × Ents β := if (segsF p).isNone then (8, l) else if (l.any fun e => e.1 == p) = true then (0, l.map fun e => if e.1 == p then (p, x) else e) else (4, l)
/-- Get: what a pattern has. -/
def getE (l : Ents β) (p : Txt) : Option β := (l.find? fun e => e.1 == p).map (·.2)
structure MoreI (val : β → Value) (zero : β) (st gt ln : FuncId) (w0 : World) (RA : World → (Nat → Prop) → Nat → Int → Ents β → Prop) : Prop where
  set : ∀ {w : World} {F : Nat → Prop} {g : Nat} {max : Int} {l : Ents β} (p : Txt) (x : β), RA w F g max l → Below w0.heap.size w0 w → p.length ≤ 200 →
    Calls Tryd.prog st #[.pointer (some ⟨g, 0, none⟩), S p, val x] w fun e w' => e = .returned (.int .i64 ((setE l p x).1 : Int)) ∧ ∃ F', RA w' F' g max (setE l p x).2 ∧ Moves F F' w w'
  get : ∀ {w : World} {F : Nat → Prop} {g : Nat} {max : Int} {l : Ents β} (p : Txt), RA w F g max l → Below w0.heap.size w0 w → p.length ≤ 200 →
    Calls Tryd.prog gt #[.pointer (some ⟨g, 0, none⟩), S p] w fun e w' => e = .returned (.tuple #[val ((getE l p).getD zero), .bool (getE l p).isSome]) ∧ Below w.heap.size w w'
  len : ∀ {w : World} {F : Nat → Prop} {g : Nat} {max : Int} {l : Ents β}, RA w F g max l → Below w0.heap.size w0 w →
    Calls Tryd.prog ln #[.pointer (some ⟨g, 0, none⟩)] w fun e w' => e = .returned (.int .i64 (l.length : Int)) ∧ Below w.heap.size w w'
/-- A trie whose blocks are new, and blocks that stay as they are. -/
structure KepT (RA : World → (Nat → Prop) → Nat → Int → Ents β → Prop) (w : World) (g : Nat) (max : Int) (l : Ents β) (K : Nat → Prop) (W0 W : World) : Prop where
  ex : ∃ F, RA W F g max l ∧ ∀ k, F k → w.heap.size ≤ k ∧ ¬ K k
  keep : ∀ k, K k → k < W0.heap.size ∧ W.heap[k]? = W0.heap[k]?
  size : W0.heap.size ≤ W.heap.size
  bel : Below w.heap.size w W
variable {val : β → Value} {zero : β} {nw ad fd st gt ln : FuncId} {RA : World → (Nat → Prop) → Nat → Int → Ents β → Prop} {w W W' W0 : World} {g : Nat} {max : Int} {l : Ents β} {K : Nat → Prop}
theorem KepT.of (C : TrieI val zero nw ad fd w RA) (h : OneT RA w g max l W) (ob : Obj) : KepT RA w g max l (fun k => k = W.heap.size) (W.alloc ob) (W.alloc ob) := by
  obtain ⟨⟨F, h1, h2⟩, hB⟩ := h
  exact ⟨⟨F, C.below h1 ((Below.refl _ _).alloc (Nat.le_refl _) _), fun k hk => ⟨h2 k hk, fun e => by have := (C.lt h1).2 k hk; omega⟩⟩, fun k hk => ⟨by rw [hk, alloc_size]; omega, rfl⟩, Nat.le_refl _, hB.alloc hB.size _⟩
theorem KepT.one (h : KepT RA w g max l K W0 W) : OneT RA w g max l W := by
  obtain ⟨⟨F, h1, h2⟩, _, _, hB⟩ := h
  exact ⟨⟨F, h1, fun k hk => (h2 k hk).1⟩, hB⟩
theorem KepT.cell (h : KepT RA w g max l K W0 W) {b : Nat} (hb : K b) (q : Nat) : W.cell? ⟨b, q, none⟩ = W0.cell? ⟨b, q, none⟩ := World.cell?_of_block (w := W0) (h.keep b hb).2
theorem KepT.below (C : TrieI val zero nw ad fd w RA) (h : KepT RA w g max l K W0 W) (hb : Below W.heap.size W W') : KepT RA w g max l K W0 W' := by
  obtain ⟨⟨F, h1, h2⟩, h3, h4, hB⟩ := h
  exact ⟨⟨F, C.below h1 hb, h2⟩, fun k hk => ⟨(h3 k hk).1, (hb.block k (Nat.lt_of_lt_of_le (h3 k hk).1 h4)).trans (h3 k hk).2⟩, Nat.le_trans h4 hb.size, hB.trans (hb.mono hB.size)⟩
theorem KepT.moved {F F' : Nat → Prop} {l' : Ents β} (h2 : ∀ k, F k → w.heap.size ≤ k ∧ ¬ K k) (h3 : ∀ k, K k → k < W0.heap.size ∧ W.heap[k]? = W0.heap[k]?) (h4 : W0.heap.size ≤ W.heap.size) (hB : Below w.heap.size w W) (h1 : RA W' F' g max l') (hm : Moves F F' W W') : KepT RA w g max l' K W0 W' :=
  ⟨⟨F', h1, fun k hk => ⟨hm.from (fun k hk => (h2 k hk).1) hB.size k hk, fun e => by
    rcases hm.foot k hk with h5 | h5
    · exact (h2 k h5).2 e
    · have := (h3 k e).1; omega⟩⟩,
   fun k hk => ⟨(h3 k hk).1, (hm.rest k (Nat.lt_of_lt_of_le (h3 k hk).1 h4) (fun e => (h2 k e).2 hk)).trans (h3 k hk).2⟩, Nat.le_trans h4 hm.size, hB.trans (hm.below (fun k hk => (h2 k hk).1) hB.size)⟩
theorem KepT.add (C : TrieI val zero nw ad fd w RA) (h : KepT RA w g max l K W0 W) (p : Txt) (x : β) (hp : p.length ≤ 200) :
    Calls Tryd.prog ad #[.pointer (some ⟨g, 0, none⟩), S p, val x] W fun e W' => e = .returned (.int .i64 ((addE max l p x).1 : Int)) ∧ KepT RA w g max (addE max l p x).2 K W0 W' := by
  obtain ⟨⟨F, h1, h2⟩, h3, h4, hB⟩ := h
  refine (C.add p x h1 hB hp).mono ?_
  rintro e W' ⟨he, F', h1', hm⟩
  exact ⟨he, KepT.moved h2 h3 h4 hB h1' hm⟩
theorem KepT.set (D : MoreI val zero st gt ln w RA) (h : KepT RA w g max l K W0 W) (p : Txt) (x : β) (hp : p.length ≤ 200) :
    Calls Tryd.prog st #[.pointer (some ⟨g, 0, none⟩), S p, val x] W fun e W' => e = .returned (.int .i64 ((setE l p x).1 : Int)) ∧ KepT RA w g max (setE l p x).2 K W0 W' := by
  obtain ⟨⟨F, h1, h2⟩, h3, h4, hB⟩ := h
  refine (D.set p x h1 hB hp).mono ?_
  rintro e W' ⟨he, F', h1', hm⟩
  exact ⟨he, KepT.moved h2 h3 h4 hB h1' hm⟩
theorem KepT.find (C : TrieI val zero nw ad fd w RA) (h : KepT RA w g max l K W0 W) {path : List Txt} {V : Value} {b q : Nat} (hV : TA W V path b q) (hp : PathOk path) {r : Option (Txt × β)} (hr : FindIs l path r) :
    Calls Tryd.prog fd #[.pointer (some ⟨g, 0, none⟩), V] W fun e W' => ∃ VF gf o', e = .returned (.tuple #[val (fdX zero r), VF, S (fdP r), .bool r.isSome]) ∧ FA W' VF (fdF r path) gf o' ∧ KepT RA w g max l K W0 W' ∧ Below W.heap.size W W' := by
  have h0 := h
  obtain ⟨⟨F, h1, h2⟩, h3, h4, hB⟩ := h
  refine (C.find path V b q r h1 hB hV hp hr).mono ?_
  rintro e W' ⟨VF, gf, o', he, hf, _, hb⟩
  exact ⟨VF, gf, o', he, hf, h0.below C hb, hb⟩
theorem KepT.get (C : TrieI val zero nw ad fd w RA) (D : MoreI val zero st gt ln w RA) (h : KepT RA w g max l K W0 W) (p : Txt) (hp : p.length ≤ 200) :
    Calls Tryd.prog gt #[.pointer (some ⟨g, 0, none⟩), S p] W fun e W' => e = .returned (.tuple #[val ((getE l p).getD zero), .bool (getE l p).isSome]) ∧ KepT RA w g max l K W0 W' := by
  have h0 := h
  obtain ⟨⟨F, h1, h2⟩, h3, h4, hB⟩ := h
  refine (D.get p h1 hB hp).mono ?_
  rintro e W' ⟨he, hb⟩
  exact ⟨he, h0.below C hb⟩
theorem KepT.len (C : TrieI val zero nw ad fd w RA) (D : MoreI val zero st gt ln w RA) (h : KepT RA w g max l K W0 W) :
    Calls Tryd.prog ln #[.pointer (some ⟨g, 0, none⟩)] W fun e W' => e = .returned (.int .i64 (l.length : Int)) ∧ KepT RA w g max l K W0 W' := by
  have h0 := h
  obtain ⟨⟨F, h1, h2⟩, h3, h4, hB⟩ := h
  refine (D.len h1 hB).mono ?_
  rintro e W' ⟨he, hb⟩
  exact ⟨he, h0.below C hb⟩
end
abbrev IntM (w0 : World) (RA : World → (Nat → Prop) → Nat → Int → Ents Int → Prop) : Prop := MoreI iV 0 18 19 20 w0 RA
end Go.Proofs.YtgoaljnfegaldaaDoor
