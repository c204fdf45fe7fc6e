/- What is asked of a ring of texts; the document's ring beside it: each by the blocks that it may turn. -/
import Derived.Test.YtkekjcdhlkhhoaaL2
namespace Go.Proofs.Ytkekjcdhlkhhoaa
open Go.RowKit
attribute [local go_sem] store_one S_match S_store

/-- A thing whose blocks were F is one of F' now: nothing else that there was has turned. -/
structure Moves (F F' : Nat → Prop) (w w' : World) : Prop where
  os : w'.os = w.os
  tape : w'.tape = w.tape
  output : w'.output = w.output
  size : w.heap.size ≤ w'.heap.size
  foot : ∀ k, F' k → F k ∨ w.heap.size ≤ k
  rest : ∀ k, k < w.heap.size → ¬ F k → w'.heap[k]? = w.heap[k]?
section
variable {F F' F'' G : Nat → Prop} {w w' w'' : World} {n : Nat}
theorem Moves.of_below (h : Below w.heap.size w w') : Moves F F w w' := ⟨h.os, h.tape, h.output, h.size, fun _ hk => .inl hk, fun k hk _ => h.block k hk⟩
theorem Moves.refl (F : Nat → Prop) (w : World) : Moves F F w w := ⟨rfl, rfl, rfl, Nat.le_refl _, fun _ hk => .inl hk, fun _ _ _ => rfl⟩
theorem Moves.trans (h : Moves F F' w w') (k : Moves F' F'' w' w'') : Moves F F'' w w'' :=
  ⟨k.os.trans h.os, k.tape.trans h.tape, k.output.trans h.output, Nat.le_trans h.size k.size, fun j hj => by
    rcases k.foot j hj with h1 | h1
    · exact h.foot j h1
    · have := h.size; exact .inr (by omega), fun j hj hn => (k.rest j (Nat.lt_of_lt_of_le hj h.size) (fun hf => by
      rcases h.foot j hf with h1 | h1
      · exact hn h1
      · omega)).trans (h.rest j hj hn)⟩
/-- What lies apart stays as it is, and apart. -/
theorem Moves.apart (h : Moves F F' w w') (hG : ∀ k, G k → k < w.heap.size ∧ ¬ F k) : (∀ k, G k → w'.heap[k]? = w.heap[k]?) ∧ ∀ k, G k → k < w'.heap.size ∧ ¬ F' k :=
  ⟨fun k hk => h.rest k (hG k hk).1 (hG k hk).2, fun k hk => ⟨Nat.lt_of_lt_of_le (hG k hk).1 h.size, fun hf => by
    rcases h.foot k hf with h1 | h1
    · exact (hG k hk).2 h1
    · have := (hG k hk).1; omega⟩⟩
theorem Moves.below (h : Moves F F' w w') (hF : ∀ k, F k → n ≤ k) (hn : n ≤ w.heap.size) : Below n w w' :=
  ⟨h.os, h.tape, h.output, h.size, fun k hk => h.rest k (by omega) (fun hf => by have := hF k hf; omega)⟩
theorem Row.moves {b : Nat} {cs : Array Value} {t : TypeId} (hr : Row w b cs t) (h : Moves F F' w w') (hn : ¬ F b) : Row w' b cs t := by
  unfold Row; rw [h.rest b hr.lt hn]; exact hr
end

/-- The things with their places. -/
def placed (xs : List (List UInt8)) : List (Nat × List UInt8) := (List.range xs.length).map fun i => (i, xs.getD i [])
def encP (x : Nat × List UInt8) : Array Value := #[.int .i64 (x.1 : Int), S x.2]
/-- What is asked of a ring of texts: a shape (the ring of block g may turn the blocks F; there is room for m; xs is in it), and what each call does. -/
structure RingS (RA : World → (Nat → Prop) → Nat → Nat → List (List UInt8) → Prop) : Prop where
  lt : ∀ {w F g m xs}, RA w F g m xs → F g ∧ ∀ k, F k → k < w.heap.size
  fits : ∀ {w F g m xs}, RA w F g m xs → xs.length ≤ m ∧ m ≤ 65536
  same : ∀ {w w' : World} {F g m xs}, RA w F g m xs → w.heap.size ≤ w'.heap.size → (∀ k, F k → w'.heap[k]? = w.heap[k]?) → RA w' F g m xs
  new_bad : ∀ (n : Int) (w : World), n < 1 ∨ 65536 < n → Calls Try.prog 18 #[.int .i64 n] w fun e w' => e = .returned (.tuple #[.pointer none, .int .i64 1]) ∧ Below w.heap.size w w'
  new_good : ∀ (m : Nat) (w : World), 1 ≤ m → m ≤ 65536 → Calls Try.prog 18 #[.int .i64 (m : Int)] w fun e w' => ∃ g F, e = .returned (.tuple #[.pointer (some ⟨g, 0, none⟩), .int .i64 0]) ∧ RA w' F g m [] ∧ (∀ k, F k → w.heap.size ≤ k) ∧ Below w.heap.size w w'
  push : ∀ {w F g m xs} (x : List UInt8), RA w F g m xs → x.length ≤ maxLen → Calls Try.prog 35 #[.pointer (some ⟨g, 0, none⟩), S x] w fun e w' => e = .returned (.bool (decide (xs.length < m))) ∧ ∃ F', RA w' F' g m (if xs.length < m then xs ++ [x] else xs) ∧ Moves F F' w w'
  pop_none : ∀ {w F g m}, RA w F g m [] → Calls Try.prog 36 #[.pointer (some ⟨g, 0, none⟩)] w fun e w' => e = .returned (.tuple #[.string ⟨#[]⟩, .bool false]) ∧ ∃ F', RA w' F' g m [] ∧ Moves F F' w w'
  pop_some : ∀ {w F g m} {x : List UInt8} {r}, RA w F g m (x :: r) → Calls Try.prog 36 #[.pointer (some ⟨g, 0, none⟩)] w fun e w' => e = .returned (.tuple #[S x, .bool true]) ∧ ∃ F', RA w' F' g m r ∧ Moves F F' w w'
  at_none : ∀ {w F g m xs} (n : Int), RA w F g m xs → (n < 0 ∨ (xs.length : Int) ≤ n) → Calls Try.prog 21 #[.pointer (some ⟨g, 0, none⟩), .int .i64 n] w fun e w' => e = .returned (.tuple #[.string ⟨#[]⟩, .bool false]) ∧ Below w.heap.size w w'
  at_some : ∀ {w F g m xs} (i : Nat) (x : List UInt8), RA w F g m xs → xs[i]? = some x → Calls Try.prog 21 #[.pointer (some ⟨g, 0, none⟩), .int .i64 (i : Int)] w fun e w' => e = .returned (.tuple #[S x, .bool true]) ∧ Below w.heap.size w w'
  set_none : ∀ {w F g m xs} (n : Int) (y : List UInt8), RA w F g m xs → (n < 0 ∨ (xs.length : Int) ≤ n) → Calls Try.prog 37 #[.pointer (some ⟨g, 0, none⟩), .int .i64 n, S y] w fun e w' => e = .returned (.bool false) ∧ ∃ F', RA w' F' g m xs ∧ Moves F F' w w'
  set_some : ∀ {w F g m xs} (i : Nat) (y : List UInt8), RA w F g m xs → i < xs.length → Calls Try.prog 37 #[.pointer (some ⟨g, 0, none⟩), .int .i64 (i : Int), S y] w fun e w' => e = .returned (.bool true) ∧ ∃ F', RA w' F' g m (xs.set i y) ∧ Moves F F' w w'
  clear : ∀ {w F g m xs}, RA w F g m xs → Calls Try.prog 38 #[.pointer (some ⟨g, 0, none⟩)] w fun e w' => e = .returned (.int .i64 (xs.length : Int)) ∧ ∃ F', RA w' F' g m [] ∧ Moves F F' w w'
  len : ∀ {w F g m xs}, RA w F g m xs → Calls Try.prog 20 #[.pointer (some ⟨g, 0, none⟩)] w fun e w' => e = .returned (.int .i64 (xs.length : Int)) ∧ Below w.heap.size w w'
  all : ∀ {w F g m xs}, RA w F g m xs → Calls Try.prog 48 #[.pointer (some ⟨g, 0, none⟩)] w fun e w' => ∃ gf lb k Kb, e = .returned (.func (.func gf) #[] lb) ∧ Below w.heap.size w w' ∧ (∀ r, Kb r → w.heap.size ≤ r ∧ r < w'.heap.size) ∧
    (∀ args W, (callFunc gf args).run Try.prog W = .ok (.enter gf args) W) ∧ ∀ n, SeqL Try.prog n gf lb encP k Kb (placed xs) (fun W => Below w'.heap.size w' W)

/-- The document's ring of block h, by its blocks. -/
def ListF (w : World) (F : Nat → Prop) (h m : Nat) (xs : List (List UInt8)) : Prop :=
  ∃ v, Row w h #[.int .i64 (m : Int), v] 48 ∧ Lies w 1 v xs.length (xs.map S) ∧ (∀ k, v.ownBlock = some k → k ≠ h) ∧ ∀ k, F k ↔ k = h ∨ v.ownBlock = some k
section
variable {RA : World → (Nat → Prop) → Nat → Nat → List (List UInt8) → Prop} {w w' : World} {g h m : Nat} {F F' G : Nat → Prop} {xs ys : List (List UInt8)}
theorem ListF.lt (H : ListF w F h m xs) : F h ∧ ∀ k, F k → k < w.heap.size := by
  obtain ⟨v, hr, hl, _, hF⟩ := H
  refine ⟨(hF h).2 (.inl rfl), fun k hk => ?_⟩
  rcases (hF k).1 hk with rfl | hk
  · exact hr.lt
  · exact hl.lt k hk
theorem ListF.same (H : ListF w F h m xs) (hs : w.heap.size ≤ w'.heap.size) (hb : ∀ k, F k → w'.heap[k]? = w.heap[k]?) : ListF w' F h m xs := by
  obtain ⟨v, hr, hl, hn, hF⟩ := H
  refine ⟨v, ?_, hl.same hs (fun k hk => hb k ((hF k).2 (.inr hk))), hn, hF⟩
  unfold Row; rw [hb h ((hF h).2 (.inl rfl))]; exact hr
/-- All that there is but its slice's block. -/
def Others (w : World) (F : Nat → Prop) (h : Nat) : Nat → Prop := fun k => k < w.heap.size ∧ (¬ F k ∨ k = h)
theorem ListF.toA (H : ListF w F h m xs) : ListAt w h (Others w F h) m xs := by
  obtain ⟨v, hr, hl, hn, hF⟩ := H
  exact ⟨⟨v, hr, hl, fun k hk => ⟨fun hA => by
    rcases hA.2 with h1 | h1
    · exact h1 ((hF k).2 (.inr hk))
    · exact hn k hk h1, hn k hk⟩⟩, fun k hk => hk.1⟩
theorem ListF.ofA (H : ListF w F h m xs) (H' : ListAt w' h (Others w F h) m ys) (hs : Spare h (Others w F h) w w') : ∃ F', ListF w' F' h m ys ∧ Moves F F' w w' := by
  obtain ⟨⟨v', hr', hl', ha'⟩, _⟩ := H'
  refine ⟨fun k => k = h ∨ v'.ownBlock = some k, ⟨v', hr', hl', fun k hk => (ha' k hk).2, fun k => Iff.rfl⟩, hs.os, hs.tape, hs.output, hs.size, fun k hk => ?_, fun k hk hn => hs.block k ⟨hk, .inl hn⟩ (fun e => hn (by rw [e]; exact H.lt.1))⟩
  rcases hk with rfl | hk
  · exact .inl H.lt.1
  · by_cases hf : F k
    · exact .inl hf
    · rcases Nat.lt_or_ge k w.heap.size with hlt | hge
      · exact absurd ⟨hlt, .inl hf⟩ (ha' k hk).1
      · exact .inr hge

/-- Two rings side by side: g the ring's, of the blocks F, h the document's, of the blocks G. -/
structure Both (RA : World → (Nat → Prop) → Nat → Nat → List (List UInt8) → Prop) (g h m : Nat) (F G : Nat → Prop) (xs ys : List (List UInt8)) (w : World) : Prop where
  r : RA w F g m xs
  l : ListF w G h m ys
  apart : ∀ k, F k → ¬ G k
/-- The two, whatever their blocks, but the ones that they had and new ones. -/
def Side (RA : World → (Nat → Prop) → Nat → Nat → List (List UInt8) → Prop) (g h m : Nat) (F G : Nat → Prop) (xs ys : List (List UInt8)) (w w' : World) : Prop :=
  ∃ F' G', Both RA g h m F' G' xs ys w' ∧ Moves (fun k => F k ∨ G k) (fun k => F' k ∨ G' k) w w'
theorem Both.below (R : RingS RA) (H : Both RA g h m F G xs ys w) (hb : Below w.heap.size w w') : Both RA g h m F G xs ys w' :=
  ⟨R.same H.r hb.size (fun k hk => hb.block k ((R.lt H.r).2 k hk)), H.l.same hb.size (fun k hk => hb.block k (H.l.lt.2 k hk)), H.apart⟩
theorem Both.left (_R : RingS RA) {xs' : List (List UInt8)} (H : Both RA g h m F G xs ys w) (h1 : RA w' F' g m xs') (hm : Moves F F' w w') : Both RA g h m F' G xs' ys w' := by
  have := hm.apart (G := G) (fun k hk => ⟨H.l.lt.2 k hk, fun hf => H.apart k hf hk⟩)
  exact ⟨h1, H.l.same hm.size this.1, fun k hf hg => (this.2 k hg).2 hf⟩
theorem Both.right (R : RingS RA) {G' : Nat → Prop} {ys' : List (List UInt8)} (H : Both RA g h m F G xs ys w) (h1 : ListF w' G' h m ys') (hm : Moves G G' w w') : Both RA g h m F G' xs ys' w' := by
  have := hm.apart (G := F) (fun k hk => ⟨(R.lt H.r).2 k hk, H.apart k hk⟩)
  exact ⟨R.same H.r hm.size this.1, h1, fun k hf hg => (this.2 k hf).2 hg⟩
theorem Moves.left {F F' G : Nat → Prop} {w w' : World} (h : Moves F F' w w') : Moves (fun k => F k ∨ G k) (fun k => F' k ∨ G k) w w' :=
  ⟨h.os, h.tape, h.output, h.size, fun k hk => hk.elim (fun a => (h.foot k a).imp .inl id) (fun a => .inl (.inr a)), fun k hk hn => h.rest k hk (fun a => hn (.inl a))⟩
theorem Moves.right {F G G' : Nat → Prop} {w w' : World} (h : Moves G G' w w') : Moves (fun k => F k ∨ G k) (fun k => F k ∨ G' k) w w' :=
  ⟨h.os, h.tape, h.output, h.size, fun k hk => hk.elim (fun a => .inl (.inl a)) (fun a => (h.foot k a).imp .inr id), fun k hk hn => h.rest k hk (fun a => hn (.inr a))⟩
end
end Go.Proofs.Ytkekjcdhlkhhoaa
