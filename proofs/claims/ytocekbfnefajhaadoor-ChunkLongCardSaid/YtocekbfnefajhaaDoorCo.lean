/- One reader and what lies beside it; strings.Repeat of one letter; the law's own function bad. -/
import Derived.Test.YtocekbfnefajhaaDoorCp
import Derived.Test.YtocekbfnefajhaaDoorShelf
import Derived.Shelf.Strings.Repeat
namespace Go.Proofs.YtocekbfnefajhaaDoor
open Go.RowKit
attribute [local go_sem] store_one S_match S_store

theorem rep_one (c : UInt8) : ∀ n, Lib.repeatL [c] n = List.replicate n c
  | 0 => rfl
  | n + 1 => by rw [List.replicate_succ, ← rep_one c n]; rfl
theorem rep_any (c : UInt8) (n : Nat) (hn : n ≤ 100000) (w : World) : Calls Tryd.prog 13 #[S [c], .int .i64 (n : Int)] w fun e w' => e = .returned (S (List.replicate n c)) ∧ Below w.heap.size w w' := by
  have h := Tryd.strings_Repeat ⟨#[c]⟩ n w (by omega) (by show 1 * n ≤ _; omega)
  rw [show (⟨#[c]⟩ : ByteArray).data.toList = [c] from rfl, rep_one] at h
  exact h
/-- A reader that stands so; all that it may turn is new. -/
structure One (RA : World → (Nat → Prop) → Nat → Cst → Prop) (w : World) (g : Nat) (st : Cst) (W : World) : Prop where
  ex : ∃ F, RA W F g st ∧ ∀ k, F k → w.heap.size ≤ k
  bel : Below w.heap.size w W
section
variable {RA : World → (Nat → Prop) → Nat → Cst → Prop} {w W W' : World} {g : Nat} {st : Cst}
theorem One.below (C : ChunkI RA) (h : One RA w g st W) (hb : Below W.heap.size W W') : One RA w g st W' := by
  obtain ⟨⟨F, h1, h2⟩, hB⟩ := h
  exact ⟨⟨F, C.below h1 hb, h2⟩, hB.trans (hb.mono hB.size)⟩
theorem One.make (C : ChunkI RA) (h : Below w.heap.size w W) : Calls Tryd.prog 11 #[] W fun e W' => ∃ g, e = .returned (.pointer (some ⟨g, 0, none⟩)) ∧ One RA w g Cst.new W' := by
  refine (C.new W).mono ?_
  rintro e W' ⟨g, F, he, h1, h2, hB⟩
  exact ⟨g, he, ⟨F, h1, fun k hk => by have := h2 k hk; have := h.size; omega⟩, h.trans (hB.mono h.size)⟩
theorem One.feed (C : ChunkI RA) (h : One RA w g st W) (x : List UInt8) (hx : x.length ≤ 100000) :
    Calls Tryd.prog 12 #[.pointer (some ⟨g, 0, none⟩), S x] W fun e W' => e = .returned (.int .i64 ((st.run x).1 : Int)) ∧ One RA w g (st.run x).2 W' := by
  obtain ⟨⟨F, h1, h2⟩, hB⟩ := h
  refine (C.feed x h1 hx).mono ?_
  rintro e W' ⟨he, F', h1', hm⟩
  exact ⟨he, ⟨F', h1', hm.from h2 hB.size⟩, hB.trans (hm.below h2 hB.size)⟩
theorem One.feedAs (C : ChunkI RA) (h : One RA w g st W) {x : List UInt8} (hx : x.length ≤ 100000) {n : Nat} {st' : Cst} (hr : st.run x = (n, st')) :
    Calls Tryd.prog 12 #[.pointer (some ⟨g, 0, none⟩), S x] W fun e W' => e = .returned (.int .i64 (n : Int)) ∧ One RA w g st' W' := by
  have := h.feed C x hx
  rwa [hr] at this
theorem One.data (C : ChunkI RA) (h : One RA w g st W) : Calls Tryd.prog 16 #[.pointer (some ⟨g, 0, none⟩)] W fun e W' => e = .returned (S st.data) ∧ One RA w g st W' := by
  obtain ⟨F, h1, _⟩ := h.ex
  exact (C.data h1).mono (by rintro e W' ⟨he, hb⟩; exact ⟨he, h.below C hb⟩)
theorem One.done (C : ChunkI RA) (h : One RA w g st W) : Calls Tryd.prog 15 #[.pointer (some ⟨g, 0, none⟩)] W fun e W' => e = .returned (.bool st.isDone) ∧ One RA w g st W' := by
  obtain ⟨F, h1, _⟩ := h.ex
  exact (C.done h1).mono (by rintro e W' ⟨he, hb⟩; exact ⟨he, h.below C hb⟩)
theorem One.bad (C : ChunkI RA) (h : One RA w g st W) : Calls Tryd.prog 18 #[.pointer (some ⟨g, 0, none⟩)] W fun e W' => e = .returned (.int .i64 (st.badN : Int)) ∧ One RA w g st W' := by
  obtain ⟨F, h1, _⟩ := h.ex
  exact (C.bad h1).mono (by rintro e W' ⟨he, hb⟩; exact ⟨he, h.below C hb⟩)
end
end Go.Proofs.YtocekbfnefajhaaDoor
