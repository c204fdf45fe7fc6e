/- Two buffers side by side: each act on both. -/
import Derived.Test.YtgkinbichiahjaaKn1
import Derived.Test.YtgkinbichiahjaaR2
namespace Go.Proofs.Ytgkinbichiahjaa
open Go.RowKit
attribute [local go_sem] store_one S_match S_store

theorem BufAt.keeps {w w' : World} {g b : Nat} {A : Nat → Prop} {mk : Bool} {m : Nat} {x : List UInt8} (h : BufAt w g A mk m x) (hk : Keeps b w w') (hA : A b) (hn : g ≠ b) : BufAt w' g A mk m x := by
  obtain ⟨⟨v, pre, hl, ha, hp⟩, h1, h2, h3⟩ := h
  refine ⟨⟨v, pre, ⟨hl.1.keeps hk hn, ?_⟩, ha, hp⟩, h1, h2, fun k hk' => Nat.lt_of_lt_of_le (h3 k hk') hk.size⟩
  exact hl.2.kept (row := some b) ⟨hk.os, hk.tape, hk.output, hk.size, fun k hk' hne => hk.block k hk' (fun e => hne (by rw [e]))⟩ (not_some fun k hk' e => (ha k hk').1 (by rw [e]; exact hA))
theorem RefAt.lt {w : World} {g m : Nat} {x : List UInt8} (h : RefAt w g m x) : g < w.heap.size := Row.lt h
/-- The buffer and the document's own, with the same in them. -/
structure Pair (w0 : World) (g h m : Nat) (x : List UInt8) (w : World) : Prop where
  b : BufAt w g (With g h) true m x
  r : RefAt w h m x
  bel : Below w0.heap.size w0 w
  ord : w0.heap.size ≤ g ∧ g < h
section
variable {w0 w w' : World} {g h m : Nat} {x y : List UInt8}
theorem Pair.below (P : Pair w0 g h m x w) (hb : Below w.heap.size w w') : Pair w0 g h m x w' :=
  ⟨P.b.below hb, Row.below P.r hb P.r.lt, P.bel.trans (hb.mono P.bel.size), P.ord⟩
theorem Pair.drawn (P : Pair w0 g h m x w) (hd : Drawn w w') : Pair w0 g h m x w' := P.below hd.below
/-- Half a step: the buffer has y, the document's still x. -/
structure Half (w0 : World) (g h m : Nat) (x y : List UInt8) (w : World) : Prop where
  b : BufAt w g (With g h) true m y
  r : RefAt w h m x
  bel : Below w0.heap.size w0 w
  ord : w0.heap.size ≤ g ∧ g < h
theorem Pair.half (P : Pair w0 g h m x w) (hb : BufAt w' g (With g h) true m y) (hs : Spare g (With g h) w w') : Half w0 g h m x y w' := by
  refine ⟨hb, ?_, P.bel.trans (hs.belowW.mono P.ord.1), P.ord⟩
  have := P.r
  unfold RefAt Row at this ⊢
  rw [hs.block h (.inr rfl) (by have := P.ord.2; omega)]
  exact this
theorem Half.pair (H : Half w0 g h m x y w) (hr : RefAt w' h m y) (hk : Keeps h w w') : Pair w0 g h m y w' := by
  have ho := H.ord
  exact ⟨H.b.keeps hk (.inr rfl) (by omega), hr, H.bel.trans (hk.below H.bel.size (by omega)), ho⟩
end
theorem texts_each (s : Nat → List UInt8) : ∀ k, texts s k ≤ 20000 → ∀ i, i < k → (s i).length ≤ 20000
  | 0, _, i, hi => absurd hi (Nat.not_lt_zero _)
  | k + 1, h, i, hi => by
    simp only [texts] at h
    rcases Nat.lt_succ_iff_lt_or_eq.1 hi with hlt | rfl
    · exact texts_each s k (by omega) i hlt
    · omega
theorem great_not {n : Nat} {s : Nat → List UInt8} (h : greatB n s = false) : n ≤ 300 ∧ ∀ i, i < n → (s i).length ≤ 20000 := by
  unfold greatB at h
  rw [Bool.or_eq_false_iff, decide_eq_false_iff_not, decide_eq_false_iff_not] at h
  have hn : n ≤ 300 := by omega
  refine ⟨hn, texts_each s n ?_⟩
  rw [Nat.min_eq_left (by omega)] at h
  omega

section
variable {w W : World} {g h m : Nat} {x : List UInt8}
theorem Pair.same (P : Pair w g h m x W) : Half w g h m x x W := ⟨P.b, P.r, P.bel, P.ord⟩
theorem arm_write (u : List UInt8) (hu : u.length ≤ 20000) (hx : x.length ≤ m) (hmo : m ≤ 1073741824) : ∃ (R : Int) (y : List UInt8),
    (∀ W, Pair w g h m x W → Calls Try.prog 9 #[.pointer (some ⟨g, 0, none⟩), S u] W fun e w' => e = .returned (.int .i64 R) ∧ Half w g h m x y w') ∧
    (∀ W, Half w g h m x y W → Calls Try.prog 15 #[.pointer (some ⟨h, 0, none⟩), S u] W fun e w' => e = .returned (.int .i64 R) ∧ Pair w g h m y w') := by
  refine ⟨((min u.length (m - x.length) : Nat) : Int), x ++ u.take (m - x.length), fun W hP => (write_any g (With g h) true m x u W hP.b (by simp only [maxLen]; omega)).mono ?_, fun W hH => (refWrite_any h m x u hx (by omega) (by omega) W hH.r).mono ?_⟩
  · rintro e w' ⟨he, hb, hs⟩
    exact ⟨he, hP.half hb hs⟩
  · rintro e w' ⟨he, hr, hk⟩
    exact ⟨he, hH.pair hr hk⟩
theorem arm_read (M : Int) (hx : x.length ≤ m) (hmo : m ≤ 1073741824) : ∃ (R y : List UInt8),
    (∀ W, Pair w g h m x W → Calls Try.prog 11 #[.pointer (some ⟨g, 0, none⟩), .int .i64 M] W fun e w' => e = .returned (S R) ∧ Half w g h m x y w') ∧
    (∀ W, Half w g h m x y W → Calls Try.prog 16 #[.pointer (some ⟨h, 0, none⟩), .int .i64 M] W fun e w' => e = .returned (S R) ∧ Pair w g h m y w') := by
  refine ⟨peekF x M, x.drop (peekF x M).length, fun W hP => (read_any g (With g h) true m x M W hP.b).mono ?_, fun W hH => (refRead_any h m x (by omega) M W hH.r).mono ?_⟩
  · rintro e w' ⟨he, hb, hs⟩
    exact ⟨he, hP.half hb hs⟩
  · rintro e w' ⟨he, hr, hk⟩
    exact ⟨he, hH.pair hr hk⟩
theorem arm_peek (M : Int) (hx : x.length ≤ m) (hmo : m ≤ 1073741824) : ∃ (R y : List UInt8),
    (∀ W, Pair w g h m x W → Calls Try.prog 17 #[.pointer (some ⟨g, 0, none⟩), .int .i64 M] W fun e w' => e = .returned (S R) ∧ Half w g h m x y w') ∧
    (∀ W, Half w g h m x y W → Calls Try.prog 18 #[.pointer (some ⟨h, 0, none⟩), .int .i64 M] W fun e w' => e = .returned (S R) ∧ Pair w g h m y w') := by
  refine ⟨peekF x M, x, fun W hP => (peek_any g (With g h) true m x M W hP.b).mono ?_, fun W hH => (refPeek_any h m x (by omega) M W hH.r).mono ?_⟩
  · rintro e w' ⟨he, hd⟩
    exact ⟨he, (hP.drawn hd).same⟩
  · rintro e w' ⟨he, hk⟩
    exact ⟨he, hH.pair (hk ▸ hH.r) (hk ▸ Keeps.refl _ _)⟩
theorem arm_find (u : List UInt8) (hu : u.length ≤ 20000) (hx : x.length ≤ m) (hmo : m ≤ 1073741824) (hm : MaxAt w) : ∃ (R : Int) (y : List UInt8),
    (∀ W, Pair w g h m x W → Calls Try.prog 10 #[.pointer (some ⟨g, 0, none⟩), S u] W fun e w' => e = .returned (.int .i64 R) ∧ Half w g h m x y w') ∧
    (∀ W, Half w g h m x y W → Calls Try.prog 19 #[.pointer (some ⟨h, 0, none⟩), S u] W fun e w' => e = .returned (.int .i64 R) ∧ Pair w g h m y w') := by
  refine ⟨findF x u 0, x, fun W hP => (find_any g (With g h) m x u W hP.b (by omega) (hm.below hP.bel hm.pos)).mono ?_, fun W hH => (refFind_any h m x u (by omega) (by omega) W hH.r).mono ?_⟩
  · rintro e w' ⟨he, hb⟩
    exact ⟨he, (hP.below hb).same⟩
  · rintro e w' ⟨he, hd⟩
    refine ⟨he, hH.pair ?_ (Keeps.of_drawn hd)⟩
    have := hH.r
    unfold RefAt Row at this ⊢
    rw [hd.heap]; exact this
end
end Go.Proofs.Ytgkinbichiahjaa
