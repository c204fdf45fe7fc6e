/- The landed ring does what is asked of it. -/
import Derived.Test.YtkekjcdhlkhhoaaRn9
import Derived.Test.YtkekjcdhlkhhoaaLd
namespace Go.Proofs.Ytkekjcdhlkhhoaa
namespace Rn
open Go.RowKit

/-- A ring by its blocks. -/
def RA (w : World) (F : Nat → Prop) (g m : Nat) (xs : List (Int)) : Prop := ∃ v f cs, Core w g m v f cs xs ∧ ∀ k, F k ↔ Foot g v k
section
variable {w w' : World} {F : Nat → Prop} {g m : Nat} {xs ys : List (Int)} {v : Value}
theorem RA.lt (h : RA w F g m xs) : F g ∧ ∀ k, F k → k < w.heap.size := by
  obtain ⟨v, f, cs, hc, hF⟩ := h
  exact ⟨(hF g).2 (.inl rfl), fun k hk => hc.look.2 k ((hF k).1 hk)⟩
theorem RA.fits (h : RA w F g m xs) : xs.length ≤ m ∧ m ≤ 65536 := by
  obtain ⟨v, f, cs, hc, _⟩ := h
  exact ⟨Nat.le_trans hc.turned.1 hc.cap, hc.most⟩
theorem RA.same (h : RA w F g m xs) (hs : w.heap.size ≤ w'.heap.size) (hb : ∀ k, F k → w'.heap[k]? = w.heap[k]?) : RA w' F g m xs := by
  obtain ⟨v, f, cs, hc, hF⟩ := h
  exact ⟨v, f, cs, hc.same hs (hb g ((hF g).2 (.inl rfl))) (fun k hk => hb k ((hF k).2 (.inr hk))), hF⟩
theorem RA.moved (hF : ∀ k, F k ↔ Foot g v k) (h : ∃ v' f' cs', Core w' g m v' f' cs' ys ∧ Moves (Foot g v) (Foot g v') w w') : ∃ F', RA w' F' g m ys ∧ Moves F F' w w' := by
  obtain ⟨v', f', cs', h1, h2⟩ := h
  obtain rfl : F = Foot g v := funext fun k => propext (hF k)
  exact ⟨Foot g v', ⟨v', f', cs', h1, fun k => Iff.rfl⟩, h2⟩
theorem RA.held {f : Nat} {cs : List (Int)} (hc : Core w g m v f cs xs) (hF : ∀ k, F k ↔ Foot g v k) (hb : Below w.heap.size w w') : ∃ F', RA w' F' g m xs ∧ Moves F F' w w' :=
  ⟨F, ⟨v, f, cs, hc.below hb, hF⟩, Moves.of_below hb⟩
theorem has_none (hc : ∃ v f cs, Core w g m v f cs xs) (n : Int) (hn : n < 0 ∨ (xs.length : Int) ≤ n) : Calls Try.prog 52 #[.pointer (some ⟨g, 0, none⟩), .int .i64 n] w fun e w' => e = .returned (.bool false) ∧ w' = w := by
  obtain ⟨v, f, cs, hc⟩ := hc
  refine has_of (len_core hc) n false ?_
  rcases hn with h | h
  · rw [decide_eq_false (by omega), Bool.false_and]
  · rw [decide_eq_false (p := n < (xs.length : Int)) (by omega), Bool.and_false]
theorem has_nil (n : Int) (w : World) : Calls Try.prog 52 #[.pointer none, .int .i64 n] w fun e w' => e = .returned (.bool false) ∧ w' = w := by
  refine has_of (n := 0) (len_nil w) n false ?_
  rcases Int.lt_or_le n 0 with h | h
  · rw [decide_eq_false (by omega), Bool.false_and]
  · rw [decide_eq_false (p := n < ((0 : Nat) : Int)) (by omega), Bool.and_false]
end
theorem refl_of {R : Ending → Prop} {f : Nat} {a : Array Value} {w : World} (h : Calls Try.prog f a w fun e w' => R e ∧ w' = w) : Calls Try.prog f a w fun e w' => R e ∧ Below w.heap.size w w' :=
  h.mono (by rintro e w' ⟨h1, rfl⟩; exact ⟨h1, Below.refl _ _⟩)
/-- A ring of nothing that New did not make. -/
def RN (w : World) (F : Nat → Prop) (g : Nat) : Prop := ∃ v f cs, Core w g 0 v f cs [] ∧ ∀ k, F k ↔ Foot g v k
theorem seq_none {P : Program} {n g : Nat} {lb : Array Value} {α β : Type} {e1 : α → Array Value} {e2 : β → Array Value} {k : Nat} {Kb : Nat → Prop} {Ok : World → Prop} (h : SeqL P n g lb e1 k Kb [] Ok) : SeqL P n g lb e2 k Kb [] Ok := fun l J Jx W hOk hJ hJx _ h0 => by
  refine (h l (fun _ W => J [] W) (fun _ W => Jx [] W) W hOk (fun s W W' row hs hg hr => hJ [] W W' row hs hg hr) (fun s W W' row hs hg hr => hJx [] W W' row hs hg hr) (fun pre x W1 hp => ?_) h0).mono ?_
  · exact absurd (List.prefix_nil.1 hp) (by simp)
  · rintro e w' ⟨hv, h | ⟨pre, hp, h⟩⟩
    · exact ⟨hv, .inl h⟩
    · exact ⟨hv, .inr ⟨[], List.nil_prefix, h⟩⟩
theorem all_none {p : Option Addr} {B : Nat → Prop} {w : World} (hL : Look w p B []) (hB : ∀ k, B k → k < w.heap.size) :
    Calls Try.prog 24 #[.pointer p] w fun e w' => ∃ gf lb k Kb, e = .returned (.func (.func gf) #[] lb) ∧ Below w.heap.size w w' ∧ (∀ r, Kb r → w.heap.size ≤ r ∧ r < w'.heap.size) ∧
    (∀ args W, (callFunc gf args).run Try.prog W = .ok (.enter gf args) W) ∧ ∀ n, SeqL Try.prog n gf lb encU k Kb [] (fun W => Below w'.heap.size w' W) :=
  (all_any p B [] w hL hB).mono (by
    rintro e w' ⟨gf, lb, k, Kb, h1, h2, h3, h4, h5⟩
    exact ⟨gf, lb, k, Kb, h1, h2, h3, h4, fun n => seq_none (h5 n)⟩)
theorem RN.keep {w w' : World} {F : Nat → Prop} {g : Nat} (h : RN w F g) (hb : Below w.heap.size w w') : ∃ F', RN w' F' g ∧ Moves F F' w w' := by
  obtain ⟨v, f, cs, hc, hF⟩ := h
  exact ⟨F, ⟨v, f, cs, hc.below hb, hF⟩, Moves.of_below hb⟩
theorem RN.held {R : Ending → Prop} {w : World} {F : Nat → Prop} {g : Nat} {f : Nat} {a : Array Value} (h : RN w F g) (hc : Calls Try.prog f a w fun e w' => R e ∧ Below w.heap.size w w') : Calls Try.prog f a w fun e w' => R e ∧ ∃ F', RN w' F' g ∧ Moves F F' w w' :=
  hc.mono (by rintro e w' ⟨h1, h2⟩; exact ⟨h1, h.keep h2⟩)
/-- The landed ring of nothing. -/
theorem ringN : RingN RN where
  lt := fun h => RA.lt h
  same := fun h hs hb => RA.same h hs hb
  bare w := ⟨_, _, _, core_new 0 w (by omega), fun k => by
    constructor
    · rintro rfl; exact .inl rfl
    · rintro (rfl | hk)
      · rfl
      · cases hk⟩
  pop0 w := pop_none_of (at_none_of 0 (has_nil 0 w))
  at0 n w := at_none_of n (has_nil n w)
  push0 n w := push_nil n w
  set0 i n w := refl_of (set_none_of i n (has_nil i w))
  clear0 w := refl_of (clear_none_of (len_nil w))
  len0 w := refl_of (len_nil w)
  all0 w := all_none (p := none) (B := fun _ => False) (.inl ⟨rfl, rfl⟩) (fun k h => h.elim)
  pop := fun {w F g} h => h.held (by
    obtain ⟨v, f, cs, hc, _⟩ := h
    exact pop_none_of (at_none_of 0 (has_none ⟨v, f, cs, hc⟩ 0 (.inr (Int.le_refl 0)))))
  atN := fun {w F g} n h => h.held (by
    obtain ⟨v, f, cs, hc, _⟩ := h
    exact at_none_of n (has_none ⟨v, f, cs, hc⟩ n (by simp; omega)))
  push := fun {w F g} n h => h.held (by
    obtain ⟨v, f, cs, hc, _⟩ := h
    refine (push_core hc n (Nat.le_refl _)).mono ?_
    rintro e w' ⟨he, _, h2⟩
    exact ⟨he, (h2 (Nat.lt_irrefl _)).below⟩)
  set := fun {w F g} i n h => h.held (by
    obtain ⟨v, f, cs, hc, _⟩ := h
    exact refl_of (set_none_of i n (has_none ⟨v, f, cs, hc⟩ i (by simp; omega))))
  clear := fun {w F g} h => h.held (by
    obtain ⟨v, f, cs, hc, _⟩ := h
    exact refl_of (clear_none_of (len_core hc)))
  len := fun {w F g} h => h.held (by
    obtain ⟨v, f, cs, hc, _⟩ := h
    exact refl_of (len_core hc))
  all := fun {w F g} h => by
    obtain ⟨v, f, cs, hc, _⟩ := h
    exact all_none hc.look.1 hc.look.2
end Rn
end Go.Proofs.Ytkekjcdhlkhhoaa
