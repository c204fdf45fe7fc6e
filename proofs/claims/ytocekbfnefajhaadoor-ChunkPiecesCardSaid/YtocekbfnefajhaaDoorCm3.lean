/- The document's lines, and the automaton. -/
import Derived.Test.YtocekbfnefajhaaDoorCm2
namespace Go.Proofs.YtocekbfnefajhaaDoor
open Go.RowKit

/-- A line from place i on, of which cur was read: its text, the place behind, what is wrong, whether it is whole. -/
def lnGo (most last : Int) : Nat → List UInt8 → List UInt8 → List UInt8 × Nat × Nat × Bool
  | i, _, [] => ([], i, 0, false)
  | i, cur, c :: r => if 0 ≤ last ∧ last ≤ (i : Int) then ([], i + 1, 431, false) else if endCR cur ≠ (c == 10) then ([], i + 1, 400, false)
    else if endCR cur = true then (cur.dropLast, i + 1, 0, true) else if 0 ≤ most ∧ most ≤ (cur.length : Int) then ([], i + 1, 431, false) else lnGo most last (i + 1) (cur ++ [c]) r
/-- How a line's outcome stands to what the automaton does: st was asked, at place i, of the bytes r; next is how it stands behind a whole line; part what it is if the line has not ended. -/
def LineAt (i : Nat) (r : List UInt8) (st : Cst) (part : Cst) (next : List UInt8 → Nat → Cst) (o : List UInt8 × Nat × Nat × Bool) : Prop :=
  i ≤ o.2.1 ∧ o.2.1 ≤ i + r.length ∧
    (o.2.2.2 = true → i < o.2.1 ∧ st.run r = ((o.2.1 - i) + ((next o.1 (o.2.1 - i)).run (r.drop (o.2.1 - i))).1, ((next o.1 (o.2.1 - i)).run (r.drop (o.2.1 - i))).2)) ∧
    (o.2.2.2 = false → o.2.2.1 = 0 → o.2.1 = i + r.length ∧ st.run r = (r.length, part)) ∧
    (o.2.2.2 = false → o.2.2.1 ≠ 0 → st.run r = (o.2.1 - i, ⟨.bad o.2.2.1, st.data⟩))
theorem lineAt_bad {i : Nat} {c : UInt8} {r : List UInt8} {st part : Cst} {next : List UInt8 → Nat → Cst} {b : Nat} (hb : b ≠ 0) (hs : st.stop = false) (h : st.step c = ⟨.bad b, st.data⟩) : LineAt i (c :: r) st part next ([], i + 1, b, false) := by
  refine ⟨by dsimp only; omega, by simp, (fun h => by cases h), (fun _ h => absurd h hb), fun _ _ => ?_⟩
  rw [run_cons hs, h, run_stop rfl]
  dsimp only
  rw [show i + 1 - i = 1 by omega]
theorem lineAt_whole {i : Nat} {c : UInt8} {r t : List UInt8} {st part : Cst} {next : List UInt8 → Nat → Cst} (hs : st.stop = false) (h : st.step c = next t 1) : LineAt i (c :: r) st part next (t, i + 1, 0, true) := by
  refine ⟨by dsimp only; omega, by simp, fun _ => ⟨by dsimp only; omega, ?_⟩, (fun h => by cases h), (fun h => by cases h)⟩
  dsimp only
  rw [show i + 1 - i = 1 by omega, run_cons hs, h]
  simp only [List.drop_succ_cons, List.drop_zero, Prod.mk.injEq, and_true]
  omega
theorem lineAt_step {i : Nat} {c : UInt8} {r : List UInt8} {st st' part : Cst} {next next' : List UInt8 → Nat → Cst} {o : List UInt8 × Nat × Nat × Bool} (hs : st.stop = false) (h : st.step c = st') (hd : st'.data = st.data) (hn : ∀ t k, next' t k = next t (k + 1))
    (ho : LineAt (i + 1) r st' part next' o) : LineAt i (c :: r) st part next o := by
  obtain ⟨h1, h2, h3, h4, h5⟩ := ho
  refine ⟨by omega, by rw [List.length_cons]; omega, fun hw => ?_, fun hw hb => ?_, fun hw hb => ?_⟩
  · obtain ⟨g1, g2⟩ := h3 hw
    refine ⟨by omega, ?_⟩
    rw [run_cons hs, h, g2, hn]
    have e : o.2.1 - i = (o.2.1 - (i + 1)) + 1 := by omega
    rw [e, List.drop_succ_cons]
    simp only [Prod.mk.injEq, and_true]
    omega
  · obtain ⟨g1, g2⟩ := h4 hw hb
    refine ⟨by rw [List.length_cons]; omega, ?_⟩
    rw [run_cons hs, h, g2, List.length_cons]
  · have g := h5 hw hb
    rw [run_cons hs, h, g, hd]
    dsimp only
    simp only [Prod.mk.injEq, and_true]
    omega
theorem line_head : ∀ (r : List UInt8) (i : Nat) (cur d : List UInt8), LineAt i r ⟨.head cur, d⟩ ⟨.head (cur ++ r), d⟩ (fun t _ => ⟨headF t d, d⟩) (lnGo 2048 (-1) i cur r)
  | [], i, cur, d => ⟨by simp [lnGo], by simp [lnGo], (fun h => by cases h), (fun _ _ => by simp [lnGo, Cst.run]), (fun _ h => by simp [lnGo] at h)⟩
  | c :: r, i, cur, d => by
    rw [lnGo, if_neg (by omega)]
    split
    · rename_i h1
      exact lineAt_bad (by decide) rfl (by unfold Cst.step; dsimp only; rw [if_pos h1])
    · rename_i h1
      split
      · rename_i h2
        exact lineAt_whole rfl (by unfold Cst.step; dsimp only; rw [if_neg h1, if_pos h2])
      · rename_i h2
        split
        · rename_i h3
          exact lineAt_bad (by decide) rfl (by unfold Cst.step; dsimp only; rw [if_neg h1, if_neg h2, if_pos (by omega)])
        · rename_i h3
          have ih := line_head r (i + 1) (cur ++ [c]) d
          rw [List.append_assoc] at ih
          exact lineAt_step (st' := ⟨.head (cur ++ [c]), d⟩) rfl (by unfold Cst.step; dsimp only; rw [if_neg h1, if_neg h2, if_neg (by omega)]) rfl (fun _ _ => rfl) ih
theorem line_tail : ∀ (r : List UInt8) (i k f : Nat) (last : Int) (cur d : List UInt8), last = (i : Int) + 2048 - (k : Int) → k ≤ 2048 →
    LineAt i r ⟨.tail cur k f, d⟩ ⟨.tail (cur ++ r) (k + r.length) f, d⟩ (fun t m => ⟨tailF t (k + m) f, d⟩) (lnGo (-1) last i cur r)
  | [], i, k, f, last, cur, d, _, _ => ⟨by simp [lnGo], by simp [lnGo], (fun h => by cases h), (fun _ _ => by simp [lnGo, Cst.run]), (fun _ h => by simp [lnGo] at h)⟩
  | c :: r, i, k, f, last, cur, d, hl, hk => by
    rw [lnGo]
    split
    · rename_i h0
      exact lineAt_bad (by decide) rfl (by unfold Cst.step; dsimp only; rw [if_pos (by omega)])
    · rename_i h0
      have hk2 : k < 2048 := by omega
      split
      · rename_i h1
        exact lineAt_bad (by decide) rfl (by unfold Cst.step; dsimp only; rw [if_neg (by omega), if_pos h1])
      · rename_i h1
        split
        · rename_i h2
          exact lineAt_whole rfl (by unfold Cst.step; dsimp only; rw [if_neg (by omega), if_neg h1, if_pos h2])
        · rename_i h2
          rw [if_neg (by omega)]
          have ih := line_tail r (i + 1) (k + 1) f last (cur ++ [c]) d (by omega) (by omega)
          rw [List.append_assoc] at ih
          have e : (⟨.tail (cur ++ ([c] ++ r)) (k + 1 + r.length) f, d⟩ : Cst) = ⟨.tail (cur ++ (c :: r)) (k + (c :: r).length) f, d⟩ := by
            rw [List.length_cons, show k + 1 + r.length = k + (r.length + 1) by omega]; rfl
          rw [e] at ih
          exact lineAt_step (st' := ⟨.tail (cur ++ [c]) (k + 1) f, d⟩) rfl (by unfold Cst.step; dsimp only; rw [if_neg (by omega), if_neg h1, if_neg h2]) rfl (fun t m => by rw [show k + 1 + m = k + (m + 1) by omega]) ih
/-- Fewer bytes than a chunk has. -/
theorem run_part : ∀ (x d : List UInt8) (n : Nat), x.length < n → (⟨.body n, d⟩ : Cst).run x = (x.length, ⟨.body (n - x.length), d ++ x⟩)
  | [], d, n, _ => by simp [Cst.run]
  | c :: x, d, n, h => by
    simp only [List.length_cons] at h
    have hs : (⟨.body n, d⟩ : Cst).step c = ⟨.body (n - 1), d ++ [c]⟩ := by unfold Cst.step; dsimp only; rw [if_neg (by omega)]
    rw [run_cons rfl, hs, run_part x (d ++ [c]) (n - 1) (by omega), List.append_assoc, List.length_cons, show n - 1 - x.length = n - (x.length + 1) by omega]; rfl
/-- What is read of any bytes, as the document tells it. -/
def readsV (s : List UInt8) : Value := .tuple #[.int .i64 ((Cst.new.run s).1 : Int), S (Cst.new.run s).2.data, .bool (Cst.new.run s).2.isDone, .int .i64 ((Cst.new.run s).2.badN : Int)]
/-- So far: the bytes ahead of place at are read, and it stands so. -/
def Upto (s : List UInt8) (at' : Nat) (st : Cst) : Prop := at' ≤ s.length ∧ Cst.new.run s = (at' + (st.run (s.drop at')).1, (st.run (s.drop at')).2)
theorem upto_new (s : List UInt8) : Upto s 0 Cst.new := ⟨Nat.zero_le _, by rw [List.drop_zero]; simp⟩
theorem Upto.step {s : List UInt8} {a k : Nat} {st st' : Cst} (h : Upto s a st) (hk : a + k ≤ s.length) (hr : st.run (s.drop a) = (k + (st'.run (s.drop (a + k))).1, (st'.run (s.drop (a + k))).2)) : Upto s (a + k) st' := by
  refine ⟨hk, ?_⟩
  rw [h.2, hr]
  dsimp only
  simp only [Prod.mk.injEq, and_true]
  omega
/-- One byte more. -/
theorem Upto.byte {s : List UInt8} {a : Nat} {st : Cst} {c : UInt8} (h : Upto s a st) (hc : s[a]? = some c) (hs : st.stop = false) : Upto s (a + 1) (st.step c) := by
  obtain ⟨hl, rfl⟩ := List.getElem?_eq_some_iff.1 hc
  refine h.step (by omega) ?_
  rw [List.drop_eq_getElem_cons hl, run_cons hs]
  simp only [Prod.mk.injEq, and_true]
  omega
theorem Upto.stop {s : List UInt8} {a : Nat} {st : Cst} (h : Upto s a st) (hs : st.stop = true) : Cst.new.run s = (a, st) := by rw [h.2, run_stop hs]; rfl
theorem Upto.over {s : List UInt8} {st : Cst} (h : Upto s s.length st) : Cst.new.run s = (s.length, st) := by
  rw [h.2, List.drop_of_length_le (Nat.le_refl _)]; rfl
end Go.Proofs.YtocekbfnefajhaaDoor
