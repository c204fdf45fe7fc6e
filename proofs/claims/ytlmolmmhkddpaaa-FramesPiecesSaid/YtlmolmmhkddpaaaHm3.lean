/- Cuts and pieces of frames that come (stage 16): as list functions. -/
import Derived.Test.YtlmolmmhkddpaaaHm2
namespace Go.Proofs.Ytlmolmmhkddpaaa
open Go.RowKit

theorem feed_at (m : Bool) (a b : List UInt8) : (atS m a).feed b = atS m (a ++ b) := by rw [feed_ok rfl]; rfl
theorem tell_cut (m : Bool) (s : List UInt8) (p k : Nat) :
    toldF (toldF [] (atS m (s.take p))) ((endF (atS m (s.take p))).feed ((s.drop p).take k)) = toldF [] (atS m (s.take (p + k))) ∧ endF ((endF (atS m (s.take p))).feed ((s.drop p).take k)) = endF (atS m (s.take (p + k))) := by
  obtain ⟨h1, h2⟩ := told_feed (atS m (s.take p)) ((s.drop p).take k) []
  rw [feed_at, ← List.take_add] at h1 h2
  exact ⟨h1.symm, h2.symm⟩
theorem next_buf {st st' : Fst} {e : Ev} (hn : nextF st = some (e, st')) : st'.buf.length ≤ st.buf.length := by
  unfold nextF at hn
  by_cases hb : st.bad = true
  · rw [if_pos hb] at hn; cases hn
  · rw [if_neg hb] at hn
    cases hc : st.cur with
    | none =>
      rw [hc] at hn
      dsimp only at hn
      cases hr : readHeadF st.buf with
      | none => rw [hr] at hn; cases hn
      | some x =>
        obtain ⟨hd, k⟩ := x
        rw [hr] at hn
        dsimp only at hn
        by_cases hm : mayF hd st.masked = true
        · rw [if_pos hm] at hn
          obtain ⟨rfl, rfl⟩ := Prod.mk.inj (Option.some.inj hn)
          simp
        · rw [if_neg hm] at hn
          obtain ⟨rfl, rfl⟩ := Prod.mk.inj (Option.some.inj hn)
          simp
    | some x =>
      obtain ⟨k, a, left⟩ := x
      rw [hc] at hn
      dsimp only at hn
      by_cases h0 : left = 0
      · rw [if_pos h0] at hn
        obtain ⟨rfl, rfl⟩ := Prod.mk.inj (Option.some.inj hn)
        simp
      · rw [if_neg h0] at hn
        by_cases hz : st.buf = []
        · rw [if_pos hz] at hn; cases hn
        · rw [if_neg hz] at hn
          obtain ⟨rfl, rfl⟩ := Prod.mk.inj (Option.some.inj hn)
          simp
theorem run_buf : ∀ (n : Nat) (st : Fst), (runF n st).2.buf.length ≤ st.buf.length
  | 0, _ => Nat.le_refl _
  | n + 1, st => by
    rw [runF]
    split
    · exact Nat.le_refl _
    · rename_i e st' hn
      exact Nat.le_trans (run_buf n st') (next_buf hn)
theorem end_buf (st : Fst) : (endF st).buf.length ≤ st.buf.length := run_buf _ st
theorem feed_buf (st : Fst) (x : List UInt8) : (st.feed x).buf.length ≤ st.buf.length + x.length := by
  unfold Fst.feed
  split
  · omega
  · simp
/-- No Piece is empty, none is longer than its frame. -/
def okP (l : List Ev) : Prop := ∀ i e, l[i]? = some e → e.kind = 2 → e.text ≠ [] ∧ ∃ j d, i = j + 1 ∧ l[j]? = some d ∧ e.text.length ≤ d.len
theorem okP_nil : okP [] := fun i e h => by simp at h
theorem okP_snoc {l : List Ev} {e : Ev} (h : okP l) (he : e.kind = 2 → e.text ≠ [] ∧ ∃ j d, l.length = j + 1 ∧ l[j]? = some d ∧ e.text.length ≤ d.len) : okP (l ++ [e]) := by
  intro i x hx hk
  rcases Nat.lt_trichotomy i l.length with hi | rfl | hi
  · rw [List.getElem?_append_left hi] at hx
    obtain ⟨h1, j, d, h2, h3, h4⟩ := h i x hx hk
    exact ⟨h1, j, d, h2, by rw [List.getElem?_append_left (by omega)]; exact h3, h4⟩
  · rw [List.getElem?_append_right (Nat.le_refl _), Nat.sub_self, List.getElem?_cons_zero, Option.some.injEq] at hx
    subst hx
    obtain ⟨h1, j, d, h2, h3, h4⟩ := he hk
    exact ⟨h1, j, d, h2, by rw [List.getElem?_append_left (by omega)]; exact h3, h4⟩
  · rw [List.getElem?_append_right (by omega)] at hx
    have : i - l.length = (i - l.length - 1) + 1 := by omega
    rw [this, List.getElem?_cons_succ] at hx
    simp at hx
theorem told_okP : ∀ (n : Nat) (m : Bool) (s : List UInt8) (l : List Ev), s.length ≤ n → okP l → okP (toldF l (atS m s)) := by
  intro n
  induction n with
  | zero =>
    intro m s l hn hl
    have : s = [] := List.length_eq_zero_iff.1 (by omega)
    subst this
    rw [(tell_none (m := m) l rfl).1]; exact hl
  | succ n ih =>
    intro m s l hn hl
    cases hr : readHeadF s with
    | none => rw [(tell_none (m := m) l hr).1]; exact hl
    | some x =>
      obtain ⟨h, k⟩ := x
      obtain ⟨hk2, hks, _⟩ := head_app hr
      cases hm : mayF h m with
      | false => rw [(tell_fail l hr hm).1]; exact okP_snoc hl (fun e => by cases e)
      | true =>
        have hb : okP (l ++ [beginE h]) := okP_snoc hl (fun e => by cases e)
        have hbg : ∀ t : List UInt8, t ≠ [] → t.length ≤ h.len → okP (l ++ [beginE h] ++ [pieceE t]) := fun t h1 h2 => okP_snoc hb (fun _ => ⟨h1, l.length, beginE h, by simp, by simp, h2⟩)
        rw [(tell_begin l hr hm).1]
        by_cases hle : h.len ≤ (s.drop k).length
        · rw [(tell_whole l hle).1]
          refine ih m _ _ (by rw [List.length_drop, List.length_drop]; omega) ?_
          split
          · rename_i h0
            have ht : (maskN h.key 0 ((s.drop k).take h.len)).length = h.len := by rw [mask_len, List.length_take]; omega
            exact okP_snoc (hbg _ (fun e => by rw [e] at ht; simp at ht; omega) (by omega)) (fun e => by cases e)
          · rw [List.append_nil]; exact okP_snoc hb (fun e => by cases e)
        · rw [(tell_part l (by omega)).1]
          split
          · rename_i h0
            have ht : (maskN h.key 0 (s.drop k)).length = (s.drop k).length := mask_len _ _ _
            exact hbg _ (fun e => by rw [e] at ht; simp only [List.length_nil] at ht; omega) (by omega)
          · rw [List.append_nil]; exact hb
theorem told_okP0 (m : Bool) (s : List UInt8) : okP (toldF [] (atS m s)) := told_okP _ m s [] (Nat.le_refl _) okP_nil
end Go.Proofs.Ytlmolmmhkddpaaa
