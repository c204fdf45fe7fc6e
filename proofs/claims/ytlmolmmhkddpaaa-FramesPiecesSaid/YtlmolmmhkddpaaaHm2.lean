/- Frames whose bytes are all there (stage 16): what is told, frame by frame; how much. -/
import Derived.Test.YtlmolmmhkddpaaaHm1
namespace Go.Proofs.Ytlmolmmhkddpaaa
open Go.RowKit

def atS (m : Bool) (s : List UInt8) : Fst := ⟨m, false, none, s⟩
theorem fresh_feed (m : Bool) (s : List UInt8) : (fresh16 m).feed s = atS m s := by rw [feed_ok rfl]; rfl
theorem told_none {st : Fst} (l : List Ev) (h : nextF st = none) : toldF l st = l ∧ endF st = st := by
  obtain ⟨h1, h2⟩ := all_none h
  unfold toldF
  rw [h1, h2]; exact ⟨rfl, rfl⟩
theorem told_some {st st' : Fst} {e : Ev} (l : List Ev) (h : nextF st = some (e, st')) : toldF l st = toldF (mergeE l e) st' ∧ endF st = endF st' := by
  obtain ⟨h1, h2⟩ := all_some h
  unfold toldF
  rw [h1, h2]; exact ⟨rfl, rfl⟩
theorem tell_none {m : Bool} {s : List UInt8} (l : List Ev) (h : readHeadF s = none) : toldF l (atS m s) = l ∧ endF (atS m s) = atS m s := by
  refine told_none l ?_
  unfold nextF atS
  dsimp only
  rw [if_neg Bool.false_ne_true, h]
theorem tell_fail {m : Bool} {s : List UInt8} {h : Hd} {n : Nat} (l : List Ev) (hr : readHeadF s = some (h, n)) (hm : mayF h m = false) : toldF l (atS m s) = l ++ [failE] ∧ endF (atS m s) = ⟨m, true, none, []⟩ := by
  have hn : nextF (atS m s) = some (failE, ⟨m, true, none, []⟩) := by
    unfold nextF atS
    dsimp only
    rw [if_neg Bool.false_ne_true, hr]
    dsimp only
    rw [hm, if_neg Bool.false_ne_true]
  obtain ⟨h1, h2⟩ := told_some l hn
  have hz : nextF ⟨m, true, none, []⟩ = none := by unfold nextF; rw [if_pos rfl]
  obtain ⟨h3, h4⟩ := told_none (mergeE l failE) hz
  rw [h1, h2, h3, h4, merge_not _ _ (by decide)]
  exact ⟨rfl, rfl⟩
theorem tell_begin {m : Bool} {s : List UInt8} {h : Hd} {n : Nat} (l : List Ev) (hr : readHeadF s = some (h, n)) (hm : mayF h m = true) :
    toldF l (atS m s) = toldF (l ++ [beginE h]) ⟨m, false, some (h.key, 0, h.len), s.drop n⟩ ∧ endF (atS m s) = endF ⟨m, false, some (h.key, 0, h.len), s.drop n⟩ := by
  have hn : nextF (atS m s) = some (beginE h, ⟨m, false, some (h.key, 0, h.len), s.drop n⟩) := by
    unfold nextF atS
    dsimp only
    rw [if_neg Bool.false_ne_true, hr]
    dsimp only
    rw [hm, if_pos rfl]
  obtain ⟨h1, h2⟩ := told_some l hn
  rw [h1, h2, merge_not _ _ (by decide : (1 : Nat) ≠ 2)]
  exact ⟨rfl, rfl⟩
theorem merge_begin (l : List Ev) (h : Hd) (e : Ev) : mergeE (l ++ [beginE h]) e = l ++ [beginE h] ++ [e] := by rw [merge_snoc, if_neg (fun x => absurd (show (1 : Nat) = 2 from x.2) (by decide))]
theorem tell_end {m : Bool} {k : Key4} {a : Nat} {r : List UInt8} (l : List Ev) : toldF l ⟨m, false, some (k, a, 0), r⟩ = toldF (l ++ [endE]) (atS m r) ∧ endF ⟨m, false, some (k, a, 0), r⟩ = endF (atS m r) := by
  have hn : nextF ⟨m, false, some (k, a, 0), r⟩ = some (endE, atS m r) := by
    unfold nextF
    dsimp only
    rw [if_neg Bool.false_ne_true, if_pos rfl]; rfl
  obtain ⟨h1, h2⟩ := told_some l hn
  rw [h1, h2, merge_not _ _ (by decide)]
  exact ⟨rfl, rfl⟩
theorem next_piece {m : Bool} {k : Key4} {a len : Nat} {r : List UInt8} (h0 : len ≠ 0) (hr : r ≠ []) : nextF ⟨m, false, some (k, a, len), r⟩ = some (pieceE (maskN k a (r.take len)), ⟨m, false, some (k, a + (r.take len).length, len - (r.take len).length), r.drop len⟩) := by
  unfold nextF
  dsimp only
  rw [if_neg Bool.false_ne_true, if_neg h0, if_neg hr]
/-- A frame's data behind its head: whole. -/
theorem tell_whole {m : Bool} {h : Hd} {r : List UInt8} (l : List Ev) (hle : h.len ≤ r.length) :
    toldF (l ++ [beginE h]) ⟨m, false, some (h.key, 0, h.len), r⟩ = toldF (l ++ [beginE h] ++ (if 0 < h.len then [pieceE (maskN h.key 0 (r.take h.len))] else []) ++ [endE]) (atS m (r.drop h.len)) ∧
      endF ⟨m, false, some (h.key, 0, h.len), r⟩ = endF (atS m (r.drop h.len)) := by
  by_cases h0 : h.len = 0
  · rw [h0, if_neg (Nat.lt_irrefl 0), List.append_nil, List.drop_zero]
    exact tell_end _
  · have hr : r ≠ [] := fun e => by rw [e] at hle; simp at hle; exact h0 hle
    have ht : (r.take h.len).length = h.len := by rw [List.length_take]; omega
    have hn := next_piece (m := m) (k := h.key) (a := 0) h0 hr
    rw [ht, Nat.zero_add, Nat.sub_self] at hn
    obtain ⟨h1, h2⟩ := told_some (l ++ [beginE h]) hn
    rw [h1, h2, merge_begin, if_pos (by omega)]
    exact tell_end _
/-- Not whole. -/
theorem tell_part {m : Bool} {h : Hd} {r : List UInt8} (l : List Ev) (hlt : r.length < h.len) :
    toldF (l ++ [beginE h]) ⟨m, false, some (h.key, 0, h.len), r⟩ = l ++ [beginE h] ++ (if 0 < r.length then [pieceE (maskN h.key 0 r)] else []) ∧
      endF ⟨m, false, some (h.key, 0, h.len), r⟩ = ⟨m, false, some (h.key, r.length, h.len - r.length), []⟩ := by
  by_cases hr : r = []
  · subst hr
    rw [if_neg (by simp), List.append_nil]
    refine told_none _ ?_
    unfold nextF
    dsimp only
    rw [if_neg Bool.false_ne_true, if_neg (by simp at hlt; omega), if_pos rfl]
  · have ht : r.take h.len = r := List.take_of_length_le (by omega)
    have hd : r.drop h.len = [] := List.drop_of_length_le (by omega)
    have hn := next_piece (m := m) (k := h.key) (a := 0) (len := h.len) (by omega) hr
    rw [ht, hd, Nat.zero_add] at hn
    obtain ⟨h1, h2⟩ := told_some (l ++ [beginE h]) hn
    have hz : nextF ⟨m, false, some (h.key, r.length, h.len - r.length), []⟩ = none := by
      unfold nextF
      dsimp only
      rw [if_neg Bool.false_ne_true, if_neg (by omega), if_pos rfl]
    obtain ⟨h3, h4⟩ := told_none (mergeE (l ++ [beginE h]) (pieceE (maskN h.key 0 r))) hz
    rw [h1, h2, h3, h4, merge_begin, if_pos (List.length_pos_iff.2 hr)]
    exact ⟨rfl, rfl⟩
theorem mask_at0 (K : Key4) (s : List UInt8) : maskF K 0 s = maskN K 0 s := by unfold maskF; rw [if_neg (by omega)]; rfl
/-- How many there are. -/
theorem run_len : ∀ (n : Nat) (st : Fst), (runF n st).1.length ≤ n
  | 0, _ => Nat.zero_le _
  | n + 1, st => by
    rw [runF]
    split
    · exact Nat.zero_le _
    · have := run_len n (by assumption); simp only [List.length_cons]; omega
theorem all_len (st : Fst) : (allF st).length ≤ 2 * st.buf.length + 1 := by
  have := run_len (costF st) st
  unfold allF costF at *
  have : (if st.cur.isSome = true then 1 else 0) ≤ 1 := by split <;> omega
  omega
/-- How much text there is. -/
def textN (l : List Ev) : Nat := (l.map fun e => e.text.length).sum
theorem run_text : ∀ (n : Nat) (st : Fst), textN (runF n st).1 ≤ st.buf.length
  | 0, st => Nat.zero_le _
  | n + 1, st => by
    rw [runF]
    split
    · exact Nat.zero_le _
    · rename_i e st' hn
      have ih := run_text n st'
      have key : e.text.length + st'.buf.length ≤ st.buf.length := by
        unfold nextF at hn
        by_cases hb : st.bad = true
        · rw [if_pos hb] at hn; cases hn
        · rw [if_neg hb] at hn
          cases hc : st.cur with
          | none =>
            rw [hc] at hn
            dsimp only at hn
            cases hr : readHeadF st.buf with
            | none => rw [hr] at hn; cases hn
            | some x =>
              obtain ⟨hd, k⟩ := x
              rw [hr] at hn
              dsimp only at hn
              by_cases hm : mayF hd st.masked = true
              · rw [if_pos hm] at hn
                obtain ⟨rfl, rfl⟩ := Prod.mk.inj (Option.some.inj hn)
                simp [beginE]
              · rw [if_neg hm] at hn
                obtain ⟨rfl, rfl⟩ := Prod.mk.inj (Option.some.inj hn)
                simp [failE]
          | some x =>
            obtain ⟨k, a, left⟩ := x
            rw [hc] at hn
            dsimp only at hn
            by_cases h0 : left = 0
            · rw [if_pos h0] at hn
              obtain ⟨rfl, rfl⟩ := Prod.mk.inj (Option.some.inj hn)
              simp [endE]
            · rw [if_neg h0] at hn
              by_cases hz : st.buf = []
              · rw [if_pos hz] at hn; cases hn
              · rw [if_neg hz] at hn
                obtain ⟨rfl, rfl⟩ := Prod.mk.inj (Option.some.inj hn)
                simp only [pieceE, mask_len, List.length_take, List.length_drop]
                omega
      show ((e :: (runF n st').1).map fun e => e.text.length).sum ≤ _
      rw [List.map_cons, List.sum_cons]
      unfold textN at ih
      omega
theorem all_text (st : Fst) : textN (allF st) ≤ st.buf.length := run_text _ st
end Go.Proofs.Ytlmolmmhkddpaaa
