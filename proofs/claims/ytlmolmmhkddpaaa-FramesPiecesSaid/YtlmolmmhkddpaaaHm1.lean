/- Frames as they come, as list functions (stage 16): the automaton, what it tells, what the cuts turn. -/
import Derived.Test.YtlmolmmhkddpaaaEm1
namespace Go.Proofs.Ytlmolmmhkddpaaa
open Go.RowKit

structure Ev where
  kind : Nat
  op : Nat
  fin : Bool
  len : Nat
  text : List UInt8
deriving DecidableEq
def beginE (h : Hd) : Ev := ⟨1, h.op, h.fin, h.len, []⟩
def pieceE (t : List UInt8) : Ev := ⟨2, 0, false, 0, t⟩
def endE : Ev := ⟨3, 0, false, 0, []⟩
def failE : Ev := ⟨4, 0, false, 0, []⟩
/-- May a head be? -/
def mayF (h : Hd) (m : Bool) : Bool := decide (h.rsv = 0) && (decide (h.op ≤ 2 ∨ (8 ≤ h.op ∧ h.op ≤ 10)) && ((h.masked == m) && (decide (h.op < 8 ∨ (h.len ≤ 125 ∧ h.fin = true)) && (h.least && decide (h.len < 9223372036854775808)))))
/-- A reader: within a frame's data the key, how many were told, how many are left. -/
structure Fst where
  masked : Bool
  bad : Bool
  cur : Option (Key4 × Nat × Nat)
  buf : List UInt8
def fresh16 (m : Bool) : Fst := ⟨m, false, none, []⟩
def Fst.feed (st : Fst) (s : List UInt8) : Fst := if st.bad then st else { st with buf := st.buf ++ s }
def Fst.idle (st : Fst) : Bool := !st.bad && (st.cur.isNone && st.buf == [])
/-- The next event. -/
def nextF (st : Fst) : Option (Ev × Fst) :=
  if st.bad then none else match st.cur with
  | none => match readHeadF st.buf with
    | none => none
    | some (h, n) => if mayF h st.masked then some (beginE h, { st with cur := some (h.key, 0, h.len), buf := st.buf.drop n }) else some (failE, { st with bad := true, buf := [] })
  | some (k, a, left) => if left = 0 then some (endE, { st with cur := none }) else if st.buf = [] then none else
    some (pieceE (maskN k a (st.buf.take left)), { st with cur := some (k, a + (st.buf.take left).length, left - (st.buf.take left).length), buf := st.buf.drop left })
def costF (st : Fst) : Nat := 2 * st.buf.length + (if st.cur.isSome then 1 else 0)
theorem next_cost {st st' : Fst} {e : Ev} (h : nextF st = some (e, st')) : costF st' < costF st := by
  unfold nextF at h
  by_cases hb : st.bad = true
  · rw [if_pos hb] at h; cases h
  · rw [if_neg hb] at h
    cases hc : st.cur with
    | none =>
      rw [hc] at h
      dsimp only at h
      cases hr : readHeadF st.buf with
      | none => rw [hr] at h; cases h
      | some x =>
        obtain ⟨hd, n⟩ := x
        rw [hr] at h
        dsimp only at h
        obtain ⟨h2, h3, _⟩ := head_app hr
        by_cases hm : mayF hd st.masked = true
        · rw [if_pos hm] at h
          obtain ⟨rfl, rfl⟩ := Prod.mk.inj (Option.some.inj h)
          unfold costF
          rw [hc]
          simp only [Option.isSome_some, Option.isSome_none, if_true, List.length_drop]
          simp
          omega
        · rw [if_neg hm] at h
          obtain ⟨rfl, rfl⟩ := Prod.mk.inj (Option.some.inj h)
          unfold costF
          simp only [List.length_nil, hc]
          simp
          omega
    | some x =>
      obtain ⟨k, a, left⟩ := x
      rw [hc] at h
      dsimp only at h
      by_cases h0 : left = 0
      · rw [if_pos h0] at h
        obtain ⟨rfl, rfl⟩ := Prod.mk.inj (Option.some.inj h)
        unfold costF
        rw [hc]; simp
      · rw [if_neg h0] at h
        by_cases hz : st.buf = []
        · rw [if_pos hz] at h; cases h
        · rw [if_neg hz] at h
          obtain ⟨rfl, rfl⟩ := Prod.mk.inj (Option.some.inj h)
          unfold costF
          rw [hc]
          have : 0 < st.buf.length := List.length_pos_iff.2 hz
          simp only [Option.isSome_some, if_true, List.length_drop]
          omega
/-- All events that are there, and how it stands behind them. -/
def runF : Nat → Fst → List Ev × Fst
  | 0, st => ([], st)
  | n + 1, st => match nextF st with
    | none => ([], st)
    | some (e, st') => (e :: (runF n st').1, (runF n st').2)
def allF (st : Fst) : List Ev := (runF (costF st) st).1
def endF (st : Fst) : Fst := (runF (costF st) st).2
theorem run_none {st : Fst} (h : nextF st = none) : ∀ n, runF n st = ([], st)
  | 0 => rfl
  | n + 1 => by rw [runF, h]
theorem run_enough : ∀ (n : Nat) (st : Fst), costF st ≤ n → runF n st = (allF st, endF st)
  | 0, st, h => by
    have h0 : costF st = 0 := Nat.le_zero.1 h
    unfold allF endF
    rw [h0]
  | n + 1, st, h => by
    unfold allF endF
    cases hn : nextF st with
    | none => rw [run_none hn, run_none hn]
    | some x =>
      obtain ⟨e, st'⟩ := x
      have hlt := next_cost hn
      obtain ⟨m, hm⟩ : ∃ m, costF st = m + 1 := ⟨costF st - 1, by omega⟩
      rw [hm, runF, runF, hn]
      dsimp only
      rw [run_enough n st' (by omega), run_enough m st' (by omega)]
theorem all_none {st : Fst} (h : nextF st = none) : allF st = [] ∧ endF st = st := by
  unfold allF endF
  cases costF st with
  | zero => exact ⟨rfl, rfl⟩
  | succ n => rw [runF, h]; exact ⟨rfl, rfl⟩
theorem all_some {st st' : Fst} {e : Ev} (h : nextF st = some (e, st')) : allF st = e :: allF st' ∧ endF st = endF st' := by
  have hlt := next_cost h
  obtain ⟨m, hm⟩ : ∃ m, costF st = m + 1 := ⟨costF st - 1, by omega⟩
  have h1 := run_enough m st' (by omega)
  constructor
  · unfold allF at h1 ⊢
    rw [hm, runF, h]
    dsimp only
    rw [h1]
  · unfold endF at h1 ⊢
    rw [hm, runF, h]
    dsimp only
    rw [h1]
theorem end_none : ∀ (n : Nat) (st : Fst), costF st ≤ n → nextF (endF st) = none
  | n, st, h => by
    cases hn : nextF st with
    | none => rw [(all_none hn).2]; exact hn
    | some x =>
      obtain ⟨e, st'⟩ := x
      have hlt := next_cost hn
      cases n with
      | zero => omega
      | succ n => rw [(all_some hn).2]; exact end_none n st' (by omega)
theorem next_end (st : Fst) : nextF (endF st) = none := end_none _ st (Nat.le_refl _)
/-- Pieces that follow one another, as one. -/
def mergeE (l : List Ev) (e : Ev) : List Ev := match l.getLast? with
  | some p => if e.kind = 2 ∧ p.kind = 2 then l.dropLast ++ [{ p with text := p.text ++ e.text }] else l ++ [e]
  | none => l ++ [e]
theorem merge_snoc (l : List Ev) (p e : Ev) : mergeE (l ++ [p]) e = if e.kind = 2 ∧ p.kind = 2 then l ++ [{ p with text := p.text ++ e.text }] else l ++ [p] ++ [e] := by
  unfold mergeE
  rw [List.getLast?_concat, List.dropLast_concat]
theorem merge_not (l : List Ev) (e : Ev) (h : e.kind ≠ 2) : mergeE l e = l ++ [e] := by
  unfold mergeE
  split
  · rw [if_neg fun x => h x.1]
  · rfl
theorem merge_two (l : List Ev) (s t : List UInt8) : mergeE (mergeE l (pieceE s)) (pieceE t) = mergeE l (pieceE (s ++ t)) := by
  rcases List.eq_nil_or_concat l with rfl | ⟨l', p, rfl⟩
  · show mergeE ([] ++ [pieceE s]) (pieceE t) = _
    rw [merge_snoc, if_pos ⟨rfl, rfl⟩]; rfl
  · rw [List.concat_eq_append, merge_snoc, merge_snoc]
    by_cases h : p.kind = 2
    · rw [if_pos ⟨rfl, h⟩, if_pos ⟨rfl, h⟩, merge_snoc, if_pos ⟨rfl, h⟩]
      simp [pieceE]
    · rw [if_neg fun x => h x.2, if_neg fun x => h x.2, merge_snoc, if_pos ⟨rfl, rfl⟩]
      simp [pieceE]
def toldF (l : List Ev) (st : Fst) : List Ev := (allF st).foldl mergeE l
theorem feed_bad {st : Fst} (h : st.bad = true) (s : List UInt8) : st.feed s = st := by unfold Fst.feed; rw [if_pos h]
theorem feed_ok {st : Fst} (h : st.bad = false) (s : List UInt8) : st.feed s = { st with buf := st.buf ++ s } := by unfold Fst.feed; rw [if_neg (by rw [h]; exact Bool.false_ne_true)]
theorem feed_nil (st : Fst) : st.feed [] = st := by
  cases h : st.bad with
  | true => exact feed_bad h _
  | false => rw [feed_ok h, List.append_nil]
/-- However bytes are cut. -/
theorem told_cut : ∀ (n : Nat) (st : Fst), costF st ≤ n → ∀ (x : List UInt8) (l : List Ev), toldF l (st.feed x) = toldF (toldF l st) ((endF st).feed x) ∧ endF (st.feed x) = endF ((endF st).feed x)
  | n, st, hn, x, l => by
    cases hx : nextF st with
    | none =>
      obtain ⟨h1, h2⟩ := all_none hx
      unfold toldF
      rw [h1, h2]; exact ⟨rfl, rfl⟩
    | some y =>
      obtain ⟨e, st'⟩ := y
      have hlt := next_cost hx
      obtain ⟨m, rfl⟩ : ∃ m, n = m + 1 := ⟨n - 1, by omega⟩
      obtain ⟨h1, h2⟩ := all_some hx
      -- most steps are the same with more behind
      have same : nextF (st.feed x) = some (e, st'.feed x) → toldF l (st.feed x) = toldF (toldF l st) ((endF st).feed x) ∧ endF (st.feed x) = endF ((endF st).feed x) := fun hs => by
        obtain ⟨k1, k2⟩ := all_some hs
        obtain ⟨i1, i2⟩ := told_cut m st' (by omega) x (mergeE l e)
        unfold toldF at i1 ⊢
        rw [k1, k2, h1, h2, List.foldl_cons, List.foldl_cons]
        exact ⟨i1, i2⟩
      have hb : st.bad = false := by
        cases hb : st.bad with
        | false => rfl
        | true => unfold nextF at hx; rw [if_pos hb] at hx; cases hx
      by_cases hxe : x = []
      · subst hxe
        rw [feed_nil, feed_nil]
        have := all_none (next_end st)
        unfold toldF
        rw [this.1, this.2]; exact ⟨rfl, rfl⟩
      unfold nextF at hx same
      rw [feed_ok hb] at same ⊢
      rw [if_neg (by rw [hb]; exact Bool.false_ne_true)] at hx same
      cases hc : st.cur with
      | none =>
        rw [hc] at hx same
        dsimp only at hx same
        cases hr : readHeadF st.buf with
        | none => rw [hr] at hx; cases hx
        | some z =>
          obtain ⟨hd, n0⟩ := z
          obtain ⟨_, hle, happ⟩ := head_app hr
          rw [hr] at hx
          rw [happ x] at same
          dsimp only at hx same
          by_cases hm : mayF hd st.masked = true
          · rw [if_pos hm] at hx same
            obtain ⟨rfl, rfl⟩ := Prod.mk.inj (Option.some.inj hx)
            refine same ?_
            rw [feed_ok (by exact hb), List.drop_append_of_le_length hle]
          · rw [if_neg hm] at hx same
            obtain ⟨rfl, rfl⟩ := Prod.mk.inj (Option.some.inj hx)
            exact same (by rw [feed_bad rfl])
      | some z =>
        obtain ⟨k, a, left⟩ := z
        rw [hc] at hx same
        dsimp only at hx same
        by_cases h0 : left = 0
        · rw [if_pos h0] at hx same
          obtain ⟨rfl, rfl⟩ := Prod.mk.inj (Option.some.inj hx)
          exact same (by rw [feed_ok (by exact hb)])
        · rw [if_neg h0] at hx same
          by_cases hz : st.buf = []
          · rw [if_pos hz] at hx; cases hx
          · rw [if_neg hz] at hx
            obtain ⟨rfl, rfl⟩ := Prod.mk.inj (Option.some.inj hx)
            rw [if_neg (fun e => hz (List.append_eq_nil_iff.1 e).1)] at same
            by_cases hle : left ≤ st.buf.length
            · refine same ?_
              rw [feed_ok (by exact hb), List.take_append_of_le_length hle, List.drop_append_of_le_length hle]
            · -- what waits is told, and all of it is a part of what is told with more behind
              clear same
              have ht : st.buf.take left = st.buf := List.take_of_length_le (by omega)
              have hd0 : st.buf.drop left = [] := List.drop_of_length_le (by omega)
              rw [ht, hd0] at h1 h2
              obtain ⟨p, hp⟩ : ∃ p : Fst, p = { st with cur := some (k, a + st.buf.length, left - st.buf.length), buf := [] } := ⟨_, rfl⟩
              have hpn : nextF p = none := by
                rw [hp]; unfold nextF
                dsimp only
                rw [if_neg (by rw [hb]; exact Bool.false_ne_true), if_neg (by omega), if_pos rfl]
              have e1 : allF p = [] ∧ endF p = p := all_none hpn
              rw [← hp] at h1 h2
              rw [e1.1] at h1
              rw [e1.2] at h2
              have hpb : p.bad = false := by rw [hp]; exact hb
              -- the two ways on
              obtain ⟨q, hq⟩ : ∃ q : Fst, q = { st with cur := some (k, a + (st.buf.length + (x.take (left - st.buf.length)).length), left - (st.buf.length + (x.take (left - st.buf.length)).length)), buf := x.drop (left - st.buf.length) } := ⟨_, rfl⟩
              have hne : ¬ (st.buf ++ x = []) := fun e => hz (List.append_eq_nil_iff.1 e).1
              have htk : (st.buf ++ x).take left = st.buf ++ x.take (left - st.buf.length) := by rw [List.take_append, ht]
              have hdk : (st.buf ++ x).drop left = x.drop (left - st.buf.length) := by rw [List.drop_append, hd0, List.nil_append]
              have n1 : nextF { st with cur := some (k, a, left), buf := st.buf ++ x } = some (pieceE (maskN k a st.buf ++ maskN k (a + st.buf.length) (x.take (left - st.buf.length))), q) := by
                unfold nextF
                dsimp only
                rw [if_neg (by rw [hb]; exact Bool.false_ne_true), if_neg h0, if_neg hne, htk, hdk, mask_app, List.length_append, hq]
              have n2 : nextF (p.feed x) = some (pieceE (maskN k (a + st.buf.length) (x.take (left - st.buf.length))), q) := by
                rw [feed_ok hpb, hp]
                unfold nextF
                dsimp only
                rw [if_neg (by rw [hb]; exact Bool.false_ne_true), if_neg (by omega), List.nil_append, if_neg hxe, hq, Nat.add_assoc, Nat.sub_sub]
              obtain ⟨a1, a2⟩ := all_some n1
              obtain ⟨b1, b2⟩ := all_some n2
              unfold toldF
              rw [h2, a1, a2, b1, b2, h1]
              rw [List.foldl_cons, List.foldl_cons, List.foldl_cons, List.foldl_nil, merge_two]
              exact ⟨rfl, rfl⟩
theorem told_feed (st : Fst) (x : List UInt8) (l : List Ev) : toldF l (st.feed x) = toldF (toldF l st) ((endF st).feed x) ∧ endF (st.feed x) = endF ((endF st).feed x) := told_cut _ st (Nat.le_refl _) x l
theorem next_keeps {st st' : Fst} {e : Ev} (h : nextF st = some (e, st')) : st'.masked = st.masked := by
  unfold nextF at h
  split at h
  · cases h
  · split at h
    · split at h
      · cases h
      · split at h <;> (obtain ⟨_, rfl⟩ := Prod.mk.inj (Option.some.inj h); rfl)
    · split at h
      · obtain ⟨_, rfl⟩ := Prod.mk.inj (Option.some.inj h); rfl
      · split at h
        · cases h
        · obtain ⟨_, rfl⟩ := Prod.mk.inj (Option.some.inj h); rfl
end Go.Proofs.Ytlmolmmhkddpaaa
