/- Bodies in chunks, byte by byte: a reader as an automaton; what is said of one that is fed in pieces. -/
import Derived.Test.YtocekbfnefajhaaDoorQm
namespace Go.Proofs.YtocekbfnefajhaaDoor
open Go.RowKit

/-- A digit of 16; what it counts. -/
def hexN (c : UInt8) : Option Nat :=
  if 48 ≤ c.toNat ∧ c.toNat ≤ 57 then some (c.toNat - 48)
  else if 97 ≤ c.toNat ∧ c.toNat ≤ 102 then some (c.toNat - 87)
  else if 65 ≤ c.toNat ∧ c.toNat ≤ 70 then some (c.toNat - 55) else none
/-- A head's size: n digits were read, x is what they say. -/
def sizeGo : Nat → Nat → List UInt8 → Option Nat
  | n, x, [] => if n = 0 then none else some x
  | n, x, c :: r => if c = 59 then (if n = 0 then none else if r.any badB then none else some x)
    else match hexN c with
      | none => none
      | some d => if 8 ≤ n then none else sizeGo (n + 1) (16 * x + d) r
def sizeF (s : List UInt8) : Option Nat := sizeGo 0 0 s

/-- What is read next. -/
inductive Ph where
  | head (cur : List UInt8)
  | body (n : Nat)
  | cr
  | lf
  | tail (cur : List UInt8) (k f : Nat)
  | done
  | bad (code : Nat)
deriving DecidableEq
structure Cst where
  ph : Ph
  data : List UInt8
def Cst.new : Cst := ⟨.head [], []⟩
def Cst.stop (st : Cst) : Bool := match st.ph with
  | .done => true
  | .bad _ => true
  | _ => false
def Cst.isDone (st : Cst) : Bool := match st.ph with
  | .done => true
  | _ => false
def Cst.badN (st : Cst) : Nat := match st.ph with
  | .bad c => c
  | _ => 0
def endCR (l : List UInt8) : Bool := l.getLast? == some 13
/-- Behind a whole head. -/
def headF (text data : List UInt8) : Ph := match sizeF text with
  | none => .bad 400
  | some n => if 4096 < data.length + n then .bad 413 else if n = 0 then .tail [] 0 0 else .body n
/-- Behind a whole trailer's line. -/
def tailF (text : List UInt8) (k f : Nat) : Ph :=
  if text = [] then .done else if (parseF text).2.2 = false then .bad 400 else if f = 32 then .bad 431 else .tail [] k (f + 1)
def Cst.step (st : Cst) (c : UInt8) : Cst := match st.ph with
  | .head cur => if endCR cur ≠ (c == 10) then ⟨.bad 400, st.data⟩ else if endCR cur = true then ⟨headF cur.dropLast st.data, st.data⟩
    else if 2048 ≤ cur.length then ⟨.bad 431, st.data⟩ else ⟨.head (cur ++ [c]), st.data⟩
  | .body n => ⟨if n ≤ 1 then .cr else .body (n - 1), st.data ++ [c]⟩
  | .cr => ⟨if c = 13 then .lf else .bad 400, st.data⟩
  | .lf => ⟨if c = 10 then .head [] else .bad 400, st.data⟩
  | .tail cur k f => if 2048 ≤ k then ⟨.bad 431, st.data⟩ else if endCR cur ≠ (c == 10) then ⟨.bad 400, st.data⟩ else if endCR cur = true then ⟨tailF cur.dropLast (k + 1) f, st.data⟩
    else ⟨.tail (cur ++ [c]) (k + 1) f, st.data⟩
  | .done => st
  | .bad _ => st
/-- Fed: how many bytes are read, and how it stands then. -/
def Cst.run : Cst → List UInt8 → Nat × Cst
  | st, [] => (0, st)
  | st, c :: r => if st.stop = true then (0, st) else (((st.step c).run r).1 + 1, ((st.step c).run r).2)
theorem run_stop {st : Cst} (h : st.stop = true) (s : List UInt8) : st.run s = (0, st) := by
  cases s with
  | nil => rfl
  | cons c r => rw [Cst.run, if_pos h]
theorem run_cons {st : Cst} (h : st.stop = false) (c : UInt8) (r : List UInt8) : st.run (c :: r) = (((st.step c).run r).1 + 1, ((st.step c).run r).2) := by
  rw [Cst.run, if_neg (by rw [h]; exact Bool.false_ne_true)]
theorem run_append : ∀ (a : List UInt8) (st : Cst) (b : List UInt8), st.run (a ++ b) = ((st.run a).1 + ((st.run a).2.run b).1, ((st.run a).2.run b).2)
  | [], st, b => by simp [Cst.run]
  | c :: a, st, b => by
    cases h : st.stop with
    | true =>
      rw [run_stop h, run_stop h]
      show (0, st) = (0 + (st.run b).1, (st.run b).2)
      rw [run_stop h]; rfl
    | false =>
      rw [List.cons_append, run_cons h, run_cons h, run_append a (st.step c) b]
      simp only [Prod.mk.injEq, and_true]
      omega
theorem run_le : ∀ (s : List UInt8) (st : Cst), (st.run s).1 ≤ s.length
  | [], st => by simp [Cst.run]
  | c :: s, st => by
    cases h : st.stop with
    | true => rw [run_stop h]; simp
    | false =>
      rw [run_cons h, List.length_cons]
      have := run_le s (st.step c)
      show ((st.step c).run s).1 + 1 ≤ _
      omega
/-- What was not read stands behind the end, or what is wrong. -/
theorem run_lt : ∀ (s : List UInt8) (st : Cst), (st.run s).1 < s.length → (st.run s).2.stop = true
  | [], st, h => by simp [Cst.run] at h
  | c :: s, st, h => by
    cases hs : st.stop with
    | true => rw [run_stop hs]; exact hs
    | false =>
      rw [run_cons hs] at h ⊢
      refine run_lt s (st.step c) ?_
      simp only [List.length_cons] at h
      omega
theorem stop_cases {st : Cst} (h : st.stop = true) : (st.isDone = true ∧ st.badN = 0) ∨ st.isDone = false := by
  obtain ⟨ph, d⟩ := st
  cases ph <;> simp [Cst.isDone, Cst.badN] at *
theorem done_bad (st : Cst) : st.isDone = true → st.badN = 0 := by
  obtain ⟨ph, d⟩ := st
  cases ph <;> simp [Cst.isDone, Cst.badN]
/-- The codes that are told of what is wrong. -/
theorem headF_ok (t d : List UInt8) : ∀ c, headF t d = .bad c → c ≠ 0 := by
  intro c h
  unfold headF at h
  split at h
  · cases h; decide
  · split at h
    · cases h; decide
    · split at h <;> cases h
theorem tailF_ok (t : List UInt8) (k f : Nat) : ∀ c, tailF t k f = .bad c → c ≠ 0 := by
  intro c h
  unfold tailF at h
  split at h
  · cases h
  · split at h
    · cases h; decide
    · split at h
      · cases h; decide
      · cases h
def Cst.fine (st : Cst) : Prop := ∀ c, st.ph = .bad c → c ≠ 0
theorem step_fine (st : Cst) (c : UInt8) (h : st.fine) : (st.step c).fine := by
  obtain ⟨ph, d⟩ := st
  unfold Cst.step
  cases ph with
  | head cur =>
    dsimp only
    split
    · intro e he; cases he; decide
    · split
      · exact headF_ok _ _
      · split
        · intro e he; cases he; decide
        · intro e he; cases he
  | body n => dsimp only; split <;> intro e he <;> cases he
  | cr =>
    dsimp only
    split
    · intro e he; cases he
    · intro e he; cases he; decide
  | lf =>
    dsimp only
    split
    · intro e he; cases he
    · intro e he; cases he; decide
  | tail cur k f =>
    dsimp only
    split
    · intro e he; cases he; decide
    · split
      · intro e he; cases he; decide
      · split
        · exact tailF_ok _ _ _
        · intro e he; cases he
  | done => exact h
  | bad e => exact h
theorem run_fine : ∀ (s : List UInt8) (st : Cst), st.fine → (st.run s).2.fine
  | [], st, h => h
  | c :: s, st, h => by
    cases hs : st.stop with
    | true => rw [run_stop hs]; exact h
    | false => rw [run_cons hs]; exact run_fine s _ (step_fine st c h)
theorem new_fine : Cst.new.fine := by intro c h; cases h
/-- Stopped: done, or something is wrong. -/
theorem stop_iff {st : Cst} (h : st.fine) : st.stop = true ↔ (st.isDone = true ∨ st.badN ≠ 0) := by
  obtain ⟨ph, d⟩ := st
  cases ph with
  | bad c => simp [Cst.stop, Cst.isDone, Cst.badN]; exact h c rfl
  | _ => simp [Cst.stop, Cst.isDone, Cst.badN]
/-! The data: they only grow, no more than may be, and stand in what was fed. -/
theorem step_data (st : Cst) (c : UInt8) : (st.step c).data = st.data ∨ (st.step c).data = st.data ++ [c] := by
  obtain ⟨ph, d⟩ := st
  unfold Cst.step
  cases ph with
  | body n => exact .inr rfl
  | head cur => dsimp only; repeat' split
                all_goals exact .inl rfl
  | tail cur k f => dsimp only; repeat' split
                    all_goals exact .inl rfl
  | cr => exact .inl rfl
  | lf => exact .inl rfl
  | done => exact .inl rfl
  | bad e => exact .inl rfl
theorem run_data : ∀ (s : List UInt8) (st : Cst), ∃ d, (st.run s).2.data = st.data ++ d ∧ d.Sublist s
  | [], st => ⟨[], by simp [Cst.run], List.Sublist.refl _⟩
  | c :: s, st => by
    cases hs : st.stop with
    | true => rw [run_stop hs]; exact ⟨[], by simp, List.nil_sublist _⟩
    | false =>
      rw [run_cons hs]
      obtain ⟨d, h1, h2⟩ := run_data s (st.step c)
      rcases step_data st c with h | h
      · exact ⟨d, by rw [h1, h], h2.cons _⟩
      · exact ⟨c :: d, by rw [h1, h, List.append_assoc]; rfl, h2.cons_cons _⟩
/-- No more than may be. -/
def Cst.room (st : Cst) : Prop := match st.ph with
  | .body n => st.data.length + n ≤ 4096 ∧ 1 ≤ n
  | _ => st.data.length ≤ 4096
theorem step_room (st : Cst) (c : UInt8) (h : st.room) : (st.step c).room := by
  obtain ⟨ph, d⟩ := st
  unfold Cst.room at h
  unfold Cst.step
  cases ph with
  | head cur =>
    dsimp only at h ⊢
    split
    · exact h
    · split
      · unfold headF
        split
        · exact h
        · split
          · exact h
          · split
            · exact h
            · unfold Cst.room; dsimp only; omega
      · split
        · exact h
        · exact h
  | body n =>
    dsimp only at h ⊢
    split
    · unfold Cst.room; dsimp only; rw [List.length_append, List.length_singleton]; omega
    · unfold Cst.room; dsimp only; rw [List.length_append, List.length_singleton]; omega
  | cr => dsimp only at h ⊢; split <;> exact h
  | lf => dsimp only at h ⊢; split <;> exact h
  | tail cur k f =>
    dsimp only at h ⊢
    split
    · exact h
    · split
      · exact h
      · split
        · unfold tailF
          repeat' split
          all_goals exact h
        · exact h
  | done => exact h
  | bad e => exact h
theorem room_le {st : Cst} (h : st.room) : st.data.length ≤ 4096 := by
  obtain ⟨ph, d⟩ := st
  unfold Cst.room at h
  cases ph <;> dsimp only at h ⊢ <;> omega
theorem run_room : ∀ (s : List UInt8) (st : Cst), st.room → (st.run s).2.room
  | [], st, h => h
  | c :: s, st, h => by
    cases hs : st.stop with
    | true => rw [run_stop hs]; exact h
    | false => rw [run_cons hs]; exact run_room s _ (step_room st c h)
theorem new_room : Cst.new.room := by show (0 : Nat) ≤ 4096; omega
end Go.Proofs.YtocekbfnefajhaaDoor
