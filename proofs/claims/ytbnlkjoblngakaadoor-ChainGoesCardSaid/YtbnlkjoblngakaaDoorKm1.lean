/- Steps as list functions: which are right, how a request goes through them, how a reply comes back. -/
import Derived.Test.YtbnlkjoblngakaaDoorQm
namespace Go.Proofs.YtbnlkjoblngakaaDoor
open Go.RowKit

abbrev Tx := List UInt8
abbrev Fds := List (Tx × Tx)
structure Stp where
  kind : Int
  name : Tx
  val : Tx
  n : Int
/-- May it be a value? -/
def plainV (s : Tx) : Bool := s.all (fun c => !badB c) && (s == bareF s)
def ownNames : List Tx := [[97, 108, 108, 111, 119], [99, 111, 110, 110, 101, 99, 116, 105, 111, 110], [99, 111, 110, 116, 101, 110, 116, 45, 108, 101, 110, 103, 116, 104], [115, 101, 99, 45, 119, 101, 98, 115, 111, 99, 107, 101, 116, 45, 97, 99, 99, 101, 112, 116], [115, 101, 99, 45, 119, 101, 98, 115, 111, 99, 107, 101, 116, 45, 118, 101, 114, 115, 105, 111, 110], [116, 114, 97, 110, 115, 102, 101, 114, 45, 101, 110, 99, 111, 100, 105, 110, 103], [117, 112, 103, 114, 97, 100, 101]]
/-- One of the names that no step's field has. -/
def ownN (s : Tx) : Bool := ownNames.contains (s.map lowB)
def rightS (s : Stp) : Bool :=
  if s.kind = 1 then tokF s.name && plainV s.val && !ownN s.name && s.n == 0
  else if s.kind = 2 then tokF s.name && s.n == 0
  else if s.kind = 3 then decide (0 ≤ s.n) && s.name == [] && s.val == []
  else if s.kind = 4 then decide (2 ≤ s.val.length) && s.val[0]? == some 47 && s.val[s.val.length - 1]? != some 47 && s.name == [] && s.n == 0
  else if s.kind = 5 then tokF s.name && tokF s.val && !ownN s.val && s.n == 0
  else false
/-- A request's first value of a name. -/
def firstF (fs : Fds) (name : Tx) : Option Tx := (fs.find? fun f => alikeF f.1 name).map (·.2)
/-- One step: the path as it is then, or what refuses. -/
def stepS (fs : Fds) (body : Tx) (s : Stp) (p : Tx) : Tx ⊕ (Nat × Tx) :=
  if s.kind = 2 then match firstF fs s.name with
    | none => .inr (403, [102, 111, 114, 98, 105, 100, 100, 101, 110])
    | some v => if s.val ≠ [] ∧ v ≠ s.val then .inr (403, [102, 111, 114, 98, 105, 100, 100, 101, 110]) else .inl p
  else if s.kind = 3 then if s.n < (body.length : Int) then .inr (413, [116, 111, 111, 32, 108, 111, 110, 103]) else .inl p
  else if s.kind = 4 then
    if p = s.val then .inl [47]
    else if s.val.length < p.length ∧ p.take s.val.length = s.val ∧ p[s.val.length]? = some 47 then .inl (p.drop s.val.length)
    else .inr (404, [110, 111, 116, 32, 102, 111, 117, 110, 100])
  else .inl p
/-- All steps: how many it passed, the path as it is then, and what refuses, if one does. -/
def goS (fs : Fds) (body : Tx) : List Stp → Tx → Nat × Tx × Option (Nat × Tx)
  | [], p => (0, p, none)
  | s :: l, p => match stepS fs body s p with
    | .inr x => (0, p, some x)
    | .inl q => ((goS fs body l q).1 + 1, (goS fs body l q).2)
def addS (fs : Fds) (s : Stp) : Fds := if s.kind = 1 then [(s.name, s.val)] else if s.kind = 5 then [(s.val, (firstF fs s.name).getD [45])] else []
/-- The fields that a reply gets on its way out of these. -/
def addsS (fs : Fds) (l : List Stp) : Fds := l.reverse.flatMap (addS fs)
theorem adds_cons (fs : Fds) (s : Stp) (l : List Stp) : addsS fs (s :: l) = addsS fs l ++ addS fs s := by
  unfold addsS; rw [List.reverse_cons, List.flatMap_append]; simp
theorem adds_append (fs : Fds) (a b : List Stp) : addsS fs (a ++ b) = addsS fs b ++ addsS fs a := by
  unfold addsS; rw [List.reverse_append, List.flatMap_append]
theorem go_le (fs : Fds) (body : Tx) : ∀ (l : List Stp) (p : Tx), (goS fs body l p).1 ≤ l.length
  | [], _ => Nat.le_refl _
  | s :: l, p => by
    rw [goS]
    split
    · exact Nat.zero_le _
    · have := go_le fs body l (by assumption)
      simp only [List.length_cons]; omega
theorem go_all (fs : Fds) (body : Tx) : ∀ (l : List Stp) (p : Tx), ((goS fs body l p).1 = l.length ↔ (goS fs body l p).2.2 = none)
  | [], _ => by simp [goS]
  | s :: l, p => by
    rw [goS]
    split
    · simp
    · rename_i q _
      have := go_all fs body l q
      simp only [List.length_cons, Nat.add_right_cancel_iff]
      exact this
/-- One behind the other. -/
theorem go_append (fs : Fds) (body : Tx) : ∀ (a b : List Stp) (p : Tx), goS fs body (a ++ b) p = match (goS fs body a p).2.2 with
    | some _ => goS fs body a p
    | none => (a.length + (goS fs body b (goS fs body a p).2.1).1, (goS fs body b (goS fs body a p).2.1).2)
  | [], b, p => by simp [goS]
  | s :: a, b, p => by
    rw [List.cons_append, goS, goS]
    split
    · rfl
    · rename_i q _
      rw [go_append fs body a b q]
      dsimp only
      cases h : (goS fs body a q).2.2 with
      | some x => simp
      | none =>
        simp only [List.length_cons]
        rw [show a.length + (goS fs body b (goS fs body a q).2.1).1 + 1 = a.length + 1 + (goS fs body b (goS fs body a q).2.1).1 by omega]
end Go.Proofs.YtbnlkjoblngakaaDoor
