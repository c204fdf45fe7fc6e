/- What is asked of the package of paths. -/
import Derived.Test.YtmklgjbfdaleiaaDoorAm1
import Derived.Test.YtmklgjbfdaleiaaDoorTr
namespace Go.Proofs.YtmklgjbfdaleiaaDoor
open Go.RowKit

/-- What Split hands back. -/
def SplitV (o : Option (List (List UInt8))) (w : World) (e : Ending) (w' : World) : Prop :=
  ∃ V, e = .returned (.tuple #[V, .bool o.isSome]) ∧ Own w.heap.size V ((o.getD []).map S) w' ∧ Below w.heap.size w w'
def joinV (o : Option (List UInt8)) : Value := match o with
  | none => .tuple #[S [], .bool false]
  | some s => .tuple #[S s, .bool true]
structure PathI (w0 : World) : Prop where
  split : ∀ (s : List UInt8) (w : World), Below w0.heap.size w0 w → s.length ≤ 100000 → Calls Tryd.prog 9 #[S s] w (SplitV (splitF s) w)
  join : ∀ (l : List (List UInt8)) (V : Value) (b o : Nat) (w : World), Below w0.heap.size w0 w → TA w V l b o → l.length ≤ 10000 → sumL l ≤ 100000 →
    Calls Tryd.prog 10 #[V] w fun e w' => e = .returned (joinV (joinF l)) ∧ Below w.heap.size w w'
theorem PathI.up {w W : World} (C : PathI w) (h : Below w.heap.size w W) : PathI W where
  split := fun s w' h' => C.split s w' (h.trans (h'.mono h.size))
  join := fun l V b o w' h' => C.join l V b o w' (h.trans (h'.mono h.size))
/-- line.Target, for what is joined. -/
def TargetI : Prop := ∀ (s : List UInt8) (w : World), s.length ≤ 100000 → Calls Tryd.prog 15 #[S s] w fun e w' => e = .returned (targetV (targetF s)) ∧ Below w.heap.size w w'
end Go.Proofs.YtmklgjbfdaleiaaDoor
