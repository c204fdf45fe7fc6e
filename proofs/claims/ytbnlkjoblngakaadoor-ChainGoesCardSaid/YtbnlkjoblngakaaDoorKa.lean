/- Requests, replies, steps and handlers as values; what is asked of the package of chains. -/
import Derived.Test.YtbnlkjoblngakaaDoorKm1
import Derived.Test.YtbnlkjoblngakaaDoorFl
namespace Go.Proofs.YtbnlkjoblngakaaDoor
open Go.RowKit

structure Rq where
  m : Tx
  p : Tx
  q : Tx
  v : Int
  fs : Fds
  body : Tx
  cl : Bool
def rqC (r : Rq) (V : Value) : Array Value := #[S r.m, S r.p, S r.q, .int .i64 r.v, V, S r.body, .bool r.cl]
def rqV (r : Rq) (V : Value) : Value := .agg (rqC r V)
def rpC (c : Int) (V : Value) (body : Tx) : Array Value := #[.int .i64 c, V, S body]
def rpV (c : Int) (V : Value) (body : Tx) : Value := .agg (rpC c V body)
def stC (s : Stp) : Array Value := #[.int .i64 s.kind, S s.name, S s.val, .int .i64 s.n]
def stV (s : Stp) : Value := .agg (stC s)
/-- A handler that is none of nil: a function, and what it has captured. -/
def hV (g : Nat) (lb : Array Value) : Value := .func (.func g) #[] lb
def Entering (g : Nat) : Prop := ∀ args w, (callFunc g args).run Tryd.prog w = .ok (.enter g args) w
/-- A row of steps, wherever it lies. -/
structure StA (w : World) (V : Value) (l : List Stp) (b o : Nat) : Prop where
  len : ∀ T w', (Builtin.len_ #[22] T #[V]).run Tryd.prog w' = .ok (.int .i64 (l.length : Int)) w'
  index : ∀ i, i < l.length → ∀ w', (Instr.indexAt 22 V (.int .i64 (i : Int))).run Tryd.prog w' = .ok (.pointer (some ⟨b, o + i * 4, none⟩)) w'
  cell : ∀ i s, l[i]? = some s → ∀ j v, (stC s)[j]? = some v → w.cell? ⟨b, o + i * 4 + j, none⟩ = some v
  form : ∃ a c, V = .slice a l.length c ∧ l.length ≤ c ∧ (l ≠ [] → a = some ⟨b, o, none⟩)
theorem StA.below {w w' : World} {V : Value} {l : List Stp} {b o : Nat} (h : StA w V l b o) (hb : Below w.heap.size w w') : StA w' V l b o :=
  ⟨h.len, h.index, fun i s hs j v hv => by
    have h1 := h.cell i s hs j v hv
    rw [hb.cell (World.block_lt_of_cell? w _ h1)]; exact h1, h.form⟩
theorem StA.same {w w' : World} {V : Value} {l : List Stp} {b o : Nat} (h : StA w V l b o) (hb : l ≠ [] → w'.heap[b]? = w.heap[b]?) : StA w' V l b o :=
  ⟨h.len, h.index, fun i s hs j v hv => by
    have hne : l ≠ [] := fun e => by rw [e] at hs; simp at hs
    rw [World.cell?_of_block (w := w) (hb hne)]; exact h.cell i s hs j v hv, h.form⟩
/-- Steps and a request that statements go through. -/
def SmallS (l : List Stp) : Prop := l.length ≤ 12 ∧ ∀ s ∈ l, s.name.length ≤ 100 ∧ s.val.length ≤ 100
structure SmallR (r : Rq) : Prop where
  few : r.fs.length ≤ 40
  path : r.p.length ≤ 300
  body : r.body.length ≤ 3000
  each : ∀ f ∈ r.fs, f.1.length ≤ 200 ∧ f.2.length ≤ 200
/-- Nothing has turned but the blocks of N. -/
structure Rest (N : Nat → Prop) (w w' : World) : Prop where
  os : w'.os = w.os
  tape : w'.tape = w.tape
  output : w'.output = w.output
  size : w.heap.size ≤ w'.heap.size
  rest : ∀ k, k < w.heap.size → ¬ N k → w'.heap[k]? = w.heap[k]?
theorem Rest.of_below {N : Nat → Prop} {w w' : World} (h : Below w.heap.size w w') : Rest N w w' := ⟨h.os, h.tape, h.output, h.size, fun k hk _ => h.block k hk⟩
theorem Rest.trans {N N' : Nat → Prop} {w w' w'' : World} (h : Rest N w w') (k : Rest N' w' w'') : Rest (fun j => N j ∨ N' j) w w'' :=
  ⟨k.os.trans h.os, k.tape.trans h.tape, k.output.trans h.output, Nat.le_trans h.size k.size, fun j hj hn => (k.rest j (Nat.lt_of_lt_of_le hj h.size) fun e => hn (.inr e)).trans (h.rest j hj fun e => hn (.inl e))⟩
theorem Rest.mono {N N' : Nat → Prop} {w w' : World} (h : Rest N w w') (hn : ∀ k, k < w.heap.size → N k → N' k) : Rest N' w w' := ⟨h.os, h.tape, h.output, h.size, fun k hk h1 => h.rest k hk fun e => h1 (hn k hk e)⟩
theorem Rest.below {N : Nat → Prop} {w w' : World} {b : Nat} (h : Rest N w w') (hN : ∀ k, k < b → ¬ N k) (hb : b ≤ w.heap.size) : Below b w w' := ⟨h.os, h.tape, h.output, h.size, fun k hk => h.rest k (by omega) (hN k hk)⟩
/-- New fields of one's own. -/
def FO (base : Nat) (V : Value) (fs : Fds) (w : World) : Prop := w.ownsRow base 53 2 V fs.length (fcells fs)
/-- What comes of a request at a handler: the handler is asked in a world with new memory (of which the steps keep the blocks N for themselves), with fields of its own; behind it the steps turn nothing but N. -/
def AskedAt (wk w' : World) (gh : Nat) (lbh : Array Value) (W : World) (r : Rq) (p : Tx) (b : Nat) (l : List Stp) (Q : Ending → World → Prop) : Prop :=
  ∀ (N : Nat → Prop) (W1 : World) (V1 : Value), Below W.heap.size W W1 → (∀ k, N k → W.heap.size ≤ k ∧ k < W1.heap.size ∧ V1.ownBlock ≠ some k) → FO W.heap.size V1 r.fs W1 →
    Calls Tryd.prog gh (#[rqV { r with p := p } V1] ++ lbh) W1 fun e W2 => ∃ code Vx fx body bx ox, e = .returned (rpV code Vx body) ∧ FA W2 Vx fx bx ox ∧ fx.length ≤ 1000 ∧
      (fx = [] ∨ ¬ N bx) ∧ W1.heap.size ≤ W2.heap.size ∧ (∀ k, N k ∨ (wk.heap.size ≤ k ∧ k < w'.heap.size) ∨ (r.fs ≠ [] ∧ k = b) → W2.heap[k]? = W1.heap[k]?) ∧
      ∀ W3 V3, Rest N W2 W3 → FO W.heap.size V3 (fx ++ addsS r.fs l) W3 → Q (.returned (rpV code V3 body)) W3
/-- A function that stands around a handler, made between wk and w': what it does wherever its blocks are as they were made. -/
def DoesH (wk w' : World) (g : Nat) (lb : Array Value) (l : List Stp) (gh : Nat) (lbh : Array Value) : Prop :=
  ∀ (W : World), w'.heap.size ≤ W.heap.size → (∀ k, wk.heap.size ≤ k → k < w'.heap.size → W.heap[k]? = w'.heap[k]?) →
  ∀ (r : Rq) (V : Value) (b o : Nat), FA W V r.fs b o → SmallR r → ∀ (Q : Ending → World → Prop),
    (match (goS r.fs r.body l r.p).2.2 with
      | some x => ∀ W' V', Below W.heap.size W W' → FO W.heap.size V' (addsS r.fs (l.take (goS r.fs r.body l r.p).1)) W' → Q (.returned (rpV (x.1 : Int) V' x.2)) W'
      | none => AskedAt wk w' gh lbh W r (goS r.fs r.body l r.p).2.1 b l Q) →
    Calls Tryd.prog g (#[rqV r V] ++ lb) W Q
def wrapC (l : List Stp) : Nat := if 8 < l.length then 6 else if l.all rightS = true then 0 else 1
structure ChainI (w0 : World) : Prop where
  right : ∀ (s : Stp) (w : World), Below w0.heap.size w0 w → s.name.length ≤ 100 → s.val.length ≤ 100 → Calls Tryd.prog 12 #[stV s] w fun e w' => e = .returned (.bool (rightS s)) ∧ Below w.heap.size w w'
  none : ∀ (l : List Stp) (V : Value) (b o : Nat) (w : World), Below w0.heap.size w0 w → StA w V l b o → SmallS l →
    Calls Tryd.prog 14 #[V, .nilFunc] w fun e w' => e = .returned (.tuple #[.nilFunc, .int .i64 2]) ∧ Below w.heap.size w w'
  wrap : ∀ (l : List Stp) (V : Value) (b o : Nat) (gh : Nat) (lbh : Array Value) (w : World), Below w0.heap.size w0 w → StA w V l b o → SmallS l → Entering gh →
    Calls Tryd.prog 14 #[V, hV gh lbh] w fun e w' => Below w.heap.size w w' ∧
      ((wrapC l ≠ 0 ∧ e = .returned (.tuple #[.nilFunc, .int .i64 (wrapC l : Int)])) ∨ (wrapC l = 0 ∧ ∃ g lb, e = .returned (.tuple #[hV g lb, .int .i64 0]) ∧ Entering g ∧ DoesH w w' g lb l gh lbh))
theorem ChainI.up {w W : World} (C : ChainI w) (h : Below w.heap.size w W) : ChainI W :=
  ⟨fun s w' hb => C.right s w' (h.trans (hb.mono h.size)), fun l V b o w' hb => C.none l V b o w' (h.trans (hb.mono h.size)), fun l V b o gh lbh w' hb => C.wrap l V b o gh lbh w' (h.trans (hb.mono h.size))⟩
theorem FO.fa {base : Nat} {V : Value} {fs : Fds} {w : World} (h : FO base V fs w) : ∃ g, FA w V fs g 0 ∧ (fs = [] ∨ (base ≤ g ∧ g < w.heap.size)) := by
  obtain ⟨g, h1, h2⟩ := flds_at h
  exact ⟨g, h1.fa, h2⟩
end Go.Proofs.YtbnlkjoblngakaaDoor
