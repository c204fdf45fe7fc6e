/- A map of texts to numbers, as a function of texts. Over any program. -/
import Derived.Test.YtnaekjmlikhglaaDoorGen9
import Derived.Maps.OwnSet
namespace Go.Proofs.YtnaekjmlikhglaaDoor
open Go.RowKit Go.ChangeMaps

/-- How a number reads. -/
def numR (v : Value) : Option (DataW Unit × List MemPlace) := match v with
  | .int .i64 c => some (.lit (.int .i64 c), [])
  | _ => none
def litN (c : Nat) : DataW Unit := .lit (.int .i64 (c : Int))
theorem numR_of (c : Nat) : numR (.int .i64 (c : Int)) = some (litN c, []) := rfl
theorem num_inv {v : Value} {c : Nat} {ps : List MemPlace} (h : numR v = some (litN c, ps)) : v = .int .i64 (c : Int) := by
  unfold numR at h
  split at h
  · simp only [litN, Option.some.injEq, Prod.mk.injEq, DataW.lit.injEq, Lit.int.injEq, true_and] at h
    rw [h.1]
  · cases h
def setN (f : List UInt8 → Nat) (s : List UInt8) (g : Nat) : List UInt8 → Nat := fun x => if x = s then g else f x
/-- Block b is a map of at most n texts, f of them. -/
def IMap (P : Program) (k : TypeId) (w : World) (b n : Nat) (f : List UInt8 → Nat) : Prop :=
  ∃ D : DataW Unit, w.ownsMap P k numR b n D ∧ ∀ s : List UInt8, s.length ≤ 1000000 → D.atKey (.string s) (litN 0) = litN (f s)
section
variable {P : Program} {k t e : TypeId} {w w' : World} {b n : Nat} {f : List UInt8 → Nat}
theorem IMap.lt (h : IMap P k w b n f) : b < w.heap.size := by
  obtain ⟨D, h1, _⟩ := h
  exact h1.lt
theorem IMap.same (h : IMap P k w b n f) (hb : w'.heap[b]? = w.heap[b]?) : IMap P k w' b n f := by
  obtain ⟨D, ⟨es, clock, h1, h2⟩, h3⟩ := h
  exact ⟨D, ⟨es, clock, hb.trans h1, h2⟩, h3⟩
theorem IMap.below (h : IMap P k w b n f) (hb : Below w.heap.size w w') : IMap P k w' b n f := h.same (hb.block b h.lt)
theorem IMap.to (h : IMap P k w b n f) {g : List UInt8 → Nat} (hg : ∀ s, g s = f s) : IMap P k w b n g := by
  obtain ⟨D, h1, h2⟩ := h
  exact ⟨D, h1, fun s hs => by rw [hg]; exact h2 s hs⟩
theorem imap_made (w : World) : IMap P k (w.alloc (.map #[] 0)) w.heap.size 0 (fun _ => 0) :=
  ⟨_, World.ownsMap_made w P k numR, fun _ _ => rfl⟩
theorem ikey_S (hk : P.underlying k = some .string) {s : List UInt8} (hs : s.length ≤ 1000000) : keyOf P k (S s) = some (.string s) := by
  have := Go.WideMaps.keyOf_string_mk (P := P) hk (s := ⟨s.toArray⟩) (by rw [S_size]; simp only [maxLen]; omega)
  exact this
variable (hk : P.underlying k = some .string) (ht : P.underlying t = some (.map k e)) (hz : ∀ w, (zeroValue e).run P w = .ok (.int .i64 0) w)
include hk ht hz
theorem IMap.lookup (h : IMap P k w b n f) {s : List UInt8} (hs : s.length ≤ 1000000) : (Instr.lookup t (.map (some b)) (S s) false).run P w = .ok (.int .i64 (f s : Int)) w := by
  obtain ⟨D, h1, h2⟩ := h
  obtain ⟨v, ps, hrun, hv⟩ := h1.lookup (Go.Maps.string_keyed hk) ht (hz w) (numR_of 0) (ikey_S hk hs)
  rw [h2 s hs] at hv
  rw [hrun, num_inv hv]
omit hz in
theorem IMap.update (h : IMap P k w b n f) (hn : n < 1000000) {s : List UInt8} (hs : s.length ≤ 1000000) (g : Nat) :
    ∃ w', (Instr.mapUpdate t (.map (some b)) (S s) (.int .i64 (g : Int))).run P w = .ok () w' ∧ IMap P k w' b (n + 1) (setN f s g) ∧ w.grownBy w' (some b) := by
  obtain ⟨D, h1, h2⟩ := h
  obtain ⟨w', hrun, h3, h4⟩ := h1.update (Go.Maps.string_keyed hk) ht (by simp only [maxLen]; omega) (ikey_S hk hs) (numR_of g)
  refine ⟨w', hrun, ⟨_, h3, fun x hx => ?_⟩, h4⟩
  unfold setN
  by_cases he : x = s
  · subst he
    rw [if_pos rfl, Maps.atKey_put_same h1.isMap (k := .string x) trivial]
  · rw [if_neg he, Maps.atKey_put_other (fun e => he (by injection e))]
    exact h2 x hx
variable {ops : Array Oper} {rest : List Oper} {o : Oper} {a : Act} {Q : Exit → Act → World → Prop}
/-- m[s], at the operation. -/
theorem wpList_lookI (hg : o.guard = none) (m x : Operand) (hop : o.op = Op.lookup t m x false) (hm : a.eval m = .map (some b)) (h : IMap P k w b n f)
    (s : List UInt8) (hx : a.eval x = S s) (hs : s.length ≤ 1000000) (hK : wpList P ops Q rest (a.put o.dst (.int .i64 (f s : Int))) w) : wpList P ops Q (o :: rest) a w := by
  refine wpList_plain hg fun K' hK' => ?_
  have hrun := h.lookup hk ht hz hs
  unfold Oper.wp
  simp [execOp, hop, hm, hx, hrun, Result.andThen]
  exact hK' _ _ hK
omit hz in
/-- m[s] = c, at the operation. -/
theorem wpList_putI (hg : o.guard = none) (m x v : Operand) (hop : o.op = Op.mapUpdate t m x v) (hm : a.eval m = .map (some b)) (h : IMap P k w b n f) (hn : n < 1000000)
    (s : List UInt8) (hx : a.eval x = S s) (hs : s.length ≤ 1000000) (g : Nat) (hv : a.eval v = .int .i64 (g : Int))
    (hK : ∀ w', IMap P k w' b (n + 1) (setN f s g) → w.grownBy w' (some b) → wpList P ops Q rest (a.put o.dst undef) w') : wpList P ops Q (o :: rest) a w := by
  refine wpList_plain hg fun K' hK' => ?_
  obtain ⟨w', hrun, r1, r2⟩ := h.update hk ht hn hs g
  unfold Oper.wp
  simp [execOp, hop, hm, hx, hv, hrun, Result.andThen]
  exact hK' _ _ (hK w' r1 r2)
end
end Go.Proofs.YtnaekjmlikhglaaDoor
