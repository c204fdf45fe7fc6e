/- A map of texts to pointers, as a function of texts. Over any program. -/
import Derived.Test.YtgoaljnfegaldaaDoorGen6
import Derived.Maps.OwnSet
namespace Go.Proofs.YtgoaljnfegaldaaDoor
open Go.RowKit Go.ChangeMaps

/-- How a pointer reads: as the number of its block. -/
def ptrR (v : Value) : Option (DataW Unit × List MemPlace) := match v with
  | .pointer (some ⟨b, 0, none⟩) => some (.lit (.int .i64 (b : Int)), [])
  | .pointer none => some (.lit (.int .i64 (-1)), [])
  | _ => none
def litO : Option Nat → DataW Unit
  | some b => .lit (.int .i64 (b : Int))
  | none => .lit (.int .i64 (-1))
def ptrO : Option Nat → Value
  | some b => .pointer (some ⟨b, 0, none⟩)
  | none => .pointer none
theorem ptrR_some (b : Nat) : ptrR (.pointer (some ⟨b, 0, none⟩)) = some (litO (some b), []) := rfl
theorem ptrR_none : ptrR (.pointer none) = some (litO none, []) := rfl
theorem ptr_inv {v : Value} {o : Option Nat} {ps : List MemPlace} (h : ptrR v = some (litO o, ps)) : v = ptrO o := by
  unfold ptrR at h
  split at h
  · rename_i b
    cases o with
    | none =>
      simp only [litO, Option.some.injEq, Prod.mk.injEq, DataW.lit.injEq, Lit.int.injEq, true_and] at h
      have := h.1
      omega
    | some c =>
      simp only [litO, Option.some.injEq, Prod.mk.injEq, DataW.lit.injEq, Lit.int.injEq, true_and] at h
      have : b = c := by have := h.1; omega
      rw [this]; rfl
  · cases o with
    | none => rfl
    | some c =>
      simp only [litO, Option.some.injEq, Prod.mk.injEq, DataW.lit.injEq, Lit.int.injEq, true_and] at h
      have := h.1
      omega
  · cases h
def updF (f : List UInt8 → Option Nat) (s : List UInt8) (g : Nat) : List UInt8 → Option Nat := fun x => if x = s then some g else f x
/-- Block b is a map of at most n texts, f of them. -/
def PMap (P : Program) (k : TypeId) (w : World) (b n : Nat) (f : List UInt8 → Option Nat) : Prop :=
  ∃ D : DataW Unit, w.ownsMap P k ptrR b n D ∧ ∀ s : List UInt8, s.length ≤ 1000000 → D.atKey (.string s) (litO none) = litO (f s) ∧ Maps.has D (.string s) = (f s).isSome
section
variable {P : Program} {k t e : TypeId} {w w' : World} {b n : Nat} {f : List UInt8 → Option Nat}
theorem PMap.lt (h : PMap P k w b n f) : b < w.heap.size := by
  obtain ⟨D, h1, _⟩ := h
  exact h1.lt
theorem PMap.mono (h : PMap P k w b n f) {m : Nat} (hm : n ≤ m) : PMap P k w b m f := by
  obtain ⟨D, h1, h2⟩ := h
  exact ⟨D, h1.mono hm, h2⟩
theorem PMap.same (h : PMap P k w b n f) (hb : w'.heap[b]? = w.heap[b]?) : PMap P k w' b n f := by
  obtain ⟨D, ⟨es, clock, h1, h2⟩, h3⟩ := h
  exact ⟨D, ⟨es, clock, hb.trans h1, h2⟩, h3⟩
theorem PMap.below (h : PMap P k w b n f) (hb : Below w.heap.size w w') : PMap P k w' b n f := h.same (hb.block b h.lt)
theorem PMap.grown {row : Option Nat} (h : PMap P k w b n f) (hg : w.grownBy w' row) (hne : some b ≠ row) : PMap P k w' b n f := h.same (hg.block b h.lt hne)
theorem pmap_made (w : World) : PMap P k (w.alloc (.map #[] 0)) w.heap.size 0 (fun _ => none) :=
  ⟨_, World.ownsMap_made w P k ptrR, fun _ _ => ⟨rfl, rfl⟩⟩
theorem key_S (hk : P.underlying k = some .string) {s : List UInt8} (hs : s.length ≤ 1000000) : keyOf P k (S s) = some (.string s) := by
  have := Go.WideMaps.keyOf_string_mk (P := P) hk (s := ⟨s.toArray⟩) (by rw [S_size]; simp only [maxLen]; omega)
  exact this
variable (hk : P.underlying k = some .string) (ht : P.underlying t = some (.map k e)) (hz : ∀ w, (zeroValue e).run P w = .ok (.pointer none) w)
include hk ht hz
theorem PMap.lookup (h : PMap P k w b n f) {s : List UInt8} (hs : s.length ≤ 1000000) : (Instr.lookup t (.map (some b)) (S s) false).run P w = .ok (ptrO (f s)) w := by
  obtain ⟨D, h1, h2⟩ := h
  obtain ⟨v, ps, hrun, hv⟩ := h1.lookup (Go.Maps.string_keyed hk) ht (hz w) ptrR_none (key_S hk hs)
  rw [(h2 s hs).1] at hv
  rw [hrun, ptr_inv hv]
theorem PMap.look_ok (h : PMap P k w b n f) {s : List UInt8} (hs : s.length ≤ 1000000) : (Instr.lookup t (.map (some b)) (S s) true).run P w = .ok (.tuple #[ptrO (f s), .bool (f s).isSome]) w := by
  obtain ⟨D, h1, h2⟩ := h
  obtain ⟨v, ps, hrun, hv⟩ := h1.look_ok (Go.Maps.string_keyed hk) ht (hz w) ptrR_none (key_S hk hs)
  rw [(h2 s hs).1] at hv
  rw [hrun, ptr_inv hv, (h2 s hs).2]
theorem nil_lookup {s : List UInt8} (hs : s.length ≤ 1000000) (w : World) : (Instr.lookup t (.map none) (S s) false).run P w = .ok (.pointer none) w := Maps.look_nil false (Go.Maps.string_keyed hk) ht (hz w) (key_S hk hs)
theorem nil_look_ok {s : List UInt8} (hs : s.length ≤ 1000000) (w : World) : (Instr.lookup t (.map none) (S s) true).run P w = .ok (.tuple #[.pointer none, .bool false]) w := Maps.look_nil true (Go.Maps.string_keyed hk) ht (hz w) (key_S hk hs)
omit hz in
theorem PMap.update (h : PMap P k w b n f) (hn : n < 1000000) {s : List UInt8} (hs : s.length ≤ 1000000) (g : Nat) :
    ∃ w', (Instr.mapUpdate t (.map (some b)) (S s) (.pointer (some ⟨g, 0, none⟩))).run P w = .ok () w' ∧ PMap P k w' b (n + 1) (updF f s g) ∧ w.grownBy w' (some b) := by
  obtain ⟨D, h1, h2⟩ := h
  obtain ⟨w', hrun, h3, h4⟩ := h1.update (Go.Maps.string_keyed hk) ht (by simp only [maxLen]; omega) (key_S hk hs) (ptrR_some g)
  refine ⟨w', hrun, ⟨_, h3, fun x hx => ?_⟩, h4⟩
  unfold updF
  by_cases he : x = s
  · subst he
    rw [if_pos rfl, Maps.atKey_put_same h1.isMap (k := .string x) trivial, Maps.has_put_same h1.isMap (k := .string x) trivial]
    exact ⟨rfl, rfl⟩
  · rw [if_neg he, Maps.atKey_put_other (fun e => he (by injection e)), Maps.has_put_other (fun e => he (by injection e))]
    exact h2 x hx
omit hz in
/-- m[s] = p, at the operation. -/
theorem wpList_putP {ops : Array Oper} {rest : List Oper} {o : Oper} {a : Act} {Q : Exit → Act → World → Prop} (hg : o.guard = none) (m x v : Operand) (hop : o.op = Op.mapUpdate t m x v) (hm : a.eval m = .map (some b)) (h : PMap P k w b n f) (hn : n < 1000000)
    (s : List UInt8) (hx : a.eval x = S s) (hs : s.length ≤ 1000000) (g : Nat) (hv : a.eval v = .pointer (some ⟨g, 0, none⟩))
    (hK : ∀ w', PMap P k w' b (n + 1) (updF f s g) → w.grownBy w' (some b) → wpList P ops Q rest (a.put o.dst undef) w') : wpList P ops Q (o :: rest) a w := by
  refine wpList_plain hg fun K' hK' => ?_
  obtain ⟨w', hrun, r1, r2⟩ := h.update hk ht hn hs g
  unfold Oper.wp
  simp [execOp, hop, hm, hx, hv, hrun, Result.andThen]
  exact hK' _ _ (hK w' r1 r2)
end
end Go.Proofs.YtgoaljnfegaldaaDoor
