/- A map of texts to nothing, as a set of texts. Over any program. -/
import Derived.Test.YtgoaljnfegaldaaDoorMp
namespace Go.Proofs.YtgoaljnfegaldaaDoor
open Go.RowKit Go.ChangeMaps

def addF (f : List UInt8 → Bool) (s : List UInt8) : List UInt8 → Bool := fun x => if x = s then true else f x
/-- Block b is a set of at most n texts, f of them. -/
def SMap (P : Program) (k : TypeId) (w : World) (b n : Nat) (f : List UInt8 → Bool) : Prop :=
  ∃ D : DataW Unit, w.ownsMap P k unitElem b n D ∧ ∀ s : List UInt8, s.length ≤ 1000000 → Maps.has D (.string s) = f s
section
variable {P : Program} {k t e : TypeId} {w w' : World} {b n : Nat} {f : List UInt8 → Bool}
theorem SMap.lt (h : SMap P k w b n f) : b < w.heap.size := by
  obtain ⟨D, h1, _⟩ := h
  exact h1.lt
theorem SMap.mono (h : SMap P k w b n f) {m : Nat} (hm : n ≤ m) : SMap P k w b m f := by
  obtain ⟨D, h1, h2⟩ := h
  exact ⟨D, h1.mono hm, h2⟩
theorem SMap.same (h : SMap P k w b n f) (hb : w'.heap[b]? = w.heap[b]?) : SMap P k w' b n f := by
  obtain ⟨D, ⟨es, clock, h1, h2⟩, h3⟩ := h
  exact ⟨D, ⟨es, clock, hb.trans h1, h2⟩, h3⟩
theorem SMap.below (h : SMap P k w b n f) (hb : Below w.heap.size w w') : SMap P k w' b n f := h.same (hb.block b h.lt)
theorem SMap.to (h : SMap P k w b n f) {g : List UInt8 → Bool} (hg : ∀ s, g s = f s) : SMap P k w b n g := by
  obtain ⟨D, h1, h2⟩ := h
  exact ⟨D, h1, fun s hs => (h2 s hs).trans (hg s).symm⟩
theorem smap_made (w : World) : SMap P k (w.alloc (.map #[] 0)) w.heap.size 0 (fun _ => false) :=
  ⟨_, World.ownsMap_made w P k unitElem, fun _ _ => rfl⟩
variable (hk : P.underlying k = some .string) (ht : P.underlying t = some (.map k e)) (hz : ∀ w, (zeroValue e).run P w = .ok (.agg #[]) w)
variable {ops : Array Oper} {rest : List Oper} {o : Oper} {a : Act} {Q : Exit → Act → World → Prop}
include hk ht
include hz in
/-- _, is := m[s], at the operation. -/
theorem wpList_lookS (hg : o.guard = none) (m x : Operand) (hop : o.op = Op.lookup t m x true) (hm : a.eval m = .map (some b)) (h : SMap P k w b n f)
    (s : List UInt8) (hx : a.eval x = S s) (hs : s.length ≤ 1000000) (hK : wpList P ops Q rest (a.put o.dst (.tuple #[.agg #[], .bool (f s)])) w) : wpList P ops Q (o :: rest) a w := by
  obtain ⟨D, h1, h2⟩ := h
  refine wpList_lookup_own_unit w hg m x t hop k e (Go.Maps.string_keyed hk) ht (hz w) b n D hm h1 (S s) (.string s) hx (key_S hk hs) ?_
  rw [h2 s hs]; exact hK
/-- m[s] = struct{}{}, at the operation. -/
theorem wpList_putS (hg : o.guard = none) (m x v : Operand) (hop : o.op = Op.mapUpdate t m x v) (hm : a.eval m = .map (some b)) (h : SMap P k w b n f) (hn : n < 1000000)
    (s : List UInt8) (hx : a.eval x = S s) (hs : s.length ≤ 1000000) (hv : a.eval v = .agg #[])
    (hK : ∀ w', SMap P k w' b (n + 1) (addF f s) → w.grownBy w' (some b) → wpList P ops Q rest (a.put o.dst undef) w') : wpList P ops Q (o :: rest) a w := by
  obtain ⟨D, h1, h2⟩ := h
  refine wpList_mapUpdate_own w hg m x v t hop k e (Go.Maps.string_keyed hk) ht unitElem b n D hm h1 (by simp only [maxLen]; omega) (S s) (.agg #[]) (.string s) hx hv (key_S hk hs) (.agg []) [] unitElem_mk ?_
  intro w' h3 h4
  refine hK w' ⟨_, h3, fun x hx => ?_⟩ h4
  unfold addF
  by_cases he : x = s
  · subst he
    rw [if_pos rfl, Maps.has_put_same h1.isMap (k := .string x) trivial]
  · rw [if_neg he, Maps.has_put_other (fun e => he (by injection e))]
    exact h2 x hx
end
end Go.Proofs.YtgoaljnfegaldaaDoor
