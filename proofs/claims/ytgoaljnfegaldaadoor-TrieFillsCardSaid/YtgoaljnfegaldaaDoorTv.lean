/- The landed package of tries does what is asked of it. -/
import Derived.Test.YtgoaljnfegaldaaDoorTw10i
import Derived.Test.YtgoaljnfegaldaaDoorTw10s
import Derived.Test.YtgoaljnfegaldaaDoorTd
import Derived.Test.YtgoaljnfegaldaaDoorTk1
namespace Go.Proofs.YtgoaljnfegaldaaDoor
open Go.RowKit

def RI : World → (Nat → Prop) → Nat → Int → Ents Int → Prop := RTrie iV
def RT : World → (Nat → Prop) → Nat → Int → Ents Txt → Prop := RTrie S
section
variable {β : Type} {val : β → Value} {w w' : World} {F : Nat → Prop} {g : Nat} {max : Int} {l : Ents β}
theorem RTrie.lt (h : RTrie val w F g max l) : F g ∧ ∀ k, F k → k < w.heap.size := by
  obtain ⟨_, _, _, _, _, _, _, _, h⟩ := h
  exact h.lt
theorem RTrie.same (h : RTrie val w F g max l) (hs : w.heap.size ≤ w'.heap.size) (hb : ∀ k, F k → w'.heap[k]? = w.heap[k]?) : RTrie val w' F g max l := by
  obtain ⟨R, N, M, E, here, bs, C, av, h⟩ := h
  exact ⟨R, N, M, E, here, bs, C, av, h.same hs hb⟩
end
theorem trieI {w : World} (hm : MaxAt w) : IntI w RI where
  lt := fun h => h.lt
  same := fun h hs hb => h.same hs hb
  new := fun mx W hmx _ => newi_any mx hmx W
  add := fun p x h hB hp => by
    obtain ⟨_, _, _, _, _, _, _, _, h⟩ := h
    exact addi_any h p x hp (hm.below hB)
  find := fun path V b o r h hB hT hP hr => by
    obtain ⟨_, _, _, _, _, _, _, _, h⟩ := h
    exact findi_any h path V b o r hT hP hr (hm.below hB)
theorem trieT {w : World} (hm : MaxAt w) : TxtI w RT where
  lt := fun h => h.lt
  same := fun h hs hb => h.same hs hb
  new := fun mx W hmx _ => news_any mx hmx W
  add := fun p x h hB hp => by
    obtain ⟨_, _, _, _, _, _, _, _, h⟩ := h
    exact adds_any h p x hp (hm.below hB)
  find := fun path V b o r h hB hT hP hr => by
    obtain ⟨_, _, _, _, _, _, _, _, h⟩ := h
    exact finds_any h path V b o r hT hP hr (hm.below hB)
theorem trieM {w : World} (hm : MaxAt w) : IntM w RI where
  set := fun p x h hB hp => by
    obtain ⟨_, _, _, _, _, _, _, _, h⟩ := h
    exact seti_any h p x hp (hm.below hB)
  get := fun p h hB hp => by
    obtain ⟨_, _, _, _, _, _, _, _, h⟩ := h
    exact geti_any h p hp (hm.below hB)
  len := fun h _ => by
    obtain ⟨_, _, _, _, _, _, _, _, h⟩ := h
    refine (leni_any h).mono ?_
    rintro e W ⟨rfl, rfl⟩
    exact ⟨rfl, Below.refl _ _⟩
theorem allT {w : World} : AllI 11 w RT := ⟨fun h _ => by
  obtain ⟨_, _, _, _, _, _, _, _, h⟩ := h
  exact alls_any h⟩
theorem rightI {w : World} (hm : MaxAt w) : RightI w := fun s W hs hB => right_any s hs W (hm.below hB)
end Go.Proofs.YtgoaljnfegaldaaDoor
