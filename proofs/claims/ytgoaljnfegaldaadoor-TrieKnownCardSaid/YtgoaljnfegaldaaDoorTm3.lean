/- Patterns in another order. -/
import Derived.Test.YtgoaljnfegaldaaDoorTm2
namespace Go.Proofs.YtgoaljnfegaldaaDoor
open Go.RowKit

section
variable {β : Type}
theorem wf_perm {l l' : Ents β} (h : l.Perm l') (hw : Wf l) : Wf l' :=
  ⟨fun e he => hw.segs e (h.mem_iff.2 he), (h.pairwise_iff (fun {x y} hxy => by rw [twin_symm]; exact hxy)).1 hw.apart⟩
theorem addE_ok {max : Int} {l : Ents β} {e : Txt × β} (hw : Wf (l ++ [e])) (hl : (l.length : Int) < max) : addE max l e.1 e.2 = (0, l ++ [e]) := by
  obtain ⟨s, hs⟩ := hw.segs e (by simp)
  have e1 : segD e.1 = s := by unfold segD; rw [hs]; rfl
  unfold addE
  rw [hs]
  dsimp only
  have h1 : ¬ (l.any fun f => twinF s (segD f.1)) = true := by
    rw [Bool.not_eq_true, List.any_eq_false]
    intro f hf ht
    have := (List.pairwise_append.1 hw.apart).2.2 f hf e (by simp)
    rw [twin_symm, e1, ht] at this
    cases this
  rw [if_neg h1, if_neg (by omega)]
end
def dup (l : List Txt) : Ents Txt := l.map fun p => (p, p)
theorem dup_fst (l : List Txt) : (dup l).map (·.1) = l := by unfold dup; rw [List.map_map]; exact List.map_id l
theorem dup_of {l : Ents Txt} (h : ∀ e ∈ l, e.2 = e.1) : l = dup (l.map (·.1)) := by
  unfold dup
  rw [List.map_map]
  refine (List.map_id l).symm.trans (List.map_congr_left fun e he => ?_)
  show e = (e.1, e.1)
  rw [← h e he]
  conv => lhs; rw [show e = (e.1, e.2) from rfl]
  rw [h e he]
theorem dup_next {q : List Txt} {i : Nat} {x : Txt} (h : q[i]? = some x) : dup (q.take (i + 1)) = dup (q.take i) ++ [(x, x)] := by
  rw [List.take_add_one, h]; unfold dup; rw [List.map_append]; rfl
theorem dup_step {q : List Txt} (hw : Wf (dup q)) (hn : q.length ≤ 30) {i : Nat} {x : Txt} (h : q[i]? = some x) : addE ((40 : Nat) : Int) (dup (q.take i)) x x = (0, dup (q.take (i + 1))) := by
  rw [dup_next h]
  refine addE_ok (e := (x, x)) ?_ ?_
  · rw [← dup_next h]
    refine ⟨fun e he => hw.segs e ?_, hw.apart.sublist ?_⟩
    · unfold dup at he ⊢
      obtain ⟨y, hy, rfl⟩ := List.mem_map.1 he
      exact List.mem_map.2 ⟨y, List.mem_of_mem_take hy, rfl⟩
    · unfold dup
      exact (List.take_sublist _ _).map _
  · unfold dup
    rw [List.length_map, List.length_take]
    omega
def rotF (k : Nat) (l : List Txt) : List Txt := l.drop k ++ l.take k
theorem rot_perm (k : Nat) (l : List Txt) : l.Perm (rotF k l) := by
  unfold rotF
  refine List.Perm.trans ?_ List.perm_append_comm
  rw [List.take_append_drop]
theorem rot_len (k : Nat) (l : List Txt) : (rotF k l).length = l.length := (rot_perm k l).length_eq.symm
theorem rot_get {k i : Nat} {l : List Txt} (hk : k < l.length) (hi : i < l.length) : (rotF k l)[i]? = l[(i + k) % l.length]? := by
  unfold rotF
  by_cases h : i < l.length - k
  · rw [List.getElem?_append_left (by rw [List.length_drop]; exact h), List.getElem?_drop, Nat.mod_eq_of_lt (by omega), Nat.add_comm]
  · rw [List.getElem?_append_right (by rw [List.length_drop]; omega), List.length_drop, List.getElem?_take, if_pos (by omega)]
    congr 1
    rw [show i + k = (i - (l.length - k)) + l.length by omega, Nat.add_mod_right, Nat.mod_eq_of_lt (by omega)]
theorem dup_perm {l l' : List Txt} (h : l.Perm l') : (dup l).Perm (dup l') := h.map _
theorem find_dup {l l' : List Txt} (h : l.Perm l') {path : List Txt} {r : Option (Txt × Txt)} (hr : FindIs (dup l) path r) : FindIs (dup l') path r := find_mem (fun _ => (dup_perm h).mem_iff) hr
theorem dup_same {l path : List Txt} {r : Option (Txt × Txt)} (hr : FindIs (dup l) path r) : fdX [] r = fdP r := by
  cases r with
  | none => rfl
  | some e =>
    obtain ⟨y, _, rfl⟩ := List.mem_map.1 hr.mem
    rfl
theorem tmod_range (t : Int) {n : Nat} (hn : 0 < n) : -(n : Int) < t.tmod n ∧ t.tmod n < n := by
  have h1 := Int.tmod_lt_of_pos t (show (0 : Int) < n by omega)
  have h2 := Int.lt_tmod_of_pos t (show (0 : Int) < n by omega)
  exact ⟨h2, h1⟩
end Go.Proofs.YtgoaljnfegaldaaDoor
