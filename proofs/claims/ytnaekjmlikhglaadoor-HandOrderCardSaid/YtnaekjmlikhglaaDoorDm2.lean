/- The order of a request's fields (stage 17). -/
import Derived.Test.YtnaekjmlikhglaaDoorDm1
namespace Go.Proofs.YtnaekjmlikhglaaDoor

def otherD : DTx × DTx := ([88, 45, 79, 116, 104, 101, 114], [119, 101, 98, 115, 111, 99, 107, 101, 116])
/-- Fields with another one before each. -/
def mixF (l : DFds) : DFds := l.flatMap fun f => [otherD, f]
def rotF (fs : DFds) (k : Nat) : DFds := fs.drop k ++ fs.take k
theorem rot_len (fs : DFds) (k : Nat) : (rotF fs k).length = fs.length := by unfold rotF; rw [List.length_append, List.length_drop, List.length_take]; omega
theorem rot_at (fs : DFds) (k i : Nat) (hk : k < fs.length) (hi : i < fs.length) : (rotF fs k)[i]? = fs[(i + k) % fs.length]? := by
  unfold rotF
  by_cases h : i + k < fs.length
  · rw [List.getElem?_append_left (by rw [List.length_drop]; omega), List.getElem?_drop, Nat.mod_eq_of_lt h, Nat.add_comm]
  · have hm : (i + k) % fs.length = i + k - fs.length := by rw [Nat.mod_eq_sub_mod (by omega), Nat.mod_eq_of_lt (by omega)]
    rw [List.getElem?_append_right (by rw [List.length_drop]; omega), List.length_drop, List.getElem?_take_of_lt (by omega), hm]
    congr 1; omega
theorem mix_next {l : DFds} {i : Nat} {f : DTx × DTx} (h : l[i]? = some f) : mixF (l.take (i + 1)) = mixF (l.take i) ++ [otherD, f] := by
  unfold mixF
  rw [List.take_add_one, h, Option.toList_some, List.flatMap_append]; rfl
theorem mix_len (l : DFds) : (mixF l).length = l.length * 2 := by
  unfold mixF
  induction l with
  | nil => rfl
  | cons f r ih => rw [List.flatMap_cons, List.length_append, ih, List.length_cons]; simp; omega
theorem mix_many (l : DFds) (n : DTx) (h : alikeF otherD.1 n = false) : manyF (mixF l) n = manyF l n := by
  induction l with
  | nil => rfl
  | cons f r ih =>
    have e : mixF (f :: r) = otherD :: f :: mixF r := rfl
    rw [e, many_cons, many_cons, many_cons, h, ih]; rfl
theorem many_rot (fs : DFds) (k : Nat) (n : DTx) : ∃ a b, manyF fs n = a ++ b ∧ manyF (rotF fs k) n = b ++ a := by
  refine ⟨manyF (fs.take k) n, manyF (fs.drop k) n, ?_, ?_⟩
  · rw [← many_app, List.take_append_drop]
  · unfold rotF; rw [many_app]
theorem one_swap {a b : List DTx} (h : (a ++ b).length = 1) : b ++ a = a ++ b := by
  rw [List.length_append] at h
  cases a with
  | nil => rw [List.append_nil, List.nil_append]
  | cons x r =>
    have : b = [] := by
      cases b with
      | nil => rfl
      | cons y s => simp only [List.length_cons] at h; omega
    subst this; rw [List.append_nil, List.nil_append]
theorem has_swap (a b : List DTx) (t : DTx) : hasAny (b ++ a) t = hasAny (a ++ b) t := by
  unfold hasAny; rw [List.any_append, List.any_append, Bool.or_comm]
theorem order_check (m : DTx) (v : Int) (fs : DFds) (k : Nat) : checkF m v (mixF (rotF fs k)) = checkF m v fs := by
  have e : ∀ n, alikeF otherD.1 n = false → manyF (mixF (rotF fs k)) n = manyF (rotF fs k) n := fun n h => mix_many _ n h
  obtain ⟨a1, b1, h1, h1'⟩ := many_rot fs k hostD
  obtain ⟨a2, b2, h2, h2'⟩ := many_rot fs k upD
  obtain ⟨a3, b3, h3, h3'⟩ := many_rot fs k conD
  obtain ⟨a4, b4, h4, h4'⟩ := many_rot fs k keyD
  obtain ⟨a5, b5, h5, h5'⟩ := many_rot fs k verD
  unfold checkF askF
  rw [e hostD (by decide +kernel), e upD (by decide +kernel), e conD (by decide +kernel), e keyD (by decide +kernel), e verD (by decide +kernel), h1, h1', h2, h2', h3, h3', h4, h4', h5, h5', has_swap a2, has_swap a3]
  have l1 : (b1 ++ a1).length = (a1 ++ b1).length := by rw [List.length_append, List.length_append, Nat.add_comm]
  by_cases hk : (a4 ++ b4).length = 1
  · rw [one_swap hk, l1]
    by_cases hv : (a5 ++ b5).length = 1
    · rw [one_swap hv]
    · have hv2 : ¬ (b5 ++ a5).length = 1 := by rw [List.length_append] at hv ⊢; omega
      rw [decide_eq_false hv, decide_eq_false hv2]; simp
  · have hk2 : ¬ (b4 ++ a4).length = 1 := by rw [List.length_append] at hk ⊢; omega
    rw [decide_eq_false hk, decide_eq_false hk2]; simp
/-- How often a name stands there, in small letters. -/
def cntF (fs : DFds) (n : DTx) : Nat := (fs.filter fun f => f.1.map lowB == n).length
theorem cnt_next {fs : DFds} {i : Nat} {f : DTx × DTx} (h : fs[i]? = some f) (n : DTx) : cntF (fs.take (i + 1)) n = cntF (fs.take i) n + (if n = f.1.map lowB then 1 else 0) := by
  unfold cntF
  rw [List.take_add_one, h, Option.toList_some, List.filter_append, List.length_append]
  by_cases hn : n = f.1.map lowB
  · rw [if_pos hn, List.filter_cons_of_pos (by simp [hn])]; rfl
  · rw [if_neg hn, List.filter_cons_of_neg (by simpa using fun e => hn e.symm)]; rfl
theorem cnt_le (fs : DFds) (n : DTx) : cntF fs n ≤ fs.length := List.length_filter_le _ _
theorem cnt_many (fs : DFds) (n : DTx) (h : n.map lowB = n) : cntF fs n = (manyF fs n).length := by
  unfold cntF manyF
  rw [List.length_map]
  congr 1
  refine List.filter_congr fun f _ => ?_
  unfold alikeF; rw [h]
theorem many_two (m : DTx) (v : Int) (fs : DFds) (h : 1 < cntF fs hostD ∨ 1 < cntF fs keyD ∨ 1 < cntF fs verD) : checkF m v fs = ([], 400) := by
  unfold checkF
  rw [cnt_many fs hostD (by decide +kernel), cnt_many fs keyD (by decide +kernel), cnt_many fs verD (by decide +kernel)] at h
  rw [if_neg]
  unfold askF
  rcases h with h | h | h
  · rw [show decide ((manyF fs hostD).length = 1) = false from decide_eq_false (by omega)]; simp
  · rw [show decide ((manyF fs keyD).length = 1) = false from decide_eq_false (by omega)]; simp
  · rw [show decide ((manyF fs verD).length = 1) = false from decide_eq_false (by omega)]; simp
end Go.Proofs.YtnaekjmlikhglaaDoor
