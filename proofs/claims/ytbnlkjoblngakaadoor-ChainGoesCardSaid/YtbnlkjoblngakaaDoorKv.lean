/- The document's Back (stage 13) walked. (mkkv.py writes it.) -/
import Derived.Test.YtbnlkjoblngakaaDoorKu
import Derived.Shelf.RegionOpen
namespace Go.Proofs.YtbnlkjoblngakaaDoor
open Go.RowKit Go.Shelf
attribute [local go_sem] store_one S_match S_store eguard_BN nguard_BN

/-- One field more. -/
theorem run_addF {W : World} {base : Nat} {V : Value} {fs : Fds} (h : FO base V fs W) (hl : fs.length ≤ 1000) (hb : base ≤ W.heap.size) (f : Tx × Tx) (ty : TypeId) :
    ∃ a c W', (Builtin.append_ #[23, 23] ty #[V, .slice (some ⟨W.heap.size, 0, none⟩) 1 1]).run Tryd.prog (W.alloc (.cells #[S f.1, S f.2] 53)) = .ok (.slice a (fs.length + 1) c) W' ∧ FO base (.slice a (fs.length + 1) c) (fs ++ [f]) W' ∧ Below base W W' := by
  obtain ⟨i, hi, hz, hsz, hby⟩ := infoFldK
  have h0 := h
  unfold FO at h
  have hr := row_new W #[S f.1, S f.2] 53
  have hal : (W.alloc (.cells #[S f.1, S f.2] 53)).ownsRow base 53 2 V fs.length (fcells fs) := h.alloc _
  obtain ⟨V', W', hrun, hown, hgr, _, _⟩ := run_append_own_at (P := Tryd.prog) (w := W.alloc (.cells #[S f.1, S f.2] 53)) base 23 ty 53 i _ 2 32 Tryd.underlying23 hi hz hsz hby rfl (by decide)
    V fs.length (fcells fs) hal ⟨W.heap.size, 0, none⟩ 1 1 [S f.1, S f.2] rfl (fun j u hu => by
      rw [Addr.add_lit]
      rw [cell_of_row _ _ _ _ _ _ hr]
      simpa using hu) (fun u hu => by
      simp only [List.mem_cons, List.not_mem_nil, or_false] at hu
      rcases hu with rfl | rfl <;> rfl)
    (by simp only [maxLen]; omega) (by omega) (by rw [alloc_size]; omega)
  have hF : FO base V' (fs ++ [f]) W' := by
    unfold FO
    rw [List.length_append, List.length_singleton, fcells_snoc]; exact hown
  obtain ⟨g, hA, -⟩ := hF.fa
  obtain ⟨a, c, hv⟩ := hA.form
  rw [List.length_append, List.length_singleton] at hv
  subst hv
  refine ⟨a, c, W', hrun, hF, ?_⟩
  exact below_grown ((Below.refl _ _).alloc hb _) hgr (fun k hk => (h0.own_lo hk).1) (by rw [alloc_size]; omega)
/-- The fields that the steps behind j have added. -/
def outG (fs : Fds) (l : List Stp) (n j : Nat) (xs : Fds) : Fds := xs ++ addsS fs ((l.take n).drop j)
theorem outG_end (fs : Fds) (l : List Stp) (n : Nat) (xs : Fds) (hn : n ≤ l.length) : outG fs l n n xs = xs := by
  unfold outG
  rw [List.drop_of_length_le (by rw [List.length_take]; omega)]
  simp [addsS]
theorem outG_next (fs : Fds) (l : List Stp) (n j : Nat) (xs : Fds) (s : Stp) (hj : j < n) (hs : l[j]? = some s) : outG fs l n j xs = outG fs l n (j + 1) xs ++ addS fs s := by
  unfold outG
  have h1 : (l.take n)[j]? = some s := by rw [List.getElem?_take_of_lt hj]; exact hs
  obtain ⟨hi, rfl⟩ := List.getElem?_eq_some_iff.1 h1
  rw [List.drop_eq_getElem_cons hi, adds_cons, List.append_assoc]
theorem outG_all (fs : Fds) (l : List Stp) (n : Nat) (xs : Fds) : outG fs l n 0 xs = xs ++ addsS fs (l.take n) := by unfold outG; rw [List.drop_zero]
theorem outG_len (fs : Fds) (l : List Stp) (n j : Nat) (xs : Fds) : (outG fs l n j xs).length ≤ xs.length + l.length := by
  unfold outG
  rw [List.length_append, adds_len]
  have h1 := cnt_le ((l.take n).drop j)
  rw [List.length_drop, List.length_take] at h1
  omega
end Go.Proofs.YtbnlkjoblngakaaDoor
