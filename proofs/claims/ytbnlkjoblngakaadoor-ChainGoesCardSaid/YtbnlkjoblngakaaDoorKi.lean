/- Fields copied into new memory (append to an empty slice of one's own); the handler of ChainStays (stage 13). -/
import Derived.Test.YtbnlkjoblngakaaDoorKf
import Derived.Deep.Upon
import Derived.Maps.AppendAt
namespace Go.Proofs.YtbnlkjoblngakaaDoor
open Go.RowKit Go.Shelf
attribute [local go_sem] store_one S_match S_store

theorem infoFldK : ∃ i, Tryd.prog.info? 53 = some i ∧ i.zero = some (.agg #[.string ⟨#[]⟩, .string ⟨#[]⟩]) ∧ i.size = 2 ∧ i.bytes = 32 := by
  have := (by kernel_rfl : (Tryd.prog.info? 53).map (fun i => (i.zero, i.size, i.bytes)) = some (some (.agg #[.string ⟨#[]⟩, .string ⟨#[]⟩]), 2, 32))
  cases hi : Tryd.prog.info? 53 with
  | none => rw [hi] at this; cases this
  | some i =>
    simp only [hi, Option.map_some, Option.some.injEq, Prod.mk.injEq] at this
    exact ⟨i, rfl, this.1, this.2.1, this.2.2⟩
theorem fo_empty (W : World) : FO W.heap.size (.slice (some ⟨W.heap.size, 0, none⟩) 0 0) [] (W.alloc (.cells #[] 53)) :=
  ⟨rfl, .inr ⟨W.heap.size, 0, #[], rfl, Nat.le_refl _, row_new W #[] _, Nat.le_refl _, Nat.zero_le _, rfl, rfl⟩⟩
theorem fcells_length (fs : Fds) : (fcells fs).length = fs.length * 2 := by
  unfold fcells
  induction fs with
  | nil => rfl
  | cons f r ih => rw [List.flatMap_cons, List.length_append, ih, List.length_cons]; simp; omega
theorem fcells_one (fs : Fds) : ∀ u ∈ fcells fs, u.oneCell' = true := by
  intro u hu
  unfold fcells at hu
  obtain ⟨f, _, h⟩ := List.mem_flatMap.1 hu
  simp only [List.mem_cons, List.not_mem_nil, or_false] at h
  rcases h with rfl | rfl <;> rfl
theorem fcells_at {w : World} {V : Value} {fs : Fds} {b o : Nat} (h : FA w V fs b o) : ∀ j u, (fcells fs)[j]? = some u → w.cell? ⟨b, o + j, none⟩ = some u := by
  intro j u hu
  have hj := (List.getElem?_eq_some_iff.1 hu).1
  rw [fcells_length] at hj
  obtain ⟨f, hf⟩ : ∃ f, fs[j / 2]? = some f := ⟨fs[j / 2]'(by omega), List.getElem?_eq_getElem _⟩
  obtain ⟨h1, h2⟩ := h.cell (j / 2) f hf
  obtain ⟨g1, g2⟩ := fcells_get fs (j / 2) f hf
  have hm : j % 2 = 0 ∨ j % 2 = 1 := by omega
  rcases hm with hm | hm
  · rw [show j / 2 * 2 = j by omega] at g1 h1
    rw [hu] at g1
    injection g1 with g1
    rw [g1]; exact h1
  · rw [show j / 2 * 2 + 1 = j by omega] at g2
    rw [show o + j / 2 * 2 + 1 = o + j by omega] at h2
    rw [hu] at g2
    injection g2 with g2
    rw [g2]; exact h2
/-- append([]Field{}, fs...): a copy. -/
theorem run_copyF {W : World} {V : Value} {fs : Fds} {b o : Nat} (h : FA W V fs b o) (hl : fs.length ≤ 1000) (ty : TypeId) :
    ∃ V' W', (Builtin.append_ #[23, 23] ty #[.slice (some ⟨W.heap.size, 0, none⟩) 0 0, V]).run Tryd.prog (W.alloc (.cells #[] 53)) = .ok V' W' ∧ FO W.heap.size V' fs W' ∧ Below W.heap.size W W' := by
  obtain ⟨i, hi, hz, hsz, hby⟩ := infoFldK
  have hB : Below W.heap.size W (W.alloc (.cells #[] 53)) := (Below.refl _ _).alloc (Nat.le_refl _) _
  have h0 := fo_empty W
  obtain ⟨a, c, rfl⟩ := h.form
  cases fs with
  | nil =>
    refine ⟨_, _, run_append_nothing (P := Tryd.prog) _ 23 23 ty 53 i Tryd.underlying23 hi _ 0 0 (Nat.le_refl _) _ ?_, h0, hB⟩
    cases a with
    | none => exact .ofNil _ (e' := 53) Tryd.underlying23 c
    | some a => exact .ofSlice _ (e' := 53) Tryd.underlying23 a 0 c [] (by simp) (fun j u hu => by rw [List.getElem?_nil] at hu; cases hu) (fun u hu => by cases hu)
  | cons f r =>
    have hb := h.below hB
    obtain rfl : a = some ⟨b, o, none⟩ := by
      have hix := h.index 0 (by simp) W
      cases a with
      | none =>
        simp [Instr.indexAt, boundsPanic, go_sem] at hix
      | some a =>
        simp [Instr.indexAt, Addr.add, go_sem] at hix
        rw [hix]
    obtain ⟨V', W', hr, hown, hgr, _, _⟩ := run_append_own_at (P := Tryd.prog) (w := W.alloc (.cells #[] 53)) W.heap.size 23 ty 53 i _ 2 32 Tryd.underlying23 hi hz hsz hby rfl (by decide)
      (.slice (some ⟨W.heap.size, 0, none⟩) 0 0) 0 [] h0 ⟨b, o, none⟩ (f :: r).length c (fcells (f :: r)) (fcells_length _) (fun j u hu => by rw [Addr.add_lit]; exact fcells_at hb j u hu) (fcells_one _)
      (by simp only [maxLen]; omega) (by omega) (by rw [alloc_size]; omega)
    rw [Nat.zero_add, List.nil_append] at hown
    exact ⟨V', W', hr, hown, below_grown hB hgr (fun k hk => by simp [Value.ownBlock] at hk; omega) (by rw [alloc_size]; omega)⟩
end Go.Proofs.YtbnlkjoblngakaaDoor
