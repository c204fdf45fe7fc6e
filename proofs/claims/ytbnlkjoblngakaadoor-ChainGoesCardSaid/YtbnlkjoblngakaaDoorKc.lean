/- What steps around tell answer; the law's wakes (stage 13) walked. -/
import Derived.Test.YtbnlkjoblngakaaDoorKb
import Derived.Shelf.Abstract
namespace Go.Proofs.YtbnlkjoblngakaaDoor
open Go.RowKit Go.Shelf
attribute [local go_sem] store_one S_match S_store

/-- What steps around tell answer. -/
def tellA (r : Rq) (l : List Stp) : Nat × Tx × Fds := match (goS r.fs r.body l r.p).2.2 with
  | some x => (x.1, x.2, addsS r.fs (l.take (goS r.fs r.body l r.p).1))
  | none => (200, (goS r.fs r.body l r.p).2.1, addsS r.fs l)
/-- An answer, with fields of its own. -/
def AnsV (a : Nat × Tx × Fds) (W : World) (e : Ending) (w' : World) : Prop := ∃ V', e = .returned (rpV (a.1 : Int) V' a.2.1) ∧ FO W.heap.size V' a.2.2 w' ∧ Below W.heap.size W w'
theorem fa_nil (w : World) (a : Option Addr) (c : Nat) : FA w (.slice a 0 c) [] 0 0 :=
  ⟨fun T w' => by simp [Builtin.len_, run_underlying Tryd.underlying23, Result.andThen, goInt], fun i hi => absurd hi (by simp), fun i f hf => (by simp at hf), ⟨a, c, rfl⟩⟩
/-- tell, asked. -/
theorem tell_asked {wk w' W : World} {r : Rq} {p : Tx} {b : Nat} {l : List Stp} {Q : Ending → World → Prop} (hk : w'.heap.size ≤ W.heap.size) (hb : r.fs ≠ [] → b < W.heap.size)
    (h : ∀ V3 W3, FO W.heap.size V3 (addsS r.fs l) W3 → Below W.heap.size W W3 → Q (.returned (rpV 200 V3 p)) W3) : AskedAt wk w' 20 #[] W r p b l Q := by
  intro N W1 V1 hB hN _
  refine (tell_any { r with p := p } V1 W1).mono ?_
  rintro e W2 ⟨rfl, hB2⟩
  refine ⟨200, .slice none 0 0, [], p, 0, 0, rfl, fa_nil _ _ _, by simp, .inl rfl, hB2.size, fun k hk' => ?_, fun W3 V3 hR hF => ?_⟩
  · refine hB2.block k ?_
    rcases hk' with h1 | h1 | h1
    · exact (hN k h1).2.1
    · have := hB.size; omega
    · have := hb h1.1; have := hB.size; omega
  · exact h V3 W3 hF ((hB.trans (hB2.mono hB.size)).trans (hR.below (fun k hk' h1 => by have := (hN k h1).1; omega) (Nat.le_trans hB.size hB2.size)))
theorem tell_does {wk w' : World} {g : Nat} {lb : Array Value} {l : List Stp} (h : DoesH wk w' g lb l 20 #[]) {W : World} (hs : w'.heap.size ≤ W.heap.size) (hk : ∀ k, wk.heap.size ≤ k → k < w'.heap.size → W.heap[k]? = w'.heap[k]?)
    (r : Rq) (V : Value) (b o : Nat) (hA : FA W V r.fs b o) (hr : SmallR r) (hb : r.fs ≠ [] → b < W.heap.size) : Calls Tryd.prog g (#[rqV r V] ++ lb) W (AnsV (tellA r l) W) := by
  refine h W hs hk r V b o hA hr _ ?_
  unfold tellA
  cases hg : (goS r.fs r.body l r.p).2.2 with
  | some x => exact fun W' V' hB hF => ⟨V', rfl, hF, hB⟩
  | none => exact tell_asked hs hb fun V3 W3 hF hB => ⟨V3, rfl, hF, hB⟩
theorem FA.lt {w : World} {V : Value} {fs : Fds} {b o : Nat} (h : FA w V fs b o) (hne : fs ≠ []) : b < w.heap.size := by
  cases fs with
  | nil => exact absurd rfl hne
  | cons f r => exact World.block_lt_of_cell? w _ (h.cell 0 f rfl).1
/-- Steps as cells. -/
def stCells (l : List Stp) : List Value := l.flatMap fun s => (stC s).toList
theorem stCells_get : ∀ (l : List Stp) (i : Nat) (s : Stp), l[i]? = some s → ∀ j v, (stC s)[j]? = some v → (stCells l)[i * 4 + j]? = some v
  | [], i, s, h, _, _, _ => by simp at h
  | t :: l, 0, s, h, j, v, hv => by
    simp only [List.getElem?_cons_zero, Option.some.injEq] at h
    subst h
    unfold stCells
    have hj : j < 4 := by
      obtain ⟨hl, _⟩ := Array.getElem?_eq_some_iff.1 hv
      exact hl
    rw [List.flatMap_cons, Nat.zero_mul, Nat.zero_add, List.getElem?_append_left (by simpa [stC] using hj), Array.getElem?_toList]
    exact hv
  | t :: l, i + 1, s, h, j, v, hv => by
    rw [List.getElem?_cons_succ] at h
    have ih := stCells_get l i s h j v hv
    unfold stCells at ih ⊢
    rw [List.flatMap_cons, List.getElem?_append_right (by simp [stC]; omega)]
    rw [show (i + 1) * 4 + j - (stC t).toList.length = i * 4 + j by simp [stC]; omega]
    exact ih
theorem lenS (a : Option Addr) (n c : Nat) (T : TypeId) (w' : World) : (Builtin.len_ #[22] T #[.slice a n c]).run Tryd.prog w' = .ok (.int .i64 (n : Int)) w' := by
  simp [Builtin.len_, run_underlying Tryd.underlying22, Result.andThen, goInt]
theorem indexS4 (b o n c i : Nat) (hi : i < n) (w' : World) : (Instr.indexAt 22 (.slice (some ⟨b, o, none⟩) n c) (.int .i64 (i : Int))).run Tryd.prog w' = .ok (.pointer (some ⟨b, o + i * 4, none⟩)) w' :=
  run_index_at (P := Tryd.prog) Tryd.underlying22 (fun w => Tryd.sizeOf35 w) b o n c i hi w'
theorem sta_row {w : World} {g : Nat} {l : List Stp} {n c : Nat} {cs : Array Value} {t : TypeId} (h : Row w g cs t) (hcs : cs = (stCells l).toArray) (hn : n = l.length) (hc : n ≤ c) : StA w (.slice (some ⟨g, 0, none⟩) n c) l g 0 := by
  subst hn hcs
  exact ⟨fun T w' => lenS _ _ _ T w', fun i hi w' => indexS4 g 0 _ c i hi w', fun i s hs j v hv => by
    rw [cell_of_row w g _ _ t (0, 0) h, List.getElem?_toArray, Nat.zero_add]
    exact stCells_get l i s hs j v hv, ⟨_, _, rfl, hc, fun _ => rfl⟩⟩
theorem fa_row {w : World} {g : Nat} {fs : Fds} {n c : Nat} {cs : Array Value} {t : TypeId} (h : Row w g cs t) (hcs : cs = (fcells fs).toArray) (hn : n = fs.length) : FA w (.slice (some ⟨g, 0, none⟩) n c) fs g 0 := by
  subst hn hcs
  refine ⟨fun T w' => by simp [Builtin.len_, run_underlying Tryd.underlying23, Result.andThen, goInt], fun i hi w' => run_index_at (P := Tryd.prog) Tryd.underlying23 (fun w => Tryd.sizeOf53 w) g 0 _ c i hi w', fun i f hf => ?_, ⟨_, _, rfl⟩⟩
  obtain ⟨h1, h2⟩ := fcells_get fs i f hf
  rw [cell_of_row w g _ _ t (0, 0) h, cell_of_row w g _ _ t (0, 0) h, List.getElem?_toArray, List.getElem?_toArray, Nat.zero_add]
  exact ⟨h1, h2⟩
def wkS : List Stp := [⟨1, [65], [49], 0⟩, ⟨4, [], [47, 97, 112, 105], 0⟩, ⟨1, [66], [50], 0⟩]
def wkR (p : Tx) : Rq := ⟨[], p, [], 0, [], [], false⟩
theorem wk_small (p : Tx) (h : p.length ≤ 300) : SmallR (wkR p) := ⟨by simp [wkR], h, by simp [wkR], fun f hf => by cases hf⟩
set_option maxRecDepth 100000 in
set_option maxHeartbeats 1000000 in
theorem wakes13_any {w : World} (C : ChainI w) : Calls Tryd.prog 10 #[] w fun e w' => e = .returned (.bool true) ∧ Below w.heap.size w w' := by
  obtain ⟨CS, hCS⟩ : ∃ CS : Array Value, CS = #[.int .i64 1, .string ⟨#[65]⟩, .string ⟨#[49]⟩, .int .i64 0, .int .i64 4, .string ⟨#[]⟩, .string ⟨#[47, 97, 112, 105]⟩, .int .i64 0, .int .i64 1, .string ⟨#[66]⟩, .string ⟨#[50]⟩, .int .i64 0] := ⟨_, rfl⟩
  obtain ⟨W1, hW1⟩ : ∃ W, W = w.alloc (.cells CS 35) := ⟨_, rfl⟩
  have hB1 : Below w.heap.size w W1 := by rw [hW1]; exact (Below.refl _ w).alloc (Nat.le_refl _) _
  have hS : StA W1 (.slice (some ⟨w.heap.size, 0, none⟩) 3 3) wkS w.heap.size 0 := by
    rw [hW1]
    exact sta_row (row_new w CS _) (by rw [hCS]; rfl) rfl (Nat.le_refl _)
  have hwr := C.wrap wkS _ _ _ 20 #[] W1 hB1 hS ⟨by decide, by decide⟩ (enters_of Tryd.func20 (by kernel_rfl) rfl)
  have HW := Lib.hid hwr
  have HB1 := Lib.hid hB1
  rw [hW1, hCS] at HW
  clear hB1 hS hwr
  go_enter Tryd.func10, Tryd.ntmps10
  go_wp2_with fail
  refine HW.out.mono ?_
  rintro e W2 ⟨hB2, h2⟩
  rcases h2 with ⟨h2, _⟩ | ⟨_, g, lb, rfl, hen, hd⟩
  · exact absurd (show wrapC wkS = 0 by decide) h2
  rw [← hCS, ← hW1] at hd hB2
  have HD := Lib.hid hd
  have hen' : ∀ args w, (callFunc g args).run Tryd.prog w = .ok (.enter g args) w := hen
  have HB2 := Lib.hid (HB1.out.trans (hB2.mono HB1.out.size))
  have HX := Lib.hid (tell_does HD.out (W := W2) (Nat.le_refl _) (fun k _ _ => rfl) (wkR [47, 97, 112, 105, 47, 120]) (.slice none 0 0) 0 0 (fa_nil _ _ _) (wk_small _ (by decide)) (fun h => absurd rfl h))
  clear hd hB2 HW hW1 hCS
  have heq : ∀ w, (binOp .eql 40 (.func (.func g) #[] lb) .nilFunc).run Tryd.prog w = .ok (.bool false) w := eql_nilFunc Tryd.underlying40 (.func g) #[] lb
  unfold hV
  go_wp2_with fail
  refine HX.out.mono ?_
  rintro e W3 ⟨V3, rfl, hF3, hB3⟩
  rw [show tellA (wkR [47, 97, 112, 105, 47, 120]) wkS = (200, [47, 120], [([66], [50]), ([65], [49])]) by decide] at hF3 ⊢
  obtain ⟨g3, hA3, -⟩ := FO.fa hF3
  obtain ⟨a3, c3, hv3⟩ := hA3.form
  subst hv3
  obtain ⟨b4, hb4⟩ : ∃ b, b = W3.heap.size := ⟨_, rfl⟩
  obtain ⟨W4, hW4⟩ : ∃ W, W = W3.alloc (.cells (rpC 200 (.slice a3 2 c3) [47, 120]) 27) := ⟨_, rfl⟩
  have hB4 : Below W3.heap.size W3 W4 := by rw [hW4]; exact (Below.refl _ _).alloc (Nat.le_refl _) _
  have hR4 : Row W4 b4 (rpC 200 (.slice a3 2 c3) [47, 120]) 27 := by rw [hW4, hb4]; exact row_new _ _ _
  have hB24 := hB3.trans (hB4.mono hB3.size)
  have H4 := Lib.hid (And.intro hR4 (And.intro hB24 (hA3.below hB4)))
  have HX2 := Lib.hid (tell_does HD.out (W := W4) hB24.size (fun k _ hk => hB24.block k hk) (wkR [47, 97, 112, 105, 120]) (.slice none 0 0) 0 0 (fa_nil _ _ _) (wk_small _ (by decide)) (fun h => absurd rfl h))
  clear hF3 hB3 hA3 HX hB4 hR4 hB24
  unfold rpV
  dsimp only
  unfold rpC at hW4 ⊢
  go_wp2_with fail
  rw [← hb4, ← hW4]
  refine HX2.out.mono ?_
  rintro e W5 ⟨V5, rfl, hF5, hB5⟩
  rw [show tellA (wkR [47, 97, 112, 105, 120]) wkS = (404, [110, 111, 116, 32, 102, 111, 117, 110, 100], [([65], [49])]) by decide] at hF5 ⊢
  obtain ⟨g5, hA5, -⟩ := FO.fa hF5
  obtain ⟨a5, c5, hv5⟩ := hA5.form
  subst hv5
  obtain ⟨b6, hb6⟩ : ∃ b, b = W5.heap.size := ⟨_, rfl⟩
  obtain ⟨W6, hW6⟩ : ∃ W, W = W5.alloc (.cells (rpC 404 (.slice a5 1 c5) [110, 111, 116, 32, 102, 111, 117, 110, 100]) 27) := ⟨_, rfl⟩
  have hB6 : Below W5.heap.size W5 W6 := by rw [hW6]; exact (Below.refl _ _).alloc (Nat.le_refl _) _
  have hR6 : Row W6 b6 (rpC 404 (.slice a5 1 c5) [110, 111, 116, 32, 102, 111, 117, 110, 100]) 27 := by rw [hW6, hb6]; exact row_new _ _ _
  have hB46 := hB5.trans (hB6.mono hB5.size)
  have h4 := H4.out.1.below hB46 H4.out.1.lt
  have H6 := Lib.hid (And.intro (HB2.out.trans ((H4.out.2.1.trans (hB46.mono H4.out.2.1.size)).mono HB2.out.size)) (And.intro (H4.out.2.2.below hB46) (hA5.below hB6)))
  have c40 : W6.cell? ⟨b4, 0, none⟩ = some (.int .i64 200) := cell_of_row W6 b4 0 _ _ (0, 0) h4
  have c41 : W6.cell? ⟨b4, 1, none⟩ = some (.slice a3 2 c3) := cell_of_row W6 b4 1 _ _ (0, 0) h4
  have c42 : W6.cell? ⟨b4, 2, none⟩ = some (.string ⟨#[47, 120]⟩) := cell_of_row W6 b4 2 _ _ (0, 0) h4
  have c60 : W6.cell? ⟨b6, 0, none⟩ = some (.int .i64 404) := cell_of_row W6 b6 0 _ _ (0, 0) hR6
  have c61 : W6.cell? ⟨b6, 1, none⟩ = some (.slice a5 1 c5) := cell_of_row W6 b6 1 _ _ (0, 0) hR6
  obtain ⟨W7, hW7⟩ : ∃ W, W = W6.alloc (.cells #[.string ⟨#[66]⟩, .string ⟨#[50]⟩, .string ⟨#[65]⟩, .string ⟨#[49]⟩] 53) := ⟨_, rfl⟩
  have hB7 : Below W6.heap.size W6 W7 := by rw [hW7]; exact (Below.refl _ _).alloc (Nat.le_refl _) _
  have hA7 : FA W7 (.slice (some ⟨W6.heap.size, 0, none⟩) 2 2) [([66], [50]), ([65], [49])] W6.heap.size 0 := by
    rw [hW7]; exact fa_row (row_new W6 _ _) rfl rfl
  have HS1 := Lib.hid (sameF13_true _ _ _ _ _ _ _ (by decide) W7 (H6.out.2.1.below hB7) hA7)
  have HB7 := Lib.hid hB7
  have hs6 : W6.heap.size = W5.heap.size + 1 := by rw [hW6, alloc_size]
  rw [hs6, hW7] at HS1
  clear hF5 hB5 hA5 HX2 hB6 hR6 hB46 h4 hA7 hB7 HD hen' heq hW4 hb4 H4
  unfold rpV
  dsimp only
  unfold rpC at hW6 ⊢
  have HC6 := Lib.hid (And.intro c60 c61)
  rw [hW6] at c40 c41 c42 c60 c61 HS1
  rw [hb6] at c60 c61
  go_wp2_with fail
  refine HS1.out.mono ?_
  rintro e W8 ⟨rfl, hB8⟩
  rw [← hW6, ← hW7] at hB8
  have hB68 := HB7.out.trans (hB8.mono HB7.out.size)
  have d60 : W8.cell? ⟨W5.heap.size, 0, none⟩ = some (.int .i64 404) := by rw [← hb6, hB68.cell (World.block_lt_of_cell? _ _ HC6.out.1)]; exact HC6.out.1
  have d61 : W8.cell? ⟨W5.heap.size, 1, none⟩ = some (.slice a5 1 c5) := by rw [← hb6, hB68.cell (World.block_lt_of_cell? _ _ HC6.out.2)]; exact HC6.out.2
  obtain ⟨W9, hW9⟩ : ∃ W, W = W8.alloc (.cells #[.string ⟨#[65]⟩, .string ⟨#[49]⟩] 53) := ⟨_, rfl⟩
  have hB9 : Below W8.heap.size W8 W9 := by rw [hW9]; exact (Below.refl _ _).alloc (Nat.le_refl _) _
  have hA9 : FA W9 (.slice (some ⟨W8.heap.size, 0, none⟩) 1 1) [([65], [49])] W8.heap.size 0 := by
    rw [hW9]; exact fa_row (row_new W8 _ _) rfl rfl
  have hB69 := hB68.trans (hB9.mono hB68.size)
  have HS2 := Lib.hid (sameF13_true _ _ _ _ _ _ _ (by decide) W9 (H6.out.2.2.below hB69) hA9)
  have H9 := Lib.hid (H6.out.1.trans (hB69.mono H6.out.1.size))
  rw [hW9] at HS2
  clear hB8 hB68 hB9 hA9 hB69 c40 c41 c42 c60 c61 HS1 HC6 H6
  go_wp2_with fail
  refine HS2.out.mono ?_
  rintro e W10 ⟨rfl, hB10⟩
  rw [← hW9] at hB10
  have HE := Lib.hid (H9.out.trans (hB10.mono H9.out.size))
  clear hB10
  go_wp2
  go_ret
  exact ⟨rfl, HE.out⟩
end Go.Proofs.YtbnlkjoblngakaaDoor
