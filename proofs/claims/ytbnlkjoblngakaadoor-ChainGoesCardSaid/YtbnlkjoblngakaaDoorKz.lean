/- The law's given (stage 13) walked: steps as the document's. -/
import Derived.Test.YtbnlkjoblngakaaDoorKw
namespace Go.Proofs.YtbnlkjoblngakaaDoor
open Go.RowKit Go.Shelf
attribute [local go_sem] store_one S_match S_store

/-- New steps of one's own, the document's. -/
def GO (base : Nat) (V : Value) (l : List Stp) (w : World) : Prop := w.ownsRow base 37 4 V l.length (stCells l)
theorem stCells_len (l : List Stp) : (stCells l).length = l.length * 4 := by
  unfold stCells
  induction l with
  | nil => rfl
  | cons s r ih => rw [List.flatMap_cons, List.length_append, ih, List.length_cons]; simp [stC]; omega
theorem stCells_snoc (l : List Stp) (s : Stp) : stCells (l ++ [s]) = stCells l ++ (stC s).toList := by
  unfold stCells; rw [List.flatMap_append]; simp
theorem GO.stb {base : Nat} {V : Value} {l : List Stp} {w : World} (h : GO base V l w) : ∃ g, StB w V l g 0 ∧ (l = [] ∨ (base ≤ g ∧ g < w.heap.size)) := by
  unfold GO at h
  rcases h.2 with ⟨rfl, h0⟩ | ⟨g, cap, cur, rfl, hb, hg, hn, hm, hs, ht⟩
  · have : l = [] := List.length_eq_zero_iff.1 h0
    subst this
    exact ⟨0, ⟨fun T w' => by simp [Builtin.len_, run_underlying Tryd.underlying30, Result.andThen, goInt], fun i hi => absurd hi (by simp), fun i s hs => (by simp at hs)⟩, .inl rfl⟩
  · refine ⟨g, ⟨fun T w' => by simp [Builtin.len_, run_underlying Tryd.underlying30, Result.andThen, goInt], fun i hi w' => ?_, fun i s hs' j v hv => ?_⟩, .inr ⟨hb, (Array.getElem?_eq_some_iff.1 hg).1⟩⟩
    · exact run_index_at (P := Tryd.prog) Tryd.underlying30 (fun w => Tryd.sizeOf37 w) g 0 l.length cap i hi w'
    · have h1 := stCells_get l i s hs' j v hv
      rw [← ht, List.getElem?_take] at h1
      rw [Nat.zero_add, cell_of_row w g _ cur 37 (0, 0) hg]
      split at h1
      · simpa using h1
      · cases h1
theorem GO.own_lo {base : Nat} {V : Value} {l : List Stp} {w : World} (h : GO base V l w) {k : Nat} (hk : V.ownBlock = some k) : base ≤ k ∧ k < w.heap.size := by
  unfold GO at h
  rcases h.2 with ⟨h0, _⟩ | ⟨g, cap, cur, h1, h2, h3, h4⟩
  · rw [h0] at hk; cases hk
  · rw [h1] at hk; injection hk with hk; subst hk; exact ⟨h2, (Array.getElem?_eq_some_iff.1 h3).1⟩
theorem GO.below {base : Nat} {V : Value} {l : List Stp} {w w' : World} (h : GO base V l w) (hb : Below w.heap.size w w') : GO base V l w' := by
  unfold GO at h ⊢
  rcases h.2 with hn | ⟨g, cap, cur, h1, h2, h3, h4⟩
  · exact ⟨h.1, .inl hn⟩
  · exact ⟨h.1, .inr ⟨g, cap, cur, h1, h2, (by rw [hb.block g (Array.getElem?_eq_some_iff.1 h3).1]; exact h3), h4⟩⟩
theorem own_cellB {w : World} {base : Nat} {e : TypeId} {k g n m c : Nat} {xs : List Value} (h : w.ownsRow base e k (.slice (some ⟨g, 0, none⟩) n c) m xs) : ∀ (j : Nat) (u : Value), xs[j]? = some u → w.cell? ⟨g, j, none⟩ = some u := by
  intro j u hu
  rcases h.2 with ⟨h0, _⟩ | ⟨g', cap, cur, h1, h2, h3, _, _, _, ht⟩
  · cases h0
  · simp only [Value.slice.injEq, Option.some.injEq, Addr.mk.injEq] at h1
    obtain ⟨⟨rfl, -⟩, -⟩ := h1
    rw [cell_of_row w g _ cur e (0, 0) h3]
    rw [← ht, List.getElem?_take] at hu
    split at hu
    · simpa using hu
    · cases hu
theorem st_last (l : List Stp) (i : Nat) (hi : i ≤ l.length) (xs : List Value) (j : Nat) : (stCells (l.take i) ++ xs)[i * 4 + j]? = xs[j]? := by
  have h : (stCells (l.take i)).length = i * 4 := by rw [stCells_len, List.length_take, Nat.min_eq_left hi]
  rw [List.getElem?_append_right (by omega), h, Nat.add_sub_cancel_left]
theorem eleSt : EleK Tryd.prog 37 4 := eleK_of (z := .agg #[.int .i64 0, .string ⟨#[]⟩, .string ⟨#[]⟩, .int .i64 0]) (n := 48) (by kernel_rfl) (by decide) rfl
set_option maxRecDepth 100000 in
set_option maxHeartbeats 1000000 in
theorem given13_any (l : List Stp) (V : Value) (b o : Nat) (w : World) (hS : StA w V l b o) (sl : SmallS l) :
    Calls Tryd.prog 11 #[V] w fun e w' => ∃ V', e = .returned (.tuple #[V', .bool (l.all rightS)]) ∧ GO w.heap.size V' l w' ∧ Below w.heap.size w w' := by
  have hlS := hS.len 3
  obtain ⟨N, hN⟩ : ∃ N, N = l.length := ⟨_, rfl⟩
  rw [← hN] at hlS
  have hN12 : N ≤ 12 := by rw [hN]; exact sl.1
  have HN := Lib.hid hN
  have HS := Lib.hid hS
  have HSL := Lib.hid sl
  have H0 : Hid (GO w.heap.size (.slice none 0 0) (l.take 0) w ∧ Below w.heap.size w w) := Lib.hid ⟨by unfold GO; exact ⟨rfl, .inl ⟨rfl, rfl⟩⟩, Below.refl _ _⟩
  clear hN hS sl
  go_enter Tryd.func11, Tryd.ntmps11
  go_wp2
  go_loopw [4, 5, 6] (fun ov bv iv wr => ∃ (i : Nat) (a : Option Addr) (c : Nat), i ≤ N ∧ ov = .slice a i c ∧ bv = .bool ((l.take i).all rightS) ∧ iv = .int .i64 (i : Int) ∧ Hid (GO w.heap.size (.slice a i c) (l.take i) wr ∧ Below w.heap.size w wr)) (fun _ _ iv _ => N - (intOf iv).toNat)
  case atStart => exact ⟨0, none, 0, Nat.zero_le _, rfl, rfl, rfl, H0⟩
  case round =>
    obtain ⟨i, a, c, hi, rfl, rfl, rfl, HI⟩ := hrel
    have hw1 : IntKind.i64.wrap ((i : Int) + 1) = (i : Int) + 1 := by rw [IntKind.wrap_i64]; omega
    by_cases hlt : i < N
    · have g1 : decide ((i : Int) < (N : Int)) = true := decide_eq_true (by omega)
      obtain ⟨s, hs⟩ : ∃ s, l[i]? = some s := ⟨l[i]'(by have := HN.out; omega), List.getElem?_eq_getElem _⟩
      have hst := HS.out.below HI.out.2
      have hix := hst.index i (by have := HN.out; omega)
      obtain ⟨kk, hkk⟩ : ∃ k, k = o + i * 4 := ⟨_, rfl⟩
      rw [← hkk] at hix
      have hti : l.take (i + 1) = l.take i ++ [s] := by rw [List.take_add_one, hs]; rfl
      have HTI := Lib.hid hti
      have hsm := HSL.out.2 s (List.mem_of_getElem? hs)
      have HR : Hid (∀ W : World, Calls Tryd.prog 13 #[stV s] W fun e w' => e = .returned (.bool (rightS s)) ∧ Below W.heap.size W w') := Lib.hid fun W => right13_any s hsm.1 hsm.2 W
      obtain ⟨kd, nm, vl, n⟩ := s
      have s0 : wr.cell? ⟨b, kk, none⟩ = some (.int .i64 kd) := by rw [hkk]; exact hst.cell i _ hs 0 _ rfl
      have s1 : wr.cell? ⟨b, kk + 1, none⟩ = some (S nm) := by rw [hkk]; exact hst.cell i _ hs 1 _ rfl
      have s2 : wr.cell? ⟨b, kk + 2, none⟩ = some (S vl) := by rw [hkk]; exact hst.cell i _ hs 2 _ rfl
      have s3 : wr.cell? ⟨b, kk + 3, none⟩ = some (.int .i64 n) := by rw [hkk]; exact hst.cell i _ hs 3 _ rfl
      have hown : wr.ownsRow w.heap.size 37 4 (.slice a i c) i (stCells (l.take i)) := by
        have h := HI.out.1
        unfold GO at h
        rwa [List.length_take, Nat.min_eq_left (by have := HN.out; omega)] at h
      have HO := Lib.hid hown
      have HLT : Hid (i < l.length) := Lib.hid (by have := HN.out; omega)
      have hpre : (l.take (i + 1)).all rightS = ((l.take i).all rightS && rightS ⟨kd, nm, vl, n⟩) := by rw [hti, List.all_append]; simp
      have HP := Lib.hid hpre
      clear hst hkk hti hsm hs hown hpre
      generalize hr : (l.take i).all rightS = bb at *
      clear hr
      cases bb with
      | false =>
        go_wp2_with first
          | (at_builtin; refine wpList_addK rfl 30 37 (.tmp 13) (.tmp 18) rfl Tryd.underlying30 eleSt (by decide) w.heap.size wr _ rfl i _ HO.out #[.int .i64 kd, S nm, S vl, .int .i64 n] rfl (by intro u hu; simp at hu; rcases hu with rfl | rfl | rfl | rfl <;> rfl) rfl _ rfl rfl (by omega) HI.out.2.size ?_; intro g7 c7 W7 o7 w7; have H7 : Hid (GO w.heap.size (.slice (some ⟨g7, 0, none⟩) (i + 1) c7) (l.take (i + 1)) W7 ∧ Below w.heap.size w W7) := Lib.hid ⟨by unfold GO; rw [HTI.out, stCells_snoc, List.length_append, List.length_take, Nat.min_eq_left (by have := HLT.out; omega)]; exact o7, below_grown HI.out.2 w7 (fun k hk => (HI.out.1.own_lo hk).1) HI.out.2.size⟩; clear o7 w7)
        exact ⟨⟨i + 1, some ⟨g7, 0, none⟩, c7, by omega, rfl, by rw [HP.out, Bool.false_and], by go_num, H7⟩, by simp [intOf]; omega⟩
      | true =>
        go_wp2_with first
          | (at_builtin; refine wpList_addK rfl 30 37 (.tmp 13) (.tmp 18) rfl Tryd.underlying30 eleSt (by decide) w.heap.size wr _ rfl i _ HO.out #[.int .i64 kd, S nm, S vl, .int .i64 n] rfl (by intro u hu; simp at hu; rcases hu with rfl | rfl | rfl | rfl <;> rfl) rfl _ rfl rfl (by omega) HI.out.2.size ?_; intro g7 c7 W7 o7 w7; have H7 : Hid (GO w.heap.size (.slice (some ⟨g7, 0, none⟩) (i + 1) c7) (l.take (i + 1)) W7 ∧ Below w.heap.size w W7) := Lib.hid ⟨by unfold GO; rw [HTI.out, stCells_snoc, List.length_append, List.length_take, Nat.min_eq_left (by have := HLT.out; omega)]; exact o7, below_grown HI.out.2 w7 (fun k hk => (HI.out.1.own_lo hk).1) HI.out.2.size⟩; have hc7 := own_cellB o7; have t0 : W7.cell? ⟨g7, i * 4, none⟩ = some (.int .i64 kd) := hc7 (i * 4 + 0) _ (by rw [st_last _ _ (by have := HLT.out; omega)]; rfl); have t1 : W7.cell? ⟨g7, i * 4 + 1, none⟩ = some (S nm) := hc7 (i * 4 + 1) _ (by rw [st_last _ _ (by have := HLT.out; omega)]; rfl); have t2 : W7.cell? ⟨g7, i * 4 + 2, none⟩ = some (S vl) := hc7 (i * 4 + 2) _ (by rw [st_last _ _ (by have := HLT.out; omega)]; rfl); have t3 : W7.cell? ⟨g7, i * 4 + 3, none⟩ = some (.int .i64 n) := hc7 (i * 4 + 3) _ (by rw [st_last _ _ (by have := HLT.out; omega)]; rfl); have hi7 : ∀ w', (Instr.indexAt 30 (.slice (some ⟨g7, 0, none⟩) (i + 1) c7) (.int .i64 (i : Int))).run Tryd.prog w' = .ok (.pointer (some ⟨g7, i * 4, none⟩)) w' := (fun w' => by have h := run_index_at (P := Tryd.prog) Tryd.underlying30 (fun w => Tryd.sizeOf37 w) g7 0 (i + 1) c7 i (by omega) w'; rwa [Nat.zero_add] at h); have HC := Lib.hid (HR.out W7); clear o7 w7 hc7)
        refine HC.out.mono ?_
        rintro e W8 ⟨rfl, hB8⟩
        have H8 : Hid (GO w.heap.size (.slice (some ⟨g7, 0, none⟩) (i + 1) c7) (l.take (i + 1)) W8 ∧ Below w.heap.size w W8) := Lib.hid ⟨H7.out.1.below hB8, H7.out.2.trans (hB8.mono H7.out.2.size)⟩
        clear hB8
        go_wp2
        exact ⟨⟨i + 1, some ⟨g7, 0, none⟩, c7, by omega, rfl, by rw [HP.out, Bool.true_and], by go_num, H8⟩, by simp [intOf]; omega⟩
    · have g1 : decide ((i : Int) < (N : Int)) = false := decide_eq_false (by omega)
      have hiN : l.take i = l := by rw [show i = l.length by have := HN.out; omega, List.take_length]
      have HE : Hid (GO w.heap.size (.slice a i c) l wr ∧ Below w.heap.size w wr) := Lib.hid ⟨by have h := HI.out.1; rwa [hiN] at h, HI.out.2⟩
      rw [hiN]
      clear hiN
      go_wp2
      go_ret2
      exact ⟨_, rfl, HE.out⟩
end Go.Proofs.YtbnlkjoblngakaaDoor
