/- The walk of UtfSpells. -/
import Derived.Test.YtmamklahnpmgjaaM3
import Derived.Test.YtmamklahnpmgjaaW10
namespace Go.Proofs.Ytmamklahnpmgjaa
open Go.RowKit Go.Shelf

theorem S_match (x : List UInt8) : (@Value.cells.match_1 (fun _ => Array Value) (S x) (fun cs => cs) (fun v => #[v])) = #[S x] := rfl
theorem S_store (P : Program) (w : World) (a : Addr) (x : List UInt8) (m : Mode) (hc : (w.cell? a).isSome = true) (hf : w.frozen? a = false) : (store a (S x) m).run P w = .ok () (w.setCell a (S x)) :=
  run_store_ok P w a (S x) m rfl hc hf
attribute [local go_sem] store_one Oper.semAt_some S_match S_store

/-- Where the last one begins. -/
def lastAt (l : List (Nat × Nat)) : Nat := (l.getLast?.map (·.1)).getD 0
theorem lastAt_snoc (l : List (Nat × Nat)) (x : Nat × Nat) : lastAt (l ++ [x]) = x.1 := by simp [lastAt]
theorem lastAt_le (s : List UInt8) : lastAt (chars s) ≤ s.length := by
  unfold lastAt
  cases h : (chars s).getLast? with
  | none => exact Nat.zero_le _
  | some x =>
    have := chars_le s 0 0 [] (Nat.le_refl _) x (List.mem_of_getLast? h)
    show x.1 ≤ _
    omega

/-- What is held to the end. -/
structure Held (w : World) (n1 : Nat) (o : List UInt8) (D : Nat) (X : World) : Prop where
  r3 : Row X n1 #[S o] 9
  r2 : Row X w.heap.size #[.bool false] 4
  d : X.heap[D]? = some (.deferred (some []))
  b : Below w.heap.size w X
theorem Held.below {w : World} {n1 D : Nat} {o : List UInt8} {X X' : World} (h : Held w n1 o D X) (hb : Below X.heap.size X X') : Held w n1 o D X' :=
  ⟨h.r3.below hb h.r3.lt, h.r2.below hb h.r2.lt, by rw [hb.block _ (Array.getElem?_eq_some_iff.1 h.d).1]; exact h.d, h.b.trans (hb.mono h.b.size)⟩
set_option maxRecDepth 100000 in
set_option maxHeartbeats 1000000 in
theorem spells_walk (s : List UInt8) (hs : s.length ≤ 5000) (w : World) : Calls Try.prog 8 #[S s] w fun e w' => e = .returned (.bool true) ∧ Below w.heap.size w w' := by
  have hlenS := run_len_S (P := Try.prog) Try.underlying9 3 s
  have hgt : decide (5000 < (s.length : Int)) = false := decide_eq_false (by omega)
  refine (callsIn_wide (n := 5)).1 (callsIn_of_wp_marks Try.func8 rfl trivial ?_ rfl)
  simp only [Try.ntmps8, List.size_toArray, List.length_cons, List.length_nil, Nat.reduceAdd, Nat.reduceSub, Array.replicate_succ, Array.replicate_zero, List.push_toArray, List.append_toArray, List.nil_append, List.cons_append]
  gi_wp2_with fail
  refine ⟨trivial, (callsIn_wide.2 (awake_any _)).mono ?_⟩
  rintro e W1 ⟨rfl, hB1⟩
  have hr2 : Row W1 w.heap.size #[.bool false] 4 := (row_new w #[.bool false] 4).below hB1 (by simp)
  have H1 := Lib.hid (And.intro hr2 (((Below.refl _ w).alloc (Nat.le_refl _) (.cells #[.bool false] 4)).trans (hB1.mono (by simp))))
  clear hr2 hB1
  have hnl : ∀ (bb : Nat) w, (binOp .eql 33 (.func (.func 24) #[] #[.pointer (some ⟨bb, 0, none⟩)]) .nilFunc).run Try.prog w = .ok (.bool false) w := fun bb w => eql_nilFunc Try.underlying33 _ _ _ w
  gi_wp2_with fail
  refine ⟨trivial, (callsIn_wide.2 (runesFn_any s _)).mono ?_⟩
  rintro e W7 ⟨rfl, rfl⟩
  gi_wp2_with fail
  refine ⟨trivial, (callsIn_wide.2 (runesFn_any s _)).mono ?_⟩
  rintro e W8 ⟨rfl, rfl⟩
  obtain ⟨n1, hn1⟩ : ∃ n, n = W1.heap.size := ⟨_, rfl⟩
  obtain ⟨W9, hW9⟩ : ∃ W, W = (((W1.alloc (.cells #[S []] 9)).alloc (.cells #[.int .i64 0] 3)).alloc (.cells #[S s] 9)).alloc (.cells #[S s] 9) := ⟨_, rfl⟩
  have hz9 : W9.heap.size = n1 + 4 := by rw [hW9, hn1]; simp
  have hB9 : Below W1.heap.size W1 W9 := by
    rw [hW9]; exact ((((Below.refl _ _).alloc (Nat.le_refl _) _).alloc (by simp) _).alloc (by simp; omega) _).alloc (by simp; omega) _
  have r3 : Row W9 n1 #[S []] 9 := by
    rw [hW9, hn1]; unfold Row; repeat (first | exact alloc_at _ _ _ (by simp) | refine alloc_at_old _ _ _ _ ?_)
  have r4 : Row W9 (n1 + 1) #[.int .i64 0] 3 := by
    rw [hW9, hn1]; unfold Row; repeat (first | exact alloc_at _ _ _ (by simp) | refine alloc_at_old _ _ _ _ ?_)
  have rS : Row W9 (n1 + 3) #[S s] 9 := by
    rw [hW9, hn1]; unfold Row; repeat (first | exact alloc_at _ _ _ (by simp) | refine alloc_at_old _ _ _ _ ?_)
  have hb2 : w.heap.size < n1 := by rw [hn1]; exact H1.out.1.lt
  have H9 := Lib.hid (And.intro r3 (And.intro r4 (And.intro (H1.out.1.below hB9 H1.out.1.lt) (And.intro (H1.out.2.trans (hB9.mono H1.out.2.size)) rS))))
  have hW9' : (((W1.alloc (.cells #[.string ⟨#[]⟩] 9)).alloc (.cells #[.int .i64 0] 3)).alloc (.cells #[S s] 9)).alloc (.cells #[S s] 9) = W9 := hW9.symm
  have hsz : (((W1.alloc (.cells #[.string ⟨#[]⟩] 9)).alloc (.cells #[.int .i64 0] 3)).alloc (.cells #[S s] 9)).heap.size = n1 + 3 := by rw [hn1]; simp
  rw [hsz, hW9', ← hn1]
  clear hW9 hW9' hB9 r3 r4 rS hsz hn1 H1
  gi_wp2
  refine wpIn_rangeFunc_L2 (gf := 24) (lb := #[.pointer (some ⟨n1 + 3, 0, none⟩)]) rfl (enters_of Try.func24 (by kernel_rfl) rfl)
    (fun m => runes_seq s (by omega) (n1 + 3) m) (fun r e => by omega) (fun W hb => H9.out.2.2.2.2.below hb (by omega)) (fun _ => rfl)
    (fun pre W => Row W n1 #[S (s.take (lastTo 0 pre))] 9 ∧ Row W (n1 + 1) #[.int .i64 (lastAt pre : Int)] 3 ∧ Row W w.heap.size #[.bool false] 4 ∧ Below w.heap.size w W)
    (fun _ _ _ => False)
    ((abidesIn_block (fun _ => _) (.inl (by omega))).and ((abidesIn_block (fun _ => _) (.inl (by omega))).and ((abidesIn_block (fun _ => _) (.inl (by omega))).and (abidesIn_below (by omega)))))
    (fun _ _ _ _ _ hs _ _ => hs)
    ⟨H9.out.1, H9.out.2.1, H9.out.2.2.1, H9.out.2.2.2.1⟩
    ?round ?done ?stop
  case round =>
    intro l pre x W1 K hpx hK
    unfold encR
    gi_wp2
    rintro W ⟨h3, h4, h2, hB⟩ hsz
    have hmem := hpx.subset (List.mem_append.2 (.inr (List.mem_singleton.2 rfl)))
    have hat := chars_at hpx
    have hch := char_num (char_of hmem)
    have hle := chars_le s 0 0 [] (Nat.le_refl _) x hmem
    rw [← hat] at h3
    have hconv : ∀ w, (convert 21 9 (.int .i32 (numAt s x : Int))).run Try.prog w = .ok (S ((s.drop x.1).take (x.2 - x.1))) w := fun w => by
      have : Conv.intToString (numAt s x : Int) = pure (S ((s.drop x.1).take (x.2 - x.1))) := by
        unfold Conv.intToString; rw [numAt, hch.2]; rfl
      simp [convert, run_underlying Try.underlying21, run_underlying Try.underlying9, this, Result.andThen]
    have hjoin : s.take x.1 ++ (s.drop x.1).take (x.2 - x.1) = s.take x.2 := by
      rw [← List.take_add, show x.1 + (x.2 - x.1) = x.2 by omega]
    have hadd : binOp .add 9 (S (s.take x.1)) (S ((s.drop x.1).take (x.2 - x.1))) = pure (S (s.take x.2)) := by
      rw [← hjoin]; exact S_add 9 _ _ (by rw [List.length_take, List.length_take, List.length_drop]; omega)
    have hlo := run_len_S (P := Try.prog) Try.underlying9 3 (s.take x.1)
    rw [List.length_take, Nat.min_eq_left (by omega)] at hlo
    have hy : numAt s x < 55296 ∨ (57344 ≤ numAt s x ∧ numAt s x ≤ 1114111) := hch.1
    have c3 := h3.cell0
    have c4 := h4.cell0
    have f3 := h3.frozen 0
    have f4 := h4.frozen 0
    have HI := Lib.hid (And.intro h3 (And.intro h4 (And.intro h2 hB)))
    clear h3 h4 h2 hB hch hjoin hmem hpx hat
    generalize numAt s x = y at *
    generalize (s.drop x.1).take (x.2 - x.1) = u at *
    generalize s.take x.1 = o at *
    rcases hy with hy | ⟨hy1, hy2⟩
    · gi_wp2
      obtain ⟨h3, h4, h2, hB⟩ := HI.out
      refine ⟨⟨by simp [World.setCell], fun r h => ?_⟩, ?_, ?_, ?_, ?_⟩
      · rw [Below.heap_setCell _ _ _ _ (show r ≠ n1 + 1 by omega), Below.heap_setCell _ _ _ _ (show r ≠ n1 by omega)]
      · rw [lastTo_snoc]; exact (h3.set 0 _).other (by show n1 ≠ n1 + 1; omega)
      · rw [lastAt_snoc]; exact (h4.other (by show n1 + 1 ≠ n1; omega)).set 0 _
      · exact (h2.other (by show _ ≠ n1; omega)).other (by show _ ≠ n1 + 1; omega)
      · exact (hB.setCell (p := ⟨n1, 0, none⟩) (by show _ ≤ n1; omega) _).setCell (p := ⟨n1 + 1, 0, none⟩) (by show _ ≤ n1 + 1; omega) _
    · gi_wp2
      obtain ⟨h3, h4, h2, hB⟩ := HI.out
      refine ⟨⟨by simp [World.setCell], fun r h => ?_⟩, ?_, ?_, ?_, ?_⟩
      · rw [Below.heap_setCell _ _ _ _ (show r ≠ n1 + 1 by omega), Below.heap_setCell _ _ _ _ (show r ≠ n1 by omega)]
      · rw [lastTo_snoc]; exact (h3.set 0 _).other (by show n1 ≠ n1 + 1; omega)
      · rw [lastAt_snoc]; exact (h4.other (by show n1 + 1 ≠ n1; omega)).set 0 _
      · exact (h2.other (by show _ ≠ n1; omega)).other (by show _ ≠ n1 + 1; omega)
      · exact (hB.setCell (p := ⟨n1, 0, none⟩) (by show _ ≤ n1; omega) _).setCell (p := ⟨n1 + 1, 0, none⟩) (by show _ ≤ n1 + 1; omega) _
  case done =>
    rintro W ⟨h3, h4, h2, hB⟩ hK
    obtain ⟨htx, hml⟩ := text_ahead s
    have hla := lastAt_le s
    have heq := lastTo_text s
    obtain ⟨m, hm⟩ : ∃ m, m = lastTo 0 (chars s) := ⟨_, rfl⟩
    obtain ⟨q, hq⟩ : ∃ q, q = lastAt (chars s) := ⟨_, rfl⟩
    rw [← hm] at h3 htx hml heq
    rw [← hq] at h4 hla
    have hsl : ∀ w, (Instr.slice 9 (S s) none (some (.int .i64 (m : Int))) none).run Try.prog w = .ok (S (s.take m)) w := fun w => slice_take (P := Try.prog) Try.underlying9 s m hml w
    have hlo := run_len_S (P := Try.prog) Try.underlying9 3 (s.take m)
    rw [List.length_take, Nat.min_eq_left hml] at hlo
    have hne := neql_S 9 (s.take m) (s.take m)
    rw [show ((s.take m) != (s.take m)) = false by simp] at hne
    have hng := nguard_S 9
    have he := eql_S 9 (s.take m) s
    have heg := guard_S 9
    have hb : ((s.take m) == s) = textB s := by
      rw [Bool.eq_iff_iff, beq_iff_eq, ← heq]
      constructor
      · intro h
        have := congrArg List.length h
        rw [List.length_take] at this; omega
      · intro h; rw [h, List.take_length]
    rw [hb] at he
    have hg1 : decide ((s.length : Int) < (m : Int)) = false := decide_eq_false (by omega)
    have hg2 : decide ((s.length : Int) < (q : Int)) = false := decide_eq_false (by omega)
    have c3 := h3.cell0
    have c4 := h4.cell0
    have HI := Lib.hid (And.intro h3 (And.intro h4 (And.intro h2 hB)))
    have HT := Lib.hid htx
    have hol : (s.take m).length < 1000000000 := by rw [List.length_take]; omega
    clear h3 h4 h2 hB hm hq heq hb htx
    generalize s.take m = o at *
    gi_wp2
    rw [wpIn_wide]
    go_quiet (fail)
    gi_wp2
    rw [wpIn_wide]
    have hD : n1 + 4 = W9.heap.size := hz9.symm
    have G0 : Held w n1 o (n1 + 4) (W.drewN nq).drew := by
      have g0 : Held w n1 o (n1 + 4) W := ⟨HI.out.1, HI.out.2.2.1, by rw [hD]; exact hK, HI.out.2.2.2⟩
      exact g0.below (below_drewN W (nq + 1))
    obtain ⟨tv, htv⟩ : ∃ tv, textB s = tv := ⟨_, rfl⟩
    rw [htv] at he
    clear c3 c4 hD
    refine wp_region_noPanic ?_
    refine wp_region_held_drew (S := fun w' => w'.cell? ⟨n1, 0, none⟩ = some (S o)) (by kernel_rfl) G0.r3.cell0 (fun _ => ?_)
    refine take_at (i := 0) (d := some 63) (v := S o) rfl (by kernel_rfl) (by kernel_rfl) (by kernel_rfl) (fun _ _ _ h => h) (fun oi ho => ?_) G0.r3.cell0 ?_
    · obtain rfl := Option.some.inj ho
      exact Or.inl ⟨by rfl, fun wx hSw => by go_simp⟩
    simp only [Act.put, List.setIfInBounds_toArray, List.set_cons_zero, List.set_cons_succ]
    refine ready_call (i := 1) (d := some 64) (f := 15) (args := #[S o]) rfl (by kernel_rfl) (fun oi ho => ?_) ?_
    · obtain rfl := Option.some.inj ho
      exact ⟨by rfl, by go_simp⟩
    refine (valid_any o hol _).mono ?_
    rintro e X1 ⟨rfl, C1⟩
    have G1 := G0.below C1
    refine ⟨_, rfl, G1.r3.cell0, ?_⟩
    clear G0 C1
    simp only [Act.put, List.setIfInBounds_toArray, List.set_cons_zero, List.set_cons_succ]
    rw [HT.out]
    refine take_at (i := 2) (d := some 65) (v := .bool true) rfl (by kernel_rfl) (by kernel_rfl) (by kernel_rfl) (fun _ _ _ h => h) (fun oi ho => ?_) G1.r3.cell0 ?_
    · obtain rfl := Option.some.inj ho
      exact Or.inl ⟨by rfl, fun wx hSw => by go_simp⟩
    simp only [Act.put, List.setIfInBounds_toArray, List.set_cons_zero, List.set_cons_succ]
    refine take_at (i := 3) (d := some 66) (v := S s) rfl (by kernel_rfl) (by kernel_rfl) (by kernel_rfl) (fun _ _ _ h => h) (fun oi ho => ?_) G1.r3.cell0 ?_
    · obtain rfl := Option.some.inj ho
      exact Or.inl ⟨by rfl, fun wx hSw => by go_simp⟩
    simp only [Act.put, List.setIfInBounds_toArray, List.set_cons_zero, List.set_cons_succ]
    refine take_at (i := 5) (d := some 68) (v := S o) rfl (by kernel_rfl) (by kernel_rfl) (by kernel_rfl) (fun _ _ _ h => h) (fun oi ho => ?_) G1.r3.cell0 ?_
    · obtain rfl := Option.some.inj ho
      exact Or.inl ⟨by rfl, fun wx hSw => by go_simp⟩
    simp only [Act.put, List.setIfInBounds_toArray, List.set_cons_zero, List.set_cons_succ]
    refine take_at (i := 6) (d := some 69) (v := S s) rfl (by kernel_rfl) (by kernel_rfl) (by kernel_rfl) (fun _ _ _ h => h) (fun oi ho => ?_) G1.r3.cell0 ?_
    · obtain rfl := Option.some.inj ho
      exact Or.inl ⟨by rfl, fun wx hSw => by go_simp⟩
    simp only [Act.put, List.setIfInBounds_toArray, List.set_cons_zero, List.set_cons_succ]
    refine take_at (i := 7) (d := some 70) (v := .bool tv) rfl (by kernel_rfl) (by kernel_rfl) (by kernel_rfl) (fun _ _ _ h => h) (fun oi ho => ?_) G1.r3.cell0 ?_
    · obtain rfl := Option.some.inj ho
      exact Or.inl ⟨by rfl, fun wx hSw => by go_simp⟩
    simp only [Act.put, List.setIfInBounds_toArray, List.set_cons_zero, List.set_cons_succ]
    refine ready_call (i := 4) (d := some 67) (f := 15) (args := #[S s]) rfl (by kernel_rfl) (fun oi ho => ?_) ?_
    · obtain rfl := Option.some.inj ho
      exact ⟨by rfl, by go_simp⟩
    refine (valid_any s (by omega) _).mono ?_
    rintro e X2 ⟨rfl, C2⟩
    have G2 := G1.below C2
    refine ⟨_, rfl, G2.r3.cell0, ?_⟩
    clear G1 C2
    simp only [Act.put, List.setIfInBounds_toArray, List.set_cons_zero, List.set_cons_succ]
    rw [htv]
    refine take_at (i := 8) (d := some 71) (v := .bool true) rfl (by kernel_rfl) (by kernel_rfl) (by kernel_rfl) (fun _ _ _ h => h) (fun oi ho => ?_) G2.r3.cell0 ?_
    · obtain rfl := Option.some.inj ho
      exact Or.inl ⟨by rfl, fun wx hSw => by go_simp⟩
    simp only [Act.put, List.setIfInBounds_toArray, List.set_cons_zero, List.set_cons_succ]
    refine take_at (i := 9) (d := some 72) (v := .bool true) rfl (by kernel_rfl) (by kernel_rfl) (by kernel_rfl) (fun _ _ _ h => h) (fun oi ho => ?_) G2.r3.cell0 ?_
    · obtain rfl := Option.some.inj ho
      exact Or.inl ⟨by rfl, fun wx hSw => by go_simp⟩
    simp only [Act.put, List.setIfInBounds_toArray, List.set_cons_zero, List.set_cons_succ]
    have c2 := G2.r2.cell0
    have f2 := G2.r2.frozen 0
    have E3 : (X2.setCell ⟨w.heap.size, 0, none⟩ (.bool true)).cell? ⟨n1, 0, none⟩ = some (S o) := (G2.r3.other (show n1 ≠ w.heap.size by omega)).cell0
    refine ready_skip (i := 10) (d := none) (w' := X2.setCell ⟨w.heap.size, 0, none⟩ (.bool true)) rfl (by kernel_rfl) (fun oi ho => ?_) E3 ?_
    · obtain rfl := Option.some.inj ho
      exact ⟨by rfl, by go_simp⟩
    refine wpAnyH_done (by kernel_rfl) ?_ _
    refine NoPanic.normal ?_
    gi_wp2
    have hK' := (KeepsOthers.setCell X2 ⟨w.heap.size, 0, none⟩ (.bool true)).same _ _ G2.d rfl
    refine ⟨by simp, .inl ⟨_, _, rfl, run_takeDeferred hK', ?_⟩⟩
    have hc5 : ((X2.setCell ⟨w.heap.size, 0, none⟩ (.bool true)).putObj (n1 + 4) (.deferred none)).cell? ⟨w.heap.size, 0, none⟩ = some (.bool true) :=
      cell_kept (World.cell?_setCell_same' X2 ⟨w.heap.size, 0, none⟩ (.bool true) (by rw [c2]; rfl)) (grownBy_putObj' _ _ (.deferred none)) (fun r e => by cases e; exact ⟨_, hK', rfl⟩)
    refine ⟨.bool true, ?_, rfl, (G2.b.setCell (p := ⟨w.heap.size, 0, none⟩) (Nat.le_refl _) _).grown (grownBy_putObj' _ _ _) (by have := G2.b.size; simpa [World.setCell] using this) (fun k e => by cases e; omega)⟩
    simp [results, Try.f8, go_sem, hc5]
  case stop =>
    rintro c pre W _ h _
    exact h.elim
theorem spells_law (s : List UInt8) (w : World) : Calls Try.prog 8 #[S s] w fun e w' => e = .returned (.bool true) ∧ Below w.heap.size w w' := by
  by_cases hs : s.length ≤ 5000
  · exact spells_walk s hs w
  · have hlenS := run_len_S (P := Try.prog) Try.underlying9 3 s
    have hgt : decide (5000 < (s.length : Int)) = true := decide_eq_true (by omega)
    refine (callsIn_wide (n := 5)).1 (callsIn_of_wp_marks Try.func8 rfl trivial ?_ rfl)
    simp only [Try.ntmps8, List.size_toArray, List.length_cons, List.length_nil, Nat.reduceAdd, Nat.reduceSub, Array.replicate_succ, Array.replicate_zero, List.push_toArray, List.append_toArray, List.nil_append, List.cons_append]
    gi_wp2_with fail
    refine ⟨trivial, (callsIn_wide.2 (awake_any _)).mono ?_⟩
    rintro e W1 ⟨rfl, hB1⟩
    have hr2 : Row W1 w.heap.size #[.bool false] 4 := (row_new w #[.bool false] 4).below hB1 (by simp)
    have c2 := hr2.cell0
    have f2 := hr2.frozen 0
    have H1 := Lib.hid (And.intro hr2 (((Below.refl _ w).alloc (Nat.le_refl _) (.cells #[.bool false] 4)).trans (hB1.mono (by simp))))
    clear hr2 hB1
    gi_wp2
    have hc5 : (W1.setCell ⟨w.heap.size, 0, none⟩ (.bool true)).cell? ⟨w.heap.size, 0, none⟩ = some (.bool true) := World.cell?_setCell_same' W1 ⟨w.heap.size, 0, none⟩ (.bool true) (by rw [c2]; rfl)
    refine ⟨.bool true, ?_, rfl, H1.out.2.setCell (p := ⟨w.heap.size, 0, none⟩) (Nat.le_refl _) _⟩
    simp [results, Try.f8, go_sem, hc5]
end Go.Proofs.Ytmamklahnpmgjaa
