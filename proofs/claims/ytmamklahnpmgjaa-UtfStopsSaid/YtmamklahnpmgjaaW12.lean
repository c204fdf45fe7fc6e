/- The walk of UtfStops. -/
import Derived.Test.YtmamklahnpmgjaaW11
namespace Go.Proofs.Ytmamklahnpmgjaa
open Go.RowKit Go.Shelf
attribute [local go_sem] store_one Oper.semAt_some S_match S_store

/-- An append, by its run. -/
theorem wpListIn_append_run {F : Fence} {n : Nat} {P : Program} {w : World} {ops : Array Oper} {rest : List Oper} {o : Oper} {a : Act} {Q : Exit → Act → World → Prop} (hgd : o.guard = none) (s x : Operand) (t : TypeId)
    (ho : o.op = .call { callee := .builtin .append, args := #[s, x], argTypes := #[t, t] }) (v u : Value) (hs : a.eval s = v) (hx : a.eval x = u) (v' : Value) (w' : World)
    (hrun : (Builtin.append_ #[t, t] o.type #[v, u]).run P w = .ok v' w') (h : wpListIn F n P ops Q rest (a.put o.dst v') w') : wpListIn F n P ops Q (o :: rest) a w := by
  refine wpListIn_plain hgd fun K hK' => ?_
  unfold Oper.wpIn
  refine ⟨?_, ?_⟩
  · simp [Oper.about, ho, resolve, Target.leads, Sem.run_pure]
  · rw [Oper.semAt_plain F _ _ (by rw [ho]; intro c hc'; cases hc')]
    simp [execOp, ho, resolve, invoke, builtin, hs, hx, hrun, Result.andThen]
    exact hK' _ _ h
theorem elem21 : Elem Try.prog 21 := elem_of (z := .int .i32 0) (n := 4) (by kernel_rfl) (by omega) rfl
/-- A rune as a value. -/
def I32 (n : Nat) : Value := .int .i32 (n : Int)
theorem own_abides {base k : Nat} {v : Value} {xs : List Value} {w : World} (h : Own base v xs w) {β : Type} : AbidesIn w.heap.size k (fun (_ : β) W => Own base v xs W) :=
  fun _ _ _ _ hs hg hr => hs.grown hg (fun j hj e => by have := hr j e.symm; have := (h.lt j hj).2; omega)
theorem own_set_other {base : Nat} {v : Value} {xs : List Value} {w : World} {a : Addr} {u : Value} (h : Own base v xs w) (hn : ∀ k, v.ownBlock = some k → k ≠ a.block) : Own base v xs (w.setCell a u) :=
  h.of_block (by simp [World.setCell]) (fun k hk => Below.heap_setCell _ _ _ _ (hn k hk))
/-- One element appended: the run of it. -/
theorem push_run {W : World} {base : Nat} {v : Value} {xs : List Value} (ho : Own base v xs W) (y : Nat) (hlen : xs.length < 1000000) (hb : base ≤ W.heap.size) :
    ∃ a n c w', (Builtin.append_ #[42, 42] 42 #[v, .slice (some ⟨W.heap.size, 0, none⟩) 1 1]).run Try.prog (W.alloc (.cells #[.int .i32 (y : Int)] 21)) = .ok (.slice a n c) w' ∧ Own base (.slice a n c) (xs ++ [I32 y]) w' ∧
      W.grownBy w' v.ownBlock := by
  obtain ⟨i, z, hi, hz, hs, hby, hzs⟩ := elem21
  have hy : (W.alloc (.cells #[.int .i32 (y : Int)] 21)).cell? ⟨W.heap.size, 0, none⟩ = some (.int .i32 (y : Int)) := (row_new W #[.int .i32 (y : Int)] 21).cell0
  obtain ⟨v', w', hr, h2, h3, h4⟩ := run_push (P := Try.prog) _ base 42 42 21 i z Try.underlying42 hi hz hs hby hzs v xs (ho.alloc _) ⟨W.heap.size, 0, none⟩ _ hy rfl (by omega) (by rw [alloc_size]; omega)
  obtain ⟨a, n, c, rfl⟩ := own_slice h2
  exact ⟨a, n, c, w', hr, h2, h3.os, h3.tape, h3.output, Nat.le_trans (by simp) h3.size, fun k hk hn => (h3.block k (by rw [alloc_size]; omega) hn).trans (heap_alloc_old W _ hk)⟩

/-- The end: both loops' blocks for deferred calls are empty; the result's variable holds true. -/
theorem stops_end {w W : World} {D1 D2 : Nat} {tmps : Array Value} (h4 : Row W (w.heap.size + 1) #[.bool false] 4) (hd1 : W.heap[D1]? = some (.deferred (some []))) (hd2 : W.heap[D2]? = some (.deferred (some []))) (hB : Below w.heap.size w W)
    (h1 : w.heap.size + 1 < D1) (h12 : D1 < D2) (ht : tmps[4]? = some (.pointer (some ⟨w.heap.size + 1, 0, none⟩))) (v : Bool) (hv : v = true) :
    bodyPostM Fence.wide 5 Try.prog Try.f9 (fun e w' => e = .returned (.bool true) ∧ Below w.heap.size w w') .ret { tmps := tmps, defers := [{ target := .collected D2, args := #[] }, { target := .collected D1, args := #[] }] } (W.setCell ⟨w.heap.size + 1, 0, none⟩ (.bool v)) := by
  subst hv
  have c4 := h4.cell0
  have k2 := (KeepsOthers.setCell W ⟨w.heap.size + 1, 0, none⟩ (.bool true)).same _ _ hd2 rfl
  have k1 := (KeepsOthers.setCell W ⟨w.heap.size + 1, 0, none⟩ (.bool true)).same _ _ hd1 rfl
  have k1' : ((W.setCell ⟨w.heap.size + 1, 0, none⟩ (.bool true)).putObj D2 (.deferred none)).heap[D1]? = some (.deferred (some [])) := (World.putObj_heap_other (by omega)).trans k1
  refine ⟨by simp, .inl ⟨_, _, rfl, run_takeDeferred k2, ?_⟩⟩
  refine ⟨by simp, .inl ⟨_, _, rfl, run_takeDeferred k1', ?_⟩⟩
  have hc5 : ((W.setCell ⟨w.heap.size + 1, 0, none⟩ (.bool true)).putObj D2 (.deferred none)).cell? ⟨w.heap.size + 1, 0, none⟩ = some (.bool true) :=
    cell_kept (World.cell?_setCell_same' W ⟨w.heap.size + 1, 0, none⟩ (.bool true) (by rw [c4]; rfl)) (grownBy_putObj' _ _ (.deferred none)) (fun r e => by cases e; exact ⟨_, k2, rfl⟩)
  have hc6 : (((W.setCell ⟨w.heap.size + 1, 0, none⟩ (.bool true)).putObj D2 (.deferred none)).putObj D1 (.deferred none)).cell? ⟨w.heap.size + 1, 0, none⟩ = some (.bool true) :=
    cell_kept hc5 (grownBy_putObj' _ _ (.deferred none)) (fun r e => by cases e; exact ⟨_, k1', rfl⟩)
  have hs := hB.size
  refine ⟨.bool true, ?_, rfl, ((hB.setCell (p := ⟨w.heap.size + 1, 0, none⟩) (by show _ ≤ w.heap.size + 1; omega) _).grown (grownBy_putObj' _ _ _) (by simpa [World.setCell] using hs) (fun k e => by cases e; omega)).grown (grownBy_putObj' _ _ _) (by simpa [World.setCell] using hs) (fun k e => by cases e; omega)⟩
  simp [results, Try.f9, go_sem, hc6, ht]
set_option maxRecDepth 100000 in
set_option maxHeartbeats 1000000 in
theorem stops_walk (s : List UInt8) (hs : s.length ≤ 2000) (n : Nat) (hn : n ≤ 255) (w : World) : Calls Try.prog 9 #[S s, .int .u8 (n : Int)] w fun e w' => e = .returned (.bool true) ∧ Below w.heap.size w w' := by
  have hlenS := run_len_S (P := Try.prog) Try.underlying9 3 s
  have hgt : decide (2000 < (s.length : Int)) = false := decide_eq_false (by omega)
  have hcl := chars_length s
  refine (callsIn_wide (n := 5)).1 (callsIn_of_wp_marks Try.func9 rfl trivial ?_ rfl)
  simp only [Try.ntmps9, List.size_toArray, List.length_cons, List.length_nil, Nat.reduceAdd, Nat.reduceSub, Array.replicate_succ, Array.replicate_zero, List.push_toArray, List.append_toArray, List.nil_append, List.cons_append]
  gi_wp2_with fail
  refine ⟨trivial, (callsIn_wide.2 (awake_any _)).mono ?_⟩
  rintro e W1 ⟨rfl, hB1⟩
  have hr3 : Row W1 w.heap.size #[.int .u8 (n : Int)] 5 := by
    exact ((row_new w #[.int .u8 (n : Int)] 5).alloc _).below hB1 (by simp; omega)
  have hr4 : Row W1 (w.heap.size + 1) #[.bool false] 4 := by
    have := (row_new (w.alloc (.cells #[.int .u8 (n : Int)] 5)) #[.bool false] 4).below hB1 (by simp)
    rw [alloc_size] at this; exact this
  have H1 := Lib.hid (And.intro hr3 (And.intro hr4 ((((Below.refl _ w).alloc (Nat.le_refl _) (.cells #[.int .u8 (n : Int)] 5)).alloc (by simp) (.cells #[.bool false] 4)).trans (hB1.mono (by simp; omega)))))
  clear hr3 hr4 hB1
  have hnl : ∀ (bb : Nat) w, (binOp .eql 33 (.func (.func 24) #[] #[.pointer (some ⟨bb, 0, none⟩)]) .nilFunc).run Try.prog w = .ok (.bool false) w := fun bb w => eql_nilFunc Try.underlying33 _ _ _ w
  gi_wp2_with fail
  refine ⟨trivial, (callsIn_wide.2 (runesFn_any s _)).mono ?_⟩
  rintro e W7 ⟨rfl, rfl⟩
  gi_wp2_with fail
  refine ⟨trivial, (callsIn_wide.2 (runesFn_any s _)).mono ?_⟩
  rintro e W8 ⟨rfl, rfl⟩
  obtain ⟨n5, hn5⟩ : ∃ n, n = W1.heap.size := ⟨_, rfl⟩
  obtain ⟨W9, hW9⟩ : ∃ W, W = ((W1.alloc (.cells #[.slice none 0 0] 42)).alloc (.cells #[S s] 9)).alloc (.cells #[S s] 9) := ⟨_, rfl⟩
  have hz9 : W9.heap.size = n5 + 3 := by rw [hW9, hn5]; simp
  have hB9 : Below W1.heap.size W1 W9 := by
    rw [hW9]; exact (((Below.refl _ _).alloc (Nat.le_refl _) _).alloc (by simp) _).alloc (by simp; omega) _
  have r5 : Row W9 n5 #[.slice none 0 0] 42 := by
    rw [hW9, hn5]; unfold Row; repeat (first | exact alloc_at _ _ _ (by simp) | refine alloc_at_old _ _ _ _ ?_)
  have rS : Row W9 (n5 + 2) #[S s] 9 := by
    rw [hW9, hn5]; unfold Row; repeat (first | exact alloc_at _ _ _ (by simp) | refine alloc_at_old _ _ _ _ ?_)
  have hb2 : w.heap.size + 1 < n5 := by rw [hn5]; exact H1.out.2.1.lt
  have hb1 : w.heap.size ≤ W1.heap.size := by omega
  have H9 := Lib.hid (And.intro r5 (And.intro (H1.out.1.below hB9 H1.out.1.lt) (And.intro (H1.out.2.1.below hB9 H1.out.2.1.lt) (And.intro (H1.out.2.2.trans (hB9.mono H1.out.2.2.size)) rS))))
  have hsz : ((W1.alloc (.cells #[.slice none 0 0] 42)).alloc (.cells #[S s] 9)).heap.size = n5 + 2 := by rw [hn5]; simp
  rw [hsz, ← hW9, ← hn5]
  clear hW9 hB9 r5 rS hsz hn5 H1 hb1
  gi_wp2
  refine wpIn_rangeFunc_L2 (gf := 24) (lb := #[.pointer (some ⟨n5 + 2, 0, none⟩)]) rfl (enters_of Try.func24 (by kernel_rfl) rfl)
    (fun m => runes_seq s (by omega) (n5 + 2) m) (fun r e => by omega) (fun W hb => H9.out.2.2.2.2.below hb (by omega)) (fun _ => rfl)
    (fun pre W => (∃ v, Row W n5 #[v] 42 ∧ Own (n5 + 10) v ((pre.map (numAt s)).map I32) W) ∧ Row W w.heap.size #[.int .u8 (n : Int)] 5 ∧ Row W (w.heap.size + 1) #[.bool false] 4 ∧ Below w.heap.size w W)
    (fun _ _ _ => False)
    (AbidesIn.and (fun pre A C row hs hg hr => by
        obtain ⟨v, h5, ho⟩ := hs
        exact ⟨v, row_grown h5 hg (fun e => by have := hr n5 e.symm; omega), ho.grown hg (fun j hj e => by have := hr j e.symm; have := (ho.lt j hj).1; omega)⟩)
      ((abidesIn_block (fun _ => _) (.inl (by omega))).and ((abidesIn_block (fun _ => _) (.inl (by omega))).and (abidesIn_below (by omega)))))
    (fun _ _ _ _ _ hs _ _ => hs)
    ⟨⟨_, H9.out.1, .inl ⟨rfl, rfl⟩⟩, H9.out.2.1, H9.out.2.2.1, H9.out.2.2.2.1⟩
    ?round ?done ?stop
  case round =>
    intro l pre x W1 K hpx hK
    unfold encR
    gi_wp2
    rintro W ⟨⟨v, h5, ho⟩, h3, h4, hB⟩ hsz
    obtain ⟨va, vn, vc, rfl⟩ := own_slice ho
    have hpl : pre.length < (chars s).length := (List.getElem?_eq_some_iff.1 (list_at hpx)).1
    obtain ⟨a', n', c', w', hrun, ho', hg'⟩ := push_run ho (numAt s x) (by rw [List.length_map, List.length_map]; omega) (by omega)
    have h5' := row_grown h5 hg' (fun e => by have := (ho.lt n5 e.symm).1; omega)
    have h3' := row_grown h3 hg' (fun e => by have := (ho.lt w.heap.size e.symm).1; omega)
    have h4' := row_grown h4 hg' (fun e => by have := (ho.lt (w.heap.size + 1) e.symm).1; omega)
    have hB' := below_own hB ho hg' (by omega) hB.size
    have hk' : Kept (fun r => r = n5 + 2 ∨ W9.heap.size ≤ r ∧ r < W9.heap.size + (5 + 2)) W w' := Kept.of_grown hg' (fun r hr => ⟨by omega, fun e => by have := (ho.lt r e.symm).1; omega⟩)
    have c5 := h5.cell0
    have c5' := h5'.cell0
    have f5' := h5'.frozen 0
    have HI := Lib.hid (And.intro h5' (And.intro ho' (And.intro h3' (And.intro h4' (And.intro hB' hk')))))
    clear h5 ho h3 h4 hB h5' ho' h3' h4' hB' hk' hg' hpx hpl
    generalize hy : numAt s x = y at *
    have HY := Lib.hid hy
    clear hy
    gi_wp2_with (first
      | (gi_at_builtin; refine wpListIn_append_run rfl (.tmp 23) (.tmp 25) 42 rfl (.slice va vn vc) (.slice (some ⟨W.heap.size, 0, none⟩) 1 1) rfl rfl (.slice a' n' c') w' hrun ?_)
      | fail)
    obtain ⟨h5, ho, h3, h4, hB, hk⟩ := HI.out
    refine ⟨⟨by have := hk.size; simpa [World.setCell] using this, fun r h => ?_⟩, ⟨_, h5.set 0 _, ?_⟩, h3.other (by show _ ≠ n5; omega), h4.other (by show _ ≠ n5; omega), hB.setCell (p := ⟨n5, 0, none⟩) (by show _ ≤ n5; omega) _⟩
    · rw [Below.heap_setCell _ _ _ _ (show r ≠ n5 by omega)]; exact hk.same r h
    · rw [List.map_append, List.map_append, show List.map I32 (List.map (numAt s) [x]) = [I32 y] from by rw [← HY.out]; rfl]
      exact own_set_other ho (fun k hk e => by have := (ho.lt k hk).1; have : k = n5 := e; omega)
  case done =>
    rintro W ⟨⟨v, h5, ho⟩, h3, h4, hB⟩ hK
    obtain ⟨va, vn, vc, rfl⟩ := own_slice ho
    rw [hz9] at hK
    rw [hz9]
    have hD := (Array.getElem?_eq_some_iff.1 hK).1
    have H10 := Lib.hid (And.intro h5 (And.intro ho (And.intro h3 (And.intro h4 (And.intro hK hB)))))
    clear h5 ho h3 h4 hK hB
    gi_wp2_with fail
    refine ⟨trivial, (callsIn_wide.2 (runesFn_any s _)).mono ?_⟩
    rintro e W7 ⟨rfl, rfl⟩
    gi_wp2_with fail
    refine ⟨trivial, (callsIn_wide.2 (runesFn_any s _)).mono ?_⟩
    rintro e W8 ⟨rfl, rfl⟩
    obtain ⟨n8, hn8⟩ : ∃ n, n = W.heap.size := ⟨_, rfl⟩
    obtain ⟨WB, hWB⟩ : ∃ X, X = ((W.alloc (.cells #[.int .i64 0] 3)).alloc (.cells #[S s] 9)).alloc (.cells #[S s] 9) := ⟨_, rfl⟩
    have hzB : WB.heap.size = n8 + 3 := by rw [hWB, hn8]; simp
    have hBB : Below W.heap.size W WB := by
      rw [hWB]; exact (((Below.refl _ _).alloc (Nat.le_refl _) _).alloc (by simp) _).alloc (by simp; omega) _
    have r8 : Row WB n8 #[.int .i64 0] 3 := by
      rw [hWB, hn8]; unfold Row; repeat (first | exact alloc_at _ _ _ (by simp) | refine alloc_at_old _ _ _ _ ?_)
    have rS : Row WB (n8 + 2) #[S s] 9 := by
      rw [hWB, hn8]; unfold Row; repeat (first | exact alloc_at _ _ _ (by simp) | refine alloc_at_old _ _ _ _ ?_)
    have hvo : ∀ k, (Value.slice va vn vc).ownBlock = some k → k < n8 := fun k hk => by rw [hn8]; exact (H10.out.2.1.lt k hk).2
    have hoB : Own (n5 + 10) (.slice va vn vc) (((chars s).map (numAt s)).map I32) WB := H10.out.2.1.below hBB (fun k hk => (H10.out.2.1.lt k hk).2)
    have h5B : Row WB n5 #[.slice va vn vc] 42 := H10.out.1.below hBB H10.out.1.lt
    have h3B := H10.out.2.2.1.below hBB H10.out.2.2.1.lt
    have h4B := H10.out.2.2.2.1.below hBB H10.out.2.2.2.1.lt
    have hKB : WB.heap[n5 + 3]? = some (.deferred (some [])) := (hBB.block _ hD).trans H10.out.2.2.2.2.1
    have hB2 := H10.out.2.2.2.2.2.trans (hBB.mono H10.out.2.2.2.2.2.size)
    have hsz : ((W.alloc (.cells #[.int .i64 0] 3)).alloc (.cells #[S s] 9)).heap.size = n8 + 2 := by rw [hn8]; simp
    rw [← hn8] at hD
    rw [hsz, ← hWB, ← hn8]
    have HV := Lib.hid hvo
    have HBB := Lib.hid (And.intro r8 (And.intro h5B (And.intro hoB (And.intro h3B (And.intro h4B (And.intro hKB (And.intro hB2 rS)))))))
    clear hWB hBB r8 rS hvo hoB h5B h3B h4B hKB hB2 hsz hn8 H10
    gi_wp2
    refine wpIn_rangeFunc_L2 (gf := 24) (lb := #[.pointer (some ⟨n8 + 2, 0, none⟩)]) rfl (enters_of Try.func24 (by kernel_rfl) rfl)
      (fun m => runes_seq s (by omega) (n8 + 2) m) (fun r e => by omega) (fun W hb => HBB.out.2.2.2.2.2.2.2.below hb (by omega)) (fun _ => rfl)
      (fun pre W => Row W n8 #[.int .i64 (pre.length : Int)] 3 ∧ Row W n5 #[.slice va vn vc] 42 ∧ Own (n5 + 10) (.slice va vn vc) (((chars s).map (numAt s)).map I32) W ∧
        Row W w.heap.size #[.int .u8 (n : Int)] 5 ∧ Row W (w.heap.size + 1) #[.bool false] 4 ∧ W.heap[n5 + 3]? = some (.deferred (some [])) ∧ Below w.heap.size w W ∧ pre.length ≤ n)
      (fun c pre W => c = .exit 2 ∧ n < (chars s).length ∧ Row W n8 #[.int .i64 (n : Int)] 3 ∧ Row W n5 #[.slice va vn vc] 42 ∧ Own (n5 + 10) (.slice va vn vc) (((chars s).map (numAt s)).map I32) W ∧
        Row W w.heap.size #[.int .u8 (n : Int)] 5 ∧ Row W (w.heap.size + 1) #[.bool false] 4 ∧ W.heap[n5 + 3]? = some (.deferred (some [])) ∧ Below w.heap.size w W)
      ((abidesIn_block (fun _ => _) (.inl (by omega))).and ((abidesIn_block (fun _ => _) (.inl (by omega))).and ((own_abides HBB.out.2.2.1).and ((abidesIn_block (fun _ => _) (.inl (by omega))).and ((abidesIn_block (fun _ => _) (.inl (by omega))).and
        ((abidesIn_block (fun _ => _) (.inl (by omega))).and ((abidesIn_below (by omega)).and (abidesIn_pure _))))))))
      (fun c => (abidesIn_pure (fun _ => c = .exit 2)).and ((abidesIn_pure (fun _ => n < (chars s).length)).and ((abidesIn_block (fun _ => _) (.inl (by omega))).and ((abidesIn_block (fun _ => _) (.inl (by omega))).and ((own_abides HBB.out.2.2.1).and
        ((abidesIn_block (fun _ => _) (.inl (by omega))).and ((abidesIn_block (fun _ => _) (.inl (by omega))).and ((abidesIn_block (fun _ => _) (.inl (by omega))).and (abidesIn_below (by omega))))))))))
      ⟨HBB.out.1, HBB.out.2.1, HBB.out.2.2.1, HBB.out.2.2.2.1, HBB.out.2.2.2.2.1, HBB.out.2.2.2.2.2.1, HBB.out.2.2.2.2.2.2.1, Nat.zero_le _⟩
      ?round2 ?done2 ?stop2
    case round2 =>
      intro l pre x W1 K hpx hK
      unfold encR
      gi_wp2
      rintro W ⟨h8, h5, ho, h3, h4, hd, hB, hpn⟩ hsz
      have hx := list_at hpx
      have hlt : pre.length < (chars s).length := (List.getElem?_eq_some_iff.1 hx).1
      obtain ⟨ad, hi, hc⟩ := own_cells ho Try.underlying42 Try.sizeOf21
      rw [List.length_map, List.length_map] at hi hc
      replace hi := hi pre.length hlt
      replace hc : W.cell? (ad pre.length) = some (.int .i32 (numAt s x : Int)) := by
        rw [(hc pre.length hlt).2.2.1, List.getElem?_map, List.getElem?_map, hx]; rfl
      generalize ad pre.length = a1 at *
      have hl1 := own_len ho 42 21 3 Try.underlying42
      rw [List.length_map, List.length_map] at hl1
      have c8 := h8.cell0
      have c5 := h5.cell0
      have c3 := h3.cell0
      have f8 := h8.frozen 0
      have HI := Lib.hid (And.intro h8 (And.intro h5 (And.intro ho (And.intro h3 (And.intro h4 (And.intro hd hB))))))
      clear h8 h5 ho h3 h4 hd hB hx hpx
      generalize numAt s x = y at *
      generalize hL : (chars s).length = L at *
      have HL := Lib.hid hL
      clear hL
      by_cases he : pre.length = n
      · have heI : ((pre.length : Int) == (n : Int)) = true := by rw [beq_iff_eq]; omega
        have heN : (pre.length == n) = true := by rw [beq_iff_eq]; exact he
        gi_wp2
        obtain ⟨h8, h5, ho, h3, h4, hd, hB⟩ := HI.out
        exact ⟨Kept.refl _ _, rfl, by omega, by rw [← he]; exact h8, h5, ho, h3, h4, hd, hB⟩
      · have heI : ((pre.length : Int) == (n : Int)) = false := by rw [beq_eq_false_iff_ne]; omega
        have heN : (pre.length == n) = false := by rw [beq_eq_false_iff_ne]; exact he
        gi_wp2
        obtain ⟨h8, h5, ho, h3, h4, hd, hB⟩ := HI.out
        refine ⟨⟨by simp [World.setCell], fun r h => Below.heap_setCell _ _ _ _ (by show r ≠ n8; omega)⟩, ?_, h5.other (by show n5 ≠ n8; omega), own_set_other ho (fun k hk e => by have := HV.out k hk; have : k = n8 := e; omega), h3.other (by show _ ≠ n8; omega), h4.other (by show _ ≠ n8; omega),
          (Below.heap_setCell _ _ _ _ (by show n5 + 3 ≠ n8; omega)).trans hd, hB.setCell (p := ⟨n8, 0, none⟩) (by show _ ≤ n8; omega) _, by rw [List.length_append, List.length_singleton]; omega⟩
        rw [List.length_append, List.length_singleton]
        exact h8.set 0 _
    case done2 =>
      rintro W ⟨h8, h5, ho, h3, h4, hd, hB, hpn⟩ hK
      have hl1 := own_len ho 42 21 3 Try.underlying42
      rw [List.length_map, List.length_map] at hl1
      have c8 := h8.cell0
      have c5 := h5.cell0
      have c3 := h3.cell0
      have c4 := h4.cell0
      have f4 := h4.frozen 0
      have HI := Lib.hid (And.intro h4 (And.intro hd hB))
      clear h8 h5 ho h3 h4 hd hB
      generalize (chars s).length = L at *
      have hlt3 : L < n ∨ L = n := by omega
      rcases hlt3 with h3 | h3
      · gi_wp2
        exact stops_end HI.out.1 HI.out.2.1 (by first | exact hK | (rw [← hzB]; exact hK)) HI.out.2.2 (by omega) (by omega) rfl _ (by simp)
      · gi_wp2
        exact stops_end HI.out.1 HI.out.2.1 (by first | exact hK | (rw [← hzB]; exact hK)) HI.out.2.2 (by omega) (by omega) rfl _ (by first | (simp; done) | (simp; omega))
    case stop2 =>
      rintro c pre W hpre ⟨rfl, hnL, h8, h5, ho, h3, h4, hd, hB⟩ hK
      have hl1 := own_len ho 42 21 3 Try.underlying42
      rw [List.length_map, List.length_map] at hl1
      have c8 := h8.cell0
      have c5 := h5.cell0
      have c3 := h3.cell0
      have c4 := h4.cell0
      have f4 := h4.frozen 0
      have HI := Lib.hid (And.intro h4 (And.intro hd hB))
      clear h8 h5 ho h3 h4 hd hB
      generalize (chars s).length = L at *
      gi_wp2
      exact stops_end HI.out.1 HI.out.2.1 hK HI.out.2.2 (by omega) (by omega) rfl _ (by simp)
  case stop =>
    rintro c pre W _ h _
    exact h.elim
theorem stops_law (s : List UInt8) (n : Nat) (hn : n ≤ 255) (w : World) : Calls Try.prog 9 #[S s, .int .u8 (n : Int)] w fun e w' => e = .returned (.bool true) ∧ Below w.heap.size w w' := by
  by_cases hs : s.length ≤ 2000
  · exact stops_walk s hs n hn w
  · have hlenS := run_len_S (P := Try.prog) Try.underlying9 3 s
    have hgt : decide (2000 < (s.length : Int)) = true := decide_eq_true (by omega)
    refine (callsIn_wide (n := 5)).1 (callsIn_of_wp_marks Try.func9 rfl trivial ?_ rfl)
    simp only [Try.ntmps9, List.size_toArray, List.length_cons, List.length_nil, Nat.reduceAdd, Nat.reduceSub, Array.replicate_succ, Array.replicate_zero, List.push_toArray, List.append_toArray, List.nil_append, List.cons_append]
    gi_wp2_with fail
    refine ⟨trivial, (callsIn_wide.2 (awake_any _)).mono ?_⟩
    rintro e W1 ⟨rfl, hB1⟩
    have hr4 : Row W1 (w.heap.size + 1) #[.bool false] 4 := by
      have := (row_new (w.alloc (.cells #[.int .u8 (n : Int)] 5)) #[.bool false] 4).below hB1 (by simp)
      rw [alloc_size] at this; exact this
    have c4 := hr4.cell0
    have f4 := hr4.frozen 0
    have H1 := Lib.hid (And.intro hr4 ((((Below.refl _ w).alloc (Nat.le_refl _) (.cells #[.int .u8 (n : Int)] 5)).alloc (by simp) (.cells #[.bool false] 4)).trans (hB1.mono (by simp; omega))))
    clear hr4 hB1
    gi_wp2
    have hc5 : (W1.setCell ⟨w.heap.size + 1, 0, none⟩ (.bool true)).cell? ⟨w.heap.size + 1, 0, none⟩ = some (.bool true) := World.cell?_setCell_same' W1 ⟨w.heap.size + 1, 0, none⟩ (.bool true) (by rw [c4]; rfl)
    refine ⟨.bool true, ?_, rfl, H1.out.2.setCell (p := ⟨w.heap.size + 1, 0, none⟩) (by show _ ≤ w.heap.size + 1; omega) _⟩
    simp [results, Try.f9, go_sem, hc5]
end Go.Proofs.Ytmamklahnpmgjaa
