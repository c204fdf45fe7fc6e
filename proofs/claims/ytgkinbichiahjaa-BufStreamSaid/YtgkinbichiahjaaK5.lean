/- Read and Write walked. -/
import Derived.Test.YtgkinbichiahjaaK4
namespace Go.Proofs.Ytgkinbichiahjaa
open Go.RowKit
attribute [local go_sem] store_one S_match S_store

theorem BufAt.spare {w w' : World} {g : Nat} {A : Nat → Prop} {mk : Bool} {m : Nat} {x : List UInt8} (h : BufAt w g A mk m x) (hd : Drawn w w') : BufAt w' g A mk m x ∧ Spare g A w w' := ⟨h.drawn hd, Spare.of_drawn hd⟩
theorem peekF_le (x : List UInt8) (n : Int) : (peekF x n).length ≤ x.length := by
  unfold peekF
  split
  · simp
  · rw [List.length_take]; omega

set_option maxRecDepth 100000 in
set_option maxHeartbeats 400000 in
theorem read_any (g : Nat) (A : Nat → Prop) (mk : Bool) (m : Nat) (x : List UInt8) (n : Int) (w : World) (h : BufAt w g A mk m x) :
    Calls Try.prog 11 #[.pointer (some ⟨g, 0, none⟩), .int .i64 n] w fun e w' => e = .returned (S (peekF x n)) ∧ BufAt w' g A mk m (x.drop (peekF x n).length) ∧ Spare g A w w' := by
  have hle := peekF_le x n
  have hpk := peek_any g A mk m x n w h
  generalize peekF x n = y at *
  have hlen := run_len_S (P := Try.prog) Try.underlying9 3 y
  go_enter Try.func11, Try.ntmps11
  go_wp2_with fail
  refine hpk.mono ?_
  rintro e W1 ⟨rfl, hD⟩
  have HB := Lib.hid (h.spare hD)
  clear h hD hpk
  by_cases h0 : y.length = 0
  · have hx : x.drop y.length = x := by rw [h0, List.drop_zero]
    obtain ⟨L, hL⟩ : ∃ L, L = y.length := ⟨_, rfl⟩
    rw [← hL] at hlen
    have hb : decide ((0 : Int) < (L : Int)) = false := decide_eq_false (by omega)
    have hb' : decide (0 < L) = false := decide_eq_false (by omega)
    have HX := Lib.hid hx
    clear h0 hL hle hx
    go_wp2
    go_ret
    rw [HX.out]
    exact ⟨rfl, HB.out⟩
  · have hb : decide ((0 : Int) < (y.length : Int)) = true := decide_eq_true (by omega)
    have hb' : decide (0 < y.length) = true := decide_eq_true (by omega)
    go_wp2_with fail
    refine (drop_any g A mk m x y.length W1 HB.out.1 (by omega) hle).mono ?_
    rintro e W2 ⟨rfl, h2, hs⟩
    go_wp2
    go_ret
    exact ⟨rfl, h2, HB.out.2.trans hs⟩

theorem strCells_S (l : List UInt8) : Lib.strCells ⟨l.toArray⟩ = l.map B := by simp [Lib.strCells, B]
theorem run_add_text (w : World) (v : Value) (n : Nat) (xs : List Value) (hown : w.ownsRow 0 5 1 v n xs) (l : List UInt8) (hl : 0 < l.length) (hb : n + l.length ≤ 100000000000) (ty : TypeId) :
    ∃ k c w', (Builtin.append_ #[38, 9] ty #[v, S l]).run Try.prog w = .ok (.slice (some ⟨k, 0, none⟩) (n + l.length) c) w' ∧ w'.ownsRow 0 5 1 (.slice (some ⟨k, 0, none⟩) (n + l.length) c) (n + l.length) (xs ++ l.map B) ∧
      w.grownBy w' v.ownBlock ∧ (v.ownBlock = some k ∨ k = w.heap.size) := by
  obtain ⟨i0, hi, hz0, hz1, hz2⟩ : ∃ i0, Try.prog.info? 5 = some i0 ∧ i0.zero = some (Value.int .u8 0) ∧ i0.size = 1 ∧ i0.bytes = 1 := by
    have := info5
    cases hi : Try.prog.info? 5 with
    | none => rw [hi] at this; cases this
    | some i =>
      simp only [hi, Option.map_some, Option.some.injEq, Prod.mk.injEq] at this
      exact ⟨i, rfl, this.1, this.2.1, this.2.2⟩
  have hsz := S_size l
  obtain ⟨v', w', hr, ho, hg, _⟩ := Lib.run_append_own_string (P := Try.prog) w 0 38 9 ty 5 i0 Try.underlying38 Try.underlying9 hi hz0 hz1 hz2 v n xs hown ⟨l.toArray⟩ (by rw [hsz]; simp only [maxLen]; omega) (by rw [hsz]; omega) (Nat.zero_le _)
  rw [hsz, strCells_S] at ho
  have fin : ∀ k c W, (Builtin.append_ #[38, 9] ty #[v, S l]).run Try.prog w = .ok (.slice (some ⟨k, 0, none⟩) (n + l.length) c) W → (v.ownBlock = some k ∨ k = w.heap.size) → ∃ k c w', (Builtin.append_ #[38, 9] ty #[v, S l]).run Try.prog w = .ok (.slice (some ⟨k, 0, none⟩) (n + l.length) c) w' ∧ w'.ownsRow 0 5 1 (.slice (some ⟨k, 0, none⟩) (n + l.length) c) (n + l.length) (xs ++ l.map B) ∧
      w.grownBy w' v.ownBlock ∧ (v.ownBlock = some k ∨ k = w.heap.size) := by
    intro k c W h hk
    have e := hr.symm.trans h
    injection e with e1 e2
    subst e1 e2
    exact ⟨k, c, _, h, ho, hg, hk⟩
  rcases hown.2 with ⟨rfl, rfl⟩ | ⟨g, cap, cur, rfl, _, hgg, hc, hcm, hcs, htake⟩
  · have := run_append_nil_string (P := Try.prog) w 38 9 ty 5 i0 _ Try.underlying38 Try.underlying9 hi hz0 ⟨l.toArray⟩ (by rw [hsz]; exact hl) (by rw [hsz]; omega) (by rw [hsz, hz2]; omega)
    rw [hsz] at this
    refine fin w.heap.size _ _ (by rw [Nat.zero_add]; exact this) (.inr rfl)
  · by_cases hroom : n + l.length ≤ cap
    · have := Lib.run_append_room_string (P := Try.prog) w 38 9 ty 5 i0 Try.underlying38 Try.underlying9 hi hz1 g n cap cur hgg ⟨l.toArray⟩ (by rw [hsz]; exact hroom) (by rw [hsz]; omega)
      rw [hsz] at this
      exact fin g _ _ this (.inl rfl)
    · have hx : xs.length = n * i0.size := by rw [hz1]; exact hown.1
      have := Lib.run_append_grow_string (P := Try.prog) w 38 9 ty 5 i0 _ Try.underlying38 Try.underlying9 hi hz0 ⟨g, 0, none⟩ n cap xs hx (hown.cells (g := g) rfl) ⟨l.toArray⟩ (by rw [hsz]; omega) (by rw [hsz]; omega) (by rw [hsz, hz2]; exact growslice_fits (by omega) (by omega))
      rw [hsz] at this
      exact fin w.heap.size _ _ this (.inr rfl)

theorem exec_builtin_append {a : Act} {o : Oper} (t1 t2 : TypeId) (x y : Operand) (X Y : Value) {w : World} {P : Program} (ho : o.op = .call { callee := .builtin .append, args := #[x, y], argTypes := #[t1, t2] }) (hx : a.eval x = X) (hy : a.eval y = Y) {v' : Value} {w' : World}
    (hr : (Builtin.append_ #[t1, t2] o.type #[X, Y]).run P w = .ok v' w') : (execOp a.eval o).run P w = .ok (.value v') w' := by
  simp only [execOp, ho, resolve, invoke, builtin, Sem.run_bind, Sem.run_pure, Result.andThen_ok, List.map_toArray, List.map_cons, List.map_nil, hx, hy, hr]

set_option maxRecDepth 100000 in
set_option maxHeartbeats 1000000 in
theorem write_any (g : Nat) (A : Nat → Prop) (mk : Bool) (m : Nat) (x s : List UInt8) (w : World) (h : BufAt w g A mk m x) (hs : s.length ≤ maxLen) :
    Calls Try.prog 9 #[.pointer (some ⟨g, 0, none⟩), S s] w fun e w' => e = .returned (.int .i64 (min s.length (m - x.length) : Nat)) ∧ BufAt w' g A mk m (x ++ s.take (m - x.length)) ∧ Spare g A w w' := by
  have hlenS := run_len_S (P := Try.prog) Try.underlying9 3 s
  obtain ⟨k, hk⟩ : ∃ k, k = min s.length (m - x.length) := ⟨_, rfl⟩
  have htk : s.take (m - x.length) = s.take k := by
    rw [hk, Nat.min_def]
    split
    · rw [List.take_of_length_le (by omega), List.take_of_length_le (Nat.le_refl _)]
    · rfl
  rw [htk, ← hk]
  have hks : k ≤ s.length := by omega
  have hkm : k ≤ m - x.length := by omega
  have hmi : ∀ w, (Builtin.min_ #[3, 3] 3 #[.int .i64 (s.length : Int), .int .i64 ((m - x.length : Nat) : Int)]).run Try.prog w = .ok (.int .i64 (k : Int)) w := fun w => by
    rw [run_min_int2, hk, Nat.min_def]
    congr 2
    split <;> split <;> omega
  clear htk hk
  have hr0 := room_any g A mk m x w h
  have hfit := h.fits
  have hmost := h.most
  obtain ⟨r, hr⟩ : ∃ r, r = m - x.length := ⟨_, rfl⟩
  rw [← hr] at hmi hr0 hkm
  have HR := Lib.hid hr
  clear hr
  have HH := Lib.hid h
  clear h
  go_enter Try.func9, Try.ntmps9
  go_wp2_with fail
  refine hr0.mono ?_
  rintro e W1 ⟨rfl, hD⟩
  have HB := Lib.hid (HH.out.spare hD)
  clear hD
  by_cases h0 : k = 0
  · have hx0 : x ++ s.take k = x := by rw [h0, List.take_zero, List.append_nil]
    have hb : decide ((0 : Int) < (k : Int)) = false := decide_eq_false (by omega)
    have hb' : decide (0 < k) = false := decide_eq_false (by omega)
    clear h0
    go_wp2
    go_ret
    rw [hx0]
    exact ⟨rfl, HB.out⟩
  · have hb : decide ((0 : Int) < (k : Int)) = true := decide_eq_true (by omega)
    have hb' : decide (0 < k) = true := decide_eq_true (by omega)
    have hsl : ∀ w, (Instr.slice 9 (S s) none (some (.int .i64 (k : Int))) none).run Try.prog w = .ok (S (s.take k)) w := fun w => slice_take (P := Try.prog) Try.underlying9 s k hks w
    go_wp2
    obtain ⟨Wq, hWq⟩ : ∃ Wq, Wq = W1.drew := ⟨_, rfl⟩
    have hdq : Drawn W1 Wq := ⟨1, hWq⟩
    have hq := HB.out.1.spare hdq
    obtain ⟨⟨v, pre, hl, hbk, hp⟩, _, _, hold⟩ := hq.1
    have hlk : (s.take k).length = k := by rw [List.length_take]; omega
    obtain ⟨kk, c, Wa, hra, hoa, hga, hka⟩ := run_add_text Wq v _ _ hl.2 (s.take k) (by omega) (by have := HR.out; rw [List.length_append]; omega) 38
    have c2 : Wq.cell? ⟨g, 2, none⟩ = some v := cell_of_row Wq _ 2 _ 40 (0, 0) hl.1
    have hne : some g ≠ v.ownBlock := fun e => (hbk g e.symm).2 rfl
    have hrow : Row Wa g #[.bool mk, .int .i64 (m : Int), v, .int .i64 (pre.length : Int)] 40 := row_grown hl.1 hga hne
    have d2 : Wa.cell? ⟨g, 2, none⟩ = some v := cell_of_row Wa _ 2 _ 40 (0, 0) hrow
    have f2 : Wa.frozen? ⟨g, 2, none⟩ = false := Row.frozen hrow 2
    have hkg : kk ≠ g ∧ ¬ A kk := by
      have hgl := hl.1.lt
      rcases hka with h | h
      · exact ⟨(hbk kk h).2, (hbk kk h).1⟩
      · exact ⟨by omega, fun hA => by have := hold kk hA; omega⟩
    have HQ := Lib.hid (And.intro (HB.out.2.trans hq.2) (And.intro hrow (And.intro hoa (And.intro hga (And.intro hkg (And.intro hold (And.intro hbk hp)))))))
    clear hq hl hrow hoa hga hkg hold hbk hp hka hne hdq
    obtain ⟨N, hN⟩ : ∃ N, (pre ++ x).length + (s.take k).length = N := ⟨_, rfl⟩
    rw [hN] at HQ hra
    have HN := Lib.hid hN
    clear hN
    refine wp_region_noPanic ?_
    refine wp_region_held_drew (S := fun _ => True) (by kernel_rfl) trivial (fun _ => ?_)
    rw [← hWq]
    clear hWq
    refine take_at (i := 0) (d := some 13) (v := .pointer (some ⟨g, 0, none⟩)) rfl (by kernel_rfl) (by kernel_rfl) (by kernel_rfl) (fun _ _ _ h => h) (fun oi ho => ?_) trivial ?_
    · obtain rfl := Option.some.inj ho
      exact Or.inl ⟨by rfl, fun wx hSw => by go_simp⟩
    simp only [Act.put, List.setIfInBounds_toArray, List.set_cons_zero, List.set_cons_succ]
    refine take_at (i := 1) (d := some 14) (v := .pointer (some ⟨g, 0, none⟩)) rfl (by kernel_rfl) (by kernel_rfl) (by kernel_rfl) (fun _ _ _ h => h) (fun oi ho => ?_) trivial ?_
    · obtain rfl := Option.some.inj ho
      exact Or.inl ⟨by rfl, fun wx hSw => by go_simp⟩
    simp only [Act.put, List.setIfInBounds_toArray, List.set_cons_zero, List.set_cons_succ]
    refine take_at (i := 2) (d := some 15) (v := .pointer (some ⟨g, 0, none⟩)) rfl (by kernel_rfl) (by kernel_rfl) (by kernel_rfl) (fun _ _ _ h => h) (fun oi ho => ?_) trivial ?_
    · obtain rfl := Option.some.inj ho
      exact Or.inl ⟨by rfl, fun wx hSw => by go_simp⟩
    simp only [Act.put, List.setIfInBounds_toArray, List.set_cons_zero, List.set_cons_succ]
    refine take_at (i := 3) (d := some 16) (v := .pointer (some ⟨g, 2, none⟩)) rfl (by kernel_rfl) (by kernel_rfl) (by kernel_rfl) (fun _ _ _ h => h) (fun oi ho => ?_) trivial ?_
    · obtain rfl := Option.some.inj ho
      exact Or.inl ⟨by rfl, fun wx hSw => by go_simp⟩
    simp only [Act.put, List.setIfInBounds_toArray, List.set_cons_zero, List.set_cons_succ]
    refine take_at (i := 5) (d := some 18) (v := S s) rfl (by kernel_rfl) (by kernel_rfl) (by kernel_rfl) (fun _ _ _ h => h) (fun oi ho => ?_) trivial ?_
    · obtain rfl := Option.some.inj ho
      exact Or.inl ⟨by rfl, fun wx hSw => by go_simp⟩
    simp only [Act.put, List.setIfInBounds_toArray, List.set_cons_zero, List.set_cons_succ]
    refine take_at (i := 6) (d := some 19) (v := .int .i64 (k : Int)) rfl (by kernel_rfl) (by kernel_rfl) (by kernel_rfl) (fun _ _ _ h => h) (fun oi ho => ?_) trivial ?_
    · obtain rfl := Option.some.inj ho
      exact Or.inl ⟨by rfl, fun wx hSw => by go_simp⟩
    simp only [Act.put, List.setIfInBounds_toArray, List.set_cons_zero, List.set_cons_succ]
    refine take_at (i := 7) (d := some 20) (v := S (s.take k)) rfl (by kernel_rfl) (by kernel_rfl) (by kernel_rfl) (fun _ _ _ h => h) (fun oi ho => ?_) trivial ?_
    · obtain rfl := Option.some.inj ho
      exact Or.inl ⟨by rfl, fun wx hSw => by go_simp⟩
    simp only [Act.put, List.setIfInBounds_toArray, List.set_cons_zero, List.set_cons_succ]
    refine ready_value (i := 4) (d := some 17) (v := v) (w' := Wq) rfl (by kernel_rfl) (fun oi ho => ?_) trivial ?_
    · obtain rfl := Option.some.inj ho
      exact ⟨by rfl, by go_simp⟩
    simp only [Act.put, List.setIfInBounds_toArray, List.set_cons_zero, List.set_cons_succ]
    refine ready_value (i := 8) (d := some 21) (v := .slice (some ⟨kk, 0, none⟩) N c) (w' := Wa) rfl (by kernel_rfl) (fun oi ho => ?_) trivial ?_
    · obtain rfl := Option.some.inj ho
      refine ⟨by rfl, ?_⟩
      exact exec_builtin_append _ _ _ _ _ _ rfl (by rfl) (by rfl) hra
    simp only [Act.put, List.setIfInBounds_toArray, List.set_cons_zero, List.set_cons_succ]
    refine take_at (i := 9) (d := some 22) (v := .pointer (some ⟨g, 0, none⟩)) rfl (by kernel_rfl) (by kernel_rfl) (by kernel_rfl) (fun _ _ _ h => h) (fun oi ho => ?_) trivial ?_
    · obtain rfl := Option.some.inj ho
      exact Or.inl ⟨by rfl, fun wx hSw => by go_simp⟩
    simp only [Act.put, List.setIfInBounds_toArray, List.set_cons_zero, List.set_cons_succ]
    refine take_at (i := 10) (d := some 23) (v := .pointer (some ⟨g, 2, none⟩)) rfl (by kernel_rfl) (by kernel_rfl) (by kernel_rfl) (fun _ _ _ h => h) (fun oi ho => ?_) trivial ?_
    · obtain rfl := Option.some.inj ho
      exact Or.inl ⟨by rfl, fun wx hSw => by go_simp⟩
    simp only [Act.put, List.setIfInBounds_toArray, List.set_cons_zero, List.set_cons_succ]
    refine ready_skip (i := 11) (d := none) (w' := Wa.setCell ⟨g, 2, none⟩ (.slice (some ⟨kk, 0, none⟩) N c)) rfl (by kernel_rfl) (fun oi ho => ?_) trivial ?_
    · obtain rfl := Option.some.inj ho
      exact ⟨by rfl, by go_simp⟩
    refine wpAnyH_done (by kernel_rfl) ?_ _
    refine NoPanic.normal ?_
    go_wp2
    go_ret
    obtain ⟨hsp, hrow, hoa, hga, hkg, hold, hbk, hp⟩ := HQ.out
    have hlt : (x ++ s.take k).length = x.length + k := by rw [List.length_append, hlk]
    have hN : N = (pre ++ (x ++ s.take k)).length := by
      have := HN.out
      rw [← List.append_assoc, @List.length_append _ (pre ++ x) _]
      exact this.symm
    refine ⟨rfl, ⟨⟨.slice (some ⟨kk, 0, none⟩) N c, pre, ⟨hrow.set 2 _, ?_⟩, fun k' hk' => ?_, by omega⟩, by have := HR.out; omega, hmost, fun k' hk' => ?_⟩, hsp.trans ⟨hga.os, hga.tape, hga.output, by have := hga.size; simp [World.setCell]; omega, fun k' hA hkk => ?_⟩⟩
    · have e : (pre ++ (x ++ s.take k)).map B = (pre ++ x).map B ++ (s.take k).map B := by rw [← List.append_assoc, List.map_append]
      rw [e, ← hN]
      exact hoa.kept (grown_cell Wa g 2 _) (not_some fun k' hk' => by cases hk'; exact hkg.1)
    · cases hk'
      exact ⟨hkg.2, hkg.1⟩
    · have := hold k' hk'
      have := hga.size
      simp [World.setCell]; omega
    · rw [Below.heap_setCell _ _ _ _ hkk]
      exact hga.block k' (hold k' hA) (fun e => (hbk k' e.symm).1 hA)
end Go.Proofs.Ytgkinbichiahjaa
