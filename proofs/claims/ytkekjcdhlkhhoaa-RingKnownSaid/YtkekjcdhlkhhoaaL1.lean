/- The document's ring: Push, Pop, At and Set walked. -/
import Derived.Test.YtkekjcdhlkhhoaaGen6
import Derived.Test.YtkekjcdhlkhhoaaRows
import Derived.Deep.QuietTactic
import Derived.BigQuiet
namespace Go.Proofs.Ytkekjcdhlkhhoaa
open Go.RowKit
attribute [local go_sem] store_one S_match S_store

theorem elemS9 : ElemS Try.prog 9 1 := elemS_of (z := .string ⟨#[]⟩) (n := 16) (by kernel_rfl) (by omega) rfl (by omega)
theorem one_S (xs : List (List UInt8)) : ∀ u ∈ xs.map S, u.oneCell' = true := fun u hu => by obtain ⟨y, _, rfl⟩ := List.mem_map.1 hu; rfl
/-- In block h lies the document's ring: room for m things, xs in it. The blocks of A are not its things'. -/
structure ListAt (w : World) (h : Nat) (A : Nat → Prop) (m : Nat) (xs : List (List UInt8)) : Prop where
  lies : ∃ v, Row w h #[.int .i64 (m : Int), v] 48 ∧ Lies w 1 v xs.length (xs.map S) ∧ (∀ k, v.ownBlock = some k → ¬ A k ∧ k ≠ h)
  old : ∀ k, A k → k < w.heap.size
section
variable {w w' : World} {h m : Nat} {A : Nat → Prop} {xs : List (List UInt8)}
theorem ListAt.lt (H : ListAt w h A m xs) : h < w.heap.size := by obtain ⟨⟨v, hr, _⟩, _⟩ := H; exact hr.lt
theorem ListAt.below (H : ListAt w h A m xs) (hb : Below w.heap.size w w') : ListAt w' h A m xs := by
  obtain ⟨⟨v, hr, hl, ha⟩, ho⟩ := H
  exact ⟨⟨v, hr.below hb hr.lt, hl.below hb, ha⟩, fun k hk => Nat.lt_of_lt_of_le (ho k hk) hb.size⟩
theorem ListAt.drawn (H : ListAt w h A m xs) (hd : Drawn w w') : ListAt w' h A m xs := H.below hd.below
end
/-- The cells that are not in the room behind the list's slice stay, and stay out of it. -/
def KeepsCells (w w' : World) (h : Nat) : Prop := ∀ (m v : Value), Row w h #[m, v] 48 → ∃ v', (∃ m', Row w' h #[m', v'] 48) ∧ ∀ k o0 n0, k < w.heap.size → k ≠ h → SpareOut 1 v k o0 n0 →
  (∀ j, o0 ≤ j → j < o0 + n0 → w'.cell? ⟨k, j, none⟩ = w.cell? ⟨k, j, none⟩) ∧ SpareOut 1 v' k o0 n0
theorem KeepsCells.of_drawn {w w' : World} (hd : Drawn w w') (h : Nat) : KeepsCells w w' h := fun m v hr => by
  obtain ⟨n, rfl⟩ := hd
  exact ⟨v, ⟨m, hr⟩, fun _ _ _ _ _ hs => ⟨fun _ _ _ => rfl, hs⟩⟩
theorem row_inj {w : World} {h : Nat} {a b c d : Value} (h1 : Row w h #[a, b] 48) (h2 : Row w h #[c, d] 48) : a = c ∧ b = d := by
  have := h1.symm.trans h2
  simpa using this
/-- What is at a place. -/
def atF (xs : List (List UInt8)) (n : Int) : List UInt8 := if 0 ≤ n then xs.getD n.toNat [] else []
def isF (xs : List (List UInt8)) (n : Int) : Bool := decide (0 ≤ n) && decide (n < (xs.length : Int))

set_option maxRecDepth 100000 in
set_option maxHeartbeats 1000000 in
theorem refPush_any (h : Nat) (A : Nat → Prop) (m : Nat) (xs : List (List UInt8)) (x : List UInt8) (w : World) (H : ListAt w h A m xs) (hl : xs.length < 1000000) :
    Calls Try.prog 44 #[.pointer (some ⟨h, 0, none⟩), S x] w fun e w' => e = .returned (.bool (decide (xs.length < m))) ∧ ListAt w' h A m (if xs.length < m then xs ++ [x] else xs) ∧ Spare h A w w' ∧ KeepsCells w w' h := by
  obtain ⟨⟨v, hr, hli, ha⟩, ho⟩ := H
  have c0 : w.cell? ⟨h, 0, none⟩ = some (.int .i64 (m : Int)) := cell_of_row w h 0 _ 48 (0, 0) hr
  have c1 : w.cell? ⟨h, 1, none⟩ = some v := cell_of_row w h 1 _ 48 (0, 0) hr
  have hlen := hli.len Try.underlying46 3
  by_cases hfull : xs.length < m
  · rw [decide_eq_true hfull, if_pos hfull]
    have hb : decide ((m : Int) ≤ (xs.length : Int)) = false := decide_eq_false (by omega)
    have hb' : decide (m ≤ xs.length) = false := decide_eq_false (by omega)
    have HH := Lib.hid (And.intro hr (And.intro hli (And.intro ha ho)))
    clear hr hli ha ho hfull
    obtain ⟨L, hL⟩ : ∃ L, L = xs.length := ⟨_, rfl⟩
    rw [← hL] at hlen hb hb'
    have HL := Lib.hid hL
    clear hL
    go_enter Try.func44, Try.ntmps44
    go_wp2
    go_quiet (fail)
    have hrow : Row ((w.drewN nq).alloc (.cells #[S x] 9)) h #[.int .i64 (m : Int), v] 48 := Row.alloc (w := w.drewN nq) HH.out.1 _
    have hnew : ((w.drewN nq).alloc (.cells #[S x] 9)).cell? ⟨w.heap.size, 0, none⟩ = some (S x) := cell_of_row _ _ 0 _ 9 (0, 0) (row_new (w.drewN nq) _ _)
    have hsrc : Src Try.prog 1 46 (.slice (some ⟨w.heap.size, 0, none⟩) 1 1) 1 [S x] ((w.drewN nq).alloc (.cells #[S x] 9)) :=
      Src.ofSlice _ Try.underlying46 ⟨w.heap.size, 0, none⟩ 1 1 [S x] rfl (fun j u hu => by
        cases j with
        | zero => rw [Addr.add_mid]; simp only [List.getElem?_cons_zero, Option.some.injEq] at hu; subst hu; exact hnew
        | succ j => simp at hu) (fun u hu => by simp only [List.mem_singleton] at hu; subst hu; rfl)
    obtain ⟨v', w', hrun, hl', hg, hk⟩ := Lies.append (w := (w.drewN nq).alloc (.cells #[S x] 9)) (Lies.alloc (w := w.drewN nq) (HH.out.2.1.below (below_drewN w nq)) _) Try.underlying46 elemS9 (one_S xs) 46 _ 1 [S x] hsrc (by omega)
    have hne : ∀ k, v.ownBlock = some k → some k ≠ some h := not_some fun k hk => (HH.out.2.2.1 k hk).2
    have hrow' : Row w' h #[.int .i64 (m : Int), v] 48 := row_grown hrow hg (fun e => hne h e.symm rfl)
    have hb' : ∀ k, v'.ownBlock = some k → ¬ A k ∧ k ≠ h := fun k hk' => by
      have hlt := HH.out.1.lt
      rcases hk with hk | hk
      · exact HH.out.2.2.1 k (hk ▸ hk')
      · rw [hk] at hk'
        have hk2 : ((w.drewN nq).alloc (.cells #[S x] 9)).heap.size = k := Option.some.inj hk'
        have hk3 : k = w.heap.size + 1 := by rw [← hk2, alloc_size]; rfl
        exact ⟨fun hA => by have := HH.out.2.2.2 k hA; omega, by omega⟩
    have hsp : Spare h A w w' := (Spare.of_below (((Below.refl _ w).trans (below_drewN w nq)).alloc (Nat.le_refl _) _) HH.out.2.2.2).trans (Spare.of_grown hg (fun k hk => by have := HH.out.2.2.2 k hk; rw [alloc_size]; show k < w.heap.size + 1; omega) (fun k hk hA => (HH.out.2.2.1 k hk).1 hA))
    have hsize : w.heap.size ≤ w'.heap.size := hsp.size
    have hkc : ∀ k o0 n0, k < w.heap.size → SpareOut 1 v k o0 n0 → (∀ j, o0 ≤ j → j < o0 + n0 → w'.cell? ⟨k, j, none⟩ = w.cell? ⟨k, j, none⟩) ∧ SpareOut 1 v' k o0 n0 := fun k o0 n0 hk hs => by
      have h1 := Lies.append_keeps (w := (w.drewN nq).alloc (.cells #[S x] 9)) (Lies.alloc (w := w.drewN nq) (HH.out.2.1.below (below_drewN w nq)) _) Try.underlying46 elemS9 46 _ 1 [S x] hsrc (by omega) hrun k o0 n0 (by rw [alloc_size]; show k < w.heap.size + 1; omega) hs
      refine ⟨fun j h2 h3 => (h1.1 j h2 h3).trans ?_, h1.2⟩
      exact World.cell?_of_block (w := w) (a := ⟨k, j, none⟩) (heap_alloc_old (w.drewN nq) _ hk)
    obtain ⟨a', c', rfl⟩ := hl'.form
    have f1 : w'.frozen? ⟨h, 1, none⟩ = false := Row.frozen hrow' 1
    have d1 : w'.cell? ⟨h, 1, none⟩ = some v := cell_of_row w' h 1 _ 48 (0, 0) hrow'
    have HN := Lib.hid (And.intro hrow' (And.intro hl' (And.intro hb' (And.intro hsp (And.intro hsize hkc)))))
    clear hrow hnew hsrc hl' hg hk hrow' hb' hsp hsize hne hkc
    go_wp2_with (at_builtin; refine wpList_append_by rfl 46 46 (.tmp 19) (.tmp 21) rfl v (.slice (some ⟨w.heap.size, 0, none⟩) 1 1) rfl rfl _ _ hrun ?_)
    go_ret
    refine ⟨rfl, ⟨⟨_, HN.out.1.set 1 _, ?_, HN.out.2.2.1⟩, fun k hk => ?_⟩, HN.out.2.2.2.1.trans (Spare.of_keeps (Keeps.setCell _ 1 _) (fun k hk => by have := HH.out.2.2.2 k hk; have := HN.out.2.2.2.2.1; omega)), ?_⟩
    · have e : (xs ++ [x]).map S = xs.map S ++ [S x] := by simp
      rw [e, List.length_append, List.length_singleton]
      exact HN.out.2.1.grown (grown_cell w' h 1 _) (not_some fun k hk => (HN.out.2.2.1 k hk).2)
    · have := HH.out.2.2.2 k hk
      have := HN.out.2.2.2.2.1
      simp [World.setCell]; omega
    · intro m2 v2 hr2
      obtain ⟨rfl, rfl⟩ := row_inj HH.out.1 hr2
      refine ⟨_, ⟨_, HN.out.1.set 1 _⟩, fun k o0 n0 hk hkh hs => ?_⟩
      have h1 := HN.out.2.2.2.2.2 k o0 n0 hk hs
      refine ⟨fun j h2 h3 => ?_, h1.2⟩
      rw [World.cell?_setCell_other (h := show (⟨h, 1, none⟩ : Addr) ≠ ⟨k, j, none⟩ by intro e; simp only [Addr.mk.injEq] at e; omega)]
      exact h1.1 j h2 h3
  · rw [decide_eq_false hfull, if_neg hfull]
    have hb : decide ((m : Int) ≤ (xs.length : Int)) = true := decide_eq_true (by omega)
    have hb' : decide (m ≤ xs.length) = true := decide_eq_true (by omega)
    have HH := Lib.hid (And.intro hr (And.intro hli (And.intro ha ho)))
    clear hr hli ha ho hfull
    obtain ⟨L, hL⟩ : ∃ L, L = xs.length := ⟨_, rfl⟩
    rw [← hL] at hlen hb hb'
    clear hL
    go_enter Try.func44, Try.ntmps44
    go_wp2
    go_quiet (fail)
    go_wp2
    go_ret
    exact ⟨rfl, ListAt.drawn ⟨⟨v, HH.out.1, HH.out.2.1, HH.out.2.2.1⟩, HH.out.2.2.2⟩ ⟨_, rfl⟩, Spare.of_drawn ⟨_, rfl⟩, KeepsCells.of_drawn ⟨_, rfl⟩ h⟩
theorem list_pop {w : World} {x : List UInt8} {r : List (List UInt8)} {v : Value} (hli : Lies w 1 v (x :: r).length ((x :: r).map S)) :
    ∃ k o, (∀ W, (Instr.indexAt 46 v (.int .i64 0)).run Try.prog W = .ok (.pointer (some ⟨k, o, none⟩)) W) ∧ w.cell? ⟨k, o, none⟩ = some (S x) := by
  obtain ⟨k, o, _, hidx, hc⟩ := hli.index Try.underlying46 (fun w => Try.sizeOf9 w)
  refine ⟨k, o, fun W => ?_, ?_⟩
  · have := hidx 0 (by simp) W
    rw [Nat.zero_mul, Nat.add_zero] at this
    exact this
  · have := (hc 0 0 (by simp) (by omega)).1
    rw [Nat.zero_mul, Nat.add_zero, Nat.add_zero] at this
    exact this
set_option maxRecDepth 100000 in
set_option maxHeartbeats 1000000 in
theorem refPop_none (h : Nat) (A : Nat → Prop) (m : Nat) (w : World) (H : ListAt w h A m []) :
    Calls Try.prog 45 #[.pointer (some ⟨h, 0, none⟩)] w fun e w' => e = .returned (.tuple #[.string ⟨#[]⟩, .bool false]) ∧ w' = w := by
  obtain ⟨⟨v, hr, hli, ha⟩, ho⟩ := H
  have c1 : w.cell? ⟨h, 1, none⟩ = some v := cell_of_row w h 1 _ 48 (0, 0) hr
  have hlen : ∀ W, (Builtin.len_ #[46] 3 #[v]).run Try.prog W = .ok (.int .i64 0) W := hli.len Try.underlying46 3
  clear hr hli ha ho
  go_enter Try.func45, Try.ntmps45
  go_wp2
  go_ret2
  exact ⟨rfl, rfl⟩
set_option maxRecDepth 100000 in
set_option maxHeartbeats 1000000 in
theorem refPop_some (h : Nat) (A : Nat → Prop) (m : Nat) (x : List UInt8) (r : List (List UInt8)) (w : World) (H : ListAt w h A m (x :: r)) :
    Calls Try.prog 45 #[.pointer (some ⟨h, 0, none⟩)] w fun e w' => e = .returned (.tuple #[S x, .bool true]) ∧ ListAt w' h A m r ∧ Spare h A w w' ∧ KeepsCells w w' h := by
  obtain ⟨⟨v, hr, hli, ha⟩, ho⟩ := H
  have c1 : w.cell? ⟨h, 1, none⟩ = some v := cell_of_row w h 1 _ 48 (0, 0) hr
  have f1 : w.frozen? ⟨h, 1, none⟩ = false := Row.frozen hr 1
  obtain ⟨L, hL⟩ : ∃ L, L = (x :: r).length := ⟨_, rfl⟩
  have hlen := hli.len Try.underlying46 3
  rw [← hL] at hlen
  obtain ⟨k, o, hidx, hcell⟩ := list_pop hli
  obtain ⟨V, hsl, hV, hVb⟩ := hli.from Try.underlying46 (fun w => Try.sizeOf9 w) 1 (by simp)
  have hVx : Lies w 1 V r.length (r.map S) := by simpa using hV
  obtain ⟨a', c', hVe⟩ := hVx.form
  have hkp : ∀ k o0 n0, SpareOut 1 v k o0 n0 → SpareOut 1 V k o0 n0 := fun k o0 n0 hs => hli.from_keeps Try.underlying46 (fun w => Try.sizeOf9 w) 1 (by simp) (hsl w) k o0 n0 hs
  have hsl1 : ∀ W, (Instr.slice 46 v (some (.int .i64 1)) none none).run Try.prog W = .ok (.slice a' r.length c') W := fun W => by rw [← hVe]; exact hsl W
  have hb : ((L : Int) == 0) = false := by rw [beq_eq_false_iff_ne, hL, List.length_cons]; omega
  have hb' : (L == 0) = false := by rw [beq_eq_false_iff_ne, hL, List.length_cons]; omega
  have hb'' : decide (L = 0) = false := decide_eq_false (by rw [hL, List.length_cons]; omega)
  have HH := Lib.hid (And.intro hr (And.intro hVx (And.intro hVe (And.intro hVb (And.intro ha (And.intro ho hkp))))))
  clear hr hli ha ho hV hVx hVe hVb hsl hL hkp
  obtain ⟨n', hn'⟩ : ∃ n', n' = r.length := ⟨_, rfl⟩
  rw [← hn'] at hsl1
  have HN := Lib.hid hn'
  clear hn'
  go_enter Try.func45, Try.ntmps45
  go_wp2
  go_ret2
  obtain ⟨hr, hVx, hVe, hVb, ha, ho, hkp⟩ := HH.out
  have hn := HN.out
  subst hn
  subst hVe
  refine ⟨rfl, ⟨⟨_, hr.set 1 _, hVx.grown (grown_cell w h 1 _) (not_some fun k hk => (ha k (hVb ▸ hk)).2), fun k hk => ha k (hVb ▸ hk)⟩, fun k hk => by simpa [World.setCell] using ho k hk⟩, Spare.of_keeps (Keeps.setCell w 1 _) ho, fun m2 v2 hr2 => ?_⟩
  obtain ⟨rfl, rfl⟩ := row_inj hr hr2
  refine ⟨_, ⟨_, hr.set 1 _⟩, fun k o0 n0 hk hkh hs => ⟨fun j _ _ => ?_, hkp k o0 n0 hs⟩⟩
  rw [World.cell?_setCell_other (h := show (⟨h, 1, none⟩ : Addr) ≠ ⟨k, j, none⟩ by intro e; simp only [Addr.mk.injEq] at e; omega)]
set_option maxRecDepth 100000 in
set_option maxHeartbeats 1000000 in
theorem refAt_none (h : Nat) (A : Nat → Prop) (m : Nat) (xs : List (List UInt8)) (n : Int) (w : World) (H : ListAt w h A m xs) (hn : n < 0 ∨ (xs.length : Int) ≤ n) :
    Calls Try.prog 46 #[.pointer (some ⟨h, 0, none⟩), .int .i64 n] w fun e w' => e = .returned (.tuple #[.string ⟨#[]⟩, .bool false]) ∧ w' = w := by
  obtain ⟨⟨v, hr, hli, ha⟩, ho⟩ := H
  have c1 : w.cell? ⟨h, 1, none⟩ = some v := cell_of_row w h 1 _ 48 (0, 0) hr
  obtain ⟨L, hL⟩ : ∃ L, L = xs.length := ⟨_, rfl⟩
  have hlen := hli.len Try.underlying46 3
  rw [← hL] at hlen hn
  clear hr hli ha ho hL
  by_cases h0 : n < 0
  · have hb : decide (n < 0) = true := decide_eq_true h0
    go_enter Try.func46, Try.ntmps46
    go_wp2
    go_ret2
    exact ⟨rfl, rfl⟩
  · have hb : decide (n < 0) = false := decide_eq_false h0
    have hb2 : decide ((L : Int) ≤ n) = true := decide_eq_true (by omega)
    go_enter Try.func46, Try.ntmps46
    go_wp2
    go_ret2
    exact ⟨rfl, rfl⟩
set_option maxRecDepth 100000 in
set_option maxHeartbeats 1000000 in
theorem refAt_some (h : Nat) (A : Nat → Prop) (m : Nat) (xs : List (List UInt8)) (i : Nat) (x : List UInt8) (w : World) (H : ListAt w h A m xs) (hx : xs[i]? = some x) :
    Calls Try.prog 46 #[.pointer (some ⟨h, 0, none⟩), .int .i64 (i : Int)] w fun e w' => e = .returned (.tuple #[S x, .bool true]) ∧ w' = w := by
  obtain ⟨⟨v, hr, hli, ha⟩, ho⟩ := H
  have c1 : w.cell? ⟨h, 1, none⟩ = some v := cell_of_row w h 1 _ 48 (0, 0) hr
  obtain ⟨L, hL⟩ : ∃ L, L = xs.length := ⟨_, rfl⟩
  have hlt : i < xs.length := (List.getElem?_eq_some_iff.1 hx).1
  have hlen := hli.len Try.underlying46 3
  obtain ⟨k, o, _, hidx, hc⟩ := hli.index Try.underlying46 (fun w => Try.sizeOf9 w)
  have hidx1 := hidx i hlt
  have hcell : w.cell? ⟨k, o + i * 1, none⟩ = some (S x) := by
    have := (hc i 0 hlt (by omega)).1
    rw [Nat.add_zero, Nat.add_zero, Nat.mul_one, List.getElem?_map, hx] at this
    rw [Nat.mul_one]; exact this
  rw [← hL] at hlen hlt
  rw [Nat.mul_one] at hidx1 hcell
  have hb : decide ((i : Int) < 0) = false := decide_eq_false (by omega)
  have hb2 : decide ((L : Int) ≤ (i : Int)) = false := decide_eq_false (by omega)
  have hb3 : decide (L ≤ i) = false := decide_eq_false (by omega)
  clear hr hli ha ho hL hidx hc hlt hx
  go_enter Try.func46, Try.ntmps46
  go_wp2
  go_ret2
  exact ⟨rfl, rfl⟩
set_option maxRecDepth 100000 in
set_option maxHeartbeats 1000000 in
theorem refSet_none (h : Nat) (A : Nat → Prop) (m : Nat) (xs : List (List UInt8)) (n : Int) (y : List UInt8) (w : World) (H : ListAt w h A m xs) (hn : n < 0 ∨ (xs.length : Int) ≤ n) :
    Calls Try.prog 47 #[.pointer (some ⟨h, 0, none⟩), .int .i64 n, S y] w fun e w' => e = .returned (.bool false) ∧ w' = w := by
  obtain ⟨⟨v, hr, hli, ha⟩, ho⟩ := H
  have c1 : w.cell? ⟨h, 1, none⟩ = some v := cell_of_row w h 1 _ 48 (0, 0) hr
  obtain ⟨L, hL⟩ : ∃ L, L = xs.length := ⟨_, rfl⟩
  have hlen := hli.len Try.underlying46 3
  rw [← hL] at hlen hn
  clear hr hli ha ho hL
  by_cases h0 : n < 0
  · have hb : decide (n < 0) = true := decide_eq_true h0
    go_enter Try.func47, Try.ntmps47
    go_wp2
    go_ret
    exact ⟨rfl, rfl⟩
  · have hb : decide (n < 0) = false := decide_eq_false h0
    have hb2 : decide ((L : Int) ≤ n) = true := decide_eq_true (by omega)
    go_enter Try.func47, Try.ntmps47
    go_wp2
    go_ret
    exact ⟨rfl, rfl⟩
set_option maxRecDepth 100000 in
set_option maxHeartbeats 1000000 in
theorem refSet_some (h : Nat) (A : Nat → Prop) (m : Nat) (xs : List (List UInt8)) (i : Nat) (y : List UInt8) (w : World) (H : ListAt w h A m xs) (hi : i < xs.length) (hl : xs.length < 1000000) :
    Calls Try.prog 47 #[.pointer (some ⟨h, 0, none⟩), .int .i64 (i : Int), S y] w fun e w' => e = .returned (.bool true) ∧ ListAt w' h A m (xs.set i y) ∧ Spare h A w w' := by
  obtain ⟨⟨v, hr, hli, ha⟩, ho⟩ := H
  have c1 : w.cell? ⟨h, 1, none⟩ = some v := cell_of_row w h 1 _ 48 (0, 0) hr
  have hlen := hli.len Try.underlying46 3
  obtain ⟨v1, w1, hrun, hl1, hg1, hk1⟩ := Lies.append (lies_nil w 1) Try.underlying46 elemS9 (fun u hu => by cases hu) 46 v xs.length (xs.map S) (hli.src Try.underlying46 (one_S xs)) (by omega)
  rw [Nat.zero_add, List.nil_append] at hl1
  obtain ⟨k, o, c, rfl, hnc, hkw⟩ := hl1.shape (by omega)
  have hkb : k = w.heap.size := by
    rcases hk1 with hk | hk
    · cases hk
    · exact Option.some.inj hk
  have hlt := hr.lt
  have hset := hl1.set i (S y) (by omega)
  have hr1 : Row w1 h #[.int .i64 (m : Int), v] 48 := row_grown hr hg1 (fun e => by cases e)
  have hidx : ∀ W, (Instr.indexAt 46 (.slice (some ⟨k, o, none⟩) xs.length c) (.int .i64 (i : Int))).run Try.prog W = .ok (.pointer (some ⟨k, o + i, none⟩)) W := fun W => by
    have := run_index_at (P := Try.prog) (sz := 1) Try.underlying46 (fun w => Try.sizeOf9 w) k o xs.length c i hi W
    rw [Nat.mul_one] at this; exact this
  have e1 := hset.2.1
  have e2 := hset.2.2
  have g1 : (w1.setCell ⟨k, o + i, none⟩ (S y)).frozen? ⟨h, 1, none⟩ = false := Row.frozen (hr1.other (by show h ≠ k; omega)) 1
  have g2 : (w1.setCell ⟨k, o + i, none⟩ (S y)).cell? ⟨h, 1, none⟩ = some v := cell_of_row _ h 1 _ 48 (0, 0) (hr1.other (by show h ≠ k; omega))
  have hb : decide ((i : Int) < 0) = false := decide_eq_false (by omega)
  have hb2 : decide ((xs.length : Int) ≤ (i : Int)) = false := decide_eq_false (by omega)
  have hb3 : decide (xs.length ≤ i) = false := decide_eq_false (by omega)
  have HH := Lib.hid (And.intro hr1 (And.intro hset.1 (And.intro hg1 (And.intro hkb (And.intro ha (And.intro ho hlt))))))
  clear hr hli ha ho hl1 hnc hkw hset hr1 hg1 hkb hk1 hlt
  obtain ⟨L, hL⟩ : ∃ L, L = xs.length := ⟨_, rfl⟩
  rw [← hL] at hlen hrun hidx hb2 hb3
  have HL := Lib.hid hL
  clear hL hi
  go_enter Try.func47, Try.ntmps47
  go_wp2_with (at_builtin; refine wpList_append_by rfl 46 46 (.tmp 19) (.tmp 23) rfl (.slice none 0 0) v rfl rfl _ _ hrun ?_)
  go_ret
  obtain ⟨hr1, hs1, hg1, hkb, ha, ho, hlt⟩ := HH.out
  have hLL := HL.out
  subst hLL
  have hz : w.heap.size ≤ w1.heap.size := hg1.size
  refine ⟨rfl, ⟨⟨_, (hr1.other (by show h ≠ k; omega)).set 1 _, ?_, fun k' hk' => ?_⟩, fun k' hk' => by have := ho k' hk'; simp [World.setCell]; omega⟩, ?_⟩
  · have e : (xs.set i y).map S = (xs.map S).set i (S y) := List.map_set
    rw [e, List.length_set]
    exact hs1.grown (grown_cell _ h 1 _) (not_some fun k' hk' => by cases hk'; show k ≠ h; omega)
  · cases hk'
    exact ⟨fun hA => by have := ho k hA; omega, by show k ≠ h; omega⟩
  · refine ((Spare.of_grown hg1 ho (fun k' hk' => by cases hk')).trans ?_).trans (Spare.of_keeps (Keeps.setCell _ 1 _) (fun k' hk' => by have := ho k' hk'; simp [World.setCell]; omega))
    exact Spare.of_grown (grown_cell w1 k _ _) (fun k' hk' => by have := ho k' hk'; omega) (fun k' hk' hA => by have := Option.some.inj hk'; subst this; have := ho _ hA; omega)
end Go.Proofs.Ytkekjcdhlkhhoaa
