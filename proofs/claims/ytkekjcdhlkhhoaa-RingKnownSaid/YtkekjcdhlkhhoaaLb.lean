/- What is asked of a ring of numbers of 16 bits. -/
import Derived.Test.YtkekjcdhlkhhoaaL8
import Derived.Test.YtkekjcdhlkhhoaaGen2
namespace Go.Proofs.Ytkekjcdhlkhhoaa
open Go.RowKit
attribute [local go_sem] store_one S_match S_store

/-- A number of 16 bits as a value. -/
def U16 (n : Nat) : Value := .int .u16 (n : Int)
theorem elemS70 : ElemS Try.prog 70 1 := elemS_of (z := .int .u16 0) (n := 2) (by kernel_rfl) (by omega) rfl (by omega)
theorem one_U (xs : List Nat) : ∀ u ∈ xs.map U16, u.oneCell' = true := fun u hu => by obtain ⟨y, _, rfl⟩ := List.mem_map.1 hu; rfl
def placedU (xs : List Nat) : List (Nat × Nat) := (List.range xs.length).map fun i => (i, xs.getD i 0)
def encU (x : Nat × Nat) : Array Value := #[.int .i64 (x.1 : Int), U16 x.2]
structure RingU (RA : World → (Nat → Prop) → Nat → Nat → List Nat → Prop) : Prop where
  lt : ∀ {w F g m xs}, RA w F g m xs → F g ∧ ∀ k, F k → k < w.heap.size
  fits : ∀ {w F g m xs}, RA w F g m xs → xs.length ≤ m ∧ m ≤ 65536
  same : ∀ {w w' : World} {F g m xs}, RA w F g m xs → w.heap.size ≤ w'.heap.size → (∀ k, F k → w'.heap[k]? = w.heap[k]?) → RA w' F g m xs
  new_good : ∀ (m : Nat) (w : World), 1 ≤ m → m ≤ 65536 → Calls Try.prog 29 #[.int .i64 (m : Int)] w fun e w' => ∃ g F, e = .returned (.tuple #[.pointer (some ⟨g, 0, none⟩), .int .i64 0]) ∧ RA w' F g m [] ∧ (∀ k, F k → w.heap.size ≤ k) ∧ Below w.heap.size w w'
  push : ∀ {w F g m xs} (x : Nat), RA w F g m xs → Calls Try.prog 30 #[.pointer (some ⟨g, 0, none⟩), U16 x] w fun e w' => e = .returned (.bool (decide (xs.length < m))) ∧ ∃ F', RA w' F' g m (if xs.length < m then xs ++ [x] else xs) ∧ Moves F F' w w'
  pop_none : ∀ {w F g m}, RA w F g m [] → Calls Try.prog 31 #[.pointer (some ⟨g, 0, none⟩)] w fun e w' => e = .returned (.tuple #[.int .u16 0, .bool false]) ∧ ∃ F', RA w' F' g m [] ∧ Moves F F' w w'
  pop_some : ∀ {w F g m} {x : Nat} {r}, RA w F g m (x :: r) → Calls Try.prog 31 #[.pointer (some ⟨g, 0, none⟩)] w fun e w' => e = .returned (.tuple #[U16 x, .bool true]) ∧ ∃ F', RA w' F' g m r ∧ Moves F F' w w'
  at_some : ∀ {w F g m xs} (i : Nat) (x : Nat), RA w F g m xs → xs[i]? = some x → Calls Try.prog 33 #[.pointer (some ⟨g, 0, none⟩), .int .i64 (i : Int)] w fun e w' => e = .returned (.tuple #[U16 x, .bool true]) ∧ Below w.heap.size w w'
  len : ∀ {w F g m xs}, RA w F g m xs → Calls Try.prog 34 #[.pointer (some ⟨g, 0, none⟩)] w fun e w' => e = .returned (.int .i64 (xs.length : Int)) ∧ Below w.heap.size w w'
  all : ∀ {w F g m xs}, RA w F g m xs → Calls Try.prog 32 #[.pointer (some ⟨g, 0, none⟩)] w fun e w' => ∃ gf lb k Kb, e = .returned (.func (.func gf) #[] lb) ∧ Below w.heap.size w w' ∧ (∀ r, Kb r → w.heap.size ≤ r ∧ r < w'.heap.size) ∧
    (∀ args W, (callFunc gf args).run Try.prog W = .ok (.enter gf args) W) ∧ ∀ n, SeqL Try.prog n gf lb encU k Kb (placedU xs) (fun W => Below w'.heap.size w' W)

/-- What holds between two steps: in boxes lie the answer (b), the ring (c), all that was pushed (c + 1), how many are gone (c + 2); xs is in the ring. -/
structure Ord (RA : World → (Nat → Prop) → Nat → Nat → List Nat → Prop) (w0 : World) (g m c : Nat) (xs all : List Nat) (gone : Nat) (F : Nat → Prop) (v : Value) (W : World) : Prop where
  r : RA W F g m xs
  ans : Row W w0.heap.size #[.bool false] 4
  ptr : Row W c #[.pointer (some ⟨g, 0, none⟩)] 67
  box : Row W (c + 1) #[v] 66
  lies : Lies W 1 v all.length (all.map U16)
  gon : Row W (c + 1 + 1) #[.int .i64 (gone : Int)] 3
  offF : ∀ k, F k → w0.heap.size + 1 ≤ k ∧ (k < c ∨ c + 3 ≤ k)
  offV : ∀ k, v.ownBlock = some k → c + 3 ≤ k ∧ ¬ F k
  bel : Below w0.heap.size w0 W
  lo : w0.heap.size + 1 ≤ c
section
variable {RA : World → (Nat → Prop) → Nat → Nat → List Nat → Prop} {w0 W W' : World} {g m c gone : Nat} {xs xs' all all' : List Nat} {F F' : Nat → Prop} {v v' : Value}
theorem Ord.cp (H : Ord RA w0 g m c xs all gone F v W) : W.cell? ⟨c, 0, none⟩ = some (.pointer (some ⟨g, 0, none⟩)) := cell_of_row W _ 0 _ 67 (0, 0) H.ptr
theorem Ord.cb (H : Ord RA w0 g m c xs all gone F v W) : W.cell? ⟨c + 1, 0, none⟩ = some v := cell_of_row W _ 0 _ 66 (0, 0) H.box
theorem Ord.cg (H : Ord RA w0 g m c xs all gone F v W) : W.cell? ⟨c + 1 + 1, 0, none⟩ = some (.int .i64 (gone : Int)) := cell_of_row W _ 0 _ 3 (0, 0) H.gon
theorem Ord.fb (H : Ord RA w0 g m c xs all gone F v W) : W.frozen? ⟨c + 1, 0, none⟩ = false := Row.frozen H.box 0
theorem Ord.fg (H : Ord RA w0 g m c xs all gone F v W) : W.frozen? ⟨c + 1 + 1, 0, none⟩ = false := Row.frozen H.gon 0
/-- New blocks, and turns of what is none of these. -/
theorem Ord.grown (R : RingU RA) {row : Option Nat} (H : Ord RA w0 g m c xs all gone F v W) (hg : W.grownBy W' row) (hr : ∀ k, row = some k → c + 3 ≤ k ∧ ¬ F k ∧ v.ownBlock ≠ some k) : Ord RA w0 g m c xs all gone F v W' := by
  have hlo := H.lo
  exact ⟨R.same H.r hg.size (fun k hk => hg.block k ((R.lt H.r).2 k hk) (fun e => (hr k e.symm).2.1 hk)), row_grown H.ans hg (fun e => by have := (hr _ e.symm).1; omega), row_grown H.ptr hg (fun e => by have := (hr _ e.symm).1; omega), row_grown H.box hg (fun e => by have := (hr _ e.symm).1; omega),
    H.lies.grown hg (fun k hk e => (hr k e.symm).2.2 hk), row_grown H.gon hg (fun e => by have := (hr _ e.symm).1; omega), H.offF, H.offV, H.bel.grown hg H.bel.size (fun k e => by have := (hr k e).1; omega), H.lo⟩
theorem Ord.below (R : RingU RA) (H : Ord RA w0 g m c xs all gone F v W) (hb : Below W.heap.size W W') : Ord RA w0 g m c xs all gone F v W' :=
  H.grown R (row := none) ⟨hb.os, hb.tape, hb.output, hb.size, fun k hk _ => hb.block k hk⟩ (fun k e => by cases e)
/-- The ring has turned. -/
theorem Ord.moves (_R : RingU RA) (H : Ord RA w0 g m c xs all gone F v W) (h1 : RA W' F' g m xs') (hm : Moves F F' W W') : Ord RA w0 g m c xs' all gone F' v W' := by
  have hc := H.gon.lt
  refine ⟨h1, H.ans.moves hm (fun hf => ?_), H.ptr.moves hm (fun hf => ?_), H.box.moves hm (fun hf => ?_), H.lies.same hm.size (fun k hk => hm.rest k (H.lies.lt k hk) (H.offV k hk).2), H.gon.moves hm (fun hf => ?_), fun k hk => ?_, fun k hk => ⟨(H.offV k hk).1, fun hf => ?_⟩, H.bel.trans (hm.below (fun k hk => by have := (H.offF k hk).1; omega) H.bel.size), H.lo⟩
  · have := (H.offF _ hf).1; omega
  · have := (H.offF _ hf).2; omega
  · have := (H.offF _ hf).2; omega
  · have := (H.offF _ hf).2; omega
  · rcases hm.foot k hk with h2 | h2
    · exact H.offF k h2
    · have := H.lo; omega
  · rcases hm.foot k hf with h2 | h2
    · exact (H.offV k hk).2 h2
    · have := H.lies.lt k hk; omega
/-- One more is gone. -/
theorem Ord.popped (R : RingU RA) (H : Ord RA w0 g m c xs all gone F v W) : Ord RA w0 g m c xs all (gone + 1) F v (W.setCell ⟨c + 1 + 1, 0, none⟩ (.int .i64 ((gone : Int) + 1))) := by
  have hlo := H.lo
  have hb : ∀ k, k ≠ c + 1 + 1 → (W.setCell ⟨c + 1 + 1, 0, none⟩ (.int .i64 ((gone : Int) + 1))).heap[k]? = W.heap[k]? := fun k hk => Below.heap_setCell _ _ _ _ hk
  have hs : (W.setCell ⟨c + 1 + 1, 0, none⟩ (.int .i64 ((gone : Int) + 1))).heap.size = W.heap.size := by simp [World.setCell]
  refine ⟨R.same H.r (by omega) (fun k hk => hb k ?_), H.ans.other (by show w0.heap.size ≠ c + 1 + 1; omega), H.ptr.other (by show c ≠ c + 1 + 1; omega), H.box.other (by show c + 1 ≠ c + 1 + 1; omega), H.lies.same (by omega) (fun k hk => hb k ?_), H.gon.set 0 _, H.offF, H.offV, H.bel.setCell (p := ⟨c + 1 + 1, 0, none⟩) (by show _ ≤ c + 1 + 1; omega) _, H.lo⟩
  · have := (H.offF k hk).2; omega
  · have := (H.offV k hk).1; omega
/-- One more was pushed: the run of the append, and what holds behind the store. -/
theorem Ord.append (R : RingU RA) (H : Ord RA w0 g m c xs all gone F v W) (x : Nat) (hl : all.length < 1000000) :
    ∃ a n cp w', (Builtin.append_ #[66, 66] 66 #[v, .slice (some ⟨W.heap.size, 0, none⟩) 1 1]).run Try.prog (W.alloc (.cells #[U16 x] 70)) = .ok (.slice a n cp) w' ∧
      w'.cell? ⟨c + 1, 0, none⟩ = some v ∧ w'.frozen? ⟨c + 1, 0, none⟩ = false ∧ Below w0.heap.size w0 w' ∧
      Ord RA w0 g m c xs (all ++ [x]) gone F (.slice a n cp) (w'.setCell ⟨c + 1, 0, none⟩ (.slice a n cp)) := by
  have hnew : (W.alloc (.cells #[U16 x] 70)).cell? ⟨W.heap.size, 0, none⟩ = some (U16 x) := cell_of_row _ _ 0 _ 70 (0, 0) (row_new W _ _)
  have hsrc : Src Try.prog 1 66 (.slice (some ⟨W.heap.size, 0, none⟩) 1 1) 1 [U16 x] (W.alloc (.cells #[U16 x] 70)) :=
    Src.ofSlice _ Try.underlying66 ⟨W.heap.size, 0, none⟩ 1 1 [U16 x] rfl (fun j u hu => by
      cases j with
      | zero => rw [Addr.add_mid]; simp only [List.getElem?_cons_zero, Option.some.injEq] at hu; subst hu; exact hnew
      | succ j => simp at hu) (fun u hu => by simp only [List.mem_singleton] at hu; subst hu; rfl)
  have HA := H.below R ((Below.refl W.heap.size W).alloc (Nat.le_refl _) (.cells #[U16 x] 70))
  obtain ⟨v', w', hrun, hl', hg, hk⟩ := HA.lies.append Try.underlying66 elemS70 (one_U all) 66 _ 1 [U16 x] hsrc (by omega)
  obtain ⟨a, cp, rfl⟩ := hl'.form
  have hlo := H.lo
  have hcl := H.gon.lt
  have hzs : (W.alloc (.cells #[U16 x] 70)).heap.size = W.heap.size + 1 := alloc_size _ _
  have hbox := row_grown HA.box hg (fun e => by have := (H.offV _ e.symm).1; omega)
  have hvoff : ∀ k, (Value.slice a (all.length + 1) cp).ownBlock = some k → c + 3 ≤ k ∧ ¬ F k := fun k hk' => by
    rcases hk with hk | hk
    · exact H.offV k (hk ▸ hk')
    · rw [hk] at hk'
      have hk2 : (W.alloc (.cells #[U16 x] 70)).heap.size = k := Option.some.inj hk'
      exact ⟨by omega, fun hf => by have := (R.lt H.r).2 k hf; omega⟩
  have hbel : Below w0.heap.size w0 w' := HA.bel.grown hg HA.bel.size (fun k e => by have := (H.offV k e).1; omega)
  refine ⟨a, _, cp, w', hrun, cell_of_row w' _ 0 _ 66 (0, 0) hbox, Row.frozen hbox 0, hbel, ?_⟩
  have hb : ∀ k, k ≠ c + 1 → (w'.setCell ⟨c + 1, 0, none⟩ (.slice a (all.length + 1) cp)).heap[k]? = w'.heap[k]? := fun k hk => Below.heap_setCell _ _ _ _ hk
  have hs : (w'.setCell ⟨c + 1, 0, none⟩ (.slice a (all.length + 1) cp)).heap.size = w'.heap.size := by simp [World.setCell]
  have hr1 : RA w' F g m xs := R.same HA.r hg.size (fun k hk => hg.block k ((R.lt HA.r).2 k hk) (fun e => (H.offV k e.symm).2 hk))
  refine ⟨R.same hr1 (by omega) (fun k hk => hb k ?_), (row_grown HA.ans hg (fun e => by have := (H.offV _ e.symm).1; omega)).other (by show w0.heap.size ≠ c + 1; omega), (row_grown HA.ptr hg (fun e => by have := (H.offV _ e.symm).1; omega)).other (by show c ≠ c + 1; omega), hbox.set 0 _, ?_,
    (row_grown HA.gon hg (fun e => by have := (H.offV _ e.symm).1; omega)).other (by show c + 1 + 1 ≠ c + 1; omega), H.offF, hvoff, hbel.setCell (p := ⟨c + 1, 0, none⟩) (by show _ ≤ c + 1; omega) _, H.lo⟩
  · have := (H.offF k hk).2; omega
  · rw [List.length_append, List.length_singleton, List.map_append]
    exact hl'.same (by omega) (fun k hk => hb k (by have := (hvoff k hk).1; omega))
end
end Go.Proofs.Ytkekjcdhlkhhoaa
