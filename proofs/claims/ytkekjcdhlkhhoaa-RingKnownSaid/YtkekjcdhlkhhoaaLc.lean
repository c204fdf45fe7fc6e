/- The walk of RingOrder, over any rings that do what is asked of them. -/
import Derived.Test.YtkekjcdhlkhhoaaLb
import Derived.Test.YtkekjcdhlkhhoaaL6
namespace Go.Proofs.Ytkekjcdhlkhhoaa
open Go.RowKit Go.Shelf
attribute [local go_sem] store_one S_match S_store Oper.semAt_some

theorem placedU_at {xs : List Nat} {pre : List (Nat × Nat)} {x : Nat × Nat} (h : pre ++ [x] <+: placedU xs) : ∃ y, x = (pre.length, y) ∧ xs[pre.length]? = some y := by
  obtain ⟨t, ht⟩ := h
  have h1 : (placedU xs)[pre.length]? = some x := by rw [← ht, List.append_assoc, List.getElem?_append_right (Nat.le_refl _), Nat.sub_self]; rfl
  unfold placedU at h1
  rw [List.getElem?_map] at h1
  cases hr : (List.range xs.length)[pre.length]? with
  | none => rw [hr] at h1; cases h1
  | some i =>
    rw [hr] at h1
    have hi : i = pre.length ∧ pre.length < xs.length := by
      obtain ⟨hlt, he⟩ := List.getElem?_eq_some_iff.1 hr
      rw [List.getElem_range] at he
      exact ⟨he.symm, by simpa using hlt⟩
    obtain ⟨rfl, hlt⟩ := hi
    refine ⟨xs.getD pre.length 0, (Option.some.inj h1).symm, ?_⟩
    rw [List.getD_eq_getElem?_getD, List.getElem?_eq_getElem hlt]; rfl
theorem placedU_length (xs : List Nat) : (placedU xs).length = xs.length := by simp [placedU]
/-- What holds between two rounds of the walk: the place (block ci) is at gone + n. -/
def Walk (RU : World → (Nat → Prop) → Nat → Nat → List Nat → Prop) (w0 : World) (g m c : Nat) (xs all : List Nat) (gone : Nat) (F : Nat → Prop) (v : Value) (ci n : Nat) (W : World) : Prop :=
  Ord RU w0 g m c xs all gone F v W ∧ Row W ci #[.int .i64 ((gone + n : Nat) : Int)] 3
theorem walk_abides {RU : World → (Nat → Prop) → Nat → Nat → List Nat → Prop} (R : RingU RU) {w0 : World} {g m c ci B K gone : Nat} {xs all : List Nat} {F : Nat → Prop} {v : Value} (hF : ∀ k, F k → k < B) (hv : ∀ k, v.ownBlock = some k → k < B) (hc : c + 3 ≤ B) (hci : ci < B) :
    AbidesIn B K (fun (pre : List (Nat × Nat)) W => Walk RU w0 g m c xs all gone F v ci pre.length W) := by
  rintro pre W W' row ⟨hO, h5⟩ hg hr
  exact ⟨hO.grown R hg (fun k e => by
    have h1 := hr k e
    exact ⟨by omega, fun hf => by have := hF k hf; omega, fun hk => by have := hv k hk; omega⟩), row_grown h5 hg (fun e => by have := hr _ e.symm; omega)⟩
theorem order_end {w W : World} {D : Nat} {tmps : Array Value} (ha : Row W w.heap.size #[.bool false] 4) (hb : Below w.heap.size w W) (hd : W.heap[D]? = some (.deferred (some []))) (hD : w.heap.size + 1 ≤ D)
    (ht : tmps[4]? = some (.pointer (some ⟨w.heap.size, 0, none⟩))) (v : Bool) (hv : v = true) :
    bodyPostM Fence.wide 5 Try.prog Try.f6 (fun e w' => e = .returned (.bool true) ∧ Below w.heap.size w w') .ret { tmps := tmps, defers := [{ target := .collected D, args := #[] }] } (W.setCell ⟨w.heap.size, 0, none⟩ (.bool v)) := by
  subst hv
  have ca := cell_of_row W _ 0 _ 4 (0, 0) ha
  have k2 : (W.setCell ⟨w.heap.size, 0, none⟩ (.bool true)).heap[D]? = some (.deferred (some [])) := (Below.heap_setCell _ _ _ _ (by show D ≠ w.heap.size; omega)).trans hd
  refine ⟨by simp, .inl ⟨_, _, rfl, run_takeDeferred k2, ?_⟩⟩
  have hc0 : (W.setCell ⟨w.heap.size, 0, none⟩ (.bool true)).cell? ⟨w.heap.size, 0, none⟩ = some (.bool true) := World.cell?_setCell_same _ _ _ ca
  have hc : ((W.setCell ⟨w.heap.size, 0, none⟩ (.bool true)).putObj D (.deferred none)).cell? ⟨w.heap.size, 0, none⟩ = some (.bool true) :=
    cell_kept hc0 (grownBy_putObj' _ _ (.deferred none)) (fun r e => by cases e; exact ⟨_, k2, rfl⟩)
  have hsz := hb.size
  refine ⟨.bool true, ?_, rfl, (hb.setCell (p := ⟨w.heap.size, 0, none⟩) (Nat.le_refl _) _).grown (grownBy_putObj' _ _ _) (by simpa [World.setCell] using hsz) (fun k e => by cases e; omega)⟩
  simp [results, Try.f6, go_sem, hc, ht]
section
variable {RA : World → (Nat → Prop) → Nat → Nat → List (List UInt8) → Prop} {RU : World → (Nat → Prop) → Nat → Nat → List Nat → Prop}
set_option maxRecDepth 100000 in
set_option maxHeartbeats 4000000 in
theorem order_any (RS : RingS RA) (R : RingU RU) (q : Nat) (hq : q ≤ 255) (V : Value) (n : Nat) (ad : Nat → Addr) (z : Nat → Nat) (w : World) (hV : Came Try.prog w 66 V n ad (fun i => .int .u16 (z i : Int))) (hz : ∀ i, i < n → z i ≤ 65535) :
    Calls Try.prog 6 #[.int .u8 (q : Int), V] w fun e w' => e = .returned (.bool true) ∧ Below w.heap.size w w' := by
  have hlenV := hV.len 3
  have HV := Lib.hid (And.intro hV hz)
  clear hV hz
  obtain ⟨M, hM⟩ : ∃ M, M = 1 + q := ⟨_, rfl⟩
  have hcv : ∀ w, (convert 5 3 (.int .u8 (q : Int))).run Try.prog w = .ok (.int .i64 (q : Int)) w := fun w => by
    have e : IntKind.i64.wrap (q : Int) = (q : Int) := by rw [IntKind.wrap_i64]; omega
    simp [convert, run_underlying Try.underlying5, run_underlying Try.underlying3, e, go_sem]
  have hwm : IntKind.i64.wrap (1 + (q : Int)) = (M : Int) := by rw [IntKind.wrap_i64]; omega
  have hM1 : 1 ≤ M ∧ M ≤ 256 := by omega
  clear hM
  refine (callsIn_wide (n := 5)).1 (callsIn_of_wp_marks Try.func6 rfl trivial ?_ rfl)
  simp only [Try.ntmps6, List.size_toArray, List.length_cons, List.length_nil, Nat.reduceAdd, Nat.reduceSub, Array.replicate_succ, Array.replicate_zero, List.push_toArray, List.append_toArray, List.nil_append, List.cons_append]
  rw [wpIn_wide]
  go_wp2_with fail
  refine (awake_any RS _).mono ?_
  rintro e W1 ⟨rfl, hB⟩
  have hans : Row W1 w.heap.size #[.bool false] 4 := (row_new w #[.bool false] 4).below hB (by simp)
  have HB := Lib.hid (And.intro hans (((Below.refl w.heap.size w).alloc (Nat.le_refl _) (.cells #[.bool false] 4)).trans (hB.mono (by simp))))
  have ca := cell_of_row W1 _ 0 _ 4 (0, 0) hans
  have fa := Row.frozen hans 0
  have hz1 : w.heap.size + 1 ≤ W1.heap.size := by have := hB.size; simpa using this
  have HZ1 := Lib.hid hz1
  clear hB hans hz1
  by_cases h1 : 1000 < n
  · have j1 : decide ((1000 : Int) < (n : Int)) = true := decide_eq_true (by omega)
    have hc5 : (W1.setCell ⟨w.heap.size, 0, none⟩ (.bool true)).cell? ⟨w.heap.size, 0, none⟩ = some (.bool true) := World.cell?_setCell_same _ _ _ ca
    go_wp2
    refine ⟨.bool true, ?_, rfl, HB.out.2.setCell (p := ⟨w.heap.size, 0, none⟩) (Nat.le_refl _) _⟩
    simp [results, Try.f6, go_sem, hc5]
  have j1 : decide ((1000 : Int) < (n : Int)) = false := decide_eq_false (by omega)
  have HN : Hid (n ≤ 1000) := Lib.hid (by omega)
  clear h1 ca fa
  go_wp2_with fail
  refine (R.new_good M W1 hM1.1 (by omega)).mono ?_
  rintro e W2 ⟨g, F, rfl, hF, hF0, hB2⟩
  have hO : Ord RU w g M W2.heap.size [] [] 0 F (.slice none 0 0) (((W2.alloc (.cells #[.pointer (some ⟨g, 0, none⟩)] 67)).alloc (.cells #[.slice none 0 0] 66)).alloc (.cells #[.int .i64 0] 3)) := by
    have hb : Below W2.heap.size W2 (((W2.alloc (.cells #[.pointer (some ⟨g, 0, none⟩)] 67)).alloc (.cells #[.slice none 0 0] 66)).alloc (.cells #[.int .i64 0] 3)) := (((Below.refl _ W2).alloc (Nat.le_refl _) _).alloc (by simp) _).alloc (by simp; omega) _
    have r1 := row_new W2 #[.pointer (some ⟨g, 0, none⟩)] 67
    have r2 := row_new (W2.alloc (.cells #[.pointer (some ⟨g, 0, none⟩)] 67)) #[.slice none 0 0] 66
    have r3 := row_new ((W2.alloc (.cells #[.pointer (some ⟨g, 0, none⟩)] 67)).alloc (.cells #[.slice none 0 0] 66)) #[.int .i64 0] 3
    rw [alloc_size] at r2
    rw [alloc_size, alloc_size] at r3
    have h1 := HZ1.out
    have h2 := hB2.size
    refine ⟨R.same hF hb.size (fun k hk => hb.block k ((R.lt hF).2 k hk)), (HB.out.1.below hB2 HB.out.1.lt).below hb (by have := HB.out.1.lt; omega), (r1.alloc _).alloc _, r2.alloc _, lies_nil _ 1, r3, fun k hk => ?_, fun k hk => (by cases hk), (HB.out.2.trans (hB2.mono (by omega))).trans (hb.mono (by omega)), by omega⟩
    have := hF0 k hk
    have := (R.lt hF).2 k hk
    omega
  have HO := Lib.hid hO
  clear hO hF hF0 hB2
  go_wp2
  generalize (((W2.alloc (.cells #[.pointer (some ⟨g, 0, none⟩)] 67)).alloc (.cells #[.slice none 0 0] 66)).alloc (.cells #[.int .i64 0] 3)) = Wo at *
  generalize W2.heap.size = c at *
  clear HB HZ1
  go_loopw [10] (fun iv wr => ∃ (i : Nat) (all : List Nat) (gone : Nat) (F : Nat → Prop) (v : Value), i ≤ n ∧ iv = .int .i64 i ∧ Ord RU w g M c (all.drop gone) all gone F v wr ∧ gone ≤ all.length ∧ all.length ≤ i) (fun iv _ => n - (intOf iv).toNat)
  case atStart => exact ⟨0, [], 0, F, _, Nat.zero_le _, rfl, HO.out, Nat.le_refl _, Nat.le_refl _⟩
  case round =>
    obtain ⟨i, all, gone, F1, v, hi, rfl, hO, hga, hai⟩ := hrel
    have HO := Lib.hid hO
    clear hO
    by_cases hlt : i < n
    · have k1 : decide ((i : Int) < (n : Int)) = true := decide_eq_true (by omega)
      have k1' : decide (i < n) = true := decide_eq_true hlt
      have hidx := HV.out.1.index i hlt
      have hbk := HV.out.1.cell i hlt
      have hadw : (ad i).block < w.heap.size := World.block_lt_of_cell? w _ hbk
      have hcell : Hid (∀ W', Below w.heap.size w W' → W'.cell? (ad i) = some (.int .u16 (z i : Int))) := Lib.hid fun W' hb => by rw [hb.cell hadw]; exact hbk
      have cz := hcell.out wr HO.out.bel
      have hy := HV.out.2 i hlt
      have hn1000 := HN.out
      generalize ad i = ai at *
      generalize z i = y at *
      have HL := Lib.hid (And.intro hlt (And.intro hga hai))
      clear hbk hadw
      by_cases hev : y % 2 = 0
      · have hpar : ((Int.tmod (y : Int) 2) == 0) = true := by rw [show Int.tmod (y : Int) 2 = ((y % 2 : Nat) : Int) from rfl, beq_iff_eq]; omega
        by_cases hX : all.length - gone < M
        · have hpush : ∀ W', RU W' F1 g M (all.drop gone) → Calls Try.prog 30 #[.pointer (some ⟨g, 0, none⟩), .int .u16 (y : Int)] W' fun e w' => e = .returned (.bool true) ∧ ∃ F', RU w' F' g M ((all ++ [y]).drop gone) ∧ Moves F1 F' W' w' := fun W' h => by
            have h2 := R.push y h
            rw [List.length_drop] at h2
            rw [decide_eq_true (by omega), if_pos (by omega), ← List.drop_append_of_le_length hga] at h2
            exact h2
          have k7 : decide ((all.length : Int) - (gone : Int) < (M : Int)) = true := by simp; omega
          have k8 : IntKind.i64.wrap ((all.length : Int) - (gone : Int)) = (all.length : Int) - (gone : Int) := by rw [IntKind.wrap_i64]; omega
          have hal : all.length < 1000000 := by omega
          have HPU := Lib.hid hpush
          clear hpush hX
          generalize hAL : all.length = AL at *
          have HAL := Lib.hid hAL
          clear hAL hga hai
          go_wp2
          obtain ⟨Wq, hWq⟩ : ∃ Wq, Wq = wr.drew := ⟨_, rfl⟩
          have HQ := Lib.hid (HO.out.below R (show Below wr.heap.size wr Wq by rw [hWq]; exact below_drewN wr 1))
          · refine wp_region_noPanic ?_
            refine wp_region_held_drew (S := fun wx => wx.cell? ⟨c, 0, none⟩ = some (.pointer (some ⟨g, 0, none⟩)) ∧ wx.cell? ai = some (.int .u16 (y : Int))) (by kernel_rfl) (by have h1 := HQ.out.cp; have h2 := hcell.out _ HQ.out.bel; rw [hWq] at h1 h2; exact ⟨h1, h2⟩) (fun _ => ?_)
            rw [← hWq]
            clear hWq
            refine take_at (i := 0) (d := some 50) (v := .pointer (some ⟨g, 0, none⟩)) rfl (by kernel_rfl) (by kernel_rfl) (by kernel_rfl) (fun _ _ _ h => h) (fun oi ho => ?_) ⟨HQ.out.cp, hcell.out _ HQ.out.bel⟩ ?_
            · obtain rfl := Option.some.inj ho
              exact Or.inl ⟨by rfl, fun wx hSw => by obtain ⟨s1, s2⟩ := hSw; go_simp⟩
            simp only [Act.put, List.setIfInBounds_toArray, List.set_cons_zero, List.set_cons_succ]
            refine take_at (i := 1) (d := some 51) (v := V) rfl (by kernel_rfl) (by kernel_rfl) (by kernel_rfl) (fun _ _ _ h => h) (fun oi ho => ?_) ⟨HQ.out.cp, hcell.out _ HQ.out.bel⟩ ?_
            · obtain rfl := Option.some.inj ho
              exact Or.inl ⟨by rfl, fun wx hSw => by obtain ⟨s1, s2⟩ := hSw; go_simp⟩
            simp only [Act.put, List.setIfInBounds_toArray, List.set_cons_zero, List.set_cons_succ]
            refine take_at (i := 2) (d := some 52) (v := .int .i64 (i : Int)) rfl (by kernel_rfl) (by kernel_rfl) (by kernel_rfl) (fun _ _ _ h => h) (fun oi ho => ?_) ⟨HQ.out.cp, hcell.out _ HQ.out.bel⟩ ?_
            · obtain rfl := Option.some.inj ho
              exact Or.inl ⟨by rfl, fun wx hSw => by obtain ⟨s1, s2⟩ := hSw; go_simp⟩
            simp only [Act.put, List.setIfInBounds_toArray, List.set_cons_zero, List.set_cons_succ]
            refine take_at (i := 3) (d := some 53) (v := .pointer (some ai)) rfl (by kernel_rfl) (by kernel_rfl) (by kernel_rfl) (fun _ _ _ h => h) (fun oi ho => ?_) ⟨HQ.out.cp, hcell.out _ HQ.out.bel⟩ ?_
            · obtain rfl := Option.some.inj ho
              exact Or.inl ⟨by rfl, fun wx hSw => by obtain ⟨s1, s2⟩ := hSw; go_simp⟩
            simp only [Act.put, List.setIfInBounds_toArray, List.set_cons_zero, List.set_cons_succ]
            refine take_at (i := 4) (d := some 54) (v := .int .u16 (y : Int)) rfl (by kernel_rfl) (by kernel_rfl) (by kernel_rfl) (fun _ _ _ h => h) (fun oi ho => ?_) ⟨HQ.out.cp, hcell.out _ HQ.out.bel⟩ ?_
            · obtain rfl := Option.some.inj ho
              exact Or.inl ⟨by rfl, fun wx hSw => by obtain ⟨s1, s2⟩ := hSw; go_simp⟩
            simp only [Act.put, List.setIfInBounds_toArray, List.set_cons_zero, List.set_cons_succ]
            refine ready_call (i := 5) (d := some 55) (f := 30) (args := #[.pointer (some ⟨g, 0, none⟩), .int .u16 (y : Int)]) rfl (by kernel_rfl) (fun oi ho => ?_) ?_
            · obtain rfl := Option.some.inj ho
              exact ⟨by rfl, by go_simp⟩
            refine (HPU.out Wq HQ.out.r).mono ?_
            rintro e W3 ⟨rfl, F3, r3, m3⟩
            have H3 := Lib.hid (HQ.out.moves R r3 m3)
            clear r3 m3
            refine ⟨_, rfl, ⟨H3.out.cp, hcell.out _ H3.out.bel⟩, ?_⟩
            simp only [Act.put, List.setIfInBounds_toArray, List.set_cons_zero, List.set_cons_succ]
            refine take_at (i := 6) (d := some 11) (v := .bool true) rfl (by kernel_rfl) (by kernel_rfl) (by kernel_rfl) (fun _ _ _ h => h) (fun oi ho => ?_) ⟨H3.out.cp, hcell.out _ H3.out.bel⟩ ?_
            · obtain rfl := Option.some.inj ho
              exact Or.inl ⟨by rfl, fun wx hSw => by obtain ⟨s1, s2⟩ := hSw; go_simp⟩
            simp only [Act.put, List.setIfInBounds_toArray, List.set_cons_zero, List.set_cons_succ]
            refine wpAnyH_done (by kernel_rfl) ?_ _
            refine NoPanic.normal ?_
            have cb := H3.out.cb
            have cg := H3.out.cg
            have hlv := H3.out.lies.len Try.underlying66 3
            rw [HAL.out] at hlv
            go_wp2
            clear cb cg hlv
            obtain ⟨Wr, hWr⟩ : ∃ Wr, Wr = W3.drew := ⟨_, rfl⟩
            have HR := Lib.hid (H3.out.below R (show Below W3.heap.size W3 Wr by rw [hWr]; exact below_drewN W3 1))
            obtain ⟨a', n', cp', w', hrun, e1, e2, e3, hOA⟩ := HR.out.append R y (by rw [HAL.out]; exact hal)
            have HOA := Lib.hid (And.intro e3 hOA)
            have hU : U16 y = .int .u16 (y : Int) := rfl
            rw [hU] at hrun
            have hball : Below Wr.heap.size Wr (Wr.alloc (.cells #[.int .u16 (y : Int)] 70)) := (Below.refl _ Wr).alloc (Nat.le_refl _) _
            have cbr := HR.out.cb
            have cbr2 : (Wr.alloc (.cells #[.int .u16 (y : Int)] 70)).cell? ⟨c + 1, 0, none⟩ = some v := by rw [hball.cell HR.out.box.lt]; exact cbr
            have hbal2 := HR.out.bel.trans (hball.mono HR.out.bel.size)
            have cp2 : (Wr.alloc (.cells #[.int .u16 (y : Int)] 70)).cell? ⟨c, 0, none⟩ = some (.pointer (some ⟨g, 0, none⟩)) := by rw [hball.cell HR.out.ptr.lt]; exact HR.out.cp
            have HBA := Lib.hid (And.intro hbal2 cp2)
            clear hOA e3 hball hbal2 cp2
            refine wp_region_noPanic ?_
            refine wp_region_held_drew (S := fun wx => wx.cell? ai = some (.int .u16 (y : Int))) (by kernel_rfl) (by have h2 := hcell.out _ HR.out.bel; rw [hWr] at h2; exact h2) (fun _ => ?_)
            rw [← hWr]
            clear hWr
            refine take_at (i := 1) (d := some 66) (v := V) rfl (by kernel_rfl) (by kernel_rfl) (by kernel_rfl) (fun _ _ _ h => h) (fun oi ho => ?_) (hcell.out _ HR.out.bel) ?_
            · obtain rfl := Option.some.inj ho
              exact Or.inl ⟨by rfl, fun wx hSw => by have s2 := hSw; go_simp⟩
            simp only [Act.put, List.setIfInBounds_toArray, List.set_cons_zero, List.set_cons_succ]
            refine take_at (i := 2) (d := some 67) (v := .int .i64 (i : Int)) rfl (by kernel_rfl) (by kernel_rfl) (by kernel_rfl) (fun _ _ _ h => h) (fun oi ho => ?_) (hcell.out _ HR.out.bel) ?_
            · obtain rfl := Option.some.inj ho
              exact Or.inl ⟨by rfl, fun wx hSw => by have s2 := hSw; go_simp⟩
            simp only [Act.put, List.setIfInBounds_toArray, List.set_cons_zero, List.set_cons_succ]
            refine take_at (i := 3) (d := some 68) (v := .pointer (some ai)) rfl (by kernel_rfl) (by kernel_rfl) (by kernel_rfl) (fun _ _ _ h => h) (fun oi ho => ?_) (hcell.out _ HR.out.bel) ?_
            · obtain rfl := Option.some.inj ho
              exact Or.inl ⟨by rfl, fun wx hSw => by have s2 := hSw; go_simp⟩
            simp only [Act.put, List.setIfInBounds_toArray, List.set_cons_zero, List.set_cons_succ]
            refine take_at (i := 4) (d := some 69) (v := .int .u16 (y : Int)) rfl (by kernel_rfl) (by kernel_rfl) (by kernel_rfl) (fun _ _ _ h => h) (fun oi ho => ?_) (hcell.out _ HR.out.bel) ?_
            · obtain rfl := Option.some.inj ho
              exact Or.inl ⟨by rfl, fun wx hSw => by have s2 := hSw; go_simp⟩
            simp only [Act.put, List.setIfInBounds_toArray, List.set_cons_zero, List.set_cons_succ]
            refine ready_load_make (i := 0) (j := 5) (di := some 65) (dj := some 70) (vi := v) (vj := .slice (some ⟨Wr.heap.size, 0, none⟩) 1 1) (w1 := Wr.alloc (.cells #[.int .u16 (y : Int)] 70)) rfl rfl (by kernel_rfl) (by kernel_rfl) (by kernel_rfl) (by decide) (fun d h e => by cases h; cases e) (fun oi ho => ?_) (fun oi ho a' ha => ?_) (hcell.out _ HR.out.bel) (hcell.out _ HBA.out.1) ?_
            · obtain rfl := Option.some.inj ho
              exact ⟨⟨by rfl, by go_simp⟩, ⟨by rfl, by simp only [Act.put, List.setIfInBounds_toArray, List.set_cons_zero, List.set_cons_succ]; go_simp⟩⟩
            · obtain rfl := Option.some.inj ho
              rcases ha with rfl | rfl
              · exact ⟨by rfl, by go_simp⟩
              · exact ⟨by rfl, by simp only [Act.put, List.setIfInBounds_toArray, List.set_cons_zero, List.set_cons_succ]; go_simp⟩
            simp only [Act.put, List.setIfInBounds_toArray, List.set_cons_zero, List.set_cons_succ]
            refine ready_value (i := 6) (d := some 71) (v := .slice a' n' cp') (w' := w') rfl (by kernel_rfl) (fun oi ho => ?_) (hcell.out _ HOA.out.1) ?_
            · obtain rfl := Option.some.inj ho
              exact ⟨by rfl, exec_append 66 66 (.tmp 65) (.tmp 70) v (.slice (some ⟨Wr.heap.size, 0, none⟩) 1 1) rfl rfl rfl hrun⟩
            simp only [Act.put, List.setIfInBounds_toArray, List.set_cons_zero, List.set_cons_succ]
            refine ready_skip (i := 7) (d := none) (w' := w'.setCell ⟨c + 1, 0, none⟩ (.slice a' n' cp')) rfl (by kernel_rfl) (fun oi ho => ?_) (hcell.out _ HOA.out.2.bel) ?_
            · obtain rfl := Option.some.inj ho
              exact ⟨by rfl, by go_simp⟩
            refine wpAnyH_done (by kernel_rfl) ?_ _
            refine NoPanic.normal ?_
            go_wp2
            exact ⟨⟨i + 1, all ++ [y], gone, F3, _, by have := HL.out.1; omega, by go_num, HOA.out.2, by have := HL.out.2.1; have := HAL.out; rw [List.length_append]; omega, by have := HL.out.2.2; have := HAL.out; rw [List.length_append, List.length_singleton]; omega⟩, by have := HL.out.1; simp [intOf]; omega⟩
        · have hpush : ∀ W', RU W' F1 g M (all.drop gone) → Calls Try.prog 30 #[.pointer (some ⟨g, 0, none⟩), .int .u16 (y : Int)] W' fun e w' => e = .returned (.bool false) ∧ ∃ F', RU w' F' g M (all.drop gone) ∧ Moves F1 F' W' w' := fun W' h => by
            have h2 := R.push y h
            rw [List.length_drop] at h2
            rw [decide_eq_false (by omega), if_neg (by omega)] at h2
            exact h2
          have k7 : decide ((all.length : Int) - (gone : Int) < (M : Int)) = false := by simp; omega
          have k8 : IntKind.i64.wrap ((all.length : Int) - (gone : Int)) = (all.length : Int) - (gone : Int) := by rw [IntKind.wrap_i64]; omega
          have hal : all.length < 1000000 := by omega
          have HPU := Lib.hid hpush
          clear hpush hX
          generalize hAL : all.length = AL at *
          have HAL := Lib.hid hAL
          clear hAL hga hai
          go_wp2
          obtain ⟨Wq, hWq⟩ : ∃ Wq, Wq = wr.drew := ⟨_, rfl⟩
          have HQ := Lib.hid (HO.out.below R (show Below wr.heap.size wr Wq by rw [hWq]; exact below_drewN wr 1))
          · refine wp_region_noPanic ?_
            refine wp_region_held_drew (S := fun wx => wx.cell? ⟨c, 0, none⟩ = some (.pointer (some ⟨g, 0, none⟩)) ∧ wx.cell? ai = some (.int .u16 (y : Int))) (by kernel_rfl) (by have h1 := HQ.out.cp; have h2 := hcell.out _ HQ.out.bel; rw [hWq] at h1 h2; exact ⟨h1, h2⟩) (fun _ => ?_)
            rw [← hWq]
            clear hWq
            refine take_at (i := 0) (d := some 50) (v := .pointer (some ⟨g, 0, none⟩)) rfl (by kernel_rfl) (by kernel_rfl) (by kernel_rfl) (fun _ _ _ h => h) (fun oi ho => ?_) ⟨HQ.out.cp, hcell.out _ HQ.out.bel⟩ ?_
            · obtain rfl := Option.some.inj ho
              exact Or.inl ⟨by rfl, fun wx hSw => by obtain ⟨s1, s2⟩ := hSw; go_simp⟩
            simp only [Act.put, List.setIfInBounds_toArray, List.set_cons_zero, List.set_cons_succ]
            refine take_at (i := 1) (d := some 51) (v := V) rfl (by kernel_rfl) (by kernel_rfl) (by kernel_rfl) (fun _ _ _ h => h) (fun oi ho => ?_) ⟨HQ.out.cp, hcell.out _ HQ.out.bel⟩ ?_
            · obtain rfl := Option.some.inj ho
              exact Or.inl ⟨by rfl, fun wx hSw => by obtain ⟨s1, s2⟩ := hSw; go_simp⟩
            simp only [Act.put, List.setIfInBounds_toArray, List.set_cons_zero, List.set_cons_succ]
            refine take_at (i := 2) (d := some 52) (v := .int .i64 (i : Int)) rfl (by kernel_rfl) (by kernel_rfl) (by kernel_rfl) (fun _ _ _ h => h) (fun oi ho => ?_) ⟨HQ.out.cp, hcell.out _ HQ.out.bel⟩ ?_
            · obtain rfl := Option.some.inj ho
              exact Or.inl ⟨by rfl, fun wx hSw => by obtain ⟨s1, s2⟩ := hSw; go_simp⟩
            simp only [Act.put, List.setIfInBounds_toArray, List.set_cons_zero, List.set_cons_succ]
            refine take_at (i := 3) (d := some 53) (v := .pointer (some ai)) rfl (by kernel_rfl) (by kernel_rfl) (by kernel_rfl) (fun _ _ _ h => h) (fun oi ho => ?_) ⟨HQ.out.cp, hcell.out _ HQ.out.bel⟩ ?_
            · obtain rfl := Option.some.inj ho
              exact Or.inl ⟨by rfl, fun wx hSw => by obtain ⟨s1, s2⟩ := hSw; go_simp⟩
            simp only [Act.put, List.setIfInBounds_toArray, List.set_cons_zero, List.set_cons_succ]
            refine take_at (i := 4) (d := some 54) (v := .int .u16 (y : Int)) rfl (by kernel_rfl) (by kernel_rfl) (by kernel_rfl) (fun _ _ _ h => h) (fun oi ho => ?_) ⟨HQ.out.cp, hcell.out _ HQ.out.bel⟩ ?_
            · obtain rfl := Option.some.inj ho
              exact Or.inl ⟨by rfl, fun wx hSw => by obtain ⟨s1, s2⟩ := hSw; go_simp⟩
            simp only [Act.put, List.setIfInBounds_toArray, List.set_cons_zero, List.set_cons_succ]
            refine ready_call (i := 5) (d := some 55) (f := 30) (args := #[.pointer (some ⟨g, 0, none⟩), .int .u16 (y : Int)]) rfl (by kernel_rfl) (fun oi ho => ?_) ?_
            · obtain rfl := Option.some.inj ho
              exact ⟨by rfl, by go_simp⟩
            refine (HPU.out Wq HQ.out.r).mono ?_
            rintro e W3 ⟨rfl, F3, r3, m3⟩
            have H3 := Lib.hid (HQ.out.moves R r3 m3)
            clear r3 m3
            refine ⟨_, rfl, ⟨H3.out.cp, hcell.out _ H3.out.bel⟩, ?_⟩
            simp only [Act.put, List.setIfInBounds_toArray, List.set_cons_zero, List.set_cons_succ]
            refine take_at (i := 6) (d := some 11) (v := .bool false) rfl (by kernel_rfl) (by kernel_rfl) (by kernel_rfl) (fun _ _ _ h => h) (fun oi ho => ?_) ⟨H3.out.cp, hcell.out _ H3.out.bel⟩ ?_
            · obtain rfl := Option.some.inj ho
              exact Or.inl ⟨by rfl, fun wx hSw => by obtain ⟨s1, s2⟩ := hSw; go_simp⟩
            simp only [Act.put, List.setIfInBounds_toArray, List.set_cons_zero, List.set_cons_succ]
            refine wpAnyH_done (by kernel_rfl) ?_ _
            refine NoPanic.normal ?_
            have cb := H3.out.cb
            have cg := H3.out.cg
            have hlv := H3.out.lies.len Try.underlying66 3
            rw [HAL.out] at hlv
            go_wp2
            exact ⟨⟨i + 1, all, gone, F3, v, by have := HL.out.1; omega, by go_num, H3.out, by have := HL.out.2.1; have := HAL.out; omega, by have := HL.out.2.2; have := HAL.out; omega⟩, by have := HL.out.1; simp [intOf]; omega⟩
      · have hpar : ((Int.tmod (y : Int) 2) == 0) = false := by rw [show Int.tmod (y : Int) 2 = ((y % 2 : Nat) : Int) from rfl, beq_eq_false_iff_ne]; omega
        have cp := HO.out.cp
        go_wp2_with fail
        cases hx : all.drop gone with
        | nil =>
          have hge : all.length ≤ gone := by
            have := congrArg List.length hx
            rw [List.length_drop] at this
            simp at this; omega
          have k5 : decide ((gone : Int) < (all.length : Int)) = false := decide_eq_false (by omega)
          have k5' : decide (gone < all.length) = false := decide_eq_false (by omega)
          have hO2 := HO.out
          rw [hx] at hO2
          have HO2 := Lib.hid hO2
          have HX := Lib.hid hx
          generalize hAL : all.length = AL at *
          have HAL := Lib.hid hAL
          clear hAL hga hai hge hO2 hx
          refine (R.pop_none HO2.out.r).mono ?_
          rintro e W3 ⟨rfl, F3, r3, m3⟩
          have H3 := Lib.hid (HO2.out.moves R r3 m3)
          clear r3 m3
          have cb := H3.out.cb
          have cg := H3.out.cg
          have hlv := H3.out.lies.len Try.underlying66 3
          rw [HAL.out] at hlv
          go_wp2
          exact ⟨⟨i + 1, all, gone, F3, v, by have := HL.out.1; omega, by go_num, by rw [HX.out]; exact H3.out, by have := HL.out.2.1; have := HAL.out; omega, by have := HL.out.2.2; have := HAL.out; omega⟩, by have := HL.out.1; simp [intOf]; omega⟩
        | cons x r =>
          have hgl : gone < all.length := by
            have := congrArg List.length hx
            rw [List.length_drop, List.length_cons] at this
            omega
          have hxg : all[gone]? = some x ∧ all.drop (gone + 1) = r := by
            rw [List.drop_eq_getElem_cons hgl] at hx
            injection hx with h1 h2
            exact ⟨by rw [List.getElem?_eq_getElem hgl, h1], h2⟩
          have k5 : decide ((gone : Int) < (all.length : Int)) = true := decide_eq_true (by omega)
          have k5' : decide (gone < all.length) = true := decide_eq_true hgl
          have hwg : IntKind.i64.wrap ((gone : Int) + 1) = (gone : Int) + 1 := by rw [IntKind.wrap_i64]; omega
          have hO2 := HO.out
          rw [hx] at hO2
          have HO2 := Lib.hid hO2
          have HX := Lib.hid (And.intro hxg hgl)
          refine (R.pop_some HO2.out.r).mono ?_
          rintro e W3 ⟨rfl, F3, r3, m3⟩
          have H3 := Lib.hid (HO2.out.moves R r3 m3)
          clear r3 m3
          have cb := H3.out.cb
          have cg := H3.out.cg
          have fg := H3.out.fg
          have hlv := H3.out.lies.len Try.underlying66 3
          obtain ⟨kk, oo, _, hix, hcs⟩ := H3.out.lies.index Try.underlying66 (fun w => Try.sizeOf70 w)
          have hixg := hix gone hgl
          have hcg : W3.cell? ⟨kk, oo + gone * 1, none⟩ = some (.int .u16 (x : Int)) := by
            have := (hcs gone 0 hgl (by omega)).1
            rw [Nat.add_zero, Nat.add_zero, List.getElem?_map, Nat.mul_one, hxg.1] at this
            rw [Nat.mul_one]; exact this
          rw [Nat.mul_one] at hixg hcg
          have hU : U16 x = .int .u16 (x : Int) := rfl
          rw [hU]
          generalize hAL : all.length = AL at *
          have HAL := Lib.hid hAL
          clear hAL hga hai hgl hO2 hx hix hcs hxg hU
          go_wp2
          exact ⟨⟨i + 1, all, gone + 1, F3, v, by have := HL.out.1; omega, by go_num, by rw [HX.out.1.2]; exact H3.out.popped R, by have := HX.out.2; have := HAL.out; omega, by have := HL.out.2.2; have := HAL.out; omega⟩, by have := HL.out.1; simp [intOf]; omega⟩
    · have k1 : decide ((i : Int) < (n : Int)) = false := decide_eq_false (by omega)
      have k1' : decide (i < n) = false := decide_eq_false hlt
      have cg := HO.out.cg
      have hball : Below wr.heap.size wr (wr.alloc (.cells #[.int .i64 (gone : Int)] 3)) := (Below.refl _ wr).alloc (Nat.le_refl _) _
      have cpA : (wr.alloc (.cells #[.int .i64 (gone : Int)] 3)).cell? ⟨c, 0, none⟩ = some (.pointer (some ⟨g, 0, none⟩)) := by rw [hball.cell HO.out.ptr.lt]; exact HO.out.cp
      have hOA := HO.out.below R hball
      have hci : Row (wr.alloc (.cells #[.int .i64 (gone : Int)] 3)) wr.heap.size #[.int .i64 (gone : Int)] 3 := row_new wr _ _
      have hcw : c + 1 + 1 < wr.heap.size := HO.out.gon.lt
      have hzA : (wr.alloc (.cells #[.int .i64 (gone : Int)] 3)).heap.size = wr.heap.size + 1 := alloc_size _ _
      have hFw : ∀ k, F1 k → k < wr.heap.size := (R.lt HO.out.r).2
      have hvw : ∀ k, v.ownBlock = some k → k < wr.heap.size := fun k hk => HO.out.lies.lt k hk
      have HOA := Lib.hid (And.intro hOA (And.intro hci (And.intro hcw (And.intro hFw (And.intro hvw hzA)))))
      have hal : all.length ≤ 1000 := by have := HN.out; omega
      have HGA := Lib.hid (And.intro hga hal)
      clear hOA hci hball hcw hFw hvw hzA hga hai hi
      have hnl : ∀ (f : Fn) (x y : Array Value) w, (binOp .eql 75 (.func f x y) .nilFunc).run Try.prog w = .ok (.bool false) w := fun f x y w => eql_nilFunc Try.underlying75 _ _ _ w
      go_wp2_with fail
      obtain ⟨Wa, hWa⟩ : ∃ Wa, Wa = wr.alloc (.cells #[.int .i64 (gone : Int)] 3) := ⟨_, rfl⟩
      rw [← hWa] at HOA ⊢
      clear hWa cpA
      obtain ⟨ci, hci⟩ : ∃ ci, ci = wr.heap.size := ⟨_, rfl⟩
      rw [← hci] at HOA ⊢
      clear hci
      refine (R.all HOA.out.1.r).mono ?_
      rintro e W3 ⟨gf3, lb3, _, _, rfl, hb3, _⟩
      have hz3 := hb3.size
      have H3 := Lib.hid (And.intro (HOA.out.1.below R hb3) (And.intro (HOA.out.2.1.below hb3 HOA.out.2.1.lt) hz3))
      clear hb3 hz3
      have cp3 := H3.out.1.cp
      go_wp2_with fail
      refine (R.all H3.out.1.r).mono ?_
      rintro e W4 ⟨gf, lb, K, Kb, rfl, hb4, hKb, eg, hseq⟩
      have hz4 := hb4.size
      have hKb2 : ∀ r, Kb r → ci + 1 ≤ r ∧ r < W4.heap.size := fun r hr => by have := hKb r hr; have := H3.out.2.2; have := HOA.out.2.2.2.2.2; omega
      have H4 := Lib.hid (And.intro (H3.out.1.below R hb4) (And.intro (H3.out.2.1.below hb4 H3.out.2.1.lt) (And.intro hKb2 (show ci + 1 ≤ W4.heap.size by have := H3.out.2.2; have := HOA.out.2.2.2.2.2; omega))))
      clear hb4 hz4 hKb hKb2 H3 cp3
      go_wp2
      rw [← wpIn_wide (n := 5)]
      have hB := H4.out.2.2.2
      have hcc := HOA.out.2.2.1
      have hab := walk_abides R (w0 := w) (g := g) (m := M) (xs := all.drop gone) (all := all) (gone := gone) (c := c) (ci := ci) (B := W4.heap.size) (K := K + 2) (F := F1) (v := v) (fun k hk => by have := HOA.out.2.2.2.1 k hk; omega) (fun k hk => by have := HOA.out.2.2.2.2.1 k hk; omega) (by omega) (by omega)
      refine wpIn_rangeFunc_L2 (gf := gf) (lb := lb) rfl eg hseq (fun r hr => (H4.out.2.2.1 r hr).2) (fun W hb => hb) (fun _ => rfl)
        (fun pre W => Walk RU w g M c (all.drop gone) all gone F1 v ci pre.length W) (fun _ _ _ => False) hab (fun _ _ _ _ _ hs _ _ => hs)
        ⟨H4.out.1, H4.out.2.1⟩ ?round ?done ?stop
      case round =>
        intro l pre x W1 Kc hpx hKc
        obtain ⟨y, rfl, hy⟩ := placedU_at hpx
        have hgl : gone + pre.length < all.length := by
          have h1 := (List.getElem?_eq_some_iff.1 hy).1
          rw [List.length_drop] at h1; omega
        have hy2 : all[gone + pre.length]? = some y := by rw [List.getElem?_drop] at hy; exact hy
        unfold encU
        generalize hn : pre.length = p at *
        gi_wp2
        rintro W ⟨hO, h5⟩ hsz
        have cp := hO.cp
        have hHW := Lib.hid (And.intro hO h5)
        have hatc : Calls Try.prog 33 #[.pointer (some ⟨g, 0, none⟩), .int .i64 (p : Int)] W fun e w' => e = .returned (.tuple #[.int .u16 (y : Int), .bool true]) ∧ Below W.heap.size W w' := R.at_some p y hO.r hy
        clear hO h5 hy
        gi_wp2_with fail
        refine ⟨trivial, ((callsIn_wide.2 hatc).inRound l).mono ?_⟩
        rintro e W5 ⟨rfl, hb5⟩
        have hO5 := hHW.out.1.below R hb5
        have hr5 := hHW.out.2.below hb5 hHW.out.2.lt
        have hk5 : Kept (fun r => Kb r ∨ (W4.heap.size ≤ r ∧ r < W4.heap.size + (K + 2))) W W5 := Kept.of_below hb5 (fun r hr => by
          rcases hr with hr | hr
          · have := (H4.out.2.2.1 r hr).2; omega
          · omega)
        have c5 : W5.cell? ⟨ci, 0, none⟩ = some (.int .i64 ((gone + p : Nat) : Int)) := cell_of_row W5 _ 0 _ 3 (0, 0) hr5
        have f5 := Row.frozen hr5 0
        have cb := hO5.cb
        have cg := hO5.cg
        have hlv := hO5.lies.len Try.underlying66 3
        obtain ⟨kk, oo, _, hix, hcs⟩ := hO5.lies.index Try.underlying66 (fun w => Try.sizeOf70 w)
        have hixg := hix (gone + p) hgl
        have hcg : W5.cell? ⟨kk, oo + (gone + p) * 1, none⟩ = some (.int .u16 (y : Int)) := by
          have := (hcs (gone + p) 0 hgl (by omega)).1
          rw [Nat.add_zero, Nat.add_zero, List.getElem?_map, Nat.mul_one, hy2] at this
          rw [Nat.mul_one]; exact this
        rw [Nat.mul_one] at hixg hcg
        have hpl : ∀ x : Nat × Nat, (pre ++ [x]).length = p + 1 := fun x => by rw [List.length_append, hn]; rfl
        generalize hgp : gone + p = gp at *
        have q1 : decide ((all.length : Int) ≤ (gp : Int)) = false := decide_eq_false (by omega)
        have q1' : decide (all.length ≤ gp) = false := decide_eq_false (by omega)
        have q2 : IntKind.i64.wrap ((gp : Int) - (gone : Int)) = (p : Int) := by have := HGA.out.2; rw [IntKind.wrap_i64]; omega
        have q3 : IntKind.i64.wrap ((gp : Int) + 1) = (gp : Int) + 1 := by have := HGA.out.2; rw [IntKind.wrap_i64]; omega
        have HW5 := Lib.hid (And.intro hO5 (And.intro hr5 hk5))
        have hHgp := Lib.hid hgp
        clear hb5 hO5 hr5 hk5 hix hcs hatc cp hHW hgp hgl hy2
        generalize all.length = AL at *
        rw [show U16 y = .int .u16 (y : Int) from rfl]
        gi_wp2
        have hci4 : c + 1 + 1 < ci := HOA.out.2.2.1
        refine ⟨HW5.out.2.2.trans ⟨by simp [World.setCell], fun r hr => Below.heap_setCell _ _ _ _ (by
          show r ≠ ci
          rcases hr with hr | hr
          · have := (H4.out.2.2.1 r hr).1; omega
          · omega)⟩, ?_⟩
        show Walk RU w g M c (all.drop gone) all gone F1 v ci (pre ++ [(p, y)]).length _
        rw [hpl]
        refine ⟨HW5.out.1.grown R (grown_cell W5 ci 0 _) (fun k e => ?_), ?_⟩
        · cases e
          exact ⟨by omega, fun hf => by have := HOA.out.2.2.2.1 _ hf; omega, fun hk => by have := HOA.out.2.2.2.2.1 _ hk; omega⟩
        · have h1 := HW5.out.2.1.set 0 (.int .i64 ((gp : Int) + 1))
          rw [show ((gone + (p + 1) : Nat) : Int) = (gp : Int) + 1 by have := hHgp.out; omega]
          exact h1
      case done =>
        rintro W hG hKd
        rw [placedU_length, List.length_drop] at hG
        obtain ⟨hO, h5⟩ := hG
        rw [show gone + (all.length - gone) = all.length by have := HGA.out.1; omega] at h5
        have hlenr : Calls Try.prog 34 #[.pointer (some ⟨g, 0, none⟩)] W.drew fun e w' => e = .returned (.int .i64 ((all.length - gone : Nat) : Int)) ∧ Below W.drew.heap.size W.drew w' := by
          have h := R.len (hO.below R (below_drewN W 1)).r
          rw [List.length_drop] at h
          exact h
        have hlv := hO.lies.len Try.underlying66 3
        have q2 : IntKind.i64.wrap ((all.length : Int) - (gone : Int)) = ((all.length - gone : Nat) : Int) := by have := HGA.out; rw [IntKind.wrap_i64]; omega
        obtain ⟨Wq, hWq⟩ : ∃ Wq, Wq = W.drew := ⟨_, rfl⟩
        have hdq : Below W.heap.size W Wq := by rw [hWq]; exact below_drewN W 1
        rw [← hWq] at hlenr
        have hK4 : Wq.heap[W4.heap.size]? = some (.deferred (some [])) := by rw [hWq]; exact hKd
        have HQ0 := Lib.hid (And.intro (hO.below R hdq) (And.intro (h5.below hdq h5.lt) hK4))
        obtain ⟨AL, hAL⟩ : ∃ AL, AL = all.length := ⟨_, rfl⟩
        rw [← hAL] at hlv q2 hlenr h5
        have HS : Hid (∀ wx, Below Wq.heap.size Wq wx → wx.cell? ⟨ci, 0, none⟩ = some (.int .i64 (AL : Int)) ∧ wx.cell? ⟨c + 1, 0, none⟩ = some v ∧ wx.cell? ⟨c, 0, none⟩ = some (.pointer (some ⟨g, 0, none⟩)) ∧ wx.cell? ⟨c + 1 + 1, 0, none⟩ = some (.int .i64 (gone : Int))) := Lib.hid fun wx hb => by
          have h1 := HQ0.out.1.below R hb
          have h2 : wx.cell? ⟨ci, 0, none⟩ = some (.int .i64 (all.length : Int)) := cell_of_row wx _ 0 _ 3 (0, 0) (HQ0.out.2.1.below hb HQ0.out.2.1.lt)
          rw [← hAL] at h2
          exact ⟨h2, h1.cb, h1.cp, h1.cg⟩
        have HQ : Hid (Below Wq.heap.size Wq Wq) := Lib.hid (Below.refl _ _)
        generalize hLN : AL - gone = LN at *
        clear hO h5 hdq hK4 hLN hAL
        go_wp2
        refine wp_region_noPanic ?_
        refine wp_region_held_drew (S := fun wx => wx.cell? ⟨ci, 0, none⟩ = some (.int .i64 (AL : Int)) ∧ wx.cell? ⟨c + 1, 0, none⟩ = some v ∧ wx.cell? ⟨c, 0, none⟩ = some (.pointer (some ⟨g, 0, none⟩)) ∧ wx.cell? ⟨c + 1 + 1, 0, none⟩ = some (.int .i64 (gone : Int))) (by kernel_rfl) (by have := HS.out _ HQ.out; rw [hWq] at this; exact this) (fun _ => ?_)
        rw [← hWq]
        clear hWq
        refine take_at (i := 0) (d := some 141) (v := .int .i64 (AL : Int)) rfl (by kernel_rfl) (by kernel_rfl) (by kernel_rfl) (fun _ _ _ h => h) (fun oi ho => ?_) (HS.out _ HQ.out) ?_
        · obtain rfl := Option.some.inj ho
          exact Or.inl ⟨by rfl, fun wx hSw => by obtain ⟨s1, s2, s3, s4⟩ := hSw; go_simp⟩
        simp only [Act.put, List.setIfInBounds_toArray, List.set_cons_zero, List.set_cons_succ]
        refine take_at (i := 1) (d := some 142) (v := v) rfl (by kernel_rfl) (by kernel_rfl) (by kernel_rfl) (fun _ _ _ h => h) (fun oi ho => ?_) (HS.out _ HQ.out) ?_
        · obtain rfl := Option.some.inj ho
          exact Or.inl ⟨by rfl, fun wx hSw => by obtain ⟨s1, s2, s3, s4⟩ := hSw; go_simp⟩
        simp only [Act.put, List.setIfInBounds_toArray, List.set_cons_zero, List.set_cons_succ]
        refine take_at (i := 2) (d := some 143) (v := .int .i64 (AL : Int)) rfl (by kernel_rfl) (by kernel_rfl) (by kernel_rfl) (fun _ _ _ h => h) (fun oi ho => ?_) (HS.out _ HQ.out) ?_
        · obtain rfl := Option.some.inj ho
          exact Or.inl ⟨by rfl, fun wx hSw => by obtain ⟨s1, s2, s3, s4⟩ := hSw; go_simp⟩
        simp only [Act.put, List.setIfInBounds_toArray, List.set_cons_zero, List.set_cons_succ]
        refine take_at (i := 3) (d := some 144) (v := .bool true) rfl (by kernel_rfl) (by kernel_rfl) (by kernel_rfl) (fun _ _ _ h => h) (fun oi ho => ?_) (HS.out _ HQ.out) ?_
        · obtain rfl := Option.some.inj ho
          exact Or.inl ⟨by rfl, fun wx hSw => by obtain ⟨s1, s2, s3, s4⟩ := hSw; go_simp⟩
        simp only [Act.put, List.setIfInBounds_toArray, List.set_cons_zero, List.set_cons_succ]
        refine take_at (i := 4) (d := some 145) (v := .bool true) rfl (by kernel_rfl) (by kernel_rfl) (by kernel_rfl) (fun _ _ _ h => h) (fun oi ho => ?_) (HS.out _ HQ.out) ?_
        · obtain rfl := Option.some.inj ho
          exact Or.inl ⟨by rfl, fun wx hSw => by obtain ⟨s1, s2, s3, s4⟩ := hSw; go_simp⟩
        simp only [Act.put, List.setIfInBounds_toArray, List.set_cons_zero, List.set_cons_succ]
        refine take_at (i := 5) (d := some 146) (v := .pointer (some ⟨g, 0, none⟩)) rfl (by kernel_rfl) (by kernel_rfl) (by kernel_rfl) (fun _ _ _ h => h) (fun oi ho => ?_) (HS.out _ HQ.out) ?_
        · obtain rfl := Option.some.inj ho
          exact Or.inl ⟨by rfl, fun wx hSw => by obtain ⟨s1, s2, s3, s4⟩ := hSw; go_simp⟩
        simp only [Act.put, List.setIfInBounds_toArray, List.set_cons_zero, List.set_cons_succ]
        refine take_at (i := 7) (d := some 148) (v := .int .i64 (AL : Int)) rfl (by kernel_rfl) (by kernel_rfl) (by kernel_rfl) (fun _ _ _ h => h) (fun oi ho => ?_) (HS.out _ HQ.out) ?_
        · obtain rfl := Option.some.inj ho
          exact Or.inl ⟨by rfl, fun wx hSw => by obtain ⟨s1, s2, s3, s4⟩ := hSw; go_simp⟩
        simp only [Act.put, List.setIfInBounds_toArray, List.set_cons_zero, List.set_cons_succ]
        refine take_at (i := 8) (d := some 149) (v := .int .i64 (gone : Int)) rfl (by kernel_rfl) (by kernel_rfl) (by kernel_rfl) (fun _ _ _ h => h) (fun oi ho => ?_) (HS.out _ HQ.out) ?_
        · obtain rfl := Option.some.inj ho
          exact Or.inl ⟨by rfl, fun wx hSw => by obtain ⟨s1, s2, s3, s4⟩ := hSw; go_simp⟩
        simp only [Act.put, List.setIfInBounds_toArray, List.set_cons_zero, List.set_cons_succ]
        refine take_at (i := 9) (d := some 150) (v := .int .i64 (LN : Int)) rfl (by kernel_rfl) (by kernel_rfl) (by kernel_rfl) (fun _ _ _ h => h) (fun oi ho => ?_) (HS.out _ HQ.out) ?_
        · obtain rfl := Option.some.inj ho
          exact Or.inl ⟨by rfl, fun wx hSw => by obtain ⟨s1, s2, s3, s4⟩ := hSw; go_simp⟩
        simp only [Act.put, List.setIfInBounds_toArray, List.set_cons_zero, List.set_cons_succ]
        refine ready_call (i := 6) (d := some 147) (f := 34) (args := #[.pointer (some ⟨g, 0, none⟩)]) rfl (by kernel_rfl) (fun oi ho => ?_) ?_
        · obtain rfl := Option.some.inj ho
          exact ⟨by rfl, by go_simp⟩
        refine hlenr.mono ?_
        rintro e W6 ⟨rfl, hb6⟩
        have H6 := Lib.hid hb6
        clear hb6
        refine ⟨_, rfl, HS.out _ H6.out, ?_⟩
        simp only [Act.put, List.setIfInBounds_toArray, List.set_cons_zero, List.set_cons_succ]
        refine take_at (i := 10) (d := some 151) (v := .bool true) rfl (by kernel_rfl) (by kernel_rfl) (by kernel_rfl) (fun _ _ _ h => h) (fun oi ho => ?_) (HS.out _ H6.out) ?_
        · obtain rfl := Option.some.inj ho
          exact Or.inl ⟨by rfl, fun wx hSw => by obtain ⟨s1, s2, s3, s4⟩ := hSw; go_simp⟩
        simp only [Act.put, List.setIfInBounds_toArray, List.set_cons_zero, List.set_cons_succ]
        refine take_at (i := 11) (d := some 152) (v := .bool true) rfl (by kernel_rfl) (by kernel_rfl) (by kernel_rfl) (fun _ _ _ h => h) (fun oi ho => ?_) (HS.out _ H6.out) ?_
        · obtain rfl := Option.some.inj ho
          exact Or.inl ⟨by rfl, fun wx hSw => by obtain ⟨s1, s2, s3, s4⟩ := hSw; go_simp⟩
        simp only [Act.put, List.setIfInBounds_toArray, List.set_cons_zero, List.set_cons_succ]
        have hans := HQ0.out.1.ans.below H6.out HQ0.out.1.ans.lt
        have ca := cell_of_row W6 _ 0 _ 4 (0, 0) hans
        have fa := Row.frozen hans 0
        have hlo := HQ0.out.1.lo
        have hneq : ∀ k, w.heap.size + 1 ≤ k → (W6.setCell ⟨w.heap.size, 0, none⟩ (.bool true)).cell? ⟨k, 0, none⟩ = W6.cell? ⟨k, 0, none⟩ := fun k hk => World.cell?_setCell_other _ _ _ _ (by intro e; simp only [Addr.mk.injEq] at e; omega)
        refine ready_skip (i := 12) (d := none) (w' := W6.setCell ⟨w.heap.size, 0, none⟩ (.bool true)) rfl (by kernel_rfl) (fun oi ho => ?_) (by
          have h1 := HS.out _ H6.out
          rw [hneq ci (by omega), hneq (c + 1) (by omega), hneq c (by omega), hneq (c + 1 + 1) (by omega)]
          exact h1) ?_
        · obtain rfl := Option.some.inj ho
          exact ⟨by rfl, by go_simp⟩
        refine wpAnyH_done (by kernel_rfl) ?_ _
        refine NoPanic.normal ?_
        go_wp2
        have hdl := (Array.getElem?_eq_some_iff.1 HQ0.out.2.2).1
        exact order_end hans (HQ0.out.1.bel.trans (H6.out.mono HQ0.out.1.bel.size)) ((H6.out.block _ hdl).trans HQ0.out.2.2) (by omega) rfl true rfl
      case stop =>
        rintro c pre W _ h _
        exact h.elim
end
end Go.Proofs.Ytkekjcdhlkhhoaa
