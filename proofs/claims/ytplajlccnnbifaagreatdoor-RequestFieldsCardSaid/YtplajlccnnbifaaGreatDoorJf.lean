/- Texts of this proof that several statements share, one behind the other. -/
import Derived.Test.YtplajlccnnbifaaGreatDoorJe
import Derived.Lib.SlBytesConst
/- The landed parser's readHead walked. (mkrt10.py writes it.) -/
namespace Go.Proofs.YtplajlccnnbifaaGreatDoor
open Go.RowKit
attribute [local go_sem] store_one S_match S_store eguard_BN nguard_BN

/-- What the reader of chunks tells without turning anything. -/
structure ChunkQ (RC : World → (Nat → Prop) → Nat → Cst → Prop) : Prop where
  data : ∀ {w : World} {F : Nat → Prop} {g : Nat} {st : Cst}, RC w F g st → Calls Tryz.prog 83 #[.pointer (some ⟨g, 0, none⟩)] w fun e w' => e = .returned (S st.data) ∧ w' = w
  done : ∀ {w : World} {F : Nat → Prop} {g : Nat} {st : Cst}, RC w F g st → Calls Tryz.prog 80 #[.pointer (some ⟨g, 0, none⟩)] w fun e w' => e = .returned (.bool st.isDone) ∧ w' = w
  bad : ∀ {w : World} {F : Nat → Prop} {g : Nat} {st : Cst}, RC w F g st → Calls Tryz.prog 81 #[.pointer (some ⟨g, 0, none⟩)] w fun e w' => e = .returned (.int .i64 (st.badN : Int)) ∧ w' = w
/-- What readHead and readBody tell. -/
def HeadDone (RC : World → (Nat → Prop) → Nat → Cst → Prop) (F : Nat → Prop) (g : Nat) (st : PSt) (b : Bool) (w w' : World) : Prop :=
  ∃ F', Moves F F' w w' ∧ (b = true → st.bad = 0 ∧ ∃ v ow X gp, PrAt RC w' F' g st v ow X (.pointer (some ⟨gp, 0, none⟩))) ∧ (b = false → ∃ st', st.next = (none, st') ∧ RP0 RC w' F' g st')
/-- Nothing of what there was in W0 turns. -/
structure FarSet (W0 W W' : World) : Prop where
  os : W'.os = W.os
  tape : W'.tape = W.tape
  output : W'.output = W.output
  size : W.heap.size ≤ W'.heap.size
  block : ∀ j, j < W0.heap.size → W'.heap[j]? = W.heap[j]?
theorem Moves.far {F F' : Nat → Prop} {w W W' : World} (h : Moves F F' w W) (k : FarSet w W W') : Moves F F' w W' :=
  ⟨k.os.trans h.os, k.tape.trans h.tape, k.output.trans h.output, Nat.le_trans h.size k.size, h.foot, fun j hj hn => (k.block j hj).trans (h.rest j hj hn)⟩
theorem headV_slice {w : World} {V : Value} {fs : List (List UInt8 × List UInt8)} {base : Nat} (h : w.ownsRow base 47 2 V fs.length (fcells fs)) : ∃ a c, V = .slice a fs.length c := by
  obtain ⟨g, hf, _⟩ := flds_at h
  exact hf.form
theorem next_of_bad {st : PSt} {c : Nat} (hb : st.bad = 0) (h : stepS st.buf = .bad c) : st.next = (none, ⟨[], c⟩) := by unfold PSt.next; rw [if_pos hb, h]
theorem next_of_more {st : PSt} (hb : st.bad = 0) (h : stepS st.buf = .more) : st.next = (none, st) := by unfold PSt.next; rw [if_pos hb, h]
theorem next_of_stop {st : PSt} (hb : st.bad ≠ 0) : st.next = (none, st) := by unfold PSt.next; rw [if_neg hb]
section
variable {RC : World → (Nat → Prop) → Nat → Cst → Prop} {w : World} {F : Nat → Prop} {g : Nat} {st : PSt}
theorem RP0.below {w' : World} (C : ChunkI RC) (h : RP0 RC w F g st) (hb : Below w.heap.size w w') : RP0 RC w' F g st := by
  obtain ⟨v, ow, X, nv, h⟩ := h
  exact ⟨v, ow, X, nv, h.same C hb.size (fun k hk => hb.block k (h.lt.2 k hk))⟩
theorem PrAt.below {w' : World} {v : Value} {ow : Option Nat} {X : Nat → Prop} {nv : Value} (C : ChunkI RC) (h : PrAt RC w F g st v ow X nv) (hb : Below w.heap.size w w') : PrAt RC w' F g st v ow X nv := h.same C hb.size (fun k hk => hb.block k (h.lt.2 k hk))
/-- A parser with a head that was read now. -/
theorem pr_make {W : World} {X X' : Nat → Prop} {v : Value} {ow : Option Nat} {gp : Nat} {r : Rq} {len : Option Nat} {n : Nat} {V : Value} {gf : Nat} {cp : Value} {rd : Nat} (h : PrAt RC w F g st v ow X (.pointer none)) (hr : Row W g #[v, .pointer (some ⟨gp, 0, none⟩), .int .i64 (st.bad : Int)] 39) (hw : WaitO W v ow st.buf)
    (hX : ∀ k, X' k → w.heap.size ≤ k) (hP : PdAt RC W X' gp st.buf r len n V gf cp rd) (hb : st.bad = 0) : PrAt RC W (fun k => k = g ∨ ow = some k ∨ X' k) g st v ow X' (.pointer (some ⟨gp, 0, none⟩)) where
  row := hr
  wait := hw
  next := .inr ⟨gp, r, len, n, V, gf, cp, rd, rfl, hP⟩
  foot := fun k => Iff.rfl
  g_x := fun hx => by have := hX g hx; have := h.row.lt; omega
  ow_g := fun k hk => ⟨(h.ow_g k hk).1, fun hx => by have := hX k hx; have := h.wait.lt k hk; omega⟩
  clean := fun hn => absurd hb hn
theorem pr_foot {X X' : Nat → Prop} {v : Value} {ow : Option Nat} {nv : Value} (h : PrAt RC w F g st v ow X nv) (hX : ∀ k, X' k → w.heap.size ≤ k) : ∀ k, (k = g ∨ ow = some k ∨ X' k) → F k ∨ w.heap.size ≤ k := fun k hk => by
  rcases hk with rfl | hk | hk
  · exact .inl h.lt.1
  · exact .inl ((h.foot k).2 (.inr (.inl hk)))
  · exact .inr (hX k hk)
theorem moves_cell (hg : F g) (i : Nat) (v : Value) : Moves F F w (w.setCell ⟨g, i, none⟩ v) :=
  ⟨rfl, rfl, rfl, by simp [World.setCell], fun _ h => .inl h, fun j _ hn => Below.heap_setCell _ _ _ _ (fun e => hn (by rw [e]; exact hg))⟩
/-- A cell of a block that is new. -/
theorem moves_far {W0 W : World} {gp : Nat} (h : W0.heap.size ≤ gp) (i : Nat) (v : Value) : FarSet W0 W (W.setCell ⟨gp, i, none⟩ v) := ⟨rfl, rfl, rfl, by simp [World.setCell], fun j hj => Below.heap_setCell _ _ _ _ (show j ≠ gp by omega)⟩
theorem moves_to {F' : Nat → Prop} {w' : World} (h : Moves F F w w') (hf : ∀ k, F' k → F k ∨ w.heap.size ≤ k) : Moves F F' w w' := ⟨h.os, h.tape, h.output, h.size, hf, h.rest⟩
theorem head_body {s : List UInt8} {r : Rq} {len : Option Nat} (h : headR s = .ok r len) : r.body = [] := by
  unfold headR at h
  cases hL : lnsF [] s with
  | nil => rw [hL] at h; cases h
  | cons l0 ls =>
    rw [hL] at h
    unfold headL at h
    dsimp only at h
    split at h
    · cases h
    · split at h
      · cases h
      · split at h
        · cases h
        · split at h
          · cases h
          · split at h
            · cases h; rfl
            · split at h
              · cases h
              · cases h; rfl
set_option maxRecDepth 100000 in
set_option maxHeartbeats 2000000 in
theorem readhead_any (C : ChunkI RC) (h : RP0 RC w F g st) (hl : st.buf.length ≤ 100000) (hm : MaxAt w) :
    Calls Tryz.prog 23 #[.pointer (some ⟨g, 0, none⟩)] w fun e w' => ∃ b, e = .returned (.bool b) ∧ HeadDone RC F g st b w w' := by
  obtain ⟨v, ow, X, nv, h⟩ := h
  obtain ⟨c0, c1, c2⟩ := h.cells
  have H := Lib.hid (And.intro h (And.intro hm C))
  by_cases hb : st.bad = 0
  case neg =>
    have q0 : ((st.bad : Int) == 0) = false := by rw [beq_eq_false_iff_ne]; omega
    have q1 : ((st.bad : Int) != 0) = true := by rw [bne_iff_ne]; omega
    have HS := Lib.hid hb
    clear hb h hm
    go_enter Tryz.func23, Tryz.ntmps23
    go_wp2
    go_ret
    exact ⟨false, rfl, F, Moves.refl F w, fun h => by (cases h), fun _ => ⟨st, next_of_stop HS.out, _, _, _, _, H.out.1⟩⟩
  have q0 : ((st.bad : Int) == 0) = true := by rw [beq_iff_eq]; omega
  have q1 : ((st.bad : Int) != 0) = false := by rw [bne_eq_false_iff_eq]; omega
  have HB := Lib.hid hb
  rcases h.next with ⟨hnv, hX⟩ | ⟨gp, r, len, n, V, gf, cp, rd, hnv, hP⟩
  case inr =>
    subst hnv
    clear hb h hm hP
    go_enter Tryz.func23, Tryz.ntmps23
    go_wp2
    go_ret
    exact ⟨true, rfl, F, Moves.refl F w, fun _ => ⟨HB.out, _, _, _, gp, H.out.1⟩, fun h => by (cases h)⟩
  subst hnv
  have hwv := h.wait.toV
  have hlen := hwv.len 3
  obtain ⟨L, hL⟩ : ∃ L, L = st.buf.length := ⟨_, rfl⟩
  rw [← hL] at hlen hl
  obtain ⟨x, hx⟩ : ∃ x, x = st.buf.take (min st.buf.length 2048) := ⟨_, rfl⟩
  obtain ⟨V', hsl, hV'⟩ := hwv.upto (min st.buf.length 2048) (by omega)
  rw [← hx] at hV'
  obtain ⟨k0, hk0⟩ : ∃ k, k = min st.buf.length 2048 := ⟨_, rfl⟩
  rw [← hk0] at hsl
  have hmn : ∀ w, (Builtin.min_ #[3, 3] 3 #[.int .i64 (L : Int), .int .i64 2048]).run Tryz.prog w = .ok (.int .i64 (k0 : Int)) w := fun w => by
    rw [run_min_int2, hk0]
    congr 2
    split <;> omega
  obtain ⟨va, vc, hvf, _⟩ := h.wait.form
  have HX := Lib.hid (And.intro hx (And.intro hX (And.intro hL (And.intro hk0 hV'))))
  have HXL : Hid (x.length ≤ 2048 ∧ x.length ≤ L) := Lib.hid (by rw [hx, List.length_take]; omega)
  clear hb h hm hwv hL hx hX hk0 hV' hvf
  have hW0 : w.cell? ⟨g, 0, none⟩ = some v := c0
  have HW0 := Lib.hid hW0
  clear hW0
  go_enter Tryz.func23, Tryz.ntmps23
  go_wp2
  obtain ⟨Wq, hWq⟩ : ∃ Wq, Wq = w.drew := ⟨_, rfl⟩
  have hBq : Below w.heap.size w Wq := by rw [hWq]; exact ⟨rfl, rfl, rfl, Nat.le_refl _, fun _ _ => rfl⟩
  have hSQ : Wq.cell? ⟨g, 0, none⟩ = some v := by rw [hWq]; exact HW0.out
  refine wp_region_noPanic ?_
  refine wp_region_held_drew (S := fun W => W.cell? ⟨g, 0, none⟩ = some v) (by kernel_rfl) (by rw [← hWq]; exact hSQ) (fun _ => ?_)
  rw [← hWq]
  clear hWq c0 c1 c2
  refine take_at (i := 0) (d := some 24) (v := .pointer (some ⟨g, 0, none⟩)) rfl (by kernel_rfl) (by kernel_rfl) (by kernel_rfl) (fun _ _ _ h => h) (fun oi ho => ?_) hSQ ?_
  · obtain rfl := Option.some.inj ho
    exact Or.inl ⟨by rfl, fun wx hSw => by go_simp⟩
  simp only [Act.put, List.setIfInBounds_toArray, List.set_cons_zero, List.set_cons_succ]
  refine take_at (i := 1) (d := some 25) (v := .pointer (some ⟨g, 0, none⟩)) rfl (by kernel_rfl) (by kernel_rfl) (by kernel_rfl) (fun _ _ _ h => h) (fun oi ho => ?_) hSQ ?_
  · obtain rfl := Option.some.inj ho
    exact Or.inl ⟨by rfl, fun wx hSw => by go_simp⟩
  simp only [Act.put, List.setIfInBounds_toArray, List.set_cons_zero, List.set_cons_succ]
  refine take_at (i := 2) (d := some 26) (v := .pointer (some ⟨g, 0, none⟩)) rfl (by kernel_rfl) (by kernel_rfl) (by kernel_rfl) (fun _ _ _ h => h) (fun oi ho => ?_) hSQ ?_
  · obtain rfl := Option.some.inj ho
    exact Or.inl ⟨by rfl, fun wx hSw => by go_simp⟩
  simp only [Act.put, List.setIfInBounds_toArray, List.set_cons_zero, List.set_cons_succ]
  refine take_at (i := 3) (d := some 27) (v := v) rfl (by kernel_rfl) (by kernel_rfl) (by kernel_rfl) (fun _ _ _ h => h) (fun oi ho => ?_) hSQ ?_
  · obtain rfl := Option.some.inj ho
    exact Or.inl ⟨by rfl, fun wx hSw => by go_simp⟩
  simp only [Act.put, List.setIfInBounds_toArray, List.set_cons_zero, List.set_cons_succ]
  refine take_at (i := 4) (d := some 28) (v := .pointer (some ⟨g, 0, none⟩)) rfl (by kernel_rfl) (by kernel_rfl) (by kernel_rfl) (fun _ _ _ h => h) (fun oi ho => ?_) hSQ ?_
  · obtain rfl := Option.some.inj ho
    exact Or.inl ⟨by rfl, fun wx hSw => by go_simp⟩
  simp only [Act.put, List.setIfInBounds_toArray, List.set_cons_zero, List.set_cons_succ]
  refine take_at (i := 5) (d := some 29) (v := .pointer (some ⟨g, 0, none⟩)) rfl (by kernel_rfl) (by kernel_rfl) (by kernel_rfl) (fun _ _ _ h => h) (fun oi ho => ?_) hSQ ?_
  · obtain rfl := Option.some.inj ho
    exact Or.inl ⟨by rfl, fun wx hSw => by go_simp⟩
  simp only [Act.put, List.setIfInBounds_toArray, List.set_cons_zero, List.set_cons_succ]
  refine take_at (i := 6) (d := some 30) (v := .pointer (some ⟨g, 0, none⟩)) rfl (by kernel_rfl) (by kernel_rfl) (by kernel_rfl) (fun _ _ _ h => h) (fun oi ho => ?_) hSQ ?_
  · obtain rfl := Option.some.inj ho
    exact Or.inl ⟨by rfl, fun wx hSw => by go_simp⟩
  simp only [Act.put, List.setIfInBounds_toArray, List.set_cons_zero, List.set_cons_succ]
  refine take_at (i := 7) (d := some 31) (v := v) rfl (by kernel_rfl) (by kernel_rfl) (by kernel_rfl) (fun _ _ _ h => h) (fun oi ho => ?_) hSQ ?_
  · obtain rfl := Option.some.inj ho
    exact Or.inl ⟨by rfl, fun wx hSw => by go_simp⟩
  simp only [Act.put, List.setIfInBounds_toArray, List.set_cons_zero, List.set_cons_succ]
  refine take_at (i := 8) (d := some 32) (v := .int .i64 (L : Int)) rfl (by kernel_rfl) (by kernel_rfl) (by kernel_rfl) (fun _ _ _ h => h) (fun oi ho => ?_) hSQ ?_
  · obtain rfl := Option.some.inj ho
    exact Or.inl ⟨by rfl, fun wx hSw => by go_simp⟩
  simp only [Act.put, List.setIfInBounds_toArray, List.set_cons_zero, List.set_cons_succ]
  refine take_at (i := 9) (d := some 33) (v := .int .i64 (k0 : Int)) rfl (by kernel_rfl) (by kernel_rfl) (by kernel_rfl) (fun _ _ _ h => h) (fun oi ho => ?_) hSQ ?_
  · obtain rfl := Option.some.inj ho
    exact Or.inl ⟨by rfl, fun wx hSw => by go_simp⟩
  simp only [Act.put, List.setIfInBounds_toArray, List.set_cons_zero, List.set_cons_succ]
  refine take_at (i := 10) (d := some 34) (v := V') rfl (by kernel_rfl) (by kernel_rfl) (by kernel_rfl) (fun _ _ _ h => h) (fun oi ho => ?_) hSQ ?_
  · obtain rfl := Option.some.inj ho
    exact Or.inl ⟨by rfl, fun wx hSw => by go_simp⟩
  simp only [Act.put, List.setIfInBounds_toArray, List.set_cons_zero, List.set_cons_succ]
  refine ready_value (i := 11) (d := some 3) (v := V') (w' := Wq) rfl (by kernel_rfl) (fun oi ho => ?_) hSQ ?_
  · obtain rfl := Option.some.inj ho
    exact ⟨by rfl, by go_simp⟩
  simp only [Act.put, List.setIfInBounds_toArray, List.set_cons_zero, List.set_cons_succ]
  refine wpAnyH_done (by kernel_rfl) ?_ _
  refine NoPanic.normal ?_
  clear hlen hsl hmn
  have HQ : Hid (Below w.heap.size w Wq ∧ WaitV Wq V' x) := Lib.hid ⟨hBq, HX.out.2.2.2.2.below hBq⟩
  clear hBq hSQ
  obtain ⟨bc, hbc⟩ : ∃ b, b = Wq.heap.size := ⟨_, rfl⟩
  obtain ⟨W1, hW1⟩ : ∃ W, W = Wq.alloc (.cells #[.int .u8 13, .int .u8 10, .int .u8 13, .int .u8 10] 5 (4, 5)) := ⟨_, rfl⟩
  have hB1 : Below w.heap.size w W1 := by rw [hW1]; exact HQ.out.1.alloc HQ.out.1.size _
  have hr1 : ∀ i, W1.cell? ⟨bc, i, none⟩ = (#[.int .u8 13, .int .u8 10, .int .u8 13, .int .u8 10] : Array Value)[i]? := fun i => by rw [hW1, hbc]; exact World.cell?_alloc_mark Wq _ 5 (4, 5) i
  have kc := fun (w : World) (C : Array Value) (n c : Nat) => Lib.run_convert_bytes_const (P := Tryz.prog) w 36 5 C n c Tryz.underlying36 Tryz.underlying5
  have hV1 : WaitV W1 V' x := HQ.out.2.below (by rw [hW1]; exact (Below.refl _ Wq).alloc (Nat.le_refl _) _)
  have hix := index_any V' x [13, 10, 13, 10] W1 bc 4 hV1 (fun i hi => by
    have hi4 : i < 4 := hi
    rw [hr1 i]
    rcases (by omega : i = 0 ∨ i = 1 ∨ i = 2 ∨ i = 3) with rfl | rfl | rfl | rfl <;> rfl) (by have := HXL.out; omega) (by decide) (by decide) (H.out.2.1.below hB1)
  have HI := Lib.hid hix
  have H1 := Lib.hid (And.intro hB1 hV1)
  clear hB1 hr1 hV1 hix
  go_wp2_with fail
  rw [← hW1, ← hbc]
  clear hW1 hbc HQ kc
  refine HI.out.mono ?_
  rintro e W2 ⟨rfl, hB⟩
  have H2 : Hid (Below w.heap.size w W2 ∧ WaitV W2 V' x) := Lib.hid ⟨H1.out.1.trans (hB.mono H1.out.1.size), H1.out.2.below hB⟩
  clear hB H1 HI
  have HG := Lib.hid (Lib.index_ge x [13, 10, 13, 10])
  have HI1 : Hid (Lib.index x [13, 10, 13, 10] = -1 → (x.length = 2048 → stepS st.buf = .bad 431) ∧ (x.length ≠ 2048 → stepS st.buf = .more)) := Lib.hid fun h => within_none HX.out.1 h
  have HI2 : Hid (∀ i : Nat, Lib.index x [13, 10, 13, 10] = (i : Int) → endF st.buf = some (i + 4) ∧ i + 4 ≤ 2048 ∧ x.take i = st.buf.take (i + 4 - 4) ∧ i + 4 ≤ x.length ∧ i + 4 ≤ st.buf.length) := Lib.hid fun i h => within_some HX.out.1 h
  generalize Lib.index x [13, 10, 13, 10] = ix at *
  by_cases hneg : ix < 0
  · have g1 : decide (ix < 0) = true := decide_eq_true hneg
    have HN := Lib.hid (HI1.out (by have := HG.out; omega))
    have hlx := H2.out.2.len 3
    clear hneg
    by_cases h20 : x.length = 2048
    · have g2 : ((x.length : Int) == 2048) = true := by rw [beq_iff_eq]; omega
      have HST := Lib.hid (HN.out.1 h20)
      clear h20
      have hfl := pfail_any 431 (⟨_, _, _, _, H.out.1.below H.out.2.2 H2.out.1⟩ : RP0 RC W2 F g st)
      have HFL := Lib.hid hfl
      clear hfl
      go_wp2_with fail
      refine HFL.out.mono ?_
      rintro e W3 ⟨rfl, F', hp, hmv⟩
      have H3 := Lib.hid (And.intro hp hmv)
      clear hp hmv
      go_wp2
      go_ret
      exact ⟨false, rfl, F', (Moves.of_below H2.out.1).trans H3.out.2, fun h => by (cases h), fun _ => ⟨_, next_of_bad HB.out HST.out, H3.out.1⟩⟩
    · have g2 : ((x.length : Int) == 2048) = false := by rw [beq_eq_false_iff_ne]; omega
      have HST := Lib.hid (HN.out.2 h20)
      clear h20
      go_wp2
      go_ret
      exact ⟨false, rfl, F, Moves.of_below H2.out.1, fun h => by (cases h), fun _ => ⟨_, next_of_more HB.out HST.out, _, _, _, _, H.out.1.below H.out.2.2 H2.out.1⟩⟩
  have g1 : decide (ix < 0) = false := decide_eq_false hneg
  obtain ⟨i, hi⟩ : ∃ i : Nat, ix = (i : Int) := ⟨ix.toNat, by omega⟩
  subst hi
  have HN := Lib.hid (HI2.out i rfl)
  have hi6 : i ≤ 100000 := by have := HN.out.2.1; omega
  clear hneg HI1 HI2 HG
  obtain ⟨V2, hs2, hV2⟩ := H2.out.2.upto i (by have := HN.out.2.2.2.1; omega)
  have ht2 := hV2.text
  have hxl : (x.take i).length ≤ 100000 := by rw [List.length_take]; omega
  have hho := headof_any (x.take i) hxl W2 (H.out.2.1.below H2.out.1)
  rw [HN.out.2.2.1] at hho ht2
  have HHO := Lib.hid hho
  clear hho hV2 hxl
  have hw4 : IntKind.i64.wrap ((i : Int) + 4) = ((i + 4 : Nat) : Int) := by rw [IntKind.wrap_i64]; omega
  go_wp2_with fail
  clear hs2 ht2
  refine HHO.out.mono ?_
  rintro e W3 ⟨hB3, hp⟩
  have H3 : Hid (Below w.heap.size w W3 ∧ Below W2.heap.size W2 W3) := Lib.hid ⟨H2.out.1.trans (hB3.mono H2.out.1.size), hB3⟩
  clear hB3 HHO
  cases hhd : headR (st.buf.take (i + 4 - 4)) with
  | bad c =>
    rw [hhd] at hp
    dsimp only at hp
    subst hp
    have HST : Hid (stepS st.buf = .bad c ∧ c ≠ 0) := Lib.hid (by
      refine ⟨?_, ?_⟩
      · unfold stepS
        rw [HN.out.1]
        dsimp only
        rw [if_neg (by have := HN.out.2.1; omega), hhd]
      · rcases head_code _ c (by unfold headR at hhd; exact hhd) with h | h | h <;> omega)
    have q2 : ((c : Int) == 0) = false := by rw [beq_eq_false_iff_ne]; have := HST.out.2; omega
    have q3 : ((c : Int) != 0) = true := by rw [bne_iff_ne]; have := HST.out.2; omega
    clear hhd
    unfold zeroHd
    have HFL : Hid (∀ W, Below W3.heap.size W3 W → Calls Tryz.prog 40 #[.pointer (some ⟨g, 0, none⟩), .int .i64 (c : Int)] W fun e w' => e = .returned (.tuple #[]) ∧ ∃ F', RP0 RC w' F' g ⟨[], c⟩ ∧ Moves F F' W w') := Lib.hid fun W hW => pfail_any c (⟨_, _, _, _, H.out.1.below H.out.2.2 (H3.out.1.trans (hW.mono H3.out.1.size))⟩ : RP0 RC W F g st)
    obtain ⟨W4, hW4⟩ : ∃ W, W = W3.alloc (.cells #[.string ⟨#[]⟩, .string ⟨#[]⟩, .string ⟨#[]⟩, .int .i64 0, .slice none 0 0, .string ⟨#[]⟩, .bool false, .bool false, .int .i64 0] 54) := ⟨_, rfl⟩
    have HB4 : Hid (Below W3.heap.size W3 W4) := Lib.hid (by rw [hW4]; exact (Below.refl _ W3).alloc (Nat.le_refl _) _)
    go_wp2_with fail
    rw [← hW4]
    clear hW4
    refine (HFL.out W4 HB4.out).mono ?_
    rintro e W5 ⟨rfl, F', hp, hmv⟩
    have H5 := Lib.hid (And.intro hp hmv)
    clear hp hmv
    go_wp2
    go_ret
    exact ⟨false, rfl, F', (Moves.of_below (H3.out.1.trans (HB4.out.mono H3.out.1.size))).trans H5.out.2, fun h => by (cases h), fun _ => ⟨_, next_of_bad HB.out HST.out.1, H5.out.1⟩⟩
  | ok r len =>
    rw [hhd] at hp
    dsimp only at hp
    obtain ⟨Vf, rfl, hO⟩ := hp
    obtain ⟨fa, fc, rfl⟩ := headV_slice hO
    unfold hdCells
    obtain ⟨rm, rp, rq, rv, fs, rbd, rcl⟩ := r
    dsimp only at hO ⊢
    have hbd : rbd = [] := by
      have := head_body hhd
      exact this
    subst hbd
    have HHD := Lib.hid hhd
    clear hhd
    obtain ⟨gf, hfl, hgf⟩ := flds_at hO
    obtain ⟨ic, hic⟩ : ∃ ic, ic = len.isNone := ⟨_, rfl⟩
    obtain ⟨sz, hsz⟩ : ∃ sz, sz = len.getD 0 := ⟨_, rfl⟩
    rw [← hic, ← hsz]
    have HF := Lib.hid (And.intro hfl (And.intro hgf (And.intro hic hsz)))
    clear hO hfl hgf hic hsz
    obtain ⟨W4, hW4⟩ : ∃ W, W = W3.alloc (.cells #[S rm, S rp, S rq, .int .i64 (rv : Int), .slice fa fs.length fc, S [], .bool rcl, .bool ic, .int .i64 (sz : Int)] 54) := ⟨_, rfl⟩
    obtain ⟨W5, hW5⟩ : ∃ W, W = W4.alloc (.cells #[S rm, S rp, S rq, .int .i64 (rv : Int), .slice fa fs.length fc, S [], .bool rcl, .bool ic, .int .i64 (sz : Int), .pointer none, .int .i64 ((i + 4 : Nat) : Int)] 57) := ⟨_, rfl⟩
    have hW5' : W5 = W4.alloc (.cells #[S rm, S rp, S rq, .int .i64 (rv : Int), .slice fa fs.length fc, S [], .bool rcl, .bool ic, .int .i64 (sz : Int), .pointer none, .int .i64 ((i : Int) + 4)] 57) := by rw [hW5, show ((i + 4 : Nat) : Int) = (i : Int) + 4 by omega]
    obtain ⟨bh, hbh⟩ : ∃ b, b = W3.heap.size := ⟨_, rfl⟩
    obtain ⟨gp, hgp⟩ : ∃ b, b = W3.heap.size + 1 := ⟨_, rfl⟩
    have hgp4 : gp = W4.heap.size := by rw [hW4, alloc_size]; exact hgp
    have hB4 : Below W3.heap.size W3 W4 := by rw [hW4]; exact (Below.refl _ W3).alloc (Nat.le_refl _) _
    have hB5 : Below W3.heap.size W3 W5 := by rw [hW5]; exact hB4.alloc hB4.size _
    have hr4 : Row W4 bh #[S rm, S rp, S rq, .int .i64 (rv : Int), .slice fa fs.length fc, S [], .bool rcl, .bool ic, .int .i64 (sz : Int)] 54 := by rw [hW4, hbh]; exact row_new _ _ _
    have hr5 : Row W5 gp (pdCells rm rp rq rv (.slice fa fs.length fc) [] rcl ic sz (.pointer none) (i + 4)) 57 := by rw [hW5, hgp4]; exact row_new _ _ _
    have hPr := H.out.1.below H.out.2.2 (H3.out.1.trans (hB5.mono H3.out.1.size))
    have hgW : g < w.heap.size := H.out.1.row.lt
    have hs45 : W3.heap.size < W4.heap.size := by rw [hW4, alloc_size]; omega
    have hgpg : gp ≠ g := by have := H3.out.1.size; omega
    have c1 : ∀ o1 o2 : Obj, ((W3.alloc o1).alloc o2).cell? ⟨g, 1, none⟩ = some (.pointer none) := fun o1 o2 => (H.out.1.below H.out.2.2 (H3.out.1.trans ((((Below.refl _ W3).alloc (Nat.le_refl _) o1).alloc (by simp) o2).mono H3.out.1.size))).cells.2.1
    have f1 : ∀ o1 o2 : Obj, ((W3.alloc o1).alloc o2).frozen? ⟨g, 1, none⟩ = false := fun o1 o2 => (H.out.1.below H.out.2.2 (H3.out.1.trans ((((Below.refl _ W3).alloc (Nat.le_refl _) o1).alloc (by simp) o2).mono H3.out.1.size))).frozen 1
    have k7 : ∀ (o2 : Obj) (u : Value), (((W3.alloc (.cells #[S rm, S rp, S rq, .int .i64 (rv : Int), .slice fa fs.length fc, S [], .bool rcl, .bool ic, .int .i64 (sz : Int)] 54)).alloc o2).setCell ⟨g, 1, none⟩ u).cell? ⟨W3.heap.size, 7, none⟩ = some (.bool ic) := fun o2 u => by
      have h4 := (row_new W3 #[S rm, S rp, S rq, .int .i64 (rv : Int), .slice fa fs.length fc, S [], .bool rcl, .bool ic, .int .i64 (sz : Int)] 54).alloc o2
      exact cell_of_row _ _ 7 _ _ (0, 0) (h4.other (show W3.heap.size ≠ g by have := H3.out.1.size; omega))
    -- the parser with what was read
    have hP6 : Row (W5.setCell ⟨g, 1, none⟩ (.pointer (some ⟨gp, 0, none⟩))) gp (pdCells rm rp rq rv (.slice fa fs.length fc) [] rcl ic sz (.pointer none) (i + 4)) 57 := hr5.other (show gp ≠ g from hgpg)
    have HP : Hid (Row (W5.setCell ⟨g, 1, none⟩ (.pointer (some ⟨gp, 0, none⟩))) gp (pdCells rm rp rq rv (.slice fa fs.length fc) [] rcl ic sz (.pointer none) (i + 4)) 57 ∧ Row (W5.setCell ⟨g, 1, none⟩ (.pointer (some ⟨gp, 0, none⟩))) g #[v, .pointer (some ⟨gp, 0, none⟩), .int .i64 (st.bad : Int)] 39 ∧
        WaitO (W5.setCell ⟨g, 1, none⟩ (.pointer (some ⟨gp, 0, none⟩))) v ow st.buf ∧ FldsAt (W5.setCell ⟨g, 1, none⟩ (.pointer (some ⟨gp, 0, none⟩))) (.slice fa fs.length fc) fs gf ∧ Moves F F w (W5.setCell ⟨g, 1, none⟩ (.pointer (some ⟨gp, 0, none⟩))) ∧ w.heap.size ≤ gp ∧ gp < (W5.setCell ⟨g, 1, none⟩ (.pointer (some ⟨gp, 0, none⟩))).heap.size ∧ (fs = [] ∨ (w.heap.size ≤ gf ∧ gf < gp))) := Lib.hid (by
      have hB35 := H3.out.1.trans (hB5.mono H3.out.1.size)
      refine ⟨hP6, hPr.row.set 1 _, hPr.wait.same (fun k hk => Below.heap_setCell _ _ _ _ (hPr.ow_g k hk).1), ?_, ?_, by have := H3.out.1.size; omega, ?_, ?_⟩
      · refine (HF.out.1.below hB5).same (fun hne => Below.heap_setCell _ _ _ _ ?_)
        show gf ≠ g
        have := HF.out.2.1.resolve_left hne
        have := H2.out.1.size
        omega
      · exact (Moves.of_below hB35).trans (moves_cell hPr.lt.1 _ _)
      · have : (W5.setCell ⟨g, 1, none⟩ (.pointer (some ⟨gp, 0, none⟩))).heap.size = W5.heap.size := by simp [World.setCell]
        rw [this, hW5, alloc_size]; omega
      · refine HF.out.2.1.imp id fun h => ⟨by have := H2.out.1.size; omega, by omega⟩)
    clear hB4 hB5 hr4 hr5 hPr hgW hs45 hP6 hgp4
    have q2 : ((0 : Int) == 0) = true := rfl
    cases ic with
    | false =>
      have HLE : Hid (∃ k, len = some k ∧ sz = k) := Lib.hid (by
        have h1 := HF.out.2.2.1
        have h2 := HF.out.2.2.2
        cases len with
        | none => cases h1
        | some k => exact ⟨k, rfl, h2⟩)
      go_wp2_with fail
      all_goals try rw [← hW4]
      all_goals try rw [← hgp]
      all_goals try rw [← hW5']
      all_goals try rw [← hbh]
      clear k7 c1 f1 hW4 hbh hW5 hW5' hgp hgpg
      go_ret
      have hXs : ∀ k, (k = gp ∨ (fs ≠ [] ∧ k = gf)) → w.heap.size ≤ k := fun k hk => by
        rcases hk with rfl | ⟨hne, rfl⟩
        · exact HP.out.2.2.2.2.2.1
        · exact (HP.out.2.2.2.2.2.2.2.resolve_left hne).1
      obtain ⟨kk, rfl, hkk⟩ := HLE.out
      refine ⟨true, rfl, _, moves_to HP.out.2.2.2.2.1 (pr_foot H.out.1 hXs), fun _ => ⟨HB.out, v, ow, fun k => k = gp ∨ (fs ≠ [] ∧ k = gf), gp, pr_make (r := ⟨rm, rp, rq, rv, fs, [], rcl⟩) (len := some kk) (n := i + 4) (V := .slice fa fs.length fc) (gf := gf) (cp := .pointer none) (rd := i + 4) H.out.1 HP.out.2.1 HP.out.2.2.1 hXs ⟨?_, HP.out.2.2.2.1, (by
        by_cases hne : fs = []
        · exact .inl hne
        · exact .inr ⟨.inr ⟨hne, rfl⟩, by have := HP.out.2.2.2.2.2.2.2.resolve_left hne; omega⟩), .inl rfl, fun j hj => ?_, HN.out.1, HN.out.2.1, HHD.out, fun j hj => ?_, fun h => by (cases h)⟩ HB.out⟩, fun h => by (cases h)⟩
      · have := HP.out.1
        rw [hkk] at this
        exact this
      · rcases hj with rfl | ⟨hne, rfl⟩
        · exact HP.out.2.2.2.2.2.2.1
        · have := (HP.out.2.2.2.2.2.2.2.resolve_left hne).2; have := HP.out.2.2.2.2.2.2.1; omega
      · cases hj
        exact ⟨rfl, headL_small (by have := HHD.out; unfold headR at this; exact this), rfl⟩
    | true =>
      have HLE : Hid (len = none ∧ sz = 0) := Lib.hid (by
        have h1 := HF.out.2.2.1
        have h2 := HF.out.2.2.2
        cases len with
        | none => exact ⟨rfl, h2⟩
        | some k => cases h1)
      go_wp2
      all_goals try rw [← hW4]
      all_goals try rw [← hgp]
      all_goals try rw [← hW5']
      all_goals try rw [← hbh]
      clear k7 c1 f1 hW4 hbh hW5 hW5' hgp hgpg
      obtain ⟨W6, hW6⟩ : ∃ W, W = W5.setCell ⟨g, 1, none⟩ (.pointer (some ⟨gp, 0, none⟩)) := ⟨_, rfl⟩
      rw [← hW6] at HP
      try rw [← hW6]
      obtain ⟨Wr, hWr⟩ : ∃ W, W = W6.drew := ⟨_, rfl⟩
      have hBr : Below W6.heap.size W6 Wr := by rw [hWr]; exact ⟨rfl, rfl, rfl, Nat.le_refl _, fun _ _ => rfl⟩
      have hSQ : Wr.cell? ⟨g, 1, none⟩ = some (.pointer (some ⟨gp, 0, none⟩)) := cell_of_row Wr _ 1 _ _ (0, 0) (HP.out.2.1.below hBr HP.out.2.1.lt)
      refine wp_region_noPanic ?_
      refine wp_region_held_drew (S := fun W => W.cell? ⟨g, 1, none⟩ = some (.pointer (some ⟨gp, 0, none⟩))) (by kernel_rfl) (by rw [← hWr]; exact hSQ) (fun _ => ?_)
      rw [← hWr]
      clear hWr hW6
      refine take_at (i := 0) (d := some 69) (v := .pointer (some ⟨g, 0, none⟩)) rfl (by kernel_rfl) (by kernel_rfl) (by kernel_rfl) (fun _ _ _ h => h) (fun oi ho => ?_) hSQ ?_
      · obtain rfl := Option.some.inj ho
        exact Or.inl ⟨by rfl, fun wx hSw => by go_simp⟩
      simp only [Act.put, List.setIfInBounds_toArray, List.set_cons_zero, List.set_cons_succ]
      refine take_at (i := 1) (d := some 70) (v := .pointer (some ⟨g, 0, none⟩)) rfl (by kernel_rfl) (by kernel_rfl) (by kernel_rfl) (fun _ _ _ h => h) (fun oi ho => ?_) hSQ ?_
      · obtain rfl := Option.some.inj ho
        exact Or.inl ⟨by rfl, fun wx hSw => by go_simp⟩
      simp only [Act.put, List.setIfInBounds_toArray, List.set_cons_zero, List.set_cons_succ]
      refine take_at (i := 2) (d := some 71) (v := .pointer (some ⟨g, 1, none⟩)) rfl (by kernel_rfl) (by kernel_rfl) (by kernel_rfl) (fun _ _ _ h => h) (fun oi ho => ?_) hSQ ?_
      · obtain rfl := Option.some.inj ho
        exact Or.inl ⟨by rfl, fun wx hSw => by go_simp⟩
      simp only [Act.put, List.setIfInBounds_toArray, List.set_cons_zero, List.set_cons_succ]
      refine take_at (i := 3) (d := some 72) (v := .pointer (some ⟨gp, 0, none⟩)) rfl (by kernel_rfl) (by kernel_rfl) (by kernel_rfl) (fun _ _ _ h => h) (fun oi ho => ?_) hSQ ?_
      · obtain rfl := Option.some.inj ho
        exact Or.inl ⟨by rfl, fun wx hSw => by go_simp⟩
      simp only [Act.put, List.setIfInBounds_toArray, List.set_cons_zero, List.set_cons_succ]
      refine ready_call (i := 4) (d := some 73) (f := 42) (args := #[]) rfl (by kernel_rfl) (fun oi ho => ?_) ?_
      · obtain rfl := Option.some.inj ho
        exact ⟨by rfl, by go_simp⟩
      refine (H.out.2.2.new Wr).mono ?_
      rintro e W7 ⟨gc, Fc, rfl, hR, hFc, hB7⟩
      have hB67 : Below W6.heap.size W6 W7 := hBr.trans (hB7.mono hBr.size)
      have hr7 := HP.out.1.below hB67 HP.out.1.lt
      have hg7 := HP.out.2.1.below hB67 HP.out.2.1.lt
      have hS7 : W7.cell? ⟨g, 1, none⟩ = some (.pointer (some ⟨gp, 0, none⟩)) := cell_of_row W7 _ 1 _ _ (0, 0) hg7
      have d9 : W7.cell? ⟨gp, 9, none⟩ = some (.pointer none) := cell_of_row W7 _ 9 _ _ (0, 0) hr7
      have f9 : W7.frozen? ⟨gp, 9, none⟩ = false := Row.frozen hr7 9
      have hgg : g < gp := by have := H.out.1.row.lt; have := HP.out.2.2.2.2.2.1; omega
      have hS8 : (W7.setCell ⟨gp, 9, none⟩ (.pointer (some ⟨gc, 0, none⟩))).cell? ⟨g, 1, none⟩ = some (.pointer (some ⟨gp, 0, none⟩)) := cell_of_row _ _ 1 _ _ (0, 0) (hg7.other (show g ≠ gp by omega))
      have H7 := Lib.hid (And.intro hR (And.intro hFc (And.intro hB67 (And.intro hr7 (And.intro hg7 hBr.size)))))
      clear hR hFc hB7 hB67 hr7 hg7 hgg
      refine ⟨_, rfl, hS7, ?_⟩
      simp only [Act.put, List.setIfInBounds_toArray, List.set_cons_zero, List.set_cons_succ]
      refine take_at (i := 5) (d := some 74) (v := .pointer (some ⟨gp, 0, none⟩)) rfl (by kernel_rfl) (by kernel_rfl) (by kernel_rfl) (fun _ _ _ h => h) (fun oi ho => ?_) hS7 ?_
      · obtain rfl := Option.some.inj ho
        exact Or.inl ⟨by rfl, fun wx hSw => by go_simp⟩
      simp only [Act.put, List.setIfInBounds_toArray, List.set_cons_zero, List.set_cons_succ]
      refine take_at (i := 6) (d := some 75) (v := .pointer (some ⟨gp, 9, none⟩)) rfl (by kernel_rfl) (by kernel_rfl) (by kernel_rfl) (fun _ _ _ h => h) (fun oi ho => ?_) hS7 ?_
      · obtain rfl := Option.some.inj ho
        exact Or.inl ⟨by rfl, fun wx hSw => by go_simp⟩
      simp only [Act.put, List.setIfInBounds_toArray, List.set_cons_zero, List.set_cons_succ]
      refine ready_skip (i := 7) (d := none) (w' := W7.setCell ⟨gp, 9, none⟩ (.pointer (some ⟨gc, 0, none⟩))) rfl (by kernel_rfl) (fun oi ho => ?_) hS8 ?_
      · obtain rfl := Option.some.inj ho
        exact ⟨by rfl, by go_simp⟩
      refine wpAnyH_done (by kernel_rfl) ?_ _
      refine NoPanic.normal ?_
      clear hS7 hS8 d9 f9 hSQ hBr
      go_wp2
      go_ret
      obtain ⟨hR, hFc, hB67, hr7, hg7, hsz6⟩ := H7.out
      have hw6 := HP.out.2.2.2.2.1.size
      have hXs : ∀ k, (k = gp ∨ (fs ≠ [] ∧ k = gf) ∨ Fc k) → w.heap.size ≤ k := fun k hk => by
        rcases hk with rfl | ⟨hne, rfl⟩ | hk
        · exact HP.out.2.2.2.2.2.1
        · exact (HP.out.2.2.2.2.2.2.2.resolve_left hne).1
        · have := hFc k hk; omega
      have hgpl := HP.out.2.2.2.2.2.2.1
      have hgp6 := HP.out.2.2.2.2.2.1
      have hgl := H.out.1.row.lt
      have hgf : fs = [] ∨ gf < gp := HP.out.2.2.2.2.2.2.2.imp id fun h => h.2
      have hFp : ∀ k, Fc k → k ≠ gp := fun k hk e => by have := hFc k hk; omega
      have hs8 : (W7.setCell ⟨gp, 9, none⟩ (.pointer (some ⟨gc, 0, none⟩))).heap.size = W7.heap.size := by simp [World.setCell]
      have hlt := (H.out.2.2.lt hR)
      refine ⟨true, rfl, _, moves_to ((HP.out.2.2.2.2.1.trans (Moves.of_below hB67)).far (moves_far hgp6 9 _)) (pr_foot H.out.1 hXs), fun _ => ⟨HB.out, v, ow, fun k => k = gp ∨ (fs ≠ [] ∧ k = gf) ∨ Fc k, gp, pr_make (r := ⟨rm, rp, rq, rv, fs, [], rcl⟩) (len := none) (n := i + 4) (V := .slice fa fs.length fc) (gf := gf) (cp := .pointer (some ⟨gc, 0, none⟩)) (rd := i + 4) H.out.1 (hg7.other (show g ≠ gp by omega)) ?_ hXs ⟨?_, ?_, (by
          by_cases hne : fs = []
          · exact .inl hne
          · exact .inr ⟨.inr (.inl ⟨hne, rfl⟩), by have := HP.out.2.2.2.2.2.2.2.resolve_left hne; omega⟩), .inl rfl, fun j hj => ?_, HN.out.1, HN.out.2.1, by rw [HLE.out.1] at HHD; exact HHD.out, fun j hj => by (cases hj), fun _ => ⟨gc, Fc, Cst.new, rfl, ?_, fun j hj => ⟨.inr (.inr hj), hFp j hj⟩, ?_, Nat.le_refl _, HN.out.2.2.2.2, ?_⟩⟩ HB.out⟩, fun h => by (cases h)⟩
      · refine (HP.out.2.2.1.below hB67).same (fun k hk => Below.heap_setCell _ _ _ _ ?_)
        show k ≠ gp
        have := H.out.1.wait.lt k hk; omega
      · have := hr7.set 9 (.pointer (some ⟨gc, 0, none⟩))
        rw [HLE.out.2] at this
        exact this
      · refine (HP.out.2.2.2.1.below hB67).same (fun hne => Below.heap_setCell _ _ _ _ ?_)
        show gf ≠ gp
        have := hgf.resolve_left hne; omega
      · rw [hs8]
        rcases hj with rfl | ⟨hne, rfl⟩ | hj
        · have := hB67.size; omega
        · have := hgf.resolve_left hne; have := hB67.size; omega
        · exact hlt.2 j hj
      · exact H.out.2.2.same hR (by rw [hs8]; exact Nat.le_refl _) (fun k hk => Below.heap_setCell _ _ _ _ (hFp k hk))
      · refine hgf.imp id fun h hf => ?_
        have := hFc gf hf; omega
      · rw [Nat.sub_self, List.take_zero]; rfl
end
end Go.Proofs.YtplajlccnnbifaaGreatDoor
/- The landed parser's readChunks walked. (mkrt11.py writes it.) -/
namespace Go.Proofs.YtplajlccnnbifaaGreatDoor
open Go.RowKit
attribute [local go_sem] store_one S_match S_store eguard_BN nguard_BN

theorem valueOr {P : Program} {md : Region.Mode} {ops : Array Oper} {Q : Exit → Act → World → Prop} {S : World → Prop} {fuel : Nat} {listed : Array Bool} {a : Act} {w : World} {i j : Nat} {di dj : Option Tmp} {vi vj : Value} (hdi : (ops[i]?).map (·.dst) = some di) (hdj : (ops[j]?).map (·.dst) = some dj) (hr : Region.ready md ops listed = [i, j])
    (hxi : ∀ oi, ops[i]? = some oi → Region.wanted oi (yielded ops a.tmps) = true ∧ (execOp a.eval oi).run P w = .ok (.value vi) w)
    (hxj : ∀ oj, ops[j]? = some oj → Region.wanted oj (yielded ops a.tmps) = true ∧ (execOp a.eval oj).run P w = .ok (.value vj) w) (hS : S w)
    (hi : wpAnyH P md ops Q S fuel (listed.setIfInBounds i true) (a.put di vi) w) (hj : wpAnyH P md ops Q S fuel (listed.setIfInBounds j true) (a.put dj vj) w) : wpAnyH P md ops Q S (fuel + 1) listed a w := by
  cases hei : ops[i]? with
  | none => simp [hei] at hdi
  | some oi =>
    cases hej : ops[j]? with
    | none => simp [hej] at hdj
    | some oj =>
      have e1 : oi.dst = di := by simpa [hei] using hdi
      have e2 : oj.dst = dj := by simpa [hej] using hdj
      subst e1 e2
      refine wpAnyH_ready hr (by simp) (AllReadyH.cons hei (fun K hK => ?_) (AllReadyH.cons hej (fun K hK => ?_) AllReadyH.nil))
      · obtain ⟨hw, hx⟩ := hxi oi hei
        rw [if_pos hw]
        unfold Oper.wp
        rw [hx]
        exact hK.out _ _ hS (fun _ => hi)
      · obtain ⟨hw, hx⟩ := hxj oj hej
        rw [if_pos hw]
        unfold Oper.wp
        rw [hx]
        exact hK.out _ _ hS (fun _ => hj)
theorem valueOrCall {P : Program} {md : Region.Mode} {ops : Array Oper} {Q : Exit → Act → World → Prop} {S : World → Prop} {fuel : Nat} {listed : Array Bool} {a : Act} {w : World} {i j : Nat} {di dj : Option Tmp} {vi : Value} {f : FuncId} {args : Array Value} (hdi : (ops[i]?).map (·.dst) = some di) (hdj : (ops[j]?).map (·.dst) = some dj) (hr : Region.ready md ops listed = [i, j])
    (hxi : ∀ oi, ops[i]? = some oi → Region.wanted oi (yielded ops a.tmps) = true ∧ (execOp a.eval oi).run P w = .ok (.value vi) w)
    (hxj : ∀ oj, ops[j]? = some oj → Region.wanted oj (yielded ops a.tmps) = true ∧ (execOp a.eval oj).run P w = .ok (.enter f args) w) (hS : S w)
    (hi : wpAnyH P md ops Q S fuel (listed.setIfInBounds i true) (a.put di vi) w)
    (hc : Calls P f args w fun e w' => ∃ v, e = .returned v ∧ S w' ∧ wpAnyH P md ops Q S fuel (listed.setIfInBounds j true) (a.put dj v) w') : wpAnyH P md ops Q S (fuel + 1) listed a w := by
  cases hei : ops[i]? with
  | none => simp [hei] at hdi
  | some oi =>
    cases hej : ops[j]? with
    | none => simp [hej] at hdj
    | some oj =>
      have e1 : oi.dst = di := by simpa [hei] using hdi
      have e2 : oj.dst = dj := by simpa [hej] using hdj
      subst e1 e2
      refine wpAnyH_ready hr (by simp) (AllReadyH.cons hei (fun K hK => ?_) (AllReadyH.cons hej (fun K hK => ?_) AllReadyH.nil))
      · obtain ⟨hw, hx⟩ := hxi oi hei
        rw [if_pos hw]
        unfold Oper.wp
        rw [hx]
        exact hK.out _ _ hS (fun _ => hi)
      · obtain ⟨hw, hx⟩ := hxj oj hej
        rw [if_pos hw]
        unfold Oper.wp
        rw [hx]
        refine hc.mono ?_
        rintro e w' ⟨v, rfl, hS', h⟩
        exact hK.out _ _ hS' (fun _ => h)
/-- What was read of a text that is fed so far. -/
theorem run_upto : ∀ (t : List UInt8) (st : Cst) (k : Nat) (st' : Cst), st.run t = (k, st') → st.run (t.take k) = (k, st')
  | [], st, k, st', h => by rw [List.take_nil]; exact h
  | c :: t, st, k, st', h => by
    cases hs : st.stop with
    | true =>
      rw [run_stop hs] at h
      cases h
      rw [List.take_zero]; rfl
    | false =>
      rw [run_cons hs] at h
      cases h
      rw [List.take_succ_cons, run_cons hs, run_upto t _ _ _ rfl]
theorem run_whole {t : List UInt8} {st : Cst} {k : Nat} (h : Cst.new.run (t.take k) = (k, st)) (he : k = t.length ∨ st.stop = true) : Cst.new.run t = (k, st) := by
  have e := run_append (t.take k) Cst.new (t.drop k)
  rw [List.take_append_drop, h] at e
  dsimp only at e
  rw [e]
  rcases he with he | he
  · rw [he, List.drop_length]; rfl
  · rw [run_stop he]; rfl
theorem run_more {t : List UInt8} {st st' : Cst} {k j m : Nat} (h : Cst.new.run (t.take k) = (k, st)) (hj : st.run ((t.drop k).take m) = (j, st')) : Cst.new.run (t.take (k + j)) = (k + j, st') := by
  have h1 := run_upto _ _ _ _ hj
  rw [List.take_take] at h1
  have hle := run_le ((t.drop k).take m) st
  rw [hj] at hle
  dsimp only at hle
  rw [List.length_take] at hle
  rw [Nat.min_eq_left (by omega)] at h1
  rw [List.take_add, run_append, h]
  dsimp only
  rw [h1]
section
variable {RC : World → (Nat → Prop) → Nat → Cst → Prop} {w : World} {F : Nat → Prop} {g gp gc gf : Nat} {st : PSt} {r : Rq} {n : Nat} {V v : Value} {ow : Option Nat}
/-- How it stands while the chunks are read. -/
structure ChAt (RC : World → (Nat → Prop) → Nat → Cst → Prop) (w : World) (F : Nat → Prop) (g gp gc gf : Nat) (st : PSt) (r : Rq) (n : Nat) (V v : Value) (ow : Option Nat) (rd : Nat) (cst : Cst) (Fc : Nat → Prop) (W : World) : Prop where
  mv : Moves F (fun k => k = g ∨ ow = some k ∨ (k = gp ∨ (r.fs ≠ [] ∧ k = gf) ∨ Fc k)) w W
  par : Row W g #[v, .pointer (some ⟨gp, 0, none⟩), .int .i64 (st.bad : Int)] 39
  wait : WaitO W v ow st.buf
  row : Row W gp (pdCells r.m r.p r.q r.v V [] r.cl true 0 (.pointer (some ⟨gc, 0, none⟩)) rd) 57
  flds : FldsAt W V r.fs gf
  rc : RC W Fc gc cst
  dis : ∀ k, Fc k → k ≠ g ∧ ow ≠ some k ∧ k ≠ gp ∧ (r.fs = [] ∨ k ≠ gf)
  ge : n ≤ rd
  le : rd ≤ st.buf.length
  run : Cst.new.run ((st.buf.drop n).take (rd - n)) = (rd - n, cst)
/-- What holds of the places all along. -/
structure Apt (g gp gf : Nat) (r : Rq) (ow : Option Nat) (st : PSt) (n : Nat) : Prop where
  ggp : g ≠ gp
  owg : ∀ k, ow = some k → k ≠ g ∧ k ≠ gp ∧ (r.fs = [] ∨ k ≠ gf)
  gfg : r.fs = [] ∨ (gf ≠ g ∧ gf ≠ gp)
  bad : st.bad = 0
  ends : endF st.buf = some n
  soon : n ≤ 2048
  says : headR (st.buf.take (n - 4)) = .ok r none
variable {rd : Nat} {cst : Cst} {Fc : Nat → Prop} {W W' : World}
theorem ChAt.lt (C : ChunkI RC) (h : ChAt RC w F g gp gc gf st r n V v ow rd cst Fc W) : ∀ k, (k = gp ∨ (r.fs ≠ [] ∧ k = gf) ∨ Fc k) → k < W.heap.size := fun k hk => by
  rcases hk with rfl | ⟨hne, rfl⟩ | hk
  · exact h.row.lt
  · obtain ⟨f, hf⟩ := List.exists_mem_of_ne_nil _ hne
    obtain ⟨i, hi⟩ := List.getElem?_of_mem hf
    exact World.block_lt_of_cell? W _ (h.flds.cell i f hi).1
  · exact (C.lt h.rc).2 k hk
theorem ChAt.below (C : ChunkI RC) (h : ChAt RC w F g gp gc gf st r n V v ow rd cst Fc W) (hb : Below W.heap.size W W') : ChAt RC w F g gp gc gf st r n V v ow rd cst Fc W' where
  mv := h.mv.trans (Moves.of_below hb)
  par := h.par.below hb h.par.lt
  wait := h.wait.below hb
  row := h.row.below hb h.row.lt
  flds := h.flds.below hb
  rc := C.below h.rc hb
  dis := h.dis
  ge := h.ge
  le := h.le
  run := h.run
theorem ChAt.pr (C : ChunkI RC) (h : ChAt RC w F g gp gc gf st r n V v ow rd cst Fc W) (A : Apt g gp gf r ow st n) : PrAt RC W (fun k => k = g ∨ ow = some k ∨ (k = gp ∨ (r.fs ≠ [] ∧ k = gf) ∨ Fc k)) g st v ow (fun k => k = gp ∨ (r.fs ≠ [] ∧ k = gf) ∨ Fc k) (.pointer (some ⟨gp, 0, none⟩)) where
  row := h.par
  wait := h.wait
  next := .inr ⟨gp, r, none, n, V, gf, _, rd, rfl, ⟨h.row, h.flds, (by
    by_cases hne : r.fs = []
    · exact .inl hne
    · exact .inr ⟨.inr (.inl ⟨hne, rfl⟩), (A.gfg.resolve_left hne).2⟩), .inl rfl, h.lt C, A.ends, A.soon, A.says, fun k hk => (by cases hk),
    fun _ => ⟨gc, Fc, cst, rfl, h.rc, fun k hk => ⟨.inr (.inr hk), (h.dis k hk).2.2.1⟩, (by
      by_cases hne : r.fs = []
      · exact .inl hne
      · exact .inr fun hf => ((h.dis gf hf).2.2.2.resolve_left hne) rfl), h.ge, h.le, h.run⟩⟩⟩
  foot := fun k => Iff.rfl
  g_x := fun hx => by
    rcases hx with e | ⟨hne, e⟩ | hx
    · exact A.ggp e
    · exact (A.gfg.resolve_left hne).1 e.symm
    · exact (h.dis g hx).1 rfl
  ow_g := fun k hk => ⟨(A.owg k hk).1, fun hx => by
    rcases hx with e | ⟨hne, e⟩ | hx
    · exact (A.owg k hk).2.1 e
    · exact (A.owg k hk).2.2.resolve_left hne e
    · exact (h.dis k hx).2.1 hk⟩
  clean := fun hn => absurd A.bad hn
/-- Some bytes more were read. -/
theorem ChAt.step (C : ChunkI RC) (h : ChAt RC w F g gp gc gf st r n V v ow rd cst Fc W) (A : Apt g gp gf r ow st n) {j m : Nat} {cst' : Cst} {Fc' : Nat → Prop} (hr : cst.run ((st.buf.drop rd).take m) = (j, cst')) (hR : RC W' Fc' gc cst') (hm : Moves Fc Fc' W W') (i : Int) (hi : i = ((rd + j : Nat) : Int)) :
    ChAt RC w F g gp gc gf st r n V v ow (rd + j) cst' Fc' (W'.setCell ⟨gp, 10, none⟩ (.int .i64 i)) := by
  subst hi
  have hlt := h.lt C
  have hdis : ∀ k, Fc' k → k ≠ g ∧ ow ≠ some k ∧ k ≠ gp ∧ (r.fs = [] ∨ k ≠ gf) := fun k hk => by
    rcases hm.foot k hk with e | e
    · exact h.dis k e
    · refine ⟨?_, ?_, ?_, ?_⟩
      · have := h.par.lt; omega
      · intro he; have := h.wait.lt k he; omega
      · have := h.row.lt; omega
      · by_cases hne : r.fs = []
        · exact .inl hne
        · have := hlt gf (.inr (.inl ⟨hne, rfl⟩)); exact .inr (by omega)
  have hpar : Row W' g #[v, .pointer (some ⟨gp, 0, none⟩), .int .i64 (st.bad : Int)] 39 := h.par.moves hm (fun hf => (h.dis g hf).1 rfl)
  have hrow : Row W' gp (pdCells r.m r.p r.q r.v V [] r.cl true 0 (.pointer (some ⟨gc, 0, none⟩)) rd) 57 := h.row.moves hm (fun hf => (h.dis gp hf).2.2.1 rfl)
  have hle := run_le ((st.buf.drop rd).take m) cst
  rw [hr] at hle
  dsimp only at hle
  rw [List.length_take, List.length_drop] at hle
  have hge := h.ge
  have hll := h.le
  refine ⟨?_, hpar.other A.ggp, ?_, ?_, ?_, ?_, hdis, by omega, by omega, ?_⟩
  · refine ⟨hm.os.trans h.mv.os, hm.tape.trans h.mv.tape, hm.output.trans h.mv.output, by have := h.mv.size; have := hm.size; simp [World.setCell]; omega, fun k hk => ?_, fun k hk hn => ?_⟩
    · rcases hk with e | e | e | e | e
      · exact h.mv.foot k (.inl e)
      · exact h.mv.foot k (.inr (.inl e))
      · exact h.mv.foot k (.inr (.inr (.inl e)))
      · exact h.mv.foot k (.inr (.inr (.inr (.inl e))))
      · rcases hm.foot k e with e' | e'
        · exact h.mv.foot k (.inr (.inr (.inr (.inr e'))))
        · exact .inr (Nat.le_trans h.mv.size e')
    · have hk1 : ∀ k', k' = k → ¬ (k' = g ∨ ow = some k' ∨ (k' = gp ∨ (r.fs ≠ [] ∧ k' = gf) ∨ Fc k')) := fun k' e hx => by
        subst e
        rcases h.mv.foot k' hx with e | e
        · exact hn e
        · omega
      have hkk := hk1 k rfl
      rw [Below.heap_setCell _ _ _ _ (show k ≠ gp from fun e => hkk (.inr (.inr (.inl e))))]
      rw [hm.rest k (Nat.lt_of_lt_of_le hk h.mv.size) (fun hf => hkk (.inr (.inr (.inr (.inr hf)))))]
      exact h.mv.rest k hk hn
  · exact h.wait.same fun k hk => by
      rw [Below.heap_setCell _ _ _ _ (show k ≠ gp from (A.owg k hk).2.1)]
      exact hm.rest k (h.wait.lt k hk) (fun hf => (h.dis k hf).2.1 hk)
  · exact hrow.set 10 (.int .i64 ((rd + j : Nat) : Int))
  · refine h.flds.same fun hne => ?_
    rw [Below.heap_setCell _ _ _ _ (show gf ≠ gp from (A.gfg.resolve_left hne).2)]
    exact hm.rest gf (hlt gf (.inr (.inl ⟨hne, rfl⟩))) (fun hf => (h.dis gf hf).2.2.2.resolve_left hne rfl)
  · exact C.same hR (by simp [World.setCell]) (fun k hk => Below.heap_setCell _ _ _ _ (show k ≠ gp from (hdis k hk).2.2.1))
  · have e := run_more (t := st.buf.drop n) (k := rd - n) (j := j) (m := m) h.run (by rw [List.drop_drop, show n + (rd - n) = rd by omega]; exact hr)
    rw [show rd + j - n = rd - n + j by omega]
    exact e
/-- What readBody tells, if the body is there. -/
def BodyIn (F : Nat → Prop) (g gp gf : Nat) (st : PSt) (r : Rq) (V v : Value) (ow : Option Nat) (w w' : World) : Prop :=
  ∃ body ic sz cp rd, Moves F (fun k => k = g ∨ ow = some k) w w' ∧ Row w' g #[v, .pointer (some ⟨gp, 0, none⟩), .int .i64 (st.bad : Int)] 39 ∧ WaitO w' v ow st.buf ∧
    Row w' gp (pdCells r.m r.p r.q r.v V body r.cl ic sz cp rd) 57 ∧ FldsAt w' V r.fs gf ∧ rd ≤ st.buf.length ∧ stepS st.buf = .req { r with body := body } (st.buf.drop rd)
def BodyNo (RC : World → (Nat → Prop) → Nat → Cst → Prop) (F : Nat → Prop) (g : Nat) (st : PSt) (w w' : World) : Prop := ∃ F' st', Moves F F' w w' ∧ st.next = (none, st') ∧ RP0 RC w' F' g st'
theorem step_chunks (A : Apt g gp gf r ow st n) : stepS st.buf = bodyS r none (st.buf.drop n) := by
  unfold stepS
  rw [A.ends]
  dsimp only
  rw [if_neg (by have := A.soon; omega), A.says]
theorem ChAt.fine (h : ChAt RC w F g gp gc gf st r n V v ow rd cst Fc W) : cst.fine := by
  have := run_fine ((st.buf.drop n).take (rd - n)) _ new_fine
  rw [h.run] at this
  exact this
theorem ChAt.whole (h : ChAt RC w F g gp gc gf st r n V v ow rd cst Fc W) (he : rd = st.buf.length ∨ cst.isDone = true ∨ cst.badN ≠ 0) : Cst.new.run (st.buf.drop n) = (rd - n, cst) :=
  run_whole h.run (by
    rcases he with he | he
    · exact .inl (by rw [List.length_drop, he])
    · exact .inr ((stop_iff h.fine).2 he))
theorem ChAt.bad_end (h : ChAt RC w F g gp gc gf st r n V v ow rd cst Fc W) (A : Apt g gp gf r ow st n) (hb : cst.badN ≠ 0) : stepS st.buf = .bad cst.badN := by
  rw [step_chunks A]
  unfold bodyS
  dsimp only
  rw [h.whole (.inr (.inr hb))]
  dsimp only
  rw [if_pos hb]
theorem ChAt.more_end (h : ChAt RC w F g gp gc gf st r n V v ow rd cst Fc W) (A : Apt g gp gf r ow st n) (hb : cst.badN = 0) (hd : cst.isDone = false) (he : rd = st.buf.length ∨ cst.isDone = true ∨ cst.badN ≠ 0) : stepS st.buf = .more := by
  rw [step_chunks A]
  unfold bodyS
  dsimp only
  rw [h.whole he]
  dsimp only
  rw [if_neg (fun e => e hb), if_pos hd]
theorem ChAt.done_end (h : ChAt RC w F g gp gc gf st r n V v ow rd cst Fc W) (A : Apt g gp gf r ow st n) (hd : cst.isDone = true) : stepS st.buf = .req { r with body := cst.data } (st.buf.drop rd) := by
  rw [step_chunks A]
  unfold bodyS
  dsimp only
  rw [h.whole (.inr (.inl hd))]
  dsimp only
  rw [if_neg (fun e => e (done_bad cst hd)), if_neg (by rw [hd]; exact Bool.noConfusion), List.drop_drop, show n + (rd - n) = rd by have := h.ge; omega]
theorem ChAt.body_in (h : ChAt RC w F g gp gc gf st r n V v ow rd cst Fc W) (A : Apt g gp gf r ow st n) (hd : cst.isDone = true) : BodyIn F g gp gf st r V v ow w (W.setCell ⟨gp, 5, none⟩ (S cst.data)) := by
  refine ⟨cst.data, true, 0, .pointer (some ⟨gc, 0, none⟩), rd, ?_, h.par.other A.ggp, h.wait.same (fun k hk => Below.heap_setCell _ _ _ _ (A.owg k hk).2.1), h.row.set 5 (S cst.data), h.flds.same (fun hne => Below.heap_setCell _ _ _ _ (A.gfg.resolve_left hne).2), h.le, h.done_end A hd⟩
  refine ⟨h.mv.os, h.mv.tape, h.mv.output, by have := h.mv.size; simpa [World.setCell] using this, fun k hk => ?_, fun k hk hn => ?_⟩
  · rcases hk with e | e
    · exact h.mv.foot k (.inl e)
    · exact h.mv.foot k (.inr (.inl e))
  · rw [Below.heap_setCell _ _ _ _ (show k ≠ gp from fun e => by
      rcases h.mv.foot k (.inr (.inr (.inl e))) with e | e
      · exact hn e
      · omega)]
    exact h.mv.rest k hk hn
theorem ChAt.cells (h : ChAt RC w F g gp gc gf st r n V v ow rd cst Fc W) : W.cell? ⟨gp, 10, none⟩ = some (.int .i64 (rd : Int)) ∧ W.cell? ⟨gp, 9, none⟩ = some (.pointer (some ⟨gc, 0, none⟩)) ∧ W.cell? ⟨gp, 5, none⟩ = some (S []) ∧ W.cell? ⟨g, 0, none⟩ = some v ∧ W.cell? ⟨g, 1, none⟩ = some (.pointer (some ⟨gp, 0, none⟩)) ∧ W.frozen? ⟨gp, 5, none⟩ = false ∧ W.frozen? ⟨gp, 10, none⟩ = false :=
  ⟨cell_of_row W _ 10 _ _ (0, 0) h.row, cell_of_row W _ 9 _ _ (0, 0) h.row, cell_of_row W _ 5 _ _ (0, 0) h.row, cell_of_row W _ 0 _ _ (0, 0) h.par, cell_of_row W _ 1 _ _ (0, 0) h.par, Row.frozen h.row 5, Row.frozen h.row 10⟩
def rdOf (gp : Nat) (W : World) : Nat := match W.cell? ⟨gp, 10, none⟩ with
  | some x => (intOf x).toNat
  | none => 0
theorem ChAt.rd_of (h : ChAt RC w F g gp gc gf st r n V v ow rd cst Fc W) : rdOf gp W = rd := by
  unfold rdOf
  rw [h.cells.1]
  simp [intOf]
set_option maxRecDepth 100000 in
set_option maxHeartbeats 4000000 in
theorem readchunks_any {rd0 : Nat} {cst0 : Cst} {Fc0 : Nat → Prop} (C : ChunkI RC) (Q : ChunkQ RC) (h : ChAt RC w F g gp gc gf st r n V v ow rd0 cst0 Fc0 w) (A : Apt g gp gf r ow st n) (hl : st.buf.length ≤ 100000) :
    Calls Tryz.prog 43 #[.pointer (some ⟨g, 0, none⟩)] w fun e w' => ∃ b, e = .returned (.bool b) ∧ (b = true → BodyIn F g gp gf st r V v ow w w') ∧ (b = false → BodyNo RC F g st w w') := by
  have c1 := h.cells.2.2.2.2.1
  have hlen := h.wait.toV.len 3
  obtain ⟨L, hL⟩ : ∃ L, L = st.buf.length := ⟨_, rfl⟩
  rw [← hL] at hlen hl
  have H := Lib.hid (And.intro h (And.intro A (And.intro C (And.intro Q hL))))
  clear h A C Q hL
  go_enter Tryz.func43, Tryz.ntmps43
  go_wp2
  clear c1
  go_loopw [4] (fun _ wr => ∃ rd cst Fc, Hid (ChAt RC w F g gp gc gf st r n V v ow rd cst Fc wr)) (fun _ wr => L - rdOf gp wr)
  case atStart => exact ⟨_, _, _, Lib.hid H.out.1⟩
  case round =>
    obtain ⟨rd, cst, Fc, HR⟩ := hrel
    have hrl : rd ≤ L := by have := HR.out.le; have := H.out.2.2.2.2; omega
    have hro := HR.out.rd_of
    obtain ⟨Wq, hWq⟩ : ∃ Wq, Wq = wr.drew := ⟨_, rfl⟩
    have hBq : Below wr.heap.size wr Wq := by rw [hWq]; exact ⟨rfl, rfl, rfl, Nat.le_refl _, fun _ _ => rfl⟩
    have hq := HR.out.below H.out.2.2.1 hBq
    have hSQ : Wq.cell? ⟨gp, 10, none⟩ = some (.int .i64 (rd : Int)) ∧ Wq.cell? ⟨g, 0, none⟩ = some v ∧ Wq.cell? ⟨gp, 9, none⟩ = some (.pointer (some ⟨gc, 0, none⟩)) := ⟨hq.cells.1, hq.cells.2.2.2.1, hq.cells.2.1⟩
    have HQ := Lib.hid hq
    clear hq hBq
    go_wp2
    refine wp_region_noPanic ?_
    refine wp_region_held_drew (S := fun W => W.cell? ⟨gp, 10, none⟩ = some (.int .i64 (rd : Int)) ∧ W.cell? ⟨g, 0, none⟩ = some v ∧ W.cell? ⟨gp, 9, none⟩ = some (.pointer (some ⟨gc, 0, none⟩))) (by kernel_rfl) (by rw [← hWq]; exact hSQ) (fun _ => ?_)
    rw [← hWq]
    clear hWq
    by_cases hlt : rd < L
    case neg =>
      have g1 : decide ((rd : Int) < (L : Int)) = false := decide_eq_false (by omega)
      have HE : Hid (rd = st.buf.length ∨ cst.isDone = true ∨ cst.badN ≠ 0) := Lib.hid (.inl (by have := H.out.2.2.2.2; omega))
      have hge : L ≤ rd := by omega
      clear hlt
      refine take_at (i := 0) (d := some 10) (v := .pointer (some ⟨gp, 0, none⟩)) rfl (by kernel_rfl) (by kernel_rfl) (by kernel_rfl) (fun _ _ _ h => h) (fun oi ho => ?_) hSQ ?_
      · obtain rfl := Option.some.inj ho
        exact Or.inl ⟨by rfl, fun wx hSw => by go_simp⟩
      simp only [Act.put, List.setIfInBounds_toArray, List.set_cons_zero, List.set_cons_succ]
      refine take_at (i := 1) (d := some 11) (v := .pointer (some ⟨gp, 0, none⟩)) rfl (by kernel_rfl) (by kernel_rfl) (by kernel_rfl) (fun _ _ _ h => h) (fun oi ho => ?_) hSQ ?_
      · obtain rfl := Option.some.inj ho
        exact Or.inl ⟨by rfl, fun wx hSw => by go_simp⟩
      simp only [Act.put, List.setIfInBounds_toArray, List.set_cons_zero, List.set_cons_succ]
      refine take_at (i := 2) (d := some 12) (v := .pointer (some ⟨gp, 10, none⟩)) rfl (by kernel_rfl) (by kernel_rfl) (by kernel_rfl) (fun _ _ _ h => h) (fun oi ho => ?_) hSQ ?_
      · obtain rfl := Option.some.inj ho
        exact Or.inl ⟨by rfl, fun wx hSw => by go_simp⟩
      simp only [Act.put, List.setIfInBounds_toArray, List.set_cons_zero, List.set_cons_succ]
      refine take_at (i := 3) (d := some 13) (v := .int .i64 (rd : Int)) rfl (by kernel_rfl) (by kernel_rfl) (by kernel_rfl) (fun _ _ _ h => h) (fun oi ho => ?_) hSQ ?_
      · obtain rfl := Option.some.inj ho
        exact Or.inl ⟨by rfl, fun wx hSw => by obtain ⟨x0, x1, x2⟩ := hSw; go_simp⟩
      simp only [Act.put, List.setIfInBounds_toArray, List.set_cons_zero, List.set_cons_succ]
      refine take_at (i := 4) (d := some 14) (v := .pointer (some ⟨g, 0, none⟩)) rfl (by kernel_rfl) (by kernel_rfl) (by kernel_rfl) (fun _ _ _ h => h) (fun oi ho => ?_) hSQ ?_
      · obtain rfl := Option.some.inj ho
        exact Or.inl ⟨by rfl, fun wx hSw => by go_simp⟩
      simp only [Act.put, List.setIfInBounds_toArray, List.set_cons_zero, List.set_cons_succ]
      refine take_at (i := 5) (d := some 15) (v := .pointer (some ⟨g, 0, none⟩)) rfl (by kernel_rfl) (by kernel_rfl) (by kernel_rfl) (fun _ _ _ h => h) (fun oi ho => ?_) hSQ ?_
      · obtain rfl := Option.some.inj ho
        exact Or.inl ⟨by rfl, fun wx hSw => by go_simp⟩
      simp only [Act.put, List.setIfInBounds_toArray, List.set_cons_zero, List.set_cons_succ]
      refine take_at (i := 6) (d := some 16) (v := .pointer (some ⟨g, 0, none⟩)) rfl (by kernel_rfl) (by kernel_rfl) (by kernel_rfl) (fun _ _ _ h => h) (fun oi ho => ?_) hSQ ?_
      · obtain rfl := Option.some.inj ho
        exact Or.inl ⟨by rfl, fun wx hSw => by go_simp⟩
      simp only [Act.put, List.setIfInBounds_toArray, List.set_cons_zero, List.set_cons_succ]
      refine take_at (i := 7) (d := some 17) (v := v) rfl (by kernel_rfl) (by kernel_rfl) (by kernel_rfl) (fun _ _ _ h => h) (fun oi ho => ?_) hSQ ?_
      · obtain rfl := Option.some.inj ho
        exact Or.inl ⟨by rfl, fun wx hSw => by obtain ⟨x0, x1, x2⟩ := hSw; go_simp⟩
      simp only [Act.put, List.setIfInBounds_toArray, List.set_cons_zero, List.set_cons_succ]
      refine take_at (i := 8) (d := some 18) (v := .int .i64 (L : Int)) rfl (by kernel_rfl) (by kernel_rfl) (by kernel_rfl) (fun _ _ _ h => h) (fun oi ho => ?_) hSQ ?_
      · obtain rfl := Option.some.inj ho
        exact Or.inl ⟨by rfl, fun wx hSw => by go_simp⟩
      simp only [Act.put, List.setIfInBounds_toArray, List.set_cons_zero, List.set_cons_succ]
      refine take_at (i := 9) (d := some 19) (v := .bool false) rfl (by kernel_rfl) (by kernel_rfl) (by kernel_rfl) (fun _ _ _ h => h) (fun oi ho => ?_) hSQ ?_
      · obtain rfl := Option.some.inj ho
        exact Or.inl ⟨by rfl, fun wx hSw => by go_simp⟩
      simp only [Act.put, List.setIfInBounds_toArray, List.set_cons_zero, List.set_cons_succ]
      refine take_at (i := 10) (d := some 20) (v := .bool false) rfl (by kernel_rfl) (by kernel_rfl) (by kernel_rfl) (fun _ _ _ h => h) (fun oi ho => ?_) hSQ ?_
      · obtain rfl := Option.some.inj ho
        exact Or.inl ⟨by rfl, fun wx hSw => by go_simp⟩
      simp only [Act.put, List.setIfInBounds_toArray, List.set_cons_zero, List.set_cons_succ]
      refine take_at (i := 11) (d := some 21) (v := undef) rfl (by kernel_rfl) (by kernel_rfl) (by kernel_rfl) (fun _ _ _ h => h) (fun oi ho => ?_) hSQ ?_
      · obtain rfl := Option.some.inj ho
        exact Or.inr ⟨by rfl, rfl⟩
      simp only [Act.put, List.setIfInBounds_toArray, List.set_cons_zero, List.set_cons_succ]
      refine take_at (i := 12) (d := some 22) (v := undef) rfl (by kernel_rfl) (by kernel_rfl) (by kernel_rfl) (fun _ _ _ h => h) (fun oi ho => ?_) hSQ ?_
      · obtain rfl := Option.some.inj ho
        exact Or.inr ⟨by rfl, rfl⟩
      simp only [Act.put, List.setIfInBounds_toArray, List.set_cons_zero, List.set_cons_succ]
      refine take_at (i := 13) (d := some 23) (v := undef) rfl (by kernel_rfl) (by kernel_rfl) (by kernel_rfl) (fun _ _ _ h => h) (fun oi ho => ?_) hSQ ?_
      · obtain rfl := Option.some.inj ho
        exact Or.inr ⟨by rfl, rfl⟩
      simp only [Act.put, List.setIfInBounds_toArray, List.set_cons_zero, List.set_cons_succ]
      refine take_at (i := 14) (d := some 24) (v := undef) rfl (by kernel_rfl) (by kernel_rfl) (by kernel_rfl) (fun _ _ _ h => h) (fun oi ho => ?_) hSQ ?_
      · obtain rfl := Option.some.inj ho
        exact Or.inr ⟨by rfl, rfl⟩
      simp only [Act.put, List.setIfInBounds_toArray, List.set_cons_zero, List.set_cons_succ]
      refine take_at (i := 15) (d := some 25) (v := undef) rfl (by kernel_rfl) (by kernel_rfl) (by kernel_rfl) (fun _ _ _ h => h) (fun oi ho => ?_) hSQ ?_
      · obtain rfl := Option.some.inj ho
        exact Or.inr ⟨by rfl, rfl⟩
      simp only [Act.put, List.setIfInBounds_toArray, List.set_cons_zero, List.set_cons_succ]
      refine take_at (i := 16) (d := some 26) (v := undef) rfl (by kernel_rfl) (by kernel_rfl) (by kernel_rfl) (fun _ _ _ h => h) (fun oi ho => ?_) hSQ ?_
      · obtain rfl := Option.some.inj ho
        exact Or.inr ⟨by rfl, rfl⟩
      simp only [Act.put, List.setIfInBounds_toArray, List.set_cons_zero, List.set_cons_succ]
      refine take_at (i := 17) (d := some 27) (v := .bool false) rfl (by kernel_rfl) (by kernel_rfl) (by kernel_rfl) (fun _ _ _ h => h) (fun oi ho => ?_) hSQ ?_
      · obtain rfl := Option.some.inj ho
        exact Or.inl ⟨by rfl, fun wx hSw => by go_simp⟩
      simp only [Act.put, List.setIfInBounds_toArray, List.set_cons_zero, List.set_cons_succ]
      refine take_at (i := 18) (d := some 28) (v := .bool false) rfl (by kernel_rfl) (by kernel_rfl) (by kernel_rfl) (fun _ _ _ h => h) (fun oi ho => ?_) hSQ ?_
      · obtain rfl := Option.some.inj ho
        exact Or.inl ⟨by rfl, fun wx hSw => by go_simp⟩
      simp only [Act.put, List.setIfInBounds_toArray, List.set_cons_zero, List.set_cons_succ]
      refine take_at (i := 19) (d := some 29) (v := undef) rfl (by kernel_rfl) (by kernel_rfl) (by kernel_rfl) (fun _ _ _ h => h) (fun oi ho => ?_) hSQ ?_
      · obtain rfl := Option.some.inj ho
        exact Or.inr ⟨by rfl, rfl⟩
      simp only [Act.put, List.setIfInBounds_toArray, List.set_cons_zero, List.set_cons_succ]
      refine take_at (i := 20) (d := some 30) (v := undef) rfl (by kernel_rfl) (by kernel_rfl) (by kernel_rfl) (fun _ _ _ h => h) (fun oi ho => ?_) hSQ ?_
      · obtain rfl := Option.some.inj ho
        exact Or.inr ⟨by rfl, rfl⟩
      simp only [Act.put, List.setIfInBounds_toArray, List.set_cons_zero, List.set_cons_succ]
      refine take_at (i := 21) (d := some 31) (v := undef) rfl (by kernel_rfl) (by kernel_rfl) (by kernel_rfl) (fun _ _ _ h => h) (fun oi ho => ?_) hSQ ?_
      · obtain rfl := Option.some.inj ho
        exact Or.inr ⟨by rfl, rfl⟩
      simp only [Act.put, List.setIfInBounds_toArray, List.set_cons_zero, List.set_cons_succ]
      refine take_at (i := 22) (d := some 32) (v := undef) rfl (by kernel_rfl) (by kernel_rfl) (by kernel_rfl) (fun _ _ _ h => h) (fun oi ho => ?_) hSQ ?_
      · obtain rfl := Option.some.inj ho
        exact Or.inr ⟨by rfl, rfl⟩
      simp only [Act.put, List.setIfInBounds_toArray, List.set_cons_zero, List.set_cons_succ]
      refine take_at (i := 23) (d := some 33) (v := undef) rfl (by kernel_rfl) (by kernel_rfl) (by kernel_rfl) (fun _ _ _ h => h) (fun oi ho => ?_) hSQ ?_
      · obtain rfl := Option.some.inj ho
        exact Or.inr ⟨by rfl, rfl⟩
      simp only [Act.put, List.setIfInBounds_toArray, List.set_cons_zero, List.set_cons_succ]
      refine take_at (i := 24) (d := some 34) (v := undef) rfl (by kernel_rfl) (by kernel_rfl) (by kernel_rfl) (fun _ _ _ h => h) (fun oi ho => ?_) hSQ ?_
      · obtain rfl := Option.some.inj ho
        exact Or.inr ⟨by rfl, rfl⟩
      simp only [Act.put, List.setIfInBounds_toArray, List.set_cons_zero, List.set_cons_succ]
      refine take_at (i := 25) (d := some 35) (v := .bool false) rfl (by kernel_rfl) (by kernel_rfl) (by kernel_rfl) (fun _ _ _ h => h) (fun oi ho => ?_) hSQ ?_
      · obtain rfl := Option.some.inj ho
        exact Or.inl ⟨by rfl, fun wx hSw => by go_simp⟩
      simp only [Act.put, List.setIfInBounds_toArray, List.set_cons_zero, List.set_cons_succ]
      refine wpAnyH_done (by kernel_rfl) ?_ _
      refine NoPanic.normal ?_
      clear hSQ
      have e9 := HQ.out.cells.2.1
      have e5 := HQ.out.cells.2.2.1
      have ef5 := HQ.out.cells.2.2.2.2.2.1
      have HBD := Lib.hid (H.out.2.2.2.1.bad HQ.out.rc)
      have HDN := Lib.hid (H.out.2.2.2.1.done HQ.out.rc)
      have HDT := Lib.hid (H.out.2.2.2.1.data HQ.out.rc)
      go_wp2_with fail
      refine HBD.out.mono ?_
      rintro e Wx ⟨rfl, hWx⟩
      rw [hWx]
      clear hWx HBD
      by_cases hbn : cst.badN = 0
      case neg =>
        have p0 : ((cst.badN : Int) == 0) = false := by rw [beq_eq_false_iff_ne]; omega
        have p1 : ((cst.badN : Int) != 0) = true := by rw [bne_iff_ne]; omega
        have HST := Lib.hid (HQ.out.bad_end H.out.2.1 hbn)
        have HFL := Lib.hid (pfail_any cst.badN (⟨_, _, _, _, HQ.out.pr H.out.2.2.1 H.out.2.1⟩ : RP0 RC Wq _ g st))
        clear hbn
        go_wp2_with fail
        refine HFL.out.mono ?_
        rintro e W3 ⟨rfl, F', hp, hmv⟩
        have H3 := Lib.hid (And.intro hp hmv)
        clear hp hmv
        go_wp2
        go_ret
        exact ⟨false, rfl, fun h => by (cases h), fun _ => ⟨F', _, HQ.out.mv.trans H3.out.2, next_of_bad H.out.2.1.bad HST.out, H3.out.1⟩⟩
      have p0 : ((cst.badN : Int) == 0) = true := by rw [beq_iff_eq]; omega
      have p1 : ((cst.badN : Int) != 0) = false := by rw [bne_eq_false_iff_eq]; omega
      have HBN := Lib.hid hbn
      clear hbn
      go_wp2_with fail
      refine HDN.out.mono ?_
      rintro e Wx ⟨rfl, hWx⟩
      rw [hWx]
      clear hWx HDN
      cases hdn : cst.isDone with
      | false =>
        have HST := Lib.hid (HQ.out.more_end H.out.2.1 HBN.out hdn HE.out)
        clear hdn
        go_wp2
        go_ret
        exact ⟨false, rfl, fun h => by (cases h), fun _ => ⟨_, st, HQ.out.mv, next_of_more H.out.2.1.bad HST.out, _, _, _, _, HQ.out.pr H.out.2.2.1 H.out.2.1⟩⟩
      | true =>
        have HST := Lib.hid (HQ.out.body_in H.out.2.1 hdn)
        clear hdn
        go_wp2_with fail
        refine HDT.out.mono ?_
        rintro e Wx ⟨rfl, hWx⟩
        rw [hWx]
        clear hWx HDT
        go_wp2
        go_ret
        exact ⟨true, rfl, fun _ => HST.out, fun h => by (cases h)⟩
    have g1 : decide ((rd : Int) < (L : Int)) = true := decide_eq_true (by omega)
    refine take_at (i := 0) (d := some 10) (v := .pointer (some ⟨gp, 0, none⟩)) rfl (by kernel_rfl) (by kernel_rfl) (by kernel_rfl) (fun _ _ _ h => h) (fun oi ho => ?_) hSQ ?_
    · obtain rfl := Option.some.inj ho
      exact Or.inl ⟨by rfl, fun wx hSw => by go_simp⟩
    simp only [Act.put, List.setIfInBounds_toArray, List.set_cons_zero, List.set_cons_succ]
    refine take_at (i := 1) (d := some 11) (v := .pointer (some ⟨gp, 0, none⟩)) rfl (by kernel_rfl) (by kernel_rfl) (by kernel_rfl) (fun _ _ _ h => h) (fun oi ho => ?_) hSQ ?_
    · obtain rfl := Option.some.inj ho
      exact Or.inl ⟨by rfl, fun wx hSw => by go_simp⟩
    simp only [Act.put, List.setIfInBounds_toArray, List.set_cons_zero, List.set_cons_succ]
    refine take_at (i := 2) (d := some 12) (v := .pointer (some ⟨gp, 10, none⟩)) rfl (by kernel_rfl) (by kernel_rfl) (by kernel_rfl) (fun _ _ _ h => h) (fun oi ho => ?_) hSQ ?_
    · obtain rfl := Option.some.inj ho
      exact Or.inl ⟨by rfl, fun wx hSw => by go_simp⟩
    simp only [Act.put, List.setIfInBounds_toArray, List.set_cons_zero, List.set_cons_succ]
    refine take_at (i := 3) (d := some 13) (v := .int .i64 (rd : Int)) rfl (by kernel_rfl) (by kernel_rfl) (by kernel_rfl) (fun _ _ _ h => h) (fun oi ho => ?_) hSQ ?_
    · obtain rfl := Option.some.inj ho
      exact Or.inl ⟨by rfl, fun wx hSw => by obtain ⟨x0, x1, x2⟩ := hSw; go_simp⟩
    simp only [Act.put, List.setIfInBounds_toArray, List.set_cons_zero, List.set_cons_succ]
    refine take_at (i := 4) (d := some 14) (v := .pointer (some ⟨g, 0, none⟩)) rfl (by kernel_rfl) (by kernel_rfl) (by kernel_rfl) (fun _ _ _ h => h) (fun oi ho => ?_) hSQ ?_
    · obtain rfl := Option.some.inj ho
      exact Or.inl ⟨by rfl, fun wx hSw => by go_simp⟩
    simp only [Act.put, List.setIfInBounds_toArray, List.set_cons_zero, List.set_cons_succ]
    refine take_at (i := 5) (d := some 15) (v := .pointer (some ⟨g, 0, none⟩)) rfl (by kernel_rfl) (by kernel_rfl) (by kernel_rfl) (fun _ _ _ h => h) (fun oi ho => ?_) hSQ ?_
    · obtain rfl := Option.some.inj ho
      exact Or.inl ⟨by rfl, fun wx hSw => by go_simp⟩
    simp only [Act.put, List.setIfInBounds_toArray, List.set_cons_zero, List.set_cons_succ]
    refine take_at (i := 6) (d := some 16) (v := .pointer (some ⟨g, 0, none⟩)) rfl (by kernel_rfl) (by kernel_rfl) (by kernel_rfl) (fun _ _ _ h => h) (fun oi ho => ?_) hSQ ?_
    · obtain rfl := Option.some.inj ho
      exact Or.inl ⟨by rfl, fun wx hSw => by go_simp⟩
    simp only [Act.put, List.setIfInBounds_toArray, List.set_cons_zero, List.set_cons_succ]
    refine take_at (i := 7) (d := some 17) (v := v) rfl (by kernel_rfl) (by kernel_rfl) (by kernel_rfl) (fun _ _ _ h => h) (fun oi ho => ?_) hSQ ?_
    · obtain rfl := Option.some.inj ho
      exact Or.inl ⟨by rfl, fun wx hSw => by obtain ⟨x0, x1, x2⟩ := hSw; go_simp⟩
    simp only [Act.put, List.setIfInBounds_toArray, List.set_cons_zero, List.set_cons_succ]
    refine take_at (i := 8) (d := some 18) (v := .int .i64 (L : Int)) rfl (by kernel_rfl) (by kernel_rfl) (by kernel_rfl) (fun _ _ _ h => h) (fun oi ho => ?_) hSQ ?_
    · obtain rfl := Option.some.inj ho
      exact Or.inl ⟨by rfl, fun wx hSw => by go_simp⟩
    simp only [Act.put, List.setIfInBounds_toArray, List.set_cons_zero, List.set_cons_succ]
    refine take_at (i := 9) (d := some 19) (v := .bool true) rfl (by kernel_rfl) (by kernel_rfl) (by kernel_rfl) (fun _ _ _ h => h) (fun oi ho => ?_) hSQ ?_
    · obtain rfl := Option.some.inj ho
      exact Or.inl ⟨by rfl, fun wx hSw => by go_simp⟩
    simp only [Act.put, List.setIfInBounds_toArray, List.set_cons_zero, List.set_cons_succ]
    refine take_at (i := 10) (d := some 20) (v := .bool true) rfl (by kernel_rfl) (by kernel_rfl) (by kernel_rfl) (fun _ _ _ h => h) (fun oi ho => ?_) hSQ ?_
    · obtain rfl := Option.some.inj ho
      exact Or.inl ⟨by rfl, fun wx hSw => by go_simp⟩
    simp only [Act.put, List.setIfInBounds_toArray, List.set_cons_zero, List.set_cons_succ]
    refine take_at (i := 11) (d := some 21) (v := .pointer (some ⟨gp, 0, none⟩)) rfl (by kernel_rfl) (by kernel_rfl) (by kernel_rfl) (fun _ _ _ h => h) (fun oi ho => ?_) hSQ ?_
    · obtain rfl := Option.some.inj ho
      exact Or.inl ⟨by rfl, fun wx hSw => by go_simp⟩
    simp only [Act.put, List.setIfInBounds_toArray, List.set_cons_zero, List.set_cons_succ]
    refine take_at (i := 12) (d := some 22) (v := .pointer (some ⟨gp, 0, none⟩)) rfl (by kernel_rfl) (by kernel_rfl) (by kernel_rfl) (fun _ _ _ h => h) (fun oi ho => ?_) hSQ ?_
    · obtain rfl := Option.some.inj ho
      exact Or.inl ⟨by rfl, fun wx hSw => by go_simp⟩
    simp only [Act.put, List.setIfInBounds_toArray, List.set_cons_zero, List.set_cons_succ]
    refine take_at (i := 13) (d := some 23) (v := .pointer (some ⟨gp, 9, none⟩)) rfl (by kernel_rfl) (by kernel_rfl) (by kernel_rfl) (fun _ _ _ h => h) (fun oi ho => ?_) hSQ ?_
    · obtain rfl := Option.some.inj ho
      exact Or.inl ⟨by rfl, fun wx hSw => by go_simp⟩
    simp only [Act.put, List.setIfInBounds_toArray, List.set_cons_zero, List.set_cons_succ]
    refine take_at (i := 14) (d := some 24) (v := .pointer (some ⟨gc, 0, none⟩)) rfl (by kernel_rfl) (by kernel_rfl) (by kernel_rfl) (fun _ _ _ h => h) (fun oi ho => ?_) hSQ ?_
    · obtain rfl := Option.some.inj ho
      exact Or.inl ⟨by rfl, fun wx hSw => by obtain ⟨x0, x1, x2⟩ := hSw; go_simp⟩
    simp only [Act.put, List.setIfInBounds_toArray, List.set_cons_zero, List.set_cons_succ]
    refine ready_call (i := 15) (d := some 25) (f := 80) (args := #[.pointer (some ⟨gc, 0, none⟩)]) rfl (by kernel_rfl) (fun oi ho => ?_) ?_
    · obtain rfl := Option.some.inj ho
      exact ⟨by rfl, by go_simp⟩
    refine (H.out.2.2.2.1.done HQ.out.rc).mono ?_
    rintro e Wx ⟨rfl, hWx⟩
    rw [hWx]
    clear hWx
    refine ⟨_, rfl, hSQ, ?_⟩
    simp only [Act.put, List.setIfInBounds_toArray, List.set_cons_zero, List.set_cons_succ]
    cases hdn : cst.isDone with
    | true =>
      have HE : Hid (rd = st.buf.length ∨ cst.isDone = true ∨ cst.badN ≠ 0) := Lib.hid (.inr (.inl hdn))
      clear hdn
      refine take_at (i := 16) (d := some 26) (v := .bool false) rfl (by kernel_rfl) (by kernel_rfl) (by kernel_rfl) (fun _ _ _ h => h) (fun oi ho => ?_) hSQ ?_
      · obtain rfl := Option.some.inj ho
        exact Or.inl ⟨by rfl, fun wx hSw => by go_simp⟩
      simp only [Act.put, List.setIfInBounds_toArray, List.set_cons_zero, List.set_cons_succ]
      refine take_at (i := 17) (d := some 27) (v := .bool false) rfl (by kernel_rfl) (by kernel_rfl) (by kernel_rfl) (fun _ _ _ h => h) (fun oi ho => ?_) hSQ ?_
      · obtain rfl := Option.some.inj ho
        exact Or.inl ⟨by rfl, fun wx hSw => by go_simp⟩
      simp only [Act.put, List.setIfInBounds_toArray, List.set_cons_zero, List.set_cons_succ]
      refine take_at (i := 18) (d := some 28) (v := .bool false) rfl (by kernel_rfl) (by kernel_rfl) (by kernel_rfl) (fun _ _ _ h => h) (fun oi ho => ?_) hSQ ?_
      · obtain rfl := Option.some.inj ho
        exact Or.inl ⟨by rfl, fun wx hSw => by go_simp⟩
      simp only [Act.put, List.setIfInBounds_toArray, List.set_cons_zero, List.set_cons_succ]
      refine take_at (i := 19) (d := some 29) (v := undef) rfl (by kernel_rfl) (by kernel_rfl) (by kernel_rfl) (fun _ _ _ h => h) (fun oi ho => ?_) hSQ ?_
      · obtain rfl := Option.some.inj ho
        exact Or.inr ⟨by rfl, rfl⟩
      simp only [Act.put, List.setIfInBounds_toArray, List.set_cons_zero, List.set_cons_succ]
      refine take_at (i := 20) (d := some 30) (v := undef) rfl (by kernel_rfl) (by kernel_rfl) (by kernel_rfl) (fun _ _ _ h => h) (fun oi ho => ?_) hSQ ?_
      · obtain rfl := Option.some.inj ho
        exact Or.inr ⟨by rfl, rfl⟩
      simp only [Act.put, List.setIfInBounds_toArray, List.set_cons_zero, List.set_cons_succ]
      refine take_at (i := 21) (d := some 31) (v := undef) rfl (by kernel_rfl) (by kernel_rfl) (by kernel_rfl) (fun _ _ _ h => h) (fun oi ho => ?_) hSQ ?_
      · obtain rfl := Option.some.inj ho
        exact Or.inr ⟨by rfl, rfl⟩
      simp only [Act.put, List.setIfInBounds_toArray, List.set_cons_zero, List.set_cons_succ]
      refine take_at (i := 22) (d := some 32) (v := undef) rfl (by kernel_rfl) (by kernel_rfl) (by kernel_rfl) (fun _ _ _ h => h) (fun oi ho => ?_) hSQ ?_
      · obtain rfl := Option.some.inj ho
        exact Or.inr ⟨by rfl, rfl⟩
      simp only [Act.put, List.setIfInBounds_toArray, List.set_cons_zero, List.set_cons_succ]
      refine take_at (i := 23) (d := some 33) (v := undef) rfl (by kernel_rfl) (by kernel_rfl) (by kernel_rfl) (fun _ _ _ h => h) (fun oi ho => ?_) hSQ ?_
      · obtain rfl := Option.some.inj ho
        exact Or.inr ⟨by rfl, rfl⟩
      simp only [Act.put, List.setIfInBounds_toArray, List.set_cons_zero, List.set_cons_succ]
      refine take_at (i := 24) (d := some 34) (v := undef) rfl (by kernel_rfl) (by kernel_rfl) (by kernel_rfl) (fun _ _ _ h => h) (fun oi ho => ?_) hSQ ?_
      · obtain rfl := Option.some.inj ho
        exact Or.inr ⟨by rfl, rfl⟩
      simp only [Act.put, List.setIfInBounds_toArray, List.set_cons_zero, List.set_cons_succ]
      refine take_at (i := 25) (d := some 35) (v := .bool false) rfl (by kernel_rfl) (by kernel_rfl) (by kernel_rfl) (fun _ _ _ h => h) (fun oi ho => ?_) hSQ ?_
      · obtain rfl := Option.some.inj ho
        exact Or.inl ⟨by rfl, fun wx hSw => by go_simp⟩
      simp only [Act.put, List.setIfInBounds_toArray, List.set_cons_zero, List.set_cons_succ]
      refine wpAnyH_done (by kernel_rfl) ?_ _
      refine NoPanic.normal ?_
      clear hSQ
      have e9 := HQ.out.cells.2.1
      have e5 := HQ.out.cells.2.2.1
      have ef5 := HQ.out.cells.2.2.2.2.2.1
      have HBD := Lib.hid (H.out.2.2.2.1.bad HQ.out.rc)
      have HDN := Lib.hid (H.out.2.2.2.1.done HQ.out.rc)
      have HDT := Lib.hid (H.out.2.2.2.1.data HQ.out.rc)
      go_wp2_with fail
      refine HBD.out.mono ?_
      rintro e Wx ⟨rfl, hWx⟩
      rw [hWx]
      clear hWx HBD
      by_cases hbn : cst.badN = 0
      case neg =>
        have p0 : ((cst.badN : Int) == 0) = false := by rw [beq_eq_false_iff_ne]; omega
        have p1 : ((cst.badN : Int) != 0) = true := by rw [bne_iff_ne]; omega
        have HST := Lib.hid (HQ.out.bad_end H.out.2.1 hbn)
        have HFL := Lib.hid (pfail_any cst.badN (⟨_, _, _, _, HQ.out.pr H.out.2.2.1 H.out.2.1⟩ : RP0 RC Wq _ g st))
        clear hbn
        go_wp2_with fail
        refine HFL.out.mono ?_
        rintro e W3 ⟨rfl, F', hp, hmv⟩
        have H3 := Lib.hid (And.intro hp hmv)
        clear hp hmv
        go_wp2
        go_ret
        exact ⟨false, rfl, fun h => by (cases h), fun _ => ⟨F', _, HQ.out.mv.trans H3.out.2, next_of_bad H.out.2.1.bad HST.out, H3.out.1⟩⟩
      have p0 : ((cst.badN : Int) == 0) = true := by rw [beq_iff_eq]; omega
      have p1 : ((cst.badN : Int) != 0) = false := by rw [bne_eq_false_iff_eq]; omega
      have HBN := Lib.hid hbn
      clear hbn
      go_wp2_with fail
      refine HDN.out.mono ?_
      rintro e Wx ⟨rfl, hWx⟩
      rw [hWx]
      clear hWx HDN
      cases hdn : cst.isDone with
      | false =>
        have HST := Lib.hid (HQ.out.more_end H.out.2.1 HBN.out hdn HE.out)
        clear hdn
        go_wp2
        go_ret
        exact ⟨false, rfl, fun h => by (cases h), fun _ => ⟨_, st, HQ.out.mv, next_of_more H.out.2.1.bad HST.out, _, _, _, _, HQ.out.pr H.out.2.2.1 H.out.2.1⟩⟩
      | true =>
        have HST := Lib.hid (HQ.out.body_in H.out.2.1 hdn)
        clear hdn
        go_wp2_with fail
        refine HDT.out.mono ?_
        rintro e Wx ⟨rfl, hWx⟩
        rw [hWx]
        clear hWx HDT
        go_wp2
        go_ret
        exact ⟨true, rfl, fun _ => HST.out, fun h => by (cases h)⟩
    | false =>
    refine take_at (i := 16) (d := some 26) (v := .bool true) rfl (by kernel_rfl) (by kernel_rfl) (by kernel_rfl) (fun _ _ _ h => h) (fun oi ho => ?_) hSQ ?_
    · obtain rfl := Option.some.inj ho
      exact Or.inl ⟨by rfl, fun wx hSw => by go_simp⟩
    simp only [Act.put, List.setIfInBounds_toArray, List.set_cons_zero, List.set_cons_succ]
    refine take_at (i := 17) (d := some 27) (v := .bool true) rfl (by kernel_rfl) (by kernel_rfl) (by kernel_rfl) (fun _ _ _ h => h) (fun oi ho => ?_) hSQ ?_
    · obtain rfl := Option.some.inj ho
      exact Or.inl ⟨by rfl, fun wx hSw => by go_simp⟩
    simp only [Act.put, List.setIfInBounds_toArray, List.set_cons_zero, List.set_cons_succ]
    refine take_at (i := 18) (d := some 28) (v := .bool true) rfl (by kernel_rfl) (by kernel_rfl) (by kernel_rfl) (fun _ _ _ h => h) (fun oi ho => ?_) hSQ ?_
    · obtain rfl := Option.some.inj ho
      exact Or.inl ⟨by rfl, fun wx hSw => by go_simp⟩
    simp only [Act.put, List.setIfInBounds_toArray, List.set_cons_zero, List.set_cons_succ]
    refine take_at (i := 19) (d := some 29) (v := .pointer (some ⟨gp, 0, none⟩)) rfl (by kernel_rfl) (by kernel_rfl) (by kernel_rfl) (fun _ _ _ h => h) (fun oi ho => ?_) hSQ ?_
    · obtain rfl := Option.some.inj ho
      exact Or.inl ⟨by rfl, fun wx hSw => by go_simp⟩
    simp only [Act.put, List.setIfInBounds_toArray, List.set_cons_zero, List.set_cons_succ]
    refine take_at (i := 20) (d := some 30) (v := .pointer (some ⟨gp, 0, none⟩)) rfl (by kernel_rfl) (by kernel_rfl) (by kernel_rfl) (fun _ _ _ h => h) (fun oi ho => ?_) hSQ ?_
    · obtain rfl := Option.some.inj ho
      exact Or.inl ⟨by rfl, fun wx hSw => by go_simp⟩
    simp only [Act.put, List.setIfInBounds_toArray, List.set_cons_zero, List.set_cons_succ]
    refine take_at (i := 21) (d := some 31) (v := .pointer (some ⟨gp, 9, none⟩)) rfl (by kernel_rfl) (by kernel_rfl) (by kernel_rfl) (fun _ _ _ h => h) (fun oi ho => ?_) hSQ ?_
    · obtain rfl := Option.some.inj ho
      exact Or.inl ⟨by rfl, fun wx hSw => by go_simp⟩
    simp only [Act.put, List.setIfInBounds_toArray, List.set_cons_zero, List.set_cons_succ]
    refine take_at (i := 22) (d := some 32) (v := .pointer (some ⟨gc, 0, none⟩)) rfl (by kernel_rfl) (by kernel_rfl) (by kernel_rfl) (fun _ _ _ h => h) (fun oi ho => ?_) hSQ ?_
    · obtain rfl := Option.some.inj ho
      exact Or.inl ⟨by rfl, fun wx hSw => by obtain ⟨x0, x1, x2⟩ := hSw; go_simp⟩
    simp only [Act.put, List.setIfInBounds_toArray, List.set_cons_zero, List.set_cons_succ]
    refine ready_call (i := 23) (d := some 33) (f := 81) (args := #[.pointer (some ⟨gc, 0, none⟩)]) rfl (by kernel_rfl) (fun oi ho => ?_) ?_
    · obtain rfl := Option.some.inj ho
      exact ⟨by rfl, by go_simp⟩
    refine (H.out.2.2.2.1.bad HQ.out.rc).mono ?_
    rintro e Wx ⟨rfl, hWx⟩
    rw [hWx]
    clear hWx
    refine ⟨_, rfl, hSQ, ?_⟩
    simp only [Act.put, List.setIfInBounds_toArray, List.set_cons_zero, List.set_cons_succ]
    by_cases hbn : cst.badN = 0
    case neg =>
      have p2 : ((cst.badN : Int) == 0) = false := by rw [beq_eq_false_iff_ne]; omega
      have HE : Hid (rd = st.buf.length ∨ cst.isDone = true ∨ cst.badN ≠ 0) := Lib.hid (.inr (.inr hbn))
      clear hbn hdn
      refine take_at (i := 24) (d := some 34) (v := .bool false) rfl (by kernel_rfl) (by kernel_rfl) (by kernel_rfl) (fun _ _ _ h => h) (fun oi ho => ?_) hSQ ?_
      · obtain rfl := Option.some.inj ho
        exact Or.inl ⟨by rfl, fun wx hSw => by go_simp⟩
      simp only [Act.put, List.setIfInBounds_toArray, List.set_cons_zero, List.set_cons_succ]
      refine take_at (i := 25) (d := some 35) (v := .bool false) rfl (by kernel_rfl) (by kernel_rfl) (by kernel_rfl) (fun _ _ _ h => h) (fun oi ho => ?_) hSQ ?_
      · obtain rfl := Option.some.inj ho
        exact Or.inl ⟨by rfl, fun wx hSw => by go_simp⟩
      simp only [Act.put, List.setIfInBounds_toArray, List.set_cons_zero, List.set_cons_succ]
      refine wpAnyH_done (by kernel_rfl) ?_ _
      refine NoPanic.normal ?_
      clear hSQ p2
      have e9 := HQ.out.cells.2.1
      have e5 := HQ.out.cells.2.2.1
      have ef5 := HQ.out.cells.2.2.2.2.2.1
      have HBD := Lib.hid (H.out.2.2.2.1.bad HQ.out.rc)
      have HDN := Lib.hid (H.out.2.2.2.1.done HQ.out.rc)
      have HDT := Lib.hid (H.out.2.2.2.1.data HQ.out.rc)
      go_wp2_with fail
      refine HBD.out.mono ?_
      rintro e Wx ⟨rfl, hWx⟩
      rw [hWx]
      clear hWx HBD
      by_cases hbn : cst.badN = 0
      case neg =>
        have p0 : ((cst.badN : Int) == 0) = false := by rw [beq_eq_false_iff_ne]; omega
        have p1 : ((cst.badN : Int) != 0) = true := by rw [bne_iff_ne]; omega
        have HST := Lib.hid (HQ.out.bad_end H.out.2.1 hbn)
        have HFL := Lib.hid (pfail_any cst.badN (⟨_, _, _, _, HQ.out.pr H.out.2.2.1 H.out.2.1⟩ : RP0 RC Wq _ g st))
        clear hbn
        go_wp2_with fail
        refine HFL.out.mono ?_
        rintro e W3 ⟨rfl, F', hp, hmv⟩
        have H3 := Lib.hid (And.intro hp hmv)
        clear hp hmv
        go_wp2
        go_ret
        exact ⟨false, rfl, fun h => by (cases h), fun _ => ⟨F', _, HQ.out.mv.trans H3.out.2, next_of_bad H.out.2.1.bad HST.out, H3.out.1⟩⟩
      have p0 : ((cst.badN : Int) == 0) = true := by rw [beq_iff_eq]; omega
      have p1 : ((cst.badN : Int) != 0) = false := by rw [bne_eq_false_iff_eq]; omega
      have HBN := Lib.hid hbn
      clear hbn
      go_wp2_with fail
      refine HDN.out.mono ?_
      rintro e Wx ⟨rfl, hWx⟩
      rw [hWx]
      clear hWx HDN
      cases hdn : cst.isDone with
      | false =>
        have HST := Lib.hid (HQ.out.more_end H.out.2.1 HBN.out hdn HE.out)
        clear hdn
        go_wp2
        go_ret
        exact ⟨false, rfl, fun h => by (cases h), fun _ => ⟨_, st, HQ.out.mv, next_of_more H.out.2.1.bad HST.out, _, _, _, _, HQ.out.pr H.out.2.2.1 H.out.2.1⟩⟩
      | true =>
        have HST := Lib.hid (HQ.out.body_in H.out.2.1 hdn)
        clear hdn
        go_wp2_with fail
        refine HDT.out.mono ?_
        rintro e Wx ⟨rfl, hWx⟩
        rw [hWx]
        clear hWx HDT
        go_wp2
        go_ret
        exact ⟨true, rfl, fun _ => HST.out, fun h => by (cases h)⟩
    have p2 : ((cst.badN : Int) == 0) = true := by rw [beq_iff_eq]; omega
    have HNS : Hid (cst.stop = false) := Lib.hid (by
      rw [Bool.eq_false_iff]
      intro hs
      rcases (stop_iff HQ.out.fine).1 hs with e | e
      · rw [hdn] at e; cases e
      · exact e hbn)
    clear hbn hdn
    refine take_at (i := 24) (d := some 34) (v := .bool true) rfl (by kernel_rfl) (by kernel_rfl) (by kernel_rfl) (fun _ _ _ h => h) (fun oi ho => ?_) hSQ ?_
    · obtain rfl := Option.some.inj ho
      exact Or.inl ⟨by rfl, fun wx hSw => by go_simp⟩
    simp only [Act.put, List.setIfInBounds_toArray, List.set_cons_zero, List.set_cons_succ]
    refine take_at (i := 25) (d := some 35) (v := .bool true) rfl (by kernel_rfl) (by kernel_rfl) (by kernel_rfl) (fun _ _ _ h => h) (fun oi ho => ?_) hSQ ?_
    · obtain rfl := Option.some.inj ho
      exact Or.inl ⟨by rfl, fun wx hSw => by go_simp⟩
    simp only [Act.put, List.setIfInBounds_toArray, List.set_cons_zero, List.set_cons_succ]
    refine wpAnyH_done (by kernel_rfl) ?_ _
    refine NoPanic.normal ?_
    clear hSQ p2
    obtain ⟨en, hen⟩ : ∃ en, en = min (rd + 4096) L := ⟨_, rfl⟩
    have HEN : Hid (rd < en ∧ en ≤ L) := Lib.hid (by omega)
    have hw4 : IntKind.i64.wrap ((rd : Int) + 4096) = (rd : Int) + 4096 := by rw [IntKind.wrap_i64]; omega
    have hmn : ∀ w, (Builtin.min_ #[3, 3] 3 #[.int .i64 ((rd : Int) + 4096), .int .i64 (L : Int)]).run Tryz.prog w = .ok (.int .i64 (en : Int)) w := fun w => by
      rw [run_min_int2, hen]
      congr 2
      split <;> omega
    have HLT := Lib.hid (And.intro hlt (And.intro hrl hro))
    clear hen hlt hrl hro g1
    go_wp2
    obtain ⟨Wa, hWa⟩ : ∃ Wa, Wa = Wq.drew := ⟨_, rfl⟩
    have hBa : Below Wq.heap.size Wq Wa := by rw [hWa]; exact ⟨rfl, rfl, rfl, Nat.le_refl _, fun _ _ => rfl⟩
    have ha := HQ.out.below H.out.2.2.1 hBa
    have hSQ : Wa.cell? ⟨gp, 10, none⟩ = some (.int .i64 (rd : Int)) ∧ Wa.cell? ⟨g, 0, none⟩ = some v ∧ Wa.cell? ⟨gp, 9, none⟩ = some (.pointer (some ⟨gc, 0, none⟩)) := ⟨ha.cells.1, ha.cells.2.2.2.1, ha.cells.2.1⟩
    have HA := Lib.hid ha
    clear ha hBa HQ
    refine wp_region_noPanic ?_
    refine wp_region_held_drew (S := fun W => W.cell? ⟨gp, 10, none⟩ = some (.int .i64 (rd : Int)) ∧ W.cell? ⟨g, 0, none⟩ = some v ∧ W.cell? ⟨gp, 9, none⟩ = some (.pointer (some ⟨gc, 0, none⟩))) (by kernel_rfl) (by rw [← hWa]; exact hSQ) (fun _ => ?_)
    rw [← hWa]
    clear hWa
    refine take_at (i := 0) (d := some 36) (v := .pointer (some ⟨gp, 0, none⟩)) rfl (by kernel_rfl) (by kernel_rfl) (by kernel_rfl) (fun _ _ _ h => h) (fun oi ho => ?_) hSQ ?_
    · obtain rfl := Option.some.inj ho
      exact Or.inl ⟨by rfl, fun wx hSw => by go_simp⟩
    simp only [Act.put, List.setIfInBounds_toArray, List.set_cons_zero, List.set_cons_succ]
    refine take_at (i := 1) (d := some 37) (v := .pointer (some ⟨gp, 0, none⟩)) rfl (by kernel_rfl) (by kernel_rfl) (by kernel_rfl) (fun _ _ _ h => h) (fun oi ho => ?_) hSQ ?_
    · obtain rfl := Option.some.inj ho
      exact Or.inl ⟨by rfl, fun wx hSw => by go_simp⟩
    simp only [Act.put, List.setIfInBounds_toArray, List.set_cons_zero, List.set_cons_succ]
    refine take_at (i := 2) (d := some 38) (v := .pointer (some ⟨gp, 10, none⟩)) rfl (by kernel_rfl) (by kernel_rfl) (by kernel_rfl) (fun _ _ _ h => h) (fun oi ho => ?_) hSQ ?_
    · obtain rfl := Option.some.inj ho
      exact Or.inl ⟨by rfl, fun wx hSw => by go_simp⟩
    simp only [Act.put, List.setIfInBounds_toArray, List.set_cons_zero, List.set_cons_succ]
    refine take_at (i := 3) (d := some 39) (v := .int .i64 (rd : Int)) rfl (by kernel_rfl) (by kernel_rfl) (by kernel_rfl) (fun _ _ _ h => h) (fun oi ho => ?_) hSQ ?_
    · obtain rfl := Option.some.inj ho
      exact Or.inl ⟨by rfl, fun wx hSw => by obtain ⟨x0, x1, x2⟩ := hSw; go_simp⟩
    simp only [Act.put, List.setIfInBounds_toArray, List.set_cons_zero, List.set_cons_succ]
    refine take_at (i := 4) (d := some 40) (v := .int .i64 ((rd : Int) + 4096)) rfl (by kernel_rfl) (by kernel_rfl) (by kernel_rfl) (fun _ _ _ h => h) (fun oi ho => ?_) hSQ ?_
    · obtain rfl := Option.some.inj ho
      exact Or.inl ⟨by rfl, fun wx hSw => by go_simp⟩
    simp only [Act.put, List.setIfInBounds_toArray, List.set_cons_zero, List.set_cons_succ]
    refine take_at (i := 5) (d := some 41) (v := .pointer (some ⟨g, 0, none⟩)) rfl (by kernel_rfl) (by kernel_rfl) (by kernel_rfl) (fun _ _ _ h => h) (fun oi ho => ?_) hSQ ?_
    · obtain rfl := Option.some.inj ho
      exact Or.inl ⟨by rfl, fun wx hSw => by go_simp⟩
    simp only [Act.put, List.setIfInBounds_toArray, List.set_cons_zero, List.set_cons_succ]
    refine take_at (i := 6) (d := some 42) (v := .pointer (some ⟨g, 0, none⟩)) rfl (by kernel_rfl) (by kernel_rfl) (by kernel_rfl) (fun _ _ _ h => h) (fun oi ho => ?_) hSQ ?_
    · obtain rfl := Option.some.inj ho
      exact Or.inl ⟨by rfl, fun wx hSw => by go_simp⟩
    simp only [Act.put, List.setIfInBounds_toArray, List.set_cons_zero, List.set_cons_succ]
    refine take_at (i := 7) (d := some 43) (v := .pointer (some ⟨g, 0, none⟩)) rfl (by kernel_rfl) (by kernel_rfl) (by kernel_rfl) (fun _ _ _ h => h) (fun oi ho => ?_) hSQ ?_
    · obtain rfl := Option.some.inj ho
      exact Or.inl ⟨by rfl, fun wx hSw => by go_simp⟩
    simp only [Act.put, List.setIfInBounds_toArray, List.set_cons_zero, List.set_cons_succ]
    refine take_at (i := 8) (d := some 44) (v := v) rfl (by kernel_rfl) (by kernel_rfl) (by kernel_rfl) (fun _ _ _ h => h) (fun oi ho => ?_) hSQ ?_
    · obtain rfl := Option.some.inj ho
      exact Or.inl ⟨by rfl, fun wx hSw => by obtain ⟨x0, x1, x2⟩ := hSw; go_simp⟩
    simp only [Act.put, List.setIfInBounds_toArray, List.set_cons_zero, List.set_cons_succ]
    refine take_at (i := 9) (d := some 45) (v := .int .i64 (L : Int)) rfl (by kernel_rfl) (by kernel_rfl) (by kernel_rfl) (fun _ _ _ h => h) (fun oi ho => ?_) hSQ ?_
    · obtain rfl := Option.some.inj ho
      exact Or.inl ⟨by rfl, fun wx hSw => by go_simp⟩
    simp only [Act.put, List.setIfInBounds_toArray, List.set_cons_zero, List.set_cons_succ]
    refine take_at (i := 10) (d := some 46) (v := .int .i64 (en : Int)) rfl (by kernel_rfl) (by kernel_rfl) (by kernel_rfl) (fun _ _ _ h => h) (fun oi ho => ?_) hSQ ?_
    · obtain rfl := Option.some.inj ho
      exact Or.inl ⟨by rfl, fun wx hSw => by go_simp⟩
    simp only [Act.put, List.setIfInBounds_toArray, List.set_cons_zero, List.set_cons_succ]
    refine ready_value (i := 11) (d := some 4) (v := .int .i64 (en : Int)) (w' := Wa) rfl (by kernel_rfl) (fun oi ho => ?_) hSQ ?_
    · obtain rfl := Option.some.inj ho
      exact ⟨by rfl, by go_simp⟩
    simp only [Act.put, List.setIfInBounds_toArray, List.set_cons_zero, List.set_cons_succ]
    refine wpAnyH_done (by kernel_rfl) ?_ _
    refine NoPanic.normal ?_
    clear hSQ
    clear hw4 hmn
    obtain ⟨V2, hs2, hV2⟩ := HA.out.wait.toV.mid rd en (by have := HEN.out; omega) (by have := HEN.out; have := H.out.2.2.2.2; omega)
    obtain ⟨y, hy⟩ : ∃ y, y = (st.buf.drop rd).take (en - rd) := ⟨_, rfl⟩
    rw [← hy] at hV2
    have hyl : y.length = en - rd := by rw [hy, List.length_take, List.length_drop]; have := HEN.out; have := H.out.2.2.2.2; omega
    obtain ⟨⟨j, cst'⟩, hrun⟩ : ∃ x, cst.run y = x := ⟨_, rfl⟩
    have hj : 1 ≤ j ∧ rd + j ≤ L := by
      have h1 := run_le y cst
      rw [hrun] at h1
      dsimp only at h1
      refine ⟨?_, by have := HEN.out; omega⟩
      cases hyy : y with
      | nil => rw [hyy] at hyl; simp at hyl; have := HEN.out; omega
      | cons c t =>
        rw [hyy, run_cons HNS.out] at hrun
        cases hrun
        omega
    have hwj : IntKind.i64.wrap ((rd : Int) + (j : Int)) = ((rd + j : Nat) : Int) := by rw [IntKind.wrap_i64]; omega
    obtain ⟨Wb, hWb⟩ : ∃ Wb, Wb = Wa.drew := ⟨_, rfl⟩
    have hBb : Below Wa.heap.size Wa Wb := by rw [hWb]; exact ⟨rfl, rfl, rfl, Nat.le_refl _, fun _ _ => rfl⟩
    have hb := HA.out.below H.out.2.2.1 hBb
    have htx := (hV2.below hBb).text
    have l10 : Wb.cell? ⟨gp, 10, none⟩ = some (.int .i64 (rd : Int)) := hb.cells.1
    have hSQ : Wb.cell? ⟨g, 0, none⟩ = some v ∧ Wb.cell? ⟨gp, 9, none⟩ = some (.pointer (some ⟨gc, 0, none⟩)) := ⟨hb.cells.2.2.2.1, hb.cells.2.1⟩
    have HFD : Hid (Calls Tryz.prog 82 #[.pointer (some ⟨gc, 0, none⟩), S y] Wb fun e w' => e = .returned (.int .i64 (j : Int)) ∧ ∃ F', RC w' F' gc cst' ∧ Moves Fc F' Wb w') := Lib.hid (by
      have := H.out.2.2.1.feed y hb.rc (by have := HEN.out; omega)
      rw [hrun] at this
      exact this)
    have HRN : Hid (cst.run ((st.buf.drop rd).take (en - rd)) = (j, cst')) := Lib.hid (by rw [← hy]; exact hrun)
    have HBB := Lib.hid (And.intro hb hj)
    clear hb hBb HA hV2 hy hyl hrun hj
    go_wp2
    refine wp_region_noPanic ?_
    refine wp_region_held_drew (S := fun W => W.cell? ⟨g, 0, none⟩ = some v ∧ W.cell? ⟨gp, 9, none⟩ = some (.pointer (some ⟨gc, 0, none⟩))) (by kernel_rfl) (by rw [← hWb]; exact hSQ) (fun _ => ?_)
    rw [← hWb]
    clear hWb
    refine take_at (i := 0) (d := some 47) (v := .pointer (some ⟨gp, 0, none⟩)) rfl (by kernel_rfl) (by kernel_rfl) (by kernel_rfl) (fun _ _ _ h => h) (fun oi ho => ?_) hSQ ?_
    · obtain rfl := Option.some.inj ho
      exact Or.inl ⟨by rfl, fun wx hSw => by go_simp⟩
    simp only [Act.put, List.setIfInBounds_toArray, List.set_cons_zero, List.set_cons_succ]
    refine take_at (i := 1) (d := some 48) (v := .pointer (some ⟨gp, 0, none⟩)) rfl (by kernel_rfl) (by kernel_rfl) (by kernel_rfl) (fun _ _ _ h => h) (fun oi ho => ?_) hSQ ?_
    · obtain rfl := Option.some.inj ho
      exact Or.inl ⟨by rfl, fun wx hSw => by go_simp⟩
    simp only [Act.put, List.setIfInBounds_toArray, List.set_cons_zero, List.set_cons_succ]
    refine take_at (i := 2) (d := some 49) (v := .pointer (some ⟨gp, 10, none⟩)) rfl (by kernel_rfl) (by kernel_rfl) (by kernel_rfl) (fun _ _ _ h => h) (fun oi ho => ?_) hSQ ?_
    · obtain rfl := Option.some.inj ho
      exact Or.inl ⟨by rfl, fun wx hSw => by go_simp⟩
    simp only [Act.put, List.setIfInBounds_toArray, List.set_cons_zero, List.set_cons_succ]
    refine take_at (i := 4) (d := some 51) (v := .pointer (some ⟨gp, 0, none⟩)) rfl (by kernel_rfl) (by kernel_rfl) (by kernel_rfl) (fun _ _ _ h => h) (fun oi ho => ?_) hSQ ?_
    · obtain rfl := Option.some.inj ho
      exact Or.inl ⟨by rfl, fun wx hSw => by go_simp⟩
    simp only [Act.put, List.setIfInBounds_toArray, List.set_cons_zero, List.set_cons_succ]
    refine take_at (i := 5) (d := some 52) (v := .pointer (some ⟨gp, 0, none⟩)) rfl (by kernel_rfl) (by kernel_rfl) (by kernel_rfl) (fun _ _ _ h => h) (fun oi ho => ?_) hSQ ?_
    · obtain rfl := Option.some.inj ho
      exact Or.inl ⟨by rfl, fun wx hSw => by go_simp⟩
    simp only [Act.put, List.setIfInBounds_toArray, List.set_cons_zero, List.set_cons_succ]
    refine take_at (i := 6) (d := some 53) (v := .pointer (some ⟨gp, 9, none⟩)) rfl (by kernel_rfl) (by kernel_rfl) (by kernel_rfl) (fun _ _ _ h => h) (fun oi ho => ?_) hSQ ?_
    · obtain rfl := Option.some.inj ho
      exact Or.inl ⟨by rfl, fun wx hSw => by go_simp⟩
    simp only [Act.put, List.setIfInBounds_toArray, List.set_cons_zero, List.set_cons_succ]
    refine take_at (i := 7) (d := some 54) (v := .pointer (some ⟨gc, 0, none⟩)) rfl (by kernel_rfl) (by kernel_rfl) (by kernel_rfl) (fun _ _ _ h => h) (fun oi ho => ?_) hSQ ?_
    · obtain rfl := Option.some.inj ho
      exact Or.inl ⟨by rfl, fun wx hSw => by obtain ⟨x1, x2⟩ := hSw; go_simp⟩
    simp only [Act.put, List.setIfInBounds_toArray, List.set_cons_zero, List.set_cons_succ]
    refine take_at (i := 8) (d := some 55) (v := .pointer (some ⟨g, 0, none⟩)) rfl (by kernel_rfl) (by kernel_rfl) (by kernel_rfl) (fun _ _ _ h => h) (fun oi ho => ?_) hSQ ?_
    · obtain rfl := Option.some.inj ho
      exact Or.inl ⟨by rfl, fun wx hSw => by go_simp⟩
    simp only [Act.put, List.setIfInBounds_toArray, List.set_cons_zero, List.set_cons_succ]
    refine take_at (i := 9) (d := some 56) (v := .pointer (some ⟨g, 0, none⟩)) rfl (by kernel_rfl) (by kernel_rfl) (by kernel_rfl) (fun _ _ _ h => h) (fun oi ho => ?_) hSQ ?_
    · obtain rfl := Option.some.inj ho
      exact Or.inl ⟨by rfl, fun wx hSw => by go_simp⟩
    simp only [Act.put, List.setIfInBounds_toArray, List.set_cons_zero, List.set_cons_succ]
    refine take_at (i := 10) (d := some 57) (v := .pointer (some ⟨g, 0, none⟩)) rfl (by kernel_rfl) (by kernel_rfl) (by kernel_rfl) (fun _ _ _ h => h) (fun oi ho => ?_) hSQ ?_
    · obtain rfl := Option.some.inj ho
      exact Or.inl ⟨by rfl, fun wx hSw => by go_simp⟩
    simp only [Act.put, List.setIfInBounds_toArray, List.set_cons_zero, List.set_cons_succ]
    refine take_at (i := 11) (d := some 58) (v := v) rfl (by kernel_rfl) (by kernel_rfl) (by kernel_rfl) (fun _ _ _ h => h) (fun oi ho => ?_) hSQ ?_
    · obtain rfl := Option.some.inj ho
      exact Or.inl ⟨by rfl, fun wx hSw => by obtain ⟨x1, x2⟩ := hSw; go_simp⟩
    simp only [Act.put, List.setIfInBounds_toArray, List.set_cons_zero, List.set_cons_succ]
    refine take_at (i := 12) (d := some 59) (v := .pointer (some ⟨gp, 0, none⟩)) rfl (by kernel_rfl) (by kernel_rfl) (by kernel_rfl) (fun _ _ _ h => h) (fun oi ho => ?_) hSQ ?_
    · obtain rfl := Option.some.inj ho
      exact Or.inl ⟨by rfl, fun wx hSw => by go_simp⟩
    simp only [Act.put, List.setIfInBounds_toArray, List.set_cons_zero, List.set_cons_succ]
    refine take_at (i := 13) (d := some 60) (v := .pointer (some ⟨gp, 0, none⟩)) rfl (by kernel_rfl) (by kernel_rfl) (by kernel_rfl) (fun _ _ _ h => h) (fun oi ho => ?_) hSQ ?_
    · obtain rfl := Option.some.inj ho
      exact Or.inl ⟨by rfl, fun wx hSw => by go_simp⟩
    simp only [Act.put, List.setIfInBounds_toArray, List.set_cons_zero, List.set_cons_succ]
    refine take_at (i := 14) (d := some 61) (v := .pointer (some ⟨gp, 10, none⟩)) rfl (by kernel_rfl) (by kernel_rfl) (by kernel_rfl) (fun _ _ _ h => h) (fun oi ho => ?_) hSQ ?_
    · obtain rfl := Option.some.inj ho
      exact Or.inl ⟨by rfl, fun wx hSw => by go_simp⟩
    simp only [Act.put, List.setIfInBounds_toArray, List.set_cons_zero, List.set_cons_succ]
    refine take_at (i := 16) (d := some 63) (v := .int .i64 (en : Int)) rfl (by kernel_rfl) (by kernel_rfl) (by kernel_rfl) (fun _ _ _ h => h) (fun oi ho => ?_) hSQ ?_
    · obtain rfl := Option.some.inj ho
      exact Or.inl ⟨by rfl, fun wx hSw => by go_simp⟩
    simp only [Act.put, List.setIfInBounds_toArray, List.set_cons_zero, List.set_cons_succ]
    refine valueOr (i := 3) (j := 15) (di := some 50) (dj := some 62) (vi := .int .i64 (rd : Int)) (vj := .int .i64 (rd : Int)) rfl rfl (by kernel_rfl) (fun oi ho => ?_) (fun oi ho => ?_) hSQ ?_ ?_
    · obtain rfl := Option.some.inj ho
      exact ⟨by rfl, by go_simp⟩
    · obtain rfl := Option.some.inj ho
      exact ⟨by rfl, by go_simp⟩
    · simp only [Act.put, List.setIfInBounds_toArray, List.set_cons_zero, List.set_cons_succ]
      refine ready_value (i := 15) (d := some 62) (v := .int .i64 (rd : Int)) (w' := Wb) rfl (by kernel_rfl) (fun oi ho => ?_) hSQ ?_
      · obtain rfl := Option.some.inj ho
        exact ⟨by rfl, by go_simp⟩
      simp only [Act.put, List.setIfInBounds_toArray, List.set_cons_zero, List.set_cons_succ]
      refine ready_value (i := 17) (d := some 64) (v := V2) (w' := Wb) rfl (by kernel_rfl) (fun oi ho => ?_) hSQ ?_
      · obtain rfl := Option.some.inj ho
        exact ⟨by rfl, by go_simp⟩
      simp only [Act.put, List.setIfInBounds_toArray, List.set_cons_zero, List.set_cons_succ]
      refine ready_value (i := 18) (d := some 65) (v := S y) (w' := Wb) rfl (by kernel_rfl) (fun oi ho => ?_) hSQ ?_
      · obtain rfl := Option.some.inj ho
        exact ⟨by rfl, by go_simp⟩
      simp only [Act.put, List.setIfInBounds_toArray, List.set_cons_zero, List.set_cons_succ]
      refine ready_call (i := 19) (d := some 66) (f := 82) (args := #[.pointer (some ⟨gc, 0, none⟩), S y]) rfl (by kernel_rfl) (fun oi ho => ?_) ?_
      · obtain rfl := Option.some.inj ho
        exact ⟨by rfl, by go_simp⟩
      refine HFD.out.mono ?_
      rintro e Wc ⟨rfl, Fc', hR, hM⟩
      have hS7 : Wc.cell? ⟨g, 0, none⟩ = some v ∧ Wc.cell? ⟨gp, 9, none⟩ = some (.pointer (some ⟨gc, 0, none⟩)) := ⟨cell_of_row Wc _ 0 _ _ (0, 0) (HBB.out.1.par.moves hM (fun hf => (HBB.out.1.dis g hf).1 rfl)), cell_of_row Wc _ 9 _ _ (0, 0) (HBB.out.1.row.moves hM (fun hf => (HBB.out.1.dis gp hf).2.2.1 rfl))⟩
      have m10 : Wc.cell? ⟨gp, 10, none⟩ = some (.int .i64 (rd : Int)) := cell_of_row Wc _ 10 _ _ (0, 0) (HBB.out.1.row.moves hM (fun hf => (HBB.out.1.dis gp hf).2.2.1 rfl))
      have mf10 : Wc.frozen? ⟨gp, 10, none⟩ = false := Row.frozen (HBB.out.1.row.moves hM (fun hf => (HBB.out.1.dis gp hf).2.2.1 rfl)) 10
      have HEND := Lib.hid (HBB.out.1.step H.out.2.2.1 H.out.2.1 HRN.out hR hM ((rd + j : Nat) : Int) rfl)
      have hS8 : (Wc.setCell ⟨gp, 10, none⟩ (.int .i64 ((rd + j : Nat) : Int))).cell? ⟨g, 0, none⟩ = some v ∧ (Wc.setCell ⟨gp, 10, none⟩ (.int .i64 ((rd + j : Nat) : Int))).cell? ⟨gp, 9, none⟩ = some (.pointer (some ⟨gc, 0, none⟩)) := ⟨HEND.out.cells.2.2.2.1, HEND.out.cells.2.1⟩
      clear hR hM
      refine ⟨_, rfl, hS7, ?_⟩
      simp only [Act.put, List.setIfInBounds_toArray, List.set_cons_zero, List.set_cons_succ]
      refine ready_value (i := 20) (d := some 67) (v := .int .i64 ((rd + j : Nat) : Int)) (w' := Wc) rfl (by kernel_rfl) (fun oi ho => ?_) hS7 ?_
      · obtain rfl := Option.some.inj ho
        exact ⟨by rfl, by go_simp⟩
      simp only [Act.put, List.setIfInBounds_toArray, List.set_cons_zero, List.set_cons_succ]
      refine take_at (i := 21) (d := some 68) (v := .pointer (some ⟨gp, 0, none⟩)) rfl (by kernel_rfl) (by kernel_rfl) (by kernel_rfl) (fun _ _ _ h => h) (fun oi ho => ?_) hS7 ?_
      · obtain rfl := Option.some.inj ho
        exact Or.inl ⟨by rfl, fun wx hSw => by go_simp⟩
      simp only [Act.put, List.setIfInBounds_toArray, List.set_cons_zero, List.set_cons_succ]
      refine take_at (i := 22) (d := some 69) (v := .pointer (some ⟨gp, 10, none⟩)) rfl (by kernel_rfl) (by kernel_rfl) (by kernel_rfl) (fun _ _ _ h => h) (fun oi ho => ?_) hS7 ?_
      · obtain rfl := Option.some.inj ho
        exact Or.inl ⟨by rfl, fun wx hSw => by go_simp⟩
      simp only [Act.put, List.setIfInBounds_toArray, List.set_cons_zero, List.set_cons_succ]
      refine ready_skip (i := 23) (d := none) (w' := Wc.setCell ⟨gp, 10, none⟩ (.int .i64 ((rd + j : Nat) : Int))) rfl (by kernel_rfl) (fun oi ho => ?_) hS8 ?_
      · obtain rfl := Option.some.inj ho
        exact ⟨by rfl, by go_simp⟩
      simp only [Act.put]
      refine wpAnyH_done (by kernel_rfl) ?_ _
      refine NoPanic.normal ?_
      clear hSQ hS7 hS8 m10 mf10 l10 htx hs2 hwj
      go_wp2
      have hro2 := HEND.out.rd_of
      exact ⟨⟨rd + j, cst', Fc', HEND⟩, by rw [hro2, HLT.out.2.2]; have := HBB.out.2; omega⟩
    · simp only [Act.put, List.setIfInBounds_toArray, List.set_cons_zero, List.set_cons_succ]
      refine valueOr (i := 3) (j := 17) (di := some 50) (dj := some 64) (vi := .int .i64 (rd : Int)) (vj := V2) rfl rfl (by kernel_rfl) (fun oi ho => ?_) (fun oi ho => ?_) hSQ ?_ ?_
      · obtain rfl := Option.some.inj ho
        exact ⟨by rfl, by go_simp⟩
      · obtain rfl := Option.some.inj ho
        exact ⟨by rfl, by go_simp⟩
      · simp only [Act.put, List.setIfInBounds_toArray, List.set_cons_zero, List.set_cons_succ]
        refine ready_value (i := 17) (d := some 64) (v := V2) (w' := Wb) rfl (by kernel_rfl) (fun oi ho => ?_) hSQ ?_
        · obtain rfl := Option.some.inj ho
          exact ⟨by rfl, by go_simp⟩
        simp only [Act.put, List.setIfInBounds_toArray, List.set_cons_zero, List.set_cons_succ]
        refine ready_value (i := 18) (d := some 65) (v := S y) (w' := Wb) rfl (by kernel_rfl) (fun oi ho => ?_) hSQ ?_
        · obtain rfl := Option.some.inj ho
          exact ⟨by rfl, by go_simp⟩
        simp only [Act.put, List.setIfInBounds_toArray, List.set_cons_zero, List.set_cons_succ]
        refine ready_call (i := 19) (d := some 66) (f := 82) (args := #[.pointer (some ⟨gc, 0, none⟩), S y]) rfl (by kernel_rfl) (fun oi ho => ?_) ?_
        · obtain rfl := Option.some.inj ho
          exact ⟨by rfl, by go_simp⟩
        refine HFD.out.mono ?_
        rintro e Wc ⟨rfl, Fc', hR, hM⟩
        have hS7 : Wc.cell? ⟨g, 0, none⟩ = some v ∧ Wc.cell? ⟨gp, 9, none⟩ = some (.pointer (some ⟨gc, 0, none⟩)) := ⟨cell_of_row Wc _ 0 _ _ (0, 0) (HBB.out.1.par.moves hM (fun hf => (HBB.out.1.dis g hf).1 rfl)), cell_of_row Wc _ 9 _ _ (0, 0) (HBB.out.1.row.moves hM (fun hf => (HBB.out.1.dis gp hf).2.2.1 rfl))⟩
        have m10 : Wc.cell? ⟨gp, 10, none⟩ = some (.int .i64 (rd : Int)) := cell_of_row Wc _ 10 _ _ (0, 0) (HBB.out.1.row.moves hM (fun hf => (HBB.out.1.dis gp hf).2.2.1 rfl))
        have mf10 : Wc.frozen? ⟨gp, 10, none⟩ = false := Row.frozen (HBB.out.1.row.moves hM (fun hf => (HBB.out.1.dis gp hf).2.2.1 rfl)) 10
        have HEND := Lib.hid (HBB.out.1.step H.out.2.2.1 H.out.2.1 HRN.out hR hM ((rd + j : Nat) : Int) rfl)
        have hS8 : (Wc.setCell ⟨gp, 10, none⟩ (.int .i64 ((rd + j : Nat) : Int))).cell? ⟨g, 0, none⟩ = some v ∧ (Wc.setCell ⟨gp, 10, none⟩ (.int .i64 ((rd + j : Nat) : Int))).cell? ⟨gp, 9, none⟩ = some (.pointer (some ⟨gc, 0, none⟩)) := ⟨HEND.out.cells.2.2.2.1, HEND.out.cells.2.1⟩
        clear hR hM
        refine ⟨_, rfl, hS7, ?_⟩
        simp only [Act.put, List.setIfInBounds_toArray, List.set_cons_zero, List.set_cons_succ]
        refine ready_value (i := 20) (d := some 67) (v := .int .i64 ((rd + j : Nat) : Int)) (w' := Wc) rfl (by kernel_rfl) (fun oi ho => ?_) hS7 ?_
        · obtain rfl := Option.some.inj ho
          exact ⟨by rfl, by go_simp⟩
        simp only [Act.put, List.setIfInBounds_toArray, List.set_cons_zero, List.set_cons_succ]
        refine take_at (i := 21) (d := some 68) (v := .pointer (some ⟨gp, 0, none⟩)) rfl (by kernel_rfl) (by kernel_rfl) (by kernel_rfl) (fun _ _ _ h => h) (fun oi ho => ?_) hS7 ?_
        · obtain rfl := Option.some.inj ho
          exact Or.inl ⟨by rfl, fun wx hSw => by go_simp⟩
        simp only [Act.put, List.setIfInBounds_toArray, List.set_cons_zero, List.set_cons_succ]
        refine take_at (i := 22) (d := some 69) (v := .pointer (some ⟨gp, 10, none⟩)) rfl (by kernel_rfl) (by kernel_rfl) (by kernel_rfl) (fun _ _ _ h => h) (fun oi ho => ?_) hS7 ?_
        · obtain rfl := Option.some.inj ho
          exact Or.inl ⟨by rfl, fun wx hSw => by go_simp⟩
        simp only [Act.put, List.setIfInBounds_toArray, List.set_cons_zero, List.set_cons_succ]
        refine ready_skip (i := 23) (d := none) (w' := Wc.setCell ⟨gp, 10, none⟩ (.int .i64 ((rd + j : Nat) : Int))) rfl (by kernel_rfl) (fun oi ho => ?_) hS8 ?_
        · obtain rfl := Option.some.inj ho
          exact ⟨by rfl, by go_simp⟩
        simp only [Act.put]
        refine wpAnyH_done (by kernel_rfl) ?_ _
        refine NoPanic.normal ?_
        clear hSQ hS7 hS8 m10 mf10 l10 htx hs2 hwj
        go_wp2
        have hro2 := HEND.out.rd_of
        exact ⟨⟨rd + j, cst', Fc', HEND⟩, by rw [hro2, HLT.out.2.2]; have := HBB.out.2; omega⟩
      · simp only [Act.put, List.setIfInBounds_toArray, List.set_cons_zero, List.set_cons_succ]
        refine valueOr (i := 3) (j := 18) (di := some 50) (dj := some 65) (vi := .int .i64 (rd : Int)) (vj := S y) rfl rfl (by kernel_rfl) (fun oi ho => ?_) (fun oi ho => ?_) hSQ ?_ ?_
        · obtain rfl := Option.some.inj ho
          exact ⟨by rfl, by go_simp⟩
        · obtain rfl := Option.some.inj ho
          exact ⟨by rfl, by go_simp⟩
        · simp only [Act.put, List.setIfInBounds_toArray, List.set_cons_zero, List.set_cons_succ]
          refine ready_value (i := 18) (d := some 65) (v := S y) (w' := Wb) rfl (by kernel_rfl) (fun oi ho => ?_) hSQ ?_
          · obtain rfl := Option.some.inj ho
            exact ⟨by rfl, by go_simp⟩
          simp only [Act.put, List.setIfInBounds_toArray, List.set_cons_zero, List.set_cons_succ]
          refine ready_call (i := 19) (d := some 66) (f := 82) (args := #[.pointer (some ⟨gc, 0, none⟩), S y]) rfl (by kernel_rfl) (fun oi ho => ?_) ?_
          · obtain rfl := Option.some.inj ho
            exact ⟨by rfl, by go_simp⟩
          refine HFD.out.mono ?_
          rintro e Wc ⟨rfl, Fc', hR, hM⟩
          have hS7 : Wc.cell? ⟨g, 0, none⟩ = some v ∧ Wc.cell? ⟨gp, 9, none⟩ = some (.pointer (some ⟨gc, 0, none⟩)) := ⟨cell_of_row Wc _ 0 _ _ (0, 0) (HBB.out.1.par.moves hM (fun hf => (HBB.out.1.dis g hf).1 rfl)), cell_of_row Wc _ 9 _ _ (0, 0) (HBB.out.1.row.moves hM (fun hf => (HBB.out.1.dis gp hf).2.2.1 rfl))⟩
          have m10 : Wc.cell? ⟨gp, 10, none⟩ = some (.int .i64 (rd : Int)) := cell_of_row Wc _ 10 _ _ (0, 0) (HBB.out.1.row.moves hM (fun hf => (HBB.out.1.dis gp hf).2.2.1 rfl))
          have mf10 : Wc.frozen? ⟨gp, 10, none⟩ = false := Row.frozen (HBB.out.1.row.moves hM (fun hf => (HBB.out.1.dis gp hf).2.2.1 rfl)) 10
          have HEND := Lib.hid (HBB.out.1.step H.out.2.2.1 H.out.2.1 HRN.out hR hM ((rd + j : Nat) : Int) rfl)
          have hS8 : (Wc.setCell ⟨gp, 10, none⟩ (.int .i64 ((rd + j : Nat) : Int))).cell? ⟨g, 0, none⟩ = some v ∧ (Wc.setCell ⟨gp, 10, none⟩ (.int .i64 ((rd + j : Nat) : Int))).cell? ⟨gp, 9, none⟩ = some (.pointer (some ⟨gc, 0, none⟩)) := ⟨HEND.out.cells.2.2.2.1, HEND.out.cells.2.1⟩
          clear hR hM
          refine ⟨_, rfl, hS7, ?_⟩
          simp only [Act.put, List.setIfInBounds_toArray, List.set_cons_zero, List.set_cons_succ]
          refine ready_value (i := 20) (d := some 67) (v := .int .i64 ((rd + j : Nat) : Int)) (w' := Wc) rfl (by kernel_rfl) (fun oi ho => ?_) hS7 ?_
          · obtain rfl := Option.some.inj ho
            exact ⟨by rfl, by go_simp⟩
          simp only [Act.put, List.setIfInBounds_toArray, List.set_cons_zero, List.set_cons_succ]
          refine take_at (i := 21) (d := some 68) (v := .pointer (some ⟨gp, 0, none⟩)) rfl (by kernel_rfl) (by kernel_rfl) (by kernel_rfl) (fun _ _ _ h => h) (fun oi ho => ?_) hS7 ?_
          · obtain rfl := Option.some.inj ho
            exact Or.inl ⟨by rfl, fun wx hSw => by go_simp⟩
          simp only [Act.put, List.setIfInBounds_toArray, List.set_cons_zero, List.set_cons_succ]
          refine take_at (i := 22) (d := some 69) (v := .pointer (some ⟨gp, 10, none⟩)) rfl (by kernel_rfl) (by kernel_rfl) (by kernel_rfl) (fun _ _ _ h => h) (fun oi ho => ?_) hS7 ?_
          · obtain rfl := Option.some.inj ho
            exact Or.inl ⟨by rfl, fun wx hSw => by go_simp⟩
          simp only [Act.put, List.setIfInBounds_toArray, List.set_cons_zero, List.set_cons_succ]
          refine ready_skip (i := 23) (d := none) (w' := Wc.setCell ⟨gp, 10, none⟩ (.int .i64 ((rd + j : Nat) : Int))) rfl (by kernel_rfl) (fun oi ho => ?_) hS8 ?_
          · obtain rfl := Option.some.inj ho
            exact ⟨by rfl, by go_simp⟩
          simp only [Act.put]
          refine wpAnyH_done (by kernel_rfl) ?_ _
          refine NoPanic.normal ?_
          clear hSQ hS7 hS8 m10 mf10 l10 htx hs2 hwj
          go_wp2
          have hro2 := HEND.out.rd_of
          exact ⟨⟨rd + j, cst', Fc', HEND⟩, by rw [hro2, HLT.out.2.2]; have := HBB.out.2; omega⟩
        · simp only [Act.put, List.setIfInBounds_toArray, List.set_cons_zero, List.set_cons_succ]
          refine valueOrCall (i := 3) (j := 19) (di := some 50) (dj := some 66) (vi := .int .i64 (rd : Int)) (f := 82) (args := #[.pointer (some ⟨gc, 0, none⟩), S y]) rfl rfl (by kernel_rfl) (fun oi ho => ?_) (fun oi ho => ?_) hSQ ?_ ?_
          · obtain rfl := Option.some.inj ho
            exact ⟨by rfl, by go_simp⟩
          · obtain rfl := Option.some.inj ho
            exact ⟨by rfl, by go_simp⟩
          · simp only [Act.put, List.setIfInBounds_toArray, List.set_cons_zero, List.set_cons_succ]
            refine ready_call (i := 19) (d := some 66) (f := 82) (args := #[.pointer (some ⟨gc, 0, none⟩), S y]) rfl (by kernel_rfl) (fun oi ho => ?_) ?_
            · obtain rfl := Option.some.inj ho
              exact ⟨by rfl, by go_simp⟩
            refine HFD.out.mono ?_
            rintro e Wc ⟨rfl, Fc', hR, hM⟩
            have hS7 : Wc.cell? ⟨g, 0, none⟩ = some v ∧ Wc.cell? ⟨gp, 9, none⟩ = some (.pointer (some ⟨gc, 0, none⟩)) := ⟨cell_of_row Wc _ 0 _ _ (0, 0) (HBB.out.1.par.moves hM (fun hf => (HBB.out.1.dis g hf).1 rfl)), cell_of_row Wc _ 9 _ _ (0, 0) (HBB.out.1.row.moves hM (fun hf => (HBB.out.1.dis gp hf).2.2.1 rfl))⟩
            have m10 : Wc.cell? ⟨gp, 10, none⟩ = some (.int .i64 (rd : Int)) := cell_of_row Wc _ 10 _ _ (0, 0) (HBB.out.1.row.moves hM (fun hf => (HBB.out.1.dis gp hf).2.2.1 rfl))
            have mf10 : Wc.frozen? ⟨gp, 10, none⟩ = false := Row.frozen (HBB.out.1.row.moves hM (fun hf => (HBB.out.1.dis gp hf).2.2.1 rfl)) 10
            have HEND := Lib.hid (HBB.out.1.step H.out.2.2.1 H.out.2.1 HRN.out hR hM ((rd + j : Nat) : Int) rfl)
            have hS8 : (Wc.setCell ⟨gp, 10, none⟩ (.int .i64 ((rd + j : Nat) : Int))).cell? ⟨g, 0, none⟩ = some v ∧ (Wc.setCell ⟨gp, 10, none⟩ (.int .i64 ((rd + j : Nat) : Int))).cell? ⟨gp, 9, none⟩ = some (.pointer (some ⟨gc, 0, none⟩)) := ⟨HEND.out.cells.2.2.2.1, HEND.out.cells.2.1⟩
            clear hR hM
            refine ⟨_, rfl, hS7, ?_⟩
            simp only [Act.put, List.setIfInBounds_toArray, List.set_cons_zero, List.set_cons_succ]
            refine ready_value (i := 20) (d := some 67) (v := .int .i64 ((rd + j : Nat) : Int)) (w' := Wc) rfl (by kernel_rfl) (fun oi ho => ?_) hS7 ?_
            · obtain rfl := Option.some.inj ho
              exact ⟨by rfl, by go_simp⟩
            simp only [Act.put, List.setIfInBounds_toArray, List.set_cons_zero, List.set_cons_succ]
            refine take_at (i := 21) (d := some 68) (v := .pointer (some ⟨gp, 0, none⟩)) rfl (by kernel_rfl) (by kernel_rfl) (by kernel_rfl) (fun _ _ _ h => h) (fun oi ho => ?_) hS7 ?_
            · obtain rfl := Option.some.inj ho
              exact Or.inl ⟨by rfl, fun wx hSw => by go_simp⟩
            simp only [Act.put, List.setIfInBounds_toArray, List.set_cons_zero, List.set_cons_succ]
            refine take_at (i := 22) (d := some 69) (v := .pointer (some ⟨gp, 10, none⟩)) rfl (by kernel_rfl) (by kernel_rfl) (by kernel_rfl) (fun _ _ _ h => h) (fun oi ho => ?_) hS7 ?_
            · obtain rfl := Option.some.inj ho
              exact Or.inl ⟨by rfl, fun wx hSw => by go_simp⟩
            simp only [Act.put, List.setIfInBounds_toArray, List.set_cons_zero, List.set_cons_succ]
            refine ready_skip (i := 23) (d := none) (w' := Wc.setCell ⟨gp, 10, none⟩ (.int .i64 ((rd + j : Nat) : Int))) rfl (by kernel_rfl) (fun oi ho => ?_) hS8 ?_
            · obtain rfl := Option.some.inj ho
              exact ⟨by rfl, by go_simp⟩
            simp only [Act.put]
            refine wpAnyH_done (by kernel_rfl) ?_ _
            refine NoPanic.normal ?_
            clear hSQ hS7 hS8 m10 mf10 l10 htx hs2 hwj
            go_wp2
            have hro2 := HEND.out.rd_of
            exact ⟨⟨rd + j, cst', Fc', HEND⟩, by rw [hro2, HLT.out.2.2]; have := HBB.out.2; omega⟩
          · refine HFD.out.mono ?_
            rintro e Wc ⟨rfl, Fc', hR, hM⟩
            have hS7 : Wc.cell? ⟨g, 0, none⟩ = some v ∧ Wc.cell? ⟨gp, 9, none⟩ = some (.pointer (some ⟨gc, 0, none⟩)) := ⟨cell_of_row Wc _ 0 _ _ (0, 0) (HBB.out.1.par.moves hM (fun hf => (HBB.out.1.dis g hf).1 rfl)), cell_of_row Wc _ 9 _ _ (0, 0) (HBB.out.1.row.moves hM (fun hf => (HBB.out.1.dis gp hf).2.2.1 rfl))⟩
            have m10 : Wc.cell? ⟨gp, 10, none⟩ = some (.int .i64 (rd : Int)) := cell_of_row Wc _ 10 _ _ (0, 0) (HBB.out.1.row.moves hM (fun hf => (HBB.out.1.dis gp hf).2.2.1 rfl))
            have mf10 : Wc.frozen? ⟨gp, 10, none⟩ = false := Row.frozen (HBB.out.1.row.moves hM (fun hf => (HBB.out.1.dis gp hf).2.2.1 rfl)) 10
            have HEND := Lib.hid (HBB.out.1.step H.out.2.2.1 H.out.2.1 HRN.out hR hM ((rd + j : Nat) : Int) rfl)
            have hS8 : (Wc.setCell ⟨gp, 10, none⟩ (.int .i64 ((rd + j : Nat) : Int))).cell? ⟨g, 0, none⟩ = some v ∧ (Wc.setCell ⟨gp, 10, none⟩ (.int .i64 ((rd + j : Nat) : Int))).cell? ⟨gp, 9, none⟩ = some (.pointer (some ⟨gc, 0, none⟩)) := ⟨HEND.out.cells.2.2.2.1, HEND.out.cells.2.1⟩
            clear hR hM
            refine ⟨_, rfl, hS7, ?_⟩
            simp only [Act.put, List.setIfInBounds_toArray, List.set_cons_zero, List.set_cons_succ]
            refine ready_value (i := 3) (d := some 50) (v := .int .i64 (rd : Int)) (w' := Wc) rfl (by kernel_rfl) (fun oi ho => ?_) hS7 ?_
            · obtain rfl := Option.some.inj ho
              exact ⟨by rfl, by go_simp⟩
            simp only [Act.put, List.setIfInBounds_toArray, List.set_cons_zero, List.set_cons_succ]
            refine ready_value (i := 20) (d := some 67) (v := .int .i64 ((rd + j : Nat) : Int)) (w' := Wc) rfl (by kernel_rfl) (fun oi ho => ?_) hS7 ?_
            · obtain rfl := Option.some.inj ho
              exact ⟨by rfl, by go_simp⟩
            simp only [Act.put, List.setIfInBounds_toArray, List.set_cons_zero, List.set_cons_succ]
            refine take_at (i := 21) (d := some 68) (v := .pointer (some ⟨gp, 0, none⟩)) rfl (by kernel_rfl) (by kernel_rfl) (by kernel_rfl) (fun _ _ _ h => h) (fun oi ho => ?_) hS7 ?_
            · obtain rfl := Option.some.inj ho
              exact Or.inl ⟨by rfl, fun wx hSw => by go_simp⟩
            simp only [Act.put, List.setIfInBounds_toArray, List.set_cons_zero, List.set_cons_succ]
            refine take_at (i := 22) (d := some 69) (v := .pointer (some ⟨gp, 10, none⟩)) rfl (by kernel_rfl) (by kernel_rfl) (by kernel_rfl) (fun _ _ _ h => h) (fun oi ho => ?_) hS7 ?_
            · obtain rfl := Option.some.inj ho
              exact Or.inl ⟨by rfl, fun wx hSw => by go_simp⟩
            simp only [Act.put, List.setIfInBounds_toArray, List.set_cons_zero, List.set_cons_succ]
            refine ready_skip (i := 23) (d := none) (w' := Wc.setCell ⟨gp, 10, none⟩ (.int .i64 ((rd + j : Nat) : Int))) rfl (by kernel_rfl) (fun oi ho => ?_) hS8 ?_
            · obtain rfl := Option.some.inj ho
              exact ⟨by rfl, by go_simp⟩
            simp only [Act.put]
            refine wpAnyH_done (by kernel_rfl) ?_ _
            refine NoPanic.normal ?_
            clear hSQ hS7 hS8 m10 mf10 l10 htx hs2 hwj
            go_wp2
            have hro2 := HEND.out.rd_of
            exact ⟨⟨rd + j, cst', Fc', HEND⟩, by rw [hro2, HLT.out.2.2]; have := HBB.out.2; omega⟩
end
end Go.Proofs.YtplajlccnnbifaaGreatDoor
