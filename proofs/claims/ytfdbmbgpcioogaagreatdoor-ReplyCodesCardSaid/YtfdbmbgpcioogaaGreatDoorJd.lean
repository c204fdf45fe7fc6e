/- Texts of this proof that several statements share, one behind the other. -/
import Derived.Test.YtfdbmbgpcioogaaGreatDoorJc
import Derived.Deep.Fields
/- A slice of structs that came in, opened: each field one cell. Over any program. -/
namespace Go.Proofs.YtfdbmbgpcioogaaGreatDoor
open Go.ChangeShapes Go.WideShapes Go.ChangeAt Go.RowKit Go.Deep
variable {P : Program}

/-- A slice of n structs of sz cells that came in: cell j of struct i holds 'v i j'. -/
structure CameS (P : Program) (w : World) (t : TypeId) (V : Value) (n b o sz : Nat) (v : Nat → Nat → Value) : Prop where
  len : ∀ T w', (Builtin.len_ #[t] T #[V]).run P w' = .ok (.int .i64 (n : Int)) w'
  index : ∀ i, i < n → ∀ w', (Instr.indexAt t V (.int .i64 (i : Int))).run P w' = .ok (.pointer (some ⟨b, o + i * sz, none⟩)) w'
  cell : ∀ i j, i < n → j < sz → w.cell? ⟨b, o + i * sz + j, none⟩ = some (v i j)
theorem CameS.below {w w' : World} {t : TypeId} {V : Value} {n b o sz : Nat} {v : Nat → Nat → Value} (h : CameS P w t V n b o sz v) (hb : Below w.heap.size w w') : CameS P w' t V n b o sz v :=
  ⟨h.len, h.index, fun i j hi hj => by rw [hb.cell (World.block_lt_of_cell? w _ (h.cell i j hi hj))]; exact h.cell i j hi hj⟩

theorem came_structs {t e : TypeId} {fs : Array Field} (hu : P.underlying t = some (.slice e)) (he : P.underlying e = some (.struct fs)) (hone : oneCellFields P fs = true) (hC : P.cellsOf e = fs.size) (hpos : 0 < fs.size)
    (hz : ∀ w, (sizeOf e).run P w = .ok fs.size w)
    {H : Type} {enc : TypeId × Value → H} {W : World} {a0 : Option Addr} {len cap fuel : Nat} {x : DataW H × List MemPlace}
    (hf : DataW.trod enc P W 0 (fun _ => true) true fuel t [.slice a0 len cap] = some x) :
    ∃ b o v, CameS P W t (.slice a0 len cap) len b o fs.size v ∧ ∃ n, ∀ i j f, i < len → fs[j]? = some f → ∃ y, DataW.trod enc P W 0 (fun _ => true) true n f.type [v i j] = some y := by
  have hlen : ∀ T w', (Builtin.len_ #[t] T #[.slice a0 len cap]).run P w' = .ok (.int .i64 (len : Int)) w' := fun T w' => by
    simp [Builtin.len_, run_underlying hu, Result.andThen, goInt]
  have h1 := hone_of hone
  rcases Nat.eq_zero_or_pos len with rfl | hlp
  · exact ⟨0, 0, fun _ _ => undef, ⟨hlen, fun i h => absurd h (by omega), fun i j h => absurd h (by omega)⟩, 0, fun i j f h => absurd h (by omega)⟩
  rcases open_slice hu hf with ⟨hcs, _⟩ | ⟨a, len', cap', m, n, D, Pl, hcs, _, hl, _, hm, _, hx⟩
  · simp only [List.cons.injEq, Value.slice.injEq, and_true] at hcs
    omega
  · simp only [List.cons.injEq, Value.slice.injEq, and_true] at hcs
    obtain ⟨rfl, rfl, rfl⟩ := hcs
    simp only [if_true] at hm
    subst hm
    rw [hC] at hx
    have hel : ∀ i, i < len → ∃ cs', cs'.length = fs.size ∧ (∀ j, j < fs.size → W.cell? ((a.add (i * fs.size)).add j) = some (cs'.getD j undef)) ∧ DataW.trod enc P W 0 (fun _ => true) true n e cs' = some (D i, Pl i) := fun i hi => by
      obtain ⟨cs', hc, ht⟩ := hx i (by omega)
      obtain ⟨_, hl', hcell⟩ := World.cells?_some hc
      refine ⟨cs', hl', fun j hj => ?_, ht⟩
      rw [hcell j hj]
      simp [List.getD, List.getElem?_eq_getElem (show j < cs'.length by omega)]
    obtain ⟨F, hF⟩ := choose_lt (α := List Value) (p := fun i cs' => cs'.length = fs.size ∧ (∀ j, j < fs.size → W.cell? ((a.add (i * fs.size)).add j) = some (cs'.getD j undef)) ∧ DataW.trod enc P W 0 (fun _ => true) true n e cs' = some (D i, Pl i)) hel
    obtain ⟨b, o, spot⟩ := a
    have hspot : spot = none := by
      have h0 := (hF 0 hlp).2.1 0 hpos
      have := World.cell?_spot h0
      simpa [Addr.add] using this
    subst hspot
    have hadd : ∀ k, (⟨b, o, none⟩ : Addr).add k = ⟨b, o + k, none⟩ := fun k => add_plain b o k
    refine ⟨b, o, fun i j => (F i).getD j undef, ⟨hlen, fun i hi w' => ?_, fun i j hi hj => ?_⟩, n, fun i j f hi hfj => ?_⟩
    · have h1 : (0 : Int) ≤ (i : Int) ∧ (i : Int) < (len : Int) := by omega
      have := hadd (i * fs.size)
      simp [Instr.indexAt, run_underlying hu, asIntOf, hz, h1, go_sem]
      intro hge; omega
    · have := (hF i hi).2.1 j hj
      rw [hadd, add_plain] at this
      exact this
    · obtain ⟨hl', _, ht⟩ := hF i hi
      obtain ⟨xs, n', rfl, _, _, hxl, hff⟩ := DataW.trod_struct he ht
      have hlt : j < fs.size := (Array.getElem?_eq_some_iff.1 hfj).1
      obtain ⟨ho, hc1⟩ := h1 j f hfj
      have g := hff j f hfj
      rw [ho, hc1, take1_drop (F i) j undef (by omega), List.getElem?_eq_getElem (by omega)] at g
      exact ⟨_, DataW.trod_succ n' _ _ _ g⟩
/-- A field that is a number, a text, a bool: what its cell holds. -/
theorem field_num {H : Type} {enc : TypeId × Value → H} {W : World} {n : Nat} {t : TypeId} {k : IntKind} {v : Value} {y : DataW H × List MemPlace} (ht : P.underlying t = some (.int k)) (h : DataW.trod enc P W 0 (fun _ => true) true n t [v] = some y) : ∃ z, v = .int k z ∧ (Lit.int k z).wf = true := by
  obtain ⟨z, hz, _, hw⟩ := DataW.trod_int ht h
  exact ⟨z, by simpa using hz, hw⟩
theorem field_text {H : Type} {enc : TypeId × Value → H} {W : World} {n : Nat} {t : TypeId} {v : Value} {y : DataW H × List MemPlace} (ht : P.underlying t = some .string) (h : DataW.trod enc P W 0 (fun _ => true) true n t [v] = some y) : ∃ s, v = S s ∧ s.length ≤ maxLen := by
  obtain ⟨s, hs, _, hl⟩ := DataW.trod_string ht h
  refine ⟨s.data.toList, by rw [← S_of]; simpa using hs, ?_⟩
  have : s.data.toList.length = s.size := by rw [Array.length_toList]; rfl
  omega
theorem field_bool {H : Type} {enc : TypeId × Value → H} {W : World} {n : Nat} {t : TypeId} {v : Value} {y : DataW H × List MemPlace} (ht : P.underlying t = some .bool) (h : DataW.trod enc P W 0 (fun _ => true) true n t [v] = some y) : ∃ b, v = .bool b := by
  obtain ⟨b, hb, _⟩ := DataW.trod_bool ht h
  exact ⟨b, by simpa using hb⟩
/-- One function for a family. -/
theorem choose_lt' {α : Type} [Inhabited α] {n : Nat} {p : Nat → α → Prop} (h : ∀ i, i < n → ∃ x, p i x) : ∃ f : Nat → α, ∀ i, i < n → p i (f i) := choose_lt h
end Go.Proofs.YtfdbmbgpcioogaaGreatDoor
/- The document's Alike, Parts, Has walked. (mkref06.py writes it.) -/
namespace Go.Proofs.YtfdbmbgpcioogaaGreatDoor
open Go.RowKit
attribute [local go_sem] store_one S_match S_store

set_option maxRecDepth 100000 in
set_option maxHeartbeats 400000 in
theorem low_any (c : UInt8) (w : World) : Calls Tryz.prog 41 #[B c] w fun e w' => e = .returned (B (lowB c)) ∧ w' = w := by
  have h1 := B_geq 5 c 65
  have h2 := B_leq 5 c 90
  by_cases ha : 65 ≤ c.toNat
  · by_cases hb : c.toNat ≤ 90
    · have hl : lowB c = c + 32 := by unfold lowB; rw [if_pos ⟨ha, hb⟩]
      have h3 := B_add32 5 c hb
      rw [decide_eq_true (by omega)] at h1 h2
      rw [hl]
      clear hl ha hb
      go_enter Tryz.func41, Tryz.ntmps41
      go_wp2
      go_ret
      exact ⟨rfl, rfl⟩
    · have hl : lowB c = c := by unfold lowB; rw [if_neg (fun h => hb h.2)]
      rw [decide_eq_true (by omega)] at h1
      rw [decide_eq_false (by omega)] at h2
      rw [hl]
      clear hl ha hb
      go_enter Tryz.func41, Tryz.ntmps41
      go_wp2
      go_ret
      exact ⟨rfl, rfl⟩
  · have hl : lowB c = c := by unfold lowB; rw [if_neg (fun h => ha h.1)]
    rw [decide_eq_false (by omega)] at h1
    rw [hl]
    clear hl ha h2
    go_enter Tryz.func41, Tryz.ntmps41
    go_wp2
    go_ret
    exact ⟨rfl, rfl⟩
set_option maxRecDepth 100000 in
set_option maxHeartbeats 400000 in
theorem alike_any (a b : List UInt8) (ha : a.length ≤ 100000) (_hb : b.length ≤ 100000) (w : World) : Calls Tryz.prog 27 #[S a, S b] w fun e w' => e = .returned (.bool (alikeF a b)) ∧ Drawn w w' := by
  have hla := run_len_S (P := Tryz.prog) Tryz.underlying9 3 a
  have hlb := run_len_S (P := Tryz.prog) Tryz.underlying9 3 b
  have HC : Hid (∀ z w, Calls Tryz.prog 41 #[B z] w fun e w' => e = .returned (.int .u8 ((lowB z).toNat : Int)) ∧ Drawn w w') := Lib.hid fun z w => (low_any z w).mono (by rintro e w' ⟨he, rfl⟩; exact ⟨he, Drawn.refl _⟩)
  by_cases hne : a.length = b.length
  · have hq : ((a.length : Int) != (b.length : Int)) = false := by rw [hne]; simp
    have hq' : (a.length != b.length) = false := by rw [hne]; simp
    obtain ⟨L, hL⟩ : ∃ L, L = a.length := ⟨_, rfl⟩
    rw [← hne, ← hL] at hlb
    rw [← hL] at hla
    have HL := Lib.hid (And.intro hL hne)
    rw [← hL] at ha
    clear hq hq' hL hne
    have hq : ((L : Int) != (L : Int)) = false := by simp
    go_enter Tryz.func27, Tryz.ntmps27
    go_wp2
    go_loopw [5] (fun iv wr => ∃ i : Nat, i ≤ L ∧ iv = .int .i64 (i : Int) ∧ Drawn w wr ∧ (a.take i).map lowB = (b.take i).map lowB) (fun iv _ => L - (intOf iv).toNat)
    case atStart => exact ⟨0, Nat.zero_le _, rfl, Drawn.refl _, rfl⟩
    case round =>
      obtain ⟨i, hi, rfl, hD, hm⟩ := hrel
      by_cases hlt : i < L
      · obtain ⟨x, hx⟩ : ∃ x, a[i]? = some x := ⟨a[i]'(by have := HL.out.1; omega), List.getElem?_eq_getElem _⟩
        obtain ⟨y, hy⟩ : ∃ y, b[i]? = some y := ⟨b[i]'(by have := HL.out; omega), List.getElem?_eq_getElem _⟩
        have hix : ∀ w, (Instr.index 9 (S a) (.int .i64 (i : Int))).run Tryz.prog w = .ok (B x) w := fun w => index_S (P := Tryz.prog) Tryz.underlying9 a i x hx w
        have hiy : ∀ w, (Instr.index 9 (S b) (.int .i64 (i : Int))).run Tryz.prog w = .ok (B y) w := fun w => index_S (P := Tryz.prog) Tryz.underlying9 b i y hy w
        have hn := neqN (lowB x) (lowB y)
        by_cases he : lowB x = lowB y
        · have HN := Lib.hid (And.intro hD (map_take_next hx hy hm he))
          rw [beq_iff_eq.2 he, Bool.not_true] at hn
          clear hD hm hx hy he
          go_wp2
          go_quiet (first | (go_at_call 41; exact Calls.quiet_of (HC.out _ _)))
          go_wp2
          exact ⟨⟨i + 1, by omega, by go_num, HN.out.1.trans ⟨_, rfl⟩, HN.out.2⟩, by simp [intOf]; omega⟩
        · have HN := Lib.hid (And.intro hD (alike_stop hx hy he))
          rw [beq_eq_false_iff_ne.2 he, Bool.not_false] at hn
          clear hD hm hx hy he
          go_wp2
          go_quiet (first | (go_at_call 41; exact Calls.quiet_of (HC.out _ _)))
          go_wp2
          go_ret
          exact ⟨by rw [HN.out.2]; rfl, HN.out.1.trans ⟨_, rfl⟩⟩
      · obtain rfl : i = L := by omega
        have HN : Hid (Drawn w wr ∧ alikeF a b = true) := Lib.hid ⟨hD, by
          rw [List.take_of_length_le (by have := HL.out.1; omega), List.take_of_length_le (by have := HL.out; omega)] at hm
          unfold alikeF; rw [hm]; simp⟩
        clear hm hD
        go_wp2
        go_ret
        exact ⟨by rw [HN.out.2]; rfl, HN.out.1⟩
  · have hq : ((a.length : Int) != (b.length : Int)) = true := by rw [bne_iff_ne]; omega
    have hq' : (a.length != b.length) = true := by rw [bne_iff_ne]; exact hne
    have HN := Lib.hid (alike_len hne)
    clear hne
    go_enter Tryz.func27, Tryz.ntmps27
    go_wp2
    go_ret
    exact ⟨by rw [HN.out]; rfl, Drawn.refl _⟩
theorem mid_next {s : List UInt8} {a i : Nat} {c : UInt8} (hc : s[i]? = some c) (ha : a ≤ i) : (s.drop a).take (i + 1 - a) = (s.drop a).take (i - a) ++ [c] := by
  have hc2 : (s.drop a)[i - a]? = some c := by rw [List.getElem?_drop, show a + (i - a) = i by omega]; exact hc
  obtain ⟨hi, rfl⟩ := List.getElem?_eq_some_iff.1 hc2
  rw [show i + 1 - a = (i - a) + 1 by omega, List.take_succ_eq_append_getElem hi]
theorem elem9 : Elem Tryz.prog 9 := elem_of (z := .string ⟨#[]⟩) (n := 16) (by kernel_rfl) (by omega) rfl
/-- What holds between two pieces. -/
def Pts (s : List UInt8) (w : World) (v : Value) (a i : Nat) (W : World) : Prop :=
  ∃ done : List (List UInt8), done.length ≤ i ∧ a ≤ i ∧ Own w.heap.size v (done.map S) W ∧ Below w.heap.size w W ∧
    ((i ≤ s.length ∧ partsF s = done ++ ptsF ((s.drop a).take (i - a)) (s.drop i)) ∨ (i = s.length + 1 ∧ partsF s = done))
theorem any_take_next {q : List UInt8 → Bool} {l : List (List UInt8)} {i : Nat} {x : List UInt8} (hx : l[i]? = some x) (h : (l.take i).any q = false) : (l.take (i + 1)).any q = q x := by
  obtain ⟨hi, rfl⟩ := List.getElem?_eq_some_iff.1 hx
  rw [List.take_succ_eq_append_getElem hi, List.any_append, h, Bool.false_or]; simp
end Go.Proofs.YtfdbmbgpcioogaaGreatDoor
/- The document's Right (stage 10) walked. (mkpe.py writes it.) -/
namespace Go.Proofs.YtfdbmbgpcioogaaGreatDoor
open Go.RowKit
attribute [local go_sem] store_one S_match S_store eguard_BN nguard_BN

/-- A reply in its box, its fields, and what was made since. -/
structure RtAt (w : World) (b1 : Nat) (c : Int) (V : Value) (body : List UInt8) (fs : List Fld) (b o : Nat) (W : World) : Prop where
  row : Row W b1 #[.int .i64 c, V, S body] 24
  fa : FA W V fs b o
  bel : Below w.heap.size w W
theorem RtAt.below {w W W' : World} {b1 : Nat} {c : Int} {V : Value} {body : List UInt8} {fs : List Fld} {b o : Nat} (h : RtAt w b1 c V body fs b o W) (hb : Below W.heap.size W W') : RtAt w b1 c V body fs b o W' :=
  ⟨h.row.below hb h.row.lt, h.fa.below hb, h.bel.trans (hb.mono h.bel.size)⟩
theorem drawn_below {w w' : World} (h : Drawn w w') : Below w.heap.size w w' := by obtain ⟨m, rfl⟩ := h; exact ⟨rfl, rfl, rfl, Nat.le_refl _, fun _ _ => rfl⟩
theorem alike_bel (a b : List UInt8) (ha : a.length ≤ 100000) (hb : b.length ≤ 100000) (w : World) : Calls Tryz.prog 27 #[S a, S b] w fun e w' => e = .returned (.bool (alikeF a b)) ∧ Below w.heap.size w w' :=
  (alike_any a b ha hb w).mono (by rintro e w' ⟨he, hd⟩; exact ⟨he, drawn_below hd⟩)
theorem eq_text10 (p q : List UInt8) (w : World) : (Op.equalIn 9999 9 (S p) (S q)).run Tryz.prog w = .ok (p == q) w := by
  have e : ((⟨p.toArray⟩ : ByteArray).toList == (⟨q.toArray⟩ : ByteArray).toList) = (p == q) := by simp
  unfold S
  rw [run_equalIn_string w 9998 9 _ _ Tryz.underlying9]
  first | rw [e] | (congr 1)
theorem right_bad {c : Int} {fs : List Fld} {body : List UInt8} {i : Nat} {f : Fld} (hf : fs[i]? = some f) (h : fldOk c f = false) : rightB c fs body = false := by
  rw [Bool.eq_false_iff]
  intro hr
  have := okf_iff.2 ((right_iff.1 hr).all f (List.mem_of_getElem? hf))
  rw [h] at this; cases this
theorem fsLen_mem {fs : List Fld} {f : Fld} (h : f ∈ fs) : f.1.length + f.2.length + 4 ≤ fsLen fs := by
  unfold fsLen
  induction fs with
  | nil => cases h
  | cons g r ih =>
    rw [List.map_cons, List.sum_cons]
    rcases List.mem_cons.1 h with rfl | h
    · omega
    · have := ih h; omega
theorem fsLen_count (fs : List Fld) : 4 * fs.length ≤ fsLen fs := by
  unfold fsLen
  induction fs with
  | nil => simp
  | cons g r ih => rw [List.map_cons, List.sum_cons, List.length_cons]; omega
set_option maxRecDepth 100000 in
set_option maxHeartbeats 2000000 in
theorem dright_any (c : Int) (fs : List Fld) (body : List UInt8) (V : Value) (b o : Nat) (w : World) (hA : FA w V fs b o) (hl : rpLen fs body ≤ 80000) :
    Calls Tryz.prog 10 #[.agg (rpC c V body)] w fun e w' => e = .returned (.bool (rightB c fs body)) ∧ Below w.heap.size w w' := by
  unfold rpC
  obtain ⟨O, hO⟩ : ∃ O, O = rightB c fs body := ⟨_, rfl⟩
  rw [← hO]
  obtain ⟨b1, hb1⟩ : ∃ b, b = w.heap.size := ⟨_, rfl⟩
  obtain ⟨W1, hW1⟩ : ∃ W, W = w.alloc (.cells #[.int .i64 c, V, S body] 24) := ⟨_, rfl⟩
  have hB1 : Below w.heap.size w W1 := by rw [hW1]; exact (Below.refl _ w).alloc (Nat.le_refl _) _
  have hM1 : RtAt w b1 c V body fs b o W1 := ⟨by rw [hW1, hb1]; exact row_new _ _ _, hA.below hB1, hB1⟩
  have HM := Lib.hid hM1
  have c0 : W1.cell? ⟨b1, 0, none⟩ = some (.int .i64 c) := cell_of_row W1 _ 0 _ _ (0, 0) hM1.row
  have c1 : W1.cell? ⟨b1, 1, none⟩ = some V := cell_of_row W1 _ 1 _ _ (0, 0) hM1.row
  have c2 : W1.cell? ⟨b1, 2, none⟩ = some (S body) := cell_of_row W1 _ 2 _ _ (0, 0) hM1.row
  have hlB := run_len_S (P := Tryz.prog) Tryz.underlying9 3 body
  have hlV := hA.len 3
  obtain ⟨K, hK⟩ : ∃ K, K = body.length := ⟨_, rfl⟩
  obtain ⟨N, hN⟩ : ∃ N, N = fs.length := ⟨_, rfl⟩
  rw [← hK] at hlB
  rw [← hN] at hlV
  have hO2 : O = ((decide (100 ≤ c) && decide (c ≤ 599) && decide (K ≤ 65536)) && ((!(nobB c) || decide (K = 0)) && fs.all (fldOk c))) := by rw [hO, hK]; rfl
  have HO := Lib.hid (And.intro hO2 hO)
  have hcnt := fsLen_count fs
  unfold rpLen at hl
  have HN := Lib.hid (And.intro hN (And.intro hl (show N ≤ 20000 by omega)))
  have hN5 : N ≤ 20000 := by omega
  have HB := Lib.hid fun W => dbare10_any c W
  clear hM1 hB1 hA hK hN hO hO2 hl hcnt
  by_cases h0 : c < 100
  case pos =>
    have g0 : decide (c < 100) = true := decide_eq_true h0
    have HP : Hid (O = false) := Lib.hid (by rw [HO.out.1]; rw [decide_eq_false (show ¬ 100 ≤ c by omega)]; simp)
    go_enter Tryz.func10, Tryz.ntmps10
    go_wp2
    all_goals try rw [← hW1]
    go_ret
    exact ⟨by rw [HP.out]; rfl, HM.out.bel⟩
  have g0 : decide (c < 100) = false := decide_eq_false h0
  by_cases h1 : 599 < c
  case pos =>
    have g1 : decide (599 < c) = true := decide_eq_true h1
    have HP : Hid (O = false) := Lib.hid (by rw [HO.out.1]; rw [decide_eq_false (show ¬ c ≤ 599 by omega)]; simp)
    go_enter Tryz.func10, Tryz.ntmps10
    go_wp2
    all_goals try rw [← hW1]
    go_ret
    exact ⟨by rw [HP.out]; rfl, HM.out.bel⟩
  have g1 : decide (599 < c) = false := decide_eq_false h1
  by_cases h2 : 65536 < K
  case pos =>
    have g2 : decide ((65536 : Int) < (K : Int)) = true := decide_eq_true (by omega)
    have HP : Hid (O = false) := Lib.hid (by rw [HO.out.1]; rw [decide_eq_false (show ¬ K ≤ 65536 by omega)]; simp)
    go_enter Tryz.func10, Tryz.ntmps10
    go_wp2
    all_goals try rw [← hW1]
    go_ret
    exact ⟨by rw [HP.out]; rfl, HM.out.bel⟩
  have g2 : decide ((65536 : Int) < (K : Int)) = false := decide_eq_false (by omega)
  have HO3 : Hid (O = ((!(nobB c) || decide (K = 0)) && fs.all (fldOk c))) := Lib.hid (by rw [HO.out.1, decide_eq_true (show 100 ≤ c by omega), decide_eq_true (show c ≤ 599 by omega), decide_eq_true (show K ≤ 65536 by omega)]; rfl)
  obtain ⟨nb, hnb⟩ : ∃ nb, nb = nobB c := ⟨_, rfl⟩
  rw [← hnb] at HB HO3
  clear hnb h0 h1 h2
  cases nb with
  | true =>
    by_cases hk0 : 0 < K
    case pos =>
      have g4 : decide ((0 : Int) < (K : Int)) = true := decide_eq_true (by omega)
      have g4' : decide (0 < K) = true := decide_eq_true hk0
      have HP : Hid (O = false) := Lib.hid (by rw [HO3.out, decide_eq_false (show ¬ K = 0 by omega)]; rfl)
      clear hk0
      go_enter Tryz.func10, Tryz.ntmps10
      go_wp2_with fail
      all_goals try rw [← hW1, ← hb1]
      clear hW1 hb1

      refine (HB.out _).mono ?_
      rintro e W' ⟨rfl, rfl⟩
      go_wp2
      go_ret
      exact ⟨by rw [HP.out]; rfl, HM.out.bel⟩
    have g4 : decide ((0 : Int) < (K : Int)) = false := decide_eq_false (by omega)
    have g4' : decide (0 < K) = false := decide_eq_false hk0
    have HOA : Hid (O = fs.all (fldOk c)) := Lib.hid (by rw [HO3.out, decide_eq_true (show K = 0 by omega)]; rfl)
    clear hk0
    go_enter Tryz.func10, Tryz.ntmps10
    go_wp2_with fail
    all_goals try rw [← hW1, ← hb1]
    clear hW1 hb1

    refine (HB.out _).mono ?_
    rintro e W' ⟨rfl, rfl⟩
    go_wp2_with fail

    go_loopw [3] (fun iv wr => ∃ i : Nat, i ≤ N ∧ iv = .int .i64 (i : Int) ∧ Hid (RtAt w b1 c V body fs b o wr ∧ (fs.take i).all (fldOk c) = true)) (fun iv _ => N - (intOf iv).toNat)
    case atStart => exact ⟨0, Nat.zero_le _, rfl, Lib.hid ⟨HM.out, by rw [List.take_zero]; rfl⟩⟩
    case round =>
      obtain ⟨i, hi, rfl, HR⟩ := hrel
      have d0 : wr.cell? ⟨b1, 0, none⟩ = some (.int .i64 c) := cell_of_row wr _ 0 _ _ (0, 0) HR.out.1.row
      have d1 : wr.cell? ⟨b1, 1, none⟩ = some V := cell_of_row wr _ 1 _ _ (0, 0) HR.out.1.row
      by_cases hlt : i < N
      case neg =>
        obtain rfl : i = N := by omega
        have g3 : decide ((i : Int) < (i : Int)) = false := decide_eq_false (by omega)
        have HP : Hid (O = true) := Lib.hid (by rw [HOA.out]; have h := HR.out.2; rw [HN.out.1, List.take_length] at h; exact h)
        go_wp2
        go_ret
        exact ⟨by rw [HP.out]; rfl, HR.out.1.bel⟩
      have g3 : decide ((i : Int) < (N : Int)) = true := decide_eq_true (by omega)
      obtain ⟨⟨n, u⟩, hf⟩ : ∃ f, fs[i]? = some f := ⟨fs[i]'(by have := HN.out.1; omega), List.getElem?_eq_getElem _⟩
      have hix := HR.out.1.fa.index i (by have := HN.out.1; omega)
      have hcl := HR.out.1.fa.cell i _ hf
      have hfl := fsLen_mem (List.mem_of_getElem? hf)
      have hN2 := HN.out.2.1
      dsimp only at hfl
      have hwi : IntKind.i64.wrap ((i : Int) + 1) = (i : Int) + 1 := by rw [IntKind.wrap_i64]; omega
      obtain ⟨kk, hkk⟩ : ∃ kk, kk = o + i * 2 := ⟨_, rfl⟩
      rw [← hkk] at hix hcl
      have k0 : wr.cell? ⟨b, kk, none⟩ = some (S n) := hcl.1
      have k1 : wr.cell? ⟨b, kk + 1, none⟩ = some (S u) := hcl.2
      have z1 : binOp .add 9 (S n) (.string ⟨#[58]⟩) = pure (S (n ++ [58])) := S_add 9 n [58] (by simp; omega)
      obtain ⟨Z1, hZ1⟩ : ∃ X, X = n ++ [58] := ⟨_, rfl⟩
      rw [← hZ1] at z1
      have z2 : binOp .add 9 (S Z1) (S u) = pure (S (Z1 ++ u)) := S_add 9 Z1 u (by rw [hZ1, List.length_append]; simp; omega)
      obtain ⟨Z2, hZ2⟩ : ∃ X, X = Z1 ++ u := ⟨_, rfl⟩
      rw [← hZ2] at z2
      have hZ : Z2 = n ++ 58 :: u := by rw [hZ2, hZ1]; simp
      have hps := fun w => parse_any Z2 (by rw [hZ2, hZ1, List.length_append, List.length_append]; simp; omega) w
      obtain ⟨⟨pn, pv, fine⟩, hP⟩ : ∃ x, x = parseF Z2 := ⟨_, rfl⟩
      rw [← hP] at hps
      unfold parseV at hps
      dsimp only at hps
      have HPS := Lib.hid hps
      have HA1 := Lib.hid fun w => alike_bel n clL (by omega) (by decide) w
      have HA2 := Lib.hid fun w => alike_bel n teL (by omega) (by decide) w
      have HA3 := Lib.hid fun w => alike_bel n coL (by omega) (by decide) w
      have HBAD : Hid (fldOk c (n, u) = false → O = false) := Lib.hid fun h => by rw [HO.out.2]; exact right_bad hf h
      have HFO : Hid (fldOk c (n, u) = (((pn, pv, fine) == (n, u, true)) && (!(alikeF n clL) && (!(alikeF n teL) && (c == 101 || !(alikeF n coL)))))) := Lib.hid (by unfold fldOk; dsimp only; rw [← hZ, ← hP])
      have HNX : Hid (fldOk c (n, u) = true → (fs.take (i + 1)).all (fldOk c) = true) := Lib.hid fun h => by
        rw [List.take_add_one, hf, List.all_append, HR.out.2]
        show (true && (fldOk c (n, u) && true)) = true
        rw [h]; rfl
      have HRR := Lib.hid HR.out.1
      have q1 := eq_text10 n pn
      have q2 := eq_text10 u pv
      obtain ⟨x1, hx1⟩ : ∃ x, x = alikeF n clL := ⟨_, rfl⟩
      obtain ⟨x2, hx2⟩ : ∃ x, x = alikeF n teL := ⟨_, rfl⟩
      obtain ⟨x3, hx3⟩ : ∃ x, x = alikeF n coL := ⟨_, rfl⟩
      rw [← hx1] at HA1 HFO
      rw [← hx2] at HA2 HFO
      rw [← hx3] at HA3 HFO
      clear hps hP hZ hZ1 hZ2 hf hkk hcl HR hx1 hx2 hx3 hfl hN2
      obtain ⟨W4, hW4⟩ : ∃ W, W = wr.alloc (.cells #[S n, S u] 35) := ⟨_, rfl⟩
      obtain ⟨b4, hb4⟩ : ∃ b, b = wr.heap.size := ⟨_, rfl⟩
      have hB4 : Below wr.heap.size wr W4 := by rw [hW4]; exact (Below.refl _ wr).alloc (Nat.le_refl _) _
      have H4 := Lib.hid (And.intro (HRR.out.below hB4) (show Row W4 b4 #[S n, S u] 35 by rw [hW4, hb4]; exact row_new _ _ _))
      clear hB4
      cases fine with
      | false =>
        go_wp2_with fail
        all_goals try rw [← hW4, ← hb4]
        clear hW4 hb4 k0 k1 d0 d1
        refine (HPS.out _).mono ?_
        rintro e W5 ⟨rfl, hB⟩
        have hB6 : Below W4.heap.size W4 (W5.alloc (.cells #[S pn, S pv] 35)) := hB.alloc hB.size _
        have H5 := Lib.hid (And.intro (H4.out.1.below hB6) (H4.out.2.below hB6 H4.out.2.lt))
        have e0 : (W5.alloc (.cells #[S pn, S pv] 35)).cell? ⟨b4, 0, none⟩ = some (S n) := cell_of_row _ _ 0 _ _ (0, 0) H5.out.2
        have e1 : (W5.alloc (.cells #[S pn, S pv] 35)).cell? ⟨b4, 1, none⟩ = some (S u) := cell_of_row _ _ 1 _ _ (0, 0) H5.out.2
        clear hB hB6 H4

        have HP : Hid (O = false) := Lib.hid (HBAD.out (by rw [HFO.out]; simp))
        go_wp2
        go_ret
        exact ⟨by rw [HP.out]; rfl, H5.out.1.bel⟩
      | true =>
      by_cases hn : n = pn
      case neg =>
        rw [show (n == pn) = false from beq_eq_false_iff_ne.2 hn] at q1
        have HNE := Lib.hid hn
        clear hn
        go_wp2_with fail
        all_goals try rw [← hW4, ← hb4]
        clear hW4 hb4 k0 k1 d0 d1
        refine (HPS.out _).mono ?_
        rintro e W5 ⟨rfl, hB⟩
        have hB6 : Below W4.heap.size W4 (W5.alloc (.cells #[S pn, S pv] 35)) := hB.alloc hB.size _
        have H5 := Lib.hid (And.intro (H4.out.1.below hB6) (H4.out.2.below hB6 H4.out.2.lt))
        have e0 : (W5.alloc (.cells #[S pn, S pv] 35)).cell? ⟨b4, 0, none⟩ = some (S n) := cell_of_row _ _ 0 _ _ (0, 0) H5.out.2
        have e1 : (W5.alloc (.cells #[S pn, S pv] 35)).cell? ⟨b4, 1, none⟩ = some (S u) := cell_of_row _ _ 1 _ _ (0, 0) H5.out.2
        clear hB hB6 H4

        have HP : Hid (O = false) := Lib.hid (HBAD.out (by rw [HFO.out]; rw [show ((pn, pv, true) == (n, u, true)) = false from beq_eq_false_iff_ne.2 (fun e => HNE.out (by injection e with e1; exact e1.symm))]; rfl))
        go_wp2
        go_ret
        exact ⟨by rw [HP.out]; rfl, H5.out.1.bel⟩
      by_cases hu : u = pv
      case neg =>
        rw [show (n == pn) = true from beq_iff_eq.2 hn] at q1
        rw [show (u == pv) = false from beq_eq_false_iff_ne.2 hu] at q2
        have HNE := Lib.hid hu
        clear hn hu
        go_wp2_with fail
        all_goals try rw [← hW4, ← hb4]
        clear hW4 hb4 k0 k1 d0 d1
        refine (HPS.out _).mono ?_
        rintro e W5 ⟨rfl, hB⟩
        have hB6 : Below W4.heap.size W4 (W5.alloc (.cells #[S pn, S pv] 35)) := hB.alloc hB.size _
        have H5 := Lib.hid (And.intro (H4.out.1.below hB6) (H4.out.2.below hB6 H4.out.2.lt))
        have e0 : (W5.alloc (.cells #[S pn, S pv] 35)).cell? ⟨b4, 0, none⟩ = some (S n) := cell_of_row _ _ 0 _ _ (0, 0) H5.out.2
        have e1 : (W5.alloc (.cells #[S pn, S pv] 35)).cell? ⟨b4, 1, none⟩ = some (S u) := cell_of_row _ _ 1 _ _ (0, 0) H5.out.2
        clear hB hB6 H4

        have HP : Hid (O = false) := Lib.hid (HBAD.out (by rw [HFO.out]; rw [show ((pn, pv, true) == (n, u, true)) = false from beq_eq_false_iff_ne.2 (fun e => HNE.out (by injection e with _ e2; injection e2 with e3; exact e3.symm))]; rfl))
        go_wp2
        go_ret
        exact ⟨by rw [HP.out]; rfl, H5.out.1.bel⟩
      rw [show (n == pn) = true from beq_iff_eq.2 hn] at q1
      rw [show (u == pv) = true from beq_iff_eq.2 hu] at q2
      have HFO2 : Hid (fldOk c (n, u) = (!x1 && (!x2 && (c == 101 || !x3)))) := Lib.hid (by rw [HFO.out, ← hn, ← hu]; simp)
      clear hn hu HFO
      cases x1 with
      | true =>
        go_wp2_with fail
        all_goals try rw [← hW4, ← hb4]
        clear hW4 hb4 k0 k1 d0 d1
        refine (HPS.out _).mono ?_
        rintro e W5 ⟨rfl, hB⟩
        have hB6 : Below W4.heap.size W4 (W5.alloc (.cells #[S pn, S pv] 35)) := hB.alloc hB.size _
        have H5 := Lib.hid (And.intro (H4.out.1.below hB6) (H4.out.2.below hB6 H4.out.2.lt))
        have e0 : (W5.alloc (.cells #[S pn, S pv] 35)).cell? ⟨b4, 0, none⟩ = some (S n) := cell_of_row _ _ 0 _ _ (0, 0) H5.out.2
        have e1 : (W5.alloc (.cells #[S pn, S pv] 35)).cell? ⟨b4, 1, none⟩ = some (S u) := cell_of_row _ _ 1 _ _ (0, 0) H5.out.2
        clear hB hB6 H4

        go_wp2_with fail
        refine (HA1.out _).mono ?_
        rintro e W7 ⟨rfl, hB⟩
        have H7 := Lib.hid (And.intro (H5.out.1.below hB) (H5.out.2.below hB H5.out.2.lt))

        clear hB H5

        have HP : Hid (O = false) := Lib.hid (HBAD.out (by rw [HFO2.out]; rfl))
        go_wp2
        go_ret
        exact ⟨by rw [HP.out]; rfl, H7.out.1.bel⟩
      | false =>
      cases x2 with
      | true =>
        go_wp2_with fail
        all_goals try rw [← hW4, ← hb4]
        clear hW4 hb4 k0 k1 d0 d1
        refine (HPS.out _).mono ?_
        rintro e W5 ⟨rfl, hB⟩
        have hB6 : Below W4.heap.size W4 (W5.alloc (.cells #[S pn, S pv] 35)) := hB.alloc hB.size _
        have H5 := Lib.hid (And.intro (H4.out.1.below hB6) (H4.out.2.below hB6 H4.out.2.lt))
        have e0 : (W5.alloc (.cells #[S pn, S pv] 35)).cell? ⟨b4, 0, none⟩ = some (S n) := cell_of_row _ _ 0 _ _ (0, 0) H5.out.2
        have e1 : (W5.alloc (.cells #[S pn, S pv] 35)).cell? ⟨b4, 1, none⟩ = some (S u) := cell_of_row _ _ 1 _ _ (0, 0) H5.out.2
        clear hB hB6 H4

        go_wp2_with fail
        refine (HA1.out _).mono ?_
        rintro e W7 ⟨rfl, hB⟩
        have H7 := Lib.hid (And.intro (H5.out.1.below hB) (H5.out.2.below hB H5.out.2.lt))
        have f0 : W7.cell? ⟨b4, 0, none⟩ = some (S n) := cell_of_row _ _ 0 _ _ (0, 0) H7.out.2
        have c0 : W7.cell? ⟨b1, 0, none⟩ = some (.int .i64 c) := cell_of_row _ _ 0 _ _ (0, 0) H7.out.1.row
        clear hB H5

        go_wp2_with fail
        refine (HA2.out _).mono ?_
        rintro e W8 ⟨rfl, hB⟩
        have H8 := Lib.hid (And.intro (H7.out.1.below hB) (H7.out.2.below hB H7.out.2.lt))
        have i0 : W8.cell? ⟨b4, 0, none⟩ = some (S n) := cell_of_row _ _ 0 _ _ (0, 0) H8.out.2
        have j0 : W8.cell? ⟨b1, 0, none⟩ = some (.int .i64 c) := cell_of_row _ _ 0 _ _ (0, 0) H8.out.1.row
        clear hB H7

        have HP : Hid (O = false) := Lib.hid (HBAD.out (by rw [HFO2.out]; rfl))
        go_wp2
        go_ret
        exact ⟨by rw [HP.out]; rfl, H8.out.1.bel⟩
      | false =>
      by_cases hc : c = 101
      case pos =>
        have r1 : (c == 101) = true := beq_iff_eq.2 hc
        have r2 : (c != 101) = false := by rw [bne_eq_false_iff_eq]; exact hc
        have HC := Lib.hid r1
        clear hc
        go_wp2_with fail
        all_goals try rw [← hW4, ← hb4]
        clear hW4 hb4 k0 k1 d0 d1
        refine (HPS.out _).mono ?_
        rintro e W5 ⟨rfl, hB⟩
        have hB6 : Below W4.heap.size W4 (W5.alloc (.cells #[S pn, S pv] 35)) := hB.alloc hB.size _
        have H5 := Lib.hid (And.intro (H4.out.1.below hB6) (H4.out.2.below hB6 H4.out.2.lt))
        have e0 : (W5.alloc (.cells #[S pn, S pv] 35)).cell? ⟨b4, 0, none⟩ = some (S n) := cell_of_row _ _ 0 _ _ (0, 0) H5.out.2
        have e1 : (W5.alloc (.cells #[S pn, S pv] 35)).cell? ⟨b4, 1, none⟩ = some (S u) := cell_of_row _ _ 1 _ _ (0, 0) H5.out.2
        clear hB hB6 H4

        go_wp2_with fail
        refine (HA1.out _).mono ?_
        rintro e W7 ⟨rfl, hB⟩
        have H7 := Lib.hid (And.intro (H5.out.1.below hB) (H5.out.2.below hB H5.out.2.lt))
        have f0 : W7.cell? ⟨b4, 0, none⟩ = some (S n) := cell_of_row _ _ 0 _ _ (0, 0) H7.out.2
        have c0 : W7.cell? ⟨b1, 0, none⟩ = some (.int .i64 c) := cell_of_row _ _ 0 _ _ (0, 0) H7.out.1.row
        clear hB H5

        go_wp2_with fail
        refine (HA2.out _).mono ?_
        rintro e W8 ⟨rfl, hB⟩
        have H8 := Lib.hid (And.intro (H7.out.1.below hB) (H7.out.2.below hB H7.out.2.lt))
        have i0 : W8.cell? ⟨b4, 0, none⟩ = some (S n) := cell_of_row _ _ 0 _ _ (0, 0) H8.out.2
        have j0 : W8.cell? ⟨b1, 0, none⟩ = some (.int .i64 c) := cell_of_row _ _ 0 _ _ (0, 0) H8.out.1.row
        clear hB H7

        have HG : Hid ((fs.take (i + 1)).all (fldOk c) = true) := Lib.hid (HNX.out (by rw [HFO2.out]; rw [HC.out]; rfl))
        go_wp2
        exact ⟨⟨i + 1, by omega, by go_num, Lib.hid ⟨H8.out.1, HG.out⟩⟩, by simp [intOf]; omega⟩
      have r1 : (c == 101) = false := beq_eq_false_iff_ne.2 hc
      have r2 : (c != 101) = true := bne_iff_ne.2 hc
      have HC := Lib.hid r1
      clear hc
      cases x3 with
      | true =>
        go_wp2_with fail
        all_goals try rw [← hW4, ← hb4]
        clear hW4 hb4 k0 k1 d0 d1
        refine (HPS.out _).mono ?_
        rintro e W5 ⟨rfl, hB⟩
        have hB6 : Below W4.heap.size W4 (W5.alloc (.cells #[S pn, S pv] 35)) := hB.alloc hB.size _
        have H5 := Lib.hid (And.intro (H4.out.1.below hB6) (H4.out.2.below hB6 H4.out.2.lt))
        have e0 : (W5.alloc (.cells #[S pn, S pv] 35)).cell? ⟨b4, 0, none⟩ = some (S n) := cell_of_row _ _ 0 _ _ (0, 0) H5.out.2
        have e1 : (W5.alloc (.cells #[S pn, S pv] 35)).cell? ⟨b4, 1, none⟩ = some (S u) := cell_of_row _ _ 1 _ _ (0, 0) H5.out.2
        clear hB hB6 H4

        go_wp2_with fail
        refine (HA1.out _).mono ?_
        rintro e W7 ⟨rfl, hB⟩
        have H7 := Lib.hid (And.intro (H5.out.1.below hB) (H5.out.2.below hB H5.out.2.lt))
        have f0 : W7.cell? ⟨b4, 0, none⟩ = some (S n) := cell_of_row _ _ 0 _ _ (0, 0) H7.out.2
        have c0 : W7.cell? ⟨b1, 0, none⟩ = some (.int .i64 c) := cell_of_row _ _ 0 _ _ (0, 0) H7.out.1.row
        clear hB H5

        go_wp2_with fail
        refine (HA2.out _).mono ?_
        rintro e W8 ⟨rfl, hB⟩
        have H8 := Lib.hid (And.intro (H7.out.1.below hB) (H7.out.2.below hB H7.out.2.lt))
        have i0 : W8.cell? ⟨b4, 0, none⟩ = some (S n) := cell_of_row _ _ 0 _ _ (0, 0) H8.out.2
        have j0 : W8.cell? ⟨b1, 0, none⟩ = some (.int .i64 c) := cell_of_row _ _ 0 _ _ (0, 0) H8.out.1.row
        clear hB H7

        go_wp2_with fail
        refine (HA3.out _).mono ?_
        rintro e W9 ⟨rfl, hB⟩
        have H9 := Lib.hid (And.intro (H8.out.1.below hB) (H8.out.2.below hB H8.out.2.lt))

        clear hB H8

        have HP : Hid (O = false) := Lib.hid (HBAD.out (by rw [HFO2.out]; rw [HC.out]; rfl))
        go_wp2
        go_ret
        exact ⟨by rw [HP.out]; rfl, H9.out.1.bel⟩
      | false =>
        go_wp2_with fail
        all_goals try rw [← hW4, ← hb4]
        clear hW4 hb4 k0 k1 d0 d1
        refine (HPS.out _).mono ?_
        rintro e W5 ⟨rfl, hB⟩
        have hB6 : Below W4.heap.size W4 (W5.alloc (.cells #[S pn, S pv] 35)) := hB.alloc hB.size _
        have H5 := Lib.hid (And.intro (H4.out.1.below hB6) (H4.out.2.below hB6 H4.out.2.lt))
        have e0 : (W5.alloc (.cells #[S pn, S pv] 35)).cell? ⟨b4, 0, none⟩ = some (S n) := cell_of_row _ _ 0 _ _ (0, 0) H5.out.2
        have e1 : (W5.alloc (.cells #[S pn, S pv] 35)).cell? ⟨b4, 1, none⟩ = some (S u) := cell_of_row _ _ 1 _ _ (0, 0) H5.out.2
        clear hB hB6 H4

        go_wp2_with fail
        refine (HA1.out _).mono ?_
        rintro e W7 ⟨rfl, hB⟩
        have H7 := Lib.hid (And.intro (H5.out.1.below hB) (H5.out.2.below hB H5.out.2.lt))
        have f0 : W7.cell? ⟨b4, 0, none⟩ = some (S n) := cell_of_row _ _ 0 _ _ (0, 0) H7.out.2
        have c0 : W7.cell? ⟨b1, 0, none⟩ = some (.int .i64 c) := cell_of_row _ _ 0 _ _ (0, 0) H7.out.1.row
        clear hB H5

        go_wp2_with fail
        refine (HA2.out _).mono ?_
        rintro e W8 ⟨rfl, hB⟩
        have H8 := Lib.hid (And.intro (H7.out.1.below hB) (H7.out.2.below hB H7.out.2.lt))
        have i0 : W8.cell? ⟨b4, 0, none⟩ = some (S n) := cell_of_row _ _ 0 _ _ (0, 0) H8.out.2
        have j0 : W8.cell? ⟨b1, 0, none⟩ = some (.int .i64 c) := cell_of_row _ _ 0 _ _ (0, 0) H8.out.1.row
        clear hB H7

        go_wp2_with fail
        refine (HA3.out _).mono ?_
        rintro e W9 ⟨rfl, hB⟩
        have H9 := Lib.hid (And.intro (H8.out.1.below hB) (H8.out.2.below hB H8.out.2.lt))

        clear hB H8

        have HG : Hid ((fs.take (i + 1)).all (fldOk c) = true) := Lib.hid (HNX.out (by rw [HFO2.out]; rw [HC.out]; rfl))
        go_wp2
        exact ⟨⟨i + 1, by omega, by go_num, Lib.hid ⟨H9.out.1, HG.out⟩⟩, by simp [intOf]; omega⟩
  | false =>
    have HOA : Hid (O = fs.all (fldOk c)) := Lib.hid (by rw [HO3.out]; rfl)
    go_enter Tryz.func10, Tryz.ntmps10
    go_wp2_with fail
    all_goals try rw [← hW1, ← hb1]
    clear hW1 hb1

    refine (HB.out _).mono ?_
    rintro e W' ⟨rfl, rfl⟩
    go_wp2_with fail

    go_loopw [3] (fun iv wr => ∃ i : Nat, i ≤ N ∧ iv = .int .i64 (i : Int) ∧ Hid (RtAt w b1 c V body fs b o wr ∧ (fs.take i).all (fldOk c) = true)) (fun iv _ => N - (intOf iv).toNat)
    case atStart => exact ⟨0, Nat.zero_le _, rfl, Lib.hid ⟨HM.out, by rw [List.take_zero]; rfl⟩⟩
    case round =>
      obtain ⟨i, hi, rfl, HR⟩ := hrel
      have d0 : wr.cell? ⟨b1, 0, none⟩ = some (.int .i64 c) := cell_of_row wr _ 0 _ _ (0, 0) HR.out.1.row
      have d1 : wr.cell? ⟨b1, 1, none⟩ = some V := cell_of_row wr _ 1 _ _ (0, 0) HR.out.1.row
      by_cases hlt : i < N
      case neg =>
        obtain rfl : i = N := by omega
        have g3 : decide ((i : Int) < (i : Int)) = false := decide_eq_false (by omega)
        have HP : Hid (O = true) := Lib.hid (by rw [HOA.out]; have h := HR.out.2; rw [HN.out.1, List.take_length] at h; exact h)
        go_wp2
        go_ret
        exact ⟨by rw [HP.out]; rfl, HR.out.1.bel⟩
      have g3 : decide ((i : Int) < (N : Int)) = true := decide_eq_true (by omega)
      obtain ⟨⟨n, u⟩, hf⟩ : ∃ f, fs[i]? = some f := ⟨fs[i]'(by have := HN.out.1; omega), List.getElem?_eq_getElem _⟩
      have hix := HR.out.1.fa.index i (by have := HN.out.1; omega)
      have hcl := HR.out.1.fa.cell i _ hf
      have hfl := fsLen_mem (List.mem_of_getElem? hf)
      have hN2 := HN.out.2.1
      dsimp only at hfl
      have hwi : IntKind.i64.wrap ((i : Int) + 1) = (i : Int) + 1 := by rw [IntKind.wrap_i64]; omega
      obtain ⟨kk, hkk⟩ : ∃ kk, kk = o + i * 2 := ⟨_, rfl⟩
      rw [← hkk] at hix hcl
      have k0 : wr.cell? ⟨b, kk, none⟩ = some (S n) := hcl.1
      have k1 : wr.cell? ⟨b, kk + 1, none⟩ = some (S u) := hcl.2
      have z1 : binOp .add 9 (S n) (.string ⟨#[58]⟩) = pure (S (n ++ [58])) := S_add 9 n [58] (by simp; omega)
      obtain ⟨Z1, hZ1⟩ : ∃ X, X = n ++ [58] := ⟨_, rfl⟩
      rw [← hZ1] at z1
      have z2 : binOp .add 9 (S Z1) (S u) = pure (S (Z1 ++ u)) := S_add 9 Z1 u (by rw [hZ1, List.length_append]; simp; omega)
      obtain ⟨Z2, hZ2⟩ : ∃ X, X = Z1 ++ u := ⟨_, rfl⟩
      rw [← hZ2] at z2
      have hZ : Z2 = n ++ 58 :: u := by rw [hZ2, hZ1]; simp
      have hps := fun w => parse_any Z2 (by rw [hZ2, hZ1, List.length_append, List.length_append]; simp; omega) w
      obtain ⟨⟨pn, pv, fine⟩, hP⟩ : ∃ x, x = parseF Z2 := ⟨_, rfl⟩
      rw [← hP] at hps
      unfold parseV at hps
      dsimp only at hps
      have HPS := Lib.hid hps
      have HA1 := Lib.hid fun w => alike_bel n clL (by omega) (by decide) w
      have HA2 := Lib.hid fun w => alike_bel n teL (by omega) (by decide) w
      have HA3 := Lib.hid fun w => alike_bel n coL (by omega) (by decide) w
      have HBAD : Hid (fldOk c (n, u) = false → O = false) := Lib.hid fun h => by rw [HO.out.2]; exact right_bad hf h
      have HFO : Hid (fldOk c (n, u) = (((pn, pv, fine) == (n, u, true)) && (!(alikeF n clL) && (!(alikeF n teL) && (c == 101 || !(alikeF n coL)))))) := Lib.hid (by unfold fldOk; dsimp only; rw [← hZ, ← hP])
      have HNX : Hid (fldOk c (n, u) = true → (fs.take (i + 1)).all (fldOk c) = true) := Lib.hid fun h => by
        rw [List.take_add_one, hf, List.all_append, HR.out.2]
        show (true && (fldOk c (n, u) && true)) = true
        rw [h]; rfl
      have HRR := Lib.hid HR.out.1
      have q1 := eq_text10 n pn
      have q2 := eq_text10 u pv
      obtain ⟨x1, hx1⟩ : ∃ x, x = alikeF n clL := ⟨_, rfl⟩
      obtain ⟨x2, hx2⟩ : ∃ x, x = alikeF n teL := ⟨_, rfl⟩
      obtain ⟨x3, hx3⟩ : ∃ x, x = alikeF n coL := ⟨_, rfl⟩
      rw [← hx1] at HA1 HFO
      rw [← hx2] at HA2 HFO
      rw [← hx3] at HA3 HFO
      clear hps hP hZ hZ1 hZ2 hf hkk hcl HR hx1 hx2 hx3 hfl hN2
      obtain ⟨W4, hW4⟩ : ∃ W, W = wr.alloc (.cells #[S n, S u] 35) := ⟨_, rfl⟩
      obtain ⟨b4, hb4⟩ : ∃ b, b = wr.heap.size := ⟨_, rfl⟩
      have hB4 : Below wr.heap.size wr W4 := by rw [hW4]; exact (Below.refl _ wr).alloc (Nat.le_refl _) _
      have H4 := Lib.hid (And.intro (HRR.out.below hB4) (show Row W4 b4 #[S n, S u] 35 by rw [hW4, hb4]; exact row_new _ _ _))
      clear hB4
      cases fine with
      | false =>
        go_wp2_with fail
        all_goals try rw [← hW4, ← hb4]
        clear hW4 hb4 k0 k1 d0 d1
        refine (HPS.out _).mono ?_
        rintro e W5 ⟨rfl, hB⟩
        have hB6 : Below W4.heap.size W4 (W5.alloc (.cells #[S pn, S pv] 35)) := hB.alloc hB.size _
        have H5 := Lib.hid (And.intro (H4.out.1.below hB6) (H4.out.2.below hB6 H4.out.2.lt))
        have e0 : (W5.alloc (.cells #[S pn, S pv] 35)).cell? ⟨b4, 0, none⟩ = some (S n) := cell_of_row _ _ 0 _ _ (0, 0) H5.out.2
        have e1 : (W5.alloc (.cells #[S pn, S pv] 35)).cell? ⟨b4, 1, none⟩ = some (S u) := cell_of_row _ _ 1 _ _ (0, 0) H5.out.2
        clear hB hB6 H4

        have HP : Hid (O = false) := Lib.hid (HBAD.out (by rw [HFO.out]; simp))
        go_wp2
        go_ret
        exact ⟨by rw [HP.out]; rfl, H5.out.1.bel⟩
      | true =>
      by_cases hn : n = pn
      case neg =>
        rw [show (n == pn) = false from beq_eq_false_iff_ne.2 hn] at q1
        have HNE := Lib.hid hn
        clear hn
        go_wp2_with fail
        all_goals try rw [← hW4, ← hb4]
        clear hW4 hb4 k0 k1 d0 d1
        refine (HPS.out _).mono ?_
        rintro e W5 ⟨rfl, hB⟩
        have hB6 : Below W4.heap.size W4 (W5.alloc (.cells #[S pn, S pv] 35)) := hB.alloc hB.size _
        have H5 := Lib.hid (And.intro (H4.out.1.below hB6) (H4.out.2.below hB6 H4.out.2.lt))
        have e0 : (W5.alloc (.cells #[S pn, S pv] 35)).cell? ⟨b4, 0, none⟩ = some (S n) := cell_of_row _ _ 0 _ _ (0, 0) H5.out.2
        have e1 : (W5.alloc (.cells #[S pn, S pv] 35)).cell? ⟨b4, 1, none⟩ = some (S u) := cell_of_row _ _ 1 _ _ (0, 0) H5.out.2
        clear hB hB6 H4

        have HP : Hid (O = false) := Lib.hid (HBAD.out (by rw [HFO.out]; rw [show ((pn, pv, true) == (n, u, true)) = false from beq_eq_false_iff_ne.2 (fun e => HNE.out (by injection e with e1; exact e1.symm))]; rfl))
        go_wp2
        go_ret
        exact ⟨by rw [HP.out]; rfl, H5.out.1.bel⟩
      by_cases hu : u = pv
      case neg =>
        rw [show (n == pn) = true from beq_iff_eq.2 hn] at q1
        rw [show (u == pv) = false from beq_eq_false_iff_ne.2 hu] at q2
        have HNE := Lib.hid hu
        clear hn hu
        go_wp2_with fail
        all_goals try rw [← hW4, ← hb4]
        clear hW4 hb4 k0 k1 d0 d1
        refine (HPS.out _).mono ?_
        rintro e W5 ⟨rfl, hB⟩
        have hB6 : Below W4.heap.size W4 (W5.alloc (.cells #[S pn, S pv] 35)) := hB.alloc hB.size _
        have H5 := Lib.hid (And.intro (H4.out.1.below hB6) (H4.out.2.below hB6 H4.out.2.lt))
        have e0 : (W5.alloc (.cells #[S pn, S pv] 35)).cell? ⟨b4, 0, none⟩ = some (S n) := cell_of_row _ _ 0 _ _ (0, 0) H5.out.2
        have e1 : (W5.alloc (.cells #[S pn, S pv] 35)).cell? ⟨b4, 1, none⟩ = some (S u) := cell_of_row _ _ 1 _ _ (0, 0) H5.out.2
        clear hB hB6 H4

        have HP : Hid (O = false) := Lib.hid (HBAD.out (by rw [HFO.out]; rw [show ((pn, pv, true) == (n, u, true)) = false from beq_eq_false_iff_ne.2 (fun e => HNE.out (by injection e with _ e2; injection e2 with e3; exact e3.symm))]; rfl))
        go_wp2
        go_ret
        exact ⟨by rw [HP.out]; rfl, H5.out.1.bel⟩
      rw [show (n == pn) = true from beq_iff_eq.2 hn] at q1
      rw [show (u == pv) = true from beq_iff_eq.2 hu] at q2
      have HFO2 : Hid (fldOk c (n, u) = (!x1 && (!x2 && (c == 101 || !x3)))) := Lib.hid (by rw [HFO.out, ← hn, ← hu]; simp)
      clear hn hu HFO
      cases x1 with
      | true =>
        go_wp2_with fail
        all_goals try rw [← hW4, ← hb4]
        clear hW4 hb4 k0 k1 d0 d1
        refine (HPS.out _).mono ?_
        rintro e W5 ⟨rfl, hB⟩
        have hB6 : Below W4.heap.size W4 (W5.alloc (.cells #[S pn, S pv] 35)) := hB.alloc hB.size _
        have H5 := Lib.hid (And.intro (H4.out.1.below hB6) (H4.out.2.below hB6 H4.out.2.lt))
        have e0 : (W5.alloc (.cells #[S pn, S pv] 35)).cell? ⟨b4, 0, none⟩ = some (S n) := cell_of_row _ _ 0 _ _ (0, 0) H5.out.2
        have e1 : (W5.alloc (.cells #[S pn, S pv] 35)).cell? ⟨b4, 1, none⟩ = some (S u) := cell_of_row _ _ 1 _ _ (0, 0) H5.out.2
        clear hB hB6 H4

        go_wp2_with fail
        refine (HA1.out _).mono ?_
        rintro e W7 ⟨rfl, hB⟩
        have H7 := Lib.hid (And.intro (H5.out.1.below hB) (H5.out.2.below hB H5.out.2.lt))

        clear hB H5

        have HP : Hid (O = false) := Lib.hid (HBAD.out (by rw [HFO2.out]; rfl))
        go_wp2
        go_ret
        exact ⟨by rw [HP.out]; rfl, H7.out.1.bel⟩
      | false =>
      cases x2 with
      | true =>
        go_wp2_with fail
        all_goals try rw [← hW4, ← hb4]
        clear hW4 hb4 k0 k1 d0 d1
        refine (HPS.out _).mono ?_
        rintro e W5 ⟨rfl, hB⟩
        have hB6 : Below W4.heap.size W4 (W5.alloc (.cells #[S pn, S pv] 35)) := hB.alloc hB.size _
        have H5 := Lib.hid (And.intro (H4.out.1.below hB6) (H4.out.2.below hB6 H4.out.2.lt))
        have e0 : (W5.alloc (.cells #[S pn, S pv] 35)).cell? ⟨b4, 0, none⟩ = some (S n) := cell_of_row _ _ 0 _ _ (0, 0) H5.out.2
        have e1 : (W5.alloc (.cells #[S pn, S pv] 35)).cell? ⟨b4, 1, none⟩ = some (S u) := cell_of_row _ _ 1 _ _ (0, 0) H5.out.2
        clear hB hB6 H4

        go_wp2_with fail
        refine (HA1.out _).mono ?_
        rintro e W7 ⟨rfl, hB⟩
        have H7 := Lib.hid (And.intro (H5.out.1.below hB) (H5.out.2.below hB H5.out.2.lt))
        have f0 : W7.cell? ⟨b4, 0, none⟩ = some (S n) := cell_of_row _ _ 0 _ _ (0, 0) H7.out.2
        have c0 : W7.cell? ⟨b1, 0, none⟩ = some (.int .i64 c) := cell_of_row _ _ 0 _ _ (0, 0) H7.out.1.row
        clear hB H5

        go_wp2_with fail
        refine (HA2.out _).mono ?_
        rintro e W8 ⟨rfl, hB⟩
        have H8 := Lib.hid (And.intro (H7.out.1.below hB) (H7.out.2.below hB H7.out.2.lt))
        have i0 : W8.cell? ⟨b4, 0, none⟩ = some (S n) := cell_of_row _ _ 0 _ _ (0, 0) H8.out.2
        have j0 : W8.cell? ⟨b1, 0, none⟩ = some (.int .i64 c) := cell_of_row _ _ 0 _ _ (0, 0) H8.out.1.row
        clear hB H7

        have HP : Hid (O = false) := Lib.hid (HBAD.out (by rw [HFO2.out]; rfl))
        go_wp2
        go_ret
        exact ⟨by rw [HP.out]; rfl, H8.out.1.bel⟩
      | false =>
      by_cases hc : c = 101
      case pos =>
        have r1 : (c == 101) = true := beq_iff_eq.2 hc
        have r2 : (c != 101) = false := by rw [bne_eq_false_iff_eq]; exact hc
        have HC := Lib.hid r1
        clear hc
        go_wp2_with fail
        all_goals try rw [← hW4, ← hb4]
        clear hW4 hb4 k0 k1 d0 d1
        refine (HPS.out _).mono ?_
        rintro e W5 ⟨rfl, hB⟩
        have hB6 : Below W4.heap.size W4 (W5.alloc (.cells #[S pn, S pv] 35)) := hB.alloc hB.size _
        have H5 := Lib.hid (And.intro (H4.out.1.below hB6) (H4.out.2.below hB6 H4.out.2.lt))
        have e0 : (W5.alloc (.cells #[S pn, S pv] 35)).cell? ⟨b4, 0, none⟩ = some (S n) := cell_of_row _ _ 0 _ _ (0, 0) H5.out.2
        have e1 : (W5.alloc (.cells #[S pn, S pv] 35)).cell? ⟨b4, 1, none⟩ = some (S u) := cell_of_row _ _ 1 _ _ (0, 0) H5.out.2
        clear hB hB6 H4

        go_wp2_with fail
        refine (HA1.out _).mono ?_
        rintro e W7 ⟨rfl, hB⟩
        have H7 := Lib.hid (And.intro (H5.out.1.below hB) (H5.out.2.below hB H5.out.2.lt))
        have f0 : W7.cell? ⟨b4, 0, none⟩ = some (S n) := cell_of_row _ _ 0 _ _ (0, 0) H7.out.2
        have c0 : W7.cell? ⟨b1, 0, none⟩ = some (.int .i64 c) := cell_of_row _ _ 0 _ _ (0, 0) H7.out.1.row
        clear hB H5

        go_wp2_with fail
        refine (HA2.out _).mono ?_
        rintro e W8 ⟨rfl, hB⟩
        have H8 := Lib.hid (And.intro (H7.out.1.below hB) (H7.out.2.below hB H7.out.2.lt))
        have i0 : W8.cell? ⟨b4, 0, none⟩ = some (S n) := cell_of_row _ _ 0 _ _ (0, 0) H8.out.2
        have j0 : W8.cell? ⟨b1, 0, none⟩ = some (.int .i64 c) := cell_of_row _ _ 0 _ _ (0, 0) H8.out.1.row
        clear hB H7

        have HG : Hid ((fs.take (i + 1)).all (fldOk c) = true) := Lib.hid (HNX.out (by rw [HFO2.out]; rw [HC.out]; rfl))
        go_wp2
        exact ⟨⟨i + 1, by omega, by go_num, Lib.hid ⟨H8.out.1, HG.out⟩⟩, by simp [intOf]; omega⟩
      have r1 : (c == 101) = false := beq_eq_false_iff_ne.2 hc
      have r2 : (c != 101) = true := bne_iff_ne.2 hc
      have HC := Lib.hid r1
      clear hc
      cases x3 with
      | true =>
        go_wp2_with fail
        all_goals try rw [← hW4, ← hb4]
        clear hW4 hb4 k0 k1 d0 d1
        refine (HPS.out _).mono ?_
        rintro e W5 ⟨rfl, hB⟩
        have hB6 : Below W4.heap.size W4 (W5.alloc (.cells #[S pn, S pv] 35)) := hB.alloc hB.size _
        have H5 := Lib.hid (And.intro (H4.out.1.below hB6) (H4.out.2.below hB6 H4.out.2.lt))
        have e0 : (W5.alloc (.cells #[S pn, S pv] 35)).cell? ⟨b4, 0, none⟩ = some (S n) := cell_of_row _ _ 0 _ _ (0, 0) H5.out.2
        have e1 : (W5.alloc (.cells #[S pn, S pv] 35)).cell? ⟨b4, 1, none⟩ = some (S u) := cell_of_row _ _ 1 _ _ (0, 0) H5.out.2
        clear hB hB6 H4

        go_wp2_with fail
        refine (HA1.out _).mono ?_
        rintro e W7 ⟨rfl, hB⟩
        have H7 := Lib.hid (And.intro (H5.out.1.below hB) (H5.out.2.below hB H5.out.2.lt))
        have f0 : W7.cell? ⟨b4, 0, none⟩ = some (S n) := cell_of_row _ _ 0 _ _ (0, 0) H7.out.2
        have c0 : W7.cell? ⟨b1, 0, none⟩ = some (.int .i64 c) := cell_of_row _ _ 0 _ _ (0, 0) H7.out.1.row
        clear hB H5

        go_wp2_with fail
        refine (HA2.out _).mono ?_
        rintro e W8 ⟨rfl, hB⟩
        have H8 := Lib.hid (And.intro (H7.out.1.below hB) (H7.out.2.below hB H7.out.2.lt))
        have i0 : W8.cell? ⟨b4, 0, none⟩ = some (S n) := cell_of_row _ _ 0 _ _ (0, 0) H8.out.2
        have j0 : W8.cell? ⟨b1, 0, none⟩ = some (.int .i64 c) := cell_of_row _ _ 0 _ _ (0, 0) H8.out.1.row
        clear hB H7

        go_wp2_with fail
        refine (HA3.out _).mono ?_
        rintro e W9 ⟨rfl, hB⟩
        have H9 := Lib.hid (And.intro (H8.out.1.below hB) (H8.out.2.below hB H8.out.2.lt))

        clear hB H8

        have HP : Hid (O = false) := Lib.hid (HBAD.out (by rw [HFO2.out]; rw [HC.out]; rfl))
        go_wp2
        go_ret
        exact ⟨by rw [HP.out]; rfl, H9.out.1.bel⟩
      | false =>
        go_wp2_with fail
        all_goals try rw [← hW4, ← hb4]
        clear hW4 hb4 k0 k1 d0 d1
        refine (HPS.out _).mono ?_
        rintro e W5 ⟨rfl, hB⟩
        have hB6 : Below W4.heap.size W4 (W5.alloc (.cells #[S pn, S pv] 35)) := hB.alloc hB.size _
        have H5 := Lib.hid (And.intro (H4.out.1.below hB6) (H4.out.2.below hB6 H4.out.2.lt))
        have e0 : (W5.alloc (.cells #[S pn, S pv] 35)).cell? ⟨b4, 0, none⟩ = some (S n) := cell_of_row _ _ 0 _ _ (0, 0) H5.out.2
        have e1 : (W5.alloc (.cells #[S pn, S pv] 35)).cell? ⟨b4, 1, none⟩ = some (S u) := cell_of_row _ _ 1 _ _ (0, 0) H5.out.2
        clear hB hB6 H4

        go_wp2_with fail
        refine (HA1.out _).mono ?_
        rintro e W7 ⟨rfl, hB⟩
        have H7 := Lib.hid (And.intro (H5.out.1.below hB) (H5.out.2.below hB H5.out.2.lt))
        have f0 : W7.cell? ⟨b4, 0, none⟩ = some (S n) := cell_of_row _ _ 0 _ _ (0, 0) H7.out.2
        have c0 : W7.cell? ⟨b1, 0, none⟩ = some (.int .i64 c) := cell_of_row _ _ 0 _ _ (0, 0) H7.out.1.row
        clear hB H5

        go_wp2_with fail
        refine (HA2.out _).mono ?_
        rintro e W8 ⟨rfl, hB⟩
        have H8 := Lib.hid (And.intro (H7.out.1.below hB) (H7.out.2.below hB H7.out.2.lt))
        have i0 : W8.cell? ⟨b4, 0, none⟩ = some (S n) := cell_of_row _ _ 0 _ _ (0, 0) H8.out.2
        have j0 : W8.cell? ⟨b1, 0, none⟩ = some (.int .i64 c) := cell_of_row _ _ 0 _ _ (0, 0) H8.out.1.row
        clear hB H7

        go_wp2_with fail
        refine (HA3.out _).mono ?_
        rintro e W9 ⟨rfl, hB⟩
        have H9 := Lib.hid (And.intro (H8.out.1.below hB) (H8.out.2.below hB H8.out.2.lt))

        clear hB H8

        have HG : Hid ((fs.take (i + 1)).all (fldOk c) = true) := Lib.hid (HNX.out (by rw [HFO2.out]; rw [HC.out]; rfl))
        go_wp2
        exact ⟨⟨i + 1, by omega, by go_num, Lib.hid ⟨H9.out.1, HG.out⟩⟩, by simp [intOf]; omega⟩
end Go.Proofs.YtfdbmbgpcioogaaGreatDoor
/- The document's Bytes (stage 10) walked. (mkpf.py writes it.) -/
namespace Go.Proofs.YtfdbmbgpcioogaaGreatDoor
open Go.RowKit
attribute [local go_sem] store_one S_match S_store eguard_BN nguard_BN

section
variable {w w' : World} {base : Nat} {v : Value} {xs : List Value}
/-- One more text. -/
theorem own_push9 (h : Own base v xs w) (hb : base ≤ w.heap.size) (ty : TypeId) (y : Value) (hy : y.oneCell' = true) (hl : xs.length < 1000000000000) :
    ∃ v' w', (Builtin.append_ #[53, 53] ty #[v, .slice (some ⟨w.heap.size, 0, none⟩) 1 1]).run Tryz.prog (w.alloc (.cells #[y] 9)) = .ok v' w' ∧ Own base v' (xs ++ [y]) w' ∧ w.grownBy w' v.ownBlock := by
  obtain ⟨i, z, hi, hz, hs, hby, hzs⟩ := elem9
  have hc : (w.alloc (.cells #[y] 9)).cell? ⟨w.heap.size, 0, none⟩ = some y := by
    rw [cell_of_row _ _ 0 _ _ _ (row_new w #[y] 9)]; rfl
  obtain ⟨v', w', hr, h2, h3, _⟩ := run_push (P := Tryz.prog) (w.alloc (.cells #[y] 9)) base 53 ty 9 i z Tryz.underlying53 hi hz hs hby hzs v xs (h.alloc _) ⟨w.heap.size, 0, none⟩ y hc hy hl (by rw [alloc_size]; omega)
  exact ⟨v', w', hr, h2, ⟨h3.os, h3.tape, h3.output, Nat.le_trans (by simp) h3.size, fun j hj hn => (h3.block j (by rw [alloc_size]; omega) hn).trans (heap_alloc_old w _ hj)⟩⟩
/-- A slice of one text, just made. -/
theorem own_one9 (hb : base ≤ w.heap.size) (y : Value) : Own base (.slice (some ⟨w.heap.size, 0, none⟩) 1 1) [y] (w.alloc (.cells #[y] 9)) := by
  have := own_new (base := base) (e := 9) w [y] #[] 1 (by simp) (by simp [maxLen]) rfl hb
  exact (by simpa using this : Own base (.slice (some ⟨w.heap.size, 0, none⟩) 1 1) [y] (w.drew.alloc (.cells #[y] 9))).of_block (Nat.le_refl _) (fun k _ => rfl)
end
theorem joinE_take {ls : List (List UInt8)} {i : Nat} {l : List UInt8} (h : ls[i]? = some l) : joinE (ls.take (i + 1)) = (joinE (ls.take i) ++ l) ++ [13, 10] := by
  have hs : ∀ (a : List (List UInt8)) (l : List UInt8), joinE (a ++ [l]) = joinE a ++ (l ++ [13, 10]) := by
    intro a l
    induction a with
    | nil => simp [joinE]
    | cons k r ih => rw [List.cons_append, joinE, joinE, ih]; simp
  rw [List.take_add_one, h]
  show joinE (ls.take i ++ [l]) = _
  rw [hs, List.append_assoc]
theorem joinE_mono : ∀ (ls : List (List UInt8)) (i : Nat), (joinE (ls.take i)).length ≤ (joinE ls).length
  | [], i => by simp
  | l :: r, 0 => by simp [joinE]
  | l :: r, i + 1 => by
    have := joinE_mono r i
    rw [List.take_succ_cons, joinE, joinE, List.length_append, List.length_append, List.length_cons, List.length_cons, List.length_cons, List.length_cons]; omega
theorem joinE_mem : ∀ {ls : List (List UInt8)} {l : List UInt8}, l ∈ ls → l.length ≤ (joinE ls).length
  | k :: r, l, h => by
    rw [joinE, List.length_append, List.length_cons, List.length_cons]
    rcases List.mem_cons.1 h with rfl | h
    · omega
    · have := joinE_mem h; omega
theorem joinE_app : ∀ (a b : List (List UInt8)), joinE (a ++ b) = joinE a ++ joinE b
  | [], b => rfl
  | l :: a, b => by rw [List.cons_append, joinE, joinE, joinE_app a b]; simp
theorem joinE_flds : ∀ fs : List Fld, (joinE (fs.map fieldL)).length = fsLen fs
  | [] => rfl
  | f :: fs => by
    have ih := joinE_flds fs
    have e : fsLen (f :: fs) = f.1.length + f.2.length + 4 + fsLen fs := rfl
    rw [List.map_cons, joinE, List.length_append, List.length_cons, List.length_cons, ih, e]
    show (f.1 ++ 58 :: 32 :: f.2).length + _ = _
    rw [List.length_append, List.length_cons, List.length_cons]; omega
theorem st_len (c : Int) (h1 : 100 ≤ c) (h2 : c ≤ 599) : (stL c).length ≤ 60 := by
  unfold stL
  have := dec_len 3 c.toNat (by omega)
  have := (rsn_ok c).2
  rw [List.length_append, List.length_append, List.length_cons]
  show 9 + _ ≤ 60
  omega
theorem lines_len (c : Int) (fs : List Fld) (n : Nat) (close : Bool) (h1 : 100 ≤ c) (h2 : c ≤ 599) (hn : n ≤ 65536) : (joinE (stL c :: lnsR c fs n close)).length ≤ fsLen fs + 200 := by
  have hs := st_len c h1 h2
  have hm : (joinE ((moreL c n close).map fieldL)).length ≤ 100 := by
    rw [joinE_flds]
    have hd := dec_len 6 n (by omega)
    have e1 : fsLen [lenF n] = 14 + (Lib.decDigits n).length + 4 + 0 := rfl
    have e2 : fsLen [clsF] = 19 := rfl
    have e3 : fsLen [lenF n, clsF] = 14 + (Lib.decDigits n).length + 4 + 19 := rfl
    unfold moreL
    split
    · split
      · rw [List.nil_append, e2]; omega
      · show 0 ≤ 100; omega
    · split
      · show fsLen [lenF n, clsF] ≤ 100; rw [e3]; omega
      · show fsLen [lenF n] ≤ 100; rw [e1]; omega
  unfold lnsR
  rw [List.map_append, joinE, joinE_app, List.length_append, List.length_cons, List.length_cons, List.length_append, joinE_flds]
  omega
set_option maxRecDepth 100000 in
set_option maxHeartbeats 4000000 in
theorem dbytes_any (c : Int) (fs : List Fld) (body : List UInt8) (head close : Bool) (V : Value) (b o : Nat) (w : World) (hA : FA w V fs b o) (hl : rpLen fs body ≤ 80000) :
    Calls Tryz.prog 8 #[.agg (rpC c V body), .bool head, .bool close] w fun e w' => e = .returned (bytesV (bytesO c fs body head close)) ∧ Below w.heap.size w w' := by
  unfold rpC
  obtain ⟨O, hO⟩ : ∃ O, O = bytesO c fs body head close := ⟨_, rfl⟩
  rw [← hO]
  obtain ⟨b1, hb1⟩ : ∃ b, b = w.heap.size := ⟨_, rfl⟩
  obtain ⟨W1, hW1⟩ : ∃ W, W = w.alloc (.cells #[.int .i64 c, V, S body] 24) := ⟨_, rfl⟩
  have hB1 : Below w.heap.size w W1 := by rw [hW1]; exact (Below.refl _ w).alloc (Nat.le_refl _) _
  have hM1 : RtAt w b1 c V body fs b o W1 := ⟨by rw [hW1, hb1]; exact row_new _ _ _, hA.below hB1, hB1⟩
  have HM := Lib.hid hM1
  have c0 : W1.cell? ⟨b1, 0, none⟩ = some (.int .i64 c) := cell_of_row W1 _ 0 _ _ (0, 0) hM1.row
  have c1 : W1.cell? ⟨b1, 1, none⟩ = some V := cell_of_row W1 _ 1 _ _ (0, 0) hM1.row
  have c2 : W1.cell? ⟨b1, 2, none⟩ = some (S body) := cell_of_row W1 _ 2 _ _ (0, 0) hM1.row
  have HR := Lib.hid (dright_any c fs body V b o W1 hM1.fa hl)
  unfold rpC at HR
  have hlV := hA.len 3
  obtain ⟨N, hN⟩ : ∃ N, N = fs.length := ⟨_, rfl⟩
  rw [← hN] at hlV
  have hcnt := fsLen_count fs
  unfold rpLen at hl
  have HN := Lib.hid (And.intro hN hl)
  have hN5 : N ≤ 20000 := by omega
  obtain ⟨rb, hrb⟩ : ∃ rb, rb = rightB c fs body := ⟨_, rfl⟩
  rw [← hrb] at HR
  have HRB := Lib.hid hrb
  have HO : Hid (O = if (rb && !(close && c == 101)) = true then some (bytesB c fs body head close) else none) := Lib.hid (by rw [hO, hrb]; rfl)
  clear hM1 hB1 hA hN hO hl hcnt hrb
  cases rb with
  | false =>
    have HP : Hid (O = none) := Lib.hid (by rw [HO.out]; rfl)
    go_enter Tryz.func8, Tryz.ntmps8
    go_wp2_with fail
    all_goals try rw [← hW1, ← hb1]
    clear hW1 hb1
    refine HR.out.mono ?_
    rintro e W2 ⟨rfl, hB⟩
    have HB2 := Lib.hid hB
    have H2 := Lib.hid (HM.out.below hB)
    have d0 : W2.cell? ⟨b1, 0, none⟩ = some (.int .i64 c) := cell_of_row W2 _ 0 _ _ (0, 0) H2.out.row
    clear hB HR c0 c1 c2

    go_wp2
    go_ret2
    exact ⟨by rw [HP.out]; rfl, H2.out.bel⟩
  | true =>
    by_cases hcc : close = true ∧ c = 101
    case pos =>
      obtain ⟨hc1, hc2⟩ := hcc
      subst hc1
      have r1 : (c == 101) = true := beq_iff_eq.2 hc2
      have HP : Hid (O = none) := Lib.hid (by rw [HO.out, r1]; rfl)
      clear hc2
      go_enter Tryz.func8, Tryz.ntmps8
      go_wp2_with fail
      all_goals try rw [← hW1, ← hb1]
      clear hW1 hb1
      refine HR.out.mono ?_
      rintro e W2 ⟨rfl, hB⟩
      have HB2 := Lib.hid hB
      have H2 := Lib.hid (HM.out.below hB)
      have d0 : W2.cell? ⟨b1, 0, none⟩ = some (.int .i64 c) := cell_of_row W2 _ 0 _ _ (0, 0) H2.out.row
      clear hB HR c0 c1 c2

      go_wp2
      go_ret2
      exact ⟨by rw [HP.out]; rfl, H2.out.bel⟩
    have HNC : Hid (close = true → (c == 101) = false) := Lib.hid fun h => beq_eq_false_iff_ne.2 fun e => hcc ⟨h, e⟩
    clear hcc
    cases close with
    | true =>
      have r1 : (c == 101) = false := HNC.out rfl
      have HOK : Hid (O = some (bytesB c fs body head true)) := Lib.hid (by rw [HO.out, r1]; rfl)
      clear HNC HO
      go_enter Tryz.func8, Tryz.ntmps8
      go_wp2_with fail
      all_goals try rw [← hW1, ← hb1]
      clear hW1 hb1
      refine HR.out.mono ?_
      rintro e W2 ⟨rfl, hB⟩
      have HB2 := Lib.hid hB
      have H2 := Lib.hid (HM.out.below hB)
      have d0 : W2.cell? ⟨b1, 0, none⟩ = some (.int .i64 c) := cell_of_row W2 _ 0 _ _ (0, 0) H2.out.row
      clear hB HR c0 c1 c2

      have hRP := right_iff.1 HRB.out.symm
      have h100 := hRP.lo
      have h599 := hRP.hi
      have hbl := hRP.len
      clear hRP
      obtain ⟨u, rfl⟩ : ∃ u : Nat, c = (u : Int) := ⟨c.toNat, by omega⟩
      have hDN := fun W => dnumber10_any u (by omega) W
      have hRN := fun W => dreason_any (u : Int) W
      obtain ⟨D, hD⟩ : ∃ D, D = Lib.decDigits u := ⟨_, rfl⟩
      obtain ⟨R, hR⟩ : ∃ R, R = rsnF (u : Int) := ⟨_, rfl⟩
      have hDl := dec_len 3 u (by omega)
      have hRl := (rsn_ok (u : Int)).2
      rw [← hD] at hDN hDl
      rw [← hR] at hRN hRl
      have y1 : binOp .add 9 (.string ⟨#[72, 84, 84, 80, 47, 49, 46, 49, 32]⟩) (S D) = pure (S (httpS ++ D)) := S_add 9 httpS D (by show 9 + _ ≤ _; omega)
      obtain ⟨Y1, hY1⟩ : ∃ Y, Y = httpS ++ D := ⟨_, rfl⟩
      rw [← hY1] at y1
      have l1 : Y1.length ≤ 12 := by rw [hY1, List.length_append]; show 9 + _ ≤ _; omega
      have y2 : binOp .add 9 (S Y1) (.string ⟨#[32]⟩) = pure (S (Y1 ++ [32])) := S_add 9 Y1 [32] (by show _ + 1 ≤ _; omega)
      obtain ⟨Y2, hY2⟩ : ∃ Y, Y = Y1 ++ [32] := ⟨_, rfl⟩
      rw [← hY2] at y2
      have l2 : Y2.length ≤ 13 := by rw [hY2, List.length_append]; show _ + 1 ≤ _; omega
      have y3 : binOp .add 9 (S Y2) (S R) = pure (S (Y2 ++ R)) := S_add 9 Y2 R (by omega)
      obtain ⟨Y3, hY3⟩ : ∃ Y, Y = Y2 ++ R := ⟨_, rfl⟩
      rw [← hY3] at y3
      have HY : Hid (Y3 = stL (u : Int)) := Lib.hid (by rw [hY3, hY2, hY1, hD, hR]; unfold stL; simp)
      have HU := Lib.hid (show 100 ≤ u ∧ u ≤ 599 ∧ body.length ≤ 65536 by omega)
      have HDN := Lib.hid hDN
      have HRN := Lib.hid hRN
      have HBR := Lib.hid fun W => dbare10_any (u : Int) W
      have HDB := Lib.hid fun W => dnumber10_any body.length (by omega) W
      clear hDN hRN hY1 hY2 hY3 hD hR hDl hRl l1 l2 h100 h599 hbl
      obtain ⟨Wq, hWq⟩ : ∃ Wq, Wq = W2.drew := ⟨_, rfl⟩
      have hBq : Below W2.heap.size W2 Wq := by rw [hWq]; exact ⟨rfl, rfl, rfl, Nat.le_refl _, fun _ _ => rfl⟩
      have hSQ : Wq.cell? ⟨b1, 0, none⟩ = some (.int .i64 (u : Int)) := by rw [hWq]; exact d0
      have HQ := Lib.hid hBq
      clear hBq
      go_wp2
      refine wp_region_noPanic ?_
      refine wp_region_held_drew (S := fun W => W.cell? ⟨b1, 0, none⟩ = some (.int .i64 (u : Int))) (by kernel_rfl) (by rw [← hWq]; exact hSQ) (fun _ => ?_)
      rw [← hWq]
      clear hWq d0
      refine take_at (i := 0) (d := some 23) (v := .pointer (some ⟨b1, 0, none⟩)) rfl (by kernel_rfl) (by kernel_rfl) (by kernel_rfl) (fun _ _ _ h => h) (fun oi ho => ?_) hSQ ?_
      · obtain rfl := Option.some.inj ho
        exact Or.inl ⟨by rfl, fun wx hSw => by go_simp⟩
      simp only [Act.put, List.setIfInBounds_toArray, List.set_cons_zero, List.set_cons_succ]
      refine take_at (i := 1) (d := some 24) (v := .int .i64 (u : Int)) rfl (by kernel_rfl) (by kernel_rfl) (by kernel_rfl) (fun _ _ _ h => h) (fun oi ho => ?_) hSQ ?_
      · obtain rfl := Option.some.inj ho
        exact Or.inl ⟨by rfl, fun wx hSw => by have x0 := hSw; go_simp⟩
      simp only [Act.put, List.setIfInBounds_toArray, List.set_cons_zero, List.set_cons_succ]
      refine take_at (i := 5) (d := some 28) (v := .pointer (some ⟨b1, 0, none⟩)) rfl (by kernel_rfl) (by kernel_rfl) (by kernel_rfl) (fun _ _ _ h => h) (fun oi ho => ?_) hSQ ?_
      · obtain rfl := Option.some.inj ho
        exact Or.inl ⟨by rfl, fun wx hSw => by go_simp⟩
      simp only [Act.put, List.setIfInBounds_toArray, List.set_cons_zero, List.set_cons_succ]
      refine take_at (i := 6) (d := some 29) (v := .int .i64 (u : Int)) rfl (by kernel_rfl) (by kernel_rfl) (by kernel_rfl) (fun _ _ _ h => h) (fun oi ho => ?_) hSQ ?_
      · obtain rfl := Option.some.inj ho
        exact Or.inl ⟨by rfl, fun wx hSw => by have x0 := hSw; go_simp⟩
      simp only [Act.put, List.setIfInBounds_toArray, List.set_cons_zero, List.set_cons_succ]

      refine ready_call (i := 2) (d := some 25) (f := 22) (args := #[.int .i64 (u : Int)]) rfl (by kernel_rfl) (fun oi ho => ?_) ?_
      · obtain rfl := Option.some.inj ho
        exact ⟨by rfl, by go_simp⟩
      refine (HDN.out Wq).mono ?_
      rintro e W3 ⟨rfl, hB⟩
      have hSQ3 : W3.cell? ⟨b1, 0, none⟩ = some (.int .i64 (u : Int)) := by rw [hB.cell (World.block_lt_of_cell? Wq _ hSQ)]; exact hSQ
      have HB3 := Lib.hid hB
      clear hB hSQ
      refine ⟨_, rfl, hSQ3, ?_⟩
      simp only [Act.put, List.setIfInBounds_toArray, List.set_cons_zero, List.set_cons_succ]
      refine take_at (i := 3) (d := some 26) (v := S Y1) rfl (by kernel_rfl) (by kernel_rfl) (by kernel_rfl) (fun _ _ _ h => h) (fun oi ho => ?_) hSQ3 ?_
      · obtain rfl := Option.some.inj ho
        exact Or.inl ⟨by rfl, fun wx hSw => by go_simp⟩
      simp only [Act.put, List.setIfInBounds_toArray, List.set_cons_zero, List.set_cons_succ]
      refine take_at (i := 4) (d := some 27) (v := S Y2) rfl (by kernel_rfl) (by kernel_rfl) (by kernel_rfl) (fun _ _ _ h => h) (fun oi ho => ?_) hSQ3 ?_
      · obtain rfl := Option.some.inj ho
        exact Or.inl ⟨by rfl, fun wx hSw => by go_simp⟩
      simp only [Act.put, List.setIfInBounds_toArray, List.set_cons_zero, List.set_cons_succ]

      refine ready_call (i := 7) (d := some 30) (f := 12) (args := #[.int .i64 (u : Int)]) rfl (by kernel_rfl) (fun oi ho => ?_) ?_
      · obtain rfl := Option.some.inj ho
        exact ⟨by rfl, by go_simp⟩
      refine (HRN.out W3).mono ?_
      rintro e W4 ⟨rfl, hB⟩
      have hSQ4 : W4.cell? ⟨b1, 0, none⟩ = some (.int .i64 (u : Int)) := by rw [hB.cell (World.block_lt_of_cell? W3 _ hSQ3)]; exact hSQ3
      have HB4 := Lib.hid hB
      clear hB hSQ3
      refine ⟨_, rfl, hSQ4, ?_⟩
      simp only [Act.put, List.setIfInBounds_toArray, List.set_cons_zero, List.set_cons_succ]
      have hSQ5 : (W4.alloc (.cells #[S Y3] 9)).cell? ⟨b1, 0, none⟩ = some (.int .i64 (u : Int)) := by
        rw [((Below.refl W4.heap.size W4).alloc (Nat.le_refl _) (.cells #[S Y3] 9)).cell (World.block_lt_of_cell? W4 _ hSQ4)]; exact hSQ4
      refine take_at (i := 8) (d := some 31) (v := S Y3) rfl (by kernel_rfl) (by kernel_rfl) (by kernel_rfl) (fun _ _ _ h => h) (fun oi ho => ?_) hSQ4 ?_
      · obtain rfl := Option.some.inj ho
        exact Or.inl ⟨by rfl, fun wx hSw => by go_simp⟩
      simp only [Act.put, List.setIfInBounds_toArray, List.set_cons_zero, List.set_cons_succ]
      refine ready_value (i := 9) (d := some 32) (v := .slice (some ⟨W4.heap.size, 0, none⟩) 1 1) (w' := W4.alloc (.cells #[S Y3] 9)) rfl (by kernel_rfl) (fun oi ho => ?_) hSQ5 ?_
      · obtain rfl := Option.some.inj ho
        exact ⟨by rfl, by go_simp⟩
      simp only [Act.put, List.setIfInBounds_toArray, List.set_cons_zero, List.set_cons_succ]
      refine take_at (i := 10) (d := some 8) (v := .slice (some ⟨W4.heap.size, 0, none⟩) 1 1) rfl (by kernel_rfl) (by kernel_rfl) (by kernel_rfl) (fun _ _ _ h => h) (fun oi ho => ?_) hSQ5 ?_
      · obtain rfl := Option.some.inj ho
        exact Or.inl ⟨by rfl, fun wx hSw => by go_simp⟩
      simp only [Act.put, List.setIfInBounds_toArray, List.set_cons_zero, List.set_cons_succ]

      refine wpAnyH_done (by kernel_rfl) ?_ _
      refine NoPanic.normal ?_
      have hsz1 : W1.heap.size ≤ W4.heap.size := Nat.le_trans HB2.out.size (Nat.le_trans HQ.out.size (Nat.le_trans HB3.out.size HB4.out.size))
      have HB5 : Hid (Below W1.heap.size W1 (W4.alloc (.cells #[S Y3] 9))) := Lib.hid (by
        have h2 := HB2.out
        have h3 := h2.trans (HQ.out.mono h2.size)
        have h4 := h3.trans (HB3.out.mono h3.size)
        have h5 := h4.trans (HB4.out.mono h4.size)
        exact h5.alloc h5.size _)
      have HO5 : Hid (Own W1.heap.size (.slice (some ⟨W4.heap.size, 0, none⟩) 1 1) ([Y3].map S) (W4.alloc (.cells #[S Y3] 9))) := Lib.hid (own_one9 hsz1 (S Y3))
      clear hSQ4 hSQ5 hsz1

      go_wp2_with fail
      go_loopw [8, 9] (fun lv iv wr => ∃ i : Nat, i ≤ N ∧ iv = .int .i64 (i : Int) ∧ Hid (Below W1.heap.size W1 wr ∧ Own W1.heap.size lv ((stL (u : Int) :: (fs.take i).map fieldL).map S) wr)) (fun _ iv _ => N - (intOf iv).toNat)
      case atStart => exact ⟨0, Nat.zero_le _, rfl, Lib.hid ⟨HB5.out, by rw [List.take_zero, ← HY.out]; exact HO5.out⟩⟩
      case round =>
        clear HB5 HO5 HB4 HB3 HQ
        obtain ⟨i, hi, rfl, HI⟩ := hrel
        have HRT := Lib.hid (HM.out.below HI.out.1)
        have d1 : wr.cell? ⟨b1, 1, none⟩ = some V := cell_of_row wr _ 1 _ _ (0, 0) HRT.out.row
        by_cases hlt : i < N
        case pos =>
          have g3 : decide ((i : Int) < (N : Int)) = true := decide_eq_true (by omega)
          obtain ⟨⟨n, t⟩, hf⟩ : ∃ f, fs[i]? = some f := ⟨fs[i]'(by have := HN.out.1; omega), List.getElem?_eq_getElem _⟩
          have hix := HRT.out.fa.index i (by have := HN.out.1; omega)
          have hcl := HRT.out.fa.cell i _ hf
          have hfl := fsLen_mem (List.mem_of_getElem? hf)
          have hN2 := HN.out.2
          dsimp only at hfl
          have hwi : IntKind.i64.wrap ((i : Int) + 1) = (i : Int) + 1 := by rw [IntKind.wrap_i64]; omega
          obtain ⟨kk, hkk⟩ : ∃ kk, kk = o + i * 2 := ⟨_, rfl⟩
          rw [← hkk] at hix hcl
          have k0 : wr.cell? ⟨b, kk, none⟩ = some (S n) := hcl.1
          have k1 : wr.cell? ⟨b, kk + 1, none⟩ = some (S t) := hcl.2
          have z1 : binOp .add 9 (S n) (.string ⟨#[58, 32]⟩) = pure (S (n ++ [58, 32])) := S_add 9 n [58, 32] (by show _ + 2 ≤ _; omega)
          obtain ⟨Z1, hZ1⟩ : ∃ X, X = n ++ [58, 32] := ⟨_, rfl⟩
          rw [← hZ1] at z1
          have z2 : binOp .add 9 (S Z1) (S t) = pure (S (Z1 ++ t)) := S_add 9 Z1 t (by rw [hZ1, List.length_append]; show _ + 2 + _ ≤ _; omega)
          obtain ⟨Z2, hZ2⟩ : ∃ X, X = Z1 ++ t := ⟨_, rfl⟩
          rw [← hZ2] at z2
          have HZ : Hid (Z2 = fieldL (n, t)) := Lib.hid (by rw [hZ2, hZ1]; unfold fieldL; simp)
          obtain ⟨Wq, hWq⟩ : ∃ Wq, Wq = wr.drew := ⟨_, rfl⟩
          have hOq : Own W1.heap.size u8 ((stL (u : Int) :: (fs.take i).map fieldL).map S) Wq := by rw [hWq]; exact HI.out.2.drew
          have hBq : Below W1.heap.size W1 Wq := HI.out.1.trans (by rw [hWq]; exact ⟨rfl, rfl, rfl, Nat.le_refl _, fun _ _ => rfl⟩)
          have hSQ : Wq.cell? ⟨b1, 1, none⟩ = some V ∧ Wq.cell? ⟨b, kk, none⟩ = some (S n) ∧ Wq.cell? ⟨b, kk + 1, none⟩ = some (S t) := by rw [hWq]; exact ⟨d1, k0, k1⟩
          obtain ⟨v2, W5, hap, hO5, hg5⟩ := own_push9 hOq hBq.size 53 (S Z2) rfl (by rw [List.length_map, List.length_cons, List.length_map, List.length_take]; omega)
          have hB5 : Below W1.heap.size W1 W5 := hBq.grown hg5 hBq.size (fun k e => (hOq.lt k e).1)
          have hM5 := HM.out.below hB5
          have hS4 : (Wq.alloc (.cells #[S Z2] 9)).cell? ⟨b1, 1, none⟩ = some V ∧ (Wq.alloc (.cells #[S Z2] 9)).cell? ⟨b, kk, none⟩ = some (S n) ∧ (Wq.alloc (.cells #[S Z2] 9)).cell? ⟨b, kk + 1, none⟩ = some (S t) := by
            have hb := (Below.refl Wq.heap.size Wq).alloc (Nat.le_refl _) (.cells #[S Z2] 9)
            refine ⟨?_, ?_, ?_⟩
            · rw [hb.cell (World.block_lt_of_cell? Wq _ hSQ.1)]; exact hSQ.1
            · rw [hb.cell (World.block_lt_of_cell? Wq _ hSQ.2.1)]; exact hSQ.2.1
            · rw [hb.cell (World.block_lt_of_cell? Wq _ hSQ.2.2)]; exact hSQ.2.2
          have hS5 : W5.cell? ⟨b1, 1, none⟩ = some V ∧ W5.cell? ⟨b, kk, none⟩ = some (S n) ∧ W5.cell? ⟨b, kk + 1, none⟩ = some (S t) := by
            have h6 := hM5.fa.cell i _ hf
            rw [← hkk] at h6
            exact ⟨cell_of_row W5 _ 1 _ _ (0, 0) hM5.row, h6.1, h6.2⟩
          have HE : Hid (Below W1.heap.size W1 W5 ∧ Own W1.heap.size v2 ((stL (u : Int) :: (fs.take (i + 1)).map fieldL).map S) W5) := Lib.hid ⟨hB5, by
            rw [List.take_add_one, hf]
            have e : ((stL (u : Int) :: (fs.take i ++ [(n, t)]).map fieldL).map S) = ((stL (u : Int) :: (fs.take i).map fieldL).map S) ++ [S Z2] := by rw [HZ.out]; simp
            show Own _ _ ((stL (u : Int) :: (fs.take i ++ [(n, t)]).map fieldL).map S) _
            rw [e]; exact hO5⟩
          clear hcl hf hkk hfl hN2 hZ1 hZ2 hOq hBq hO5 hg5 hB5 hM5 k0 k1
          go_wp2
          clear d1
          refine wp_region_noPanic ?_
          refine wp_region_held_drew (S := fun W => W.cell? ⟨b1, 1, none⟩ = some V ∧ W.cell? ⟨b, kk, none⟩ = some (S n) ∧ W.cell? ⟨b, kk + 1, none⟩ = some (S t)) (by kernel_rfl) (by rw [← hWq]; exact hSQ) (fun _ => ?_)
          rw [← hWq]
          clear hWq
          refine take_at (i := 0) (d := some 40) (v := u8) rfl (by kernel_rfl) (by kernel_rfl) (by kernel_rfl) (fun _ _ _ h => h) (fun oi ho => ?_) hSQ ?_
          · obtain rfl := Option.some.inj ho
            exact Or.inl ⟨by rfl, fun wx hSw => by go_simp⟩
          simp only [Act.put, List.setIfInBounds_toArray, List.set_cons_zero, List.set_cons_succ]
          refine take_at (i := 1) (d := some 41) (v := .pointer (some ⟨b1, 1, none⟩)) rfl (by kernel_rfl) (by kernel_rfl) (by kernel_rfl) (fun _ _ _ h => h) (fun oi ho => ?_) hSQ ?_
          · obtain rfl := Option.some.inj ho
            exact Or.inl ⟨by rfl, fun wx hSw => by go_simp⟩
          simp only [Act.put, List.setIfInBounds_toArray, List.set_cons_zero, List.set_cons_succ]
          refine take_at (i := 2) (d := some 42) (v := V) rfl (by kernel_rfl) (by kernel_rfl) (by kernel_rfl) (fun _ _ _ h => h) (fun oi ho => ?_) hSQ ?_
          · obtain rfl := Option.some.inj ho
            exact Or.inl ⟨by rfl, fun wx hSw => by obtain ⟨x0, x1, x2⟩ := hSw; go_simp⟩
          simp only [Act.put, List.setIfInBounds_toArray, List.set_cons_zero, List.set_cons_succ]
          refine take_at (i := 3) (d := some 43) (v := .int .i64 (i : Int)) rfl (by kernel_rfl) (by kernel_rfl) (by kernel_rfl) (fun _ _ _ h => h) (fun oi ho => ?_) hSQ ?_
          · obtain rfl := Option.some.inj ho
            exact Or.inl ⟨by rfl, fun wx hSw => by go_simp⟩
          simp only [Act.put, List.setIfInBounds_toArray, List.set_cons_zero, List.set_cons_succ]
          refine take_at (i := 4) (d := some 44) (v := .pointer (some ⟨b, kk, none⟩)) rfl (by kernel_rfl) (by kernel_rfl) (by kernel_rfl) (fun _ _ _ h => h) (fun oi ho => ?_) hSQ ?_
          · obtain rfl := Option.some.inj ho
            exact Or.inl ⟨by rfl, fun wx hSw => by go_simp⟩
          simp only [Act.put, List.setIfInBounds_toArray, List.set_cons_zero, List.set_cons_succ]
          refine take_at (i := 5) (d := some 45) (v := .pointer (some ⟨b, kk, none⟩)) rfl (by kernel_rfl) (by kernel_rfl) (by kernel_rfl) (fun _ _ _ h => h) (fun oi ho => ?_) hSQ ?_
          · obtain rfl := Option.some.inj ho
            exact Or.inl ⟨by rfl, fun wx hSw => by go_simp⟩
          simp only [Act.put, List.setIfInBounds_toArray, List.set_cons_zero, List.set_cons_succ]
          refine take_at (i := 6) (d := some 46) (v := S n) rfl (by kernel_rfl) (by kernel_rfl) (by kernel_rfl) (fun _ _ _ h => h) (fun oi ho => ?_) hSQ ?_
          · obtain rfl := Option.some.inj ho
            exact Or.inl ⟨by rfl, fun wx hSw => by obtain ⟨x0, x1, x2⟩ := hSw; go_simp⟩
          simp only [Act.put, List.setIfInBounds_toArray, List.set_cons_zero, List.set_cons_succ]
          refine take_at (i := 7) (d := some 47) (v := S Z1) rfl (by kernel_rfl) (by kernel_rfl) (by kernel_rfl) (fun _ _ _ h => h) (fun oi ho => ?_) hSQ ?_
          · obtain rfl := Option.some.inj ho
            exact Or.inl ⟨by rfl, fun wx hSw => by go_simp⟩
          simp only [Act.put, List.setIfInBounds_toArray, List.set_cons_zero, List.set_cons_succ]
          refine take_at (i := 8) (d := some 48) (v := .pointer (some ⟨b1, 1, none⟩)) rfl (by kernel_rfl) (by kernel_rfl) (by kernel_rfl) (fun _ _ _ h => h) (fun oi ho => ?_) hSQ ?_
          · obtain rfl := Option.some.inj ho
            exact Or.inl ⟨by rfl, fun wx hSw => by go_simp⟩
          simp only [Act.put, List.setIfInBounds_toArray, List.set_cons_zero, List.set_cons_succ]
          refine take_at (i := 9) (d := some 49) (v := V) rfl (by kernel_rfl) (by kernel_rfl) (by kernel_rfl) (fun _ _ _ h => h) (fun oi ho => ?_) hSQ ?_
          · obtain rfl := Option.some.inj ho
            exact Or.inl ⟨by rfl, fun wx hSw => by obtain ⟨x0, x1, x2⟩ := hSw; go_simp⟩
          simp only [Act.put, List.setIfInBounds_toArray, List.set_cons_zero, List.set_cons_succ]
          refine take_at (i := 10) (d := some 50) (v := .int .i64 (i : Int)) rfl (by kernel_rfl) (by kernel_rfl) (by kernel_rfl) (fun _ _ _ h => h) (fun oi ho => ?_) hSQ ?_
          · obtain rfl := Option.some.inj ho
            exact Or.inl ⟨by rfl, fun wx hSw => by go_simp⟩
          simp only [Act.put, List.setIfInBounds_toArray, List.set_cons_zero, List.set_cons_succ]
          refine take_at (i := 11) (d := some 51) (v := .pointer (some ⟨b, kk, none⟩)) rfl (by kernel_rfl) (by kernel_rfl) (by kernel_rfl) (fun _ _ _ h => h) (fun oi ho => ?_) hSQ ?_
          · obtain rfl := Option.some.inj ho
            exact Or.inl ⟨by rfl, fun wx hSw => by go_simp⟩
          simp only [Act.put, List.setIfInBounds_toArray, List.set_cons_zero, List.set_cons_succ]
          refine take_at (i := 12) (d := some 52) (v := .pointer (some ⟨b, kk + 1, none⟩)) rfl (by kernel_rfl) (by kernel_rfl) (by kernel_rfl) (fun _ _ _ h => h) (fun oi ho => ?_) hSQ ?_
          · obtain rfl := Option.some.inj ho
            exact Or.inl ⟨by rfl, fun wx hSw => by go_simp⟩
          simp only [Act.put, List.setIfInBounds_toArray, List.set_cons_zero, List.set_cons_succ]
          refine take_at (i := 13) (d := some 53) (v := S t) rfl (by kernel_rfl) (by kernel_rfl) (by kernel_rfl) (fun _ _ _ h => h) (fun oi ho => ?_) hSQ ?_
          · obtain rfl := Option.some.inj ho
            exact Or.inl ⟨by rfl, fun wx hSw => by obtain ⟨x0, x1, x2⟩ := hSw; go_simp⟩
          simp only [Act.put, List.setIfInBounds_toArray, List.set_cons_zero, List.set_cons_succ]
          refine take_at (i := 14) (d := some 54) (v := S Z2) rfl (by kernel_rfl) (by kernel_rfl) (by kernel_rfl) (fun _ _ _ h => h) (fun oi ho => ?_) hSQ ?_
          · obtain rfl := Option.some.inj ho
            exact Or.inl ⟨by rfl, fun wx hSw => by go_simp⟩
          simp only [Act.put, List.setIfInBounds_toArray, List.set_cons_zero, List.set_cons_succ]
          refine ready_value (i := 15) (d := some 55) (v := .slice (some ⟨Wq.heap.size, 0, none⟩) 1 1) (w' := Wq.alloc (.cells #[S Z2] 9)) rfl (by kernel_rfl) (fun oi ho => ?_) hS4 ?_
          · obtain rfl := Option.some.inj ho
            exact ⟨by rfl, by go_simp⟩
          simp only [Act.put, List.setIfInBounds_toArray, List.set_cons_zero, List.set_cons_succ]
          refine ready_value (i := 16) (d := some 56) (v := v2) (w' := W5) rfl (by kernel_rfl) (fun oi ho => ?_) hS5 ?_
          · obtain rfl := Option.some.inj ho
            exact ⟨by rfl, by exact exec_append 53 53 (.tmp 40) (.tmp 55) u8 (.slice (some ⟨Wq.heap.size, 0, none⟩) 1 1) rfl rfl rfl hap⟩
          simp only [Act.put, List.setIfInBounds_toArray, List.set_cons_zero, List.set_cons_succ]
          refine take_at (i := 17) (d := some 8) (v := v2) rfl (by kernel_rfl) (by kernel_rfl) (by kernel_rfl) (fun _ _ _ h => h) (fun oi ho => ?_) hS5 ?_
          · obtain rfl := Option.some.inj ho
            exact Or.inl ⟨by rfl, fun wx hSw => by go_simp⟩
          simp only [Act.put, List.setIfInBounds_toArray, List.set_cons_zero, List.set_cons_succ]
          refine wpAnyH_done (by kernel_rfl) ?_ _
          refine NoPanic.normal ?_
          clear hSQ hS4 hS5 hap z1 z2 hix
          go_wp2
          exact ⟨⟨i + 1, by omega, by go_num, HE⟩, by simp [intOf]; omega⟩
        obtain ⟨Wo, hWo⟩ : ∃ W, W = wr := ⟨_, rfl⟩
        subst hWo
        obtain rfl : i = N := by omega
        have g3 : decide ((i : Int) < (i : Int)) = false := decide_eq_false (by omega)
        have d0 : Wo.cell? ⟨b1, 0, none⟩ = some (.int .i64 (u : Int)) := cell_of_row Wo _ 0 _ _ (0, 0) HRT.out.row
        have d2 : Wo.cell? ⟨b1, 2, none⟩ = some (S body) := cell_of_row Wo _ 2 _ _ (0, 0) HRT.out.row
        have HI2 : Hid (Own W1.heap.size u8 ((stL (u : Int) :: fs.map fieldL).map S) Wo) := Lib.hid (by have h := HI.out.2; rw [HN.out.1, List.take_length] at h; exact h)
        obtain ⟨nb, hnb⟩ : ∃ nb, nb = nobB (u : Int) := ⟨_, rfl⟩
        rw [← hnb] at HBR
        have HNB := Lib.hid hnb
        clear hnb
        have HL0 := Lib.hid (And.intro HI.out.1 HI2.out)
        clear HI HI2
        cases nb with
        | true =>
          go_wp2_with fail
          refine (HBR.out _).mono ?_
          rintro e W' ⟨rfl, hW⟩
          rw [hW]
          clear hW
          have ho := HL0.out.2
          have hlen9 : (((stL (u : Int) :: fs.map fieldL)).map S).length < 1000000000000 := by have h1 : fs.length ≤ 20000 := (by have := HN.out.1; omega); simp; omega
          have hsz := HL0.out.1.size
          go_wp2_with (first
            | (at_builtin; refine wpList_add rfl 53 9 (.tmp 70) (.tmp 71) rfl Tryz.underlying53 elem9 W1.heap.size Wo _ rfl _ ho (S [67, 111, 110, 110, 101, 99, 116, 105, 111, 110, 58, 32, 99, 108, 111, 115, 101]) rfl _ rfl rfl rfl hlen9 hsz ?_; intro v8 W8 o2 g2 _)
            | fail)
          have H8 : Hid (Below W1.heap.size W1 W8 ∧ Own W1.heap.size v8 (((stL (u : Int) :: fs.map fieldL) ++ [[67, 111, 110, 110, 101, 99, 116, 105, 111, 110, 58, 32, 99, 108, 111, 115, 101]]).map S) W8) := Lib.hid ⟨HL0.out.1.grown g2 hsz (fun k e => (ho.lt k e).1), by rw [List.map_append, List.map_singleton]; exact o2⟩
          have d2 : W8.cell? ⟨b1, 2, none⟩ = some (S body) := cell_of_row W8 _ 2 _ _ (0, 0) (HM.out.below H8.out.1).row
          clear ho hlen9 hsz o2 g2

          have HX : Hid (((stL (u : Int) :: fs.map fieldL) ++ [[67, 111, 110, 110, 101, 99, 116, 105, 111, 110, 58, 32, 99, 108, 111, 115, 101]]) = stL (u : Int) :: lnsR (u : Int) fs body.length true) := Lib.hid (by unfold lnsR moreL; rw [← HNB.out]; simp [fieldL, clsF, closeL])
          obtain ⟨XS, hXS⟩ : ∃ XS, XS = ((stL (u : Int) :: fs.map fieldL) ++ [[67, 111, 110, 110, 101, 99, 116, 105, 111, 110, 58, 32, 99, 108, 111, 115, 101]]) := ⟨_, rfl⟩
          rw [← hXS] at HX H8
          clear hXS
          have hJ := lines_len (u : Int) fs body.length true (by have := HU.out; omega) (by have := HU.out; omega) HU.out.2.2
          rw [← HX.out] at hJ
          have hfl := HN.out.2
          have HJ : Hid ((joinE XS).length ≤ 80200) := Lib.hid (by omega)
          clear hJ hfl
          have hlen2 := own_len H8.out.2 53 9 3 Tryz.underlying53
          rw [List.length_map] at hlen2
          have hXL : XS.length ≤ 100000 := by
            have h1 : fs.length ≤ 20000 := by have := HN.out.1; omega
            rw [HX.out]; unfold lnsR moreL; simp only [List.length_cons, List.length_map, List.length_append]; split <;> split <;> simp <;> omega
          obtain ⟨K, hK⟩ : ∃ K, K = XS.length := ⟨_, rfl⟩
          rw [← hK] at hlen2 hXL
          have HK := Lib.hid hK
          clear hK

          go_wp2_with fail
          go_loopw [10, 11] (fun sv iv wq => ∃ i : Nat, i ≤ K ∧ sv = S (joinE (XS.take i)) ∧ iv = .int .i64 (i : Int) ∧ wq = W8) (fun _ iv _ => K - (intOf iv).toNat)
          case atStart => exact ⟨0, Nat.zero_le _, by rw [List.take_zero]; rfl, rfl, by trivial⟩
          case round =>
            obtain ⟨j, hj, rfl, rfl, hwq⟩ := hrel
            subst hwq
            by_cases hlt : j < K
            case pos =>
              have g5 : decide ((j : Int) < (K : Int)) = true := decide_eq_true (by omega)
              obtain ⟨l, hl⟩ : ∃ l, XS[j]? = some l := ⟨XS[j]'(by have := HK.out; omega), List.getElem?_eq_getElem _⟩
              have hwj : IntKind.i64.wrap ((j : Int) + 1) = (j : Int) + 1 := by rw [IntKind.wrap_i64]; omega
              obtain ⟨gx, cx, hvx, _, _, hrx⟩ := H8.out.2.shape (n := K) (by rw [List.length_map, ← HK.out]) (by omega)
              have hcx : wr.cell? ⟨gx, j, none⟩ = some (S l) := by
                have := hrx j (S l) (by rw [List.getElem?_map, hl]; rfl)
                rwa [Nat.zero_add] at this
              have hixx : ∀ w', (Instr.indexAt 53 v8 (.int .i64 (j : Int))).run Tryz.prog w' = .ok (.pointer (some ⟨gx, j, none⟩)) w' := fun w' => by
                rw [hvx]
                have := run_index_at (P := Tryz.prog) Tryz.underlying53 (fun w => Tryz.sizeOf9 w) gx 0 K cx j hlt w'
                rwa [Nat.mul_one, Nat.zero_add] at this
              have hm1 := joinE_mono XS j
              have hm2 := joinE_mem (List.mem_of_getElem? hl)
              have hJ := HJ.out
              obtain ⟨Q0, hQ0⟩ : ∃ Q, Q = joinE (XS.take j) := ⟨_, rfl⟩
              rw [← hQ0] at hm1 ⊢
              have a1 : binOp .add 9 (S Q0) (S l) = pure (S (Q0 ++ l)) := S_add 9 Q0 l (by omega)
              obtain ⟨Q1, hQ1⟩ : ∃ Q, Q = Q0 ++ l := ⟨_, rfl⟩
              rw [← hQ1] at a1
              have a2 : binOp .add 9 (S Q1) (.string ⟨#[13, 10]⟩) = pure (S (Q1 ++ [13, 10])) := S_add 9 Q1 [13, 10] (by rw [hQ1, List.length_append]; show _ + 2 ≤ _; omega)
              obtain ⟨Q2, hQ2⟩ : ∃ Q, Q = Q1 ++ [13, 10] := ⟨_, rfl⟩
              rw [← hQ2] at a2
              have HQ2 : Hid (Q2 = joinE (XS.take (j + 1))) := Lib.hid (by rw [hQ2, hQ1, hQ0, joinE_take hl])
              clear hrx hvx hm1 hm2 hJ hQ0 hQ1 hQ2 hl
              go_wp2
              exact ⟨⟨j + 1, by omega, by rw [← HQ2.out], by go_num, by trivial⟩, by simp [intOf]; omega⟩
            obtain rfl : j = K := by omega
            have g5 : decide ((j : Int) < (j : Int)) = false := decide_eq_false (by omega)
            have HTT : Hid (joinE (XS.take j) = joinE XS) := Lib.hid (by rw [HK.out, List.take_length])
            rw [HTT.out]
            obtain ⟨Q0, hQ0⟩ : ∃ Q, Q = joinE XS := ⟨_, rfl⟩
            have hJ := HJ.out
            rw [← hQ0] at hJ ⊢
            have a1 : binOp .add 9 (S Q0) (.string ⟨#[13, 10]⟩) = pure (S (Q0 ++ [13, 10])) := S_add 9 Q0 [13, 10] (by show _ + 2 ≤ _; omega)
            obtain ⟨Q1, hQ1⟩ : ∃ Q, Q = Q0 ++ [13, 10] := ⟨_, rfl⟩
            rw [← hQ1] at a1
            have hQl : Q1.length ≤ 80210 := by rw [hQ1, List.length_append]; show _ + 2 ≤ _; omega
            have a2 : binOp .add 9 (S Q1) (S body) = pure (S (Q1 ++ body)) := S_add 9 Q1 body (by have := HU.out; omega)
            have HQ : Hid (bytesB (u : Int) fs body head true = Q1 ++ (if head = true then [] else body)) := Lib.hid (by unfold bytesB headB; rw [← HX.out, ← hQ0, ← hQ1])
            have HBE : Hid (Below w.heap.size w wr) := Lib.hid (HM.out.below H8.out.1).bel
            clear hQ0 hQ1 hQl hJ
            cases head with
            | true =>
              have HP : Hid (O = some Q1) := Lib.hid (by rw [HOK.out, HQ.out]; simp)
              go_wp2
              go_ret2
              exact ⟨by rw [HP.out]; rfl, HBE.out⟩
            | false =>
              obtain ⟨Q2, hQ2⟩ : ∃ Q, Q = Q1 ++ body := ⟨_, rfl⟩
              rw [← hQ2] at a2
              have HP : Hid (O = some Q2) := Lib.hid (by rw [HOK.out, HQ.out, hQ2]; rfl)
              clear hQ2
              go_wp2
              go_ret2
              exact ⟨by rw [HP.out]; rfl, HBE.out⟩
        | false =>
          have hlB := run_len_S (P := Tryz.prog) Tryz.underlying9 3 body
          obtain ⟨KB, hKB⟩ : ∃ KB, KB = body.length := ⟨_, rfl⟩
          rw [← hKB] at hlB HDB
          have HKB := Lib.hid hKB
          have hdl := dec_len 6 KB (by have := HU.out; omega)
          clear hKB
          obtain ⟨D, hD⟩ : ∃ D, D = Lib.decDigits KB := ⟨_, rfl⟩
          rw [← hD] at HDB hdl
          have a0 : binOp .add 9 (.string ⟨#[67, 111, 110, 116, 101, 110, 116, 45, 76, 101, 110, 103, 116, 104, 58, 32]⟩) (S D) = pure (S ([67, 111, 110, 116, 101, 110, 116, 45, 76, 101, 110, 103, 116, 104, 58, 32] ++ D)) := S_add 9 [67, 111, 110, 116, 101, 110, 116, 45, 76, 101, 110, 103, 116, 104, 58, 32] D (by show 16 + _ ≤ _; omega)
          obtain ⟨E, hE⟩ : ∃ E, E = [67, 111, 110, 116, 101, 110, 116, 45, 76, 101, 110, 103, 116, 104, 58, 32] ++ D := ⟨_, rfl⟩
          rw [← hE] at a0
          have HE : Hid (E = fieldL (lenF body.length)) := Lib.hid (by rw [hE, hD, HKB.out]; rfl)
          clear hD hE hdl

          go_wp2_with fail
          refine (HBR.out _).mono ?_
          rintro e W' ⟨rfl, hW⟩
          rw [hW]
          clear hW

          go_wp2_with fail
          refine (HDB.out _).mono ?_
          rintro e W6 ⟨rfl, hB⟩
          have HL6 : Hid (Below W1.heap.size W1 W6 ∧ Own W1.heap.size u8 ((stL (u : Int) :: fs.map fieldL).map S) W6) := Lib.hid ⟨HL0.out.1.trans (hB.mono HL0.out.1.size), HL0.out.2.below hB (fun k e => (HL0.out.2.lt k e).2)⟩
          clear hB d0 d2 HL0
          have hfs : fs.length ≤ 20000 := by have := HN.out.1; omega
          go_wp2_with (first
            | (at_builtin; refine wpList_add rfl 53 9 (.tmp 61) (.tmp 67) rfl Tryz.underlying53 elem9 W1.heap.size W6 _ rfl _ HL6.out.2 (S E) rfl _ rfl rfl rfl (by simp; omega) HL6.out.1.size ?_; intro v7 W7 o2 g2 _; have H7 : Hid (Below W1.heap.size W1 W7 ∧ Own W1.heap.size v7 (((stL (u : Int) :: fs.map fieldL) ++ [fieldL (lenF body.length)]).map S) W7) := Lib.hid ⟨HL6.out.1.grown g2 HL6.out.1.size (fun k e => (HL6.out.2.lt k e).1), by rw [← HE.out, List.map_append, List.map_singleton]; exact o2⟩; clear o2 g2)
            | (at_builtin; refine wpList_add rfl 53 9 (.tmp 70) (.tmp 71) rfl Tryz.underlying53 elem9 W1.heap.size W7 _ rfl _ H7.out.2 (S [67, 111, 110, 110, 101, 99, 116, 105, 111, 110, 58, 32, 99, 108, 111, 115, 101]) rfl _ rfl rfl rfl (by simp; omega) H7.out.1.size ?_; intro v8 W8 o2 g2 _; have H8 : Hid (Below W1.heap.size W1 W8 ∧ Own W1.heap.size v8 ((((stL (u : Int) :: fs.map fieldL) ++ [fieldL (lenF body.length)]) ++ [[67, 111, 110, 110, 101, 99, 116, 105, 111, 110, 58, 32, 99, 108, 111, 115, 101]]).map S) W8) := Lib.hid ⟨H7.out.1.grown g2 H7.out.1.size (fun k e => (H7.out.2.lt k e).1), by rw [List.map_append, List.map_singleton]; exact o2⟩; clear o2 g2)
            | fail)
          clear hfs
          have d2 : W8.cell? ⟨b1, 2, none⟩ = some (S body) := cell_of_row W8 _ 2 _ _ (0, 0) (HM.out.below H8.out.1).row

          have HX : Hid ((((stL (u : Int) :: fs.map fieldL) ++ [fieldL (lenF body.length)]) ++ [[67, 111, 110, 110, 101, 99, 116, 105, 111, 110, 58, 32, 99, 108, 111, 115, 101]]) = stL (u : Int) :: lnsR (u : Int) fs body.length true) := Lib.hid (by unfold lnsR moreL; rw [← HNB.out]; simp [fieldL, clsF, closeL])
          obtain ⟨XS, hXS⟩ : ∃ XS, XS = (((stL (u : Int) :: fs.map fieldL) ++ [fieldL (lenF body.length)]) ++ [[67, 111, 110, 110, 101, 99, 116, 105, 111, 110, 58, 32, 99, 108, 111, 115, 101]]) := ⟨_, rfl⟩
          rw [← hXS] at HX H8
          clear hXS
          have hJ := lines_len (u : Int) fs body.length true (by have := HU.out; omega) (by have := HU.out; omega) HU.out.2.2
          rw [← HX.out] at hJ
          have hfl := HN.out.2
          have HJ : Hid ((joinE XS).length ≤ 80200) := Lib.hid (by omega)
          clear hJ hfl
          have hlen2 := own_len H8.out.2 53 9 3 Tryz.underlying53
          rw [List.length_map] at hlen2
          have hXL : XS.length ≤ 100000 := by
            have h1 : fs.length ≤ 20000 := by have := HN.out.1; omega
            rw [HX.out]; unfold lnsR moreL; simp only [List.length_cons, List.length_map, List.length_append]; split <;> split <;> simp <;> omega
          obtain ⟨K, hK⟩ : ∃ K, K = XS.length := ⟨_, rfl⟩
          rw [← hK] at hlen2 hXL
          have HK := Lib.hid hK
          clear hK

          go_wp2_with fail
          go_loopw [10, 11] (fun sv iv wq => ∃ i : Nat, i ≤ K ∧ sv = S (joinE (XS.take i)) ∧ iv = .int .i64 (i : Int) ∧ wq = W8) (fun _ iv _ => K - (intOf iv).toNat)
          case atStart => exact ⟨0, Nat.zero_le _, by rw [List.take_zero]; rfl, rfl, by trivial⟩
          case round =>
            obtain ⟨j, hj, rfl, rfl, hwq⟩ := hrel
            subst hwq
            by_cases hlt : j < K
            case pos =>
              have g5 : decide ((j : Int) < (K : Int)) = true := decide_eq_true (by omega)
              obtain ⟨l, hl⟩ : ∃ l, XS[j]? = some l := ⟨XS[j]'(by have := HK.out; omega), List.getElem?_eq_getElem _⟩
              have hwj : IntKind.i64.wrap ((j : Int) + 1) = (j : Int) + 1 := by rw [IntKind.wrap_i64]; omega
              obtain ⟨gx, cx, hvx, _, _, hrx⟩ := H8.out.2.shape (n := K) (by rw [List.length_map, ← HK.out]) (by omega)
              have hcx : wr.cell? ⟨gx, j, none⟩ = some (S l) := by
                have := hrx j (S l) (by rw [List.getElem?_map, hl]; rfl)
                rwa [Nat.zero_add] at this
              have hixx : ∀ w', (Instr.indexAt 53 v8 (.int .i64 (j : Int))).run Tryz.prog w' = .ok (.pointer (some ⟨gx, j, none⟩)) w' := fun w' => by
                rw [hvx]
                have := run_index_at (P := Tryz.prog) Tryz.underlying53 (fun w => Tryz.sizeOf9 w) gx 0 K cx j hlt w'
                rwa [Nat.mul_one, Nat.zero_add] at this
              have hm1 := joinE_mono XS j
              have hm2 := joinE_mem (List.mem_of_getElem? hl)
              have hJ := HJ.out
              obtain ⟨Q0, hQ0⟩ : ∃ Q, Q = joinE (XS.take j) := ⟨_, rfl⟩
              rw [← hQ0] at hm1 ⊢
              have a1 : binOp .add 9 (S Q0) (S l) = pure (S (Q0 ++ l)) := S_add 9 Q0 l (by omega)
              obtain ⟨Q1, hQ1⟩ : ∃ Q, Q = Q0 ++ l := ⟨_, rfl⟩
              rw [← hQ1] at a1
              have a2 : binOp .add 9 (S Q1) (.string ⟨#[13, 10]⟩) = pure (S (Q1 ++ [13, 10])) := S_add 9 Q1 [13, 10] (by rw [hQ1, List.length_append]; show _ + 2 ≤ _; omega)
              obtain ⟨Q2, hQ2⟩ : ∃ Q, Q = Q1 ++ [13, 10] := ⟨_, rfl⟩
              rw [← hQ2] at a2
              have HQ2 : Hid (Q2 = joinE (XS.take (j + 1))) := Lib.hid (by rw [hQ2, hQ1, hQ0, joinE_take hl])
              clear hrx hvx hm1 hm2 hJ hQ0 hQ1 hQ2 hl
              go_wp2
              exact ⟨⟨j + 1, by omega, by rw [← HQ2.out], by go_num, by trivial⟩, by simp [intOf]; omega⟩
            obtain rfl : j = K := by omega
            have g5 : decide ((j : Int) < (j : Int)) = false := decide_eq_false (by omega)
            have HTT : Hid (joinE (XS.take j) = joinE XS) := Lib.hid (by rw [HK.out, List.take_length])
            rw [HTT.out]
            obtain ⟨Q0, hQ0⟩ : ∃ Q, Q = joinE XS := ⟨_, rfl⟩
            have hJ := HJ.out
            rw [← hQ0] at hJ ⊢
            have a1 : binOp .add 9 (S Q0) (.string ⟨#[13, 10]⟩) = pure (S (Q0 ++ [13, 10])) := S_add 9 Q0 [13, 10] (by show _ + 2 ≤ _; omega)
            obtain ⟨Q1, hQ1⟩ : ∃ Q, Q = Q0 ++ [13, 10] := ⟨_, rfl⟩
            rw [← hQ1] at a1
            have hQl : Q1.length ≤ 80210 := by rw [hQ1, List.length_append]; show _ + 2 ≤ _; omega
            have a2 : binOp .add 9 (S Q1) (S body) = pure (S (Q1 ++ body)) := S_add 9 Q1 body (by have := HU.out; omega)
            have HQ : Hid (bytesB (u : Int) fs body head true = Q1 ++ (if head = true then [] else body)) := Lib.hid (by unfold bytesB headB; rw [← HX.out, ← hQ0, ← hQ1])
            have HBE : Hid (Below w.heap.size w wr) := Lib.hid (HM.out.below H8.out.1).bel
            clear hQ0 hQ1 hQl hJ
            cases head with
            | true =>
              have HP : Hid (O = some Q1) := Lib.hid (by rw [HOK.out, HQ.out]; simp)
              go_wp2
              go_ret2
              exact ⟨by rw [HP.out]; rfl, HBE.out⟩
            | false =>
              obtain ⟨Q2, hQ2⟩ : ∃ Q, Q = Q1 ++ body := ⟨_, rfl⟩
              rw [← hQ2] at a2
              have HP : Hid (O = some Q2) := Lib.hid (by rw [HOK.out, HQ.out, hQ2]; rfl)
              clear hQ2
              go_wp2
              go_ret2
              exact ⟨by rw [HP.out]; rfl, HBE.out⟩
    | false =>
      have HOK : Hid (O = some (bytesB c fs body head false)) := Lib.hid (by rw [HO.out]; rfl)
      clear HNC HO
      go_enter Tryz.func8, Tryz.ntmps8
      go_wp2_with fail
      all_goals try rw [← hW1, ← hb1]
      clear hW1 hb1
      refine HR.out.mono ?_
      rintro e W2 ⟨rfl, hB⟩
      have HB2 := Lib.hid hB
      have H2 := Lib.hid (HM.out.below hB)
      have d0 : W2.cell? ⟨b1, 0, none⟩ = some (.int .i64 c) := cell_of_row W2 _ 0 _ _ (0, 0) H2.out.row
      clear hB HR c0 c1 c2

      have hRP := right_iff.1 HRB.out.symm
      have h100 := hRP.lo
      have h599 := hRP.hi
      have hbl := hRP.len
      clear hRP
      obtain ⟨u, rfl⟩ : ∃ u : Nat, c = (u : Int) := ⟨c.toNat, by omega⟩
      have hDN := fun W => dnumber10_any u (by omega) W
      have hRN := fun W => dreason_any (u : Int) W
      obtain ⟨D, hD⟩ : ∃ D, D = Lib.decDigits u := ⟨_, rfl⟩
      obtain ⟨R, hR⟩ : ∃ R, R = rsnF (u : Int) := ⟨_, rfl⟩
      have hDl := dec_len 3 u (by omega)
      have hRl := (rsn_ok (u : Int)).2
      rw [← hD] at hDN hDl
      rw [← hR] at hRN hRl
      have y1 : binOp .add 9 (.string ⟨#[72, 84, 84, 80, 47, 49, 46, 49, 32]⟩) (S D) = pure (S (httpS ++ D)) := S_add 9 httpS D (by show 9 + _ ≤ _; omega)
      obtain ⟨Y1, hY1⟩ : ∃ Y, Y = httpS ++ D := ⟨_, rfl⟩
      rw [← hY1] at y1
      have l1 : Y1.length ≤ 12 := by rw [hY1, List.length_append]; show 9 + _ ≤ _; omega
      have y2 : binOp .add 9 (S Y1) (.string ⟨#[32]⟩) = pure (S (Y1 ++ [32])) := S_add 9 Y1 [32] (by show _ + 1 ≤ _; omega)
      obtain ⟨Y2, hY2⟩ : ∃ Y, Y = Y1 ++ [32] := ⟨_, rfl⟩
      rw [← hY2] at y2
      have l2 : Y2.length ≤ 13 := by rw [hY2, List.length_append]; show _ + 1 ≤ _; omega
      have y3 : binOp .add 9 (S Y2) (S R) = pure (S (Y2 ++ R)) := S_add 9 Y2 R (by omega)
      obtain ⟨Y3, hY3⟩ : ∃ Y, Y = Y2 ++ R := ⟨_, rfl⟩
      rw [← hY3] at y3
      have HY : Hid (Y3 = stL (u : Int)) := Lib.hid (by rw [hY3, hY2, hY1, hD, hR]; unfold stL; simp)
      have HU := Lib.hid (show 100 ≤ u ∧ u ≤ 599 ∧ body.length ≤ 65536 by omega)
      have HDN := Lib.hid hDN
      have HRN := Lib.hid hRN
      have HBR := Lib.hid fun W => dbare10_any (u : Int) W
      have HDB := Lib.hid fun W => dnumber10_any body.length (by omega) W
      clear hDN hRN hY1 hY2 hY3 hD hR hDl hRl l1 l2 h100 h599 hbl
      obtain ⟨Wq, hWq⟩ : ∃ Wq, Wq = W2.drew := ⟨_, rfl⟩
      have hBq : Below W2.heap.size W2 Wq := by rw [hWq]; exact ⟨rfl, rfl, rfl, Nat.le_refl _, fun _ _ => rfl⟩
      have hSQ : Wq.cell? ⟨b1, 0, none⟩ = some (.int .i64 (u : Int)) := by rw [hWq]; exact d0
      have HQ := Lib.hid hBq
      clear hBq
      go_wp2
      refine wp_region_noPanic ?_
      refine wp_region_held_drew (S := fun W => W.cell? ⟨b1, 0, none⟩ = some (.int .i64 (u : Int))) (by kernel_rfl) (by rw [← hWq]; exact hSQ) (fun _ => ?_)
      rw [← hWq]
      clear hWq d0
      refine take_at (i := 0) (d := some 23) (v := .pointer (some ⟨b1, 0, none⟩)) rfl (by kernel_rfl) (by kernel_rfl) (by kernel_rfl) (fun _ _ _ h => h) (fun oi ho => ?_) hSQ ?_
      · obtain rfl := Option.some.inj ho
        exact Or.inl ⟨by rfl, fun wx hSw => by go_simp⟩
      simp only [Act.put, List.setIfInBounds_toArray, List.set_cons_zero, List.set_cons_succ]
      refine take_at (i := 1) (d := some 24) (v := .int .i64 (u : Int)) rfl (by kernel_rfl) (by kernel_rfl) (by kernel_rfl) (fun _ _ _ h => h) (fun oi ho => ?_) hSQ ?_
      · obtain rfl := Option.some.inj ho
        exact Or.inl ⟨by rfl, fun wx hSw => by have x0 := hSw; go_simp⟩
      simp only [Act.put, List.setIfInBounds_toArray, List.set_cons_zero, List.set_cons_succ]
      refine take_at (i := 5) (d := some 28) (v := .pointer (some ⟨b1, 0, none⟩)) rfl (by kernel_rfl) (by kernel_rfl) (by kernel_rfl) (fun _ _ _ h => h) (fun oi ho => ?_) hSQ ?_
      · obtain rfl := Option.some.inj ho
        exact Or.inl ⟨by rfl, fun wx hSw => by go_simp⟩
      simp only [Act.put, List.setIfInBounds_toArray, List.set_cons_zero, List.set_cons_succ]
      refine take_at (i := 6) (d := some 29) (v := .int .i64 (u : Int)) rfl (by kernel_rfl) (by kernel_rfl) (by kernel_rfl) (fun _ _ _ h => h) (fun oi ho => ?_) hSQ ?_
      · obtain rfl := Option.some.inj ho
        exact Or.inl ⟨by rfl, fun wx hSw => by have x0 := hSw; go_simp⟩
      simp only [Act.put, List.setIfInBounds_toArray, List.set_cons_zero, List.set_cons_succ]

      refine ready_call (i := 2) (d := some 25) (f := 22) (args := #[.int .i64 (u : Int)]) rfl (by kernel_rfl) (fun oi ho => ?_) ?_
      · obtain rfl := Option.some.inj ho
        exact ⟨by rfl, by go_simp⟩
      refine (HDN.out Wq).mono ?_
      rintro e W3 ⟨rfl, hB⟩
      have hSQ3 : W3.cell? ⟨b1, 0, none⟩ = some (.int .i64 (u : Int)) := by rw [hB.cell (World.block_lt_of_cell? Wq _ hSQ)]; exact hSQ
      have HB3 := Lib.hid hB
      clear hB hSQ
      refine ⟨_, rfl, hSQ3, ?_⟩
      simp only [Act.put, List.setIfInBounds_toArray, List.set_cons_zero, List.set_cons_succ]
      refine take_at (i := 3) (d := some 26) (v := S Y1) rfl (by kernel_rfl) (by kernel_rfl) (by kernel_rfl) (fun _ _ _ h => h) (fun oi ho => ?_) hSQ3 ?_
      · obtain rfl := Option.some.inj ho
        exact Or.inl ⟨by rfl, fun wx hSw => by go_simp⟩
      simp only [Act.put, List.setIfInBounds_toArray, List.set_cons_zero, List.set_cons_succ]
      refine take_at (i := 4) (d := some 27) (v := S Y2) rfl (by kernel_rfl) (by kernel_rfl) (by kernel_rfl) (fun _ _ _ h => h) (fun oi ho => ?_) hSQ3 ?_
      · obtain rfl := Option.some.inj ho
        exact Or.inl ⟨by rfl, fun wx hSw => by go_simp⟩
      simp only [Act.put, List.setIfInBounds_toArray, List.set_cons_zero, List.set_cons_succ]

      refine ready_call (i := 7) (d := some 30) (f := 12) (args := #[.int .i64 (u : Int)]) rfl (by kernel_rfl) (fun oi ho => ?_) ?_
      · obtain rfl := Option.some.inj ho
        exact ⟨by rfl, by go_simp⟩
      refine (HRN.out W3).mono ?_
      rintro e W4 ⟨rfl, hB⟩
      have hSQ4 : W4.cell? ⟨b1, 0, none⟩ = some (.int .i64 (u : Int)) := by rw [hB.cell (World.block_lt_of_cell? W3 _ hSQ3)]; exact hSQ3
      have HB4 := Lib.hid hB
      clear hB hSQ3
      refine ⟨_, rfl, hSQ4, ?_⟩
      simp only [Act.put, List.setIfInBounds_toArray, List.set_cons_zero, List.set_cons_succ]
      have hSQ5 : (W4.alloc (.cells #[S Y3] 9)).cell? ⟨b1, 0, none⟩ = some (.int .i64 (u : Int)) := by
        rw [((Below.refl W4.heap.size W4).alloc (Nat.le_refl _) (.cells #[S Y3] 9)).cell (World.block_lt_of_cell? W4 _ hSQ4)]; exact hSQ4
      refine take_at (i := 8) (d := some 31) (v := S Y3) rfl (by kernel_rfl) (by kernel_rfl) (by kernel_rfl) (fun _ _ _ h => h) (fun oi ho => ?_) hSQ4 ?_
      · obtain rfl := Option.some.inj ho
        exact Or.inl ⟨by rfl, fun wx hSw => by go_simp⟩
      simp only [Act.put, List.setIfInBounds_toArray, List.set_cons_zero, List.set_cons_succ]
      refine ready_value (i := 9) (d := some 32) (v := .slice (some ⟨W4.heap.size, 0, none⟩) 1 1) (w' := W4.alloc (.cells #[S Y3] 9)) rfl (by kernel_rfl) (fun oi ho => ?_) hSQ5 ?_
      · obtain rfl := Option.some.inj ho
        exact ⟨by rfl, by go_simp⟩
      simp only [Act.put, List.setIfInBounds_toArray, List.set_cons_zero, List.set_cons_succ]
      refine take_at (i := 10) (d := some 8) (v := .slice (some ⟨W4.heap.size, 0, none⟩) 1 1) rfl (by kernel_rfl) (by kernel_rfl) (by kernel_rfl) (fun _ _ _ h => h) (fun oi ho => ?_) hSQ5 ?_
      · obtain rfl := Option.some.inj ho
        exact Or.inl ⟨by rfl, fun wx hSw => by go_simp⟩
      simp only [Act.put, List.setIfInBounds_toArray, List.set_cons_zero, List.set_cons_succ]

      refine wpAnyH_done (by kernel_rfl) ?_ _
      refine NoPanic.normal ?_
      have hsz1 : W1.heap.size ≤ W4.heap.size := Nat.le_trans HB2.out.size (Nat.le_trans HQ.out.size (Nat.le_trans HB3.out.size HB4.out.size))
      have HB5 : Hid (Below W1.heap.size W1 (W4.alloc (.cells #[S Y3] 9))) := Lib.hid (by
        have h2 := HB2.out
        have h3 := h2.trans (HQ.out.mono h2.size)
        have h4 := h3.trans (HB3.out.mono h3.size)
        have h5 := h4.trans (HB4.out.mono h4.size)
        exact h5.alloc h5.size _)
      have HO5 : Hid (Own W1.heap.size (.slice (some ⟨W4.heap.size, 0, none⟩) 1 1) ([Y3].map S) (W4.alloc (.cells #[S Y3] 9))) := Lib.hid (own_one9 hsz1 (S Y3))
      clear hSQ4 hSQ5 hsz1

      go_wp2_with fail
      go_loopw [8, 9] (fun lv iv wr => ∃ i : Nat, i ≤ N ∧ iv = .int .i64 (i : Int) ∧ Hid (Below W1.heap.size W1 wr ∧ Own W1.heap.size lv ((stL (u : Int) :: (fs.take i).map fieldL).map S) wr)) (fun _ iv _ => N - (intOf iv).toNat)
      case atStart => exact ⟨0, Nat.zero_le _, rfl, Lib.hid ⟨HB5.out, by rw [List.take_zero, ← HY.out]; exact HO5.out⟩⟩
      case round =>
        clear HB5 HO5 HB4 HB3 HQ
        obtain ⟨i, hi, rfl, HI⟩ := hrel
        have HRT := Lib.hid (HM.out.below HI.out.1)
        have d1 : wr.cell? ⟨b1, 1, none⟩ = some V := cell_of_row wr _ 1 _ _ (0, 0) HRT.out.row
        by_cases hlt : i < N
        case pos =>
          have g3 : decide ((i : Int) < (N : Int)) = true := decide_eq_true (by omega)
          obtain ⟨⟨n, t⟩, hf⟩ : ∃ f, fs[i]? = some f := ⟨fs[i]'(by have := HN.out.1; omega), List.getElem?_eq_getElem _⟩
          have hix := HRT.out.fa.index i (by have := HN.out.1; omega)
          have hcl := HRT.out.fa.cell i _ hf
          have hfl := fsLen_mem (List.mem_of_getElem? hf)
          have hN2 := HN.out.2
          dsimp only at hfl
          have hwi : IntKind.i64.wrap ((i : Int) + 1) = (i : Int) + 1 := by rw [IntKind.wrap_i64]; omega
          obtain ⟨kk, hkk⟩ : ∃ kk, kk = o + i * 2 := ⟨_, rfl⟩
          rw [← hkk] at hix hcl
          have k0 : wr.cell? ⟨b, kk, none⟩ = some (S n) := hcl.1
          have k1 : wr.cell? ⟨b, kk + 1, none⟩ = some (S t) := hcl.2
          have z1 : binOp .add 9 (S n) (.string ⟨#[58, 32]⟩) = pure (S (n ++ [58, 32])) := S_add 9 n [58, 32] (by show _ + 2 ≤ _; omega)
          obtain ⟨Z1, hZ1⟩ : ∃ X, X = n ++ [58, 32] := ⟨_, rfl⟩
          rw [← hZ1] at z1
          have z2 : binOp .add 9 (S Z1) (S t) = pure (S (Z1 ++ t)) := S_add 9 Z1 t (by rw [hZ1, List.length_append]; show _ + 2 + _ ≤ _; omega)
          obtain ⟨Z2, hZ2⟩ : ∃ X, X = Z1 ++ t := ⟨_, rfl⟩
          rw [← hZ2] at z2
          have HZ : Hid (Z2 = fieldL (n, t)) := Lib.hid (by rw [hZ2, hZ1]; unfold fieldL; simp)
          obtain ⟨Wq, hWq⟩ : ∃ Wq, Wq = wr.drew := ⟨_, rfl⟩
          have hOq : Own W1.heap.size u8 ((stL (u : Int) :: (fs.take i).map fieldL).map S) Wq := by rw [hWq]; exact HI.out.2.drew
          have hBq : Below W1.heap.size W1 Wq := HI.out.1.trans (by rw [hWq]; exact ⟨rfl, rfl, rfl, Nat.le_refl _, fun _ _ => rfl⟩)
          have hSQ : Wq.cell? ⟨b1, 1, none⟩ = some V ∧ Wq.cell? ⟨b, kk, none⟩ = some (S n) ∧ Wq.cell? ⟨b, kk + 1, none⟩ = some (S t) := by rw [hWq]; exact ⟨d1, k0, k1⟩
          obtain ⟨v2, W5, hap, hO5, hg5⟩ := own_push9 hOq hBq.size 53 (S Z2) rfl (by rw [List.length_map, List.length_cons, List.length_map, List.length_take]; omega)
          have hB5 : Below W1.heap.size W1 W5 := hBq.grown hg5 hBq.size (fun k e => (hOq.lt k e).1)
          have hM5 := HM.out.below hB5
          have hS4 : (Wq.alloc (.cells #[S Z2] 9)).cell? ⟨b1, 1, none⟩ = some V ∧ (Wq.alloc (.cells #[S Z2] 9)).cell? ⟨b, kk, none⟩ = some (S n) ∧ (Wq.alloc (.cells #[S Z2] 9)).cell? ⟨b, kk + 1, none⟩ = some (S t) := by
            have hb := (Below.refl Wq.heap.size Wq).alloc (Nat.le_refl _) (.cells #[S Z2] 9)
            refine ⟨?_, ?_, ?_⟩
            · rw [hb.cell (World.block_lt_of_cell? Wq _ hSQ.1)]; exact hSQ.1
            · rw [hb.cell (World.block_lt_of_cell? Wq _ hSQ.2.1)]; exact hSQ.2.1
            · rw [hb.cell (World.block_lt_of_cell? Wq _ hSQ.2.2)]; exact hSQ.2.2
          have hS5 : W5.cell? ⟨b1, 1, none⟩ = some V ∧ W5.cell? ⟨b, kk, none⟩ = some (S n) ∧ W5.cell? ⟨b, kk + 1, none⟩ = some (S t) := by
            have h6 := hM5.fa.cell i _ hf
            rw [← hkk] at h6
            exact ⟨cell_of_row W5 _ 1 _ _ (0, 0) hM5.row, h6.1, h6.2⟩
          have HE : Hid (Below W1.heap.size W1 W5 ∧ Own W1.heap.size v2 ((stL (u : Int) :: (fs.take (i + 1)).map fieldL).map S) W5) := Lib.hid ⟨hB5, by
            rw [List.take_add_one, hf]
            have e : ((stL (u : Int) :: (fs.take i ++ [(n, t)]).map fieldL).map S) = ((stL (u : Int) :: (fs.take i).map fieldL).map S) ++ [S Z2] := by rw [HZ.out]; simp
            show Own _ _ ((stL (u : Int) :: (fs.take i ++ [(n, t)]).map fieldL).map S) _
            rw [e]; exact hO5⟩
          clear hcl hf hkk hfl hN2 hZ1 hZ2 hOq hBq hO5 hg5 hB5 hM5 k0 k1
          go_wp2
          clear d1
          refine wp_region_noPanic ?_
          refine wp_region_held_drew (S := fun W => W.cell? ⟨b1, 1, none⟩ = some V ∧ W.cell? ⟨b, kk, none⟩ = some (S n) ∧ W.cell? ⟨b, kk + 1, none⟩ = some (S t)) (by kernel_rfl) (by rw [← hWq]; exact hSQ) (fun _ => ?_)
          rw [← hWq]
          clear hWq
          refine take_at (i := 0) (d := some 40) (v := u8) rfl (by kernel_rfl) (by kernel_rfl) (by kernel_rfl) (fun _ _ _ h => h) (fun oi ho => ?_) hSQ ?_
          · obtain rfl := Option.some.inj ho
            exact Or.inl ⟨by rfl, fun wx hSw => by go_simp⟩
          simp only [Act.put, List.setIfInBounds_toArray, List.set_cons_zero, List.set_cons_succ]
          refine take_at (i := 1) (d := some 41) (v := .pointer (some ⟨b1, 1, none⟩)) rfl (by kernel_rfl) (by kernel_rfl) (by kernel_rfl) (fun _ _ _ h => h) (fun oi ho => ?_) hSQ ?_
          · obtain rfl := Option.some.inj ho
            exact Or.inl ⟨by rfl, fun wx hSw => by go_simp⟩
          simp only [Act.put, List.setIfInBounds_toArray, List.set_cons_zero, List.set_cons_succ]
          refine take_at (i := 2) (d := some 42) (v := V) rfl (by kernel_rfl) (by kernel_rfl) (by kernel_rfl) (fun _ _ _ h => h) (fun oi ho => ?_) hSQ ?_
          · obtain rfl := Option.some.inj ho
            exact Or.inl ⟨by rfl, fun wx hSw => by obtain ⟨x0, x1, x2⟩ := hSw; go_simp⟩
          simp only [Act.put, List.setIfInBounds_toArray, List.set_cons_zero, List.set_cons_succ]
          refine take_at (i := 3) (d := some 43) (v := .int .i64 (i : Int)) rfl (by kernel_rfl) (by kernel_rfl) (by kernel_rfl) (fun _ _ _ h => h) (fun oi ho => ?_) hSQ ?_
          · obtain rfl := Option.some.inj ho
            exact Or.inl ⟨by rfl, fun wx hSw => by go_simp⟩
          simp only [Act.put, List.setIfInBounds_toArray, List.set_cons_zero, List.set_cons_succ]
          refine take_at (i := 4) (d := some 44) (v := .pointer (some ⟨b, kk, none⟩)) rfl (by kernel_rfl) (by kernel_rfl) (by kernel_rfl) (fun _ _ _ h => h) (fun oi ho => ?_) hSQ ?_
          · obtain rfl := Option.some.inj ho
            exact Or.inl ⟨by rfl, fun wx hSw => by go_simp⟩
          simp only [Act.put, List.setIfInBounds_toArray, List.set_cons_zero, List.set_cons_succ]
          refine take_at (i := 5) (d := some 45) (v := .pointer (some ⟨b, kk, none⟩)) rfl (by kernel_rfl) (by kernel_rfl) (by kernel_rfl) (fun _ _ _ h => h) (fun oi ho => ?_) hSQ ?_
          · obtain rfl := Option.some.inj ho
            exact Or.inl ⟨by rfl, fun wx hSw => by go_simp⟩
          simp only [Act.put, List.setIfInBounds_toArray, List.set_cons_zero, List.set_cons_succ]
          refine take_at (i := 6) (d := some 46) (v := S n) rfl (by kernel_rfl) (by kernel_rfl) (by kernel_rfl) (fun _ _ _ h => h) (fun oi ho => ?_) hSQ ?_
          · obtain rfl := Option.some.inj ho
            exact Or.inl ⟨by rfl, fun wx hSw => by obtain ⟨x0, x1, x2⟩ := hSw; go_simp⟩
          simp only [Act.put, List.setIfInBounds_toArray, List.set_cons_zero, List.set_cons_succ]
          refine take_at (i := 7) (d := some 47) (v := S Z1) rfl (by kernel_rfl) (by kernel_rfl) (by kernel_rfl) (fun _ _ _ h => h) (fun oi ho => ?_) hSQ ?_
          · obtain rfl := Option.some.inj ho
            exact Or.inl ⟨by rfl, fun wx hSw => by go_simp⟩
          simp only [Act.put, List.setIfInBounds_toArray, List.set_cons_zero, List.set_cons_succ]
          refine take_at (i := 8) (d := some 48) (v := .pointer (some ⟨b1, 1, none⟩)) rfl (by kernel_rfl) (by kernel_rfl) (by kernel_rfl) (fun _ _ _ h => h) (fun oi ho => ?_) hSQ ?_
          · obtain rfl := Option.some.inj ho
            exact Or.inl ⟨by rfl, fun wx hSw => by go_simp⟩
          simp only [Act.put, List.setIfInBounds_toArray, List.set_cons_zero, List.set_cons_succ]
          refine take_at (i := 9) (d := some 49) (v := V) rfl (by kernel_rfl) (by kernel_rfl) (by kernel_rfl) (fun _ _ _ h => h) (fun oi ho => ?_) hSQ ?_
          · obtain rfl := Option.some.inj ho
            exact Or.inl ⟨by rfl, fun wx hSw => by obtain ⟨x0, x1, x2⟩ := hSw; go_simp⟩
          simp only [Act.put, List.setIfInBounds_toArray, List.set_cons_zero, List.set_cons_succ]
          refine take_at (i := 10) (d := some 50) (v := .int .i64 (i : Int)) rfl (by kernel_rfl) (by kernel_rfl) (by kernel_rfl) (fun _ _ _ h => h) (fun oi ho => ?_) hSQ ?_
          · obtain rfl := Option.some.inj ho
            exact Or.inl ⟨by rfl, fun wx hSw => by go_simp⟩
          simp only [Act.put, List.setIfInBounds_toArray, List.set_cons_zero, List.set_cons_succ]
          refine take_at (i := 11) (d := some 51) (v := .pointer (some ⟨b, kk, none⟩)) rfl (by kernel_rfl) (by kernel_rfl) (by kernel_rfl) (fun _ _ _ h => h) (fun oi ho => ?_) hSQ ?_
          · obtain rfl := Option.some.inj ho
            exact Or.inl ⟨by rfl, fun wx hSw => by go_simp⟩
          simp only [Act.put, List.setIfInBounds_toArray, List.set_cons_zero, List.set_cons_succ]
          refine take_at (i := 12) (d := some 52) (v := .pointer (some ⟨b, kk + 1, none⟩)) rfl (by kernel_rfl) (by kernel_rfl) (by kernel_rfl) (fun _ _ _ h => h) (fun oi ho => ?_) hSQ ?_
          · obtain rfl := Option.some.inj ho
            exact Or.inl ⟨by rfl, fun wx hSw => by go_simp⟩
          simp only [Act.put, List.setIfInBounds_toArray, List.set_cons_zero, List.set_cons_succ]
          refine take_at (i := 13) (d := some 53) (v := S t) rfl (by kernel_rfl) (by kernel_rfl) (by kernel_rfl) (fun _ _ _ h => h) (fun oi ho => ?_) hSQ ?_
          · obtain rfl := Option.some.inj ho
            exact Or.inl ⟨by rfl, fun wx hSw => by obtain ⟨x0, x1, x2⟩ := hSw; go_simp⟩
          simp only [Act.put, List.setIfInBounds_toArray, List.set_cons_zero, List.set_cons_succ]
          refine take_at (i := 14) (d := some 54) (v := S Z2) rfl (by kernel_rfl) (by kernel_rfl) (by kernel_rfl) (fun _ _ _ h => h) (fun oi ho => ?_) hSQ ?_
          · obtain rfl := Option.some.inj ho
            exact Or.inl ⟨by rfl, fun wx hSw => by go_simp⟩
          simp only [Act.put, List.setIfInBounds_toArray, List.set_cons_zero, List.set_cons_succ]
          refine ready_value (i := 15) (d := some 55) (v := .slice (some ⟨Wq.heap.size, 0, none⟩) 1 1) (w' := Wq.alloc (.cells #[S Z2] 9)) rfl (by kernel_rfl) (fun oi ho => ?_) hS4 ?_
          · obtain rfl := Option.some.inj ho
            exact ⟨by rfl, by go_simp⟩
          simp only [Act.put, List.setIfInBounds_toArray, List.set_cons_zero, List.set_cons_succ]
          refine ready_value (i := 16) (d := some 56) (v := v2) (w' := W5) rfl (by kernel_rfl) (fun oi ho => ?_) hS5 ?_
          · obtain rfl := Option.some.inj ho
            exact ⟨by rfl, by exact exec_append 53 53 (.tmp 40) (.tmp 55) u8 (.slice (some ⟨Wq.heap.size, 0, none⟩) 1 1) rfl rfl rfl hap⟩
          simp only [Act.put, List.setIfInBounds_toArray, List.set_cons_zero, List.set_cons_succ]
          refine take_at (i := 17) (d := some 8) (v := v2) rfl (by kernel_rfl) (by kernel_rfl) (by kernel_rfl) (fun _ _ _ h => h) (fun oi ho => ?_) hS5 ?_
          · obtain rfl := Option.some.inj ho
            exact Or.inl ⟨by rfl, fun wx hSw => by go_simp⟩
          simp only [Act.put, List.setIfInBounds_toArray, List.set_cons_zero, List.set_cons_succ]
          refine wpAnyH_done (by kernel_rfl) ?_ _
          refine NoPanic.normal ?_
          clear hSQ hS4 hS5 hap z1 z2 hix
          go_wp2
          exact ⟨⟨i + 1, by omega, by go_num, HE⟩, by simp [intOf]; omega⟩
        obtain ⟨Wo, hWo⟩ : ∃ W, W = wr := ⟨_, rfl⟩
        subst hWo
        obtain rfl : i = N := by omega
        have g3 : decide ((i : Int) < (i : Int)) = false := decide_eq_false (by omega)
        have d0 : Wo.cell? ⟨b1, 0, none⟩ = some (.int .i64 (u : Int)) := cell_of_row Wo _ 0 _ _ (0, 0) HRT.out.row
        have d2 : Wo.cell? ⟨b1, 2, none⟩ = some (S body) := cell_of_row Wo _ 2 _ _ (0, 0) HRT.out.row
        have HI2 : Hid (Own W1.heap.size u8 ((stL (u : Int) :: fs.map fieldL).map S) Wo) := Lib.hid (by have h := HI.out.2; rw [HN.out.1, List.take_length] at h; exact h)
        obtain ⟨nb, hnb⟩ : ∃ nb, nb = nobB (u : Int) := ⟨_, rfl⟩
        rw [← hnb] at HBR
        have HNB := Lib.hid hnb
        clear hnb
        have HL0 := Lib.hid (And.intro HI.out.1 HI2.out)
        clear HI HI2
        cases nb with
        | true =>
          go_wp2_with fail
          refine (HBR.out _).mono ?_
          rintro e W' ⟨rfl, hW⟩
          rw [hW]
          clear hW
          have HX : Hid ((stL (u : Int) :: fs.map fieldL) = stL (u : Int) :: lnsR (u : Int) fs body.length false) := Lib.hid (by unfold lnsR moreL; rw [← HNB.out]; simp)
          obtain ⟨XS, hXS⟩ : ∃ XS, XS = (stL (u : Int) :: fs.map fieldL) := ⟨_, rfl⟩
          rw [← hXS] at HX HL0
          clear hXS
          have hJ := lines_len (u : Int) fs body.length false (by have := HU.out; omega) (by have := HU.out; omega) HU.out.2.2
          rw [← HX.out] at hJ
          have hfl := HN.out.2
          have HJ : Hid ((joinE XS).length ≤ 80200) := Lib.hid (by omega)
          clear hJ hfl
          have hlen2 := own_len HL0.out.2 53 9 3 Tryz.underlying53
          rw [List.length_map] at hlen2
          have hXL : XS.length ≤ 100000 := by
            have h1 : fs.length ≤ 20000 := by have := HN.out.1; omega
            rw [HX.out]; unfold lnsR moreL; simp only [List.length_cons, List.length_map, List.length_append]; split <;> split <;> simp <;> omega
          obtain ⟨K, hK⟩ : ∃ K, K = XS.length := ⟨_, rfl⟩
          rw [← hK] at hlen2 hXL
          have HK := Lib.hid hK
          clear hK

          go_wp2_with fail
          go_loopw [10, 11] (fun sv iv wq => ∃ i : Nat, i ≤ K ∧ sv = S (joinE (XS.take i)) ∧ iv = .int .i64 (i : Int) ∧ wq = Wo) (fun _ iv _ => K - (intOf iv).toNat)
          case atStart => exact ⟨0, Nat.zero_le _, by rw [List.take_zero]; rfl, rfl, by trivial⟩
          case round =>
            obtain ⟨j, hj, rfl, rfl, hwq⟩ := hrel
            subst hwq
            by_cases hlt : j < K
            case pos =>
              have g5 : decide ((j : Int) < (K : Int)) = true := decide_eq_true (by omega)
              obtain ⟨l, hl⟩ : ∃ l, XS[j]? = some l := ⟨XS[j]'(by have := HK.out; omega), List.getElem?_eq_getElem _⟩
              have hwj : IntKind.i64.wrap ((j : Int) + 1) = (j : Int) + 1 := by rw [IntKind.wrap_i64]; omega
              obtain ⟨gx, cx, hvx, _, _, hrx⟩ := HL0.out.2.shape (n := K) (by rw [List.length_map, ← HK.out]) (by omega)
              have hcx : wr.cell? ⟨gx, j, none⟩ = some (S l) := by
                have := hrx j (S l) (by rw [List.getElem?_map, hl]; rfl)
                rwa [Nat.zero_add] at this
              have hixx : ∀ w', (Instr.indexAt 53 u8 (.int .i64 (j : Int))).run Tryz.prog w' = .ok (.pointer (some ⟨gx, j, none⟩)) w' := fun w' => by
                rw [hvx]
                have := run_index_at (P := Tryz.prog) Tryz.underlying53 (fun w => Tryz.sizeOf9 w) gx 0 K cx j hlt w'
                rwa [Nat.mul_one, Nat.zero_add] at this
              have hm1 := joinE_mono XS j
              have hm2 := joinE_mem (List.mem_of_getElem? hl)
              have hJ := HJ.out
              obtain ⟨Q0, hQ0⟩ : ∃ Q, Q = joinE (XS.take j) := ⟨_, rfl⟩
              rw [← hQ0] at hm1 ⊢
              have a1 : binOp .add 9 (S Q0) (S l) = pure (S (Q0 ++ l)) := S_add 9 Q0 l (by omega)
              obtain ⟨Q1, hQ1⟩ : ∃ Q, Q = Q0 ++ l := ⟨_, rfl⟩
              rw [← hQ1] at a1
              have a2 : binOp .add 9 (S Q1) (.string ⟨#[13, 10]⟩) = pure (S (Q1 ++ [13, 10])) := S_add 9 Q1 [13, 10] (by rw [hQ1, List.length_append]; show _ + 2 ≤ _; omega)
              obtain ⟨Q2, hQ2⟩ : ∃ Q, Q = Q1 ++ [13, 10] := ⟨_, rfl⟩
              rw [← hQ2] at a2
              have HQ2 : Hid (Q2 = joinE (XS.take (j + 1))) := Lib.hid (by rw [hQ2, hQ1, hQ0, joinE_take hl])
              clear hrx hvx hm1 hm2 hJ hQ0 hQ1 hQ2 hl
              go_wp2
              exact ⟨⟨j + 1, by omega, by rw [← HQ2.out], by go_num, by trivial⟩, by simp [intOf]; omega⟩
            obtain rfl : j = K := by omega
            have g5 : decide ((j : Int) < (j : Int)) = false := decide_eq_false (by omega)
            have HTT : Hid (joinE (XS.take j) = joinE XS) := Lib.hid (by rw [HK.out, List.take_length])
            rw [HTT.out]
            obtain ⟨Q0, hQ0⟩ : ∃ Q, Q = joinE XS := ⟨_, rfl⟩
            have hJ := HJ.out
            rw [← hQ0] at hJ ⊢
            have a1 : binOp .add 9 (S Q0) (.string ⟨#[13, 10]⟩) = pure (S (Q0 ++ [13, 10])) := S_add 9 Q0 [13, 10] (by show _ + 2 ≤ _; omega)
            obtain ⟨Q1, hQ1⟩ : ∃ Q, Q = Q0 ++ [13, 10] := ⟨_, rfl⟩
            rw [← hQ1] at a1
            have hQl : Q1.length ≤ 80210 := by rw [hQ1, List.length_append]; show _ + 2 ≤ _; omega
            have a2 : binOp .add 9 (S Q1) (S body) = pure (S (Q1 ++ body)) := S_add 9 Q1 body (by have := HU.out; omega)
            have HQ : Hid (bytesB (u : Int) fs body head false = Q1 ++ (if head = true then [] else body)) := Lib.hid (by unfold bytesB headB; rw [← HX.out, ← hQ0, ← hQ1])
            have HBE : Hid (Below w.heap.size w wr) := Lib.hid (HM.out.below HL0.out.1).bel
            clear hQ0 hQ1 hQl hJ
            cases head with
            | true =>
              have HP : Hid (O = some Q1) := Lib.hid (by rw [HOK.out, HQ.out]; simp)
              go_wp2
              go_ret2
              exact ⟨by rw [HP.out]; rfl, HBE.out⟩
            | false =>
              obtain ⟨Q2, hQ2⟩ : ∃ Q, Q = Q1 ++ body := ⟨_, rfl⟩
              rw [← hQ2] at a2
              have HP : Hid (O = some Q2) := Lib.hid (by rw [HOK.out, HQ.out, hQ2]; rfl)
              clear hQ2
              go_wp2
              go_ret2
              exact ⟨by rw [HP.out]; rfl, HBE.out⟩
        | false =>
          have hlB := run_len_S (P := Tryz.prog) Tryz.underlying9 3 body
          obtain ⟨KB, hKB⟩ : ∃ KB, KB = body.length := ⟨_, rfl⟩
          rw [← hKB] at hlB HDB
          have HKB := Lib.hid hKB
          have hdl := dec_len 6 KB (by have := HU.out; omega)
          clear hKB
          obtain ⟨D, hD⟩ : ∃ D, D = Lib.decDigits KB := ⟨_, rfl⟩
          rw [← hD] at HDB hdl
          have a0 : binOp .add 9 (.string ⟨#[67, 111, 110, 116, 101, 110, 116, 45, 76, 101, 110, 103, 116, 104, 58, 32]⟩) (S D) = pure (S ([67, 111, 110, 116, 101, 110, 116, 45, 76, 101, 110, 103, 116, 104, 58, 32] ++ D)) := S_add 9 [67, 111, 110, 116, 101, 110, 116, 45, 76, 101, 110, 103, 116, 104, 58, 32] D (by show 16 + _ ≤ _; omega)
          obtain ⟨E, hE⟩ : ∃ E, E = [67, 111, 110, 116, 101, 110, 116, 45, 76, 101, 110, 103, 116, 104, 58, 32] ++ D := ⟨_, rfl⟩
          rw [← hE] at a0
          have HE : Hid (E = fieldL (lenF body.length)) := Lib.hid (by rw [hE, hD, HKB.out]; rfl)
          clear hD hE hdl

          go_wp2_with fail
          refine (HBR.out _).mono ?_
          rintro e W' ⟨rfl, hW⟩
          rw [hW]
          clear hW

          go_wp2_with fail
          refine (HDB.out _).mono ?_
          rintro e W6 ⟨rfl, hB⟩
          have HL6 : Hid (Below W1.heap.size W1 W6 ∧ Own W1.heap.size u8 ((stL (u : Int) :: fs.map fieldL).map S) W6) := Lib.hid ⟨HL0.out.1.trans (hB.mono HL0.out.1.size), HL0.out.2.below hB (fun k e => (HL0.out.2.lt k e).2)⟩
          clear hB d0 d2 HL0
          have hfs : fs.length ≤ 20000 := by have := HN.out.1; omega
          go_wp2_with (first
            | (at_builtin; refine wpList_add rfl 53 9 (.tmp 61) (.tmp 67) rfl Tryz.underlying53 elem9 W1.heap.size W6 _ rfl _ HL6.out.2 (S E) rfl _ rfl rfl rfl (by simp; omega) HL6.out.1.size ?_; intro v7 W7 o2 g2 _; have H7 : Hid (Below W1.heap.size W1 W7 ∧ Own W1.heap.size v7 (((stL (u : Int) :: fs.map fieldL) ++ [fieldL (lenF body.length)]).map S) W7) := Lib.hid ⟨HL6.out.1.grown g2 HL6.out.1.size (fun k e => (HL6.out.2.lt k e).1), by rw [← HE.out, List.map_append, List.map_singleton]; exact o2⟩; clear o2 g2)
            | fail)
          clear hfs
          have d2 : W7.cell? ⟨b1, 2, none⟩ = some (S body) := cell_of_row W7 _ 2 _ _ (0, 0) (HM.out.below H7.out.1).row

          have HX : Hid (((stL (u : Int) :: fs.map fieldL) ++ [fieldL (lenF body.length)]) = stL (u : Int) :: lnsR (u : Int) fs body.length false) := Lib.hid (by unfold lnsR moreL; rw [← HNB.out]; simp [fieldL])
          obtain ⟨XS, hXS⟩ : ∃ XS, XS = ((stL (u : Int) :: fs.map fieldL) ++ [fieldL (lenF body.length)]) := ⟨_, rfl⟩
          rw [← hXS] at HX H7
          clear hXS
          have hJ := lines_len (u : Int) fs body.length false (by have := HU.out; omega) (by have := HU.out; omega) HU.out.2.2
          rw [← HX.out] at hJ
          have hfl := HN.out.2
          have HJ : Hid ((joinE XS).length ≤ 80200) := Lib.hid (by omega)
          clear hJ hfl
          have hlen2 := own_len H7.out.2 53 9 3 Tryz.underlying53
          rw [List.length_map] at hlen2
          have hXL : XS.length ≤ 100000 := by
            have h1 : fs.length ≤ 20000 := by have := HN.out.1; omega
            rw [HX.out]; unfold lnsR moreL; simp only [List.length_cons, List.length_map, List.length_append]; split <;> split <;> simp <;> omega
          obtain ⟨K, hK⟩ : ∃ K, K = XS.length := ⟨_, rfl⟩
          rw [← hK] at hlen2 hXL
          have HK := Lib.hid hK
          clear hK

          go_wp2_with fail
          go_loopw [10, 11] (fun sv iv wq => ∃ i : Nat, i ≤ K ∧ sv = S (joinE (XS.take i)) ∧ iv = .int .i64 (i : Int) ∧ wq = W7) (fun _ iv _ => K - (intOf iv).toNat)
          case atStart => exact ⟨0, Nat.zero_le _, by rw [List.take_zero]; rfl, rfl, by trivial⟩
          case round =>
            obtain ⟨j, hj, rfl, rfl, hwq⟩ := hrel
            subst hwq
            by_cases hlt : j < K
            case pos =>
              have g5 : decide ((j : Int) < (K : Int)) = true := decide_eq_true (by omega)
              obtain ⟨l, hl⟩ : ∃ l, XS[j]? = some l := ⟨XS[j]'(by have := HK.out; omega), List.getElem?_eq_getElem _⟩
              have hwj : IntKind.i64.wrap ((j : Int) + 1) = (j : Int) + 1 := by rw [IntKind.wrap_i64]; omega
              obtain ⟨gx, cx, hvx, _, _, hrx⟩ := H7.out.2.shape (n := K) (by rw [List.length_map, ← HK.out]) (by omega)
              have hcx : wr.cell? ⟨gx, j, none⟩ = some (S l) := by
                have := hrx j (S l) (by rw [List.getElem?_map, hl]; rfl)
                rwa [Nat.zero_add] at this
              have hixx : ∀ w', (Instr.indexAt 53 v7 (.int .i64 (j : Int))).run Tryz.prog w' = .ok (.pointer (some ⟨gx, j, none⟩)) w' := fun w' => by
                rw [hvx]
                have := run_index_at (P := Tryz.prog) Tryz.underlying53 (fun w => Tryz.sizeOf9 w) gx 0 K cx j hlt w'
                rwa [Nat.mul_one, Nat.zero_add] at this
              have hm1 := joinE_mono XS j
              have hm2 := joinE_mem (List.mem_of_getElem? hl)
              have hJ := HJ.out
              obtain ⟨Q0, hQ0⟩ : ∃ Q, Q = joinE (XS.take j) := ⟨_, rfl⟩
              rw [← hQ0] at hm1 ⊢
              have a1 : binOp .add 9 (S Q0) (S l) = pure (S (Q0 ++ l)) := S_add 9 Q0 l (by omega)
              obtain ⟨Q1, hQ1⟩ : ∃ Q, Q = Q0 ++ l := ⟨_, rfl⟩
              rw [← hQ1] at a1
              have a2 : binOp .add 9 (S Q1) (.string ⟨#[13, 10]⟩) = pure (S (Q1 ++ [13, 10])) := S_add 9 Q1 [13, 10] (by rw [hQ1, List.length_append]; show _ + 2 ≤ _; omega)
              obtain ⟨Q2, hQ2⟩ : ∃ Q, Q = Q1 ++ [13, 10] := ⟨_, rfl⟩
              rw [← hQ2] at a2
              have HQ2 : Hid (Q2 = joinE (XS.take (j + 1))) := Lib.hid (by rw [hQ2, hQ1, hQ0, joinE_take hl])
              clear hrx hvx hm1 hm2 hJ hQ0 hQ1 hQ2 hl
              go_wp2
              exact ⟨⟨j + 1, by omega, by rw [← HQ2.out], by go_num, by trivial⟩, by simp [intOf]; omega⟩
            obtain rfl : j = K := by omega
            have g5 : decide ((j : Int) < (j : Int)) = false := decide_eq_false (by omega)
            have HTT : Hid (joinE (XS.take j) = joinE XS) := Lib.hid (by rw [HK.out, List.take_length])
            rw [HTT.out]
            obtain ⟨Q0, hQ0⟩ : ∃ Q, Q = joinE XS := ⟨_, rfl⟩
            have hJ := HJ.out
            rw [← hQ0] at hJ ⊢
            have a1 : binOp .add 9 (S Q0) (.string ⟨#[13, 10]⟩) = pure (S (Q0 ++ [13, 10])) := S_add 9 Q0 [13, 10] (by show _ + 2 ≤ _; omega)
            obtain ⟨Q1, hQ1⟩ : ∃ Q, Q = Q0 ++ [13, 10] := ⟨_, rfl⟩
            rw [← hQ1] at a1
            have hQl : Q1.length ≤ 80210 := by rw [hQ1, List.length_append]; show _ + 2 ≤ _; omega
            have a2 : binOp .add 9 (S Q1) (S body) = pure (S (Q1 ++ body)) := S_add 9 Q1 body (by have := HU.out; omega)
            have HQ : Hid (bytesB (u : Int) fs body head false = Q1 ++ (if head = true then [] else body)) := Lib.hid (by unfold bytesB headB; rw [← HX.out, ← hQ0, ← hQ1])
            have HBE : Hid (Below w.heap.size w wr) := Lib.hid (HM.out.below H7.out.1).bel
            clear hQ0 hQ1 hQl hJ
            cases head with
            | true =>
              have HP : Hid (O = some Q1) := Lib.hid (by rw [HOK.out, HQ.out]; simp)
              go_wp2
              go_ret2
              exact ⟨by rw [HP.out]; rfl, HBE.out⟩
            | false =>
              obtain ⟨Q2, hQ2⟩ : ∃ Q, Q = Q1 ++ body := ⟨_, rfl⟩
              rw [← hQ2] at a2
              have HP : Hid (O = some Q2) := Lib.hid (by rw [HOK.out, HQ.out, hQ2]; rfl)
              clear hQ2
              go_wp2
              go_ret2
              exact ⟨by rw [HP.out]; rfl, HBE.out⟩
end Go.Proofs.YtfdbmbgpcioogaaGreatDoor
