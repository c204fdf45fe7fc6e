/- The landed mask, Mask and putNumber walked. (mkew3.py writes it.) -/
import Derived.Test.YtlmolmmhkddpaaaEw2
namespace Go.Proofs.Ytlmolmmhkddpaaa
open Go.RowKit
attribute [local go_sem] store_one B_match B_store S_match S_store

theorem widx_key (b i : Nat) (hi : i < 4) (w : World) : (Instr.indexAt 43 (.pointer (some ⟨b, 0, none⟩)) (.int .i64 (i : Int))).run Try.prog w = .ok (.pointer (some ⟨b, i, none⟩)) w := by
  have : i = 0 ∨ i = 1 ∨ i = 2 ∨ i = 3 := by omega
  rcases this with rfl | rfl | rfl | rfl <;> (go_simp)
theorem wsize5 : ∀ w, (sizeOf 5).run Try.prog w = .ok 1 w := fun w => by go_simp
theorem widx_byte (g o n c i : Nat) (hi : i < n) (p : Nat) (hp : p = o + i) (W : World) : (Instr.indexAt 38 (.slice (some ⟨g, o, none⟩) n c) (.int .i64 (i : Int))).run Try.prog W = .ok (.pointer (some ⟨g, p, none⟩)) W := by
  have h := run_index_at (P := Try.prog) (sz := 1) Try.underlying38 wsize5 g o n c i hi W
  rw [Nat.mul_one] at h
  rw [hp]; exact h
/-- What stands in a row while the bytes from o on are masked: i of them are. -/
def mskL (L : List UInt8) (o : Nat) (K : Key4) (m i : Nat) : List UInt8 := L.take o ++ (maskN K m ((L.drop o).take i) ++ L.drop (o + i))
theorem mskL_zero (L : List UInt8) (o : Nat) (K : Key4) (m : Nat) : mskL L o K m 0 = L := by
  unfold mskL
  rw [List.take_zero, maskN, List.nil_append, Nat.add_zero, List.take_append_drop]
theorem mskL_pre {L : List UInt8} {o i : Nat} (K : Key4) (m : Nat) (h : o + i ≤ L.length) : (L.take o ++ maskN K m ((L.drop o).take i)).length = o + i := by
  rw [List.length_append, mask_len, List.length_take, List.length_take, List.length_drop]; omega
theorem mskL_get {L : List UInt8} {o i : Nat} {x : UInt8} (K : Key4) (m : Nat) (hx : L[o + i]? = some x) : (mskL L o K m i)[o + i]? = some x := by
  have hlt := (List.getElem?_eq_some_iff.1 hx).1
  have hp := mskL_pre (L := L) (o := o) (i := i) K m (by omega)
  unfold mskL
  rw [← List.append_assoc, List.getElem?_append_right (by omega), hp, Nat.sub_self, List.getElem?_drop, Nat.add_zero, hx]
theorem mskL_next {L : List UInt8} {o i : Nat} {x : UInt8} (K : Key4) (m : Nat) (hx : L[o + i]? = some x) : mskL L o K m (i + 1) = (mskL L o K m i).set (o + i) (x ^^^ K.at (m + i)) := by
  have hlt := (List.getElem?_eq_some_iff.1 hx).1
  have hp := mskL_pre (L := L) (o := o) (i := i) K m (by omega)
  have hs : maskN K m ((L.drop o).take (i + 1)) = maskN K m ((L.drop o).take i) ++ [x ^^^ K.at (m + i)] := mask_snoc (by rw [List.getElem?_drop]; exact hx)
  have e1 : mskL L o K m i = (L.take o ++ maskN K m ((L.drop o).take i)) ++ L.drop (o + i) := by unfold mskL; rw [List.append_assoc]
  rw [e1, List.set_append_right _ _ (by omega), hp, Nat.sub_self, List.drop_eq_getElem_cons hlt, List.set_cons_zero]
  unfold mskL
  rw [hs, List.append_assoc, List.append_assoc]
  rfl
theorem mskL_len {L : List UInt8} {o i : Nat} (K : Key4) (m : Nat) (h : o + i ≤ L.length) : (mskL L o K m i).length = L.length := by
  unfold mskL
  rw [← List.append_assoc, List.length_append, mskL_pre K m h, List.length_drop]; omega
theorem mskL_cong (L : List UInt8) (o : Nat) (K : Key4) (m m' i : Nat) (h : m % 4 = m' % 4) : mskL L o K m i = mskL L o K m' i := by
  unfold mskL; rw [mask_cong K _ m m' h]
/-- A row of bytes, it may be with a mark behind them. -/
def MRow (w : World) (g : Nat) (L : List UInt8) (t : TypeId) (fr : Nat × Nat) : Prop := w.heap[g]? = some (.cells (bcells L) t fr) ∧ (fr.2 = 0 ∨ L.length ≤ fr.1)
theorem MRow.lt {w : World} {g : Nat} {L : List UInt8} {t : TypeId} {fr : Nat × Nat} (h : MRow w g L t fr) : g < w.heap.size := (Array.getElem?_eq_some_iff.1 h.1).1
theorem MRow.cell {w : World} {g : Nat} {L : List UInt8} {t : TypeId} {fr : Nat × Nat} (h : MRow w g L t fr) {p : Nat} {x : UInt8} (hx : L[p]? = some x) : w.cell? ⟨g, p, none⟩ = some (B x) := by
  rw [cell_of_row w g p _ t fr h.1, bcells_get L p (List.getElem?_eq_some_iff.1 hx).1, hx]; rfl
theorem MRow.frozen {w : World} {g : Nat} {L : List UInt8} {t : TypeId} {fr : Nat × Nat} (h : MRow w g L t fr) {p : Nat} (hp : p < L.length) : w.frozen? ⟨g, p, none⟩ = false := by
  obtain ⟨a, b⟩ := fr
  simp only [World.frozen?, h.1]
  rcases h.2 with e | e
  · obtain rfl : b = 0 := e
    simp
  · have e2 : ¬ a ≤ p := by have : L.length ≤ a := e; omega
    simp [e2]
theorem MRow.drew {w : World} {g : Nat} {L : List UInt8} {t : TypeId} {fr : Nat × Nat} (h : MRow w g L t fr) : MRow w.drew g L t fr := h
theorem MRow.alloc {w : World} {g : Nat} {L : List UInt8} {t : TypeId} {fr : Nat × Nat} (h : MRow w g L t fr) (o : Obj) : MRow (w.alloc o) g L t fr := ⟨(heap_alloc_old w o h.lt).trans h.1, h.2⟩
theorem MRow.set {w : World} {g : Nat} {L : List UInt8} {t : TypeId} {fr : Nat × Nat} (h : MRow w g L t fr) (p : Nat) (y : UInt8) {L' : List UInt8} (e : L' = L.set p y) : MRow (w.setCell ⟨g, p, none⟩ (B y)) g L' t fr := by
  subst e
  refine ⟨?_, by rw [List.length_set]; exact h.2⟩
  have := h.1
  simp [World.setCell, Array.getElem?_modify, this, bcells_set]
theorem MRow.keeps {w w' : World} {g b : Nat} {L : List UInt8} {t : TypeId} {fr : Nat × Nat} (h : MRow w g L t fr) (k : Keeps b w w') (hn : g ≠ b) : MRow w' g L t fr := ⟨(k.block g h.lt hn).trans h.1, h.2⟩
theorem MRow.below {w w' : World} {g : Nat} {L : List UInt8} {t : TypeId} {fr : Nat × Nat} (h : MRow w g L t fr) (k : Below w.heap.size w w') : MRow w' g L t fr := ⟨(k.block g h.lt).trans h.1, h.2⟩
set_option maxRecDepth 100000 in
set_option maxHeartbeats 1000000 in
/-- A slice of no bytes, wherever it stands. -/
theorem mask0_any (K : Key4) (a : Nat) (ad : Option Addr) (c : Nat) (w : World) : Calls Try.prog 32 #[kV K, .int .i64 (a : Int), .slice ad 0 c] w fun e w' => e = .returned (.tuple #[]) ∧ Below w.heap.size w w' := by
  have HB := Lib.hid ((Below.refl w.heap.size w).alloc (Nat.le_refl _) (.cells (kC K) 43))
  unfold kV
  unfold kC at HB ⊢
  have hlS : ∀ w', (Builtin.len_ #[38] 3 #[.slice ad 0 c]).run Try.prog w' = .ok (.int .i64 0) w' := fun w' => by go_simp
  obtain ⟨m, hm⟩ : ∃ m, m = a % 4 := ⟨_, rfl⟩
  have hr : IntKind.i64.wrap ((a : Int).tmod 4) = (m : Int) := by rw [IntKind.wrap_i64, Int.tmod_eq_emod_of_nonneg (by omega)]; omega
  have hr2 : (a : Int).tmod 4 = (m : Int) := by rw [Int.tmod_eq_emod_of_nonneg (by omega)]; omega
  have hr3 : (a : Int) % 4 = (m : Int) := by omega
  clear hm
  go_enter Try.func32, Try.ntmps32
  go_wp2
  obtain ⟨W1, hW1⟩ : ∃ W, W = w.alloc (.cells #[B K.k0, B K.k1, B K.k2, B K.k3] 43) := ⟨_, rfl⟩
  rw [← hW1] at HB ⊢
  clear hW1
  go_loopw [11] (fun iv wr => iv = .int .i64 0 ∧ wr = W1) (fun _ _ => 0)
  case atStart => exact ⟨rfl, rfl⟩
  case round =>
    obtain ⟨rfl, rfl⟩ := hrel
    go_wp2
    refine bodyPost_end (results_none rfl _ _ _) rfl ?_
    exact ⟨rfl, HB.out⟩
set_option maxRecDepth 100000 in
set_option maxHeartbeats 1000000 in
theorem mask_any (K : Key4) (a : Nat) (g o n c : Nat) (L : List UInt8) (t : TypeId) (fr : Nat × Nat) (w : World) (hg : MRow w g L t fr) (hn : o + n ≤ L.length) (hl : n ≤ 1000000) :
    Calls Try.prog 32 #[kV K, .int .i64 (a : Int), .slice (some ⟨g, o, none⟩) n c] w fun e w' => e = .returned (.tuple #[]) ∧ MRow w' g (mskL L o K a n) t fr ∧ Keeps g w w' := by
  obtain ⟨m, hm⟩ : ∃ m, m = a % 4 := ⟨_, rfl⟩
  have hm4 : m < 4 := by omega
  have HM : Hid (mskL L o K a n = mskL L o K m n) := Lib.hid (mskL_cong L o K a m n (by omega))
  have hlS : ∀ w', (Builtin.len_ #[38] 3 #[.slice (some ⟨g, o, none⟩) n c]).run Try.prog w' = .ok (.int .i64 (n : Int)) w' := fun w' => by go_simp
  obtain ⟨b, hb⟩ : ∃ b, b = w.heap.size := ⟨_, rfl⟩
  obtain ⟨W1, hW1⟩ : ∃ W, W = w.alloc (.cells (kC K) 43) := ⟨_, rfl⟩
  have H1 : Hid (Row W1 b (kC K) 43 ∧ MRow W1 g L t fr ∧ Keeps g w W1 ∧ g ≠ b) := Lib.hid (by rw [hW1, hb]; exact ⟨row_new _ _ _, hg.alloc _, .of_below ((Below.refl _ _).alloc (Nat.le_refl _) _), by have := hg.lt; omega⟩)
  have hr : IntKind.i64.wrap ((a : Int).tmod 4) = (m : Int) := by rw [IntKind.wrap_i64, Int.tmod_eq_emod_of_nonneg (by omega)]; omega
  have hr2 : (a : Int).tmod 4 = (m : Int) := by rw [Int.tmod_eq_emod_of_nonneg (by omega)]; omega
  have hr3 : (a : Int) % 4 = (m : Int) := by omega
  have HN := Lib.hid (And.intro hn (And.intro hl hm4))
  clear hm hg hn hl hm4
  unfold kV
  unfold kC at hW1 ⊢
  go_enter Try.func32, Try.ntmps32
  go_wp2
  rw [← hW1]
  rw [← hb]
  clear hW1 hb
  go_loopw [11] (fun iv wr => ∃ i : Nat, i ≤ n ∧ iv = .int .i64 (i : Int) ∧ Hid (Row wr b (kC K) 43 ∧ MRow wr g (mskL L o K m i) t fr ∧ Keeps g w wr)) (fun iv _ => n - (intOf iv).toNat)
  case atStart => exact ⟨0, Nat.zero_le _, rfl, Lib.hid ⟨H1.out.1, by rw [mskL_zero]; exact H1.out.2.1, H1.out.2.2.1⟩⟩
  case round =>
    obtain ⟨i, hi, rfl, HI⟩ := hrel
    by_cases hlt : i < n
    · have g2 : decide ((i : Int) < (n : Int)) = true := decide_eq_true (by omega)
      obtain ⟨x, hx⟩ : ∃ x, L[o + i]? = some x := ⟨L[o + i]'(by have := HN.out; omega), List.getElem?_eq_getElem _⟩
      obtain ⟨p, hp⟩ : ∃ p, p = o + i := ⟨_, rfl⟩
      have hix := widx_byte g o n c i hlt p hp
      obtain ⟨s, hs⟩ : ∃ s, s = m + i := ⟨_, rfl⟩
      obtain ⟨q, hq⟩ : ∃ q, q = s % 4 := ⟨_, rfl⟩
      have hq4 : q < 4 := by omega
      have hkx := widx_key b q hq4
      have m1 : IntKind.i64.wrap ((m : Int) + (i : Int)) = (s : Int) := by have := HN.out; rw [IntKind.wrap_i64]; omega
      have m2 : IntKind.i64.wrap ((s : Int).tmod 4) = (q : Int) := by rw [IntKind.wrap_i64, Int.tmod_eq_emod_of_nonneg (by omega)]; omega
      have m3 : (s : Int).tmod 4 = (q : Int) := by rw [Int.tmod_eq_emod_of_nonneg (by omega)]; omega
      have m4 : (s : Int) % 4 = (q : Int) := by omega
      have m5 : IntKind.i64.wrap ((i : Int) + 1) = (i : Int) + 1 := by have := HN.out; rw [IntKind.wrap_i64]; omega
      obtain ⟨k, hk⟩ : ∃ k, k = K.at q := ⟨_, rfl⟩
      obtain ⟨y, hy⟩ : ∃ y, y = x ^^^ k := ⟨_, rfl⟩
      have hxor : binOp .xor 5 (B x) (B k) = pure (B y) := by rw [B_xor, hy]
      have hnx := mskL_next K m hx
      rw [show K.at (m + i) = k by rw [hk, ← hs, hq, at_mod], ← hy, ← hp] at hnx
      have hcx : (mskL L o K m i)[p]? = some x := by rw [hp]; exact mskL_get K m hx
      obtain ⟨Wq, hWq⟩ : ∃ Wq, Wq = wr.drew := ⟨_, rfl⟩
      have hBq : Keeps g wr Wq := by rw [hWq]; exact .drew wr
      have hkq : Row Wq b (kC K) 43 := by rw [hWq]; exact HI.out.1.drew
      have hgq : MRow Wq g (mskL L o K m i) t fr := by rw [hWq]; exact HI.out.2.1.drew
      have hS2 : wr.cell? ⟨b, q, none⟩ = some (B k) := by rw [cell_of_row wr b q _ _ (0, 0) HI.out.1, hk]; exact kC_get K q hq4
      have hQ1 := hgq.cell hcx
      have hQ2 : Wq.cell? ⟨b, q, none⟩ = some (B k) := by rw [cell_of_row Wq b q _ _ (0, 0) hkq, hk]; exact kC_get K q hq4
      have hQf := hgq.frozen (List.getElem?_eq_some_iff.1 hcx).1
      have hgw : MRow (Wq.setCell ⟨g, p, none⟩ (B y)) g (mskL L o K m (i + 1)) t fr := hgq.set p y hnx
      have hkw : Row (Wq.setCell ⟨g, p, none⟩ (B y)) b (kC K) 43 := hkq.other (a := ⟨g, p, none⟩) (fun e => H1.out.2.2.2 e.symm)
      have hW2 : (Wq.setCell ⟨g, p, none⟩ (B y)).cell? ⟨b, q, none⟩ = some (B k) := by rw [cell_of_row _ b q _ _ (0, 0) hkw, hk]; exact kC_get K q hq4
      have HE : Hid (Row (Wq.setCell ⟨g, p, none⟩ (B y)) b (kC K) 43 ∧ MRow (Wq.setCell ⟨g, p, none⟩ (B y)) g (mskL L o K m (i + 1)) t fr ∧ Keeps g w (Wq.setCell ⟨g, p, none⟩ (B y))) := Lib.hid ⟨hkw, hgw, (HI.out.2.2.trans hBq).trans (.setCell _ _ _)⟩
      clear hs hq hq4 hk hy hnx hcx hx hp hgq hkq hgw hkw hBq
      go_wp2
      refine wp_region_noPanic ?_
      refine wp_region_held_drew (S := fun wx => wx.cell? ⟨b, q, none⟩ = some (B k)) (by kernel_rfl) hS2 (fun _ => ?_)
      rw [← hWq]
      clear hWq hS2
      refine take_at (i := 0) (d := some 14) (v := .slice (some ⟨g, o, none⟩) n c) rfl (by kernel_rfl) (by kernel_rfl) (by kernel_rfl) (fun _ _ _ h => h) (fun oi ho => ?_) hQ2 ?_
      · obtain rfl := Option.some.inj ho
        exact Or.inl ⟨by rfl, fun wx hSw => by go_simp⟩
      simp only [Act.put, List.setIfInBounds_toArray, List.set_cons_zero, List.set_cons_succ]
      refine take_at (i := 1) (d := some 15) (v := .int .i64 (i : Int)) rfl (by kernel_rfl) (by kernel_rfl) (by kernel_rfl) (fun _ _ _ h => h) (fun oi ho => ?_) hQ2 ?_
      · obtain rfl := Option.some.inj ho
        exact Or.inl ⟨by rfl, fun wx hSw => by go_simp⟩
      simp only [Act.put, List.setIfInBounds_toArray, List.set_cons_zero, List.set_cons_succ]
      refine take_at (i := 2) (d := some 16) (v := .pointer (some ⟨g, p, none⟩)) rfl (by kernel_rfl) (by kernel_rfl) (by kernel_rfl) (fun _ _ _ h => h) (fun oi ho => ?_) hQ2 ?_
      · obtain rfl := Option.some.inj ho
        exact Or.inl ⟨by rfl, fun wx hSw => by go_simp⟩
      simp only [Act.put, List.setIfInBounds_toArray, List.set_cons_zero, List.set_cons_succ]
      refine take_at (i := 4) (d := some 18) (v := .int .i64 (m : Int)) rfl (by kernel_rfl) (by kernel_rfl) (by kernel_rfl) (fun _ _ _ h => h) (fun oi ho => ?_) hQ2 ?_
      · obtain rfl := Option.some.inj ho
        exact Or.inl ⟨by rfl, fun wx hSw => by go_simp⟩
      simp only [Act.put, List.setIfInBounds_toArray, List.set_cons_zero, List.set_cons_succ]
      refine take_at (i := 5) (d := some 19) (v := .int .i64 (i : Int)) rfl (by kernel_rfl) (by kernel_rfl) (by kernel_rfl) (fun _ _ _ h => h) (fun oi ho => ?_) hQ2 ?_
      · obtain rfl := Option.some.inj ho
        exact Or.inl ⟨by rfl, fun wx hSw => by go_simp⟩
      simp only [Act.put, List.setIfInBounds_toArray, List.set_cons_zero, List.set_cons_succ]
      refine take_at (i := 6) (d := some 20) (v := .int .i64 (s : Int)) rfl (by kernel_rfl) (by kernel_rfl) (by kernel_rfl) (fun _ _ _ h => h) (fun oi ho => ?_) hQ2 ?_
      · obtain rfl := Option.some.inj ho
        exact Or.inl ⟨by rfl, fun wx hSw => by go_simp⟩
      simp only [Act.put, List.setIfInBounds_toArray, List.set_cons_zero, List.set_cons_succ]
      refine take_at (i := 7) (d := some 21) (v := .int .i64 (q : Int)) rfl (by kernel_rfl) (by kernel_rfl) (by kernel_rfl) (fun _ _ _ h => h) (fun oi ho => ?_) hQ2 ?_
      · obtain rfl := Option.some.inj ho
        exact Or.inl ⟨by rfl, fun wx hSw => by go_simp⟩
      simp only [Act.put, List.setIfInBounds_toArray, List.set_cons_zero, List.set_cons_succ]
      refine take_at (i := 8) (d := some 22) (v := .pointer (some ⟨b, q, none⟩)) rfl (by kernel_rfl) (by kernel_rfl) (by kernel_rfl) (fun _ _ _ h => h) (fun oi ho => ?_) hQ2 ?_
      · obtain rfl := Option.some.inj ho
        exact Or.inl ⟨by rfl, fun wx hSw => by go_simp⟩
      simp only [Act.put, List.setIfInBounds_toArray, List.set_cons_zero, List.set_cons_succ]
      refine take_at (i := 9) (d := some 23) (v := B k) rfl (by kernel_rfl) (by kernel_rfl) (by kernel_rfl) (fun _ _ _ h => h) (fun oi ho => ?_) hQ2 ?_
      · obtain rfl := Option.some.inj ho
        exact Or.inl ⟨by rfl, fun wx hSw => by go_simp⟩
      simp only [Act.put, List.setIfInBounds_toArray, List.set_cons_zero, List.set_cons_succ]
      refine ready_value (i := 3) (d := some 17) (v := B x) (w' := Wq) rfl (by kernel_rfl) (fun oi ho => ?_) hQ2 ?_
      · obtain rfl := Option.some.inj ho
        exact ⟨by rfl, by go_simp⟩
      simp only [Act.put, List.setIfInBounds_toArray, List.set_cons_zero, List.set_cons_succ]
      refine take_at (i := 10) (d := some 24) (v := B y) rfl (by kernel_rfl) (by kernel_rfl) (by kernel_rfl) (fun _ _ _ h => h) (fun oi ho => ?_) hQ2 ?_
      · obtain rfl := Option.some.inj ho
        exact Or.inl ⟨by rfl, fun wx hSw => by go_simp⟩
      simp only [Act.put, List.setIfInBounds_toArray, List.set_cons_zero, List.set_cons_succ]
      refine take_at (i := 11) (d := some 25) (v := .pointer (some ⟨g, p, none⟩)) rfl (by kernel_rfl) (by kernel_rfl) (by kernel_rfl) (fun _ _ _ h => h) (fun oi ho => ?_) hQ2 ?_
      · obtain rfl := Option.some.inj ho
        exact Or.inl ⟨by rfl, fun wx hSw => by go_simp⟩
      simp only [Act.put, List.setIfInBounds_toArray, List.set_cons_zero, List.set_cons_succ]
      refine ready_skip (i := 12) (d := none) (w' := Wq.setCell ⟨g, p, none⟩ (B y)) rfl (by kernel_rfl) (fun oi ho => ?_) hW2 ?_
      · obtain rfl := Option.some.inj ho
        exact ⟨by rfl, by go_simp⟩
      refine wpAnyH_done (by kernel_rfl) ?_ _
      refine NoPanic.normal ?_
      try simp only [Act.put]
      clear hQ1 hQ2 hQf hix hkx hxor hW2
      go_wp2
      exact ⟨⟨i + 1, by omega, by go_num, HE⟩, by simp [intOf]; omega⟩
    · obtain rfl : i = n := by omega
      have g2 : decide ((i : Int) < (i : Int)) = false := decide_eq_false (by omega)
      go_wp2
      refine bodyPost_end (results_none rfl _ _ _) rfl ?_
      exact ⟨rfl, by rw [HM.out]; exact HI.out.2.1, HI.out.2.2⟩
end Go.Proofs.Ytlmolmmhkddpaaa
