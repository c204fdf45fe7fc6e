/- The landed package of frames as they come: readData walked. (mkhw3.py writes it.) -/
import Derived.Test.YtlmolmmhkddpaaaHw2
import Derived.Test.YtlmolmmhkddpaaaEw4
namespace Go.Proofs.Ytlmolmmhkddpaaa
open Go.RowKit
attribute [local go_sem] store_one B_match B_store S_match S_store eguard_BN nguard_BN

theorem infoEv16 : (Try.prog.info? 29).map (·.size) = some 5 := by kernel_rfl
theorem infoK16 : (Try.prog.info? 43).map (·.size) = some 4 := by kernel_rfl
/-- The five cells of a result turned. -/
def put5H (W : World) (b : Nat) (v0 v1 v2 v3 v4 : Value) : World := ((((W.setCell ⟨b, 0, none⟩ v0).setCell ⟨b, 1, none⟩ v1).setCell ⟨b, 2, none⟩ v2).setCell ⟨b, 3, none⟩ v3).setCell ⟨b, 4, none⟩ v4
theorem put5H_row {W : World} {b : Nat} {t : TypeId} {a0 a1 a2 a3 a4 : Value} (h : Row W b #[a0, a1, a2, a3, a4] t) (v0 v1 v2 v3 v4 : Value) : Row (put5H W b v0 v1 v2 v3 v4) b #[v0, v1, v2, v3, v4] t := by
  unfold put5H
  have h0 : Row (W.setCell ⟨b, 0, none⟩ v0) b #[v0, a1, a2, a3, a4] t := h.set 0 v0
  have h1 : Row ((W.setCell ⟨b, 0, none⟩ v0).setCell ⟨b, 1, none⟩ v1) b #[v0, v1, a2, a3, a4] t := h0.set 1 v1
  have h2 : Row (((W.setCell ⟨b, 0, none⟩ v0).setCell ⟨b, 1, none⟩ v1).setCell ⟨b, 2, none⟩ v2) b #[v0, v1, v2, a3, a4] t := h1.set 2 v2
  have h3 : Row ((((W.setCell ⟨b, 0, none⟩ v0).setCell ⟨b, 1, none⟩ v1).setCell ⟨b, 2, none⟩ v2).setCell ⟨b, 3, none⟩ v3) b #[v0, v1, v2, v3, a4] t := h2.set 3 v3
  exact h3.set 4 v4
theorem put5H_below {n : Nat} {w W : World} {b : Nat} (h : Below n w W) (hb : n ≤ b) (v0 v1 v2 v3 v4 : Value) : Below n w (put5H W b v0 v1 v2 v3 v4) :=
  ((((h.setCell (p := ⟨b, 0, none⟩) hb v0).setCell (p := ⟨b, 1, none⟩) hb v1).setCell (p := ⟨b, 2, none⟩) hb v2).setCell (p := ⟨b, 3, none⟩) hb v3).setCell (p := ⟨b, 4, none⟩) hb v4
theorem put5H_keeps (W : World) (b : Nat) (v0 v1 v2 v3 v4 : Value) : Keeps b W (put5H W b v0 v1 v2 v3 v4) :=
  ((((Keeps.setCell W 0 v0).trans (.setCell _ 1 v1)).trans (.setCell _ 2 v2)).trans (.setCell _ 3 v3)).trans (.setCell _ 4 v4)
theorem keeps_moves {w W W' : World} {b : Nat} {F : Nat → Prop} (hk : Keeps b W W') (hb : ∀ k, F k → k ≠ b) (hle : w.heap.size ≤ b) (h : Moves F F w W) (ho : ∀ k, F k → k < W.heap.size) : Moves F F w W' ∧ W.heap.size ≤ W'.heap.size ∧ ∀ k, F k → W'.heap[k]? = W.heap[k]? :=
  ⟨⟨hk.os.trans h.os, hk.tape.trans h.tape, hk.output.trans h.output, Nat.le_trans h.size hk.size, h.foot, fun k h1 h2 => (hk.block k (Nat.lt_of_lt_of_le h1 h.size) (by omega)).trans (h.rest k h1 h2)⟩, hk.size, fun k h1 => hk.block k (ho k h1) (hb k h1)⟩
theorem ev_end {fn : Func} {p u : Tmp} (h : fn.results = #[.cell p 29, .tmp u]) (tmps : Array Value) (w : World) (g : Nat) (cs : Array Value) (hp : tmps.getD p undef = .pointer (some ⟨g, 0, none⟩)) (hg : Row w g cs 29) (h5 : cs.size = 5) :
    (results fn tmps).run Try.prog w = .ok (.tuple #[.agg cs, tmps.getD u undef]) w :=
  results_row_tmp h tmps w g 29 cs (0, 0) _ hp hg Try.underlying29 rfl (by rw [infoEv16, h5])
/-- What reading the next event answers. -/
def NextR (F : Nat → Prop) (g : Nat) (st : Fst) (w : World) (e : Ending) (w' : World) : Prop := e = .returned (nextV st) ∧ ∃ F', RA16 w' F' g (nextS st) ∧ Moves F F' w w'
theorem next_no {st : Fst} (h : nextF st = none) : nextV st = .tuple #[.agg #[.int .i64 0, .int .i64 0, .bool false, .int .i64 0, .string ⟨#[]⟩], .bool false] ∧ nextS st = st := by
  unfold nextV nextS; rw [h]; exact ⟨rfl, rfl⟩
theorem next_yes {st st' : Fst} {e : Ev} (h : nextF st = some (e, st')) : nextV st = .tuple #[evV e, .bool true] ∧ nextS st = st' := by
  unfold nextV nextS; rw [h]; exact ⟨rfl, rfl⟩
theorem next_data {st : Fst} {k : Key4} {a l : Nat} (hb : st.bad = false) (hc : st.cur = some (k, a, l)) (hl : l ≠ 0) :
    (min st.buf.length l = 0 → nextF st = none) ∧ (min st.buf.length l ≠ 0 → nextF st = some (pieceE (maskN k a (st.buf.take (min st.buf.length l))), { st with cur := some (k, a + min st.buf.length l, l - min st.buf.length l), buf := st.buf.drop (min st.buf.length l) })) := by
  have h1 : st.buf.take l = st.buf.take (min st.buf.length l) := by
    rcases Nat.le_total st.buf.length l with h | h
    · rw [Nat.min_eq_left h, List.take_of_length_le h, List.take_length]
    · rw [Nat.min_eq_right h]
  have h2 : st.buf.drop l = st.buf.drop (min st.buf.length l) := by
    rcases Nat.le_total st.buf.length l with h | h
    · rw [Nat.min_eq_left h, List.drop_eq_nil_of_le h, List.drop_length]
    · rw [Nat.min_eq_right h]
  have h3 : (st.buf.take (min st.buf.length l)).length = min st.buf.length l := by rw [List.length_take]; omega
  constructor
  · intro h0
    have hz : st.buf = [] := List.length_eq_zero_iff.1 (by omega)
    unfold nextF
    rw [hb, hc]
    dsimp only
    rw [if_neg Bool.false_ne_true, if_neg hl, if_pos hz]
  · intro h0
    have hz : st.buf ≠ [] := fun e => h0 (by rw [e]; simp)
    unfold nextF
    rw [hb, hc]
    dsimp only
    rw [if_neg Bool.false_ne_true, if_neg hl, if_neg hz, h1, h2, h3]
theorem maskF_nat (K : Key4) (a : Nat) (s : List UInt8) : maskF K (a : Int) s = maskN K a s := by
  unfold maskF; rw [if_neg (by omega)]; rfl
theorem hrd_key {w : World} {g : Nat} {x : Hrd} {v : Value} (h : Row w g (hrdC x v) 45) : w.rangeAt g 3 (kC x.key).toList := by
  intro j u hj
  have h1 := cell_of_row w g (3 + j) _ _ (0, 0) h
  rw [h1]
  have : j < 4 := by have := (List.getElem?_eq_some_iff.1 hj).1; simpa [kC] using this
  rcases (by omega : j = 0 ∨ j = 1 ∨ j = 2 ∨ j = 3) with rfl | rfl | rfl | rfl <;> exact hj
section
variable {w : World} {F : Nat → Prop} {g : Nat} {st : Fst} {x : Hrd} {v : Value} {ow : Option Nat}
set_option maxRecDepth 100000 in
set_option maxHeartbeats 2000000 in
theorem wdata16_any (h : HrdAt w F g st.buf x v ow) (hsy : SaysH x st) (hb : st.bad = false) {k : Key4} {a l : Nat} (hc : st.cur = some (k, a, l)) (hl : l ≠ 0) :
    Calls Try.prog 34 #[.pointer (some ⟨g, 0, none⟩)] w (NextR F g st w) := by
  obtain ⟨-, -, hx⟩ := hsy.2.2 hb
  obtain ⟨ek, ea, el, en, hal⟩ := hx k a l hc
  obtain ⟨nd1, nd2⟩ := next_data hb hc hl
  obtain ⟨N, hN⟩ : ∃ N, N = min st.buf.length l := ⟨_, rfl⟩
  rw [← hN] at nd1 nd2
  have hbl := hsy.1
  have HX := Lib.hid (And.intro h (And.intro hsy hb))
  have HND := Lib.hid (And.intro nd1 nd2)
  have HNL : Hid (N ≤ st.buf.length ∧ N ≤ l ∧ a + l < 9223372036854775808 ∧ st.buf.length ≤ 100000) := Lib.hid ⟨by omega, by omega, hal, hbl⟩
  have HK := Lib.hid (And.intro ek (And.intro ea (And.intro el hc)))
  have hlen := h.wait.toV.len 3
  obtain ⟨L, hL⟩ : ∃ L, L = st.buf.length := ⟨_, rfl⟩
  rw [← hL] at hlen
  obtain ⟨X8, hX8⟩ : ∃ X, X = x.lacks := ⟨_, rfl⟩
  obtain ⟨X7, hX7⟩ : ∃ X, X = x.told := ⟨_, rfl⟩
  have hmn : ∀ w, (Builtin.min_ #[3, 3] 3 #[.int .i64 (L : Int), .int .i64 (X8 : Int)]).run Try.prog w = .ok (.int .i64 (N : Int)) w := fun w => by
    rw [run_min_int2]
    congr 2
    split <;> omega
  obtain ⟨W1, hW1⟩ : ∃ W, W = w.alloc (.cells #[.int .i64 0, .int .i64 0, .bool false, .int .i64 0, .string ⟨#[]⟩] 29) := ⟨_, rfl⟩
  obtain ⟨b2, hb2⟩ : ∃ b, b = w.heap.size := ⟨_, rfl⟩
  obtain ⟨Wq, hWq⟩ : ∃ Wq, Wq = W1.drew := ⟨_, rfl⟩
  have hB1 : Below w.heap.size w W1 := by rw [hW1]; exact (Below.refl _ w).alloc (Nat.le_refl _) _
  have hBq : Below w.heap.size w Wq := by rw [hWq]; exact hB1.trans ⟨rfl, rfl, rfl, Nat.le_refl _, fun _ _ => rfl⟩
  have hr1 : Row W1 b2 #[.int .i64 0, .int .i64 0, .bool false, .int .i64 0, .string ⟨#[]⟩] 29 := by rw [hW1, hb2]; exact row_new w _ _
  have hrq : Row Wq b2 #[.int .i64 0, .int .i64 0, .bool false, .int .i64 0, .string ⟨#[]⟩] 29 := by rw [hWq]; exact hr1.drew
  have hAq := h.below hBq
  have hSQ : Wq.cell? ⟨g, 1, none⟩ = some v ∧ Wq.cell? ⟨g, 8, none⟩ = some (.int .i64 (X8 : Int)) := ⟨hAq.cells.1.2.1, by rw [hX8]; exact hAq.cells.1.2.2.2.2⟩
  have HQ := Lib.hid (And.intro hBq (And.intro hrq hAq))
  have HB := Lib.hid (And.intro hb2 (fun k hk => Nat.ne_of_lt (by rw [hb2]; exact h.old k hk) : ∀ k, F k → k ≠ b2))
  have HXX := Lib.hid (And.intro hX7 hX8)
  clear h hsy hb hx ek ea el en hal nd1 nd2 hbl hB1 hBq hr1 hrq hAq hN hL hc hl hX7 hX8
  go_enter Try.func34, Try.ntmps34
  go_wp2
  rw [← hW1, ← hb2]
  clear hW1 hb2
  refine wp_region_noPanic ?_
  refine wp_region_held_drew (S := fun wx => wx.cell? ⟨g, 1, none⟩ = some v ∧ wx.cell? ⟨g, 8, none⟩ = some (.int .i64 (X8 : Int))) (by kernel_rfl) (by rw [← hWq]; exact hSQ) (fun _ => ?_)
  rw [← hWq]
  clear hWq
  refine take_at (i := 0) (d := some 6) (v := .pointer (some ⟨g, 0, none⟩)) rfl (by kernel_rfl) (by kernel_rfl) (by kernel_rfl) (fun _ _ _ h => h) (fun oi ho => ?_) hSQ ?_
  · obtain rfl := Option.some.inj ho
    exact Or.inl ⟨by rfl, fun wx ⟨hSa, hSb⟩ => by go_simp⟩
  simp only [Act.put, List.setIfInBounds_toArray, List.set_cons_zero, List.set_cons_succ]
  refine take_at (i := 1) (d := some 7) (v := .pointer (some ⟨g, 0, none⟩)) rfl (by kernel_rfl) (by kernel_rfl) (by kernel_rfl) (fun _ _ _ h => h) (fun oi ho => ?_) hSQ ?_
  · obtain rfl := Option.some.inj ho
    exact Or.inl ⟨by rfl, fun wx ⟨hSa, hSb⟩ => by go_simp⟩
  simp only [Act.put, List.setIfInBounds_toArray, List.set_cons_zero, List.set_cons_succ]
  refine take_at (i := 2) (d := some 8) (v := .pointer (some ⟨g, 1, none⟩)) rfl (by kernel_rfl) (by kernel_rfl) (by kernel_rfl) (fun _ _ _ h => h) (fun oi ho => ?_) hSQ ?_
  · obtain rfl := Option.some.inj ho
    exact Or.inl ⟨by rfl, fun wx ⟨hSa, hSb⟩ => by go_simp⟩
  simp only [Act.put, List.setIfInBounds_toArray, List.set_cons_zero, List.set_cons_succ]
  refine take_at (i := 3) (d := some 9) (v := v) rfl (by kernel_rfl) (by kernel_rfl) (by kernel_rfl) (fun _ _ _ h => h) (fun oi ho => ?_) hSQ ?_
  · obtain rfl := Option.some.inj ho
    exact Or.inl ⟨by rfl, fun wx ⟨hSa, hSb⟩ => by go_simp⟩
  simp only [Act.put, List.setIfInBounds_toArray, List.set_cons_zero, List.set_cons_succ]
  refine take_at (i := 4) (d := some 10) (v := .int .i64 (L : Int)) rfl (by kernel_rfl) (by kernel_rfl) (by kernel_rfl) (fun _ _ _ h => h) (fun oi ho => ?_) hSQ ?_
  · obtain rfl := Option.some.inj ho
    exact Or.inl ⟨by rfl, fun wx ⟨hSa, hSb⟩ => by go_simp⟩
  simp only [Act.put, List.setIfInBounds_toArray, List.set_cons_zero, List.set_cons_succ]
  refine take_at (i := 5) (d := some 11) (v := .pointer (some ⟨g, 0, none⟩)) rfl (by kernel_rfl) (by kernel_rfl) (by kernel_rfl) (fun _ _ _ h => h) (fun oi ho => ?_) hSQ ?_
  · obtain rfl := Option.some.inj ho
    exact Or.inl ⟨by rfl, fun wx ⟨hSa, hSb⟩ => by go_simp⟩
  simp only [Act.put, List.setIfInBounds_toArray, List.set_cons_zero, List.set_cons_succ]
  refine take_at (i := 6) (d := some 12) (v := .pointer (some ⟨g, 0, none⟩)) rfl (by kernel_rfl) (by kernel_rfl) (by kernel_rfl) (fun _ _ _ h => h) (fun oi ho => ?_) hSQ ?_
  · obtain rfl := Option.some.inj ho
    exact Or.inl ⟨by rfl, fun wx ⟨hSa, hSb⟩ => by go_simp⟩
  simp only [Act.put, List.setIfInBounds_toArray, List.set_cons_zero, List.set_cons_succ]
  refine take_at (i := 7) (d := some 13) (v := .pointer (some ⟨g, 8, none⟩)) rfl (by kernel_rfl) (by kernel_rfl) (by kernel_rfl) (fun _ _ _ h => h) (fun oi ho => ?_) hSQ ?_
  · obtain rfl := Option.some.inj ho
    exact Or.inl ⟨by rfl, fun wx ⟨hSa, hSb⟩ => by go_simp⟩
  simp only [Act.put, List.setIfInBounds_toArray, List.set_cons_zero, List.set_cons_succ]
  refine take_at (i := 8) (d := some 14) (v := .int .i64 (X8 : Int)) rfl (by kernel_rfl) (by kernel_rfl) (by kernel_rfl) (fun _ _ _ h => h) (fun oi ho => ?_) hSQ ?_
  · obtain rfl := Option.some.inj ho
    exact Or.inl ⟨by rfl, fun wx ⟨hSa, hSb⟩ => by go_simp⟩
  simp only [Act.put, List.setIfInBounds_toArray, List.set_cons_zero, List.set_cons_succ]
  refine take_at (i := 9) (d := some 15) (v := .int .i64 (N : Int)) rfl (by kernel_rfl) (by kernel_rfl) (by kernel_rfl) (fun _ _ _ h => h) (fun oi ho => ?_) hSQ ?_
  · obtain rfl := Option.some.inj ho
    exact Or.inl ⟨by rfl, fun wx ⟨hSa, hSb⟩ => by go_simp⟩
  simp only [Act.put, List.setIfInBounds_toArray, List.set_cons_zero, List.set_cons_succ]
  refine take_at (i := 10) (d := some 4) (v := .int .i64 (N : Int)) rfl (by kernel_rfl) (by kernel_rfl) (by kernel_rfl) (fun _ _ _ h => h) (fun oi ho => ?_) hSQ ?_
  · obtain rfl := Option.some.inj ho
    exact Or.inl ⟨by rfl, fun wx ⟨hSa, hSb⟩ => by go_simp⟩
  simp only [Act.put, List.setIfInBounds_toArray, List.set_cons_zero, List.set_cons_succ]
  refine wpAnyH_done (by kernel_rfl) ?_ _
  refine NoPanic.normal ?_
  try simp only [Act.put]
  clear hlen hmn hSQ
  by_cases h0 : N = 0
  · have q : ((N : Int) == 0) = true := by rw [beq_iff_eq]; omega
    have hnn := HND.out.1 h0
    have HV := Lib.hid (And.intro (next_no hnn).1 (next_no hnn).2)
    have hrq := HQ.out.2.1
    have z0 : Wq.cell? ⟨b2, 0, none⟩ = some (.int .i64 0) := cell_of_row Wq _ 0 _ _ (0, 0) hrq
    have zf0 : Wq.frozen? ⟨b2, 0, none⟩ = false := Row.frozen hrq 0
    have z1 : Wq.cell? ⟨b2, 1, none⟩ = some (.int .i64 0) := cell_of_row Wq _ 1 _ _ (0, 0) hrq
    have zf1 : Wq.frozen? ⟨b2, 1, none⟩ = false := Row.frozen hrq 1
    have z2 : Wq.cell? ⟨b2, 2, none⟩ = some (.bool false) := cell_of_row Wq _ 2 _ _ (0, 0) hrq
    have zf2 : Wq.frozen? ⟨b2, 2, none⟩ = false := Row.frozen hrq 2
    have z3 : Wq.cell? ⟨b2, 3, none⟩ = some (.int .i64 0) := cell_of_row Wq _ 3 _ _ (0, 0) hrq
    have zf3 : Wq.frozen? ⟨b2, 3, none⟩ = false := Row.frozen hrq 3
    have z4 : Wq.cell? ⟨b2, 4, none⟩ = some (.string ⟨#[]⟩) := cell_of_row Wq _ 4 _ _ (0, 0) hrq
    have zf4 : Wq.frozen? ⟨b2, 4, none⟩ = false := Row.frozen hrq 4
    clear h0 hnn hrq
    go_wp2
    refine bodyPost_ret (ev_end rfl _ _ b2 _ rfl (put5H_row HQ.out.2.1 (.int .i64 0) (.int .i64 0) (.bool false) (.int .i64 0) (.string ⟨#[]⟩)) rfl) rfl ?_
    refine ⟨by rw [HV.out.1]; rfl, F, ?_⟩
    obtain ⟨m1, m2, m3⟩ := keeps_moves (put5H_keeps Wq b2 (.int .i64 0) (.int .i64 0) (.bool false) (.int .i64 0) (.string ⟨#[]⟩)) HB.out.2 (by rw [HB.out.1]; exact Nat.le_refl _) (Moves.of_below (F := F) HQ.out.1) HQ.out.2.2.old
    rw [HV.out.2]
    exact ⟨⟨x, v, ow, HQ.out.2.2.same m2 m3, HX.out.2.1⟩, m1⟩
  have q : ((N : Int) == 0) = false := by rw [beq_eq_false_iff_ne]; omega
  have hnn := HND.out.2 h0
  have HV := Lib.hid (And.intro (next_yes hnn).1 (next_yes hnn).2)
  clear h0 hnn HND
  go_wp2
  obtain ⟨Wr, hWr⟩ : ∃ Wr, Wr = Wq.drew := ⟨_, rfl⟩
  have HR : Hid (Below w.heap.size w Wr ∧ Row Wr b2 #[.int .i64 0, .int .i64 0, .bool false, .int .i64 0, .string ⟨#[]⟩] 29 ∧ HrdAt Wr F g st.buf x v ow) := Lib.hid (by rw [hWr]; exact ⟨HQ.out.1.trans ⟨rfl, rfl, rfl, Nat.le_refl _, fun _ _ => rfl⟩, HQ.out.2.1.drew, HQ.out.2.2.drew⟩)
  have hS2 : ∃ u, Row Wr g (hrdC x u) 45 := ⟨v, HR.out.2.2.row⟩
  have HT : Hid (∀ (W : World), HrdAt W F g st.buf x v ow → Calls Try.prog 37 #[.pointer (some ⟨g, 0, none⟩), .int .i64 (N : Int)] W fun e w' => e = .returned (S (st.buf.take N)) ∧ (∃ v' ow', HrdAt w' F g (st.buf.drop N) x v' ow') ∧ Moves F F W w') := Lib.hid fun W hW => wtake16_any hW N HNL.out.1
  obtain ⟨TK, hTK⟩ : ∃ T, T = st.buf.take N := ⟨_, rfl⟩
  rw [← hTK] at HT HV
  have HM : Hid (∀ W, Calls Try.prog 39 #[kV x.key, .int .i64 (X7 : Int), S TK] W fun e w' => e = .returned (S (maskN k a TK)) ∧ Below W.heap.size W w') := Lib.hid fun W => by
    have h1 := wmask_any x.key (X7 : Int) (by rw [IntKind.wrap_i64]; have := HXX.out.1; have := HK.out.2.1; have := HNL.out; omega) TK (by rw [hTK, List.length_take]; have := HNL.out; omega) W
    rw [maskF_nat, HK.out.1, HXX.out.1, HK.out.2.1] at h1
    rw [HK.out.1, HXX.out.1, HK.out.2.1]
    exact h1
  refine wp_region_noPanic ?_
  refine wp_region_held_drew (S := fun wx => ∃ u, Row wx g (hrdC x u) 45) (by kernel_rfl) (by rw [← hWr]; exact hS2) (fun _ => ?_)
  rw [← hWr]
  clear hWr hTK
  refine take_at (i := 0) (d := some 19) (v := .pointer (some ⟨g, 0, none⟩)) rfl (by kernel_rfl) (by kernel_rfl) (by kernel_rfl) (fun _ _ _ h => h) (fun oi ho => ?_) hS2 ?_
  · obtain rfl := Option.some.inj ho
    exact Or.inl ⟨by rfl, fun wx hSw => by go_simp⟩
  simp only [Act.put, List.setIfInBounds_toArray, List.set_cons_zero, List.set_cons_succ]
  refine take_at (i := 1) (d := some 20) (v := .pointer (some ⟨g, 0, none⟩)) rfl (by kernel_rfl) (by kernel_rfl) (by kernel_rfl) (fun _ _ _ h => h) (fun oi ho => ?_) hS2 ?_
  · obtain rfl := Option.some.inj ho
    exact Or.inl ⟨by rfl, fun wx hSw => by go_simp⟩
  simp only [Act.put, List.setIfInBounds_toArray, List.set_cons_zero, List.set_cons_succ]
  refine take_at (i := 2) (d := some 21) (v := .pointer (some ⟨g, 3, none⟩)) rfl (by kernel_rfl) (by kernel_rfl) (by kernel_rfl) (fun _ _ _ h => h) (fun oi ho => ?_) hS2 ?_
  · obtain rfl := Option.some.inj ho
    exact Or.inl ⟨by rfl, fun wx hSw => by go_simp⟩
  simp only [Act.put, List.setIfInBounds_toArray, List.set_cons_zero, List.set_cons_succ]
  refine take_at (i := 3) (d := some 22) (v := kV x.key) rfl (by kernel_rfl) (by kernel_rfl) (by kernel_rfl) (fun _ _ _ h => h) (fun oi ho => ?_) hS2 ?_
  · obtain rfl := Option.some.inj ho
    exact Or.inl ⟨by rfl, fun wx hSw => by obtain ⟨u, hu⟩ := hSw; exact exec_load_mid 43 (.tmp 21) rfl g 3 rfl (kC x.key).toList _ (hrd_key hu) Try.underlying43 rfl (by rw [infoK16]; rfl)⟩
  simp only [Act.put, List.setIfInBounds_toArray, List.set_cons_zero, List.set_cons_succ]
  refine take_at (i := 4) (d := some 23) (v := .pointer (some ⟨g, 0, none⟩)) rfl (by kernel_rfl) (by kernel_rfl) (by kernel_rfl) (fun _ _ _ h => h) (fun oi ho => ?_) hS2 ?_
  · obtain rfl := Option.some.inj ho
    exact Or.inl ⟨by rfl, fun wx hSw => by go_simp⟩
  simp only [Act.put, List.setIfInBounds_toArray, List.set_cons_zero, List.set_cons_succ]
  refine take_at (i := 5) (d := some 24) (v := .pointer (some ⟨g, 0, none⟩)) rfl (by kernel_rfl) (by kernel_rfl) (by kernel_rfl) (fun _ _ _ h => h) (fun oi ho => ?_) hS2 ?_
  · obtain rfl := Option.some.inj ho
    exact Or.inl ⟨by rfl, fun wx hSw => by go_simp⟩
  simp only [Act.put, List.setIfInBounds_toArray, List.set_cons_zero, List.set_cons_succ]
  refine take_at (i := 6) (d := some 25) (v := .pointer (some ⟨g, 7, none⟩)) rfl (by kernel_rfl) (by kernel_rfl) (by kernel_rfl) (fun _ _ _ h => h) (fun oi ho => ?_) hS2 ?_
  · obtain rfl := Option.some.inj ho
    exact Or.inl ⟨by rfl, fun wx hSw => by go_simp⟩
  simp only [Act.put, List.setIfInBounds_toArray, List.set_cons_zero, List.set_cons_succ]
  refine take_at (i := 7) (d := some 26) (v := .int .i64 (X7 : Int)) rfl (by kernel_rfl) (by kernel_rfl) (by kernel_rfl) (fun _ _ _ h => h) (fun oi ho => ?_) hS2 ?_
  · obtain rfl := Option.some.inj ho
    exact Or.inl ⟨by rfl, fun wx hSw => by obtain ⟨u, hu⟩ := hSw; have c7 : wx.cell? ⟨g, 7, none⟩ = some (.int .i64 (X7 : Int)) := (by rw [HXX.out.1]; exact cell_of_row wx g 7 _ _ (0, 0) hu); go_simp⟩
  simp only [Act.put, List.setIfInBounds_toArray, List.set_cons_zero, List.set_cons_succ]
  refine take_at (i := 8) (d := some 27) (v := .pointer (some ⟨g, 0, none⟩)) rfl (by kernel_rfl) (by kernel_rfl) (by kernel_rfl) (fun _ _ _ h => h) (fun oi ho => ?_) hS2 ?_
  · obtain rfl := Option.some.inj ho
    exact Or.inl ⟨by rfl, fun wx hSw => by go_simp⟩
  simp only [Act.put, List.setIfInBounds_toArray, List.set_cons_zero, List.set_cons_succ]
  refine take_at (i := 9) (d := some 28) (v := .int .i64 (N : Int)) rfl (by kernel_rfl) (by kernel_rfl) (by kernel_rfl) (fun _ _ _ h => h) (fun oi ho => ?_) hS2 ?_
  · obtain rfl := Option.some.inj ho
    exact Or.inl ⟨by rfl, fun wx hSw => by go_simp⟩
  simp only [Act.put, List.setIfInBounds_toArray, List.set_cons_zero, List.set_cons_succ]
  refine ready_call (i := 10) (d := some 29) (f := 37) (args := #[.pointer (some ⟨g, 0, none⟩), .int .i64 (N : Int)]) rfl (by kernel_rfl) (fun oi ho => ?_) ?_
  · obtain rfl := Option.some.inj ho
    exact ⟨by rfl, by go_simp⟩
  refine (HT.out Wr HR.out.2.2).mono ?_
  rintro e W2 ⟨rfl, ⟨v2, ow2, hA2⟩, hM2⟩
  have H2 : Hid (HrdAt W2 F g (st.buf.drop N) x v2 ow2 ∧ Moves F F w W2 ∧ Row W2 b2 #[.int .i64 0, .int .i64 0, .bool false, .int .i64 0, .string ⟨#[]⟩] 29) := Lib.hid ⟨hA2, (Moves.of_below HR.out.1).trans hM2, HR.out.2.1.moves hM2 (fun e => HB.out.2 b2 e rfl)⟩
  clear hA2 hM2
  refine ⟨_, rfl, ⟨v2, H2.out.1.row⟩, ?_⟩
  simp only [Act.put, List.setIfInBounds_toArray, List.set_cons_zero, List.set_cons_succ]
  refine ready_call (i := 11) (d := some 30) (f := 39) (args := #[kV x.key, .int .i64 (X7 : Int), S TK]) rfl (by kernel_rfl) (fun oi ho => ?_) ?_
  · obtain rfl := Option.some.inj ho
    exact ⟨by rfl, by go_simp⟩
  refine (HM.out W2).mono ?_
  rintro e W3 ⟨rfl, hB3⟩
  have H3 : Hid (HrdAt W3 F g (st.buf.drop N) x v2 ow2 ∧ Moves F F w W3 ∧ Row W3 b2 #[.int .i64 0, .int .i64 0, .bool false, .int .i64 0, .string ⟨#[]⟩] 29) := Lib.hid ⟨H2.out.1.below hB3, H2.out.2.1.trans (Moves.of_below hB3), H2.out.2.2.below hB3 H2.out.2.2.lt⟩
  clear hB3 H2
  refine ⟨_, rfl, ⟨v2, H3.out.1.row⟩, ?_⟩
  simp only [Act.put, List.setIfInBounds_toArray, List.set_cons_zero, List.set_cons_succ]
  refine take_at (i := 12) (d := some 5) (v := S (maskN k a TK)) rfl (by kernel_rfl) (by kernel_rfl) (by kernel_rfl) (fun _ _ _ h => h) (fun oi ho => ?_) ⟨v2, H3.out.1.row⟩ ?_
  · obtain rfl := Option.some.inj ho
    exact Or.inl ⟨by rfl, fun wx hSw => by go_simp⟩
  simp only [Act.put, List.setIfInBounds_toArray, List.set_cons_zero, List.set_cons_succ]
  refine wpAnyH_done (by kernel_rfl) ?_ _
  refine NoPanic.normal ?_
  try simp only [Act.put]
  obtain ⟨MT, hMT⟩ : ∃ M, M = maskN k a TK := ⟨_, rfl⟩
  rw [← hMT] at HV ⊢
  clear hMT HM HT hS2 HR HQ
  -- the two counts, and what is read next
  have hw1 : IntKind.i64.wrap ((X7 : Int) + (N : Int)) = ((X7 + N : Nat) : Int) := by rw [IntKind.wrap_i64]; have := HXX.out.1; have := HK.out; have := HNL.out; omega
  have hw2 : IntKind.i64.wrap ((X8 : Int) - (N : Int)) = ((X8 - N : Nat) : Int) := by rw [IntKind.wrap_i64]; have := HXX.out.2; have := HK.out; have := HNL.out; omega
  have hA4 := H3.out.1.put ⟨x.msk, x.nx, x.key, X7 + N, x.lacks⟩ 7 (.int .i64 ((X7 + N : Nat) : Int)) rfl
  have hA5 := hA4.put ⟨x.msk, x.nx, x.key, X7 + N, X8 - N⟩ 8 (.int .i64 ((X8 - N : Nat) : Int)) rfl
  have c3 : W3.cell? ⟨g, 7, none⟩ = some (.int .i64 (X7 : Int)) := by rw [HXX.out.1]; exact H3.out.1.cells.1.2.2.2.1
  have f3 := H3.out.1.cells.2 7
  have c4 : (W3.setCell ⟨g, 7, none⟩ (.int .i64 ((X7 + N : Nat) : Int))).cell? ⟨g, 8, none⟩ = some (.int .i64 (X8 : Int)) := by rw [HXX.out.2]; exact hA4.cells.1.2.2.2.2
  have f4 := hA4.cells.2 8
  have hm4 := H3.out.2.1.trans (moves_cell16 W3 H3.out.1.foot 7 (.int .i64 ((X7 + N : Nat) : Int)))
  obtain ⟨W4, hW4⟩ : ∃ W, W = W3.setCell ⟨g, 7, none⟩ (.int .i64 ((X7 + N : Nat) : Int)) := ⟨_, rfl⟩
  have hgb : b2 ≠ g := fun e => HB.out.2 g H3.out.1.foot e.symm
  have hr4 : Row W4 b2 #[.int .i64 0, .int .i64 0, .bool false, .int .i64 0, .string ⟨#[]⟩] 29 := by rw [hW4]; exact H3.out.2.2.other hgb
  have hm5 := hm4.trans (moves_cell16 _ H3.out.1.foot 8 (.int .i64 ((X8 - N : Nat) : Int)))
  rw [← hW4] at hA5 hm5 c4 f4
  obtain ⟨W5, hW5⟩ : ∃ W, W = W4.setCell ⟨g, 8, none⟩ (.int .i64 ((X8 - N : Nat) : Int)) := ⟨_, rfl⟩
  have hr5 : Row W5 b2 #[.int .i64 0, .int .i64 0, .bool false, .int .i64 0, .string ⟨#[]⟩] 29 := by rw [hW5]; exact hr4.other hgb
  rw [← hW5] at hA5 hm5
  have c5 : W5.cell? ⟨g, 8, none⟩ = some (.int .i64 ((X8 - N : Nat) : Int)) := hA5.cells.1.2.2.2.2
  have f5 := hA5.cells.2 2
  have HBH := Lib.hid (wbehind_any (X8 - N) W5)
  obtain ⟨NX, hNX⟩ : ∃ R : Nat, R = if X8 - N = 0 then 2 else 1 := ⟨_, rfl⟩
  rw [← hNX] at HBH
  have H5 := Lib.hid (And.intro hA5 (And.intro hm5 (And.intro hr5 hgb)))
  have HNX := Lib.hid hNX
  rw [hW4] at c4 f4
  rw [hW5, hW4] at c5 f5
  obtain ⟨A7, hA7⟩ : ∃ A, A = X7 + N := ⟨_, rfl⟩
  obtain ⟨A8, hA8⟩ : ∃ A, A = X8 - N := ⟨_, rfl⟩
  rw [← hA7] at hw1 c4 f4 c5 f5 hW4 H5
  rw [← hA8] at hw2 c5 f5 hW5 HBH H5 HNX
  have HA := Lib.hid (And.intro hA7 hA8)
  clear hA4 hA5 hm4 hm5 hr4 hr5 hgb hNX hA7 hA8
  go_wp2_with fail
  rw [← hW4, ← hW5]
  rw [← hW4, ← hW5] at f5
  clear c3 f3 c4 f4 c5 hw1 hw2 hW4 hW5
  refine HBH.out.mono ?_
  rintro e w' ⟨rfl, hw'⟩
  subst hw'
  clear HBH
  have c6 : w'.cell? ⟨g, 2, none⟩ = some (.int .i64 (x.nx : Int)) := H5.out.1.cells.1.2.2.1
  have hA6 := H5.out.1.put ⟨x.msk, NX, x.key, A7, A8⟩ 2 (.int .i64 (NX : Int)) rfl
  have hm6 := H5.out.2.1.trans (moves_cell16 w' H5.out.1.foot 2 (.int .i64 (NX : Int)))
  obtain ⟨W6, hW6⟩ : ∃ W, W = w'.setCell ⟨g, 2, none⟩ (.int .i64 (NX : Int)) := ⟨_, rfl⟩
  have hr6 : Row W6 b2 #[.int .i64 0, .int .i64 0, .bool false, .int .i64 0, .string ⟨#[]⟩] 29 := by rw [hW6]; exact H5.out.2.2.1.other H5.out.2.2.2
  rw [← hW6] at hA6 hm6
  have H6 := Lib.hid (And.intro hA6 (And.intro hm6 hr6))
  have z0 : W6.cell? ⟨b2, 0, none⟩ = some (.int .i64 0) := cell_of_row W6 _ 0 _ _ (0, 0) hr6
  have zf0 : W6.frozen? ⟨b2, 0, none⟩ = false := Row.frozen hr6 0
  have z1 : W6.cell? ⟨b2, 1, none⟩ = some (.int .i64 0) := cell_of_row W6 _ 1 _ _ (0, 0) hr6
  have zf1 : W6.frozen? ⟨b2, 1, none⟩ = false := Row.frozen hr6 1
  have z2 : W6.cell? ⟨b2, 2, none⟩ = some (.bool false) := cell_of_row W6 _ 2 _ _ (0, 0) hr6
  have zf2 : W6.frozen? ⟨b2, 2, none⟩ = false := Row.frozen hr6 2
  have z3 : W6.cell? ⟨b2, 3, none⟩ = some (.int .i64 0) := cell_of_row W6 _ 3 _ _ (0, 0) hr6
  have zf3 : W6.frozen? ⟨b2, 3, none⟩ = false := Row.frozen hr6 3
  have z4 : W6.cell? ⟨b2, 4, none⟩ = some (.string ⟨#[]⟩) := cell_of_row W6 _ 4 _ _ (0, 0) hr6
  have zf4 : W6.frozen? ⟨b2, 4, none⟩ = false := Row.frozen hr6 4
  rw [hW6] at z0 zf0 z1 zf1 z2 zf2 z3 zf3 z4 zf4
  clear hA6 hm6 hr6
  go_wp2
  rw [← hW6]
  refine bodyPost_ret (ev_end rfl _ _ b2 _ rfl (put5H_row H6.out.2.2 (.int .i64 2) (.int .i64 0) (.bool false) (.int .i64 0) (S MT)) rfl) rfl ?_
  refine ⟨by rw [HV.out.1]; rfl, F, ?_⟩
  obtain ⟨m1, m2, m3⟩ := keeps_moves (put5H_keeps W6 b2 (.int .i64 2) (.int .i64 0) (.bool false) (.int .i64 0) (S MT)) HB.out.2 (by rw [HB.out.1]; exact Nat.le_refl _) H6.out.2.1 H6.out.1.old
  rw [HV.out.2]
  refine ⟨⟨_, v2, ow2, H6.out.1.same m2 m3, ?_⟩, m1⟩
  have hsy := HX.out.2.1
  refine ⟨?_, fun e => absurd (show st.bad = true from e) (by rw [HX.out.2.2]; exact Bool.false_ne_true), fun _ => ⟨(hsy.2.2 HX.out.2.2).1, fun e => (by cases e), fun k' a' l' e => ?_⟩⟩
  · show (st.buf.drop N).length ≤ 100000
    rw [List.length_drop]; have := HNL.out; omega
  · have e : (k, a + N, l - N) = (k', a', l') := Option.some.inj e
    injection e with e1 e2
    injection e2 with e2 e3
    have h7 := HXX.out.1
    have h8 := HXX.out.2
    have hk := HK.out
    have ha := HA.out
    have hn := HNL.out
    subst e1 e2 e3
    refine ⟨hk.1, by show A7 = a + N; omega, by show A8 = l - N; omega, ?_, by omega⟩
    show NX = _
    rw [HNX.out]
    have : A8 = l - N := by omega
    rw [this]
end
end Go.Proofs.Ytlmolmmhkddpaaa
