/- The landed package of frames as they come: the reader in memory; its short functions walked. The landed package of frames as they come: Feed, take, right walked. The landed package of frames as they come: readData walked. (mkhw3.py writes it.) The landed package of frames as they come: readHead walked. (mkhw4.py writes it.) The landed package of frames as they come: read walked. -/
import Derived.Test.YtlmolmmhkddpaaaHa
import Derived.Test.YtlmolmmhkddpaaaRt2
import Derived.Test.YtlmolmmhkddpaaaEw4
import Derived.Test.YtlmolmmhkddpaaaEw8
import Derived.Deep.DeepCutAuto
import Derived.Test.YtlmolmmhkddpaaaHm4
namespace Go.Proofs.Ytlmolmmhkddpaaa
open Go.RowKit
attribute [local go_sem] store_one B_match B_store S_match S_store eguard_BN nguard_BN

/-- A head is read of its first fourteen bytes. -/
theorem head_take (s : List UInt8) : readHeadF (s.take 14) = readHeadF s := by
  rcases s with _ | ⟨a, _ | ⟨b, t⟩⟩
  · rfl
  · rfl
  · have hm : moreN b ≤ 12 := by unfold moreN wideN; split <;> split <;> (try split) <;> omega
    rw [show (a :: b :: t).take 14 = a :: b :: t.take 12 from rfl]
    by_cases h : t.length < moreN b
    · rw [List.take_of_length_le (by omega)]
    · have h2 := head_cons a b (t.take 12) (by rw [List.length_take]; omega)
      have h3 := (head_app h2).2.2 (t.drop 12)
      rw [List.cons_append, List.cons_append, List.take_append_drop] at h3
      rw [h2, h3]
theorem head_few16 {s : List UInt8} {h : Hd} {n : Nat} (hs : readHeadF s = some (h, n)) : h.rsv ≤ 7 ∧ h.op ≤ 15 ∧ h.len < 18446744073709551616 := by
  rcases s with _ | ⟨a, _ | ⟨b, t⟩⟩
  · cases hs
  · cases hs
  · rw [readHeadF] at hs
    split at hs
    · cases hs
    · injection hs with hs
      injection hs with h1 h2
      subst h1
      unfold headOf
      refine ⟨by dsimp only; omega, by dsimp only; omega, ?_⟩
      dsimp only
      split
      · omega
      · have hw : wideN b.toNat ≤ 8 := by unfold wideN; split <;> (try split) <;> omega
        have hl : (t.take (wideN b.toNat)).length ≤ 8 := by rw [List.length_take]; omega
        have := ofBE_lt (t.take (wideN b.toNat))
        have h3 : 256 ^ (t.take (wideN b.toNat)).length ≤ 256 ^ 8 := Nat.pow_le_pow_right (by omega) hl
        omega
theorem may_parts (h : Hd) (m : Bool) : mayF h m = ((h.masked == m) && mayF h h.masked) := by
  unfold mayF
  cases h1 : decide (h.rsv = 0) <;> cases h2 : decide (h.op ≤ 2 ∨ (8 ≤ h.op ∧ h.op ≤ 10)) <;> cases h3 : (h.masked == m) <;> simp
/-- A reader's cells, but for the bytes that wait. -/
structure Hrd where
  msk : Bool
  nx : Nat
  key : Key4
  told : Nat
  lacks : Nat
def hrdC (x : Hrd) (v : Value) : Array Value := #[.bool x.msk, v, .int .i64 (x.nx : Int), B x.key.k0, B x.key.k1, B x.key.k2, B x.key.k3, .int .i64 (x.told : Int), .int .i64 (x.lacks : Int)]
/-- How the cells stand for the automaton. -/
def SaysH (x : Hrd) (st : Fst) : Prop := st.buf.length ≤ 100000 ∧ (st.bad = true → x.nx = 3 ∧ st.buf = []) ∧
  (st.bad = false → x.msk = st.masked ∧ (st.cur = none → x.nx = 0) ∧ ∀ k a l, st.cur = some (k, a, l) → x.key = k ∧ x.told = a ∧ x.lacks = l ∧ x.nx = (if l = 0 then 2 else 1) ∧ a + l < 9223372036854775808)
/-- In block g lies a reader; b waits. -/
structure HrdAt (w : World) (F : Nat → Prop) (g : Nat) (b : List UInt8) (x : Hrd) (v : Value) (ow : Option Nat) : Prop where
  row : Row w g (hrdC x v) 45
  wait : WaitO w v ow b
  foot : F g
  own : ∀ k, ow = some k → F k ∧ k ≠ g
  old : ∀ k, F k → k < w.heap.size
def RA16 (w : World) (F : Nat → Prop) (g : Nat) (st : Fst) : Prop := ∃ x v ow, HrdAt w F g st.buf x v ow ∧ SaysH x st
section
variable {w w' : World} {F : Nat → Prop} {g : Nat} {b : List UInt8} {x : Hrd} {v : Value} {ow : Option Nat} {st : Fst}
theorem HrdAt.same (h : HrdAt w F g b x v ow) (hs : w.heap.size ≤ w'.heap.size) (hb : ∀ k, F k → w'.heap[k]? = w.heap[k]?) : HrdAt w' F g b x v ow :=
  ⟨(hb g h.foot).trans h.row, h.wait.same fun k hk => hb k (h.own k hk).1, h.foot, h.own, fun k hk => Nat.lt_of_lt_of_le (h.old k hk) hs⟩
theorem HrdAt.below (h : HrdAt w F g b x v ow) (hb : Below w.heap.size w w') : HrdAt w' F g b x v ow := h.same hb.size fun k hk => hb.block k (h.old k hk)
theorem HrdAt.drew (h : HrdAt w F g b x v ow) : HrdAt w.drew F g b x v ow := h.same (Nat.le_refl _) fun _ _ => rfl
theorem HrdAt.cells (h : HrdAt w F g b x v ow) : (w.cell? ⟨g, 0, none⟩ = some (.bool x.msk) ∧ w.cell? ⟨g, 1, none⟩ = some v ∧ w.cell? ⟨g, 2, none⟩ = some (.int .i64 (x.nx : Int)) ∧ w.cell? ⟨g, 7, none⟩ = some (.int .i64 (x.told : Int)) ∧ w.cell? ⟨g, 8, none⟩ = some (.int .i64 (x.lacks : Int))) ∧ ∀ i, w.frozen? ⟨g, i, none⟩ = false :=
  ⟨⟨cell_of_row w _ 0 _ _ (0, 0) h.row, cell_of_row w _ 1 _ _ (0, 0) h.row, cell_of_row w _ 2 _ _ (0, 0) h.row, cell_of_row w _ 7 _ _ (0, 0) h.row, cell_of_row w _ 8 _ _ (0, 0) h.row⟩, h.row.frozen⟩
theorem moves_cell16 (w : World) (hF : F g) (i : Nat) (v : Value) : Moves F F w (w.setCell ⟨g, i, none⟩ v) :=
  ⟨rfl, rfl, rfl, by simp [World.setCell], fun _ hk => .inl hk, fun k _ hn => Below.heap_setCell _ _ _ _ (fun e => hn (by rw [e]; exact hF))⟩
/-- A number turned. -/
theorem HrdAt.put (h : HrdAt w F g b x v ow) (y : Hrd) (i : Nat) (u : Value) (hc : (hrdC x v).setIfInBounds i u = hrdC y v) : HrdAt (w.setCell ⟨g, i, none⟩ u) F g b y v ow := by
  refine ⟨by have := h.row.set i u; rw [hc] at this; exact this, h.wait.same fun k hk => Below.heap_setCell _ _ _ _ (h.own k hk).2, h.foot, h.own, fun k hk => by have := h.old k hk; simpa [World.setCell] using this⟩
/-- Other bytes wait. -/
theorem HrdAt.putW (h : HrdAt w F g b x v ow) {b' : List UInt8} {u : Value} {ow' : Option Nat} (hw : WaitO w u ow' b') (ho : ∀ k, ow' = some k → F k ∧ k ≠ g) : HrdAt (w.setCell ⟨g, 1, none⟩ u) F g b' x u ow' := by
  refine ⟨h.row.set 1 u, hw.same fun k hk => Below.heap_setCell _ _ _ _ (ho k hk).2, h.foot, ho, fun k hk => by have := h.old k hk; simpa [World.setCell] using this⟩
theorem RA16.same (h : RA16 w F g st) (hs : w.heap.size ≤ w'.heap.size) (hb : ∀ k, F k → w'.heap[k]? = w.heap[k]?) : RA16 w' F g st := by
  obtain ⟨x, v, ow, h, h2⟩ := h; exact ⟨x, v, ow, h.same hs hb, h2⟩
theorem RA16.lt (h : RA16 w F g st) : F g ∧ ∀ k, F k → k < w.heap.size := by
  obtain ⟨x, v, ow, h, -⟩ := h; exact ⟨h.foot, h.old⟩
theorem RA16.below (h : RA16 w F g st) (hb : Below w.heap.size w w') : RA16 w' F g st := h.same hb.size fun k hk => hb.block k (h.lt.2 k hk)
/-- What is read next, of an automaton. -/
theorem SaysH.bad3 (h : SaysH x st) : (x.nx == 3) = st.bad := by
  cases hb : st.bad with
  | true => rw [(h.2.1 hb).1]; rfl
  | false =>
    obtain ⟨-, h1, h2⟩ := h.2.2 hb
    cases hc : st.cur with
    | none => rw [h1 hc]; rfl
    | some y =>
      obtain ⟨k, a, l⟩ := y
      rw [(h2 k a l hc).2.2.2.1]
      split <;> rfl
theorem SaysH.idle0 (h : SaysH x st) : ((x.nx == 0) && (st.buf.length == 0)) = st.idle := by
  unfold Fst.idle
  cases hb : st.bad with
  | true => rw [(h.2.1 hb).1]; rfl
  | false =>
    obtain ⟨-, h1, h2⟩ := h.2.2 hb
    cases hc : st.cur with
    | none => rw [h1 hc]; cases st.buf <;> rfl
    | some y =>
      obtain ⟨k, a, l⟩ := y
      rw [(h2 k a l hc).2.2.2.1]
      split <;> rfl
def zr16 : Array Value := #[.bool false, .slice none 0 0, .int .i64 0, .int .u8 0, .int .u8 0, .int .u8 0, .int .u8 0, .int .i64 0, .int .i64 0]
theorem zr16_is : (Try.prog.info? 45).map (·.zero) = some (some (.agg zr16)) := by kernel_rfl
def hrd0 (m : Bool) (n : Nat) : Hrd := ⟨m, n, key0, 0, 0⟩
theorem hrd_fresh (m : Bool) (n : Nat) (w : World) : HrdAt (w.alloc (.cells (hrdC (hrd0 m n) (.slice none 0 0)) 45)) (fun k => k = w.heap.size) w.heap.size [] (hrd0 m n) (.slice none 0 0) none :=
  ⟨row_new w _ _, .nil _, rfl, fun k hk => (by cases hk), fun k hk => (by rw [alloc_size]; omega)⟩
theorem says_fresh (m : Bool) : SaysH (hrd0 m 0) (fresh16 m) :=
  ⟨Nat.zero_le _, fun h => (by cases h), fun _ => ⟨rfl, fun _ => rfl, fun k a l h => (by cases h)⟩⟩
theorem zero16 (w : World) : RA16 (w.alloc (.cells zr16 45)) (fun k => k = w.heap.size) w.heap.size (fresh16 false) :=
  ⟨_, _, _, hrd_fresh false 0 w, says_fresh false⟩
end
set_option maxRecDepth 100000 in
set_option maxHeartbeats 400000 in
theorem wnew16_any (m : Bool) (w : World) : Calls Try.prog 10 #[.bool m] w fun e w' => ∃ g F, e = .returned (.pointer (some ⟨g, 0, none⟩)) ∧ RA16 w' F g (fresh16 m) ∧ (∀ k, F k → w.heap.size ≤ k) ∧ Below w.heap.size w w' := by
  go_enter Try.func10, Try.ntmps10
  go_wp2
  go_ret
  exact ⟨_, _, rfl, ⟨_, _, _, hrd_fresh m 0 w, says_fresh m⟩, fun k hk => by omega, (Below.refl _ w).alloc (Nat.le_refl _) _⟩
set_option maxRecDepth 100000 in
set_option maxHeartbeats 400000 in
theorem wbehind_any (n : Nat) (w : World) : Calls Try.prog 38 #[.int .i64 (n : Int)] w fun e w' => e = .returned (.int .i64 ((if n = 0 then 2 else 1 : Nat) : Int)) ∧ w' = w := by
  obtain ⟨R, hR⟩ : ∃ R : Nat, R = if n = 0 then 2 else 1 := ⟨_, rfl⟩
  rw [← hR]
  by_cases h : n = 0
  · have q : ((n : Int) == 0) = true := by rw [beq_iff_eq]; omega
    have HE : Hid (R = 2) := Lib.hid (by rw [hR, if_pos h])
    clear h hR
    go_enter Try.func38, Try.ntmps38
    go_wp2
    go_ret
    rw [HE.out]
    exact ⟨rfl, rfl⟩
  · have q : ((n : Int) == 0) = false := by rw [beq_eq_false_iff_ne]; omega
    have HE : Hid (R = 1) := Lib.hid (by rw [hR, if_neg h])
    clear h hR
    go_enter Try.func38, Try.ntmps38
    go_wp2
    go_ret
    rw [HE.out]
    exact ⟨rfl, rfl⟩
section
variable {w : World} {F : Nat → Prop} {g : Nat} {st : Fst}
set_option maxRecDepth 100000 in
set_option maxHeartbeats 400000 in
theorem wbad16_any (h : RA16 w F g st) : Calls Try.prog 14 #[.pointer (some ⟨g, 0, none⟩)] w fun e w' => e = .returned (.bool st.bad) ∧ Below w.heap.size w w' := by
  obtain ⟨x, v, ow, h, hs⟩ := h
  obtain ⟨⟨c0, c1, c2, c7, c8⟩, fz⟩ := h.cells
  have hb := hs.bad3
  have q : ((x.nx : Int) == 3) = st.bad := by rw [← hb]; exact Bool.eq_iff_iff.2 (by rw [beq_iff_eq, beq_iff_eq]; omega)
  clear h hs hb c0 c1 c7 c8 fz
  go_enter Try.func14, Try.ntmps14
  go_wp2
  go_ret
  exact ⟨rfl, Below.refl _ w⟩
set_option maxRecDepth 100000 in
set_option maxHeartbeats 400000 in
theorem widle16_any (h : RA16 w F g st) : Calls Try.prog 15 #[.pointer (some ⟨g, 0, none⟩)] w fun e w' => e = .returned (.bool st.idle) ∧ Below w.heap.size w w' := by
  obtain ⟨x, v, ow, h, hs⟩ := h
  obtain ⟨⟨c0, c1, c2, c7, c8⟩, fz⟩ := h.cells
  have hlen := h.wait.toV.len 3
  have hi := hs.idle0
  have q1 : ((st.buf.length : Int) == 0) = (st.buf.length == 0) := Bool.eq_iff_iff.2 (by rw [beq_iff_eq, beq_iff_eq]; omega)
  obtain ⟨L, hL⟩ : ∃ L, L = st.buf.length := ⟨_, rfl⟩
  rw [← hL] at hlen q1 hi
  cases h0 : (x.nx == 0) with
  | true =>
    have q : ((x.nx : Int) == 0) = true := by rw [beq_iff_eq] at h0 ⊢; omega
    rw [h0, Bool.true_and] at hi
    rw [hi] at q1
    clear h hs c0 c7 c8 fz hL hi h0
    go_enter Try.func15, Try.ntmps15
    go_wp2
    go_ret
    exact ⟨rfl, Below.refl _ w⟩
  | false =>
    have q : ((x.nx : Int) == 0) = false := by rw [beq_eq_false_iff_ne] at h0 ⊢; omega
    rw [h0, Bool.false_and] at hi
    have HI := Lib.hid hi
    clear h hs c0 c7 c8 fz hL hi h0 q1 hlen c1
    go_enter Try.func15, Try.ntmps15
    go_wp2
    go_ret
    rw [← HI.out]
    exact ⟨rfl, Below.refl _ w⟩
end
set_option maxRecDepth 100000 in
set_option maxHeartbeats 400000 in
theorem wbad16_0 (w : World) : Calls Try.prog 14 #[.pointer none] w fun e w' => e = .returned (.bool true) ∧ Below w.heap.size w w' := by
  go_enter Try.func14, Try.ntmps14
  go_wp2
  go_ret
  exact ⟨rfl, Below.refl _ w⟩
set_option maxRecDepth 100000 in
set_option maxHeartbeats 400000 in
theorem widle16_0 (w : World) : Calls Try.prog 15 #[.pointer none] w fun e w' => e = .returned (.bool false) ∧ Below w.heap.size w w' := by
  go_enter Try.func15, Try.ntmps15
  go_wp2
  go_ret
  exact ⟨rfl, Below.refl _ w⟩
set_option maxRecDepth 100000 in
set_option maxHeartbeats 400000 in
theorem wfeed16_0 (s : List UInt8) (w : World) : Calls Try.prog 11 #[.pointer none, S s] w fun e w' => e = .returned (.tuple #[]) ∧ Below w.heap.size w w' := by
  go_enter Try.func11, Try.ntmps11
  go_wp2
  first | refine bodyPost_ret (results_none rfl _ _ _) rfl ?_ | refine bodyPost_end (results_none rfl _ _ _) rfl ?_
  exact ⟨rfl, Below.refl _ w⟩

theorem exec_append16 {a : Act} {o : Oper} (t1 t2 : TypeId) (x y : Operand) (X Y : Value) {w : World} {P : Program} (ho : o.op = .call { callee := .builtin .append, args := #[x, y], argTypes := #[t1, t2] }) (hx : a.eval x = X) (hy : a.eval y = Y) {v' : Value} {w' : World}
    (hr : (Builtin.append_ #[t1, t2] o.type #[X, Y]).run P w = .ok v' w') : (execOp a.eval o).run P w = .ok (.value v') w' := by
  simp only [execOp, ho, resolve, invoke, builtin, Sem.run_bind, Sem.run_pure, Result.andThen_ok, List.map_toArray, List.map_cons, List.map_nil, hx, hy, hr]
theorem wpList_append16 {P : Program} {ops : Array Oper} {rest : List Oper} {o : Oper} {a : Act} {w : World} {Q : Exit → Act → World → Prop} (hgd : o.guard = none) (t1 t2 : TypeId) (x y : Operand) (X Y : Value) (ho : o.op = .call { callee := .builtin .append, args := #[x, y], argTypes := #[t1, t2] }) (hx : a.eval x = X) (hy : a.eval y = Y) {v' : Value} {w' : World}
    (hr : (Builtin.append_ #[t1, t2] o.type #[X, Y]).run P w = .ok v' w') (h : wpList P ops Q rest (a.put o.dst v') w') : wpList P ops Q (o :: rest) a w :=
  wpList_plain hgd fun K hK => by
    unfold Oper.wp
    rw [exec_append16 t1 t2 x y X Y ho hx hy hr]
    exact hK _ _ h
section
variable {w : World} {F : Nat → Prop} {g : Nat} {st : Fst} {b : List UInt8} {x : Hrd} {v : Value} {ow : Option Nat}
theorem SaysH.more (h : SaysH x st) (hb : st.bad = false) (s : List UInt8) (hl : st.buf.length + s.length ≤ 100000) : SaysH x { st with buf := st.buf ++ s } :=
  ⟨by show (st.buf ++ s).length ≤ 100000; rw [List.length_append]; exact hl, fun e => absurd (show st.bad = true from e) (by rw [hb]; exact Bool.false_ne_true), h.2.2⟩
set_option maxRecDepth 100000 in
set_option maxHeartbeats 400000 in
theorem wfeed16_any (s : List UInt8) (h : RA16 w F g st) (hs : st.buf.length + s.length ≤ 100000) : Calls Try.prog 11 #[.pointer (some ⟨g, 0, none⟩), S s] w fun e w' => e = .returned (.tuple #[]) ∧ ∃ F', RA16 w' F' g (st.feed s) ∧ Moves F F' w w' := by
  have h0 := h
  obtain ⟨x, v, ow, h, hsy⟩ := h
  obtain ⟨⟨c0, c1, c2, c7, c8⟩, fz⟩ := h.cells
  have hb3 := hsy.bad3
  have q : ((x.nx : Int) == 3) = st.bad := by rw [← hb3]; exact Bool.eq_iff_iff.2 (by rw [beq_iff_eq, beq_iff_eq]; omega)
  cases hb : st.bad with
  | false =>
    rw [hb] at q
    obtain ⟨a, c, ow', w1, hrun, hw, hgr, hor⟩ := h.wait.add s (by omega) 38
    have hne : some g ≠ ow := fun e => (h.own g e.symm).2 rfl
    have hr1 := row_grown h.row hgr hne
    have d0 : w1.cell? ⟨g, 1, none⟩ = some v := cell_of_row w1 g 1 _ _ (0, 0) hr1
    have f0 : w1.frozen? ⟨g, 1, none⟩ = false := Row.frozen hr1 1
    have HN : Hid (∃ F', RA16 (w1.setCell ⟨g, 1, none⟩ (.slice a (st.buf.length + s.length) c)) F' g (st.feed s) ∧ Moves F F' w (w1.setCell ⟨g, 1, none⟩ (.slice a (st.buf.length + s.length) c))) := Lib.hid (by
      have how : ∀ k, ow' = some k → (ow = some k ∨ k = w.heap.size) := fun k hk => by
        rcases hor with e | ⟨e, _⟩
        · exact .inl (e ▸ hk)
        · rw [e] at hk; cases hk; exact .inr rfl
      have hgl := h.old g h.foot
      have hog : ∀ k, ow' = some k → k ≠ g := fun k hk => by
        rcases how k hk with e | e
        · exact (h.own k e).2
        · omega
      have hst : st.feed s = { st with buf := st.buf ++ s } := by unfold Fst.feed; rw [hb]; rfl
      rw [hst]
      have hws : w1.heap.size = (w1.setCell ⟨g, 1, none⟩ (.slice a (st.buf.length + s.length) c)).heap.size := by simp [World.setCell]
      refine ⟨fun k => F k ∨ ow' = some k, ⟨x, .slice a (st.buf.length + s.length) c, ow', ⟨hr1.set 1 _, hw.same fun k hk => Below.heap_setCell _ _ _ _ (hog k hk), .inl h.foot, fun k hk => ⟨.inr hk, hog k hk⟩, fun k hk => ?_⟩, hsy.more hb s hs⟩, ?_⟩
      · rw [← hws]
        rcases hk with hk | hk
        · exact Nat.lt_of_lt_of_le (h.old k hk) hgr.size
        · exact hw.lt k hk
      · refine ⟨hgr.os, hgr.tape, hgr.output, by rw [← hws]; exact hgr.size, fun k hk => ?_, fun j hj hn => ?_⟩
        · rcases hk with hk | hk
          · exact .inl hk
          · rcases how k hk with e | e
            · exact .inl (h.own k e).1
            · exact .inr (by omega)
        · rw [Below.heap_setCell _ _ _ _ (fun e => hn (by rw [show j = g from e]; exact h.foot))]
          exact hgr.block j hj (fun e => hn (h.own j e.symm).1))
    clear h h0 hsy hb hb3 hw hgr hor hr1 hne hs c0 c7 c8 fz
    go_enter Try.func11, Try.ntmps11
    go_wp2_with (at_builtin; refine wpList_append16 rfl 38 9 (.tmp 17) (.tmp 18) v (S s) rfl rfl rfl hrun ?_)
    refine bodyPost_end (results_none rfl _ _ _) rfl ?_
    exact ⟨rfl, HN.out⟩
  | true =>
    rw [hb] at q
    have HS : Hid (st.feed s = st ∧ RA16 w F g st) := Lib.hid ⟨by unfold Fst.feed; rw [hb]; rfl, h0⟩
    clear h h0 hsy hb hb3 hs c0 c1 c7 c8 fz
    go_enter Try.func11, Try.ntmps11
    go_wp2
    first | refine bodyPost_ret (results_none rfl _ _ _) rfl ?_ | refine bodyPost_end (results_none rfl _ _ _) rfl ?_
    rw [HS.out.1]
    exact ⟨rfl, F, HS.out.2, Moves.refl F w⟩
set_option maxRecDepth 100000 in
set_option maxHeartbeats 400000 in
theorem wtake16_any (h : HrdAt w F g b x v ow) (n : Nat) (hn : n ≤ b.length) : Calls Try.prog 37 #[.pointer (some ⟨g, 0, none⟩), .int .i64 (n : Int)] w fun e w' => e = .returned (S (b.take n)) ∧ (∃ v' ow', HrdAt w' F g (b.drop n) x v' ow') ∧ Moves F F w w' := by
  obtain ⟨⟨c0, c1, c2, c7, c8⟩, fz⟩ := h.cells
  obtain ⟨V', hsl, hV'⟩ := h.wait.toV.upto n hn
  have ht := hV'.text
  obtain ⟨a, c, hcut, hcw⟩ := h.wait.cut n hn
  obtain ⟨M, hM⟩ : ∃ M, M = b.length - n := ⟨_, rfl⟩
  rw [← hM] at hcut hcw
  have f1 := fz 1
  obtain ⟨T, hT⟩ : ∃ T, T = b.take n := ⟨_, rfl⟩
  rw [← hT] at ht ⊢
  have hk : w.cell? ⟨g, 1, none⟩ = some v := c1
  have hr1 := h.row.set 1 (.slice a M c)
  have d1 : (w.setCell ⟨g, 1, none⟩ (.slice a M c)).cell? ⟨g, 1, none⟩ = some (.slice a M c) := cell_of_row _ g 1 _ _ (0, 0) hr1
  have e1 : (w.setCell ⟨g, 1, none⟩ (.slice a M c)).frozen? ⟨g, 1, none⟩ = false := Row.frozen hr1 1
  by_cases hlt : n < b.length
  · have q : ((M : Int) == 0) = false := by rw [beq_eq_false_iff_ne]; omega
    have HN : Hid ((∃ v' ow', HrdAt (w.setCell ⟨g, 1, none⟩ (.slice a M c)) F g (b.drop n) x v' ow') ∧ Moves F F w (w.setCell ⟨g, 1, none⟩ (.slice a M c))) := Lib.hid ⟨⟨_, _, h.putW (hcw hlt) h.own⟩, moves_cell16 w h.foot 1 _⟩
    clear h hn hlt hV' hcw hM hT hk hr1 c0 c2 c7 c8 fz
    go_enter Try.func37, Try.ntmps37
    go_wp2
    go_ret
    exact ⟨rfl, HN.out⟩
  · obtain rfl : M = 0 := by omega
    have HN : Hid ((∃ v' ow', HrdAt ((w.setCell ⟨g, 1, none⟩ (.slice a 0 c)).setCell ⟨g, 1, none⟩ (.slice none 0 0)) F g (b.drop n) x v' ow') ∧ Moves F F w ((w.setCell ⟨g, 1, none⟩ (.slice a 0 c)).setCell ⟨g, 1, none⟩ (.slice none 0 0))) := Lib.hid (by
      have hd : b.drop n = [] := List.drop_eq_nil_of_le (by omega)
      have hm1 := moves_cell16 w h.foot 1 (.slice a 0 c)
      refine ⟨?_, hm1.trans (moves_cell16 _ h.foot 1 _)⟩
      rw [hd]
      refine ⟨.slice none 0 0, none, ?_, .nil _, h.foot, fun k hk => (by cases hk), fun k hk => ?_⟩
      · have := hr1.set 1 (.slice none 0 0)
        exact this
      · have := h.old k hk; simpa [World.setCell] using this)
    clear h hn hlt hV' hcw hM hT hk hr1 c0 c2 c7 c8 fz
    go_enter Try.func37, Try.ntmps37
    go_wp2
    go_ret
    exact ⟨rfl, HN.out⟩
end
/-! What a head may say, masked or not. -/
def rightB (h : Hd) : Bool := mayF h h.masked
theorem right_no1 {h : Hd} (hr : h.rsv ≠ 0) : rightB h = false := by unfold rightB mayF; rw [decide_eq_false hr]; rfl
theorem right_no2 {h : Hd} (hr : h.least = false) : rightB h = false := by unfold rightB mayF; rw [hr]; simp
theorem right_no3 {h : Hd} (hr : 9223372036854775807 < h.len) : rightB h = false := by unfold rightB mayF; rw [decide_eq_false (show ¬ h.len < 9223372036854775808 by omega)]; simp
theorem right_no4 {h : Hd} (hr : ¬ (h.op ≤ 2 ∨ (8 ≤ h.op ∧ h.op ≤ 10))) : rightB h = false := by unfold rightB mayF; rw [decide_eq_false hr]; simp
theorem right_low {h : Hd} (h0 : h.rsv = 0) (h1 : h.least = true) (h2 : h.len ≤ 9223372036854775807) (h3 : h.op ≤ 2) : rightB h = true := by
  unfold rightB mayF
  rw [decide_eq_true h0, decide_eq_true (show h.op ≤ 2 ∨ (8 ≤ h.op ∧ h.op ≤ 10) from .inl h3), decide_eq_true (show h.op < 8 ∨ (h.len ≤ 125 ∧ h.fin = true) from .inl (by omega)), h1, decide_eq_true (show h.len < 9223372036854775808 by omega)]
  simp
theorem right_high {h : Hd} (h0 : h.rsv = 0) (h1 : h.least = true) (h2 : h.len ≤ 9223372036854775807) (h3 : 8 ≤ h.op ∧ h.op ≤ 10) : rightB h = (h.fin && decide (h.len ≤ 125)) := by
  unfold rightB mayF
  rw [decide_eq_true h0, decide_eq_true (show h.op ≤ 2 ∨ (8 ≤ h.op ∧ h.op ≤ 10) from .inr h3), h1, decide_eq_true (show h.len < 9223372036854775808 by omega)]
  have h8 : ¬ h.op < 8 := by omega
  cases hf : h.fin with
  | true => simp [h8]
  | false => simp [h8]
set_option maxRecDepth 100000 in
set_option maxHeartbeats 1000000 in
theorem wright16_any (h : Hd) (hl : h.len < 18446744073709551616) (w : World) : Calls Try.prog 36 #[.agg (hdC h)] w fun e w' => e = .returned (.bool (rightB h)) ∧ Below w.heap.size w w' := by
  have n1 := @right_no1 h
  have n2 := @right_no2 h
  have n3 := @right_no3 h
  have n4 := @right_no4 h
  have n5 := @right_low h
  have n6 := @right_high h
  obtain ⟨R, hR⟩ : ∃ R, R = rightB h := ⟨_, rfl⟩
  rw [← hR] at n1 n2 n3 n4 n5 n6 ⊢
  clear hR
  obtain ⟨fin, rsv, op, m, ⟨k0, k1, k2, k3⟩, len, least⟩ := h
  unfold hdC
  dsimp only at *
  have HB : ∀ W, W = w.alloc (.cells #[.bool fin, .int .i64 (rsv : Int), .int .i64 (op : Int), .bool m, B k0, B k1, B k2, B k3, .int .u64 (len : Int), .bool least] 74) → Below w.heap.size w W := fun W hW => by rw [hW]; exact (Below.refl _ w).alloc (Nat.le_refl _) _
  have HB := Lib.hid HB
  by_cases h0 : rsv = 0
  case neg =>
    have q0 : ((rsv : Int) == 0) = false := by rw [beq_eq_false_iff_ne]; omega
    have q1 : ((rsv : Int) != 0) = true := by rw [bne_iff_ne]; omega
    obtain rfl := n1 h0
    clear n2 n3 n4 n5 n6 n1 h0 hl
    go_enter Try.func36, Try.ntmps36
    go_wp2
    go_ret
    exact ⟨rfl, HB.out _ rfl⟩
  have q0 : ((rsv : Int) == 0) = true := by rw [beq_iff_eq]; omega
  have q1 : ((rsv : Int) != 0) = false := by rw [bne_eq_false_iff_eq]; omega
  cases least with
  | false =>
    obtain rfl := n2 rfl
    clear n1 n3 n4 n5 n6 n2 h0 hl
    go_enter Try.func36, Try.ntmps36
    go_wp2
    go_ret
    exact ⟨rfl, HB.out _ rfl⟩
  | true =>
  by_cases h9 : 9223372036854775807 < len
  · have q3 : decide ((9223372036854775807 : Int) < (len : Int)) = true := decide_eq_true (by omega)
    obtain rfl := n3 h9
    clear n1 n2 n4 n5 n6 n3 h0 hl h9
    go_enter Try.func36, Try.ntmps36
    go_wp2
    go_ret
    exact ⟨rfl, HB.out _ rfl⟩
  have q3 : decide ((9223372036854775807 : Int) < (len : Int)) = false := decide_eq_false (by omega)
  have n5 := fun h3 => n5 h0 rfl (by omega) h3
  have n6 := fun h3 => n6 h0 rfl (by omega) h3
  by_cases ho : op = 0 ∨ op = 1 ∨ op = 2
  · obtain rfl := n5 (by omega)
    clear n1 n2 n3 n4 n5 n6 h0 hl h9
    rcases ho with rfl | rfl | rfl
    all_goals
      go_enter Try.func36, Try.ntmps36
      go_wp2
      go_ret
      exact ⟨rfl, HB.out _ rfl⟩
  by_cases ho2 : op = 8 ∨ op = 9 ∨ op = 10
  · obtain ⟨D, hD⟩ : ∃ D, D = decide (len ≤ 125) := ⟨_, rfl⟩
    have q4 : decide ((len : Int) ≤ 125) = D := by rw [hD]; exact decide_eq_decide.2 (by omega)
    have n6 := n6 (by omega)
    rw [← hD] at n6
    subst n6
    clear n1 n2 n3 n4 n5 h0 hl h9 hD ho
    rcases ho2 with rfl | rfl | rfl
    all_goals
      cases fin
      all_goals
        go_enter Try.func36, Try.ntmps36
        go_wp2
        go_ret
        exact ⟨rfl, HB.out _ rfl⟩
  · obtain rfl := n4 (by omega)
    have r0 : ((op : Int) == 0) = false := by rw [beq_eq_false_iff_ne]; omega
    have r1 : ((op : Int) == 1) = false := by rw [beq_eq_false_iff_ne]; omega
    have r2 : ((op : Int) == 2) = false := by rw [beq_eq_false_iff_ne]; omega
    have r8 : ((op : Int) == 8) = false := by rw [beq_eq_false_iff_ne]; omega
    have r9 : ((op : Int) == 9) = false := by rw [beq_eq_false_iff_ne]; omega
    have ra : ((op : Int) == 10) = false := by rw [beq_eq_false_iff_ne]; omega
    clear n1 n2 n3 n4 n5 n6 h0 hl h9 ho ho2
    go_enter Try.func36, Try.ntmps36
    go_wp2
    go_ret
    exact ⟨rfl, HB.out _ rfl⟩

theorem infoEv16 : (Try.prog.info? 29).map (·.size) = some 5 := by kernel_rfl
theorem infoK16 : (Try.prog.info? 43).map (·.size) = some 4 := by kernel_rfl
/-- The five cells of a result turned. -/
def put5H (W : World) (b : Nat) (v0 v1 v2 v3 v4 : Value) : World := ((((W.setCell ⟨b, 0, none⟩ v0).setCell ⟨b, 1, none⟩ v1).setCell ⟨b, 2, none⟩ v2).setCell ⟨b, 3, none⟩ v3).setCell ⟨b, 4, none⟩ v4
theorem put5H_row {W : World} {b : Nat} {t : TypeId} {a0 a1 a2 a3 a4 : Value} (h : Row W b #[a0, a1, a2, a3, a4] t) (v0 v1 v2 v3 v4 : Value) : Row (put5H W b v0 v1 v2 v3 v4) b #[v0, v1, v2, v3, v4] t := by
  unfold put5H
  have h0 : Row (W.setCell ⟨b, 0, none⟩ v0) b #[v0, a1, a2, a3, a4] t := h.set 0 v0
  have h1 : Row ((W.setCell ⟨b, 0, none⟩ v0).setCell ⟨b, 1, none⟩ v1) b #[v0, v1, a2, a3, a4] t := h0.set 1 v1
  have h2 : Row (((W.setCell ⟨b, 0, none⟩ v0).setCell ⟨b, 1, none⟩ v1).setCell ⟨b, 2, none⟩ v2) b #[v0, v1, v2, a3, a4] t := h1.set 2 v2
  have h3 : Row ((((W.setCell ⟨b, 0, none⟩ v0).setCell ⟨b, 1, none⟩ v1).setCell ⟨b, 2, none⟩ v2).setCell ⟨b, 3, none⟩ v3) b #[v0, v1, v2, v3, a4] t := h2.set 3 v3
  exact h3.set 4 v4
theorem put5H_below {n : Nat} {w W : World} {b : Nat} (h : Below n w W) (hb : n ≤ b) (v0 v1 v2 v3 v4 : Value) : Below n w (put5H W b v0 v1 v2 v3 v4) :=
  ((((h.setCell (p := ⟨b, 0, none⟩) hb v0).setCell (p := ⟨b, 1, none⟩) hb v1).setCell (p := ⟨b, 2, none⟩) hb v2).setCell (p := ⟨b, 3, none⟩) hb v3).setCell (p := ⟨b, 4, none⟩) hb v4
theorem put5H_keeps (W : World) (b : Nat) (v0 v1 v2 v3 v4 : Value) : Keeps b W (put5H W b v0 v1 v2 v3 v4) :=
  ((((Keeps.setCell W 0 v0).trans (.setCell _ 1 v1)).trans (.setCell _ 2 v2)).trans (.setCell _ 3 v3)).trans (.setCell _ 4 v4)
theorem keeps_moves {w W W' : World} {b : Nat} {F : Nat → Prop} (hk : Keeps b W W') (hb : ∀ k, F k → k ≠ b) (hle : w.heap.size ≤ b) (h : Moves F F w W) (ho : ∀ k, F k → k < W.heap.size) : Moves F F w W' ∧ W.heap.size ≤ W'.heap.size ∧ ∀ k, F k → W'.heap[k]? = W.heap[k]? :=
  ⟨⟨hk.os.trans h.os, hk.tape.trans h.tape, hk.output.trans h.output, Nat.le_trans h.size hk.size, h.foot, fun k h1 h2 => (hk.block k (Nat.lt_of_lt_of_le h1 h.size) (by omega)).trans (h.rest k h1 h2)⟩, hk.size, fun k h1 => hk.block k (ho k h1) (hb k h1)⟩
theorem ev_end {fn : Func} {p u : Tmp} (h : fn.results = #[.cell p 29, .tmp u]) (tmps : Array Value) (w : World) (g : Nat) (cs : Array Value) (hp : tmps.getD p undef = .pointer (some ⟨g, 0, none⟩)) (hg : Row w g cs 29) (h5 : cs.size = 5) :
    (results fn tmps).run Try.prog w = .ok (.tuple #[.agg cs, tmps.getD u undef]) w :=
  results_row_tmp h tmps w g 29 cs (0, 0) _ hp hg Try.underlying29 rfl (by rw [infoEv16, h5])
/-- What reading the next event answers. -/
def NextR (F : Nat → Prop) (g : Nat) (st : Fst) (w : World) (e : Ending) (w' : World) : Prop := e = .returned (nextV st) ∧ ∃ F', RA16 w' F' g (nextS st) ∧ Moves F F' w w'
theorem next_no {st : Fst} (h : nextF st = none) : nextV st = .tuple #[.agg #[.int .i64 0, .int .i64 0, .bool false, .int .i64 0, .string ⟨#[]⟩], .bool false] ∧ nextS st = st := by
  unfold nextV nextS; rw [h]; exact ⟨rfl, rfl⟩
theorem next_yes {st st' : Fst} {e : Ev} (h : nextF st = some (e, st')) : nextV st = .tuple #[evV e, .bool true] ∧ nextS st = st' := by
  unfold nextV nextS; rw [h]; exact ⟨rfl, rfl⟩
theorem next_data {st : Fst} {k : Key4} {a l : Nat} (hb : st.bad = false) (hc : st.cur = some (k, a, l)) (hl : l ≠ 0) :
    (min st.buf.length l = 0 → nextF st = none) ∧ (min st.buf.length l ≠ 0 → nextF st = some (pieceE (maskN k a (st.buf.take (min st.buf.length l))), { st with cur := some (k, a + min st.buf.length l, l - min st.buf.length l), buf := st.buf.drop (min st.buf.length l) })) := by
  have h1 : st.buf.take l = st.buf.take (min st.buf.length l) := by
    rcases Nat.le_total st.buf.length l with h | h
    · rw [Nat.min_eq_left h, List.take_of_length_le h, List.take_length]
    · rw [Nat.min_eq_right h]
  have h2 : st.buf.drop l = st.buf.drop (min st.buf.length l) := by
    rcases Nat.le_total st.buf.length l with h | h
    · rw [Nat.min_eq_left h, List.drop_eq_nil_of_le h, List.drop_length]
    · rw [Nat.min_eq_right h]
  have h3 : (st.buf.take (min st.buf.length l)).length = min st.buf.length l := by rw [List.length_take]; omega
  constructor
  · intro h0
    have hz : st.buf = [] := List.length_eq_zero_iff.1 (by omega)
    unfold nextF
    rw [hb, hc]
    dsimp only
    rw [if_neg Bool.false_ne_true, if_neg hl, if_pos hz]
  · intro h0
    have hz : st.buf ≠ [] := fun e => h0 (by rw [e]; simp)
    unfold nextF
    rw [hb, hc]
    dsimp only
    rw [if_neg Bool.false_ne_true, if_neg hl, if_neg hz, h1, h2, h3]
theorem maskF_nat (K : Key4) (a : Nat) (s : List UInt8) : maskF K (a : Int) s = maskN K a s := by
  unfold maskF; rw [if_neg (by omega)]; rfl
theorem hrd_key {w : World} {g : Nat} {x : Hrd} {v : Value} (h : Row w g (hrdC x v) 45) : w.rangeAt g 3 (kC x.key).toList := by
  intro j u hj
  have h1 := cell_of_row w g (3 + j) _ _ (0, 0) h
  rw [h1]
  have : j < 4 := by have := (List.getElem?_eq_some_iff.1 hj).1; simpa [kC] using this
  rcases (by omega : j = 0 ∨ j = 1 ∨ j = 2 ∨ j = 3) with rfl | rfl | rfl | rfl <;> exact hj
section
variable {w : World} {F : Nat → Prop} {g : Nat} {st : Fst} {x : Hrd} {v : Value} {ow : Option Nat}
set_option maxRecDepth 100000 in
set_option maxHeartbeats 2000000 in
theorem wdata16_any (h : HrdAt w F g st.buf x v ow) (hsy : SaysH x st) (hb : st.bad = false) {k : Key4} {a l : Nat} (hc : st.cur = some (k, a, l)) (hl : l ≠ 0) :
    Calls Try.prog 34 #[.pointer (some ⟨g, 0, none⟩)] w (NextR F g st w) := by
  obtain ⟨-, -, hx⟩ := hsy.2.2 hb
  obtain ⟨ek, ea, el, en, hal⟩ := hx k a l hc
  obtain ⟨nd1, nd2⟩ := next_data hb hc hl
  obtain ⟨N, hN⟩ : ∃ N, N = min st.buf.length l := ⟨_, rfl⟩
  rw [← hN] at nd1 nd2
  have hbl := hsy.1
  have HX := Lib.hid (And.intro h (And.intro hsy hb))
  have HND := Lib.hid (And.intro nd1 nd2)
  have HNL : Hid (N ≤ st.buf.length ∧ N ≤ l ∧ a + l < 9223372036854775808 ∧ st.buf.length ≤ 100000) := Lib.hid ⟨by omega, by omega, hal, hbl⟩
  have HK := Lib.hid (And.intro ek (And.intro ea (And.intro el hc)))
  have hlen := h.wait.toV.len 3
  obtain ⟨L, hL⟩ : ∃ L, L = st.buf.length := ⟨_, rfl⟩
  rw [← hL] at hlen
  obtain ⟨X8, hX8⟩ : ∃ X, X = x.lacks := ⟨_, rfl⟩
  obtain ⟨X7, hX7⟩ : ∃ X, X = x.told := ⟨_, rfl⟩
  have hmn : ∀ w, (Builtin.min_ #[3, 3] 3 #[.int .i64 (L : Int), .int .i64 (X8 : Int)]).run Try.prog w = .ok (.int .i64 (N : Int)) w := fun w => by
    rw [run_min_int2]
    congr 2
    split <;> omega
  obtain ⟨W1, hW1⟩ : ∃ W, W = w.alloc (.cells #[.int .i64 0, .int .i64 0, .bool false, .int .i64 0, .string ⟨#[]⟩] 29) := ⟨_, rfl⟩
  obtain ⟨b2, hb2⟩ : ∃ b, b = w.heap.size := ⟨_, rfl⟩
  obtain ⟨Wq, hWq⟩ : ∃ Wq, Wq = W1.drew := ⟨_, rfl⟩
  have hB1 : Below w.heap.size w W1 := by rw [hW1]; exact (Below.refl _ w).alloc (Nat.le_refl _) _
  have hBq : Below w.heap.size w Wq := by rw [hWq]; exact hB1.trans ⟨rfl, rfl, rfl, Nat.le_refl _, fun _ _ => rfl⟩
  have hr1 : Row W1 b2 #[.int .i64 0, .int .i64 0, .bool false, .int .i64 0, .string ⟨#[]⟩] 29 := by rw [hW1, hb2]; exact row_new w _ _
  have hrq : Row Wq b2 #[.int .i64 0, .int .i64 0, .bool false, .int .i64 0, .string ⟨#[]⟩] 29 := by rw [hWq]; exact hr1.drew
  have hAq := h.below hBq
  have hSQ : Wq.cell? ⟨g, 1, none⟩ = some v ∧ Wq.cell? ⟨g, 8, none⟩ = some (.int .i64 (X8 : Int)) := ⟨hAq.cells.1.2.1, by rw [hX8]; exact hAq.cells.1.2.2.2.2⟩
  have HQ := Lib.hid (And.intro hBq (And.intro hrq hAq))
  have HB := Lib.hid (And.intro hb2 (fun k hk => Nat.ne_of_lt (by rw [hb2]; exact h.old k hk) : ∀ k, F k → k ≠ b2))
  have HXX := Lib.hid (And.intro hX7 hX8)
  clear h hsy hb hx ek ea el en hal nd1 nd2 hbl hB1 hBq hr1 hrq hAq hN hL hc hl hX7 hX8
  go_enter Try.func34, Try.ntmps34
  go_wp2
  rw [← hW1, ← hb2]
  clear hW1 hb2
  refine wp_region_noPanic ?_
  refine wp_region_held_drew (S := fun wx => wx.cell? ⟨g, 1, none⟩ = some v ∧ wx.cell? ⟨g, 8, none⟩ = some (.int .i64 (X8 : Int))) (by kernel_rfl) (by rw [← hWq]; exact hSQ) (fun _ => ?_)
  rw [← hWq]
  clear hWq
  refine take_at (i := 0) (d := some 6) (v := .pointer (some ⟨g, 0, none⟩)) rfl (by kernel_rfl) (by kernel_rfl) (by kernel_rfl) (fun _ _ _ h => h) (fun oi ho => ?_) hSQ ?_
  · obtain rfl := Option.some.inj ho
    exact Or.inl ⟨by rfl, fun wx ⟨hSa, hSb⟩ => by go_simp⟩
  simp only [Act.put, List.setIfInBounds_toArray, List.set_cons_zero, List.set_cons_succ]
  refine take_at (i := 1) (d := some 7) (v := .pointer (some ⟨g, 0, none⟩)) rfl (by kernel_rfl) (by kernel_rfl) (by kernel_rfl) (fun _ _ _ h => h) (fun oi ho => ?_) hSQ ?_
  · obtain rfl := Option.some.inj ho
    exact Or.inl ⟨by rfl, fun wx ⟨hSa, hSb⟩ => by go_simp⟩
  simp only [Act.put, List.setIfInBounds_toArray, List.set_cons_zero, List.set_cons_succ]
  refine take_at (i := 2) (d := some 8) (v := .pointer (some ⟨g, 1, none⟩)) rfl (by kernel_rfl) (by kernel_rfl) (by kernel_rfl) (fun _ _ _ h => h) (fun oi ho => ?_) hSQ ?_
  · obtain rfl := Option.some.inj ho
    exact Or.inl ⟨by rfl, fun wx ⟨hSa, hSb⟩ => by go_simp⟩
  simp only [Act.put, List.setIfInBounds_toArray, List.set_cons_zero, List.set_cons_succ]
  refine take_at (i := 3) (d := some 9) (v := v) rfl (by kernel_rfl) (by kernel_rfl) (by kernel_rfl) (fun _ _ _ h => h) (fun oi ho => ?_) hSQ ?_
  · obtain rfl := Option.some.inj ho
    exact Or.inl ⟨by rfl, fun wx ⟨hSa, hSb⟩ => by go_simp⟩
  simp only [Act.put, List.setIfInBounds_toArray, List.set_cons_zero, List.set_cons_succ]
  refine take_at (i := 4) (d := some 10) (v := .int .i64 (L : Int)) rfl (by kernel_rfl) (by kernel_rfl) (by kernel_rfl) (fun _ _ _ h => h) (fun oi ho => ?_) hSQ ?_
  · obtain rfl := Option.some.inj ho
    exact Or.inl ⟨by rfl, fun wx ⟨hSa, hSb⟩ => by go_simp⟩
  simp only [Act.put, List.setIfInBounds_toArray, List.set_cons_zero, List.set_cons_succ]
  refine take_at (i := 5) (d := some 11) (v := .pointer (some ⟨g, 0, none⟩)) rfl (by kernel_rfl) (by kernel_rfl) (by kernel_rfl) (fun _ _ _ h => h) (fun oi ho => ?_) hSQ ?_
  · obtain rfl := Option.some.inj ho
    exact Or.inl ⟨by rfl, fun wx ⟨hSa, hSb⟩ => by go_simp⟩
  simp only [Act.put, List.setIfInBounds_toArray, List.set_cons_zero, List.set_cons_succ]
  refine take_at (i := 6) (d := some 12) (v := .pointer (some ⟨g, 0, none⟩)) rfl (by kernel_rfl) (by kernel_rfl) (by kernel_rfl) (fun _ _ _ h => h) (fun oi ho => ?_) hSQ ?_
  · obtain rfl := Option.some.inj ho
    exact Or.inl ⟨by rfl, fun wx ⟨hSa, hSb⟩ => by go_simp⟩
  simp only [Act.put, List.setIfInBounds_toArray, List.set_cons_zero, List.set_cons_succ]
  refine take_at (i := 7) (d := some 13) (v := .pointer (some ⟨g, 8, none⟩)) rfl (by kernel_rfl) (by kernel_rfl) (by kernel_rfl) (fun _ _ _ h => h) (fun oi ho => ?_) hSQ ?_
  · obtain rfl := Option.some.inj ho
    exact Or.inl ⟨by rfl, fun wx ⟨hSa, hSb⟩ => by go_simp⟩
  simp only [Act.put, List.setIfInBounds_toArray, List.set_cons_zero, List.set_cons_succ]
  refine take_at (i := 8) (d := some 14) (v := .int .i64 (X8 : Int)) rfl (by kernel_rfl) (by kernel_rfl) (by kernel_rfl) (fun _ _ _ h => h) (fun oi ho => ?_) hSQ ?_
  · obtain rfl := Option.some.inj ho
    exact Or.inl ⟨by rfl, fun wx ⟨hSa, hSb⟩ => by go_simp⟩
  simp only [Act.put, List.setIfInBounds_toArray, List.set_cons_zero, List.set_cons_succ]
  refine take_at (i := 9) (d := some 15) (v := .int .i64 (N : Int)) rfl (by kernel_rfl) (by kernel_rfl) (by kernel_rfl) (fun _ _ _ h => h) (fun oi ho => ?_) hSQ ?_
  · obtain rfl := Option.some.inj ho
    exact Or.inl ⟨by rfl, fun wx ⟨hSa, hSb⟩ => by go_simp⟩
  simp only [Act.put, List.setIfInBounds_toArray, List.set_cons_zero, List.set_cons_succ]
  refine take_at (i := 10) (d := some 4) (v := .int .i64 (N : Int)) rfl (by kernel_rfl) (by kernel_rfl) (by kernel_rfl) (fun _ _ _ h => h) (fun oi ho => ?_) hSQ ?_
  · obtain rfl := Option.some.inj ho
    exact Or.inl ⟨by rfl, fun wx ⟨hSa, hSb⟩ => by go_simp⟩
  simp only [Act.put, List.setIfInBounds_toArray, List.set_cons_zero, List.set_cons_succ]
  refine wpAnyH_done (by kernel_rfl) ?_ _
  refine NoPanic.normal ?_
  try simp only [Act.put]
  clear hlen hmn hSQ
  by_cases h0 : N = 0
  · have q : ((N : Int) == 0) = true := by rw [beq_iff_eq]; omega
    have hnn := HND.out.1 h0
    have HV := Lib.hid (And.intro (next_no hnn).1 (next_no hnn).2)
    have hrq := HQ.out.2.1
    have z0 : Wq.cell? ⟨b2, 0, none⟩ = some (.int .i64 0) := cell_of_row Wq _ 0 _ _ (0, 0) hrq
    have zf0 : Wq.frozen? ⟨b2, 0, none⟩ = false := Row.frozen hrq 0
    have z1 : Wq.cell? ⟨b2, 1, none⟩ = some (.int .i64 0) := cell_of_row Wq _ 1 _ _ (0, 0) hrq
    have zf1 : Wq.frozen? ⟨b2, 1, none⟩ = false := Row.frozen hrq 1
    have z2 : Wq.cell? ⟨b2, 2, none⟩ = some (.bool false) := cell_of_row Wq _ 2 _ _ (0, 0) hrq
    have zf2 : Wq.frozen? ⟨b2, 2, none⟩ = false := Row.frozen hrq 2
    have z3 : Wq.cell? ⟨b2, 3, none⟩ = some (.int .i64 0) := cell_of_row Wq _ 3 _ _ (0, 0) hrq
    have zf3 : Wq.frozen? ⟨b2, 3, none⟩ = false := Row.frozen hrq 3
    have z4 : Wq.cell? ⟨b2, 4, none⟩ = some (.string ⟨#[]⟩) := cell_of_row Wq _ 4 _ _ (0, 0) hrq
    have zf4 : Wq.frozen? ⟨b2, 4, none⟩ = false := Row.frozen hrq 4
    clear h0 hnn hrq
    go_wp2
    refine bodyPost_ret (ev_end rfl _ _ b2 _ rfl (put5H_row HQ.out.2.1 (.int .i64 0) (.int .i64 0) (.bool false) (.int .i64 0) (.string ⟨#[]⟩)) rfl) rfl ?_
    refine ⟨by rw [HV.out.1]; rfl, F, ?_⟩
    obtain ⟨m1, m2, m3⟩ := keeps_moves (put5H_keeps Wq b2 (.int .i64 0) (.int .i64 0) (.bool false) (.int .i64 0) (.string ⟨#[]⟩)) HB.out.2 (by rw [HB.out.1]; exact Nat.le_refl _) (Moves.of_below (F := F) HQ.out.1) HQ.out.2.2.old
    rw [HV.out.2]
    exact ⟨⟨x, v, ow, HQ.out.2.2.same m2 m3, HX.out.2.1⟩, m1⟩
  have q : ((N : Int) == 0) = false := by rw [beq_eq_false_iff_ne]; omega
  have hnn := HND.out.2 h0
  have HV := Lib.hid (And.intro (next_yes hnn).1 (next_yes hnn).2)
  clear h0 hnn HND
  go_wp2
  obtain ⟨Wr, hWr⟩ : ∃ Wr, Wr = Wq.drew := ⟨_, rfl⟩
  have HR : Hid (Below w.heap.size w Wr ∧ Row Wr b2 #[.int .i64 0, .int .i64 0, .bool false, .int .i64 0, .string ⟨#[]⟩] 29 ∧ HrdAt Wr F g st.buf x v ow) := Lib.hid (by rw [hWr]; exact ⟨HQ.out.1.trans ⟨rfl, rfl, rfl, Nat.le_refl _, fun _ _ => rfl⟩, HQ.out.2.1.drew, HQ.out.2.2.drew⟩)
  have hS2 : ∃ u, Row Wr g (hrdC x u) 45 := ⟨v, HR.out.2.2.row⟩
  have HT : Hid (∀ (W : World), HrdAt W F g st.buf x v ow → Calls Try.prog 37 #[.pointer (some ⟨g, 0, none⟩), .int .i64 (N : Int)] W fun e w' => e = .returned (S (st.buf.take N)) ∧ (∃ v' ow', HrdAt w' F g (st.buf.drop N) x v' ow') ∧ Moves F F W w') := Lib.hid fun W hW => wtake16_any hW N HNL.out.1
  obtain ⟨TK, hTK⟩ : ∃ T, T = st.buf.take N := ⟨_, rfl⟩
  rw [← hTK] at HT HV
  have HM : Hid (∀ W, Calls Try.prog 39 #[kV x.key, .int .i64 (X7 : Int), S TK] W fun e w' => e = .returned (S (maskN k a TK)) ∧ Below W.heap.size W w') := Lib.hid fun W => by
    have h1 := wmask_any x.key (X7 : Int) (by rw [IntKind.wrap_i64]; have := HXX.out.1; have := HK.out.2.1; have := HNL.out; omega) TK (by rw [hTK, List.length_take]; have := HNL.out; omega) W
    rw [maskF_nat, HK.out.1, HXX.out.1, HK.out.2.1] at h1
    rw [HK.out.1, HXX.out.1, HK.out.2.1]
    exact h1
  refine wp_region_noPanic ?_
  refine wp_region_held_drew (S := fun wx => ∃ u, Row wx g (hrdC x u) 45) (by kernel_rfl) (by rw [← hWr]; exact hS2) (fun _ => ?_)
  rw [← hWr]
  clear hWr hTK
  refine take_at (i := 0) (d := some 19) (v := .pointer (some ⟨g, 0, none⟩)) rfl (by kernel_rfl) (by kernel_rfl) (by kernel_rfl) (fun _ _ _ h => h) (fun oi ho => ?_) hS2 ?_
  · obtain rfl := Option.some.inj ho
    exact Or.inl ⟨by rfl, fun wx hSw => by go_simp⟩
  simp only [Act.put, List.setIfInBounds_toArray, List.set_cons_zero, List.set_cons_succ]
  refine take_at (i := 1) (d := some 20) (v := .pointer (some ⟨g, 0, none⟩)) rfl (by kernel_rfl) (by kernel_rfl) (by kernel_rfl) (fun _ _ _ h => h) (fun oi ho => ?_) hS2 ?_
  · obtain rfl := Option.some.inj ho
    exact Or.inl ⟨by rfl, fun wx hSw => by go_simp⟩
  simp only [Act.put, List.setIfInBounds_toArray, List.set_cons_zero, List.set_cons_succ]
  refine take_at (i := 2) (d := some 21) (v := .pointer (some ⟨g, 3, none⟩)) rfl (by kernel_rfl) (by kernel_rfl) (by kernel_rfl) (fun _ _ _ h => h) (fun oi ho => ?_) hS2 ?_
  · obtain rfl := Option.some.inj ho
    exact Or.inl ⟨by rfl, fun wx hSw => by go_simp⟩
  simp only [Act.put, List.setIfInBounds_toArray, List.set_cons_zero, List.set_cons_succ]
  refine take_at (i := 3) (d := some 22) (v := kV x.key) rfl (by kernel_rfl) (by kernel_rfl) (by kernel_rfl) (fun _ _ _ h => h) (fun oi ho => ?_) hS2 ?_
  · obtain rfl := Option.some.inj ho
    exact Or.inl ⟨by rfl, fun wx hSw => by obtain ⟨u, hu⟩ := hSw; exact exec_load_mid 43 (.tmp 21) rfl g 3 rfl (kC x.key).toList _ (hrd_key hu) Try.underlying43 rfl (by rw [infoK16]; rfl)⟩
  simp only [Act.put, List.setIfInBounds_toArray, List.set_cons_zero, List.set_cons_succ]
  refine take_at (i := 4) (d := some 23) (v := .pointer (some ⟨g, 0, none⟩)) rfl (by kernel_rfl) (by kernel_rfl) (by kernel_rfl) (fun _ _ _ h => h) (fun oi ho => ?_) hS2 ?_
  · obtain rfl := Option.some.inj ho
    exact Or.inl ⟨by rfl, fun wx hSw => by go_simp⟩
  simp only [Act.put, List.setIfInBounds_toArray, List.set_cons_zero, List.set_cons_succ]
  refine take_at (i := 5) (d := some 24) (v := .pointer (some ⟨g, 0, none⟩)) rfl (by kernel_rfl) (by kernel_rfl) (by kernel_rfl) (fun _ _ _ h => h) (fun oi ho => ?_) hS2 ?_
  · obtain rfl := Option.some.inj ho
    exact Or.inl ⟨by rfl, fun wx hSw => by go_simp⟩
  simp only [Act.put, List.setIfInBounds_toArray, List.set_cons_zero, List.set_cons_succ]
  refine take_at (i := 6) (d := some 25) (v := .pointer (some ⟨g, 7, none⟩)) rfl (by kernel_rfl) (by kernel_rfl) (by kernel_rfl) (fun _ _ _ h => h) (fun oi ho => ?_) hS2 ?_
  · obtain rfl := Option.some.inj ho
    exact Or.inl ⟨by rfl, fun wx hSw => by go_simp⟩
  simp only [Act.put, List.setIfInBounds_toArray, List.set_cons_zero, List.set_cons_succ]
  refine take_at (i := 7) (d := some 26) (v := .int .i64 (X7 : Int)) rfl (by kernel_rfl) (by kernel_rfl) (by kernel_rfl) (fun _ _ _ h => h) (fun oi ho => ?_) hS2 ?_
  · obtain rfl := Option.some.inj ho
    exact Or.inl ⟨by rfl, fun wx hSw => by obtain ⟨u, hu⟩ := hSw; have c7 : wx.cell? ⟨g, 7, none⟩ = some (.int .i64 (X7 : Int)) := (by rw [HXX.out.1]; exact cell_of_row wx g 7 _ _ (0, 0) hu); go_simp⟩
  simp only [Act.put, List.setIfInBounds_toArray, List.set_cons_zero, List.set_cons_succ]
  refine take_at (i := 8) (d := some 27) (v := .pointer (some ⟨g, 0, none⟩)) rfl (by kernel_rfl) (by kernel_rfl) (by kernel_rfl) (fun _ _ _ h => h) (fun oi ho => ?_) hS2 ?_
  · obtain rfl := Option.some.inj ho
    exact Or.inl ⟨by rfl, fun wx hSw => by go_simp⟩
  simp only [Act.put, List.setIfInBounds_toArray, List.set_cons_zero, List.set_cons_succ]
  refine take_at (i := 9) (d := some 28) (v := .int .i64 (N : Int)) rfl (by kernel_rfl) (by kernel_rfl) (by kernel_rfl) (fun _ _ _ h => h) (fun oi ho => ?_) hS2 ?_
  · obtain rfl := Option.some.inj ho
    exact Or.inl ⟨by rfl, fun wx hSw => by go_simp⟩
  simp only [Act.put, List.setIfInBounds_toArray, List.set_cons_zero, List.set_cons_succ]
  refine ready_call (i := 10) (d := some 29) (f := 37) (args := #[.pointer (some ⟨g, 0, none⟩), .int .i64 (N : Int)]) rfl (by kernel_rfl) (fun oi ho => ?_) ?_
  · obtain rfl := Option.some.inj ho
    exact ⟨by rfl, by go_simp⟩
  refine (HT.out Wr HR.out.2.2).mono ?_
  rintro e W2 ⟨rfl, ⟨v2, ow2, hA2⟩, hM2⟩
  have H2 : Hid (HrdAt W2 F g (st.buf.drop N) x v2 ow2 ∧ Moves F F w W2 ∧ Row W2 b2 #[.int .i64 0, .int .i64 0, .bool false, .int .i64 0, .string ⟨#[]⟩] 29) := Lib.hid ⟨hA2, (Moves.of_below HR.out.1).trans hM2, HR.out.2.1.moves hM2 (fun e => HB.out.2 b2 e rfl)⟩
  clear hA2 hM2
  refine ⟨_, rfl, ⟨v2, H2.out.1.row⟩, ?_⟩
  simp only [Act.put, List.setIfInBounds_toArray, List.set_cons_zero, List.set_cons_succ]
  refine ready_call (i := 11) (d := some 30) (f := 39) (args := #[kV x.key, .int .i64 (X7 : Int), S TK]) rfl (by kernel_rfl) (fun oi ho => ?_) ?_
  · obtain rfl := Option.some.inj ho
    exact ⟨by rfl, by go_simp⟩
  refine (HM.out W2).mono ?_
  rintro e W3 ⟨rfl, hB3⟩
  have H3 : Hid (HrdAt W3 F g (st.buf.drop N) x v2 ow2 ∧ Moves F F w W3 ∧ Row W3 b2 #[.int .i64 0, .int .i64 0, .bool false, .int .i64 0, .string ⟨#[]⟩] 29) := Lib.hid ⟨H2.out.1.below hB3, H2.out.2.1.trans (Moves.of_below hB3), H2.out.2.2.below hB3 H2.out.2.2.lt⟩
  clear hB3 H2
  refine ⟨_, rfl, ⟨v2, H3.out.1.row⟩, ?_⟩
  simp only [Act.put, List.setIfInBounds_toArray, List.set_cons_zero, List.set_cons_succ]
  refine take_at (i := 12) (d := some 5) (v := S (maskN k a TK)) rfl (by kernel_rfl) (by kernel_rfl) (by kernel_rfl) (fun _ _ _ h => h) (fun oi ho => ?_) ⟨v2, H3.out.1.row⟩ ?_
  · obtain rfl := Option.some.inj ho
    exact Or.inl ⟨by rfl, fun wx hSw => by go_simp⟩
  simp only [Act.put, List.setIfInBounds_toArray, List.set_cons_zero, List.set_cons_succ]
  refine wpAnyH_done (by kernel_rfl) ?_ _
  refine NoPanic.normal ?_
  try simp only [Act.put]
  obtain ⟨MT, hMT⟩ : ∃ M, M = maskN k a TK := ⟨_, rfl⟩
  rw [← hMT] at HV ⊢
  clear hMT HM HT hS2 HR HQ
  -- the two counts, and what is read next
  have hw1 : IntKind.i64.wrap ((X7 : Int) + (N : Int)) = ((X7 + N : Nat) : Int) := by rw [IntKind.wrap_i64]; have := HXX.out.1; have := HK.out; have := HNL.out; omega
  have hw2 : IntKind.i64.wrap ((X8 : Int) - (N : Int)) = ((X8 - N : Nat) : Int) := by rw [IntKind.wrap_i64]; have := HXX.out.2; have := HK.out; have := HNL.out; omega
  have hA4 := H3.out.1.put ⟨x.msk, x.nx, x.key, X7 + N, x.lacks⟩ 7 (.int .i64 ((X7 + N : Nat) : Int)) rfl
  have hA5 := hA4.put ⟨x.msk, x.nx, x.key, X7 + N, X8 - N⟩ 8 (.int .i64 ((X8 - N : Nat) : Int)) rfl
  have c3 : W3.cell? ⟨g, 7, none⟩ = some (.int .i64 (X7 : Int)) := by rw [HXX.out.1]; exact H3.out.1.cells.1.2.2.2.1
  have f3 := H3.out.1.cells.2 7
  have c4 : (W3.setCell ⟨g, 7, none⟩ (.int .i64 ((X7 + N : Nat) : Int))).cell? ⟨g, 8, none⟩ = some (.int .i64 (X8 : Int)) := by rw [HXX.out.2]; exact hA4.cells.1.2.2.2.2
  have f4 := hA4.cells.2 8
  have hm4 := H3.out.2.1.trans (moves_cell16 W3 H3.out.1.foot 7 (.int .i64 ((X7 + N : Nat) : Int)))
  obtain ⟨W4, hW4⟩ : ∃ W, W = W3.setCell ⟨g, 7, none⟩ (.int .i64 ((X7 + N : Nat) : Int)) := ⟨_, rfl⟩
  have hgb : b2 ≠ g := fun e => HB.out.2 g H3.out.1.foot e.symm
  have hr4 : Row W4 b2 #[.int .i64 0, .int .i64 0, .bool false, .int .i64 0, .string ⟨#[]⟩] 29 := by rw [hW4]; exact H3.out.2.2.other hgb
  have hm5 := hm4.trans (moves_cell16 _ H3.out.1.foot 8 (.int .i64 ((X8 - N : Nat) : Int)))
  rw [← hW4] at hA5 hm5 c4 f4
  obtain ⟨W5, hW5⟩ : ∃ W, W = W4.setCell ⟨g, 8, none⟩ (.int .i64 ((X8 - N : Nat) : Int)) := ⟨_, rfl⟩
  have hr5 : Row W5 b2 #[.int .i64 0, .int .i64 0, .bool false, .int .i64 0, .string ⟨#[]⟩] 29 := by rw [hW5]; exact hr4.other hgb
  rw [← hW5] at hA5 hm5
  have c5 : W5.cell? ⟨g, 8, none⟩ = some (.int .i64 ((X8 - N : Nat) : Int)) := hA5.cells.1.2.2.2.2
  have f5 := hA5.cells.2 2
  have HBH := Lib.hid (wbehind_any (X8 - N) W5)
  obtain ⟨NX, hNX⟩ : ∃ R : Nat, R = if X8 - N = 0 then 2 else 1 := ⟨_, rfl⟩
  rw [← hNX] at HBH
  have H5 := Lib.hid (And.intro hA5 (And.intro hm5 (And.intro hr5 hgb)))
  have HNX := Lib.hid hNX
  rw [hW4] at c4 f4
  rw [hW5, hW4] at c5 f5
  obtain ⟨A7, hA7⟩ : ∃ A, A = X7 + N := ⟨_, rfl⟩
  obtain ⟨A8, hA8⟩ : ∃ A, A = X8 - N := ⟨_, rfl⟩
  rw [← hA7] at hw1 c4 f4 c5 f5 hW4 H5
  rw [← hA8] at hw2 c5 f5 hW5 HBH H5 HNX
  have HA := Lib.hid (And.intro hA7 hA8)
  clear hA4 hA5 hm4 hm5 hr4 hr5 hgb hNX hA7 hA8
  go_wp2_with fail
  rw [← hW4, ← hW5]
  rw [← hW4, ← hW5] at f5
  clear c3 f3 c4 f4 c5 hw1 hw2 hW4 hW5
  refine HBH.out.mono ?_
  rintro e w' ⟨rfl, hw'⟩
  subst hw'
  clear HBH
  have c6 : w'.cell? ⟨g, 2, none⟩ = some (.int .i64 (x.nx : Int)) := H5.out.1.cells.1.2.2.1
  have hA6 := H5.out.1.put ⟨x.msk, NX, x.key, A7, A8⟩ 2 (.int .i64 (NX : Int)) rfl
  have hm6 := H5.out.2.1.trans (moves_cell16 w' H5.out.1.foot 2 (.int .i64 (NX : Int)))
  obtain ⟨W6, hW6⟩ : ∃ W, W = w'.setCell ⟨g, 2, none⟩ (.int .i64 (NX : Int)) := ⟨_, rfl⟩
  have hr6 : Row W6 b2 #[.int .i64 0, .int .i64 0, .bool false, .int .i64 0, .string ⟨#[]⟩] 29 := by rw [hW6]; exact H5.out.2.2.1.other H5.out.2.2.2
  rw [← hW6] at hA6 hm6
  have H6 := Lib.hid (And.intro hA6 (And.intro hm6 hr6))
  have z0 : W6.cell? ⟨b2, 0, none⟩ = some (.int .i64 0) := cell_of_row W6 _ 0 _ _ (0, 0) hr6
  have zf0 : W6.frozen? ⟨b2, 0, none⟩ = false := Row.frozen hr6 0
  have z1 : W6.cell? ⟨b2, 1, none⟩ = some (.int .i64 0) := cell_of_row W6 _ 1 _ _ (0, 0) hr6
  have zf1 : W6.frozen? ⟨b2, 1, none⟩ = false := Row.frozen hr6 1
  have z2 : W6.cell? ⟨b2, 2, none⟩ = some (.bool false) := cell_of_row W6 _ 2 _ _ (0, 0) hr6
  have zf2 : W6.frozen? ⟨b2, 2, none⟩ = false := Row.frozen hr6 2
  have z3 : W6.cell? ⟨b2, 3, none⟩ = some (.int .i64 0) := cell_of_row W6 _ 3 _ _ (0, 0) hr6
  have zf3 : W6.frozen? ⟨b2, 3, none⟩ = false := Row.frozen hr6 3
  have z4 : W6.cell? ⟨b2, 4, none⟩ = some (.string ⟨#[]⟩) := cell_of_row W6 _ 4 _ _ (0, 0) hr6
  have zf4 : W6.frozen? ⟨b2, 4, none⟩ = false := Row.frozen hr6 4
  rw [hW6] at z0 zf0 z1 zf1 z2 zf2 z3 zf3 z4 zf4
  clear hA6 hm6 hr6
  go_wp2
  rw [← hW6]
  refine bodyPost_ret (ev_end rfl _ _ b2 _ rfl (put5H_row H6.out.2.2 (.int .i64 2) (.int .i64 0) (.bool false) (.int .i64 0) (S MT)) rfl) rfl ?_
  refine ⟨by rw [HV.out.1]; rfl, F, ?_⟩
  obtain ⟨m1, m2, m3⟩ := keeps_moves (put5H_keeps W6 b2 (.int .i64 2) (.int .i64 0) (.bool false) (.int .i64 0) (S MT)) HB.out.2 (by rw [HB.out.1]; exact Nat.le_refl _) H6.out.2.1 H6.out.1.old
  rw [HV.out.2]
  refine ⟨⟨_, v2, ow2, H6.out.1.same m2 m3, ?_⟩, m1⟩
  have hsy := HX.out.2.1
  refine ⟨?_, fun e => absurd (show st.bad = true from e) (by rw [HX.out.2.2]; exact Bool.false_ne_true), fun _ => ⟨(hsy.2.2 HX.out.2.2).1, fun e => (by cases e), fun k' a' l' e => ?_⟩⟩
  · show (st.buf.drop N).length ≤ 100000
    rw [List.length_drop]; have := HNL.out; omega
  · have e : (k, a + N, l - N) = (k', a', l') := Option.some.inj e
    injection e with e1 e2
    injection e2 with e2 e3
    have h7 := HXX.out.1
    have h8 := HXX.out.2
    have hk := HK.out
    have ha := HA.out
    have hn := HNL.out
    subst e1 e2 e3
    refine ⟨hk.1, by show A7 = a + N; omega, by show A8 = l - N; omega, ?_, by omega⟩
    show NX = _
    rw [HNX.out]
    have : A8 = l - N := by omega
    rw [this]
end

theorem next_head {st : Fst} (hb : st.bad = false) (hc : st.cur = none) : (readHeadF st.buf = none → nextF st = none) ∧ ∀ h n, readHeadF st.buf = some (h, n) →
    (mayF h st.masked = true → nextF st = some (beginE h, { st with cur := some (h.key, 0, h.len), buf := st.buf.drop n })) ∧ (mayF h st.masked = false → nextF st = some (failE, { st with bad := true, buf := [] })) := by
  unfold nextF
  rw [hb, hc, if_neg Bool.false_ne_true]
  dsimp only
  refine ⟨fun h => by rw [h], fun h n hh => ?_⟩
  rw [hh]
  dsimp only
  exact ⟨fun h => if_pos h, fun h => if_neg (by rw [h]; exact Bool.false_ne_true)⟩
/-- All cells of the reader turned. -/
def put9H (W : World) (b : Nat) (v0 v1 v2 v3 v4 v5 v6 v7 v8 : Value) : World := ((((((((W.setCell ⟨b, 0, none⟩ v0).setCell ⟨b, 1, none⟩ v1).setCell ⟨b, 2, none⟩ v2).setCell ⟨b, 3, none⟩ v3).setCell ⟨b, 4, none⟩ v4).setCell ⟨b, 5, none⟩ v5).setCell ⟨b, 6, none⟩ v6).setCell ⟨b, 7, none⟩ v7).setCell ⟨b, 8, none⟩ v8
theorem put9H_keeps (W : World) (b : Nat) (v0 v1 v2 v3 v4 v5 v6 v7 v8 : Value) : Keeps b W (put9H W b v0 v1 v2 v3 v4 v5 v6 v7 v8) :=
  ((((((((Keeps.setCell W 0 v0).trans (.setCell _ 1 v1)).trans (.setCell _ 2 v2)).trans (.setCell _ 3 v3)).trans (.setCell _ 4 v4)).trans (.setCell _ 5 v5)).trans (.setCell _ 6 v6)).trans (.setCell _ 7 v7)).trans (.setCell _ 8 v8)
theorem put9H_row {W : World} {b : Nat} {t : TypeId} {a0 a1 a2 a3 a4 a5 a6 a7 a8 : Value} (h : Row W b #[a0, a1, a2, a3, a4, a5, a6, a7, a8] t) (v0 v1 v2 v3 v4 v5 v6 v7 v8 : Value) : Row (put9H W b v0 v1 v2 v3 v4 v5 v6 v7 v8) b #[v0, v1, v2, v3, v4, v5, v6, v7, v8] t := by
  unfold put9H
  have h0 : Row (W.setCell ⟨b, 0, none⟩ v0) b #[v0, a1, a2, a3, a4, a5, a6, a7, a8] t := h.set 0 v0
  have h1 : Row ((W.setCell ⟨b, 0, none⟩ v0).setCell ⟨b, 1, none⟩ v1) b #[v0, v1, a2, a3, a4, a5, a6, a7, a8] t := h0.set 1 v1
  have h2 : Row (((W.setCell ⟨b, 0, none⟩ v0).setCell ⟨b, 1, none⟩ v1).setCell ⟨b, 2, none⟩ v2) b #[v0, v1, v2, a3, a4, a5, a6, a7, a8] t := h1.set 2 v2
  have h3 : Row ((((W.setCell ⟨b, 0, none⟩ v0).setCell ⟨b, 1, none⟩ v1).setCell ⟨b, 2, none⟩ v2).setCell ⟨b, 3, none⟩ v3) b #[v0, v1, v2, v3, a4, a5, a6, a7, a8] t := h2.set 3 v3
  have h4 : Row (((((W.setCell ⟨b, 0, none⟩ v0).setCell ⟨b, 1, none⟩ v1).setCell ⟨b, 2, none⟩ v2).setCell ⟨b, 3, none⟩ v3).setCell ⟨b, 4, none⟩ v4) b #[v0, v1, v2, v3, v4, a5, a6, a7, a8] t := h3.set 4 v4
  have h5 : Row ((((((W.setCell ⟨b, 0, none⟩ v0).setCell ⟨b, 1, none⟩ v1).setCell ⟨b, 2, none⟩ v2).setCell ⟨b, 3, none⟩ v3).setCell ⟨b, 4, none⟩ v4).setCell ⟨b, 5, none⟩ v5) b #[v0, v1, v2, v3, v4, v5, a6, a7, a8] t := h4.set 5 v5
  have h6 : Row (((((((W.setCell ⟨b, 0, none⟩ v0).setCell ⟨b, 1, none⟩ v1).setCell ⟨b, 2, none⟩ v2).setCell ⟨b, 3, none⟩ v3).setCell ⟨b, 4, none⟩ v4).setCell ⟨b, 5, none⟩ v5).setCell ⟨b, 6, none⟩ v6) b #[v0, v1, v2, v3, v4, v5, v6, a7, a8] t := h5.set 6 v6
  have h7 : Row ((((((((W.setCell ⟨b, 0, none⟩ v0).setCell ⟨b, 1, none⟩ v1).setCell ⟨b, 2, none⟩ v2).setCell ⟨b, 3, none⟩ v3).setCell ⟨b, 4, none⟩ v4).setCell ⟨b, 5, none⟩ v5).setCell ⟨b, 6, none⟩ v6).setCell ⟨b, 7, none⟩ v7) b #[v0, v1, v2, v3, v4, v5, v6, v7, a8] t := h6.set 7 v7
  exact h7.set 8 v8
/-- The key and the two counts turned. -/
def put6H (W : World) (b : Nat) (v3 v4 v5 v6 v7 v8 : Value) : World := (((((W.setCell ⟨b, 3, none⟩ v3).setCell ⟨b, 4, none⟩ v4).setCell ⟨b, 5, none⟩ v5).setCell ⟨b, 6, none⟩ v6).setCell ⟨b, 7, none⟩ v7).setCell ⟨b, 8, none⟩ v8
theorem put6H_keeps (W : World) (b : Nat) (v3 v4 v5 v6 v7 v8 : Value) : Keeps b W (put6H W b v3 v4 v5 v6 v7 v8) :=
  (((((Keeps.setCell W 3 v3).trans (.setCell _ 4 v4)).trans (.setCell _ 5 v5)).trans (.setCell _ 6 v6)).trans (.setCell _ 7 v7)).trans (.setCell _ 8 v8)
theorem put6H_row {W : World} {b : Nat} {t : TypeId} {a0 a1 a2 a3 a4 a5 a6 a7 a8 : Value} (h : Row W b #[a0, a1, a2, a3, a4, a5, a6, a7, a8] t) (v3 v4 v5 v6 v7 v8 : Value) : Row (put6H W b v3 v4 v5 v6 v7 v8) b #[a0, a1, a2, v3, v4, v5, v6, v7, v8] t := by
  unfold put6H
  have h3 : Row (W.setCell ⟨b, 3, none⟩ v3) b #[a0, a1, a2, v3, a4, a5, a6, a7, a8] t := h.set 3 v3
  have h4 : Row ((W.setCell ⟨b, 3, none⟩ v3).setCell ⟨b, 4, none⟩ v4) b #[a0, a1, a2, v3, v4, a5, a6, a7, a8] t := h3.set 4 v4
  have h5 : Row (((W.setCell ⟨b, 3, none⟩ v3).setCell ⟨b, 4, none⟩ v4).setCell ⟨b, 5, none⟩ v5) b #[a0, a1, a2, v3, v4, v5, a6, a7, a8] t := h4.set 5 v5
  have h6 : Row ((((W.setCell ⟨b, 3, none⟩ v3).setCell ⟨b, 4, none⟩ v4).setCell ⟨b, 5, none⟩ v5).setCell ⟨b, 6, none⟩ v6) b #[a0, a1, a2, v3, v4, v5, v6, a7, a8] t := h5.set 6 v6
  have h7 : Row (((((W.setCell ⟨b, 3, none⟩ v3).setCell ⟨b, 4, none⟩ v4).setCell ⟨b, 5, none⟩ v5).setCell ⟨b, 6, none⟩ v6).setCell ⟨b, 7, none⟩ v7) b #[a0, a1, a2, v3, v4, v5, v6, v7, a8] t := h6.set 7 v7
  exact h7.set 8 v8
theorem HrdAt.keeps {w w' : World} {F : Nat → Prop} {g : Nat} {b : List UInt8} {x y : Hrd} {v : Value} {ow : Option Nat} (h : HrdAt w F g b x v ow) (hk : Keeps g w w') (hr : Row w' g (hrdC y v) 45) : HrdAt w' F g b y v ow :=
  ⟨hr, h.wait.same fun k ho => hk.block k (h.old k (h.own k ho).1) (h.own k ho).2, h.foot, h.own, fun k ho => Nat.lt_of_lt_of_le (h.old k ho) hk.size⟩
theorem row_range16 {w : World} {g : Nat} {cs : Array Value} {t : TypeId} (h : Row w g cs t) : w.rangeAt g 0 cs.toList := by
  intro j u hj
  rw [Nat.zero_add, cell_of_row w g j _ _ (0, 0) h, ← Array.getElem?_toList]
  exact hj
theorem row_mid16 {w : World} {g : Nat} {cs : Array Value} {t : TypeId} (h : Row w g cs t) (o : Nat) (l : List Value) (hl : ∀ j u, l[j]? = some u → cs[o + j]? = some u) : w.rangeAt g o l := by
  intro j u hj
  rw [cell_of_row w g (o + j) _ _ (0, 0) h]
  exact hl j u hj
theorem Moves.keeps16 {W W' : World} {F : Nat → Prop} {g : Nat} (h : Keeps g W W') (hg : F g) : Moves F F W W' :=
  ⟨h.os, h.tape, h.output, h.size, fun _ hk => .inl hk, fun k h1 h2 => h.block k h1 (fun e => h2 (by rw [e]; exact hg))⟩
/-- A call and a block that is made, which may each come up first. -/
theorem ready_call_or_made16 {P : Program} {md : Region.Mode} {ops : Array Oper} {Q : Exit → Act → World → Prop} {S : World → Prop} {fuel : Nat} {listed : Array Bool} {a : Act} {w w1 : World} {i j : Nat} {di dj : Option Tmp} {vj : Value} {f : FuncId} {args : Array Value} (hdi : (ops[i]?).map (·.dst) = some di) (hdj : (ops[j]?).map (·.dst) = some dj) (hr : Region.ready md ops listed = [i, j])
    (hxi : ∀ oi, ops[i]? = some oi → Region.wanted oi (yielded ops a.tmps) = true ∧ (execOp a.eval oi).run P w = .ok (.enter f args) w)
    (hxj : ∀ oj, ops[j]? = some oj → Region.wanted oj (yielded ops a.tmps) = true ∧ (execOp a.eval oj).run P w = .ok (.value vj) w1) (hS : S w1)
    (hc : Calls P f args w fun e w' => ∃ v, e = .returned v ∧ S w' ∧ wpAnyH P md ops Q S fuel (listed.setIfInBounds i true) (a.put di v) w')
    (hv : wpAnyH P md ops Q S fuel (listed.setIfInBounds j true) (a.put dj vj) w1) : wpAnyH P md ops Q S (fuel + 1) listed a w := by
  cases hi : ops[i]? with
  | none => simp [hi] at hdi
  | some oi =>
    cases hj : ops[j]? with
    | none => simp [hj] at hdj
    | some oj =>
      have e1 : oi.dst = di := by simpa [hi] using hdi
      have e2 : oj.dst = dj := by simpa [hj] using hdj
      subst e1 e2
      refine wpAnyH_ready hr (by simp) (AllReadyH.cons hi (fun K hK => ?_) (AllReadyH.cons hj (fun K hK => ?_) AllReadyH.nil))
      · obtain ⟨hw, hx⟩ := hxi oi hi
        rw [if_pos hw]
        unfold Oper.wp
        rw [hx]
        refine hc.mono ?_
        rintro e w' ⟨v, rfl, hS', h⟩
        exact hK.out _ _ hS' (fun _ => h)
      · obtain ⟨hw, hx⟩ := hxj oj hj
        rw [if_pos hw]
        unfold Oper.wp
        rw [hx]
        exact hK.out _ _ hS (fun _ => hv)
section
variable {w : World} {F : Nat → Prop} {g : Nat} {st : Fst} {x : Hrd} {v : Value} {ow : Option Nat}
set_option maxRecDepth 100000 in
set_option maxHeartbeats 4000000 in
theorem whead16_any (h : HrdAt w F g st.buf x v ow) (hsy : SaysH x st) (hb : st.bad = false) (hc : st.cur = none) :
    Calls Try.prog 33 #[.pointer (some ⟨g, 0, none⟩)] w (NextR F g st w) := by
  obtain ⟨em, en, -⟩ := hsy.2.2 hb
  have en := en hc
  obtain ⟨nd1, nd2⟩ := next_head hb hc
  have hbl := hsy.1
  have HX := Lib.hid (And.intro h (And.intro hsy (And.intro hb em)))
  have HND := Lib.hid (And.intro nd1 nd2)
  have hlen := h.wait.toV.len 3
  obtain ⟨V', hsl, -⟩ := h.wait.toV.upto (min st.buf.length 14) (by omega)
  have htk : st.buf.take (min st.buf.length 14) = st.buf.take 14 := by
    rcases Nat.le_total st.buf.length 14 with h | h
    · rw [Nat.min_eq_left h, List.take_length, List.take_of_length_le h]
    · rw [Nat.min_eq_right h]
  have hVV : ∀ W, WaitO W v ow st.buf → WaitV W V' (st.buf.take 14) := fun W hW => by
    obtain ⟨V2, h1, h2⟩ := hW.toV.upto (min st.buf.length 14) (by omega)
    have e : V2 = V' := by
      have := (h1 w).symm.trans (hsl w)
      injection this
    rw [← e, ← htk]; exact h2
  obtain ⟨L, hL⟩ : ∃ L, L = st.buf.length := ⟨_, rfl⟩
  rw [← hL] at hlen
  obtain ⟨k0, hk0⟩ : ∃ k, k = min st.buf.length 14 := ⟨_, rfl⟩
  rw [← hk0] at hsl
  have hmn : ∀ w, (Builtin.min_ #[3, 3] 3 #[.int .i64 (L : Int), .int .i64 14]).run Try.prog w = .ok (.int .i64 (k0 : Int)) w := fun w => by
    rw [run_min_int2]
    congr 2
    split <;> omega
  obtain ⟨T14, hT⟩ : ∃ T, T = st.buf.take 14 := ⟨_, rfl⟩
  have HRH : Hid (∀ W, Calls Try.prog 35 #[S T14] W fun e w' => e = .returned (headV (readHeadF st.buf)) ∧ Below W.heap.size W w') := Lib.hid fun W => by
    have := whead_any T14 (by rw [hT, List.length_take]; omega) W
    rw [hT] at this ⊢
    rw [head_take] at this
    exact this
  rw [← hT] at hVV
  have HVV := Lib.hid hVV
  obtain ⟨W1, hW1⟩ : ∃ W, W = w.alloc (.cells #[.int .i64 0, .int .i64 0, .bool false, .int .i64 0, .string ⟨#[]⟩] 29) := ⟨_, rfl⟩
  obtain ⟨b2, hb2⟩ : ∃ b, b = w.heap.size := ⟨_, rfl⟩
  obtain ⟨Wq, hWq⟩ : ∃ Wq, Wq = W1.drew := ⟨_, rfl⟩
  have hB1 : Below w.heap.size w W1 := by rw [hW1]; exact (Below.refl _ w).alloc (Nat.le_refl _) _
  have hBq : Below w.heap.size w Wq := by rw [hWq]; exact hB1.trans ⟨rfl, rfl, rfl, Nat.le_refl _, fun _ _ => rfl⟩
  have hr1 : Row W1 b2 #[.int .i64 0, .int .i64 0, .bool false, .int .i64 0, .string ⟨#[]⟩] 29 := by rw [hW1, hb2]; exact row_new w _ _
  have hrq : Row Wq b2 #[.int .i64 0, .int .i64 0, .bool false, .int .i64 0, .string ⟨#[]⟩] 29 := by rw [hWq]; exact hr1.drew
  have hAq := h.below hBq
  have hSQ : Wq.cell? ⟨g, 1, none⟩ = some v ∧ WaitO Wq v ow st.buf := ⟨hAq.cells.1.2.1, hAq.wait⟩
  have HQ := Lib.hid (And.intro hBq (And.intro hrq hAq))
  have HB := Lib.hid (And.intro hb2 (fun k hk => Nat.ne_of_lt (by rw [hb2]; exact h.old k hk) : ∀ k, F k → k ≠ b2))
  have HBL := Lib.hid hbl
  clear h hsy hb em en nd1 nd2 hbl hB1 hBq hr1 hrq hAq hL hc hk0 hT htk hVV
  cases hrh : readHeadF st.buf with
  | none =>
    have hnn := HND.out.1 hrh
    have HV := Lib.hid (And.intro (next_no hnn).1 (next_no hnn).2)
    have HRH : Hid (∀ W, Calls Try.prog 35 #[S T14] W fun e w' => e = .returned (.tuple #[.agg #[.bool false, .int .i64 0, .int .i64 0, .bool false, .int .u8 0, .int .u8 0, .int .u8 0, .int .u8 0, .int .u64 0, .bool false], .int .i64 0, .bool false]) ∧ Below W.heap.size W w') := Lib.hid fun W => by
      have := HRH.out W
      rw [hrh] at this
      exact this
    clear hrh hnn HND
    go_enter Try.func33, Try.ntmps33
    go_upto_region 1 with fail
    go_cut [4, 5, 6] (fun s4 s5 s6 wx => ∃ b4, s4 = .pointer (some ⟨b4, 0, none⟩) ∧ s5 = .int .i64 0 ∧ s6 = .bool false ∧ Hid (Below w.heap.size w wx ∧ Row wx b2 #[.int .i64 0, .int .i64 0, .bool false, .int .i64 0, .string ⟨#[]⟩] 29 ∧ HrdAt wx F g st.buf x v ow ∧ Row wx b4 #[.bool false, .int .i64 0, .int .i64 0, .bool false, .int .u8 0, .int .u8 0, .int .u8 0, .int .u8 0, .int .u64 0, .bool false] 74 ∧ b2 ≠ b4 ∧ ∀ k, F k → k ≠ b4))
    case first =>
      rw [← hW1]
      clear hW1
      refine wp_region_noPanic ?_
      refine wp_region_held_drew (S := fun wx => wx.cell? ⟨g, 1, none⟩ = some v ∧ WaitO wx v ow st.buf) (by kernel_rfl) (by rw [← hWq]; exact hSQ) (fun _ => ?_)
      rw [← hWq]
      clear hWq
      refine take_at (i := 0) (d := some 8) (v := .pointer (some ⟨g, 0, none⟩)) rfl (by kernel_rfl) (by kernel_rfl) (by kernel_rfl) (fun _ _ _ h => h) (fun oi ho => ?_) hSQ ?_
      · obtain rfl := Option.some.inj ho
        exact Or.inl ⟨by rfl, fun wx ⟨hSa, hSb⟩ => by go_simp⟩
      simp only [Act.put, List.setIfInBounds_toArray, List.set_cons_zero, List.set_cons_succ]
      refine take_at (i := 1) (d := some 9) (v := .pointer (some ⟨g, 0, none⟩)) rfl (by kernel_rfl) (by kernel_rfl) (by kernel_rfl) (fun _ _ _ h => h) (fun oi ho => ?_) hSQ ?_
      · obtain rfl := Option.some.inj ho
        exact Or.inl ⟨by rfl, fun wx ⟨hSa, hSb⟩ => by go_simp⟩
      simp only [Act.put, List.setIfInBounds_toArray, List.set_cons_zero, List.set_cons_succ]
      refine take_at (i := 2) (d := some 10) (v := .pointer (some ⟨g, 1, none⟩)) rfl (by kernel_rfl) (by kernel_rfl) (by kernel_rfl) (fun _ _ _ h => h) (fun oi ho => ?_) hSQ ?_
      · obtain rfl := Option.some.inj ho
        exact Or.inl ⟨by rfl, fun wx ⟨hSa, hSb⟩ => by go_simp⟩
      simp only [Act.put, List.setIfInBounds_toArray, List.set_cons_zero, List.set_cons_succ]
      refine take_at (i := 3) (d := some 11) (v := v) rfl (by kernel_rfl) (by kernel_rfl) (by kernel_rfl) (fun _ _ _ h => h) (fun oi ho => ?_) hSQ ?_
      · obtain rfl := Option.some.inj ho
        exact Or.inl ⟨by rfl, fun wx ⟨hSa, hSb⟩ => by go_simp⟩
      simp only [Act.put, List.setIfInBounds_toArray, List.set_cons_zero, List.set_cons_succ]
      refine take_at (i := 4) (d := some 12) (v := .pointer (some ⟨g, 0, none⟩)) rfl (by kernel_rfl) (by kernel_rfl) (by kernel_rfl) (fun _ _ _ h => h) (fun oi ho => ?_) hSQ ?_
      · obtain rfl := Option.some.inj ho
        exact Or.inl ⟨by rfl, fun wx ⟨hSa, hSb⟩ => by go_simp⟩
      simp only [Act.put, List.setIfInBounds_toArray, List.set_cons_zero, List.set_cons_succ]
      refine take_at (i := 5) (d := some 13) (v := .pointer (some ⟨g, 0, none⟩)) rfl (by kernel_rfl) (by kernel_rfl) (by kernel_rfl) (fun _ _ _ h => h) (fun oi ho => ?_) hSQ ?_
      · obtain rfl := Option.some.inj ho
        exact Or.inl ⟨by rfl, fun wx ⟨hSa, hSb⟩ => by go_simp⟩
      simp only [Act.put, List.setIfInBounds_toArray, List.set_cons_zero, List.set_cons_succ]
      refine take_at (i := 6) (d := some 14) (v := .pointer (some ⟨g, 1, none⟩)) rfl (by kernel_rfl) (by kernel_rfl) (by kernel_rfl) (fun _ _ _ h => h) (fun oi ho => ?_) hSQ ?_
      · obtain rfl := Option.some.inj ho
        exact Or.inl ⟨by rfl, fun wx ⟨hSa, hSb⟩ => by go_simp⟩
      simp only [Act.put, List.setIfInBounds_toArray, List.set_cons_zero, List.set_cons_succ]
      refine take_at (i := 7) (d := some 15) (v := v) rfl (by kernel_rfl) (by kernel_rfl) (by kernel_rfl) (fun _ _ _ h => h) (fun oi ho => ?_) hSQ ?_
      · obtain rfl := Option.some.inj ho
        exact Or.inl ⟨by rfl, fun wx ⟨hSa, hSb⟩ => by go_simp⟩
      simp only [Act.put, List.setIfInBounds_toArray, List.set_cons_zero, List.set_cons_succ]
      refine take_at (i := 8) (d := some 16) (v := .int .i64 (L : Int)) rfl (by kernel_rfl) (by kernel_rfl) (by kernel_rfl) (fun _ _ _ h => h) (fun oi ho => ?_) hSQ ?_
      · obtain rfl := Option.some.inj ho
        exact Or.inl ⟨by rfl, fun wx ⟨hSa, hSb⟩ => by go_simp⟩
      simp only [Act.put, List.setIfInBounds_toArray, List.set_cons_zero, List.set_cons_succ]
      refine take_at (i := 9) (d := some 17) (v := .int .i64 (k0 : Int)) rfl (by kernel_rfl) (by kernel_rfl) (by kernel_rfl) (fun _ _ _ h => h) (fun oi ho => ?_) hSQ ?_
      · obtain rfl := Option.some.inj ho
        exact Or.inl ⟨by rfl, fun wx ⟨hSa, hSb⟩ => by go_simp⟩
      simp only [Act.put, List.setIfInBounds_toArray, List.set_cons_zero, List.set_cons_succ]
      refine take_at (i := 10) (d := some 18) (v := V') rfl (by kernel_rfl) (by kernel_rfl) (by kernel_rfl) (fun _ _ _ h => h) (fun oi ho => ?_) hSQ ?_
      · obtain rfl := Option.some.inj ho
        exact Or.inl ⟨by rfl, fun wx ⟨hSa, hSb⟩ => by go_simp⟩
      simp only [Act.put, List.setIfInBounds_toArray, List.set_cons_zero, List.set_cons_succ]
      refine take_at (i := 11) (d := some 19) (v := S T14) rfl (by kernel_rfl) (by kernel_rfl) (by kernel_rfl) (fun _ _ _ h => h) (fun oi ho => ?_) hSQ ?_
      · obtain rfl := Option.some.inj ho
        exact Or.inl ⟨by rfl, fun wx hSw => by have ht := (HVV.out wx hSw.2).text; go_simp⟩
      simp only [Act.put, List.setIfInBounds_toArray, List.set_cons_zero, List.set_cons_succ]
      obtain ⟨W1, hW1⟩ : ∃ W, W = Wq.alloc (.cells #[.bool false, .int .i64 0, .int .i64 0, .bool false, .int .u8 0, .int .u8 0, .int .u8 0, .int .u8 0, .int .u64 0, .bool false] 74) := ⟨_, rfl⟩
      obtain ⟨b1, hb1⟩ : ∃ b, b = Wq.heap.size := ⟨_, rfl⟩
      have hB1 : Below Wq.heap.size Wq W1 := by rw [hW1]; exact (Below.refl _ Wq).alloc (Nat.le_refl _) _
      have hS1 : W1.cell? ⟨g, 1, none⟩ = some v ∧ WaitO W1 v ow st.buf := ⟨by rw [hB1.cell (World.block_lt_of_cell? Wq _ hSQ.1)]; exact hSQ.1, hSQ.2.below hB1⟩
      have hr1 : Row W1 b1 #[.bool false, .int .i64 0, .int .i64 0, .bool false, .int .u8 0, .int .u8 0, .int .u8 0, .int .u8 0, .int .u64 0, .bool false] 74 := by rw [hW1, hb1]; exact row_new Wq _ _
      refine ready_call_or_made16 (i := 12) (j := 17) (di := some 20) (dj := some 4) (vj := .pointer (some ⟨b1, 0, none⟩)) (w1 := W1) (f := 35) (args := #[S T14]) rfl rfl (by kernel_rfl) (fun oi ho => ?_) (fun oi ho => ?_) hS1 ?_ ?_
      · obtain rfl := Option.some.inj ho
        exact ⟨by rfl, by go_simp⟩
      · obtain rfl := Option.some.inj ho
        exact ⟨by rfl, by rw [hW1, hb1]; go_simp⟩
      · refine (HRH.out Wq).mono ?_
        rintro e W2 ⟨rfl, hB2⟩
        have hS2 : W2.cell? ⟨g, 1, none⟩ = some v ∧ WaitO W2 v ow st.buf := ⟨by rw [hB2.cell (World.block_lt_of_cell? Wq _ hSQ.1)]; exact hSQ.1, hSQ.2.below hB2⟩
        refine ⟨_, rfl, hS2, ?_⟩
        simp only [Act.put, List.setIfInBounds_toArray, List.set_cons_zero, List.set_cons_succ]
        refine take_at (i := 13) (d := some 7) (v := .tuple #[.agg #[.bool false, .int .i64 0, .int .i64 0, .bool false, .int .u8 0, .int .u8 0, .int .u8 0, .int .u8 0, .int .u64 0, .bool false], .int .i64 0, .bool false]) rfl (by kernel_rfl) (by kernel_rfl) (by kernel_rfl) (fun _ _ _ h => h) (fun oi ho => ?_) hS2 ?_
        · obtain rfl := Option.some.inj ho
          exact Or.inl ⟨by rfl, fun wx hSw => by go_simp⟩
        simp only [Act.put, List.setIfInBounds_toArray, List.set_cons_zero, List.set_cons_succ]
        refine take_at (i := 14) (d := some 21) (v := .agg #[.bool false, .int .i64 0, .int .i64 0, .bool false, .int .u8 0, .int .u8 0, .int .u8 0, .int .u8 0, .int .u64 0, .bool false]) rfl (by kernel_rfl) (by kernel_rfl) (by kernel_rfl) (fun _ _ _ h => h) (fun oi ho => ?_) hS2 ?_
        · obtain rfl := Option.some.inj ho
          exact Or.inl ⟨by rfl, fun wx hSw => by go_simp⟩
        simp only [Act.put, List.setIfInBounds_toArray, List.set_cons_zero, List.set_cons_succ]
        refine take_at (i := 15) (d := some 22) (v := .int .i64 0) rfl (by kernel_rfl) (by kernel_rfl) (by kernel_rfl) (fun _ _ _ h => h) (fun oi ho => ?_) hS2 ?_
        · obtain rfl := Option.some.inj ho
          exact Or.inl ⟨by rfl, fun wx hSw => by go_simp⟩
        simp only [Act.put, List.setIfInBounds_toArray, List.set_cons_zero, List.set_cons_succ]
        refine take_at (i := 16) (d := some 23) (v := .bool false) rfl (by kernel_rfl) (by kernel_rfl) (by kernel_rfl) (fun _ _ _ h => h) (fun oi ho => ?_) hS2 ?_
        · obtain rfl := Option.some.inj ho
          exact Or.inl ⟨by rfl, fun wx hSw => by go_simp⟩
        simp only [Act.put, List.setIfInBounds_toArray, List.set_cons_zero, List.set_cons_succ]
        clear hW1 hb1 hB1 hS1 hr1
        obtain ⟨W3, hW3⟩ : ∃ W, W = W2.alloc (.cells #[.bool false, .int .i64 0, .int .i64 0, .bool false, .int .u8 0, .int .u8 0, .int .u8 0, .int .u8 0, .int .u64 0, .bool false] 74) := ⟨_, rfl⟩
        obtain ⟨b4, hb4⟩ : ∃ b, b = W2.heap.size := ⟨_, rfl⟩
        have hB23 : Below W2.heap.size W2 W3 := by rw [hW3]; exact (Below.refl _ W2).alloc (Nat.le_refl _) _
        have hBq3 : Below Wq.heap.size Wq W3 := hB2.trans (hB23.mono hB2.size)
        have hS3 : W3.cell? ⟨g, 1, none⟩ = some v ∧ WaitO W3 v ow st.buf := ⟨by rw [hBq3.cell (World.block_lt_of_cell? Wq _ hSQ.1)]; exact hSQ.1, hSQ.2.below hBq3⟩
        have hr3 : Row W3 b4 #[.bool false, .int .i64 0, .int .i64 0, .bool false, .int .u8 0, .int .u8 0, .int .u8 0, .int .u8 0, .int .u64 0, .bool false] 74 := by rw [hW3, hb4]; exact row_new W2 _ _
        refine ready_value (i := 17) (d := some 4) (v := .pointer (some ⟨b4, 0, none⟩)) (w' := W3) rfl (by kernel_rfl) (fun oi ho => ?_) hS3 ?_
        · obtain rfl := Option.some.inj ho
          exact ⟨by rfl, by rw [hW3, hb4]; go_simp⟩
        simp only [Act.put, List.setIfInBounds_toArray, List.set_cons_zero, List.set_cons_succ]
        have hle : Wq.heap.size ≤ b4 := by rw [hb4]; exact hB2.size
        clear hW3 hb4 hB23 hB2 hS2
        have hB3 : Below w.heap.size w W3 := HQ.out.1.trans (hBq3.mono HQ.out.1.size)
        have hle4 : w.heap.size ≤ b4 := Nat.le_trans HQ.out.1.size hle
        have hA3 := HQ.out.2.2.below hBq3
        have hq3 := HQ.out.2.1.below hBq3 HQ.out.2.1.lt
        have hne : b2 ≠ b4 := by have := HQ.out.2.1.lt; omega
        have hFb : ∀ k, F k → k ≠ b4 := fun k hk => by have := HQ.out.2.2.old k hk; omega
        have hst := run_storeVar_row (P := Try.prog) W3 b4 74 74 _ #[.bool false, .int .i64 0, .int .i64 0, .bool false, .int .u8 0, .int .u8 0, .int .u8 0, .int .u8 0, .int .u64 0, .bool false] hr3 (by rw [infoHdW]; rfl) rfl (by simp [Value.oneCell'])
        obtain ⟨W4, hW4⟩ : ∃ W, W = W3.setRow b4 #[.bool false, .int .i64 0, .int .i64 0, .bool false, .int .u8 0, .int .u8 0, .int .u8 0, .int .u8 0, .int .u64 0, .bool false] := ⟨_, rfl⟩
        rw [← hW4] at hst
        have hr4 : Row W4 b4 #[.bool false, .int .i64 0, .int .i64 0, .bool false, .int .u8 0, .int .u8 0, .int .u8 0, .int .u8 0, .int .u64 0, .bool false] 74 := by rw [hW4]; exact setRow_heap W3 b4 _ _ 74 _ hr3
        have hk4 : Keeps b4 W3 W4 := by rw [hW4]; exact Keeps.setRow _ _
        have hA4 : HrdAt W4 F g st.buf x v ow := hA3.same hk4.size fun k hk => hk4.block k (hA3.old k hk) (hFb k hk)
        have hS4 : W4.cell? ⟨g, 1, none⟩ = some v ∧ WaitO W4 v ow st.buf := ⟨hA4.cells.1.2.1, hA4.wait⟩
        refine ready_skip (i := 18) (d := none) (w' := W4) rfl (by kernel_rfl) (fun oi ho => ?_) hS4 ?_
        · obtain rfl := Option.some.inj ho
          exact ⟨by rfl, exec_store_by _ _ _ rfl _ rfl rfl hst⟩
        simp only [Act.put]
        refine take_at (i := 19) (d := some 5) (v := .int .i64 0) rfl (by kernel_rfl) (by kernel_rfl) (by kernel_rfl) (fun _ _ _ h => h) (fun oi ho => ?_) hS4 ?_
        · obtain rfl := Option.some.inj ho
          exact Or.inl ⟨by rfl, fun wx hSw => by go_simp⟩
        simp only [Act.put, List.setIfInBounds_toArray, List.set_cons_zero, List.set_cons_succ]
        refine take_at (i := 20) (d := some 6) (v := .bool false) rfl (by kernel_rfl) (by kernel_rfl) (by kernel_rfl) (fun _ _ _ h => h) (fun oi ho => ?_) hS4 ?_
        · obtain rfl := Option.some.inj ho
          exact Or.inl ⟨by rfl, fun wx hSw => by go_simp⟩
        simp only [Act.put, List.setIfInBounds_toArray, List.set_cons_zero, List.set_cons_succ]
        refine wpAnyH_done (by kernel_rfl) ?_ _
        refine NoPanic.normal ?_
        try simp only [Act.put]
        have H4 : Hid (Below w.heap.size w W4 ∧ Row W4 b2 #[.int .i64 0, .int .i64 0, .bool false, .int .i64 0, .string ⟨#[]⟩] 29 ∧ HrdAt W4 F g st.buf x v ow ∧ Row W4 b4 #[.bool false, .int .i64 0, .int .i64 0, .bool false, .int .u8 0, .int .u8 0, .int .u8 0, .int .u8 0, .int .u64 0, .bool false] 74 ∧ b2 ≠ b4 ∧ ∀ k, F k → k ≠ b4) := Lib.hid ⟨hB3.trans (hk4.below hB3.size hle4), hq3.keeps hk4 hne, hA4, hr4, hne, hFb⟩
        go_wp2
        go_meet
        exact ⟨b4, rfl, rfl, rfl, H4⟩
      · clear hW1
        simp only [Act.put, List.setIfInBounds_toArray, List.set_cons_zero, List.set_cons_succ]
        refine ready_call (i := 12) (d := some 20) (f := 35) (args := #[S T14]) rfl (by kernel_rfl) (fun oi ho => ?_) ?_
        · obtain rfl := Option.some.inj ho
          exact ⟨by rfl, by go_simp⟩
        refine (HRH.out W1).mono ?_
        rintro e W3 ⟨rfl, hB2⟩
        have hBq3 : Below Wq.heap.size Wq W3 := hB1.trans (hB2.mono hB1.size)
        have hS2 : W3.cell? ⟨g, 1, none⟩ = some v ∧ WaitO W3 v ow st.buf := ⟨by rw [hBq3.cell (World.block_lt_of_cell? Wq _ hSQ.1)]; exact hSQ.1, hSQ.2.below hBq3⟩
        have hS3 := hS2
        have hr3 := hr1.below hB2 hr1.lt
        refine ⟨_, rfl, hS2, ?_⟩
        simp only [Act.put, List.setIfInBounds_toArray, List.set_cons_zero, List.set_cons_succ]
        refine take_at (i := 13) (d := some 7) (v := .tuple #[.agg #[.bool false, .int .i64 0, .int .i64 0, .bool false, .int .u8 0, .int .u8 0, .int .u8 0, .int .u8 0, .int .u64 0, .bool false], .int .i64 0, .bool false]) rfl (by kernel_rfl) (by kernel_rfl) (by kernel_rfl) (fun _ _ _ h => h) (fun oi ho => ?_) hS2 ?_
        · obtain rfl := Option.some.inj ho
          exact Or.inl ⟨by rfl, fun wx hSw => by go_simp⟩
        simp only [Act.put, List.setIfInBounds_toArray, List.set_cons_zero, List.set_cons_succ]
        refine take_at (i := 14) (d := some 21) (v := .agg #[.bool false, .int .i64 0, .int .i64 0, .bool false, .int .u8 0, .int .u8 0, .int .u8 0, .int .u8 0, .int .u64 0, .bool false]) rfl (by kernel_rfl) (by kernel_rfl) (by kernel_rfl) (fun _ _ _ h => h) (fun oi ho => ?_) hS2 ?_
        · obtain rfl := Option.some.inj ho
          exact Or.inl ⟨by rfl, fun wx hSw => by go_simp⟩
        simp only [Act.put, List.setIfInBounds_toArray, List.set_cons_zero, List.set_cons_succ]
        refine take_at (i := 15) (d := some 22) (v := .int .i64 0) rfl (by kernel_rfl) (by kernel_rfl) (by kernel_rfl) (fun _ _ _ h => h) (fun oi ho => ?_) hS2 ?_
        · obtain rfl := Option.some.inj ho
          exact Or.inl ⟨by rfl, fun wx hSw => by go_simp⟩
        simp only [Act.put, List.setIfInBounds_toArray, List.set_cons_zero, List.set_cons_succ]
        refine take_at (i := 16) (d := some 23) (v := .bool false) rfl (by kernel_rfl) (by kernel_rfl) (by kernel_rfl) (fun _ _ _ h => h) (fun oi ho => ?_) hS2 ?_
        · obtain rfl := Option.some.inj ho
          exact Or.inl ⟨by rfl, fun wx hSw => by go_simp⟩
        simp only [Act.put, List.setIfInBounds_toArray, List.set_cons_zero, List.set_cons_succ]
        have hle : Wq.heap.size ≤ b1 := by rw [hb1]; exact Nat.le_refl _
        obtain ⟨b4, hb4⟩ : ∃ b, b = b1 := ⟨_, rfl⟩
        subst hb4
        clear hb1 hB1 hS1 hr1 hB2 hS2
        have hB3 : Below w.heap.size w W3 := HQ.out.1.trans (hBq3.mono HQ.out.1.size)
        have hle4 : w.heap.size ≤ b4 := Nat.le_trans HQ.out.1.size hle
        have hA3 := HQ.out.2.2.below hBq3
        have hq3 := HQ.out.2.1.below hBq3 HQ.out.2.1.lt
        have hne : b2 ≠ b4 := by have := HQ.out.2.1.lt; omega
        have hFb : ∀ k, F k → k ≠ b4 := fun k hk => by have := HQ.out.2.2.old k hk; omega
        have hst := run_storeVar_row (P := Try.prog) W3 b4 74 74 _ #[.bool false, .int .i64 0, .int .i64 0, .bool false, .int .u8 0, .int .u8 0, .int .u8 0, .int .u8 0, .int .u64 0, .bool false] hr3 (by rw [infoHdW]; rfl) rfl (by simp [Value.oneCell'])
        obtain ⟨W4, hW4⟩ : ∃ W, W = W3.setRow b4 #[.bool false, .int .i64 0, .int .i64 0, .bool false, .int .u8 0, .int .u8 0, .int .u8 0, .int .u8 0, .int .u64 0, .bool false] := ⟨_, rfl⟩
        rw [← hW4] at hst
        have hr4 : Row W4 b4 #[.bool false, .int .i64 0, .int .i64 0, .bool false, .int .u8 0, .int .u8 0, .int .u8 0, .int .u8 0, .int .u64 0, .bool false] 74 := by rw [hW4]; exact setRow_heap W3 b4 _ _ 74 _ hr3
        have hk4 : Keeps b4 W3 W4 := by rw [hW4]; exact Keeps.setRow _ _
        have hA4 : HrdAt W4 F g st.buf x v ow := hA3.same hk4.size fun k hk => hk4.block k (hA3.old k hk) (hFb k hk)
        have hS4 : W4.cell? ⟨g, 1, none⟩ = some v ∧ WaitO W4 v ow st.buf := ⟨hA4.cells.1.2.1, hA4.wait⟩
        refine ready_skip (i := 18) (d := none) (w' := W4) rfl (by kernel_rfl) (fun oi ho => ?_) hS4 ?_
        · obtain rfl := Option.some.inj ho
          exact ⟨by rfl, exec_store_by _ _ _ rfl _ rfl rfl hst⟩
        simp only [Act.put]
        refine take_at (i := 19) (d := some 5) (v := .int .i64 0) rfl (by kernel_rfl) (by kernel_rfl) (by kernel_rfl) (fun _ _ _ h => h) (fun oi ho => ?_) hS4 ?_
        · obtain rfl := Option.some.inj ho
          exact Or.inl ⟨by rfl, fun wx hSw => by go_simp⟩
        simp only [Act.put, List.setIfInBounds_toArray, List.set_cons_zero, List.set_cons_succ]
        refine take_at (i := 20) (d := some 6) (v := .bool false) rfl (by kernel_rfl) (by kernel_rfl) (by kernel_rfl) (fun _ _ _ h => h) (fun oi ho => ?_) hS4 ?_
        · obtain rfl := Option.some.inj ho
          exact Or.inl ⟨by rfl, fun wx hSw => by go_simp⟩
        simp only [Act.put, List.setIfInBounds_toArray, List.set_cons_zero, List.set_cons_succ]
        refine wpAnyH_done (by kernel_rfl) ?_ _
        refine NoPanic.normal ?_
        try simp only [Act.put]
        have H4 : Hid (Below w.heap.size w W4 ∧ Row W4 b2 #[.int .i64 0, .int .i64 0, .bool false, .int .i64 0, .string ⟨#[]⟩] 29 ∧ HrdAt W4 F g st.buf x v ow ∧ Row W4 b4 #[.bool false, .int .i64 0, .int .i64 0, .bool false, .int .u8 0, .int .u8 0, .int .u8 0, .int .u8 0, .int .u64 0, .bool false] 74 ∧ b2 ≠ b4 ∧ ∀ k, F k → k ≠ b4) := Lib.hid ⟨hB3.trans (hk4.below hB3.size hle4), hq3.keeps hk4 hne, hA4, hr4, hne, hFb⟩
        go_wp2
        go_meet
        exact ⟨b4, rfl, rfl, rfl, H4⟩
    case rest =>
      obtain ⟨b4, rfl, rfl, rfl, H4⟩ := hcut
      rw [← hb2]
      clear hW1 hb2 hWq hSQ HQ HRH hlen hsl hmn
      obtain ⟨W4, hW4⟩ : ∃ W, W = wc := ⟨_, rfl⟩
      subst hW4
      have hrq := H4.out.2.1
      have z0 : W4.cell? ⟨b2, 0, none⟩ = some (.int .i64 0) := cell_of_row W4 _ 0 _ _ (0, 0) hrq
      have zf0 : W4.frozen? ⟨b2, 0, none⟩ = false := Row.frozen hrq 0
      have z1 : W4.cell? ⟨b2, 1, none⟩ = some (.int .i64 0) := cell_of_row W4 _ 1 _ _ (0, 0) hrq
      have zf1 : W4.frozen? ⟨b2, 1, none⟩ = false := Row.frozen hrq 1
      have z2 : W4.cell? ⟨b2, 2, none⟩ = some (.bool false) := cell_of_row W4 _ 2 _ _ (0, 0) hrq
      have zf2 : W4.frozen? ⟨b2, 2, none⟩ = false := Row.frozen hrq 2
      have z3 : W4.cell? ⟨b2, 3, none⟩ = some (.int .i64 0) := cell_of_row W4 _ 3 _ _ (0, 0) hrq
      have zf3 : W4.frozen? ⟨b2, 3, none⟩ = false := Row.frozen hrq 3
      have z4 : W4.cell? ⟨b2, 4, none⟩ = some (.string ⟨#[]⟩) := cell_of_row W4 _ 4 _ _ (0, 0) hrq
      have zf4 : W4.frozen? ⟨b2, 4, none⟩ = false := Row.frozen hrq 4
      clear hrq
      go_wp2
      refine bodyPost_ret (ev_end rfl _ _ b2 _ rfl (put5H_row H4.out.2.1 (.int .i64 0) (.int .i64 0) (.bool false) (.int .i64 0) (.string ⟨#[]⟩)) rfl) rfl ?_
      refine ⟨by rw [HV.out.1]; rfl, F, ?_⟩
      obtain ⟨m1, m2, m3⟩ := keeps_moves (put5H_keeps W4 b2 (.int .i64 0) (.int .i64 0) (.bool false) (.int .i64 0) (.string ⟨#[]⟩)) HB.out.2 (by rw [HB.out.1]; exact Nat.le_refl _) (Moves.of_below (F := F) H4.out.1) H4.out.2.2.1.old
      rw [HV.out.2]
      exact ⟨⟨x, v, ow, H4.out.2.2.1.same m2 m3, HX.out.2.1⟩, m1⟩
  | some y =>
  obtain ⟨hd, n⟩ := y
  have hnn := HND.out.2 hd n hrh
  obtain ⟨hn2, hnl, -⟩ := head_app hrh
  have hfw := head_few16 hrh
  have hm0 := may_parts hd st.masked
  have hri : ∀ W, Calls Try.prog 36 #[.agg (hdC hd)] W fun e w' => e = .returned (.bool (rightB hd)) ∧ Below W.heap.size W w' := fun W => wright16_any hd hfw.2.2 W
  have HRH : Hid (∀ W, Calls Try.prog 35 #[S T14] W fun e w' => e = .returned (.tuple #[.agg (hdC hd), .int .i64 (n : Int), .bool true]) ∧ Below W.heap.size W w') := Lib.hid fun W => by
    have := HRH.out W
    rw [hrh] at this
    exact this
  have hmr : rightB hd = true → hd.len < 9223372036854775808 := fun h => by
    by_cases hl : 9223372036854775807 < hd.len
    · rw [right_no3 hl] at h; cases h
    · omega
  obtain ⟨EB, hEB⟩ : ∃ e, e = beginE hd := ⟨_, rfl⟩
  have hev : evV EB = .agg #[.int .i64 1, .int .i64 (hd.op : Int), .bool hd.fin, .int .i64 (hd.len : Int), .string ⟨#[]⟩] := by rw [hEB]; rfl
  obtain ⟨RB, hRB⟩ : ∃ R, R = rightB hd := ⟨_, rfl⟩
  rw [show mayF hd hd.masked = RB from hRB.symm] at hm0
  rw [← hRB] at hri hmr
  rw [← hEB] at hnn
  clear hEB hRB hrh HND
  obtain ⟨fin, rsv, op, m, ⟨k0K, k1, k2, k3⟩, len, least⟩ := hd
  unfold hdC at hri HRH
  dsimp only at *
  have HRI := Lib.hid hri
  have HN := Lib.hid (And.intro hn2 (And.intro hnl hfw))
  have HNN := Lib.hid (And.intro hnn (And.intro hm0 (And.intro hmr hev)))
  clear hri hn2 hnl hfw hnn hm0 hmr hev
  go_enter Try.func33, Try.ntmps33
  go_upto_region 1 with fail
  go_cut [4, 5, 6] (fun s4 s5 s6 wx => ∃ b4, s4 = .pointer (some ⟨b4, 0, none⟩) ∧ s5 = .int .i64 (n : Int) ∧ s6 = .bool true ∧ Hid (Below w.heap.size w wx ∧ Row wx b2 #[.int .i64 0, .int .i64 0, .bool false, .int .i64 0, .string ⟨#[]⟩] 29 ∧ HrdAt wx F g st.buf x v ow ∧ Row wx b4 #[.bool fin, .int .i64 (rsv : Int), .int .i64 (op : Int), .bool m, B k0K, B k1, B k2, B k3, .int .u64 (len : Int), .bool least] 74 ∧ b2 ≠ b4 ∧ ∀ k, F k → k ≠ b4))
  case first =>
    rw [← hW1]
    clear hW1
    refine wp_region_noPanic ?_
    refine wp_region_held_drew (S := fun wx => wx.cell? ⟨g, 1, none⟩ = some v ∧ WaitO wx v ow st.buf) (by kernel_rfl) (by rw [← hWq]; exact hSQ) (fun _ => ?_)
    rw [← hWq]
    clear hWq
    refine take_at (i := 0) (d := some 8) (v := .pointer (some ⟨g, 0, none⟩)) rfl (by kernel_rfl) (by kernel_rfl) (by kernel_rfl) (fun _ _ _ h => h) (fun oi ho => ?_) hSQ ?_
    · obtain rfl := Option.some.inj ho
      exact Or.inl ⟨by rfl, fun wx ⟨hSa, hSb⟩ => by go_simp⟩
    simp only [Act.put, List.setIfInBounds_toArray, List.set_cons_zero, List.set_cons_succ]
    refine take_at (i := 1) (d := some 9) (v := .pointer (some ⟨g, 0, none⟩)) rfl (by kernel_rfl) (by kernel_rfl) (by kernel_rfl) (fun _ _ _ h => h) (fun oi ho => ?_) hSQ ?_
    · obtain rfl := Option.some.inj ho
      exact Or.inl ⟨by rfl, fun wx ⟨hSa, hSb⟩ => by go_simp⟩
    simp only [Act.put, List.setIfInBounds_toArray, List.set_cons_zero, List.set_cons_succ]
    refine take_at (i := 2) (d := some 10) (v := .pointer (some ⟨g, 1, none⟩)) rfl (by kernel_rfl) (by kernel_rfl) (by kernel_rfl) (fun _ _ _ h => h) (fun oi ho => ?_) hSQ ?_
    · obtain rfl := Option.some.inj ho
      exact Or.inl ⟨by rfl, fun wx ⟨hSa, hSb⟩ => by go_simp⟩
    simp only [Act.put, List.setIfInBounds_toArray, List.set_cons_zero, List.set_cons_succ]
    refine take_at (i := 3) (d := some 11) (v := v) rfl (by kernel_rfl) (by kernel_rfl) (by kernel_rfl) (fun _ _ _ h => h) (fun oi ho => ?_) hSQ ?_
    · obtain rfl := Option.some.inj ho
      exact Or.inl ⟨by rfl, fun wx ⟨hSa, hSb⟩ => by go_simp⟩
    simp only [Act.put, List.setIfInBounds_toArray, List.set_cons_zero, List.set_cons_succ]
    refine take_at (i := 4) (d := some 12) (v := .pointer (some ⟨g, 0, none⟩)) rfl (by kernel_rfl) (by kernel_rfl) (by kernel_rfl) (fun _ _ _ h => h) (fun oi ho => ?_) hSQ ?_
    · obtain rfl := Option.some.inj ho
      exact Or.inl ⟨by rfl, fun wx ⟨hSa, hSb⟩ => by go_simp⟩
    simp only [Act.put, List.setIfInBounds_toArray, List.set_cons_zero, List.set_cons_succ]
    refine take_at (i := 5) (d := some 13) (v := .pointer (some ⟨g, 0, none⟩)) rfl (by kernel_rfl) (by kernel_rfl) (by kernel_rfl) (fun _ _ _ h => h) (fun oi ho => ?_) hSQ ?_
    · obtain rfl := Option.some.inj ho
      exact Or.inl ⟨by rfl, fun wx ⟨hSa, hSb⟩ => by go_simp⟩
    simp only [Act.put, List.setIfInBounds_toArray, List.set_cons_zero, List.set_cons_succ]
    refine take_at (i := 6) (d := some 14) (v := .pointer (some ⟨g, 1, none⟩)) rfl (by kernel_rfl) (by kernel_rfl) (by kernel_rfl) (fun _ _ _ h => h) (fun oi ho => ?_) hSQ ?_
    · obtain rfl := Option.some.inj ho
      exact Or.inl ⟨by rfl, fun wx ⟨hSa, hSb⟩ => by go_simp⟩
    simp only [Act.put, List.setIfInBounds_toArray, List.set_cons_zero, List.set_cons_succ]
    refine take_at (i := 7) (d := some 15) (v := v) rfl (by kernel_rfl) (by kernel_rfl) (by kernel_rfl) (fun _ _ _ h => h) (fun oi ho => ?_) hSQ ?_
    · obtain rfl := Option.some.inj ho
      exact Or.inl ⟨by rfl, fun wx ⟨hSa, hSb⟩ => by go_simp⟩
    simp only [Act.put, List.setIfInBounds_toArray, List.set_cons_zero, List.set_cons_succ]
    refine take_at (i := 8) (d := some 16) (v := .int .i64 (L : Int)) rfl (by kernel_rfl) (by kernel_rfl) (by kernel_rfl) (fun _ _ _ h => h) (fun oi ho => ?_) hSQ ?_
    · obtain rfl := Option.some.inj ho
      exact Or.inl ⟨by rfl, fun wx ⟨hSa, hSb⟩ => by go_simp⟩
    simp only [Act.put, List.setIfInBounds_toArray, List.set_cons_zero, List.set_cons_succ]
    refine take_at (i := 9) (d := some 17) (v := .int .i64 (k0 : Int)) rfl (by kernel_rfl) (by kernel_rfl) (by kernel_rfl) (fun _ _ _ h => h) (fun oi ho => ?_) hSQ ?_
    · obtain rfl := Option.some.inj ho
      exact Or.inl ⟨by rfl, fun wx ⟨hSa, hSb⟩ => by go_simp⟩
    simp only [Act.put, List.setIfInBounds_toArray, List.set_cons_zero, List.set_cons_succ]
    refine take_at (i := 10) (d := some 18) (v := V') rfl (by kernel_rfl) (by kernel_rfl) (by kernel_rfl) (fun _ _ _ h => h) (fun oi ho => ?_) hSQ ?_
    · obtain rfl := Option.some.inj ho
      exact Or.inl ⟨by rfl, fun wx ⟨hSa, hSb⟩ => by go_simp⟩
    simp only [Act.put, List.setIfInBounds_toArray, List.set_cons_zero, List.set_cons_succ]
    refine take_at (i := 11) (d := some 19) (v := S T14) rfl (by kernel_rfl) (by kernel_rfl) (by kernel_rfl) (fun _ _ _ h => h) (fun oi ho => ?_) hSQ ?_
    · obtain rfl := Option.some.inj ho
      exact Or.inl ⟨by rfl, fun wx hSw => by have ht := (HVV.out wx hSw.2).text; go_simp⟩
    simp only [Act.put, List.setIfInBounds_toArray, List.set_cons_zero, List.set_cons_succ]
    obtain ⟨W1, hW1⟩ : ∃ W, W = Wq.alloc (.cells #[.bool false, .int .i64 0, .int .i64 0, .bool false, .int .u8 0, .int .u8 0, .int .u8 0, .int .u8 0, .int .u64 0, .bool false] 74) := ⟨_, rfl⟩
    obtain ⟨b1, hb1⟩ : ∃ b, b = Wq.heap.size := ⟨_, rfl⟩
    have hB1 : Below Wq.heap.size Wq W1 := by rw [hW1]; exact (Below.refl _ Wq).alloc (Nat.le_refl _) _
    have hS1 : W1.cell? ⟨g, 1, none⟩ = some v ∧ WaitO W1 v ow st.buf := ⟨by rw [hB1.cell (World.block_lt_of_cell? Wq _ hSQ.1)]; exact hSQ.1, hSQ.2.below hB1⟩
    have hr1 : Row W1 b1 #[.bool false, .int .i64 0, .int .i64 0, .bool false, .int .u8 0, .int .u8 0, .int .u8 0, .int .u8 0, .int .u64 0, .bool false] 74 := by rw [hW1, hb1]; exact row_new Wq _ _
    refine ready_call_or_made16 (i := 12) (j := 17) (di := some 20) (dj := some 4) (vj := .pointer (some ⟨b1, 0, none⟩)) (w1 := W1) (f := 35) (args := #[S T14]) rfl rfl (by kernel_rfl) (fun oi ho => ?_) (fun oi ho => ?_) hS1 ?_ ?_
    · obtain rfl := Option.some.inj ho
      exact ⟨by rfl, by go_simp⟩
    · obtain rfl := Option.some.inj ho
      exact ⟨by rfl, by rw [hW1, hb1]; go_simp⟩
    · refine (HRH.out Wq).mono ?_
      rintro e W2 ⟨rfl, hB2⟩
      have hS2 : W2.cell? ⟨g, 1, none⟩ = some v ∧ WaitO W2 v ow st.buf := ⟨by rw [hB2.cell (World.block_lt_of_cell? Wq _ hSQ.1)]; exact hSQ.1, hSQ.2.below hB2⟩
      refine ⟨_, rfl, hS2, ?_⟩
      simp only [Act.put, List.setIfInBounds_toArray, List.set_cons_zero, List.set_cons_succ]
      refine take_at (i := 13) (d := some 7) (v := .tuple #[.agg #[.bool fin, .int .i64 (rsv : Int), .int .i64 (op : Int), .bool m, B k0K, B k1, B k2, B k3, .int .u64 (len : Int), .bool least], .int .i64 (n : Int), .bool true]) rfl (by kernel_rfl) (by kernel_rfl) (by kernel_rfl) (fun _ _ _ h => h) (fun oi ho => ?_) hS2 ?_
      · obtain rfl := Option.some.inj ho
        exact Or.inl ⟨by rfl, fun wx hSw => by go_simp⟩
      simp only [Act.put, List.setIfInBounds_toArray, List.set_cons_zero, List.set_cons_succ]
      refine take_at (i := 14) (d := some 21) (v := .agg #[.bool fin, .int .i64 (rsv : Int), .int .i64 (op : Int), .bool m, B k0K, B k1, B k2, B k3, .int .u64 (len : Int), .bool least]) rfl (by kernel_rfl) (by kernel_rfl) (by kernel_rfl) (fun _ _ _ h => h) (fun oi ho => ?_) hS2 ?_
      · obtain rfl := Option.some.inj ho
        exact Or.inl ⟨by rfl, fun wx hSw => by go_simp⟩
      simp only [Act.put, List.setIfInBounds_toArray, List.set_cons_zero, List.set_cons_succ]
      refine take_at (i := 15) (d := some 22) (v := .int .i64 (n : Int)) rfl (by kernel_rfl) (by kernel_rfl) (by kernel_rfl) (fun _ _ _ h => h) (fun oi ho => ?_) hS2 ?_
      · obtain rfl := Option.some.inj ho
        exact Or.inl ⟨by rfl, fun wx hSw => by go_simp⟩
      simp only [Act.put, List.setIfInBounds_toArray, List.set_cons_zero, List.set_cons_succ]
      refine take_at (i := 16) (d := some 23) (v := .bool true) rfl (by kernel_rfl) (by kernel_rfl) (by kernel_rfl) (fun _ _ _ h => h) (fun oi ho => ?_) hS2 ?_
      · obtain rfl := Option.some.inj ho
        exact Or.inl ⟨by rfl, fun wx hSw => by go_simp⟩
      simp only [Act.put, List.setIfInBounds_toArray, List.set_cons_zero, List.set_cons_succ]
      clear hW1 hb1 hB1 hS1 hr1
      obtain ⟨W3, hW3⟩ : ∃ W, W = W2.alloc (.cells #[.bool false, .int .i64 0, .int .i64 0, .bool false, .int .u8 0, .int .u8 0, .int .u8 0, .int .u8 0, .int .u64 0, .bool false] 74) := ⟨_, rfl⟩
      obtain ⟨b4, hb4⟩ : ∃ b, b = W2.heap.size := ⟨_, rfl⟩
      have hB23 : Below W2.heap.size W2 W3 := by rw [hW3]; exact (Below.refl _ W2).alloc (Nat.le_refl _) _
      have hBq3 : Below Wq.heap.size Wq W3 := hB2.trans (hB23.mono hB2.size)
      have hS3 : W3.cell? ⟨g, 1, none⟩ = some v ∧ WaitO W3 v ow st.buf := ⟨by rw [hBq3.cell (World.block_lt_of_cell? Wq _ hSQ.1)]; exact hSQ.1, hSQ.2.below hBq3⟩
      have hr3 : Row W3 b4 #[.bool false, .int .i64 0, .int .i64 0, .bool false, .int .u8 0, .int .u8 0, .int .u8 0, .int .u8 0, .int .u64 0, .bool false] 74 := by rw [hW3, hb4]; exact row_new W2 _ _
      refine ready_value (i := 17) (d := some 4) (v := .pointer (some ⟨b4, 0, none⟩)) (w' := W3) rfl (by kernel_rfl) (fun oi ho => ?_) hS3 ?_
      · obtain rfl := Option.some.inj ho
        exact ⟨by rfl, by rw [hW3, hb4]; go_simp⟩
      simp only [Act.put, List.setIfInBounds_toArray, List.set_cons_zero, List.set_cons_succ]
      have hle : Wq.heap.size ≤ b4 := by rw [hb4]; exact hB2.size
      clear hW3 hb4 hB23 hB2 hS2
      have hB3 : Below w.heap.size w W3 := HQ.out.1.trans (hBq3.mono HQ.out.1.size)
      have hle4 : w.heap.size ≤ b4 := Nat.le_trans HQ.out.1.size hle
      have hA3 := HQ.out.2.2.below hBq3
      have hq3 := HQ.out.2.1.below hBq3 HQ.out.2.1.lt
      have hne : b2 ≠ b4 := by have := HQ.out.2.1.lt; omega
      have hFb : ∀ k, F k → k ≠ b4 := fun k hk => by have := HQ.out.2.2.old k hk; omega
      have hst := run_storeVar_row (P := Try.prog) W3 b4 74 74 _ #[.bool fin, .int .i64 (rsv : Int), .int .i64 (op : Int), .bool m, B k0K, B k1, B k2, B k3, .int .u64 (len : Int), .bool least] hr3 (by rw [infoHdW]; rfl) rfl (by simp [Value.oneCell', B])
      obtain ⟨W4, hW4⟩ : ∃ W, W = W3.setRow b4 #[.bool fin, .int .i64 (rsv : Int), .int .i64 (op : Int), .bool m, B k0K, B k1, B k2, B k3, .int .u64 (len : Int), .bool least] := ⟨_, rfl⟩
      rw [← hW4] at hst
      have hr4 : Row W4 b4 #[.bool fin, .int .i64 (rsv : Int), .int .i64 (op : Int), .bool m, B k0K, B k1, B k2, B k3, .int .u64 (len : Int), .bool least] 74 := by rw [hW4]; exact setRow_heap W3 b4 _ _ 74 _ hr3
      have hk4 : Keeps b4 W3 W4 := by rw [hW4]; exact Keeps.setRow _ _
      have hA4 : HrdAt W4 F g st.buf x v ow := hA3.same hk4.size fun k hk => hk4.block k (hA3.old k hk) (hFb k hk)
      have hS4 : W4.cell? ⟨g, 1, none⟩ = some v ∧ WaitO W4 v ow st.buf := ⟨hA4.cells.1.2.1, hA4.wait⟩
      refine ready_skip (i := 18) (d := none) (w' := W4) rfl (by kernel_rfl) (fun oi ho => ?_) hS4 ?_
      · obtain rfl := Option.some.inj ho
        exact ⟨by rfl, exec_store_by _ _ _ rfl _ rfl rfl hst⟩
      simp only [Act.put]
      refine take_at (i := 19) (d := some 5) (v := .int .i64 (n : Int)) rfl (by kernel_rfl) (by kernel_rfl) (by kernel_rfl) (fun _ _ _ h => h) (fun oi ho => ?_) hS4 ?_
      · obtain rfl := Option.some.inj ho
        exact Or.inl ⟨by rfl, fun wx hSw => by go_simp⟩
      simp only [Act.put, List.setIfInBounds_toArray, List.set_cons_zero, List.set_cons_succ]
      refine take_at (i := 20) (d := some 6) (v := .bool true) rfl (by kernel_rfl) (by kernel_rfl) (by kernel_rfl) (fun _ _ _ h => h) (fun oi ho => ?_) hS4 ?_
      · obtain rfl := Option.some.inj ho
        exact Or.inl ⟨by rfl, fun wx hSw => by go_simp⟩
      simp only [Act.put, List.setIfInBounds_toArray, List.set_cons_zero, List.set_cons_succ]
      refine wpAnyH_done (by kernel_rfl) ?_ _
      refine NoPanic.normal ?_
      try simp only [Act.put]
      have H4 : Hid (Below w.heap.size w W4 ∧ Row W4 b2 #[.int .i64 0, .int .i64 0, .bool false, .int .i64 0, .string ⟨#[]⟩] 29 ∧ HrdAt W4 F g st.buf x v ow ∧ Row W4 b4 #[.bool fin, .int .i64 (rsv : Int), .int .i64 (op : Int), .bool m, B k0K, B k1, B k2, B k3, .int .u64 (len : Int), .bool least] 74 ∧ b2 ≠ b4 ∧ ∀ k, F k → k ≠ b4) := Lib.hid ⟨hB3.trans (hk4.below hB3.size hle4), hq3.keeps hk4 hne, hA4, hr4, hne, hFb⟩
      go_wp2
      go_meet
      exact ⟨b4, rfl, rfl, rfl, H4⟩
    · clear hW1
      simp only [Act.put, List.setIfInBounds_toArray, List.set_cons_zero, List.set_cons_succ]
      refine ready_call (i := 12) (d := some 20) (f := 35) (args := #[S T14]) rfl (by kernel_rfl) (fun oi ho => ?_) ?_
      · obtain rfl := Option.some.inj ho
        exact ⟨by rfl, by go_simp⟩
      refine (HRH.out W1).mono ?_
      rintro e W3 ⟨rfl, hB2⟩
      have hBq3 : Below Wq.heap.size Wq W3 := hB1.trans (hB2.mono hB1.size)
      have hS2 : W3.cell? ⟨g, 1, none⟩ = some v ∧ WaitO W3 v ow st.buf := ⟨by rw [hBq3.cell (World.block_lt_of_cell? Wq _ hSQ.1)]; exact hSQ.1, hSQ.2.below hBq3⟩
      have hS3 := hS2
      have hr3 := hr1.below hB2 hr1.lt
      refine ⟨_, rfl, hS2, ?_⟩
      simp only [Act.put, List.setIfInBounds_toArray, List.set_cons_zero, List.set_cons_succ]
      refine take_at (i := 13) (d := some 7) (v := .tuple #[.agg #[.bool fin, .int .i64 (rsv : Int), .int .i64 (op : Int), .bool m, B k0K, B k1, B k2, B k3, .int .u64 (len : Int), .bool least], .int .i64 (n : Int), .bool true]) rfl (by kernel_rfl) (by kernel_rfl) (by kernel_rfl) (fun _ _ _ h => h) (fun oi ho => ?_) hS2 ?_
      · obtain rfl := Option.some.inj ho
        exact Or.inl ⟨by rfl, fun wx hSw => by go_simp⟩
      simp only [Act.put, List.setIfInBounds_toArray, List.set_cons_zero, List.set_cons_succ]
      refine take_at (i := 14) (d := some 21) (v := .agg #[.bool fin, .int .i64 (rsv : Int), .int .i64 (op : Int), .bool m, B k0K, B k1, B k2, B k3, .int .u64 (len : Int), .bool least]) rfl (by kernel_rfl) (by kernel_rfl) (by kernel_rfl) (fun _ _ _ h => h) (fun oi ho => ?_) hS2 ?_
      · obtain rfl := Option.some.inj ho
        exact Or.inl ⟨by rfl, fun wx hSw => by go_simp⟩
      simp only [Act.put, List.setIfInBounds_toArray, List.set_cons_zero, List.set_cons_succ]
      refine take_at (i := 15) (d := some 22) (v := .int .i64 (n : Int)) rfl (by kernel_rfl) (by kernel_rfl) (by kernel_rfl) (fun _ _ _ h => h) (fun oi ho => ?_) hS2 ?_
      · obtain rfl := Option.some.inj ho
        exact Or.inl ⟨by rfl, fun wx hSw => by go_simp⟩
      simp only [Act.put, List.setIfInBounds_toArray, List.set_cons_zero, List.set_cons_succ]
      refine take_at (i := 16) (d := some 23) (v := .bool true) rfl (by kernel_rfl) (by kernel_rfl) (by kernel_rfl) (fun _ _ _ h => h) (fun oi ho => ?_) hS2 ?_
      · obtain rfl := Option.some.inj ho
        exact Or.inl ⟨by rfl, fun wx hSw => by go_simp⟩
      simp only [Act.put, List.setIfInBounds_toArray, List.set_cons_zero, List.set_cons_succ]
      have hle : Wq.heap.size ≤ b1 := by rw [hb1]; exact Nat.le_refl _
      obtain ⟨b4, hb4⟩ : ∃ b, b = b1 := ⟨_, rfl⟩
      subst hb4
      clear hb1 hB1 hS1 hr1 hB2 hS2
      have hB3 : Below w.heap.size w W3 := HQ.out.1.trans (hBq3.mono HQ.out.1.size)
      have hle4 : w.heap.size ≤ b4 := Nat.le_trans HQ.out.1.size hle
      have hA3 := HQ.out.2.2.below hBq3
      have hq3 := HQ.out.2.1.below hBq3 HQ.out.2.1.lt
      have hne : b2 ≠ b4 := by have := HQ.out.2.1.lt; omega
      have hFb : ∀ k, F k → k ≠ b4 := fun k hk => by have := HQ.out.2.2.old k hk; omega
      have hst := run_storeVar_row (P := Try.prog) W3 b4 74 74 _ #[.bool fin, .int .i64 (rsv : Int), .int .i64 (op : Int), .bool m, B k0K, B k1, B k2, B k3, .int .u64 (len : Int), .bool least] hr3 (by rw [infoHdW]; rfl) rfl (by simp [Value.oneCell', B])
      obtain ⟨W4, hW4⟩ : ∃ W, W = W3.setRow b4 #[.bool fin, .int .i64 (rsv : Int), .int .i64 (op : Int), .bool m, B k0K, B k1, B k2, B k3, .int .u64 (len : Int), .bool least] := ⟨_, rfl⟩
      rw [← hW4] at hst
      have hr4 : Row W4 b4 #[.bool fin, .int .i64 (rsv : Int), .int .i64 (op : Int), .bool m, B k0K, B k1, B k2, B k3, .int .u64 (len : Int), .bool least] 74 := by rw [hW4]; exact setRow_heap W3 b4 _ _ 74 _ hr3
      have hk4 : Keeps b4 W3 W4 := by rw [hW4]; exact Keeps.setRow _ _
      have hA4 : HrdAt W4 F g st.buf x v ow := hA3.same hk4.size fun k hk => hk4.block k (hA3.old k hk) (hFb k hk)
      have hS4 : W4.cell? ⟨g, 1, none⟩ = some v ∧ WaitO W4 v ow st.buf := ⟨hA4.cells.1.2.1, hA4.wait⟩
      refine ready_skip (i := 18) (d := none) (w' := W4) rfl (by kernel_rfl) (fun oi ho => ?_) hS4 ?_
      · obtain rfl := Option.some.inj ho
        exact ⟨by rfl, exec_store_by _ _ _ rfl _ rfl rfl hst⟩
      simp only [Act.put]
      refine take_at (i := 19) (d := some 5) (v := .int .i64 (n : Int)) rfl (by kernel_rfl) (by kernel_rfl) (by kernel_rfl) (fun _ _ _ h => h) (fun oi ho => ?_) hS4 ?_
      · obtain rfl := Option.some.inj ho
        exact Or.inl ⟨by rfl, fun wx hSw => by go_simp⟩
      simp only [Act.put, List.setIfInBounds_toArray, List.set_cons_zero, List.set_cons_succ]
      refine take_at (i := 20) (d := some 6) (v := .bool true) rfl (by kernel_rfl) (by kernel_rfl) (by kernel_rfl) (fun _ _ _ h => h) (fun oi ho => ?_) hS4 ?_
      · obtain rfl := Option.some.inj ho
        exact Or.inl ⟨by rfl, fun wx hSw => by go_simp⟩
      simp only [Act.put, List.setIfInBounds_toArray, List.set_cons_zero, List.set_cons_succ]
      refine wpAnyH_done (by kernel_rfl) ?_ _
      refine NoPanic.normal ?_
      try simp only [Act.put]
      have H4 : Hid (Below w.heap.size w W4 ∧ Row W4 b2 #[.int .i64 0, .int .i64 0, .bool false, .int .i64 0, .string ⟨#[]⟩] 29 ∧ HrdAt W4 F g st.buf x v ow ∧ Row W4 b4 #[.bool fin, .int .i64 (rsv : Int), .int .i64 (op : Int), .bool m, B k0K, B k1, B k2, B k3, .int .u64 (len : Int), .bool least] 74 ∧ b2 ≠ b4 ∧ ∀ k, F k → k ≠ b4) := Lib.hid ⟨hB3.trans (hk4.below hB3.size hle4), hq3.keeps hk4 hne, hA4, hr4, hne, hFb⟩
      go_wp2
      go_meet
      exact ⟨b4, rfl, rfl, rfl, H4⟩
  case rest =>
    obtain ⟨b4, rfl, rfl, rfl, H4⟩ := hcut
    rw [← hb2]
    clear hW1 hb2 hWq hSQ HQ HRH hlen hsl hmn
    obtain ⟨W4, hW4⟩ : ∃ W, W = wc := ⟨_, rfl⟩
    subst hW4
    have HMS : Hid (x.msk = st.masked) := Lib.hid HX.out.2.2.2
    have hc0 : W4.cell? ⟨g, 0, none⟩ = some (.bool x.msk) := H4.out.2.2.1.cells.1.1
    obtain ⟨XM, hXM⟩ : ∃ X, X = x.msk := ⟨_, rfl⟩
    rw [← hXM] at hc0 HMS
    have HXM := Lib.hid hXM
    clear hXM
    -- what ends in Fail
    have HFAIL : Hid (∀ (W5 : World), Below w.heap.size w W5 → Row W5 b2 #[.int .i64 0, .int .i64 0, .bool false, .int .i64 0, .string ⟨#[]⟩] 29 → HrdAt W5 F g st.buf x v ow → mayF ⟨fin, rsv, op, m, ⟨k0K, k1, k2, k3⟩, len, least⟩ st.masked = false →
        NextR F g st w (.returned (.tuple #[.agg #[.int .i64 4, .int .i64 0, .bool false, .int .i64 0, .string ⟨#[]⟩], .bool true])) (put5H (put9H W5 g (.bool false) (.slice none 0 0) (.int .i64 3) (.int .u8 0) (.int .u8 0) (.int .u8 0) (.int .u8 0) (.int .i64 0) (.int .i64 0)) b2 (.int .i64 4) (.int .i64 0) (.bool false) (.int .i64 0) (.string ⟨#[]⟩))) := Lib.hid fun W5 hB5 hr5 hA5 hm => by
      have hy := next_yes (HNN.out.1.2 hm)
      have h9 := put9H_keeps W5 g (.bool false) (.slice none 0 0) (.int .i64 3) (.int .u8 0) (.int .u8 0) (.int .u8 0) (.int .u8 0) (.int .i64 0) (.int .i64 0)
      have hr9 := put9H_row hA5.row (.bool false) (.slice none 0 0) (.int .i64 3) (.int .u8 0) (.int .u8 0) (.int .u8 0) (.int .u8 0) (.int .i64 0) (.int .i64 0)
      have hm9 : Moves F F w (put9H W5 g (.bool false) (.slice none 0 0) (.int .i64 3) (.int .u8 0) (.int .u8 0) (.int .u8 0) (.int .u8 0) (.int .i64 0) (.int .i64 0)) := (Moves.of_below hB5).trans (Moves.keeps16 h9 hA5.foot)
      have hA9 : HrdAt (put9H W5 g (.bool false) (.slice none 0 0) (.int .i64 3) (.int .u8 0) (.int .u8 0) (.int .u8 0) (.int .u8 0) (.int .i64 0) (.int .i64 0)) F g [] (hrd0 false 3) (.slice none 0 0) none :=
        ⟨hr9, .nil _, hA5.foot, fun k hk => (by cases hk), fun k hk => Nat.lt_of_lt_of_le (hA5.old k hk) h9.size⟩
      obtain ⟨m1, m2, m3⟩ := keeps_moves (put5H_keeps (put9H W5 g (.bool false) (.slice none 0 0) (.int .i64 3) (.int .u8 0) (.int .u8 0) (.int .u8 0) (.int .u8 0) (.int .i64 0) (.int .i64 0)) b2 (.int .i64 4) (.int .i64 0) (.bool false) (.int .i64 0) (.string ⟨#[]⟩)) HB.out.2 (by rw [HB.out.1]; exact Nat.le_refl _) hm9 hA9.old
      refine ⟨by rw [hy.1]; rfl, F, ?_, m1⟩
      rw [hy.2]
      exact ⟨hrd0 false 3, _, _, hA9.same m2 m3, Nat.zero_le _, fun _ => ⟨rfl, rfl⟩, fun e => by cases e⟩
    cases m with
    | false =>
      cases XM with
      | false =>
        have hr4 := H4.out.2.2.2.1
        have hr2 := H4.out.2.2.1.row
        have HR4 := Lib.hid hr4
        clear hr2
        go_wp2
        obtain ⟨Wr, hWr⟩ : ∃ Wr, Wr = W4.drew := ⟨_, rfl⟩
        have hSR : Row Wr b4 #[.bool fin, .int .i64 (rsv : Int), .int .i64 (op : Int), .bool false, B k0K, B k1, B k2, B k3, .int .u64 (len : Int), .bool least] 74 ∧ Wr.cell? ⟨g, 0, none⟩ = some (.bool false) := by rw [hWr]; exact ⟨hr4.drew, hc0⟩
        have HR : Hid (Below w.heap.size w Wr ∧ Row Wr b2 #[.int .i64 0, .int .i64 0, .bool false, .int .i64 0, .string ⟨#[]⟩] 29 ∧ HrdAt Wr F g st.buf x v ow) := Lib.hid (by rw [hWr]; exact ⟨H4.out.1.trans ⟨rfl, rfl, rfl, Nat.le_refl _, fun _ _ => rfl⟩, H4.out.2.1.drew, H4.out.2.2.1.drew⟩)
        refine wp_region_noPanic ?_
        refine wp_region_held_drew (S := fun wx => Row wx b4 #[.bool fin, .int .i64 (rsv : Int), .int .i64 (op : Int), .bool false, B k0K, B k1, B k2, B k3, .int .u64 (len : Int), .bool least] 74 ∧ wx.cell? ⟨g, 0, none⟩ = some (.bool false)) (by kernel_rfl) (by rw [← hWr]; exact hSR) (fun _ => ?_)
        rw [← hWr]
        clear hWr hc0 hr4
        refine take_at (i := 0) (d := some 27) (v := .pointer (some ⟨b4, 3, none⟩)) rfl (by kernel_rfl) (by kernel_rfl) (by kernel_rfl) (fun _ _ _ h => h) (fun oi ho => ?_) hSR ?_
        · obtain rfl := Option.some.inj ho
          exact Or.inl ⟨by rfl, fun wx hSw => by go_simp⟩
        simp only [Act.put, List.setIfInBounds_toArray, List.set_cons_zero, List.set_cons_succ]
        refine take_at (i := 1) (d := some 28) (v := .bool false) rfl (by kernel_rfl) (by kernel_rfl) (by kernel_rfl) (fun _ _ _ h => h) (fun oi ho => ?_) hSR ?_
        · obtain rfl := Option.some.inj ho
          exact Or.inl ⟨by rfl, fun wx hSw => by have c := cell_of_row wx b4 3 _ _ (0, 0) hSw.1; go_simp⟩
        simp only [Act.put, List.setIfInBounds_toArray, List.set_cons_zero, List.set_cons_succ]
        refine take_at (i := 2) (d := some 29) (v := .pointer (some ⟨g, 0, none⟩)) rfl (by kernel_rfl) (by kernel_rfl) (by kernel_rfl) (fun _ _ _ h => h) (fun oi ho => ?_) hSR ?_
        · obtain rfl := Option.some.inj ho
          exact Or.inl ⟨by rfl, fun wx hSw => by go_simp⟩
        simp only [Act.put, List.setIfInBounds_toArray, List.set_cons_zero, List.set_cons_succ]
        refine take_at (i := 3) (d := some 30) (v := .pointer (some ⟨g, 0, none⟩)) rfl (by kernel_rfl) (by kernel_rfl) (by kernel_rfl) (fun _ _ _ h => h) (fun oi ho => ?_) hSR ?_
        · obtain rfl := Option.some.inj ho
          exact Or.inl ⟨by rfl, fun wx hSw => by go_simp⟩
        simp only [Act.put, List.setIfInBounds_toArray, List.set_cons_zero, List.set_cons_succ]
        refine take_at (i := 4) (d := some 31) (v := .pointer (some ⟨g, 0, none⟩)) rfl (by kernel_rfl) (by kernel_rfl) (by kernel_rfl) (fun _ _ _ h => h) (fun oi ho => ?_) hSR ?_
        · obtain rfl := Option.some.inj ho
          exact Or.inl ⟨by rfl, fun wx hSw => by go_simp⟩
        simp only [Act.put, List.setIfInBounds_toArray, List.set_cons_zero, List.set_cons_succ]
        refine take_at (i := 5) (d := some 32) (v := .bool false) rfl (by kernel_rfl) (by kernel_rfl) (by kernel_rfl) (fun _ _ _ h => h) (fun oi ho => ?_) hSR ?_
        · obtain rfl := Option.some.inj ho
          exact Or.inl ⟨by rfl, fun wx hSw => by have c := hSw.2; go_simp⟩
        simp only [Act.put, List.setIfInBounds_toArray, List.set_cons_zero, List.set_cons_succ]
        refine take_at (i := 6) (d := some 33) (v := .bool false) rfl (by kernel_rfl) (by kernel_rfl) (by kernel_rfl) (fun _ _ _ h => h) (fun oi ho => ?_) hSR ?_
        · obtain rfl := Option.some.inj ho
          exact Or.inl ⟨by rfl, fun wx hSw => by go_simp⟩
        simp only [Act.put, List.setIfInBounds_toArray, List.set_cons_zero, List.set_cons_succ]
        refine take_at (i := 7) (d := some 34) (v := .bool false) rfl (by kernel_rfl) (by kernel_rfl) (by kernel_rfl) (fun _ _ _ h => h) (fun oi ho => ?_) hSR ?_
        · obtain rfl := Option.some.inj ho
          exact Or.inl ⟨by rfl, fun wx hSw => by go_simp⟩
        simp only [Act.put, List.setIfInBounds_toArray, List.set_cons_zero, List.set_cons_succ]
        refine take_at (i := 8) (d := some 35) (v := .agg #[.bool fin, .int .i64 (rsv : Int), .int .i64 (op : Int), .bool false, B k0K, B k1, B k2, B k3, .int .u64 (len : Int), .bool least]) rfl (by kernel_rfl) (by kernel_rfl) (by kernel_rfl) (fun _ _ _ h => h) (fun oi ho => ?_) hSR ?_
        · obtain rfl := Option.some.inj ho
          exact Or.inl ⟨by rfl, fun wx hSw => exec_load_mid 74 (.tmp 4) rfl b4 0 rfl (#[.bool fin, .int .i64 (rsv : Int), .int .i64 (op : Int), .bool false, B k0K, B k1, B k2, B k3, .int .u64 (len : Int), .bool least] : Array Value).toList _ (row_range16 hSw.1) Try.underlying74 rfl (by rw [infoHdW]; rfl)⟩
        simp only [Act.put, List.setIfInBounds_toArray, List.set_cons_zero, List.set_cons_succ]
        refine ready_call (i := 9) (d := some 36) (f := 36) (args := #[.agg #[.bool fin, .int .i64 (rsv : Int), .int .i64 (op : Int), .bool false, B k0K, B k1, B k2, B k3, .int .u64 (len : Int), .bool least]]) rfl (by kernel_rfl) (fun oi ho => ?_) ?_
        · obtain rfl := Option.some.inj ho
          exact ⟨by rfl, by go_simp⟩
        refine (HRI.out Wr).mono ?_
        rintro e W5 ⟨rfl, hB5⟩
        have hS5 : Row W5 b4 #[.bool fin, .int .i64 (rsv : Int), .int .i64 (op : Int), .bool false, B k0K, B k1, B k2, B k3, .int .u64 (len : Int), .bool least] 74 ∧ W5.cell? ⟨g, 0, none⟩ = some (.bool false) := ⟨hSR.1.below hB5 hSR.1.lt, by rw [hB5.cell (World.block_lt_of_cell? Wr _ hSR.2)]; exact hSR.2⟩
        have H5 : Hid (Below w.heap.size w W5 ∧ Row W5 b2 #[.int .i64 0, .int .i64 0, .bool false, .int .i64 0, .string ⟨#[]⟩] 29 ∧ HrdAt W5 F g st.buf x v ow) := Lib.hid ⟨HR.out.1.trans (hB5.mono HR.out.1.size), HR.out.2.1.below hB5 HR.out.2.1.lt, HR.out.2.2.below hB5⟩
        clear hB5 HR hSR
        refine ⟨_, rfl, hS5, ?_⟩
        simp only [Act.put, List.setIfInBounds_toArray, List.set_cons_zero, List.set_cons_succ]
        cases RB with
        | false =>
          refine take_at (i := 10) (d := some 37) (v := .bool true) rfl (by kernel_rfl) (by kernel_rfl) (by kernel_rfl) (fun _ _ _ h => h) (fun oi ho => ?_) hS5 ?_
          · obtain rfl := Option.some.inj ho
            exact Or.inl ⟨by rfl, fun wx hSw => by go_simp⟩
          simp only [Act.put, List.setIfInBounds_toArray, List.set_cons_zero, List.set_cons_succ]
          refine take_at (i := 11) (d := some 38) (v := .bool true) rfl (by kernel_rfl) (by kernel_rfl) (by kernel_rfl) (fun _ _ _ h => h) (fun oi ho => ?_) hS5 ?_
          · obtain rfl := Option.some.inj ho
            exact Or.inl ⟨by rfl, fun wx hSw => by go_simp⟩
          simp only [Act.put, List.setIfInBounds_toArray, List.set_cons_zero, List.set_cons_succ]
          refine wpAnyH_done (by kernel_rfl) ?_ _
          refine NoPanic.normal ?_
          try simp only [Act.put]
          have HMF : Hid (mayF ⟨fin, rsv, op, false, ⟨k0K, k1, k2, k3⟩, len, least⟩ st.masked = false) := Lib.hid (by rw [HNN.out.2.1]; simp)
          clear hS5
          have hrq := H5.out.2.1
          have hrg := H5.out.2.2.row
          unfold hrdC at hrg
          rw [← HXM.out] at hrg
          have hgb : g ≠ b2 := HB.out.2 g H5.out.2.2.foot
          have hr9 := put9H_keeps W5 g (.bool false) (.slice none 0 0) (.int .i64 3) (.int .u8 0) (.int .u8 0) (.int .u8 0) (.int .u8 0) (.int .i64 0) (.int .i64 0)
          have hrq9 := hrq.keeps hr9 (Ne.symm hgb)
          unfold put9H at hrq9
          have y0 : W5.cell? ⟨g, 0, none⟩ = some (.bool false) := cell_of_row W5 _ 0 _ _ (0, 0) hrg
          have yf0 : W5.frozen? ⟨g, 0, none⟩ = false := Row.frozen hrg 0
          have y1 : W5.cell? ⟨g, 1, none⟩ = some (v) := cell_of_row W5 _ 1 _ _ (0, 0) hrg
          have yf1 : W5.frozen? ⟨g, 1, none⟩ = false := Row.frozen hrg 1
          have y2 : W5.cell? ⟨g, 2, none⟩ = some (.int .i64 (x.nx : Int)) := cell_of_row W5 _ 2 _ _ (0, 0) hrg
          have yf2 : W5.frozen? ⟨g, 2, none⟩ = false := Row.frozen hrg 2
          have y3 : W5.cell? ⟨g, 3, none⟩ = some (B x.key.k0) := cell_of_row W5 _ 3 _ _ (0, 0) hrg
          have yf3 : W5.frozen? ⟨g, 3, none⟩ = false := Row.frozen hrg 3
          have y4 : W5.cell? ⟨g, 4, none⟩ = some (B x.key.k1) := cell_of_row W5 _ 4 _ _ (0, 0) hrg
          have yf4 : W5.frozen? ⟨g, 4, none⟩ = false := Row.frozen hrg 4
          have y5 : W5.cell? ⟨g, 5, none⟩ = some (B x.key.k2) := cell_of_row W5 _ 5 _ _ (0, 0) hrg
          have yf5 : W5.frozen? ⟨g, 5, none⟩ = false := Row.frozen hrg 5
          have y6 : W5.cell? ⟨g, 6, none⟩ = some (B x.key.k3) := cell_of_row W5 _ 6 _ _ (0, 0) hrg
          have yf6 : W5.frozen? ⟨g, 6, none⟩ = false := Row.frozen hrg 6
          have y7 : W5.cell? ⟨g, 7, none⟩ = some (.int .i64 (x.told : Int)) := cell_of_row W5 _ 7 _ _ (0, 0) hrg
          have yf7 : W5.frozen? ⟨g, 7, none⟩ = false := Row.frozen hrg 7
          have y8 : W5.cell? ⟨g, 8, none⟩ = some (.int .i64 (x.lacks : Int)) := cell_of_row W5 _ 8 _ _ (0, 0) hrg
          have yf8 : W5.frozen? ⟨g, 8, none⟩ = false := Row.frozen hrg 8
          have z0 : (((((((((W5.setCell ⟨g, 0, none⟩ (.bool false)).setCell ⟨g, 1, none⟩ (.slice none 0 0)).setCell ⟨g, 2, none⟩ (.int .i64 3)).setCell ⟨g, 3, none⟩ (.int .u8 0)).setCell ⟨g, 4, none⟩ (.int .u8 0)).setCell ⟨g, 5, none⟩ (.int .u8 0)).setCell ⟨g, 6, none⟩ (.int .u8 0)).setCell ⟨g, 7, none⟩ (.int .i64 0)).setCell ⟨g, 8, none⟩ (.int .i64 0)).cell? ⟨b2, 0, none⟩ = some (.int .i64 0) := cell_of_row (((((((((W5.setCell ⟨g, 0, none⟩ (.bool false)).setCell ⟨g, 1, none⟩ (.slice none 0 0)).setCell ⟨g, 2, none⟩ (.int .i64 3)).setCell ⟨g, 3, none⟩ (.int .u8 0)).setCell ⟨g, 4, none⟩ (.int .u8 0)).setCell ⟨g, 5, none⟩ (.int .u8 0)).setCell ⟨g, 6, none⟩ (.int .u8 0)).setCell ⟨g, 7, none⟩ (.int .i64 0)).setCell ⟨g, 8, none⟩ (.int .i64 0)) _ 0 _ _ (0, 0) hrq9
          have zf0 : (((((((((W5.setCell ⟨g, 0, none⟩ (.bool false)).setCell ⟨g, 1, none⟩ (.slice none 0 0)).setCell ⟨g, 2, none⟩ (.int .i64 3)).setCell ⟨g, 3, none⟩ (.int .u8 0)).setCell ⟨g, 4, none⟩ (.int .u8 0)).setCell ⟨g, 5, none⟩ (.int .u8 0)).setCell ⟨g, 6, none⟩ (.int .u8 0)).setCell ⟨g, 7, none⟩ (.int .i64 0)).setCell ⟨g, 8, none⟩ (.int .i64 0)).frozen? ⟨b2, 0, none⟩ = false := Row.frozen hrq9 0
          have z1 : (((((((((W5.setCell ⟨g, 0, none⟩ (.bool false)).setCell ⟨g, 1, none⟩ (.slice none 0 0)).setCell ⟨g, 2, none⟩ (.int .i64 3)).setCell ⟨g, 3, none⟩ (.int .u8 0)).setCell ⟨g, 4, none⟩ (.int .u8 0)).setCell ⟨g, 5, none⟩ (.int .u8 0)).setCell ⟨g, 6, none⟩ (.int .u8 0)).setCell ⟨g, 7, none⟩ (.int .i64 0)).setCell ⟨g, 8, none⟩ (.int .i64 0)).cell? ⟨b2, 1, none⟩ = some (.int .i64 0) := cell_of_row (((((((((W5.setCell ⟨g, 0, none⟩ (.bool false)).setCell ⟨g, 1, none⟩ (.slice none 0 0)).setCell ⟨g, 2, none⟩ (.int .i64 3)).setCell ⟨g, 3, none⟩ (.int .u8 0)).setCell ⟨g, 4, none⟩ (.int .u8 0)).setCell ⟨g, 5, none⟩ (.int .u8 0)).setCell ⟨g, 6, none⟩ (.int .u8 0)).setCell ⟨g, 7, none⟩ (.int .i64 0)).setCell ⟨g, 8, none⟩ (.int .i64 0)) _ 1 _ _ (0, 0) hrq9
          have zf1 : (((((((((W5.setCell ⟨g, 0, none⟩ (.bool false)).setCell ⟨g, 1, none⟩ (.slice none 0 0)).setCell ⟨g, 2, none⟩ (.int .i64 3)).setCell ⟨g, 3, none⟩ (.int .u8 0)).setCell ⟨g, 4, none⟩ (.int .u8 0)).setCell ⟨g, 5, none⟩ (.int .u8 0)).setCell ⟨g, 6, none⟩ (.int .u8 0)).setCell ⟨g, 7, none⟩ (.int .i64 0)).setCell ⟨g, 8, none⟩ (.int .i64 0)).frozen? ⟨b2, 1, none⟩ = false := Row.frozen hrq9 1
          have z2 : (((((((((W5.setCell ⟨g, 0, none⟩ (.bool false)).setCell ⟨g, 1, none⟩ (.slice none 0 0)).setCell ⟨g, 2, none⟩ (.int .i64 3)).setCell ⟨g, 3, none⟩ (.int .u8 0)).setCell ⟨g, 4, none⟩ (.int .u8 0)).setCell ⟨g, 5, none⟩ (.int .u8 0)).setCell ⟨g, 6, none⟩ (.int .u8 0)).setCell ⟨g, 7, none⟩ (.int .i64 0)).setCell ⟨g, 8, none⟩ (.int .i64 0)).cell? ⟨b2, 2, none⟩ = some (.bool false) := cell_of_row (((((((((W5.setCell ⟨g, 0, none⟩ (.bool false)).setCell ⟨g, 1, none⟩ (.slice none 0 0)).setCell ⟨g, 2, none⟩ (.int .i64 3)).setCell ⟨g, 3, none⟩ (.int .u8 0)).setCell ⟨g, 4, none⟩ (.int .u8 0)).setCell ⟨g, 5, none⟩ (.int .u8 0)).setCell ⟨g, 6, none⟩ (.int .u8 0)).setCell ⟨g, 7, none⟩ (.int .i64 0)).setCell ⟨g, 8, none⟩ (.int .i64 0)) _ 2 _ _ (0, 0) hrq9
          have zf2 : (((((((((W5.setCell ⟨g, 0, none⟩ (.bool false)).setCell ⟨g, 1, none⟩ (.slice none 0 0)).setCell ⟨g, 2, none⟩ (.int .i64 3)).setCell ⟨g, 3, none⟩ (.int .u8 0)).setCell ⟨g, 4, none⟩ (.int .u8 0)).setCell ⟨g, 5, none⟩ (.int .u8 0)).setCell ⟨g, 6, none⟩ (.int .u8 0)).setCell ⟨g, 7, none⟩ (.int .i64 0)).setCell ⟨g, 8, none⟩ (.int .i64 0)).frozen? ⟨b2, 2, none⟩ = false := Row.frozen hrq9 2
          have z3 : (((((((((W5.setCell ⟨g, 0, none⟩ (.bool false)).setCell ⟨g, 1, none⟩ (.slice none 0 0)).setCell ⟨g, 2, none⟩ (.int .i64 3)).setCell ⟨g, 3, none⟩ (.int .u8 0)).setCell ⟨g, 4, none⟩ (.int .u8 0)).setCell ⟨g, 5, none⟩ (.int .u8 0)).setCell ⟨g, 6, none⟩ (.int .u8 0)).setCell ⟨g, 7, none⟩ (.int .i64 0)).setCell ⟨g, 8, none⟩ (.int .i64 0)).cell? ⟨b2, 3, none⟩ = some (.int .i64 0) := cell_of_row (((((((((W5.setCell ⟨g, 0, none⟩ (.bool false)).setCell ⟨g, 1, none⟩ (.slice none 0 0)).setCell ⟨g, 2, none⟩ (.int .i64 3)).setCell ⟨g, 3, none⟩ (.int .u8 0)).setCell ⟨g, 4, none⟩ (.int .u8 0)).setCell ⟨g, 5, none⟩ (.int .u8 0)).setCell ⟨g, 6, none⟩ (.int .u8 0)).setCell ⟨g, 7, none⟩ (.int .i64 0)).setCell ⟨g, 8, none⟩ (.int .i64 0)) _ 3 _ _ (0, 0) hrq9
          have zf3 : (((((((((W5.setCell ⟨g, 0, none⟩ (.bool false)).setCell ⟨g, 1, none⟩ (.slice none 0 0)).setCell ⟨g, 2, none⟩ (.int .i64 3)).setCell ⟨g, 3, none⟩ (.int .u8 0)).setCell ⟨g, 4, none⟩ (.int .u8 0)).setCell ⟨g, 5, none⟩ (.int .u8 0)).setCell ⟨g, 6, none⟩ (.int .u8 0)).setCell ⟨g, 7, none⟩ (.int .i64 0)).setCell ⟨g, 8, none⟩ (.int .i64 0)).frozen? ⟨b2, 3, none⟩ = false := Row.frozen hrq9 3
          have z4 : (((((((((W5.setCell ⟨g, 0, none⟩ (.bool false)).setCell ⟨g, 1, none⟩ (.slice none 0 0)).setCell ⟨g, 2, none⟩ (.int .i64 3)).setCell ⟨g, 3, none⟩ (.int .u8 0)).setCell ⟨g, 4, none⟩ (.int .u8 0)).setCell ⟨g, 5, none⟩ (.int .u8 0)).setCell ⟨g, 6, none⟩ (.int .u8 0)).setCell ⟨g, 7, none⟩ (.int .i64 0)).setCell ⟨g, 8, none⟩ (.int .i64 0)).cell? ⟨b2, 4, none⟩ = some (.string ⟨#[]⟩) := cell_of_row (((((((((W5.setCell ⟨g, 0, none⟩ (.bool false)).setCell ⟨g, 1, none⟩ (.slice none 0 0)).setCell ⟨g, 2, none⟩ (.int .i64 3)).setCell ⟨g, 3, none⟩ (.int .u8 0)).setCell ⟨g, 4, none⟩ (.int .u8 0)).setCell ⟨g, 5, none⟩ (.int .u8 0)).setCell ⟨g, 6, none⟩ (.int .u8 0)).setCell ⟨g, 7, none⟩ (.int .i64 0)).setCell ⟨g, 8, none⟩ (.int .i64 0)) _ 4 _ _ (0, 0) hrq9
          have zf4 : (((((((((W5.setCell ⟨g, 0, none⟩ (.bool false)).setCell ⟨g, 1, none⟩ (.slice none 0 0)).setCell ⟨g, 2, none⟩ (.int .i64 3)).setCell ⟨g, 3, none⟩ (.int .u8 0)).setCell ⟨g, 4, none⟩ (.int .u8 0)).setCell ⟨g, 5, none⟩ (.int .u8 0)).setCell ⟨g, 6, none⟩ (.int .u8 0)).setCell ⟨g, 7, none⟩ (.int .i64 0)).setCell ⟨g, 8, none⟩ (.int .i64 0)).frozen? ⟨b2, 4, none⟩ = false := Row.frozen hrq9 4
          clear hrq hrg hr9 hrq9 hgb
          go_wp2
          have hfin := HFAIL.out W5 H5.out.1 H5.out.2.1 H5.out.2.2 (HMF.out)
          have hrE := put5H_row (H5.out.2.1.keeps (put9H_keeps W5 g (.bool false) (.slice none 0 0) (.int .i64 3) (.int .u8 0) (.int .u8 0) (.int .u8 0) (.int .u8 0) (.int .i64 0) (.int .i64 0)) (Ne.symm (HB.out.2 g H5.out.2.2.foot))) (.int .i64 4) (.int .i64 0) (.bool false) (.int .i64 0) (.string ⟨#[]⟩)
          refine bodyPost_ret (ev_end rfl _ (put5H (put9H W5 g (.bool false) (.slice none 0 0) (.int .i64 3) (.int .u8 0) (.int .u8 0) (.int .u8 0) (.int .u8 0) (.int .i64 0) (.int .i64 0)) b2 (.int .i64 4) (.int .i64 0) (.bool false) (.int .i64 0) (.string ⟨#[]⟩)) b2 _ rfl hrE rfl) rfl ?_
          exact hfin
        | true =>
          refine take_at (i := 10) (d := some 37) (v := .bool false) rfl (by kernel_rfl) (by kernel_rfl) (by kernel_rfl) (fun _ _ _ h => h) (fun oi ho => ?_) hS5 ?_
          · obtain rfl := Option.some.inj ho
            exact Or.inl ⟨by rfl, fun wx hSw => by go_simp⟩
          simp only [Act.put, List.setIfInBounds_toArray, List.set_cons_zero, List.set_cons_succ]
          refine take_at (i := 11) (d := some 38) (v := .bool false) rfl (by kernel_rfl) (by kernel_rfl) (by kernel_rfl) (fun _ _ _ h => h) (fun oi ho => ?_) hS5 ?_
          · obtain rfl := Option.some.inj ho
            exact Or.inl ⟨by rfl, fun wx hSw => by go_simp⟩
          simp only [Act.put, List.setIfInBounds_toArray, List.set_cons_zero, List.set_cons_succ]
          refine wpAnyH_done (by kernel_rfl) ?_ _
          refine NoPanic.normal ?_
          try simp only [Act.put]
          have HMF : Hid (mayF ⟨fin, rsv, op, false, ⟨k0K, k1, k2, k3⟩, len, least⟩ st.masked = true) := Lib.hid (by rw [HNN.out.2.1, ← HMS.out]; rfl)
          have HY := Lib.hid (next_yes (HNN.out.1.1 HMF.out))
          have HR5 := Lib.hid (And.intro hS5.1 (fun e => H4.out.2.2.2.2.2 g H5.out.2.2.foot e.symm : b4 ≠ g))
          have HLN := Lib.hid (HNN.out.2.2.1 rfl)
          have HTK := Lib.hid (wtake16_any H5.out.2.2 n HN.out.2.1)
          clear hS5
          go_wp2_with fail
          refine HTK.out.mono ?_
          rintro e W6 ⟨rfl, ⟨v6, ow6, hA6⟩, hM6⟩
          have H6 : Hid (HrdAt W6 F g (st.buf.drop n) x v6 ow6 ∧ Moves F F w W6 ∧ Row W6 b2 #[.int .i64 0, .int .i64 0, .bool false, .int .i64 0, .string ⟨#[]⟩] 29 ∧ Row W6 b4 #[.bool fin, .int .i64 (rsv : Int), .int .i64 (op : Int), .bool false, B k0K, B k1, B k2, B k3, .int .u64 (len : Int), .bool least] 74) := Lib.hid ⟨hA6, (Moves.of_below H5.out.1).trans hM6, H5.out.2.1.moves hM6 (fun e => HB.out.2 b2 e rfl), HR5.out.1.moves hM6 (fun e => H4.out.2.2.2.2.2 b4 e rfl)⟩
          clear hA6 hM6 HTK
          go_wp2
          obtain ⟨Ws, hWs⟩ : ∃ Ws, Ws = W6.drew := ⟨_, rfl⟩
          have HS : Hid (HrdAt Ws F g (st.buf.drop n) x v6 ow6 ∧ Moves F F w Ws ∧ Row Ws b2 #[.int .i64 0, .int .i64 0, .bool false, .int .i64 0, .string ⟨#[]⟩] 29 ∧ Row Ws b4 #[.bool fin, .int .i64 (rsv : Int), .int .i64 (op : Int), .bool false, B k0K, B k1, B k2, B k3, .int .u64 (len : Int), .bool least] 74) := Lib.hid (by rw [hWs]; exact ⟨H6.out.1.drew, H6.out.2.1.trans (Moves.of_below ⟨rfl, rfl, rfl, Nat.le_refl _, fun _ _ => rfl⟩), H6.out.2.2.1.drew, H6.out.2.2.2.drew⟩)
          have hSS := HS.out.2.2.2
          have hcv : ∀ W, (convert 56 3 (.int .u64 (len : Int))).run Try.prog W = .ok (.int .i64 (len : Int)) W := conv_ui Try.underlying56 Try.underlying3 len HLN.out
          refine wp_region_noPanic ?_
          refine wp_region_held_drew (S := fun wx => Row wx b4 #[.bool fin, .int .i64 (rsv : Int), .int .i64 (op : Int), .bool false, B k0K, B k1, B k2, B k3, .int .u64 (len : Int), .bool least] 74) (by kernel_rfl) (by rw [← hWs]; exact hSS) (fun _ => ?_)
          rw [← hWs]
          clear hWs
          refine take_at (i := 0) (d := some 46) (v := .pointer (some ⟨g, 0, none⟩)) rfl (by kernel_rfl) (by kernel_rfl) (by kernel_rfl) (fun _ _ _ h => h) (fun oi ho => ?_) hSS ?_
          · obtain rfl := Option.some.inj ho
            exact Or.inl ⟨by rfl, fun wx hSw => by go_simp⟩
          simp only [Act.put, List.setIfInBounds_toArray, List.set_cons_zero, List.set_cons_succ]
          refine take_at (i := 1) (d := some 47) (v := .pointer (some ⟨g, 0, none⟩)) rfl (by kernel_rfl) (by kernel_rfl) (by kernel_rfl) (fun _ _ _ h => h) (fun oi ho => ?_) hSS ?_
          · obtain rfl := Option.some.inj ho
            exact Or.inl ⟨by rfl, fun wx hSw => by go_simp⟩
          simp only [Act.put, List.setIfInBounds_toArray, List.set_cons_zero, List.set_cons_succ]
          refine take_at (i := 2) (d := some 48) (v := .pointer (some ⟨g, 0, none⟩)) rfl (by kernel_rfl) (by kernel_rfl) (by kernel_rfl) (fun _ _ _ h => h) (fun oi ho => ?_) hSS ?_
          · obtain rfl := Option.some.inj ho
            exact Or.inl ⟨by rfl, fun wx hSw => by go_simp⟩
          simp only [Act.put, List.setIfInBounds_toArray, List.set_cons_zero, List.set_cons_succ]
          refine take_at (i := 3) (d := some 49) (v := .pointer (some ⟨b4, 4, none⟩)) rfl (by kernel_rfl) (by kernel_rfl) (by kernel_rfl) (fun _ _ _ h => h) (fun oi ho => ?_) hSS ?_
          · obtain rfl := Option.some.inj ho
            exact Or.inl ⟨by rfl, fun wx hSw => by go_simp⟩
          simp only [Act.put, List.setIfInBounds_toArray, List.set_cons_zero, List.set_cons_succ]
          refine take_at (i := 4) (d := some 50) (v := .agg #[B k0K, B k1, B k2, B k3]) rfl (by kernel_rfl) (by kernel_rfl) (by kernel_rfl) (fun _ _ _ h => h) (fun oi ho => ?_) hSS ?_
          · obtain rfl := Option.some.inj ho
            exact Or.inl ⟨by rfl, fun wx hSw => exec_load_mid 43 (.tmp 49) rfl b4 4 rfl [B k0K, B k1, B k2, B k3] _ (row_mid16 hSw 4 _ (fun j u hj => by rcases j with _ | _ | _ | _ | j <;> first | exact hj | cases hj)) Try.underlying43 rfl (by rw [infoK16]; rfl)⟩
          simp only [Act.put, List.setIfInBounds_toArray, List.set_cons_zero, List.set_cons_succ]
          refine take_at (i := 5) (d := some 51) (v := .pointer (some ⟨b4, 8, none⟩)) rfl (by kernel_rfl) (by kernel_rfl) (by kernel_rfl) (fun _ _ _ h => h) (fun oi ho => ?_) hSS ?_
          · obtain rfl := Option.some.inj ho
            exact Or.inl ⟨by rfl, fun wx hSw => by go_simp⟩
          simp only [Act.put, List.setIfInBounds_toArray, List.set_cons_zero, List.set_cons_succ]
          refine take_at (i := 6) (d := some 52) (v := .int .u64 (len : Int)) rfl (by kernel_rfl) (by kernel_rfl) (by kernel_rfl) (fun _ _ _ h => h) (fun oi ho => ?_) hSS ?_
          · obtain rfl := Option.some.inj ho
            exact Or.inl ⟨by rfl, fun wx hSw => by have c := cell_of_row wx b4 8 _ _ (0, 0) hSw; go_simp⟩
          simp only [Act.put, List.setIfInBounds_toArray, List.set_cons_zero, List.set_cons_succ]
          refine take_at (i := 7) (d := some 53) (v := .int .i64 (len : Int)) rfl (by kernel_rfl) (by kernel_rfl) (by kernel_rfl) (fun _ _ _ h => h) (fun oi ho => ?_) hSS ?_
          · obtain rfl := Option.some.inj ho
            exact Or.inl ⟨by rfl, fun wx hSw => by go_simp⟩
          simp only [Act.put, List.setIfInBounds_toArray, List.set_cons_zero, List.set_cons_succ]
          refine take_at (i := 8) (d := some 54) (v := .pointer (some ⟨g, 0, none⟩)) rfl (by kernel_rfl) (by kernel_rfl) (by kernel_rfl) (fun _ _ _ h => h) (fun oi ho => ?_) hSS ?_
          · obtain rfl := Option.some.inj ho
            exact Or.inl ⟨by rfl, fun wx hSw => by go_simp⟩
          simp only [Act.put, List.setIfInBounds_toArray, List.set_cons_zero, List.set_cons_succ]
          refine take_at (i := 9) (d := some 55) (v := .pointer (some ⟨g, 3, none⟩)) rfl (by kernel_rfl) (by kernel_rfl) (by kernel_rfl) (fun _ _ _ h => h) (fun oi ho => ?_) hSS ?_
          · obtain rfl := Option.some.inj ho
            exact Or.inl ⟨by rfl, fun wx hSw => by go_simp⟩
          simp only [Act.put, List.setIfInBounds_toArray, List.set_cons_zero, List.set_cons_succ]
          have hgr := HS.out.1.row
          unfold hrdC at hgr
          have y0 : Ws.cell? ⟨g, 0, none⟩ = some (.bool x.msk) := cell_of_row Ws _ 0 _ _ (0, 0) hgr
          have yf0 : Ws.frozen? ⟨g, 0, none⟩ = false := Row.frozen hgr 0
          have y1 : Ws.cell? ⟨g, 1, none⟩ = some (v6) := cell_of_row Ws _ 1 _ _ (0, 0) hgr
          have yf1 : Ws.frozen? ⟨g, 1, none⟩ = false := Row.frozen hgr 1
          have y2 : Ws.cell? ⟨g, 2, none⟩ = some (.int .i64 (x.nx : Int)) := cell_of_row Ws _ 2 _ _ (0, 0) hgr
          have yf2 : Ws.frozen? ⟨g, 2, none⟩ = false := Row.frozen hgr 2
          have y3 : Ws.cell? ⟨g, 3, none⟩ = some (B x.key.k0) := cell_of_row Ws _ 3 _ _ (0, 0) hgr
          have yf3 : Ws.frozen? ⟨g, 3, none⟩ = false := Row.frozen hgr 3
          have y4 : Ws.cell? ⟨g, 4, none⟩ = some (B x.key.k1) := cell_of_row Ws _ 4 _ _ (0, 0) hgr
          have yf4 : Ws.frozen? ⟨g, 4, none⟩ = false := Row.frozen hgr 4
          have y5 : Ws.cell? ⟨g, 5, none⟩ = some (B x.key.k2) := cell_of_row Ws _ 5 _ _ (0, 0) hgr
          have yf5 : Ws.frozen? ⟨g, 5, none⟩ = false := Row.frozen hgr 5
          have y6 : Ws.cell? ⟨g, 6, none⟩ = some (B x.key.k3) := cell_of_row Ws _ 6 _ _ (0, 0) hgr
          have yf6 : Ws.frozen? ⟨g, 6, none⟩ = false := Row.frozen hgr 6
          have y7 : Ws.cell? ⟨g, 7, none⟩ = some (.int .i64 (x.told : Int)) := cell_of_row Ws _ 7 _ _ (0, 0) hgr
          have yf7 : Ws.frozen? ⟨g, 7, none⟩ = false := Row.frozen hgr 7
          have y8 : Ws.cell? ⟨g, 8, none⟩ = some (.int .i64 (x.lacks : Int)) := cell_of_row Ws _ 8 _ _ (0, 0) hgr
          have yf8 : Ws.frozen? ⟨g, 8, none⟩ = false := Row.frozen hgr 8
          have hk6 := put6H_keeps Ws g (B k0K) (B k1) (B k2) (B k3) (.int .i64 0) (.int .i64 (len : Int))
          have hr6 := put6H_row hgr (B k0K) (B k1) (B k2) (B k3) (.int .i64 0) (.int .i64 (len : Int))
          have hb4g := HR5.out.2
          have ha : Row ((((Ws.setCell ⟨g, 3, none⟩ (B k0K)).setCell ⟨g, 4, none⟩ (B k1)).setCell ⟨g, 5, none⟩ (B k2)).setCell ⟨g, 6, none⟩ (B k3)) b4 #[.bool fin, .int .i64 (rsv : Int), .int .i64 (op : Int), .bool false, B k0K, B k1, B k2, B k3, .int .u64 (len : Int), .bool least] 74 := ((((hSS.other hb4g).other hb4g).other hb4g).other hb4g)
          have hb : Row (((((Ws.setCell ⟨g, 3, none⟩ (B k0K)).setCell ⟨g, 4, none⟩ (B k1)).setCell ⟨g, 5, none⟩ (B k2)).setCell ⟨g, 6, none⟩ (B k3)).setCell ⟨g, 7, none⟩ (.int .i64 0)) b4 #[.bool fin, .int .i64 (rsv : Int), .int .i64 (op : Int), .bool false, B k0K, B k1, B k2, B k3, .int .u64 (len : Int), .bool least] 74 := ha.other hb4g
          have hc : Row ((((((Ws.setCell ⟨g, 3, none⟩ (B k0K)).setCell ⟨g, 4, none⟩ (B k1)).setCell ⟨g, 5, none⟩ (B k2)).setCell ⟨g, 6, none⟩ (B k3)).setCell ⟨g, 7, none⟩ (.int .i64 0)).setCell ⟨g, 8, none⟩ (.int .i64 (len : Int))) b4 #[.bool fin, .int .i64 (rsv : Int), .int .i64 (op : Int), .bool false, B k0K, B k1, B k2, B k3, .int .u64 (len : Int), .bool least] 74 := hb.other hb4g
          refine ready_skip (i := 10) (d := none) (w' := ((((Ws.setCell ⟨g, 3, none⟩ (B k0K)).setCell ⟨g, 4, none⟩ (B k1)).setCell ⟨g, 5, none⟩ (B k2)).setCell ⟨g, 6, none⟩ (B k3))) rfl (by kernel_rfl) (fun oi ho => ?_) ha ?_
          · obtain rfl := Option.some.inj ho
            exact ⟨by rfl, by go_simp⟩
          refine take_at (i := 11) (d := some 56) (v := .pointer (some ⟨g, 0, none⟩)) rfl (by kernel_rfl) (by kernel_rfl) (by kernel_rfl) (fun _ _ _ h => h) (fun oi ho => ?_) ha ?_
          · obtain rfl := Option.some.inj ho
            exact Or.inl ⟨by rfl, fun wx hSw => by go_simp⟩
          simp only [Act.put, List.setIfInBounds_toArray, List.set_cons_zero, List.set_cons_succ]
          refine take_at (i := 12) (d := some 57) (v := .pointer (some ⟨g, 7, none⟩)) rfl (by kernel_rfl) (by kernel_rfl) (by kernel_rfl) (fun _ _ _ h => h) (fun oi ho => ?_) ha ?_
          · obtain rfl := Option.some.inj ho
            exact Or.inl ⟨by rfl, fun wx hSw => by go_simp⟩
          simp only [Act.put, List.setIfInBounds_toArray, List.set_cons_zero, List.set_cons_succ]
          refine ready_skip (i := 13) (d := none) (w' := (((((Ws.setCell ⟨g, 3, none⟩ (B k0K)).setCell ⟨g, 4, none⟩ (B k1)).setCell ⟨g, 5, none⟩ (B k2)).setCell ⟨g, 6, none⟩ (B k3)).setCell ⟨g, 7, none⟩ (.int .i64 0))) rfl (by kernel_rfl) (fun oi ho => ?_) hb ?_
          · obtain rfl := Option.some.inj ho
            exact ⟨by rfl, by go_simp⟩
          refine take_at (i := 14) (d := some 58) (v := .pointer (some ⟨g, 0, none⟩)) rfl (by kernel_rfl) (by kernel_rfl) (by kernel_rfl) (fun _ _ _ h => h) (fun oi ho => ?_) hb ?_
          · obtain rfl := Option.some.inj ho
            exact Or.inl ⟨by rfl, fun wx hSw => by go_simp⟩
          simp only [Act.put, List.setIfInBounds_toArray, List.set_cons_zero, List.set_cons_succ]
          refine take_at (i := 15) (d := some 59) (v := .pointer (some ⟨g, 8, none⟩)) rfl (by kernel_rfl) (by kernel_rfl) (by kernel_rfl) (fun _ _ _ h => h) (fun oi ho => ?_) hb ?_
          · obtain rfl := Option.some.inj ho
            exact Or.inl ⟨by rfl, fun wx hSw => by go_simp⟩
          simp only [Act.put, List.setIfInBounds_toArray, List.set_cons_zero, List.set_cons_succ]
          refine ready_skip (i := 16) (d := none) (w' := ((((((Ws.setCell ⟨g, 3, none⟩ (B k0K)).setCell ⟨g, 4, none⟩ (B k1)).setCell ⟨g, 5, none⟩ (B k2)).setCell ⟨g, 6, none⟩ (B k3)).setCell ⟨g, 7, none⟩ (.int .i64 0)).setCell ⟨g, 8, none⟩ (.int .i64 (len : Int)))) rfl (by kernel_rfl) (fun oi ho => ?_) hc ?_
          · obtain rfl := Option.some.inj ho
            exact ⟨by rfl, by go_simp⟩
          refine wpAnyH_done (by kernel_rfl) ?_ _
          refine NoPanic.normal ?_
          try simp only [Act.put]
          obtain ⟨W7, hW7⟩ : ∃ W, W = put6H Ws g (B k0K) (B k1) (B k2) (B k3) (.int .i64 0) (.int .i64 (len : Int)) := ⟨_, rfl⟩
          rw [← hW7] at hk6 hr6
          unfold put6H at hW7
          rw [← hW7] at hc ⊢
          have hA7 : HrdAt W7 F g (st.buf.drop n) ⟨x.msk, x.nx, ⟨k0K, k1, k2, k3⟩, 0, len⟩ v6 ow6 := HS.out.1.keeps hk6 hr6
          have hgb : b2 ≠ g := fun e => HB.out.2 g H5.out.2.2.foot e.symm
          have H7 := Lib.hid (And.intro hA7 (And.intro (HS.out.2.1.trans (Moves.keeps16 hk6 hA7.foot)) (And.intro (HS.out.2.2.1.keeps hk6 hgb) (And.intro hc hgb))))
          have c7 : W7.cell? ⟨g, 8, none⟩ = some (.int .i64 (len : Int)) := hA7.cells.1.2.2.2.2
          have c2 : W7.cell? ⟨g, 2, none⟩ = some (.int .i64 (x.nx : Int)) := hA7.cells.1.2.2.1
          have f2 := hA7.cells.2 2
          have HBH := Lib.hid (wbehind_any len W7)
          obtain ⟨NX, hNX⟩ : ∃ R : Nat, R = if len = 0 then 2 else 1 := ⟨_, rfl⟩
          rw [← hNX] at HBH
          have HNX := Lib.hid hNX
          clear y0 yf0 y1 yf1 y2 yf2 y3 yf3 y4 yf4 y5 yf5 y6 yf6 y7 yf7 y8 yf8 hgr hk6 hr6 ha hb hc hA7 hgb hW7 hNX hcv hSS HS H6 hb4g
          go_wp2_with fail
          refine HBH.out.mono ?_
          rintro e w' ⟨rfl, hw'⟩
          subst hw'
          clear HBH
          have hA8 := H7.out.1.put ⟨x.msk, NX, ⟨k0K, k1, k2, k3⟩, 0, len⟩ 2 (.int .i64 (NX : Int)) rfl
          have hm8 := H7.out.2.1.trans (moves_cell16 w' H7.out.1.foot 2 (.int .i64 (NX : Int)))
          obtain ⟨W8, hW8⟩ : ∃ W, W = w'.setCell ⟨g, 2, none⟩ (.int .i64 (NX : Int)) := ⟨_, rfl⟩
          have hr8 : Row W8 b2 #[.int .i64 0, .int .i64 0, .bool false, .int .i64 0, .string ⟨#[]⟩] 29 := by rw [hW8]; exact H7.out.2.2.1.other H7.out.2.2.2.2
          have hd8 : Row W8 b4 #[.bool fin, .int .i64 (rsv : Int), .int .i64 (op : Int), .bool false, B k0K, B k1, B k2, B k3, .int .u64 (len : Int), .bool least] 74 := by rw [hW8]; exact H7.out.2.2.2.1.other HR5.out.2
          rw [← hW8] at hA8 hm8
          have H8 := Lib.hid (And.intro hA8 (And.intro hm8 (And.intro hr8 hd8)))
          clear hA8 hm8 hr8 hd8 c7
          go_wp2
          rw [← hW8]
          clear hW8 c2 f2
          obtain ⟨Wt, hWt⟩ : ∃ Wt, Wt = W8.drew := ⟨_, rfl⟩
          have HU : Hid (HrdAt Wt F g (st.buf.drop n) ⟨x.msk, NX, ⟨k0K, k1, k2, k3⟩, 0, len⟩ v6 ow6 ∧ Moves F F w Wt ∧ Row Wt b2 #[.int .i64 0, .int .i64 0, .bool false, .int .i64 0, .string ⟨#[]⟩] 29 ∧ Row Wt b4 #[.bool fin, .int .i64 (rsv : Int), .int .i64 (op : Int), .bool false, B k0K, B k1, B k2, B k3, .int .u64 (len : Int), .bool least] 74) := Lib.hid (by rw [hWt]; exact ⟨H8.out.1.drew, H8.out.2.1.trans (Moves.of_below ⟨rfl, rfl, rfl, Nat.le_refl _, fun _ _ => rfl⟩), H8.out.2.2.1.drew, H8.out.2.2.2.drew⟩)
          have hSU : Row Wt b4 #[.bool fin, .int .i64 (rsv : Int), .int .i64 (op : Int), .bool false, B k0K, B k1, B k2, B k3, .int .u64 (len : Int), .bool least] 74 ∧ Wt.cell? ⟨g, 8, none⟩ = some (.int .i64 (len : Int)) := ⟨HU.out.2.2.2, HU.out.1.cells.1.2.2.2.2⟩
          refine wp_region_noPanic ?_
          refine wp_region_held_drew (S := fun wx => Row wx b4 #[.bool fin, .int .i64 (rsv : Int), .int .i64 (op : Int), .bool false, B k0K, B k1, B k2, B k3, .int .u64 (len : Int), .bool least] 74 ∧ wx.cell? ⟨g, 8, none⟩ = some (.int .i64 (len : Int))) (by kernel_rfl) (by rw [← hWt]; exact hSU) (fun _ => ?_)
          rw [← hWt]
          clear hWt
          refine take_at (i := 0) (d := some 68) (v := .pointer (some ⟨b4, 2, none⟩)) rfl (by kernel_rfl) (by kernel_rfl) (by kernel_rfl) (fun _ _ _ h => h) (fun oi ho => ?_) hSU ?_
          · obtain rfl := Option.some.inj ho
            exact Or.inl ⟨by rfl, fun wx hSw => by go_simp⟩
          simp only [Act.put, List.setIfInBounds_toArray, List.set_cons_zero, List.set_cons_succ]
          refine take_at (i := 1) (d := some 69) (v := .int .i64 (op : Int)) rfl (by kernel_rfl) (by kernel_rfl) (by kernel_rfl) (fun _ _ _ h => h) (fun oi ho => ?_) hSU ?_
          · obtain rfl := Option.some.inj ho
            exact Or.inl ⟨by rfl, fun wx hSw => by have c := cell_of_row wx b4 2 _ _ (0, 0) hSw.1; go_simp⟩
          simp only [Act.put, List.setIfInBounds_toArray, List.set_cons_zero, List.set_cons_succ]
          refine take_at (i := 2) (d := some 70) (v := .pointer (some ⟨b4, 0, none⟩)) rfl (by kernel_rfl) (by kernel_rfl) (by kernel_rfl) (fun _ _ _ h => h) (fun oi ho => ?_) hSU ?_
          · obtain rfl := Option.some.inj ho
            exact Or.inl ⟨by rfl, fun wx hSw => by go_simp⟩
          simp only [Act.put, List.setIfInBounds_toArray, List.set_cons_zero, List.set_cons_succ]
          refine take_at (i := 3) (d := some 71) (v := .bool fin) rfl (by kernel_rfl) (by kernel_rfl) (by kernel_rfl) (fun _ _ _ h => h) (fun oi ho => ?_) hSU ?_
          · obtain rfl := Option.some.inj ho
            exact Or.inl ⟨by rfl, fun wx hSw => by have c := cell_of_row wx b4 0 _ _ (0, 0) hSw.1; go_simp⟩
          simp only [Act.put, List.setIfInBounds_toArray, List.set_cons_zero, List.set_cons_succ]
          refine take_at (i := 4) (d := some 72) (v := .pointer (some ⟨g, 0, none⟩)) rfl (by kernel_rfl) (by kernel_rfl) (by kernel_rfl) (fun _ _ _ h => h) (fun oi ho => ?_) hSU ?_
          · obtain rfl := Option.some.inj ho
            exact Or.inl ⟨by rfl, fun wx hSw => by go_simp⟩
          simp only [Act.put, List.setIfInBounds_toArray, List.set_cons_zero, List.set_cons_succ]
          refine take_at (i := 5) (d := some 73) (v := .pointer (some ⟨g, 0, none⟩)) rfl (by kernel_rfl) (by kernel_rfl) (by kernel_rfl) (fun _ _ _ h => h) (fun oi ho => ?_) hSU ?_
          · obtain rfl := Option.some.inj ho
            exact Or.inl ⟨by rfl, fun wx hSw => by go_simp⟩
          simp only [Act.put, List.setIfInBounds_toArray, List.set_cons_zero, List.set_cons_succ]
          refine take_at (i := 6) (d := some 74) (v := .pointer (some ⟨g, 8, none⟩)) rfl (by kernel_rfl) (by kernel_rfl) (by kernel_rfl) (fun _ _ _ h => h) (fun oi ho => ?_) hSU ?_
          · obtain rfl := Option.some.inj ho
            exact Or.inl ⟨by rfl, fun wx hSw => by go_simp⟩
          simp only [Act.put, List.setIfInBounds_toArray, List.set_cons_zero, List.set_cons_succ]
          refine take_at (i := 7) (d := some 75) (v := .int .i64 (len : Int)) rfl (by kernel_rfl) (by kernel_rfl) (by kernel_rfl) (fun _ _ _ h => h) (fun oi ho => ?_) hSU ?_
          · obtain rfl := Option.some.inj ho
            exact Or.inl ⟨by rfl, fun wx hSw => by have c := hSw.2; go_simp⟩
          simp only [Act.put, List.setIfInBounds_toArray, List.set_cons_zero, List.set_cons_succ]
          refine take_at (i := 8) (d := some 76) (v := .agg #[.int .i64 1, .int .i64 (op : Int), .bool fin, .int .i64 (len : Int), .string ⟨#[]⟩]) rfl (by kernel_rfl) (by kernel_rfl) (by kernel_rfl) (fun _ _ _ h => h) (fun oi ho => ?_) hSU ?_
          · obtain rfl := Option.some.inj ho
            exact Or.inl ⟨by rfl, fun wx hSw => by go_simp⟩
          simp only [Act.put, List.setIfInBounds_toArray, List.set_cons_zero, List.set_cons_succ]
          have hrq := HU.out.2.2.1
          have z0 : Wt.cell? ⟨b2, 0, none⟩ = some (.int .i64 0) := cell_of_row Wt _ 0 _ _ (0, 0) hrq
          have zf0 : Wt.frozen? ⟨b2, 0, none⟩ = false := Row.frozen hrq 0
          have z1 : Wt.cell? ⟨b2, 1, none⟩ = some (.int .i64 0) := cell_of_row Wt _ 1 _ _ (0, 0) hrq
          have zf1 : Wt.frozen? ⟨b2, 1, none⟩ = false := Row.frozen hrq 1
          have z2 : Wt.cell? ⟨b2, 2, none⟩ = some (.bool false) := cell_of_row Wt _ 2 _ _ (0, 0) hrq
          have zf2 : Wt.frozen? ⟨b2, 2, none⟩ = false := Row.frozen hrq 2
          have z3 : Wt.cell? ⟨b2, 3, none⟩ = some (.int .i64 0) := cell_of_row Wt _ 3 _ _ (0, 0) hrq
          have zf3 : Wt.frozen? ⟨b2, 3, none⟩ = false := Row.frozen hrq 3
          have z4 : Wt.cell? ⟨b2, 4, none⟩ = some (.string ⟨#[]⟩) := cell_of_row Wt _ 4 _ _ (0, 0) hrq
          have zf4 : Wt.frozen? ⟨b2, 4, none⟩ = false := Row.frozen hrq 4
          have hkE := put5H_keeps Wt b2 (.int .i64 1) (.int .i64 (op : Int)) (.bool fin) (.int .i64 (len : Int)) (.string ⟨#[]⟩)
          have hSE : Row (put5H Wt b2 (.int .i64 1) (.int .i64 (op : Int)) (.bool fin) (.int .i64 (len : Int)) (.string ⟨#[]⟩)) b4 #[.bool fin, .int .i64 (rsv : Int), .int .i64 (op : Int), .bool false, B k0K, B k1, B k2, B k3, .int .u64 (len : Int), .bool least] 74 ∧ (put5H Wt b2 (.int .i64 1) (.int .i64 (op : Int)) (.bool fin) (.int .i64 (len : Int)) (.string ⟨#[]⟩)).cell? ⟨g, 8, none⟩ = some (.int .i64 (len : Int)) := by
            refine ⟨hSU.1.keeps hkE (Ne.symm H4.out.2.2.2.2.1), ?_⟩
            exact cell_of_row _ g 8 _ _ (0, 0) (HU.out.1.row.keeps hkE (HB.out.2 g HU.out.1.foot))
          refine ready_skip (i := 9) (d := none) (w' := (put5H Wt b2 (.int .i64 1) (.int .i64 (op : Int)) (.bool fin) (.int .i64 (len : Int)) (.string ⟨#[]⟩))) rfl (by kernel_rfl) (fun oi ho => ?_) hSE ?_
          · obtain rfl := Option.some.inj ho
            exact ⟨by rfl, by unfold put5H; go_simp⟩
          simp only [Act.put]
          refine take_at (i := 10) (d := some 3) (v := .bool true) rfl (by kernel_rfl) (by kernel_rfl) (by kernel_rfl) (fun _ _ _ h => h) (fun oi ho => ?_) hSE ?_
          · obtain rfl := Option.some.inj ho
            exact Or.inl ⟨by rfl, fun wx hSw => by go_simp⟩
          simp only [Act.put, List.setIfInBounds_toArray, List.set_cons_zero, List.set_cons_succ]
          refine wpAnyH_done (by kernel_rfl) ?_ _
          refine NoPanic.normal ?_
          try simp only [Act.put]
          have hrE := put5H_row HU.out.2.2.1 (.int .i64 1) (.int .i64 (op : Int)) (.bool fin) (.int .i64 (len : Int)) (.string ⟨#[]⟩)
          obtain ⟨WE, hWE⟩ : ∃ W, W = (put5H Wt b2 (.int .i64 1) (.int .i64 (op : Int)) (.bool fin) (.int .i64 (len : Int)) (.string ⟨#[]⟩)) := ⟨_, rfl⟩
          rw [← hWE] at hrE hkE ⊢
          clear hSE z0 zf0 z1 zf1 z2 zf2 z3 zf3 z4 zf4 hrq hSU hWE
          go_wp2
          refine bodyPost_ret (ev_end rfl _ WE b2 _ rfl hrE rfl) rfl ?_
          refine ⟨?_, F, ?_⟩
          · rw [HY.out.1, HNN.out.2.2.2]; rfl
          obtain ⟨m1, m2, m3⟩ := keeps_moves hkE HB.out.2 (by rw [HB.out.1]; exact Nat.le_refl _) HU.out.2.1 HU.out.1.old
          rw [HY.out.2]
          refine ⟨⟨_, v6, ow6, HU.out.1.same m2 m3, ?_⟩, m1⟩
          refine ⟨?_, fun e => absurd (show st.bad = true from e) (by rw [HX.out.2.2.1]; exact Bool.false_ne_true), fun _ => ⟨HX.out.2.2.2, fun e => (by cases e), fun k' a' l' e => ?_⟩⟩
          · show (st.buf.drop n).length ≤ 100000
            rw [List.length_drop]; have := HBL.out; omega
          · have e : (⟨k0K, k1, k2, k3⟩, 0, len) = (k', a', l') := Option.some.inj e
            injection e with e1 e2
            injection e2 with e2 e3
            subst e1 e2 e3
            refine ⟨rfl, rfl, rfl, HNX.out, ?_⟩
            have := HLN.out
            omega
      | true =>
        have hr4 := H4.out.2.2.2.1
        have hr2 := H4.out.2.2.1.row
        have hd3 : W4.cell? ⟨b4, 3, none⟩ = some (.bool false) := cell_of_row W4 _ 3 _ _ (0, 0) hr4
        have HMF : Hid (mayF ⟨fin, rsv, op, false, ⟨k0K, k1, k2, k3⟩, len, least⟩ st.masked = false) := Lib.hid (by rw [HNN.out.2.1, ← HMS.out]; rfl)
        clear hr4 hr2 HRI
        go_wp2
        go_quiet (fail)
        obtain ⟨WF, hWF⟩ : ∃ W, W = W4.drewN nq := ⟨_, rfl⟩
        have HF : Hid (Below w.heap.size w WF ∧ Row WF b2 #[.int .i64 0, .int .i64 0, .bool false, .int .i64 0, .string ⟨#[]⟩] 29 ∧ HrdAt WF F g st.buf x v ow) := Lib.hid (by rw [hWF]; have hb := below_drewN W4 nq; exact ⟨H4.out.1.trans (hb.mono H4.out.1.size), H4.out.2.1.below hb H4.out.2.1.lt, H4.out.2.2.1.below hb⟩)
        rw [← hWF]
        clear hWF hd3 hc0
        have hrq := HF.out.2.1
        have hrg := HF.out.2.2.row
        unfold hrdC at hrg
        rw [← HXM.out] at hrg
        have hgb : g ≠ b2 := HB.out.2 g HF.out.2.2.foot
        have hr9 := put9H_keeps WF g (.bool false) (.slice none 0 0) (.int .i64 3) (.int .u8 0) (.int .u8 0) (.int .u8 0) (.int .u8 0) (.int .i64 0) (.int .i64 0)
        have hrq9 := hrq.keeps hr9 (Ne.symm hgb)
        unfold put9H at hrq9
        have y0 : WF.cell? ⟨g, 0, none⟩ = some (.bool true) := cell_of_row WF _ 0 _ _ (0, 0) hrg
        have yf0 : WF.frozen? ⟨g, 0, none⟩ = false := Row.frozen hrg 0
        have y1 : WF.cell? ⟨g, 1, none⟩ = some (v) := cell_of_row WF _ 1 _ _ (0, 0) hrg
        have yf1 : WF.frozen? ⟨g, 1, none⟩ = false := Row.frozen hrg 1
        have y2 : WF.cell? ⟨g, 2, none⟩ = some (.int .i64 (x.nx : Int)) := cell_of_row WF _ 2 _ _ (0, 0) hrg
        have yf2 : WF.frozen? ⟨g, 2, none⟩ = false := Row.frozen hrg 2
        have y3 : WF.cell? ⟨g, 3, none⟩ = some (B x.key.k0) := cell_of_row WF _ 3 _ _ (0, 0) hrg
        have yf3 : WF.frozen? ⟨g, 3, none⟩ = false := Row.frozen hrg 3
        have y4 : WF.cell? ⟨g, 4, none⟩ = some (B x.key.k1) := cell_of_row WF _ 4 _ _ (0, 0) hrg
        have yf4 : WF.frozen? ⟨g, 4, none⟩ = false := Row.frozen hrg 4
        have y5 : WF.cell? ⟨g, 5, none⟩ = some (B x.key.k2) := cell_of_row WF _ 5 _ _ (0, 0) hrg
        have yf5 : WF.frozen? ⟨g, 5, none⟩ = false := Row.frozen hrg 5
        have y6 : WF.cell? ⟨g, 6, none⟩ = some (B x.key.k3) := cell_of_row WF _ 6 _ _ (0, 0) hrg
        have yf6 : WF.frozen? ⟨g, 6, none⟩ = false := Row.frozen hrg 6
        have y7 : WF.cell? ⟨g, 7, none⟩ = some (.int .i64 (x.told : Int)) := cell_of_row WF _ 7 _ _ (0, 0) hrg
        have yf7 : WF.frozen? ⟨g, 7, none⟩ = false := Row.frozen hrg 7
        have y8 : WF.cell? ⟨g, 8, none⟩ = some (.int .i64 (x.lacks : Int)) := cell_of_row WF _ 8 _ _ (0, 0) hrg
        have yf8 : WF.frozen? ⟨g, 8, none⟩ = false := Row.frozen hrg 8
        have z0 : (((((((((WF.setCell ⟨g, 0, none⟩ (.bool false)).setCell ⟨g, 1, none⟩ (.slice none 0 0)).setCell ⟨g, 2, none⟩ (.int .i64 3)).setCell ⟨g, 3, none⟩ (.int .u8 0)).setCell ⟨g, 4, none⟩ (.int .u8 0)).setCell ⟨g, 5, none⟩ (.int .u8 0)).setCell ⟨g, 6, none⟩ (.int .u8 0)).setCell ⟨g, 7, none⟩ (.int .i64 0)).setCell ⟨g, 8, none⟩ (.int .i64 0)).cell? ⟨b2, 0, none⟩ = some (.int .i64 0) := cell_of_row (((((((((WF.setCell ⟨g, 0, none⟩ (.bool false)).setCell ⟨g, 1, none⟩ (.slice none 0 0)).setCell ⟨g, 2, none⟩ (.int .i64 3)).setCell ⟨g, 3, none⟩ (.int .u8 0)).setCell ⟨g, 4, none⟩ (.int .u8 0)).setCell ⟨g, 5, none⟩ (.int .u8 0)).setCell ⟨g, 6, none⟩ (.int .u8 0)).setCell ⟨g, 7, none⟩ (.int .i64 0)).setCell ⟨g, 8, none⟩ (.int .i64 0)) _ 0 _ _ (0, 0) hrq9
        have zf0 : (((((((((WF.setCell ⟨g, 0, none⟩ (.bool false)).setCell ⟨g, 1, none⟩ (.slice none 0 0)).setCell ⟨g, 2, none⟩ (.int .i64 3)).setCell ⟨g, 3, none⟩ (.int .u8 0)).setCell ⟨g, 4, none⟩ (.int .u8 0)).setCell ⟨g, 5, none⟩ (.int .u8 0)).setCell ⟨g, 6, none⟩ (.int .u8 0)).setCell ⟨g, 7, none⟩ (.int .i64 0)).setCell ⟨g, 8, none⟩ (.int .i64 0)).frozen? ⟨b2, 0, none⟩ = false := Row.frozen hrq9 0
        have z1 : (((((((((WF.setCell ⟨g, 0, none⟩ (.bool false)).setCell ⟨g, 1, none⟩ (.slice none 0 0)).setCell ⟨g, 2, none⟩ (.int .i64 3)).setCell ⟨g, 3, none⟩ (.int .u8 0)).setCell ⟨g, 4, none⟩ (.int .u8 0)).setCell ⟨g, 5, none⟩ (.int .u8 0)).setCell ⟨g, 6, none⟩ (.int .u8 0)).setCell ⟨g, 7, none⟩ (.int .i64 0)).setCell ⟨g, 8, none⟩ (.int .i64 0)).cell? ⟨b2, 1, none⟩ = some (.int .i64 0) := cell_of_row (((((((((WF.setCell ⟨g, 0, none⟩ (.bool false)).setCell ⟨g, 1, none⟩ (.slice none 0 0)).setCell ⟨g, 2, none⟩ (.int .i64 3)).setCell ⟨g, 3, none⟩ (.int .u8 0)).setCell ⟨g, 4, none⟩ (.int .u8 0)).setCell ⟨g, 5, none⟩ (.int .u8 0)).setCell ⟨g, 6, none⟩ (.int .u8 0)).setCell ⟨g, 7, none⟩ (.int .i64 0)).setCell ⟨g, 8, none⟩ (.int .i64 0)) _ 1 _ _ (0, 0) hrq9
        have zf1 : (((((((((WF.setCell ⟨g, 0, none⟩ (.bool false)).setCell ⟨g, 1, none⟩ (.slice none 0 0)).setCell ⟨g, 2, none⟩ (.int .i64 3)).setCell ⟨g, 3, none⟩ (.int .u8 0)).setCell ⟨g, 4, none⟩ (.int .u8 0)).setCell ⟨g, 5, none⟩ (.int .u8 0)).setCell ⟨g, 6, none⟩ (.int .u8 0)).setCell ⟨g, 7, none⟩ (.int .i64 0)).setCell ⟨g, 8, none⟩ (.int .i64 0)).frozen? ⟨b2, 1, none⟩ = false := Row.frozen hrq9 1
        have z2 : (((((((((WF.setCell ⟨g, 0, none⟩ (.bool false)).setCell ⟨g, 1, none⟩ (.slice none 0 0)).setCell ⟨g, 2, none⟩ (.int .i64 3)).setCell ⟨g, 3, none⟩ (.int .u8 0)).setCell ⟨g, 4, none⟩ (.int .u8 0)).setCell ⟨g, 5, none⟩ (.int .u8 0)).setCell ⟨g, 6, none⟩ (.int .u8 0)).setCell ⟨g, 7, none⟩ (.int .i64 0)).setCell ⟨g, 8, none⟩ (.int .i64 0)).cell? ⟨b2, 2, none⟩ = some (.bool false) := cell_of_row (((((((((WF.setCell ⟨g, 0, none⟩ (.bool false)).setCell ⟨g, 1, none⟩ (.slice none 0 0)).setCell ⟨g, 2, none⟩ (.int .i64 3)).setCell ⟨g, 3, none⟩ (.int .u8 0)).setCell ⟨g, 4, none⟩ (.int .u8 0)).setCell ⟨g, 5, none⟩ (.int .u8 0)).setCell ⟨g, 6, none⟩ (.int .u8 0)).setCell ⟨g, 7, none⟩ (.int .i64 0)).setCell ⟨g, 8, none⟩ (.int .i64 0)) _ 2 _ _ (0, 0) hrq9
        have zf2 : (((((((((WF.setCell ⟨g, 0, none⟩ (.bool false)).setCell ⟨g, 1, none⟩ (.slice none 0 0)).setCell ⟨g, 2, none⟩ (.int .i64 3)).setCell ⟨g, 3, none⟩ (.int .u8 0)).setCell ⟨g, 4, none⟩ (.int .u8 0)).setCell ⟨g, 5, none⟩ (.int .u8 0)).setCell ⟨g, 6, none⟩ (.int .u8 0)).setCell ⟨g, 7, none⟩ (.int .i64 0)).setCell ⟨g, 8, none⟩ (.int .i64 0)).frozen? ⟨b2, 2, none⟩ = false := Row.frozen hrq9 2
        have z3 : (((((((((WF.setCell ⟨g, 0, none⟩ (.bool false)).setCell ⟨g, 1, none⟩ (.slice none 0 0)).setCell ⟨g, 2, none⟩ (.int .i64 3)).setCell ⟨g, 3, none⟩ (.int .u8 0)).setCell ⟨g, 4, none⟩ (.int .u8 0)).setCell ⟨g, 5, none⟩ (.int .u8 0)).setCell ⟨g, 6, none⟩ (.int .u8 0)).setCell ⟨g, 7, none⟩ (.int .i64 0)).setCell ⟨g, 8, none⟩ (.int .i64 0)).cell? ⟨b2, 3, none⟩ = some (.int .i64 0) := cell_of_row (((((((((WF.setCell ⟨g, 0, none⟩ (.bool false)).setCell ⟨g, 1, none⟩ (.slice none 0 0)).setCell ⟨g, 2, none⟩ (.int .i64 3)).setCell ⟨g, 3, none⟩ (.int .u8 0)).setCell ⟨g, 4, none⟩ (.int .u8 0)).setCell ⟨g, 5, none⟩ (.int .u8 0)).setCell ⟨g, 6, none⟩ (.int .u8 0)).setCell ⟨g, 7, none⟩ (.int .i64 0)).setCell ⟨g, 8, none⟩ (.int .i64 0)) _ 3 _ _ (0, 0) hrq9
        have zf3 : (((((((((WF.setCell ⟨g, 0, none⟩ (.bool false)).setCell ⟨g, 1, none⟩ (.slice none 0 0)).setCell ⟨g, 2, none⟩ (.int .i64 3)).setCell ⟨g, 3, none⟩ (.int .u8 0)).setCell ⟨g, 4, none⟩ (.int .u8 0)).setCell ⟨g, 5, none⟩ (.int .u8 0)).setCell ⟨g, 6, none⟩ (.int .u8 0)).setCell ⟨g, 7, none⟩ (.int .i64 0)).setCell ⟨g, 8, none⟩ (.int .i64 0)).frozen? ⟨b2, 3, none⟩ = false := Row.frozen hrq9 3
        have z4 : (((((((((WF.setCell ⟨g, 0, none⟩ (.bool false)).setCell ⟨g, 1, none⟩ (.slice none 0 0)).setCell ⟨g, 2, none⟩ (.int .i64 3)).setCell ⟨g, 3, none⟩ (.int .u8 0)).setCell ⟨g, 4, none⟩ (.int .u8 0)).setCell ⟨g, 5, none⟩ (.int .u8 0)).setCell ⟨g, 6, none⟩ (.int .u8 0)).setCell ⟨g, 7, none⟩ (.int .i64 0)).setCell ⟨g, 8, none⟩ (.int .i64 0)).cell? ⟨b2, 4, none⟩ = some (.string ⟨#[]⟩) := cell_of_row (((((((((WF.setCell ⟨g, 0, none⟩ (.bool false)).setCell ⟨g, 1, none⟩ (.slice none 0 0)).setCell ⟨g, 2, none⟩ (.int .i64 3)).setCell ⟨g, 3, none⟩ (.int .u8 0)).setCell ⟨g, 4, none⟩ (.int .u8 0)).setCell ⟨g, 5, none⟩ (.int .u8 0)).setCell ⟨g, 6, none⟩ (.int .u8 0)).setCell ⟨g, 7, none⟩ (.int .i64 0)).setCell ⟨g, 8, none⟩ (.int .i64 0)) _ 4 _ _ (0, 0) hrq9
        have zf4 : (((((((((WF.setCell ⟨g, 0, none⟩ (.bool false)).setCell ⟨g, 1, none⟩ (.slice none 0 0)).setCell ⟨g, 2, none⟩ (.int .i64 3)).setCell ⟨g, 3, none⟩ (.int .u8 0)).setCell ⟨g, 4, none⟩ (.int .u8 0)).setCell ⟨g, 5, none⟩ (.int .u8 0)).setCell ⟨g, 6, none⟩ (.int .u8 0)).setCell ⟨g, 7, none⟩ (.int .i64 0)).setCell ⟨g, 8, none⟩ (.int .i64 0)).frozen? ⟨b2, 4, none⟩ = false := Row.frozen hrq9 4
        clear hrq hrg hr9 hrq9 hgb
        go_wp2
        have hfin := HFAIL.out WF HF.out.1 HF.out.2.1 HF.out.2.2 (HMF.out)
        have hrE := put5H_row (HF.out.2.1.keeps (put9H_keeps WF g (.bool false) (.slice none 0 0) (.int .i64 3) (.int .u8 0) (.int .u8 0) (.int .u8 0) (.int .u8 0) (.int .i64 0) (.int .i64 0)) (Ne.symm (HB.out.2 g HF.out.2.2.foot))) (.int .i64 4) (.int .i64 0) (.bool false) (.int .i64 0) (.string ⟨#[]⟩)
        refine bodyPost_ret (ev_end rfl _ (put5H (put9H WF g (.bool false) (.slice none 0 0) (.int .i64 3) (.int .u8 0) (.int .u8 0) (.int .u8 0) (.int .u8 0) (.int .i64 0) (.int .i64 0)) b2 (.int .i64 4) (.int .i64 0) (.bool false) (.int .i64 0) (.string ⟨#[]⟩)) b2 _ rfl hrE rfl) rfl ?_
        exact hfin
    | true =>
      cases XM with
      | false =>
        have hr4 := H4.out.2.2.2.1
        have hr2 := H4.out.2.2.1.row
        have hd3 : W4.cell? ⟨b4, 3, none⟩ = some (.bool true) := cell_of_row W4 _ 3 _ _ (0, 0) hr4
        have HMF : Hid (mayF ⟨fin, rsv, op, true, ⟨k0K, k1, k2, k3⟩, len, least⟩ st.masked = false) := Lib.hid (by rw [HNN.out.2.1, ← HMS.out]; rfl)
        clear hr4 hr2 HRI
        go_wp2
        go_quiet (fail)
        obtain ⟨WF, hWF⟩ : ∃ W, W = W4.drewN nq := ⟨_, rfl⟩
        have HF : Hid (Below w.heap.size w WF ∧ Row WF b2 #[.int .i64 0, .int .i64 0, .bool false, .int .i64 0, .string ⟨#[]⟩] 29 ∧ HrdAt WF F g st.buf x v ow) := Lib.hid (by rw [hWF]; have hb := below_drewN W4 nq; exact ⟨H4.out.1.trans (hb.mono H4.out.1.size), H4.out.2.1.below hb H4.out.2.1.lt, H4.out.2.2.1.below hb⟩)
        rw [← hWF]
        clear hWF hd3 hc0
        have hrq := HF.out.2.1
        have hrg := HF.out.2.2.row
        unfold hrdC at hrg
        rw [← HXM.out] at hrg
        have hgb : g ≠ b2 := HB.out.2 g HF.out.2.2.foot
        have hr9 := put9H_keeps WF g (.bool false) (.slice none 0 0) (.int .i64 3) (.int .u8 0) (.int .u8 0) (.int .u8 0) (.int .u8 0) (.int .i64 0) (.int .i64 0)
        have hrq9 := hrq.keeps hr9 (Ne.symm hgb)
        unfold put9H at hrq9
        have y0 : WF.cell? ⟨g, 0, none⟩ = some (.bool false) := cell_of_row WF _ 0 _ _ (0, 0) hrg
        have yf0 : WF.frozen? ⟨g, 0, none⟩ = false := Row.frozen hrg 0
        have y1 : WF.cell? ⟨g, 1, none⟩ = some (v) := cell_of_row WF _ 1 _ _ (0, 0) hrg
        have yf1 : WF.frozen? ⟨g, 1, none⟩ = false := Row.frozen hrg 1
        have y2 : WF.cell? ⟨g, 2, none⟩ = some (.int .i64 (x.nx : Int)) := cell_of_row WF _ 2 _ _ (0, 0) hrg
        have yf2 : WF.frozen? ⟨g, 2, none⟩ = false := Row.frozen hrg 2
        have y3 : WF.cell? ⟨g, 3, none⟩ = some (B x.key.k0) := cell_of_row WF _ 3 _ _ (0, 0) hrg
        have yf3 : WF.frozen? ⟨g, 3, none⟩ = false := Row.frozen hrg 3
        have y4 : WF.cell? ⟨g, 4, none⟩ = some (B x.key.k1) := cell_of_row WF _ 4 _ _ (0, 0) hrg
        have yf4 : WF.frozen? ⟨g, 4, none⟩ = false := Row.frozen hrg 4
        have y5 : WF.cell? ⟨g, 5, none⟩ = some (B x.key.k2) := cell_of_row WF _ 5 _ _ (0, 0) hrg
        have yf5 : WF.frozen? ⟨g, 5, none⟩ = false := Row.frozen hrg 5
        have y6 : WF.cell? ⟨g, 6, none⟩ = some (B x.key.k3) := cell_of_row WF _ 6 _ _ (0, 0) hrg
        have yf6 : WF.frozen? ⟨g, 6, none⟩ = false := Row.frozen hrg 6
        have y7 : WF.cell? ⟨g, 7, none⟩ = some (.int .i64 (x.told : Int)) := cell_of_row WF _ 7 _ _ (0, 0) hrg
        have yf7 : WF.frozen? ⟨g, 7, none⟩ = false := Row.frozen hrg 7
        have y8 : WF.cell? ⟨g, 8, none⟩ = some (.int .i64 (x.lacks : Int)) := cell_of_row WF _ 8 _ _ (0, 0) hrg
        have yf8 : WF.frozen? ⟨g, 8, none⟩ = false := Row.frozen hrg 8
        have z0 : (((((((((WF.setCell ⟨g, 0, none⟩ (.bool false)).setCell ⟨g, 1, none⟩ (.slice none 0 0)).setCell ⟨g, 2, none⟩ (.int .i64 3)).setCell ⟨g, 3, none⟩ (.int .u8 0)).setCell ⟨g, 4, none⟩ (.int .u8 0)).setCell ⟨g, 5, none⟩ (.int .u8 0)).setCell ⟨g, 6, none⟩ (.int .u8 0)).setCell ⟨g, 7, none⟩ (.int .i64 0)).setCell ⟨g, 8, none⟩ (.int .i64 0)).cell? ⟨b2, 0, none⟩ = some (.int .i64 0) := cell_of_row (((((((((WF.setCell ⟨g, 0, none⟩ (.bool false)).setCell ⟨g, 1, none⟩ (.slice none 0 0)).setCell ⟨g, 2, none⟩ (.int .i64 3)).setCell ⟨g, 3, none⟩ (.int .u8 0)).setCell ⟨g, 4, none⟩ (.int .u8 0)).setCell ⟨g, 5, none⟩ (.int .u8 0)).setCell ⟨g, 6, none⟩ (.int .u8 0)).setCell ⟨g, 7, none⟩ (.int .i64 0)).setCell ⟨g, 8, none⟩ (.int .i64 0)) _ 0 _ _ (0, 0) hrq9
        have zf0 : (((((((((WF.setCell ⟨g, 0, none⟩ (.bool false)).setCell ⟨g, 1, none⟩ (.slice none 0 0)).setCell ⟨g, 2, none⟩ (.int .i64 3)).setCell ⟨g, 3, none⟩ (.int .u8 0)).setCell ⟨g, 4, none⟩ (.int .u8 0)).setCell ⟨g, 5, none⟩ (.int .u8 0)).setCell ⟨g, 6, none⟩ (.int .u8 0)).setCell ⟨g, 7, none⟩ (.int .i64 0)).setCell ⟨g, 8, none⟩ (.int .i64 0)).frozen? ⟨b2, 0, none⟩ = false := Row.frozen hrq9 0
        have z1 : (((((((((WF.setCell ⟨g, 0, none⟩ (.bool false)).setCell ⟨g, 1, none⟩ (.slice none 0 0)).setCell ⟨g, 2, none⟩ (.int .i64 3)).setCell ⟨g, 3, none⟩ (.int .u8 0)).setCell ⟨g, 4, none⟩ (.int .u8 0)).setCell ⟨g, 5, none⟩ (.int .u8 0)).setCell ⟨g, 6, none⟩ (.int .u8 0)).setCell ⟨g, 7, none⟩ (.int .i64 0)).setCell ⟨g, 8, none⟩ (.int .i64 0)).cell? ⟨b2, 1, none⟩ = some (.int .i64 0) := cell_of_row (((((((((WF.setCell ⟨g, 0, none⟩ (.bool false)).setCell ⟨g, 1, none⟩ (.slice none 0 0)).setCell ⟨g, 2, none⟩ (.int .i64 3)).setCell ⟨g, 3, none⟩ (.int .u8 0)).setCell ⟨g, 4, none⟩ (.int .u8 0)).setCell ⟨g, 5, none⟩ (.int .u8 0)).setCell ⟨g, 6, none⟩ (.int .u8 0)).setCell ⟨g, 7, none⟩ (.int .i64 0)).setCell ⟨g, 8, none⟩ (.int .i64 0)) _ 1 _ _ (0, 0) hrq9
        have zf1 : (((((((((WF.setCell ⟨g, 0, none⟩ (.bool false)).setCell ⟨g, 1, none⟩ (.slice none 0 0)).setCell ⟨g, 2, none⟩ (.int .i64 3)).setCell ⟨g, 3, none⟩ (.int .u8 0)).setCell ⟨g, 4, none⟩ (.int .u8 0)).setCell ⟨g, 5, none⟩ (.int .u8 0)).setCell ⟨g, 6, none⟩ (.int .u8 0)).setCell ⟨g, 7, none⟩ (.int .i64 0)).setCell ⟨g, 8, none⟩ (.int .i64 0)).frozen? ⟨b2, 1, none⟩ = false := Row.frozen hrq9 1
        have z2 : (((((((((WF.setCell ⟨g, 0, none⟩ (.bool false)).setCell ⟨g, 1, none⟩ (.slice none 0 0)).setCell ⟨g, 2, none⟩ (.int .i64 3)).setCell ⟨g, 3, none⟩ (.int .u8 0)).setCell ⟨g, 4, none⟩ (.int .u8 0)).setCell ⟨g, 5, none⟩ (.int .u8 0)).setCell ⟨g, 6, none⟩ (.int .u8 0)).setCell ⟨g, 7, none⟩ (.int .i64 0)).setCell ⟨g, 8, none⟩ (.int .i64 0)).cell? ⟨b2, 2, none⟩ = some (.bool false) := cell_of_row (((((((((WF.setCell ⟨g, 0, none⟩ (.bool false)).setCell ⟨g, 1, none⟩ (.slice none 0 0)).setCell ⟨g, 2, none⟩ (.int .i64 3)).setCell ⟨g, 3, none⟩ (.int .u8 0)).setCell ⟨g, 4, none⟩ (.int .u8 0)).setCell ⟨g, 5, none⟩ (.int .u8 0)).setCell ⟨g, 6, none⟩ (.int .u8 0)).setCell ⟨g, 7, none⟩ (.int .i64 0)).setCell ⟨g, 8, none⟩ (.int .i64 0)) _ 2 _ _ (0, 0) hrq9
        have zf2 : (((((((((WF.setCell ⟨g, 0, none⟩ (.bool false)).setCell ⟨g, 1, none⟩ (.slice none 0 0)).setCell ⟨g, 2, none⟩ (.int .i64 3)).setCell ⟨g, 3, none⟩ (.int .u8 0)).setCell ⟨g, 4, none⟩ (.int .u8 0)).setCell ⟨g, 5, none⟩ (.int .u8 0)).setCell ⟨g, 6, none⟩ (.int .u8 0)).setCell ⟨g, 7, none⟩ (.int .i64 0)).setCell ⟨g, 8, none⟩ (.int .i64 0)).frozen? ⟨b2, 2, none⟩ = false := Row.frozen hrq9 2
        have z3 : (((((((((WF.setCell ⟨g, 0, none⟩ (.bool false)).setCell ⟨g, 1, none⟩ (.slice none 0 0)).setCell ⟨g, 2, none⟩ (.int .i64 3)).setCell ⟨g, 3, none⟩ (.int .u8 0)).setCell ⟨g, 4, none⟩ (.int .u8 0)).setCell ⟨g, 5, none⟩ (.int .u8 0)).setCell ⟨g, 6, none⟩ (.int .u8 0)).setCell ⟨g, 7, none⟩ (.int .i64 0)).setCell ⟨g, 8, none⟩ (.int .i64 0)).cell? ⟨b2, 3, none⟩ = some (.int .i64 0) := cell_of_row (((((((((WF.setCell ⟨g, 0, none⟩ (.bool false)).setCell ⟨g, 1, none⟩ (.slice none 0 0)).setCell ⟨g, 2, none⟩ (.int .i64 3)).setCell ⟨g, 3, none⟩ (.int .u8 0)).setCell ⟨g, 4, none⟩ (.int .u8 0)).setCell ⟨g, 5, none⟩ (.int .u8 0)).setCell ⟨g, 6, none⟩ (.int .u8 0)).setCell ⟨g, 7, none⟩ (.int .i64 0)).setCell ⟨g, 8, none⟩ (.int .i64 0)) _ 3 _ _ (0, 0) hrq9
        have zf3 : (((((((((WF.setCell ⟨g, 0, none⟩ (.bool false)).setCell ⟨g, 1, none⟩ (.slice none 0 0)).setCell ⟨g, 2, none⟩ (.int .i64 3)).setCell ⟨g, 3, none⟩ (.int .u8 0)).setCell ⟨g, 4, none⟩ (.int .u8 0)).setCell ⟨g, 5, none⟩ (.int .u8 0)).setCell ⟨g, 6, none⟩ (.int .u8 0)).setCell ⟨g, 7, none⟩ (.int .i64 0)).setCell ⟨g, 8, none⟩ (.int .i64 0)).frozen? ⟨b2, 3, none⟩ = false := Row.frozen hrq9 3
        have z4 : (((((((((WF.setCell ⟨g, 0, none⟩ (.bool false)).setCell ⟨g, 1, none⟩ (.slice none 0 0)).setCell ⟨g, 2, none⟩ (.int .i64 3)).setCell ⟨g, 3, none⟩ (.int .u8 0)).setCell ⟨g, 4, none⟩ (.int .u8 0)).setCell ⟨g, 5, none⟩ (.int .u8 0)).setCell ⟨g, 6, none⟩ (.int .u8 0)).setCell ⟨g, 7, none⟩ (.int .i64 0)).setCell ⟨g, 8, none⟩ (.int .i64 0)).cell? ⟨b2, 4, none⟩ = some (.string ⟨#[]⟩) := cell_of_row (((((((((WF.setCell ⟨g, 0, none⟩ (.bool false)).setCell ⟨g, 1, none⟩ (.slice none 0 0)).setCell ⟨g, 2, none⟩ (.int .i64 3)).setCell ⟨g, 3, none⟩ (.int .u8 0)).setCell ⟨g, 4, none⟩ (.int .u8 0)).setCell ⟨g, 5, none⟩ (.int .u8 0)).setCell ⟨g, 6, none⟩ (.int .u8 0)).setCell ⟨g, 7, none⟩ (.int .i64 0)).setCell ⟨g, 8, none⟩ (.int .i64 0)) _ 4 _ _ (0, 0) hrq9
        have zf4 : (((((((((WF.setCell ⟨g, 0, none⟩ (.bool false)).setCell ⟨g, 1, none⟩ (.slice none 0 0)).setCell ⟨g, 2, none⟩ (.int .i64 3)).setCell ⟨g, 3, none⟩ (.int .u8 0)).setCell ⟨g, 4, none⟩ (.int .u8 0)).setCell ⟨g, 5, none⟩ (.int .u8 0)).setCell ⟨g, 6, none⟩ (.int .u8 0)).setCell ⟨g, 7, none⟩ (.int .i64 0)).setCell ⟨g, 8, none⟩ (.int .i64 0)).frozen? ⟨b2, 4, none⟩ = false := Row.frozen hrq9 4
        clear hrq hrg hr9 hrq9 hgb
        go_wp2
        have hfin := HFAIL.out WF HF.out.1 HF.out.2.1 HF.out.2.2 (HMF.out)
        have hrE := put5H_row (HF.out.2.1.keeps (put9H_keeps WF g (.bool false) (.slice none 0 0) (.int .i64 3) (.int .u8 0) (.int .u8 0) (.int .u8 0) (.int .u8 0) (.int .i64 0) (.int .i64 0)) (Ne.symm (HB.out.2 g HF.out.2.2.foot))) (.int .i64 4) (.int .i64 0) (.bool false) (.int .i64 0) (.string ⟨#[]⟩)
        refine bodyPost_ret (ev_end rfl _ (put5H (put9H WF g (.bool false) (.slice none 0 0) (.int .i64 3) (.int .u8 0) (.int .u8 0) (.int .u8 0) (.int .u8 0) (.int .i64 0) (.int .i64 0)) b2 (.int .i64 4) (.int .i64 0) (.bool false) (.int .i64 0) (.string ⟨#[]⟩)) b2 _ rfl hrE rfl) rfl ?_
        exact hfin
      | true =>
        have hr4 := H4.out.2.2.2.1
        have hr2 := H4.out.2.2.1.row
        have HR4 := Lib.hid hr4
        clear hr2
        go_wp2
        obtain ⟨Wr, hWr⟩ : ∃ Wr, Wr = W4.drew := ⟨_, rfl⟩
        have hSR : Row Wr b4 #[.bool fin, .int .i64 (rsv : Int), .int .i64 (op : Int), .bool true, B k0K, B k1, B k2, B k3, .int .u64 (len : Int), .bool least] 74 ∧ Wr.cell? ⟨g, 0, none⟩ = some (.bool true) := by rw [hWr]; exact ⟨hr4.drew, hc0⟩
        have HR : Hid (Below w.heap.size w Wr ∧ Row Wr b2 #[.int .i64 0, .int .i64 0, .bool false, .int .i64 0, .string ⟨#[]⟩] 29 ∧ HrdAt Wr F g st.buf x v ow) := Lib.hid (by rw [hWr]; exact ⟨H4.out.1.trans ⟨rfl, rfl, rfl, Nat.le_refl _, fun _ _ => rfl⟩, H4.out.2.1.drew, H4.out.2.2.1.drew⟩)
        refine wp_region_noPanic ?_
        refine wp_region_held_drew (S := fun wx => Row wx b4 #[.bool fin, .int .i64 (rsv : Int), .int .i64 (op : Int), .bool true, B k0K, B k1, B k2, B k3, .int .u64 (len : Int), .bool least] 74 ∧ wx.cell? ⟨g, 0, none⟩ = some (.bool true)) (by kernel_rfl) (by rw [← hWr]; exact hSR) (fun _ => ?_)
        rw [← hWr]
        clear hWr hc0 hr4
        refine take_at (i := 0) (d := some 27) (v := .pointer (some ⟨b4, 3, none⟩)) rfl (by kernel_rfl) (by kernel_rfl) (by kernel_rfl) (fun _ _ _ h => h) (fun oi ho => ?_) hSR ?_
        · obtain rfl := Option.some.inj ho
          exact Or.inl ⟨by rfl, fun wx hSw => by go_simp⟩
        simp only [Act.put, List.setIfInBounds_toArray, List.set_cons_zero, List.set_cons_succ]
        refine take_at (i := 1) (d := some 28) (v := .bool true) rfl (by kernel_rfl) (by kernel_rfl) (by kernel_rfl) (fun _ _ _ h => h) (fun oi ho => ?_) hSR ?_
        · obtain rfl := Option.some.inj ho
          exact Or.inl ⟨by rfl, fun wx hSw => by have c := cell_of_row wx b4 3 _ _ (0, 0) hSw.1; go_simp⟩
        simp only [Act.put, List.setIfInBounds_toArray, List.set_cons_zero, List.set_cons_succ]
        refine take_at (i := 2) (d := some 29) (v := .pointer (some ⟨g, 0, none⟩)) rfl (by kernel_rfl) (by kernel_rfl) (by kernel_rfl) (fun _ _ _ h => h) (fun oi ho => ?_) hSR ?_
        · obtain rfl := Option.some.inj ho
          exact Or.inl ⟨by rfl, fun wx hSw => by go_simp⟩
        simp only [Act.put, List.setIfInBounds_toArray, List.set_cons_zero, List.set_cons_succ]
        refine take_at (i := 3) (d := some 30) (v := .pointer (some ⟨g, 0, none⟩)) rfl (by kernel_rfl) (by kernel_rfl) (by kernel_rfl) (fun _ _ _ h => h) (fun oi ho => ?_) hSR ?_
        · obtain rfl := Option.some.inj ho
          exact Or.inl ⟨by rfl, fun wx hSw => by go_simp⟩
        simp only [Act.put, List.setIfInBounds_toArray, List.set_cons_zero, List.set_cons_succ]
        refine take_at (i := 4) (d := some 31) (v := .pointer (some ⟨g, 0, none⟩)) rfl (by kernel_rfl) (by kernel_rfl) (by kernel_rfl) (fun _ _ _ h => h) (fun oi ho => ?_) hSR ?_
        · obtain rfl := Option.some.inj ho
          exact Or.inl ⟨by rfl, fun wx hSw => by go_simp⟩
        simp only [Act.put, List.setIfInBounds_toArray, List.set_cons_zero, List.set_cons_succ]
        refine take_at (i := 5) (d := some 32) (v := .bool true) rfl (by kernel_rfl) (by kernel_rfl) (by kernel_rfl) (fun _ _ _ h => h) (fun oi ho => ?_) hSR ?_
        · obtain rfl := Option.some.inj ho
          exact Or.inl ⟨by rfl, fun wx hSw => by have c := hSw.2; go_simp⟩
        simp only [Act.put, List.setIfInBounds_toArray, List.set_cons_zero, List.set_cons_succ]
        refine take_at (i := 6) (d := some 33) (v := .bool false) rfl (by kernel_rfl) (by kernel_rfl) (by kernel_rfl) (fun _ _ _ h => h) (fun oi ho => ?_) hSR ?_
        · obtain rfl := Option.some.inj ho
          exact Or.inl ⟨by rfl, fun wx hSw => by go_simp⟩
        simp only [Act.put, List.setIfInBounds_toArray, List.set_cons_zero, List.set_cons_succ]
        refine take_at (i := 7) (d := some 34) (v := .bool false) rfl (by kernel_rfl) (by kernel_rfl) (by kernel_rfl) (fun _ _ _ h => h) (fun oi ho => ?_) hSR ?_
        · obtain rfl := Option.some.inj ho
          exact Or.inl ⟨by rfl, fun wx hSw => by go_simp⟩
        simp only [Act.put, List.setIfInBounds_toArray, List.set_cons_zero, List.set_cons_succ]
        refine take_at (i := 8) (d := some 35) (v := .agg #[.bool fin, .int .i64 (rsv : Int), .int .i64 (op : Int), .bool true, B k0K, B k1, B k2, B k3, .int .u64 (len : Int), .bool least]) rfl (by kernel_rfl) (by kernel_rfl) (by kernel_rfl) (fun _ _ _ h => h) (fun oi ho => ?_) hSR ?_
        · obtain rfl := Option.some.inj ho
          exact Or.inl ⟨by rfl, fun wx hSw => exec_load_mid 74 (.tmp 4) rfl b4 0 rfl (#[.bool fin, .int .i64 (rsv : Int), .int .i64 (op : Int), .bool true, B k0K, B k1, B k2, B k3, .int .u64 (len : Int), .bool least] : Array Value).toList _ (row_range16 hSw.1) Try.underlying74 rfl (by rw [infoHdW]; rfl)⟩
        simp only [Act.put, List.setIfInBounds_toArray, List.set_cons_zero, List.set_cons_succ]
        refine ready_call (i := 9) (d := some 36) (f := 36) (args := #[.agg #[.bool fin, .int .i64 (rsv : Int), .int .i64 (op : Int), .bool true, B k0K, B k1, B k2, B k3, .int .u64 (len : Int), .bool least]]) rfl (by kernel_rfl) (fun oi ho => ?_) ?_
        · obtain rfl := Option.some.inj ho
          exact ⟨by rfl, by go_simp⟩
        refine (HRI.out Wr).mono ?_
        rintro e W5 ⟨rfl, hB5⟩
        have hS5 : Row W5 b4 #[.bool fin, .int .i64 (rsv : Int), .int .i64 (op : Int), .bool true, B k0K, B k1, B k2, B k3, .int .u64 (len : Int), .bool least] 74 ∧ W5.cell? ⟨g, 0, none⟩ = some (.bool true) := ⟨hSR.1.below hB5 hSR.1.lt, by rw [hB5.cell (World.block_lt_of_cell? Wr _ hSR.2)]; exact hSR.2⟩
        have H5 : Hid (Below w.heap.size w W5 ∧ Row W5 b2 #[.int .i64 0, .int .i64 0, .bool false, .int .i64 0, .string ⟨#[]⟩] 29 ∧ HrdAt W5 F g st.buf x v ow) := Lib.hid ⟨HR.out.1.trans (hB5.mono HR.out.1.size), HR.out.2.1.below hB5 HR.out.2.1.lt, HR.out.2.2.below hB5⟩
        clear hB5 HR hSR
        refine ⟨_, rfl, hS5, ?_⟩
        simp only [Act.put, List.setIfInBounds_toArray, List.set_cons_zero, List.set_cons_succ]
        cases RB with
        | false =>
          refine take_at (i := 10) (d := some 37) (v := .bool true) rfl (by kernel_rfl) (by kernel_rfl) (by kernel_rfl) (fun _ _ _ h => h) (fun oi ho => ?_) hS5 ?_
          · obtain rfl := Option.some.inj ho
            exact Or.inl ⟨by rfl, fun wx hSw => by go_simp⟩
          simp only [Act.put, List.setIfInBounds_toArray, List.set_cons_zero, List.set_cons_succ]
          refine take_at (i := 11) (d := some 38) (v := .bool true) rfl (by kernel_rfl) (by kernel_rfl) (by kernel_rfl) (fun _ _ _ h => h) (fun oi ho => ?_) hS5 ?_
          · obtain rfl := Option.some.inj ho
            exact Or.inl ⟨by rfl, fun wx hSw => by go_simp⟩
          simp only [Act.put, List.setIfInBounds_toArray, List.set_cons_zero, List.set_cons_succ]
          refine wpAnyH_done (by kernel_rfl) ?_ _
          refine NoPanic.normal ?_
          try simp only [Act.put]
          have HMF : Hid (mayF ⟨fin, rsv, op, true, ⟨k0K, k1, k2, k3⟩, len, least⟩ st.masked = false) := Lib.hid (by rw [HNN.out.2.1]; simp)
          clear hS5
          have hrq := H5.out.2.1
          have hrg := H5.out.2.2.row
          unfold hrdC at hrg
          rw [← HXM.out] at hrg
          have hgb : g ≠ b2 := HB.out.2 g H5.out.2.2.foot
          have hr9 := put9H_keeps W5 g (.bool false) (.slice none 0 0) (.int .i64 3) (.int .u8 0) (.int .u8 0) (.int .u8 0) (.int .u8 0) (.int .i64 0) (.int .i64 0)
          have hrq9 := hrq.keeps hr9 (Ne.symm hgb)
          unfold put9H at hrq9
          have y0 : W5.cell? ⟨g, 0, none⟩ = some (.bool true) := cell_of_row W5 _ 0 _ _ (0, 0) hrg
          have yf0 : W5.frozen? ⟨g, 0, none⟩ = false := Row.frozen hrg 0
          have y1 : W5.cell? ⟨g, 1, none⟩ = some (v) := cell_of_row W5 _ 1 _ _ (0, 0) hrg
          have yf1 : W5.frozen? ⟨g, 1, none⟩ = false := Row.frozen hrg 1
          have y2 : W5.cell? ⟨g, 2, none⟩ = some (.int .i64 (x.nx : Int)) := cell_of_row W5 _ 2 _ _ (0, 0) hrg
          have yf2 : W5.frozen? ⟨g, 2, none⟩ = false := Row.frozen hrg 2
          have y3 : W5.cell? ⟨g, 3, none⟩ = some (B x.key.k0) := cell_of_row W5 _ 3 _ _ (0, 0) hrg
          have yf3 : W5.frozen? ⟨g, 3, none⟩ = false := Row.frozen hrg 3
          have y4 : W5.cell? ⟨g, 4, none⟩ = some (B x.key.k1) := cell_of_row W5 _ 4 _ _ (0, 0) hrg
          have yf4 : W5.frozen? ⟨g, 4, none⟩ = false := Row.frozen hrg 4
          have y5 : W5.cell? ⟨g, 5, none⟩ = some (B x.key.k2) := cell_of_row W5 _ 5 _ _ (0, 0) hrg
          have yf5 : W5.frozen? ⟨g, 5, none⟩ = false := Row.frozen hrg 5
          have y6 : W5.cell? ⟨g, 6, none⟩ = some (B x.key.k3) := cell_of_row W5 _ 6 _ _ (0, 0) hrg
          have yf6 : W5.frozen? ⟨g, 6, none⟩ = false := Row.frozen hrg 6
          have y7 : W5.cell? ⟨g, 7, none⟩ = some (.int .i64 (x.told : Int)) := cell_of_row W5 _ 7 _ _ (0, 0) hrg
          have yf7 : W5.frozen? ⟨g, 7, none⟩ = false := Row.frozen hrg 7
          have y8 : W5.cell? ⟨g, 8, none⟩ = some (.int .i64 (x.lacks : Int)) := cell_of_row W5 _ 8 _ _ (0, 0) hrg
          have yf8 : W5.frozen? ⟨g, 8, none⟩ = false := Row.frozen hrg 8
          have z0 : (((((((((W5.setCell ⟨g, 0, none⟩ (.bool false)).setCell ⟨g, 1, none⟩ (.slice none 0 0)).setCell ⟨g, 2, none⟩ (.int .i64 3)).setCell ⟨g, 3, none⟩ (.int .u8 0)).setCell ⟨g, 4, none⟩ (.int .u8 0)).setCell ⟨g, 5, none⟩ (.int .u8 0)).setCell ⟨g, 6, none⟩ (.int .u8 0)).setCell ⟨g, 7, none⟩ (.int .i64 0)).setCell ⟨g, 8, none⟩ (.int .i64 0)).cell? ⟨b2, 0, none⟩ = some (.int .i64 0) := cell_of_row (((((((((W5.setCell ⟨g, 0, none⟩ (.bool false)).setCell ⟨g, 1, none⟩ (.slice none 0 0)).setCell ⟨g, 2, none⟩ (.int .i64 3)).setCell ⟨g, 3, none⟩ (.int .u8 0)).setCell ⟨g, 4, none⟩ (.int .u8 0)).setCell ⟨g, 5, none⟩ (.int .u8 0)).setCell ⟨g, 6, none⟩ (.int .u8 0)).setCell ⟨g, 7, none⟩ (.int .i64 0)).setCell ⟨g, 8, none⟩ (.int .i64 0)) _ 0 _ _ (0, 0) hrq9
          have zf0 : (((((((((W5.setCell ⟨g, 0, none⟩ (.bool false)).setCell ⟨g, 1, none⟩ (.slice none 0 0)).setCell ⟨g, 2, none⟩ (.int .i64 3)).setCell ⟨g, 3, none⟩ (.int .u8 0)).setCell ⟨g, 4, none⟩ (.int .u8 0)).setCell ⟨g, 5, none⟩ (.int .u8 0)).setCell ⟨g, 6, none⟩ (.int .u8 0)).setCell ⟨g, 7, none⟩ (.int .i64 0)).setCell ⟨g, 8, none⟩ (.int .i64 0)).frozen? ⟨b2, 0, none⟩ = false := Row.frozen hrq9 0
          have z1 : (((((((((W5.setCell ⟨g, 0, none⟩ (.bool false)).setCell ⟨g, 1, none⟩ (.slice none 0 0)).setCell ⟨g, 2, none⟩ (.int .i64 3)).setCell ⟨g, 3, none⟩ (.int .u8 0)).setCell ⟨g, 4, none⟩ (.int .u8 0)).setCell ⟨g, 5, none⟩ (.int .u8 0)).setCell ⟨g, 6, none⟩ (.int .u8 0)).setCell ⟨g, 7, none⟩ (.int .i64 0)).setCell ⟨g, 8, none⟩ (.int .i64 0)).cell? ⟨b2, 1, none⟩ = some (.int .i64 0) := cell_of_row (((((((((W5.setCell ⟨g, 0, none⟩ (.bool false)).setCell ⟨g, 1, none⟩ (.slice none 0 0)).setCell ⟨g, 2, none⟩ (.int .i64 3)).setCell ⟨g, 3, none⟩ (.int .u8 0)).setCell ⟨g, 4, none⟩ (.int .u8 0)).setCell ⟨g, 5, none⟩ (.int .u8 0)).setCell ⟨g, 6, none⟩ (.int .u8 0)).setCell ⟨g, 7, none⟩ (.int .i64 0)).setCell ⟨g, 8, none⟩ (.int .i64 0)) _ 1 _ _ (0, 0) hrq9
          have zf1 : (((((((((W5.setCell ⟨g, 0, none⟩ (.bool false)).setCell ⟨g, 1, none⟩ (.slice none 0 0)).setCell ⟨g, 2, none⟩ (.int .i64 3)).setCell ⟨g, 3, none⟩ (.int .u8 0)).setCell ⟨g, 4, none⟩ (.int .u8 0)).setCell ⟨g, 5, none⟩ (.int .u8 0)).setCell ⟨g, 6, none⟩ (.int .u8 0)).setCell ⟨g, 7, none⟩ (.int .i64 0)).setCell ⟨g, 8, none⟩ (.int .i64 0)).frozen? ⟨b2, 1, none⟩ = false := Row.frozen hrq9 1
          have z2 : (((((((((W5.setCell ⟨g, 0, none⟩ (.bool false)).setCell ⟨g, 1, none⟩ (.slice none 0 0)).setCell ⟨g, 2, none⟩ (.int .i64 3)).setCell ⟨g, 3, none⟩ (.int .u8 0)).setCell ⟨g, 4, none⟩ (.int .u8 0)).setCell ⟨g, 5, none⟩ (.int .u8 0)).setCell ⟨g, 6, none⟩ (.int .u8 0)).setCell ⟨g, 7, none⟩ (.int .i64 0)).setCell ⟨g, 8, none⟩ (.int .i64 0)).cell? ⟨b2, 2, none⟩ = some (.bool false) := cell_of_row (((((((((W5.setCell ⟨g, 0, none⟩ (.bool false)).setCell ⟨g, 1, none⟩ (.slice none 0 0)).setCell ⟨g, 2, none⟩ (.int .i64 3)).setCell ⟨g, 3, none⟩ (.int .u8 0)).setCell ⟨g, 4, none⟩ (.int .u8 0)).setCell ⟨g, 5, none⟩ (.int .u8 0)).setCell ⟨g, 6, none⟩ (.int .u8 0)).setCell ⟨g, 7, none⟩ (.int .i64 0)).setCell ⟨g, 8, none⟩ (.int .i64 0)) _ 2 _ _ (0, 0) hrq9
          have zf2 : (((((((((W5.setCell ⟨g, 0, none⟩ (.bool false)).setCell ⟨g, 1, none⟩ (.slice none 0 0)).setCell ⟨g, 2, none⟩ (.int .i64 3)).setCell ⟨g, 3, none⟩ (.int .u8 0)).setCell ⟨g, 4, none⟩ (.int .u8 0)).setCell ⟨g, 5, none⟩ (.int .u8 0)).setCell ⟨g, 6, none⟩ (.int .u8 0)).setCell ⟨g, 7, none⟩ (.int .i64 0)).setCell ⟨g, 8, none⟩ (.int .i64 0)).frozen? ⟨b2, 2, none⟩ = false := Row.frozen hrq9 2
          have z3 : (((((((((W5.setCell ⟨g, 0, none⟩ (.bool false)).setCell ⟨g, 1, none⟩ (.slice none 0 0)).setCell ⟨g, 2, none⟩ (.int .i64 3)).setCell ⟨g, 3, none⟩ (.int .u8 0)).setCell ⟨g, 4, none⟩ (.int .u8 0)).setCell ⟨g, 5, none⟩ (.int .u8 0)).setCell ⟨g, 6, none⟩ (.int .u8 0)).setCell ⟨g, 7, none⟩ (.int .i64 0)).setCell ⟨g, 8, none⟩ (.int .i64 0)).cell? ⟨b2, 3, none⟩ = some (.int .i64 0) := cell_of_row (((((((((W5.setCell ⟨g, 0, none⟩ (.bool false)).setCell ⟨g, 1, none⟩ (.slice none 0 0)).setCell ⟨g, 2, none⟩ (.int .i64 3)).setCell ⟨g, 3, none⟩ (.int .u8 0)).setCell ⟨g, 4, none⟩ (.int .u8 0)).setCell ⟨g, 5, none⟩ (.int .u8 0)).setCell ⟨g, 6, none⟩ (.int .u8 0)).setCell ⟨g, 7, none⟩ (.int .i64 0)).setCell ⟨g, 8, none⟩ (.int .i64 0)) _ 3 _ _ (0, 0) hrq9
          have zf3 : (((((((((W5.setCell ⟨g, 0, none⟩ (.bool false)).setCell ⟨g, 1, none⟩ (.slice none 0 0)).setCell ⟨g, 2, none⟩ (.int .i64 3)).setCell ⟨g, 3, none⟩ (.int .u8 0)).setCell ⟨g, 4, none⟩ (.int .u8 0)).setCell ⟨g, 5, none⟩ (.int .u8 0)).setCell ⟨g, 6, none⟩ (.int .u8 0)).setCell ⟨g, 7, none⟩ (.int .i64 0)).setCell ⟨g, 8, none⟩ (.int .i64 0)).frozen? ⟨b2, 3, none⟩ = false := Row.frozen hrq9 3
          have z4 : (((((((((W5.setCell ⟨g, 0, none⟩ (.bool false)).setCell ⟨g, 1, none⟩ (.slice none 0 0)).setCell ⟨g, 2, none⟩ (.int .i64 3)).setCell ⟨g, 3, none⟩ (.int .u8 0)).setCell ⟨g, 4, none⟩ (.int .u8 0)).setCell ⟨g, 5, none⟩ (.int .u8 0)).setCell ⟨g, 6, none⟩ (.int .u8 0)).setCell ⟨g, 7, none⟩ (.int .i64 0)).setCell ⟨g, 8, none⟩ (.int .i64 0)).cell? ⟨b2, 4, none⟩ = some (.string ⟨#[]⟩) := cell_of_row (((((((((W5.setCell ⟨g, 0, none⟩ (.bool false)).setCell ⟨g, 1, none⟩ (.slice none 0 0)).setCell ⟨g, 2, none⟩ (.int .i64 3)).setCell ⟨g, 3, none⟩ (.int .u8 0)).setCell ⟨g, 4, none⟩ (.int .u8 0)).setCell ⟨g, 5, none⟩ (.int .u8 0)).setCell ⟨g, 6, none⟩ (.int .u8 0)).setCell ⟨g, 7, none⟩ (.int .i64 0)).setCell ⟨g, 8, none⟩ (.int .i64 0)) _ 4 _ _ (0, 0) hrq9
          have zf4 : (((((((((W5.setCell ⟨g, 0, none⟩ (.bool false)).setCell ⟨g, 1, none⟩ (.slice none 0 0)).setCell ⟨g, 2, none⟩ (.int .i64 3)).setCell ⟨g, 3, none⟩ (.int .u8 0)).setCell ⟨g, 4, none⟩ (.int .u8 0)).setCell ⟨g, 5, none⟩ (.int .u8 0)).setCell ⟨g, 6, none⟩ (.int .u8 0)).setCell ⟨g, 7, none⟩ (.int .i64 0)).setCell ⟨g, 8, none⟩ (.int .i64 0)).frozen? ⟨b2, 4, none⟩ = false := Row.frozen hrq9 4
          clear hrq hrg hr9 hrq9 hgb
          go_wp2
          have hfin := HFAIL.out W5 H5.out.1 H5.out.2.1 H5.out.2.2 (HMF.out)
          have hrE := put5H_row (H5.out.2.1.keeps (put9H_keeps W5 g (.bool false) (.slice none 0 0) (.int .i64 3) (.int .u8 0) (.int .u8 0) (.int .u8 0) (.int .u8 0) (.int .i64 0) (.int .i64 0)) (Ne.symm (HB.out.2 g H5.out.2.2.foot))) (.int .i64 4) (.int .i64 0) (.bool false) (.int .i64 0) (.string ⟨#[]⟩)
          refine bodyPost_ret (ev_end rfl _ (put5H (put9H W5 g (.bool false) (.slice none 0 0) (.int .i64 3) (.int .u8 0) (.int .u8 0) (.int .u8 0) (.int .u8 0) (.int .i64 0) (.int .i64 0)) b2 (.int .i64 4) (.int .i64 0) (.bool false) (.int .i64 0) (.string ⟨#[]⟩)) b2 _ rfl hrE rfl) rfl ?_
          exact hfin
        | true =>
          refine take_at (i := 10) (d := some 37) (v := .bool false) rfl (by kernel_rfl) (by kernel_rfl) (by kernel_rfl) (fun _ _ _ h => h) (fun oi ho => ?_) hS5 ?_
          · obtain rfl := Option.some.inj ho
            exact Or.inl ⟨by rfl, fun wx hSw => by go_simp⟩
          simp only [Act.put, List.setIfInBounds_toArray, List.set_cons_zero, List.set_cons_succ]
          refine take_at (i := 11) (d := some 38) (v := .bool false) rfl (by kernel_rfl) (by kernel_rfl) (by kernel_rfl) (fun _ _ _ h => h) (fun oi ho => ?_) hS5 ?_
          · obtain rfl := Option.some.inj ho
            exact Or.inl ⟨by rfl, fun wx hSw => by go_simp⟩
          simp only [Act.put, List.setIfInBounds_toArray, List.set_cons_zero, List.set_cons_succ]
          refine wpAnyH_done (by kernel_rfl) ?_ _
          refine NoPanic.normal ?_
          try simp only [Act.put]
          have HMF : Hid (mayF ⟨fin, rsv, op, true, ⟨k0K, k1, k2, k3⟩, len, least⟩ st.masked = true) := Lib.hid (by rw [HNN.out.2.1, ← HMS.out]; rfl)
          have HY := Lib.hid (next_yes (HNN.out.1.1 HMF.out))
          have HR5 := Lib.hid (And.intro hS5.1 (fun e => H4.out.2.2.2.2.2 g H5.out.2.2.foot e.symm : b4 ≠ g))
          have HLN := Lib.hid (HNN.out.2.2.1 rfl)
          have HTK := Lib.hid (wtake16_any H5.out.2.2 n HN.out.2.1)
          clear hS5
          go_wp2_with fail
          refine HTK.out.mono ?_
          rintro e W6 ⟨rfl, ⟨v6, ow6, hA6⟩, hM6⟩
          have H6 : Hid (HrdAt W6 F g (st.buf.drop n) x v6 ow6 ∧ Moves F F w W6 ∧ Row W6 b2 #[.int .i64 0, .int .i64 0, .bool false, .int .i64 0, .string ⟨#[]⟩] 29 ∧ Row W6 b4 #[.bool fin, .int .i64 (rsv : Int), .int .i64 (op : Int), .bool true, B k0K, B k1, B k2, B k3, .int .u64 (len : Int), .bool least] 74) := Lib.hid ⟨hA6, (Moves.of_below H5.out.1).trans hM6, H5.out.2.1.moves hM6 (fun e => HB.out.2 b2 e rfl), HR5.out.1.moves hM6 (fun e => H4.out.2.2.2.2.2 b4 e rfl)⟩
          clear hA6 hM6 HTK
          go_wp2
          obtain ⟨Ws, hWs⟩ : ∃ Ws, Ws = W6.drew := ⟨_, rfl⟩
          have HS : Hid (HrdAt Ws F g (st.buf.drop n) x v6 ow6 ∧ Moves F F w Ws ∧ Row Ws b2 #[.int .i64 0, .int .i64 0, .bool false, .int .i64 0, .string ⟨#[]⟩] 29 ∧ Row Ws b4 #[.bool fin, .int .i64 (rsv : Int), .int .i64 (op : Int), .bool true, B k0K, B k1, B k2, B k3, .int .u64 (len : Int), .bool least] 74) := Lib.hid (by rw [hWs]; exact ⟨H6.out.1.drew, H6.out.2.1.trans (Moves.of_below ⟨rfl, rfl, rfl, Nat.le_refl _, fun _ _ => rfl⟩), H6.out.2.2.1.drew, H6.out.2.2.2.drew⟩)
          have hSS := HS.out.2.2.2
          have hcv : ∀ W, (convert 56 3 (.int .u64 (len : Int))).run Try.prog W = .ok (.int .i64 (len : Int)) W := conv_ui Try.underlying56 Try.underlying3 len HLN.out
          refine wp_region_noPanic ?_
          refine wp_region_held_drew (S := fun wx => Row wx b4 #[.bool fin, .int .i64 (rsv : Int), .int .i64 (op : Int), .bool true, B k0K, B k1, B k2, B k3, .int .u64 (len : Int), .bool least] 74) (by kernel_rfl) (by rw [← hWs]; exact hSS) (fun _ => ?_)
          rw [← hWs]
          clear hWs
          refine take_at (i := 0) (d := some 46) (v := .pointer (some ⟨g, 0, none⟩)) rfl (by kernel_rfl) (by kernel_rfl) (by kernel_rfl) (fun _ _ _ h => h) (fun oi ho => ?_) hSS ?_
          · obtain rfl := Option.some.inj ho
            exact Or.inl ⟨by rfl, fun wx hSw => by go_simp⟩
          simp only [Act.put, List.setIfInBounds_toArray, List.set_cons_zero, List.set_cons_succ]
          refine take_at (i := 1) (d := some 47) (v := .pointer (some ⟨g, 0, none⟩)) rfl (by kernel_rfl) (by kernel_rfl) (by kernel_rfl) (fun _ _ _ h => h) (fun oi ho => ?_) hSS ?_
          · obtain rfl := Option.some.inj ho
            exact Or.inl ⟨by rfl, fun wx hSw => by go_simp⟩
          simp only [Act.put, List.setIfInBounds_toArray, List.set_cons_zero, List.set_cons_succ]
          refine take_at (i := 2) (d := some 48) (v := .pointer (some ⟨g, 0, none⟩)) rfl (by kernel_rfl) (by kernel_rfl) (by kernel_rfl) (fun _ _ _ h => h) (fun oi ho => ?_) hSS ?_
          · obtain rfl := Option.some.inj ho
            exact Or.inl ⟨by rfl, fun wx hSw => by go_simp⟩
          simp only [Act.put, List.setIfInBounds_toArray, List.set_cons_zero, List.set_cons_succ]
          refine take_at (i := 3) (d := some 49) (v := .pointer (some ⟨b4, 4, none⟩)) rfl (by kernel_rfl) (by kernel_rfl) (by kernel_rfl) (fun _ _ _ h => h) (fun oi ho => ?_) hSS ?_
          · obtain rfl := Option.some.inj ho
            exact Or.inl ⟨by rfl, fun wx hSw => by go_simp⟩
          simp only [Act.put, List.setIfInBounds_toArray, List.set_cons_zero, List.set_cons_succ]
          refine take_at (i := 4) (d := some 50) (v := .agg #[B k0K, B k1, B k2, B k3]) rfl (by kernel_rfl) (by kernel_rfl) (by kernel_rfl) (fun _ _ _ h => h) (fun oi ho => ?_) hSS ?_
          · obtain rfl := Option.some.inj ho
            exact Or.inl ⟨by rfl, fun wx hSw => exec_load_mid 43 (.tmp 49) rfl b4 4 rfl [B k0K, B k1, B k2, B k3] _ (row_mid16 hSw 4 _ (fun j u hj => by rcases j with _ | _ | _ | _ | j <;> first | exact hj | cases hj)) Try.underlying43 rfl (by rw [infoK16]; rfl)⟩
          simp only [Act.put, List.setIfInBounds_toArray, List.set_cons_zero, List.set_cons_succ]
          refine take_at (i := 5) (d := some 51) (v := .pointer (some ⟨b4, 8, none⟩)) rfl (by kernel_rfl) (by kernel_rfl) (by kernel_rfl) (fun _ _ _ h => h) (fun oi ho => ?_) hSS ?_
          · obtain rfl := Option.some.inj ho
            exact Or.inl ⟨by rfl, fun wx hSw => by go_simp⟩
          simp only [Act.put, List.setIfInBounds_toArray, List.set_cons_zero, List.set_cons_succ]
          refine take_at (i := 6) (d := some 52) (v := .int .u64 (len : Int)) rfl (by kernel_rfl) (by kernel_rfl) (by kernel_rfl) (fun _ _ _ h => h) (fun oi ho => ?_) hSS ?_
          · obtain rfl := Option.some.inj ho
            exact Or.inl ⟨by rfl, fun wx hSw => by have c := cell_of_row wx b4 8 _ _ (0, 0) hSw; go_simp⟩
          simp only [Act.put, List.setIfInBounds_toArray, List.set_cons_zero, List.set_cons_succ]
          refine take_at (i := 7) (d := some 53) (v := .int .i64 (len : Int)) rfl (by kernel_rfl) (by kernel_rfl) (by kernel_rfl) (fun _ _ _ h => h) (fun oi ho => ?_) hSS ?_
          · obtain rfl := Option.some.inj ho
            exact Or.inl ⟨by rfl, fun wx hSw => by go_simp⟩
          simp only [Act.put, List.setIfInBounds_toArray, List.set_cons_zero, List.set_cons_succ]
          refine take_at (i := 8) (d := some 54) (v := .pointer (some ⟨g, 0, none⟩)) rfl (by kernel_rfl) (by kernel_rfl) (by kernel_rfl) (fun _ _ _ h => h) (fun oi ho => ?_) hSS ?_
          · obtain rfl := Option.some.inj ho
            exact Or.inl ⟨by rfl, fun wx hSw => by go_simp⟩
          simp only [Act.put, List.setIfInBounds_toArray, List.set_cons_zero, List.set_cons_succ]
          refine take_at (i := 9) (d := some 55) (v := .pointer (some ⟨g, 3, none⟩)) rfl (by kernel_rfl) (by kernel_rfl) (by kernel_rfl) (fun _ _ _ h => h) (fun oi ho => ?_) hSS ?_
          · obtain rfl := Option.some.inj ho
            exact Or.inl ⟨by rfl, fun wx hSw => by go_simp⟩
          simp only [Act.put, List.setIfInBounds_toArray, List.set_cons_zero, List.set_cons_succ]
          have hgr := HS.out.1.row
          unfold hrdC at hgr
          have y0 : Ws.cell? ⟨g, 0, none⟩ = some (.bool x.msk) := cell_of_row Ws _ 0 _ _ (0, 0) hgr
          have yf0 : Ws.frozen? ⟨g, 0, none⟩ = false := Row.frozen hgr 0
          have y1 : Ws.cell? ⟨g, 1, none⟩ = some (v6) := cell_of_row Ws _ 1 _ _ (0, 0) hgr
          have yf1 : Ws.frozen? ⟨g, 1, none⟩ = false := Row.frozen hgr 1
          have y2 : Ws.cell? ⟨g, 2, none⟩ = some (.int .i64 (x.nx : Int)) := cell_of_row Ws _ 2 _ _ (0, 0) hgr
          have yf2 : Ws.frozen? ⟨g, 2, none⟩ = false := Row.frozen hgr 2
          have y3 : Ws.cell? ⟨g, 3, none⟩ = some (B x.key.k0) := cell_of_row Ws _ 3 _ _ (0, 0) hgr
          have yf3 : Ws.frozen? ⟨g, 3, none⟩ = false := Row.frozen hgr 3
          have y4 : Ws.cell? ⟨g, 4, none⟩ = some (B x.key.k1) := cell_of_row Ws _ 4 _ _ (0, 0) hgr
          have yf4 : Ws.frozen? ⟨g, 4, none⟩ = false := Row.frozen hgr 4
          have y5 : Ws.cell? ⟨g, 5, none⟩ = some (B x.key.k2) := cell_of_row Ws _ 5 _ _ (0, 0) hgr
          have yf5 : Ws.frozen? ⟨g, 5, none⟩ = false := Row.frozen hgr 5
          have y6 : Ws.cell? ⟨g, 6, none⟩ = some (B x.key.k3) := cell_of_row Ws _ 6 _ _ (0, 0) hgr
          have yf6 : Ws.frozen? ⟨g, 6, none⟩ = false := Row.frozen hgr 6
          have y7 : Ws.cell? ⟨g, 7, none⟩ = some (.int .i64 (x.told : Int)) := cell_of_row Ws _ 7 _ _ (0, 0) hgr
          have yf7 : Ws.frozen? ⟨g, 7, none⟩ = false := Row.frozen hgr 7
          have y8 : Ws.cell? ⟨g, 8, none⟩ = some (.int .i64 (x.lacks : Int)) := cell_of_row Ws _ 8 _ _ (0, 0) hgr
          have yf8 : Ws.frozen? ⟨g, 8, none⟩ = false := Row.frozen hgr 8
          have hk6 := put6H_keeps Ws g (B k0K) (B k1) (B k2) (B k3) (.int .i64 0) (.int .i64 (len : Int))
          have hr6 := put6H_row hgr (B k0K) (B k1) (B k2) (B k3) (.int .i64 0) (.int .i64 (len : Int))
          have hb4g := HR5.out.2
          have ha : Row ((((Ws.setCell ⟨g, 3, none⟩ (B k0K)).setCell ⟨g, 4, none⟩ (B k1)).setCell ⟨g, 5, none⟩ (B k2)).setCell ⟨g, 6, none⟩ (B k3)) b4 #[.bool fin, .int .i64 (rsv : Int), .int .i64 (op : Int), .bool true, B k0K, B k1, B k2, B k3, .int .u64 (len : Int), .bool least] 74 := ((((hSS.other hb4g).other hb4g).other hb4g).other hb4g)
          have hb : Row (((((Ws.setCell ⟨g, 3, none⟩ (B k0K)).setCell ⟨g, 4, none⟩ (B k1)).setCell ⟨g, 5, none⟩ (B k2)).setCell ⟨g, 6, none⟩ (B k3)).setCell ⟨g, 7, none⟩ (.int .i64 0)) b4 #[.bool fin, .int .i64 (rsv : Int), .int .i64 (op : Int), .bool true, B k0K, B k1, B k2, B k3, .int .u64 (len : Int), .bool least] 74 := ha.other hb4g
          have hc : Row ((((((Ws.setCell ⟨g, 3, none⟩ (B k0K)).setCell ⟨g, 4, none⟩ (B k1)).setCell ⟨g, 5, none⟩ (B k2)).setCell ⟨g, 6, none⟩ (B k3)).setCell ⟨g, 7, none⟩ (.int .i64 0)).setCell ⟨g, 8, none⟩ (.int .i64 (len : Int))) b4 #[.bool fin, .int .i64 (rsv : Int), .int .i64 (op : Int), .bool true, B k0K, B k1, B k2, B k3, .int .u64 (len : Int), .bool least] 74 := hb.other hb4g
          refine ready_skip (i := 10) (d := none) (w' := ((((Ws.setCell ⟨g, 3, none⟩ (B k0K)).setCell ⟨g, 4, none⟩ (B k1)).setCell ⟨g, 5, none⟩ (B k2)).setCell ⟨g, 6, none⟩ (B k3))) rfl (by kernel_rfl) (fun oi ho => ?_) ha ?_
          · obtain rfl := Option.some.inj ho
            exact ⟨by rfl, by go_simp⟩
          refine take_at (i := 11) (d := some 56) (v := .pointer (some ⟨g, 0, none⟩)) rfl (by kernel_rfl) (by kernel_rfl) (by kernel_rfl) (fun _ _ _ h => h) (fun oi ho => ?_) ha ?_
          · obtain rfl := Option.some.inj ho
            exact Or.inl ⟨by rfl, fun wx hSw => by go_simp⟩
          simp only [Act.put, List.setIfInBounds_toArray, List.set_cons_zero, List.set_cons_succ]
          refine take_at (i := 12) (d := some 57) (v := .pointer (some ⟨g, 7, none⟩)) rfl (by kernel_rfl) (by kernel_rfl) (by kernel_rfl) (fun _ _ _ h => h) (fun oi ho => ?_) ha ?_
          · obtain rfl := Option.some.inj ho
            exact Or.inl ⟨by rfl, fun wx hSw => by go_simp⟩
          simp only [Act.put, List.setIfInBounds_toArray, List.set_cons_zero, List.set_cons_succ]
          refine ready_skip (i := 13) (d := none) (w' := (((((Ws.setCell ⟨g, 3, none⟩ (B k0K)).setCell ⟨g, 4, none⟩ (B k1)).setCell ⟨g, 5, none⟩ (B k2)).setCell ⟨g, 6, none⟩ (B k3)).setCell ⟨g, 7, none⟩ (.int .i64 0))) rfl (by kernel_rfl) (fun oi ho => ?_) hb ?_
          · obtain rfl := Option.some.inj ho
            exact ⟨by rfl, by go_simp⟩
          refine take_at (i := 14) (d := some 58) (v := .pointer (some ⟨g, 0, none⟩)) rfl (by kernel_rfl) (by kernel_rfl) (by kernel_rfl) (fun _ _ _ h => h) (fun oi ho => ?_) hb ?_
          · obtain rfl := Option.some.inj ho
            exact Or.inl ⟨by rfl, fun wx hSw => by go_simp⟩
          simp only [Act.put, List.setIfInBounds_toArray, List.set_cons_zero, List.set_cons_succ]
          refine take_at (i := 15) (d := some 59) (v := .pointer (some ⟨g, 8, none⟩)) rfl (by kernel_rfl) (by kernel_rfl) (by kernel_rfl) (fun _ _ _ h => h) (fun oi ho => ?_) hb ?_
          · obtain rfl := Option.some.inj ho
            exact Or.inl ⟨by rfl, fun wx hSw => by go_simp⟩
          simp only [Act.put, List.setIfInBounds_toArray, List.set_cons_zero, List.set_cons_succ]
          refine ready_skip (i := 16) (d := none) (w' := ((((((Ws.setCell ⟨g, 3, none⟩ (B k0K)).setCell ⟨g, 4, none⟩ (B k1)).setCell ⟨g, 5, none⟩ (B k2)).setCell ⟨g, 6, none⟩ (B k3)).setCell ⟨g, 7, none⟩ (.int .i64 0)).setCell ⟨g, 8, none⟩ (.int .i64 (len : Int)))) rfl (by kernel_rfl) (fun oi ho => ?_) hc ?_
          · obtain rfl := Option.some.inj ho
            exact ⟨by rfl, by go_simp⟩
          refine wpAnyH_done (by kernel_rfl) ?_ _
          refine NoPanic.normal ?_
          try simp only [Act.put]
          obtain ⟨W7, hW7⟩ : ∃ W, W = put6H Ws g (B k0K) (B k1) (B k2) (B k3) (.int .i64 0) (.int .i64 (len : Int)) := ⟨_, rfl⟩
          rw [← hW7] at hk6 hr6
          unfold put6H at hW7
          rw [← hW7] at hc ⊢
          have hA7 : HrdAt W7 F g (st.buf.drop n) ⟨x.msk, x.nx, ⟨k0K, k1, k2, k3⟩, 0, len⟩ v6 ow6 := HS.out.1.keeps hk6 hr6
          have hgb : b2 ≠ g := fun e => HB.out.2 g H5.out.2.2.foot e.symm
          have H7 := Lib.hid (And.intro hA7 (And.intro (HS.out.2.1.trans (Moves.keeps16 hk6 hA7.foot)) (And.intro (HS.out.2.2.1.keeps hk6 hgb) (And.intro hc hgb))))
          have c7 : W7.cell? ⟨g, 8, none⟩ = some (.int .i64 (len : Int)) := hA7.cells.1.2.2.2.2
          have c2 : W7.cell? ⟨g, 2, none⟩ = some (.int .i64 (x.nx : Int)) := hA7.cells.1.2.2.1
          have f2 := hA7.cells.2 2
          have HBH := Lib.hid (wbehind_any len W7)
          obtain ⟨NX, hNX⟩ : ∃ R : Nat, R = if len = 0 then 2 else 1 := ⟨_, rfl⟩
          rw [← hNX] at HBH
          have HNX := Lib.hid hNX
          clear y0 yf0 y1 yf1 y2 yf2 y3 yf3 y4 yf4 y5 yf5 y6 yf6 y7 yf7 y8 yf8 hgr hk6 hr6 ha hb hc hA7 hgb hW7 hNX hcv hSS HS H6 hb4g
          go_wp2_with fail
          refine HBH.out.mono ?_
          rintro e w' ⟨rfl, hw'⟩
          subst hw'
          clear HBH
          have hA8 := H7.out.1.put ⟨x.msk, NX, ⟨k0K, k1, k2, k3⟩, 0, len⟩ 2 (.int .i64 (NX : Int)) rfl
          have hm8 := H7.out.2.1.trans (moves_cell16 w' H7.out.1.foot 2 (.int .i64 (NX : Int)))
          obtain ⟨W8, hW8⟩ : ∃ W, W = w'.setCell ⟨g, 2, none⟩ (.int .i64 (NX : Int)) := ⟨_, rfl⟩
          have hr8 : Row W8 b2 #[.int .i64 0, .int .i64 0, .bool false, .int .i64 0, .string ⟨#[]⟩] 29 := by rw [hW8]; exact H7.out.2.2.1.other H7.out.2.2.2.2
          have hd8 : Row W8 b4 #[.bool fin, .int .i64 (rsv : Int), .int .i64 (op : Int), .bool true, B k0K, B k1, B k2, B k3, .int .u64 (len : Int), .bool least] 74 := by rw [hW8]; exact H7.out.2.2.2.1.other HR5.out.2
          rw [← hW8] at hA8 hm8
          have H8 := Lib.hid (And.intro hA8 (And.intro hm8 (And.intro hr8 hd8)))
          clear hA8 hm8 hr8 hd8 c7
          go_wp2
          rw [← hW8]
          clear hW8 c2 f2
          obtain ⟨Wt, hWt⟩ : ∃ Wt, Wt = W8.drew := ⟨_, rfl⟩
          have HU : Hid (HrdAt Wt F g (st.buf.drop n) ⟨x.msk, NX, ⟨k0K, k1, k2, k3⟩, 0, len⟩ v6 ow6 ∧ Moves F F w Wt ∧ Row Wt b2 #[.int .i64 0, .int .i64 0, .bool false, .int .i64 0, .string ⟨#[]⟩] 29 ∧ Row Wt b4 #[.bool fin, .int .i64 (rsv : Int), .int .i64 (op : Int), .bool true, B k0K, B k1, B k2, B k3, .int .u64 (len : Int), .bool least] 74) := Lib.hid (by rw [hWt]; exact ⟨H8.out.1.drew, H8.out.2.1.trans (Moves.of_below ⟨rfl, rfl, rfl, Nat.le_refl _, fun _ _ => rfl⟩), H8.out.2.2.1.drew, H8.out.2.2.2.drew⟩)
          have hSU : Row Wt b4 #[.bool fin, .int .i64 (rsv : Int), .int .i64 (op : Int), .bool true, B k0K, B k1, B k2, B k3, .int .u64 (len : Int), .bool least] 74 ∧ Wt.cell? ⟨g, 8, none⟩ = some (.int .i64 (len : Int)) := ⟨HU.out.2.2.2, HU.out.1.cells.1.2.2.2.2⟩
          refine wp_region_noPanic ?_
          refine wp_region_held_drew (S := fun wx => Row wx b4 #[.bool fin, .int .i64 (rsv : Int), .int .i64 (op : Int), .bool true, B k0K, B k1, B k2, B k3, .int .u64 (len : Int), .bool least] 74 ∧ wx.cell? ⟨g, 8, none⟩ = some (.int .i64 (len : Int))) (by kernel_rfl) (by rw [← hWt]; exact hSU) (fun _ => ?_)
          rw [← hWt]
          clear hWt
          refine take_at (i := 0) (d := some 68) (v := .pointer (some ⟨b4, 2, none⟩)) rfl (by kernel_rfl) (by kernel_rfl) (by kernel_rfl) (fun _ _ _ h => h) (fun oi ho => ?_) hSU ?_
          · obtain rfl := Option.some.inj ho
            exact Or.inl ⟨by rfl, fun wx hSw => by go_simp⟩
          simp only [Act.put, List.setIfInBounds_toArray, List.set_cons_zero, List.set_cons_succ]
          refine take_at (i := 1) (d := some 69) (v := .int .i64 (op : Int)) rfl (by kernel_rfl) (by kernel_rfl) (by kernel_rfl) (fun _ _ _ h => h) (fun oi ho => ?_) hSU ?_
          · obtain rfl := Option.some.inj ho
            exact Or.inl ⟨by rfl, fun wx hSw => by have c := cell_of_row wx b4 2 _ _ (0, 0) hSw.1; go_simp⟩
          simp only [Act.put, List.setIfInBounds_toArray, List.set_cons_zero, List.set_cons_succ]
          refine take_at (i := 2) (d := some 70) (v := .pointer (some ⟨b4, 0, none⟩)) rfl (by kernel_rfl) (by kernel_rfl) (by kernel_rfl) (fun _ _ _ h => h) (fun oi ho => ?_) hSU ?_
          · obtain rfl := Option.some.inj ho
            exact Or.inl ⟨by rfl, fun wx hSw => by go_simp⟩
          simp only [Act.put, List.setIfInBounds_toArray, List.set_cons_zero, List.set_cons_succ]
          refine take_at (i := 3) (d := some 71) (v := .bool fin) rfl (by kernel_rfl) (by kernel_rfl) (by kernel_rfl) (fun _ _ _ h => h) (fun oi ho => ?_) hSU ?_
          · obtain rfl := Option.some.inj ho
            exact Or.inl ⟨by rfl, fun wx hSw => by have c := cell_of_row wx b4 0 _ _ (0, 0) hSw.1; go_simp⟩
          simp only [Act.put, List.setIfInBounds_toArray, List.set_cons_zero, List.set_cons_succ]
          refine take_at (i := 4) (d := some 72) (v := .pointer (some ⟨g, 0, none⟩)) rfl (by kernel_rfl) (by kernel_rfl) (by kernel_rfl) (fun _ _ _ h => h) (fun oi ho => ?_) hSU ?_
          · obtain rfl := Option.some.inj ho
            exact Or.inl ⟨by rfl, fun wx hSw => by go_simp⟩
          simp only [Act.put, List.setIfInBounds_toArray, List.set_cons_zero, List.set_cons_succ]
          refine take_at (i := 5) (d := some 73) (v := .pointer (some ⟨g, 0, none⟩)) rfl (by kernel_rfl) (by kernel_rfl) (by kernel_rfl) (fun _ _ _ h => h) (fun oi ho => ?_) hSU ?_
          · obtain rfl := Option.some.inj ho
            exact Or.inl ⟨by rfl, fun wx hSw => by go_simp⟩
          simp only [Act.put, List.setIfInBounds_toArray, List.set_cons_zero, List.set_cons_succ]
          refine take_at (i := 6) (d := some 74) (v := .pointer (some ⟨g, 8, none⟩)) rfl (by kernel_rfl) (by kernel_rfl) (by kernel_rfl) (fun _ _ _ h => h) (fun oi ho => ?_) hSU ?_
          · obtain rfl := Option.some.inj ho
            exact Or.inl ⟨by rfl, fun wx hSw => by go_simp⟩
          simp only [Act.put, List.setIfInBounds_toArray, List.set_cons_zero, List.set_cons_succ]
          refine take_at (i := 7) (d := some 75) (v := .int .i64 (len : Int)) rfl (by kernel_rfl) (by kernel_rfl) (by kernel_rfl) (fun _ _ _ h => h) (fun oi ho => ?_) hSU ?_
          · obtain rfl := Option.some.inj ho
            exact Or.inl ⟨by rfl, fun wx hSw => by have c := hSw.2; go_simp⟩
          simp only [Act.put, List.setIfInBounds_toArray, List.set_cons_zero, List.set_cons_succ]
          refine take_at (i := 8) (d := some 76) (v := .agg #[.int .i64 1, .int .i64 (op : Int), .bool fin, .int .i64 (len : Int), .string ⟨#[]⟩]) rfl (by kernel_rfl) (by kernel_rfl) (by kernel_rfl) (fun _ _ _ h => h) (fun oi ho => ?_) hSU ?_
          · obtain rfl := Option.some.inj ho
            exact Or.inl ⟨by rfl, fun wx hSw => by go_simp⟩
          simp only [Act.put, List.setIfInBounds_toArray, List.set_cons_zero, List.set_cons_succ]
          have hrq := HU.out.2.2.1
          have z0 : Wt.cell? ⟨b2, 0, none⟩ = some (.int .i64 0) := cell_of_row Wt _ 0 _ _ (0, 0) hrq
          have zf0 : Wt.frozen? ⟨b2, 0, none⟩ = false := Row.frozen hrq 0
          have z1 : Wt.cell? ⟨b2, 1, none⟩ = some (.int .i64 0) := cell_of_row Wt _ 1 _ _ (0, 0) hrq
          have zf1 : Wt.frozen? ⟨b2, 1, none⟩ = false := Row.frozen hrq 1
          have z2 : Wt.cell? ⟨b2, 2, none⟩ = some (.bool false) := cell_of_row Wt _ 2 _ _ (0, 0) hrq
          have zf2 : Wt.frozen? ⟨b2, 2, none⟩ = false := Row.frozen hrq 2
          have z3 : Wt.cell? ⟨b2, 3, none⟩ = some (.int .i64 0) := cell_of_row Wt _ 3 _ _ (0, 0) hrq
          have zf3 : Wt.frozen? ⟨b2, 3, none⟩ = false := Row.frozen hrq 3
          have z4 : Wt.cell? ⟨b2, 4, none⟩ = some (.string ⟨#[]⟩) := cell_of_row Wt _ 4 _ _ (0, 0) hrq
          have zf4 : Wt.frozen? ⟨b2, 4, none⟩ = false := Row.frozen hrq 4
          have hkE := put5H_keeps Wt b2 (.int .i64 1) (.int .i64 (op : Int)) (.bool fin) (.int .i64 (len : Int)) (.string ⟨#[]⟩)
          have hSE : Row (put5H Wt b2 (.int .i64 1) (.int .i64 (op : Int)) (.bool fin) (.int .i64 (len : Int)) (.string ⟨#[]⟩)) b4 #[.bool fin, .int .i64 (rsv : Int), .int .i64 (op : Int), .bool true, B k0K, B k1, B k2, B k3, .int .u64 (len : Int), .bool least] 74 ∧ (put5H Wt b2 (.int .i64 1) (.int .i64 (op : Int)) (.bool fin) (.int .i64 (len : Int)) (.string ⟨#[]⟩)).cell? ⟨g, 8, none⟩ = some (.int .i64 (len : Int)) := by
            refine ⟨hSU.1.keeps hkE (Ne.symm H4.out.2.2.2.2.1), ?_⟩
            exact cell_of_row _ g 8 _ _ (0, 0) (HU.out.1.row.keeps hkE (HB.out.2 g HU.out.1.foot))
          refine ready_skip (i := 9) (d := none) (w' := (put5H Wt b2 (.int .i64 1) (.int .i64 (op : Int)) (.bool fin) (.int .i64 (len : Int)) (.string ⟨#[]⟩))) rfl (by kernel_rfl) (fun oi ho => ?_) hSE ?_
          · obtain rfl := Option.some.inj ho
            exact ⟨by rfl, by unfold put5H; go_simp⟩
          simp only [Act.put]
          refine take_at (i := 10) (d := some 3) (v := .bool true) rfl (by kernel_rfl) (by kernel_rfl) (by kernel_rfl) (fun _ _ _ h => h) (fun oi ho => ?_) hSE ?_
          · obtain rfl := Option.some.inj ho
            exact Or.inl ⟨by rfl, fun wx hSw => by go_simp⟩
          simp only [Act.put, List.setIfInBounds_toArray, List.set_cons_zero, List.set_cons_succ]
          refine wpAnyH_done (by kernel_rfl) ?_ _
          refine NoPanic.normal ?_
          try simp only [Act.put]
          have hrE := put5H_row HU.out.2.2.1 (.int .i64 1) (.int .i64 (op : Int)) (.bool fin) (.int .i64 (len : Int)) (.string ⟨#[]⟩)
          obtain ⟨WE, hWE⟩ : ∃ W, W = (put5H Wt b2 (.int .i64 1) (.int .i64 (op : Int)) (.bool fin) (.int .i64 (len : Int)) (.string ⟨#[]⟩)) := ⟨_, rfl⟩
          rw [← hWE] at hrE hkE ⊢
          clear hSE z0 zf0 z1 zf1 z2 zf2 z3 zf3 z4 zf4 hrq hSU hWE
          go_wp2
          refine bodyPost_ret (ev_end rfl _ WE b2 _ rfl hrE rfl) rfl ?_
          refine ⟨?_, F, ?_⟩
          · rw [HY.out.1, HNN.out.2.2.2]; rfl
          obtain ⟨m1, m2, m3⟩ := keeps_moves hkE HB.out.2 (by rw [HB.out.1]; exact Nat.le_refl _) HU.out.2.1 HU.out.1.old
          rw [HY.out.2]
          refine ⟨⟨_, v6, ow6, HU.out.1.same m2 m3, ?_⟩, m1⟩
          refine ⟨?_, fun e => absurd (show st.bad = true from e) (by rw [HX.out.2.2.1]; exact Bool.false_ne_true), fun _ => ⟨HX.out.2.2.2, fun e => (by cases e), fun k' a' l' e => ?_⟩⟩
          · show (st.buf.drop n).length ≤ 100000
            rw [List.length_drop]; have := HBL.out; omega
          · have e : (⟨k0K, k1, k2, k3⟩, 0, len) = (k', a', l') := Option.some.inj e
            injection e with e1 e2
            injection e2 with e2 e3
            subst e1 e2 e3
            refine ⟨rfl, rfl, rfl, HNX.out, ?_⟩
            have := HLN.out
            omega
end

theorem RA16.keeps {w w' : World} {F : Nat → Prop} {g b : Nat} {st : Fst} (h : RA16 w F g st) (hk : Keeps b w w') (hb : ∀ k, F k → k ≠ b) : RA16 w' F g st := h.same hk.size fun k hf => hk.block k (h.lt.2 k hf) (hb k hf)
theorem Moves.then16 {F F' : Nat → Prop} {w W W' : World} {b : Nat} (h : Moves F F' w W) (hk : Keeps b W W') (hle : w.heap.size ≤ b) : Moves F F' w W' :=
  ⟨hk.os.trans h.os, hk.tape.trans h.tape, hk.output.trans h.output, Nat.le_trans h.size hk.size, h.foot, fun k h1 h2 => (hk.block k (Nat.lt_of_lt_of_le h1 h.size) (by omega)).trans (h.rest k h1 h2)⟩
theorem nextV_form (st : Fst) : ∃ (e : Ev) (b : Bool), nextV st = .tuple #[evV e, .bool b] := by
  unfold nextV
  cases nextF st with
  | none => exact ⟨ev0, false, rfl⟩
  | some x => exact ⟨x.1, true, rfl⟩
theorem next_bad {st : Fst} (h : st.bad = true) : nextF st = none := by unfold nextF; rw [if_pos h]
theorem next_over {st : Fst} {k : Key4} {a : Nat} (hb : st.bad = false) (hc : st.cur = some (k, a, 0)) : nextF st = some (endE, { st with cur := none }) := by
  unfold nextF
  rw [hb, hc, if_neg Bool.false_ne_true]
  dsimp only
  rw [if_pos rfl]
section
variable {w : World} {F : Nat → Prop} {g : Nat} {st : Fst}
set_option maxRecDepth 100000 in
set_option maxHeartbeats 2000000 in
theorem wread16_any (h : RA16 w F g st) : Calls Try.prog 25 #[.pointer (some ⟨g, 0, none⟩)] w (NextR F g st w) := by
  have h0 := h
  obtain ⟨x, v, ow, h, hsy⟩ := h
  obtain ⟨W1, hW1⟩ : ∃ W, W = w.alloc (.cells #[.int .i64 0, .int .i64 0, .bool false, .int .i64 0, .string ⟨#[]⟩] 29) := ⟨_, rfl⟩
  obtain ⟨b2, hb2⟩ : ∃ b, b = w.heap.size := ⟨_, rfl⟩
  have hB1 : Below w.heap.size w W1 := by rw [hW1]; exact (Below.refl _ w).alloc (Nat.le_refl _) _
  have hr1 : Row W1 b2 #[.int .i64 0, .int .i64 0, .bool false, .int .i64 0, .string ⟨#[]⟩] 29 := by rw [hW1, hb2]; exact row_new w _ _
  have hA1 := h.below hB1
  have c2 := hA1.cells.1.2.2.1
  have hFb : ∀ k, F k → k ≠ b2 := fun k hk => Nat.ne_of_lt (by rw [hb2]; exact h.old k hk)
  obtain ⟨N, hN⟩ : ∃ N, N = x.nx := ⟨_, rfl⟩
  rw [← hN] at c2
  have H1 := Lib.hid (And.intro hB1 (And.intro hr1 (And.intro hA1 (And.intro hFb hb2))))
  -- what comes of a read, put into the result
  have HPUT : Hid (∀ (W2 : World) (F' : Nat → Prop) (e : Ev) (b : Bool) (c0 c1 c2 c3 c4 : Value), evC e = #[c0, c1, c2, c3, c4] → nextV st = .tuple #[evV e, .bool b] → RA16 W2 F' g (nextS st) → Moves F F' W1 W2 → NextR F g st w (.returned (.tuple #[.agg #[c0, c1, c2, c3, c4], .bool b])) (put5H W2 b2 c0 c1 c2 c3 c4) ∧ Row (put5H W2 b2 c0 c1 c2 c3 c4) b2 #[c0, c1, c2, c3, c4] 29 ∧ Row W2 b2 #[.int .i64 0, .int .i64 0, .bool false, .int .i64 0, .string ⟨#[]⟩] 29) := Lib.hid fun W2 F' e b c0 c1 c2 c3 c4 hce hv hR hM => by
    have hr2 := hr1.moves hM (fun e => hFb b2 e rfl)
    have hk := put5H_keeps W2 b2 c0 c1 c2 c3 c4
    refine ⟨⟨by rw [hv, evV, hce], F', hR.keeps hk (fun k hf => ?_), ((Moves.of_below hB1).trans hM).then16 hk (by rw [hb2]; exact Nat.le_refl _)⟩, put5H_row hr2 _ _ _ _ _, hr2⟩
    rcases hM.foot k hf with h1 | h1
    · exact hFb k h1
    · have := hr1.lt; omega
  have hsx := hsy
  clear hB1 hr1 hA1 hFb
  cases hb : st.bad with
  | true =>
    have hn3 : N = 3 := by rw [hN]; exact (hsy.2.1 hb).1
    subst hn3
    obtain ⟨hv, hs⟩ := next_no (next_bad hb)
    have HP : Hid (NextR F g st w (.returned (.tuple #[.agg #[.int .i64 0, .int .i64 0, .bool false, .int .i64 0, .string ⟨#[]⟩], .bool false])) W1) := Lib.hid ⟨by rw [hv], F, by rw [hs]; exact ⟨x, v, ow, H1.out.2.2.1, hsx⟩, Moves.of_below H1.out.1⟩
    clear h h0 hsy hsx hb hN hv hs HPUT
    rw [hW1] at c2
    go_enter Try.func25, Try.ntmps25
    go_wp2
    rw [← hW1, ← hb2]
    refine bodyPost_ret (ev_end rfl _ W1 b2 _ rfl H1.out.2.1 rfl) rfl ?_
    exact HP.out
  | false =>
    obtain ⟨-, hn1, hn2⟩ := hsy.2.2 hb
    cases hc : st.cur with
    | none =>
      have hn3 : N = 0 := by rw [hN]; exact hn1 hc
      subst hn3
      have HC := Lib.hid (whead16_any H1.out.2.2.1 hsx hb hc)
      obtain ⟨ee, bb, hev⟩ := nextV_form st
      have HEV := Lib.hid hev
      rw [hW1] at c2
      clear h h0 hsy hsx hb hN hn1 hn2 hc hev
      go_enter Try.func25, Try.ntmps25
      go_wp2_with fail
      rw [← hW1, ← hb2]
      clear hW1 hb2 c2
      refine HC.out.mono ?_
      rintro e W2 ⟨rfl, F', hR, hM⟩
      rw [HEV.out]
      have HP := Lib.hid (HPUT.out W2 F' ee bb (.int .i64 (ee.kind : Int)) (.int .i64 (ee.op : Int)) (.bool ee.fin) (.int .i64 (ee.len : Int)) (S ee.text) rfl HEV.out hR hM)
      have hrq := HP.out.2.2
      have z0 : W2.cell? ⟨b2, 0, none⟩ = some (.int .i64 0) := cell_of_row W2 _ 0 _ _ (0, 0) hrq
      have zf0 : W2.frozen? ⟨b2, 0, none⟩ = false := Row.frozen hrq 0
      have z1 : W2.cell? ⟨b2, 1, none⟩ = some (.int .i64 0) := cell_of_row W2 _ 1 _ _ (0, 0) hrq
      have zf1 : W2.frozen? ⟨b2, 1, none⟩ = false := Row.frozen hrq 1
      have z2 : W2.cell? ⟨b2, 2, none⟩ = some (.bool false) := cell_of_row W2 _ 2 _ _ (0, 0) hrq
      have zf2 : W2.frozen? ⟨b2, 2, none⟩ = false := Row.frozen hrq 2
      have z3 : W2.cell? ⟨b2, 3, none⟩ = some (.int .i64 0) := cell_of_row W2 _ 3 _ _ (0, 0) hrq
      have zf3 : W2.frozen? ⟨b2, 3, none⟩ = false := Row.frozen hrq 3
      have z4 : W2.cell? ⟨b2, 4, none⟩ = some (.string ⟨#[]⟩) := cell_of_row W2 _ 4 _ _ (0, 0) hrq
      have zf4 : W2.frozen? ⟨b2, 4, none⟩ = false := Row.frozen hrq 4
      unfold evV evC
      clear hR hM hrq HC HPUT
      go_wp2
      refine bodyPost_ret (ev_end rfl _ _ b2 _ rfl HP.out.2.1 rfl) rfl ?_
      exact HP.out.1
    | some y =>
      obtain ⟨k, a, l⟩ := y
      obtain ⟨-, -, hl, hn3, -⟩ := hn2 k a l hc
      by_cases hl0 : l = 0
      · subst hl0
        have hn4 : N = 2 := by rw [hN, hn3]; rfl
        subst hn4
        obtain ⟨hv, hs⟩ := next_yes (next_over hb hc)
        have hA2 := H1.out.2.2.1.put ⟨x.msk, 0, x.key, x.told, x.lacks⟩ 2 (.int .i64 0) rfl
        have hm2 := moves_cell16 W1 h.foot 2 (.int .i64 0)
        have hsy2 : SaysH ⟨x.msk, 0, x.key, x.told, x.lacks⟩ { st with cur := none } := ⟨hsx.1, fun e => absurd (show st.bad = true from e) (by rw [hb]; exact Bool.false_ne_true), fun _ => ⟨(hsx.2.2 hb).1, fun _ => rfl, fun _ _ _ e => (by cases e)⟩⟩
        obtain ⟨W2, hW2⟩ : ∃ W, W = W1.setCell ⟨g, 2, none⟩ (.int .i64 0) := ⟨_, rfl⟩
        rw [← hW2] at hA2 hm2
        have HP := Lib.hid (HPUT.out W2 F endE true (.int .i64 3) (.int .i64 0) (.bool false) (.int .i64 0) (.string ⟨#[]⟩) rfl hv (by rw [hs]; exact ⟨_, v, ow, hA2, hsy2⟩) hm2)
        have f2 := H1.out.2.2.1.cells.2 2
        have hrq := HP.out.2.2
        have z0 : W2.cell? ⟨b2, 0, none⟩ = some (.int .i64 0) := cell_of_row W2 _ 0 _ _ (0, 0) hrq
        have zf0 : W2.frozen? ⟨b2, 0, none⟩ = false := Row.frozen hrq 0
        have z1 : W2.cell? ⟨b2, 1, none⟩ = some (.int .i64 0) := cell_of_row W2 _ 1 _ _ (0, 0) hrq
        have zf1 : W2.frozen? ⟨b2, 1, none⟩ = false := Row.frozen hrq 1
        have z2 : W2.cell? ⟨b2, 2, none⟩ = some (.bool false) := cell_of_row W2 _ 2 _ _ (0, 0) hrq
        have zf2 : W2.frozen? ⟨b2, 2, none⟩ = false := Row.frozen hrq 2
        have z3 : W2.cell? ⟨b2, 3, none⟩ = some (.int .i64 0) := cell_of_row W2 _ 3 _ _ (0, 0) hrq
        have zf3 : W2.frozen? ⟨b2, 3, none⟩ = false := Row.frozen hrq 3
        have z4 : W2.cell? ⟨b2, 4, none⟩ = some (.string ⟨#[]⟩) := cell_of_row W2 _ 4 _ _ (0, 0) hrq
        have zf4 : W2.frozen? ⟨b2, 4, none⟩ = false := Row.frozen hrq 4
        clear h h0 hsy hsx hb hN hrq hv hs HPUT hn1 hn2 hc hn3 hl hA2 hm2 hsy2
        rw [hW2, hW1, hb2] at z0 zf0 z1 zf1 z2 zf2 z3 zf3 z4 zf4
        rw [hW1] at c2 f2
        go_enter Try.func25, Try.ntmps25
        go_wp2
        rw [← hW1, ← hW2, ← hb2]
        refine bodyPost_ret (ev_end rfl _ _ b2 _ rfl HP.out.2.1 rfl) rfl ?_
        exact HP.out.1
      · have hn4 : N = 1 := by rw [hN, hn3, if_neg hl0]
        subst hn4
        have HC := Lib.hid (wdata16_any H1.out.2.2.1 hsx hb hc hl0)
        obtain ⟨ee, bb, hev⟩ := nextV_form st
        have HEV := Lib.hid hev
        rw [hW1] at c2
        clear h h0 hsy hsx hb hN hn1 hn2 hc hev hn3 hl hl0
        go_enter Try.func25, Try.ntmps25
        go_wp2_with fail
        rw [← hW1, ← hb2]
        clear hW1 hb2 c2
        refine HC.out.mono ?_
        rintro e W2 ⟨rfl, F', hR, hM⟩
        rw [HEV.out]
        have HP := Lib.hid (HPUT.out W2 F' ee bb (.int .i64 (ee.kind : Int)) (.int .i64 (ee.op : Int)) (.bool ee.fin) (.int .i64 (ee.len : Int)) (S ee.text) rfl HEV.out hR hM)
        have hrq := HP.out.2.2
        have z0 : W2.cell? ⟨b2, 0, none⟩ = some (.int .i64 0) := cell_of_row W2 _ 0 _ _ (0, 0) hrq
        have zf0 : W2.frozen? ⟨b2, 0, none⟩ = false := Row.frozen hrq 0
        have z1 : W2.cell? ⟨b2, 1, none⟩ = some (.int .i64 0) := cell_of_row W2 _ 1 _ _ (0, 0) hrq
        have zf1 : W2.frozen? ⟨b2, 1, none⟩ = false := Row.frozen hrq 1
        have z2 : W2.cell? ⟨b2, 2, none⟩ = some (.bool false) := cell_of_row W2 _ 2 _ _ (0, 0) hrq
        have zf2 : W2.frozen? ⟨b2, 2, none⟩ = false := Row.frozen hrq 2
        have z3 : W2.cell? ⟨b2, 3, none⟩ = some (.int .i64 0) := cell_of_row W2 _ 3 _ _ (0, 0) hrq
        have zf3 : W2.frozen? ⟨b2, 3, none⟩ = false := Row.frozen hrq 3
        have z4 : W2.cell? ⟨b2, 4, none⟩ = some (.string ⟨#[]⟩) := cell_of_row W2 _ 4 _ _ (0, 0) hrq
        have zf4 : W2.frozen? ⟨b2, 4, none⟩ = false := Row.frozen hrq 4
        unfold evV evC
        clear hR hM hrq HC HPUT
        go_wp2
        refine bodyPost_ret (ev_end rfl _ _ b2 _ rfl HP.out.2.1 rfl) rfl ?_
        exact HP.out.1
end

end Go.Proofs.Ytlmolmmhkddpaaa
