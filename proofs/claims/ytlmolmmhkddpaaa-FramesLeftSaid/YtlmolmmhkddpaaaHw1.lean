/- The landed package of frames as they come: the reader in memory; its short functions walked. -/
import Derived.Test.YtlmolmmhkddpaaaHa
import Derived.Test.YtlmolmmhkddpaaaRt2
namespace Go.Proofs.Ytlmolmmhkddpaaa
open Go.RowKit
attribute [local go_sem] store_one B_match B_store S_match S_store eguard_BN nguard_BN

/-- A head is read of its first fourteen bytes. -/
theorem head_take (s : List UInt8) : readHeadF (s.take 14) = readHeadF s := by
  rcases s with _ | ⟨a, _ | ⟨b, t⟩⟩
  · rfl
  · rfl
  · have hm : moreN b ≤ 12 := by unfold moreN wideN; split <;> split <;> (try split) <;> omega
    rw [show (a :: b :: t).take 14 = a :: b :: t.take 12 from rfl]
    by_cases h : t.length < moreN b
    · rw [List.take_of_length_le (by omega)]
    · have h2 := head_cons a b (t.take 12) (by rw [List.length_take]; omega)
      have h3 := (head_app h2).2.2 (t.drop 12)
      rw [List.cons_append, List.cons_append, List.take_append_drop] at h3
      rw [h2, h3]
theorem head_few16 {s : List UInt8} {h : Hd} {n : Nat} (hs : readHeadF s = some (h, n)) : h.rsv ≤ 7 ∧ h.op ≤ 15 ∧ h.len < 18446744073709551616 := by
  rcases s with _ | ⟨a, _ | ⟨b, t⟩⟩
  · cases hs
  · cases hs
  · rw [readHeadF] at hs
    split at hs
    · cases hs
    · injection hs with hs
      injection hs with h1 h2
      subst h1
      unfold headOf
      refine ⟨by dsimp only; omega, by dsimp only; omega, ?_⟩
      dsimp only
      split
      · omega
      · have hw : wideN b.toNat ≤ 8 := by unfold wideN; split <;> (try split) <;> omega
        have hl : (t.take (wideN b.toNat)).length ≤ 8 := by rw [List.length_take]; omega
        have := ofBE_lt (t.take (wideN b.toNat))
        have h3 : 256 ^ (t.take (wideN b.toNat)).length ≤ 256 ^ 8 := Nat.pow_le_pow_right (by omega) hl
        omega
theorem may_parts (h : Hd) (m : Bool) : mayF h m = ((h.masked == m) && mayF h h.masked) := by
  unfold mayF
  cases h1 : decide (h.rsv = 0) <;> cases h2 : decide (h.op ≤ 2 ∨ (8 ≤ h.op ∧ h.op ≤ 10)) <;> cases h3 : (h.masked == m) <;> simp
/-- A reader's cells, but for the bytes that wait. -/
structure Hrd where
  msk : Bool
  nx : Nat
  key : Key4
  told : Nat
  lacks : Nat
def hrdC (x : Hrd) (v : Value) : Array Value := #[.bool x.msk, v, .int .i64 (x.nx : Int), B x.key.k0, B x.key.k1, B x.key.k2, B x.key.k3, .int .i64 (x.told : Int), .int .i64 (x.lacks : Int)]
/-- How the cells stand for the automaton. -/
def SaysH (x : Hrd) (st : Fst) : Prop := st.buf.length ≤ 100000 ∧ (st.bad = true → x.nx = 3 ∧ st.buf = []) ∧
  (st.bad = false → x.msk = st.masked ∧ (st.cur = none → x.nx = 0) ∧ ∀ k a l, st.cur = some (k, a, l) → x.key = k ∧ x.told = a ∧ x.lacks = l ∧ x.nx = (if l = 0 then 2 else 1) ∧ a + l < 9223372036854775808)
/-- In block g lies a reader; b waits. -/
structure HrdAt (w : World) (F : Nat → Prop) (g : Nat) (b : List UInt8) (x : Hrd) (v : Value) (ow : Option Nat) : Prop where
  row : Row w g (hrdC x v) 45
  wait : WaitO w v ow b
  foot : F g
  own : ∀ k, ow = some k → F k ∧ k ≠ g
  old : ∀ k, F k → k < w.heap.size
def RA16 (w : World) (F : Nat → Prop) (g : Nat) (st : Fst) : Prop := ∃ x v ow, HrdAt w F g st.buf x v ow ∧ SaysH x st
section
variable {w w' : World} {F : Nat → Prop} {g : Nat} {b : List UInt8} {x : Hrd} {v : Value} {ow : Option Nat} {st : Fst}
theorem HrdAt.same (h : HrdAt w F g b x v ow) (hs : w.heap.size ≤ w'.heap.size) (hb : ∀ k, F k → w'.heap[k]? = w.heap[k]?) : HrdAt w' F g b x v ow :=
  ⟨(hb g h.foot).trans h.row, h.wait.same fun k hk => hb k (h.own k hk).1, h.foot, h.own, fun k hk => Nat.lt_of_lt_of_le (h.old k hk) hs⟩
theorem HrdAt.below (h : HrdAt w F g b x v ow) (hb : Below w.heap.size w w') : HrdAt w' F g b x v ow := h.same hb.size fun k hk => hb.block k (h.old k hk)
theorem HrdAt.drew (h : HrdAt w F g b x v ow) : HrdAt w.drew F g b x v ow := h.same (Nat.le_refl _) fun _ _ => rfl
theorem HrdAt.cells (h : HrdAt w F g b x v ow) : (w.cell? ⟨g, 0, none⟩ = some (.bool x.msk) ∧ w.cell? ⟨g, 1, none⟩ = some v ∧ w.cell? ⟨g, 2, none⟩ = some (.int .i64 (x.nx : Int)) ∧ w.cell? ⟨g, 7, none⟩ = some (.int .i64 (x.told : Int)) ∧ w.cell? ⟨g, 8, none⟩ = some (.int .i64 (x.lacks : Int))) ∧ ∀ i, w.frozen? ⟨g, i, none⟩ = false :=
  ⟨⟨cell_of_row w _ 0 _ _ (0, 0) h.row, cell_of_row w _ 1 _ _ (0, 0) h.row, cell_of_row w _ 2 _ _ (0, 0) h.row, cell_of_row w _ 7 _ _ (0, 0) h.row, cell_of_row w _ 8 _ _ (0, 0) h.row⟩, h.row.frozen⟩
theorem moves_cell16 (w : World) (hF : F g) (i : Nat) (v : Value) : Moves F F w (w.setCell ⟨g, i, none⟩ v) :=
  ⟨rfl, rfl, rfl, by simp [World.setCell], fun _ hk => .inl hk, fun k _ hn => Below.heap_setCell _ _ _ _ (fun e => hn (by rw [e]; exact hF))⟩
/-- A number turned. -/
theorem HrdAt.put (h : HrdAt w F g b x v ow) (y : Hrd) (i : Nat) (u : Value) (hc : (hrdC x v).setIfInBounds i u = hrdC y v) : HrdAt (w.setCell ⟨g, i, none⟩ u) F g b y v ow := by
  refine ⟨by have := h.row.set i u; rw [hc] at this; exact this, h.wait.same fun k hk => Below.heap_setCell _ _ _ _ (h.own k hk).2, h.foot, h.own, fun k hk => by have := h.old k hk; simpa [World.setCell] using this⟩
/-- Other bytes wait. -/
theorem HrdAt.putW (h : HrdAt w F g b x v ow) {b' : List UInt8} {u : Value} {ow' : Option Nat} (hw : WaitO w u ow' b') (ho : ∀ k, ow' = some k → F k ∧ k ≠ g) : HrdAt (w.setCell ⟨g, 1, none⟩ u) F g b' x u ow' := by
  refine ⟨h.row.set 1 u, hw.same fun k hk => Below.heap_setCell _ _ _ _ (ho k hk).2, h.foot, ho, fun k hk => by have := h.old k hk; simpa [World.setCell] using this⟩
theorem RA16.same (h : RA16 w F g st) (hs : w.heap.size ≤ w'.heap.size) (hb : ∀ k, F k → w'.heap[k]? = w.heap[k]?) : RA16 w' F g st := by
  obtain ⟨x, v, ow, h, h2⟩ := h; exact ⟨x, v, ow, h.same hs hb, h2⟩
theorem RA16.lt (h : RA16 w F g st) : F g ∧ ∀ k, F k → k < w.heap.size := by
  obtain ⟨x, v, ow, h, -⟩ := h; exact ⟨h.foot, h.old⟩
theorem RA16.below (h : RA16 w F g st) (hb : Below w.heap.size w w') : RA16 w' F g st := h.same hb.size fun k hk => hb.block k (h.lt.2 k hk)
/-- What is read next, of an automaton. -/
theorem SaysH.bad3 (h : SaysH x st) : (x.nx == 3) = st.bad := by
  cases hb : st.bad with
  | true => rw [(h.2.1 hb).1]; rfl
  | false =>
    obtain ⟨-, h1, h2⟩ := h.2.2 hb
    cases hc : st.cur with
    | none => rw [h1 hc]; rfl
    | some y =>
      obtain ⟨k, a, l⟩ := y
      rw [(h2 k a l hc).2.2.2.1]
      split <;> rfl
theorem SaysH.idle0 (h : SaysH x st) : ((x.nx == 0) && (st.buf.length == 0)) = st.idle := by
  unfold Fst.idle
  cases hb : st.bad with
  | true => rw [(h.2.1 hb).1]; rfl
  | false =>
    obtain ⟨-, h1, h2⟩ := h.2.2 hb
    cases hc : st.cur with
    | none => rw [h1 hc]; cases st.buf <;> rfl
    | some y =>
      obtain ⟨k, a, l⟩ := y
      rw [(h2 k a l hc).2.2.2.1]
      split <;> rfl
def zr16 : Array Value := #[.bool false, .slice none 0 0, .int .i64 0, .int .u8 0, .int .u8 0, .int .u8 0, .int .u8 0, .int .i64 0, .int .i64 0]
theorem zr16_is : (Try.prog.info? 45).map (·.zero) = some (some (.agg zr16)) := by kernel_rfl
def hrd0 (m : Bool) (n : Nat) : Hrd := ⟨m, n, key0, 0, 0⟩
theorem hrd_fresh (m : Bool) (n : Nat) (w : World) : HrdAt (w.alloc (.cells (hrdC (hrd0 m n) (.slice none 0 0)) 45)) (fun k => k = w.heap.size) w.heap.size [] (hrd0 m n) (.slice none 0 0) none :=
  ⟨row_new w _ _, .nil _, rfl, fun k hk => (by cases hk), fun k hk => (by rw [alloc_size]; omega)⟩
theorem says_fresh (m : Bool) : SaysH (hrd0 m 0) (fresh16 m) :=
  ⟨Nat.zero_le _, fun h => (by cases h), fun _ => ⟨rfl, fun _ => rfl, fun k a l h => (by cases h)⟩⟩
theorem zero16 (w : World) : RA16 (w.alloc (.cells zr16 45)) (fun k => k = w.heap.size) w.heap.size (fresh16 false) :=
  ⟨_, _, _, hrd_fresh false 0 w, says_fresh false⟩
end
set_option maxRecDepth 100000 in
set_option maxHeartbeats 400000 in
theorem wnew16_any (m : Bool) (w : World) : Calls Try.prog 10 #[.bool m] w fun e w' => ∃ g F, e = .returned (.pointer (some ⟨g, 0, none⟩)) ∧ RA16 w' F g (fresh16 m) ∧ (∀ k, F k → w.heap.size ≤ k) ∧ Below w.heap.size w w' := by
  go_enter Try.func10, Try.ntmps10
  go_wp2
  go_ret
  exact ⟨_, _, rfl, ⟨_, _, _, hrd_fresh m 0 w, says_fresh m⟩, fun k hk => by omega, (Below.refl _ w).alloc (Nat.le_refl _) _⟩
set_option maxRecDepth 100000 in
set_option maxHeartbeats 400000 in
theorem wbehind_any (n : Nat) (w : World) : Calls Try.prog 38 #[.int .i64 (n : Int)] w fun e w' => e = .returned (.int .i64 ((if n = 0 then 2 else 1 : Nat) : Int)) ∧ w' = w := by
  obtain ⟨R, hR⟩ : ∃ R : Nat, R = if n = 0 then 2 else 1 := ⟨_, rfl⟩
  rw [← hR]
  by_cases h : n = 0
  · have q : ((n : Int) == 0) = true := by rw [beq_iff_eq]; omega
    have HE : Hid (R = 2) := Lib.hid (by rw [hR, if_pos h])
    clear h hR
    go_enter Try.func38, Try.ntmps38
    go_wp2
    go_ret
    rw [HE.out]
    exact ⟨rfl, rfl⟩
  · have q : ((n : Int) == 0) = false := by rw [beq_eq_false_iff_ne]; omega
    have HE : Hid (R = 1) := Lib.hid (by rw [hR, if_neg h])
    clear h hR
    go_enter Try.func38, Try.ntmps38
    go_wp2
    go_ret
    rw [HE.out]
    exact ⟨rfl, rfl⟩
section
variable {w : World} {F : Nat → Prop} {g : Nat} {st : Fst}
set_option maxRecDepth 100000 in
set_option maxHeartbeats 400000 in
theorem wbad16_any (h : RA16 w F g st) : Calls Try.prog 14 #[.pointer (some ⟨g, 0, none⟩)] w fun e w' => e = .returned (.bool st.bad) ∧ Below w.heap.size w w' := by
  obtain ⟨x, v, ow, h, hs⟩ := h
  obtain ⟨⟨c0, c1, c2, c7, c8⟩, fz⟩ := h.cells
  have hb := hs.bad3
  have q : ((x.nx : Int) == 3) = st.bad := by rw [← hb]; exact Bool.eq_iff_iff.2 (by rw [beq_iff_eq, beq_iff_eq]; omega)
  clear h hs hb c0 c1 c7 c8 fz
  go_enter Try.func14, Try.ntmps14
  go_wp2
  go_ret
  exact ⟨rfl, Below.refl _ w⟩
set_option maxRecDepth 100000 in
set_option maxHeartbeats 400000 in
theorem widle16_any (h : RA16 w F g st) : Calls Try.prog 15 #[.pointer (some ⟨g, 0, none⟩)] w fun e w' => e = .returned (.bool st.idle) ∧ Below w.heap.size w w' := by
  obtain ⟨x, v, ow, h, hs⟩ := h
  obtain ⟨⟨c0, c1, c2, c7, c8⟩, fz⟩ := h.cells
  have hlen := h.wait.toV.len 3
  have hi := hs.idle0
  have q1 : ((st.buf.length : Int) == 0) = (st.buf.length == 0) := Bool.eq_iff_iff.2 (by rw [beq_iff_eq, beq_iff_eq]; omega)
  obtain ⟨L, hL⟩ : ∃ L, L = st.buf.length := ⟨_, rfl⟩
  rw [← hL] at hlen q1 hi
  cases h0 : (x.nx == 0) with
  | true =>
    have q : ((x.nx : Int) == 0) = true := by rw [beq_iff_eq] at h0 ⊢; omega
    rw [h0, Bool.true_and] at hi
    rw [hi] at q1
    clear h hs c0 c7 c8 fz hL hi h0
    go_enter Try.func15, Try.ntmps15
    go_wp2
    go_ret
    exact ⟨rfl, Below.refl _ w⟩
  | false =>
    have q : ((x.nx : Int) == 0) = false := by rw [beq_eq_false_iff_ne] at h0 ⊢; omega
    rw [h0, Bool.false_and] at hi
    have HI := Lib.hid hi
    clear h hs c0 c7 c8 fz hL hi h0 q1 hlen c1
    go_enter Try.func15, Try.ntmps15
    go_wp2
    go_ret
    rw [← HI.out]
    exact ⟨rfl, Below.refl _ w⟩
end
set_option maxRecDepth 100000 in
set_option maxHeartbeats 400000 in
theorem wbad16_0 (w : World) : Calls Try.prog 14 #[.pointer none] w fun e w' => e = .returned (.bool true) ∧ Below w.heap.size w w' := by
  go_enter Try.func14, Try.ntmps14
  go_wp2
  go_ret
  exact ⟨rfl, Below.refl _ w⟩
set_option maxRecDepth 100000 in
set_option maxHeartbeats 400000 in
theorem widle16_0 (w : World) : Calls Try.prog 15 #[.pointer none] w fun e w' => e = .returned (.bool false) ∧ Below w.heap.size w w' := by
  go_enter Try.func15, Try.ntmps15
  go_wp2
  go_ret
  exact ⟨rfl, Below.refl _ w⟩
set_option maxRecDepth 100000 in
set_option maxHeartbeats 400000 in
theorem wfeed16_0 (s : List UInt8) (w : World) : Calls Try.prog 11 #[.pointer none, S s] w fun e w' => e = .returned (.tuple #[]) ∧ Below w.heap.size w w' := by
  go_enter Try.func11, Try.ntmps11
  go_wp2
  first | refine bodyPost_ret (results_none rfl _ _ _) rfl ?_ | refine bodyPost_end (results_none rfl _ _ _) rfl ?_
  exact ⟨rfl, Below.refl _ w⟩
end Go.Proofs.Ytlmolmmhkddpaaa
