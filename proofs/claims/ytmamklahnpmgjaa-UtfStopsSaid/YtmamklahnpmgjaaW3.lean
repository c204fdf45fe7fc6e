/- The walk of a check's read. -/
import Derived.Test.YtmamklahnpmgjaaW2
namespace Go.Proofs.Ytmamklahnpmgjaa
open Go.RowKit
attribute [local go_sem] store_one

/-- In block g lies the check k. -/
structure ChkAt (w : World) (g : Nat) (k : Chk) : Prop where
  ok : k.Ok
  row : ∃ lo hi : Nat, Row w g #[.int .i64 k.n, .int .i64 k.T.length, .int .u8 lo, .int .u8 hi, .bool k.bad] 40 ∧ Waits k.T k.T.length lo hi
theorem ChkAt.below {w w' : World} {g b : Nat} {k : Chk} (h : ChkAt w g k) (hb : Below b w w') (hg : g < b) : ChkAt w' g k := by
  obtain ⟨h0, lo, hi, hr, hw⟩ := h
  exact ⟨h0, lo, hi, hr.below hb hg, hw⟩
theorem ChkAt.keeps {w w' : World} {g b : Nat} {k : Chk} (h : ChkAt w g k) (hb : Keeps b w w') (hg : g ≠ b) : ChkAt w' g k := by
  obtain ⟨h0, lo, hi, hr, hw⟩ := h
  exact ⟨h0, lo, hi, hr.keeps hb hg, hw⟩
theorem ChkAt.same {w w' : World} {g : Nat} {k : Chk} (h : ChkAt w g k) (hb : w'.heap[g]? = w.heap[g]?) : ChkAt w' g k := by
  obtain ⟨h0, lo, hi, hr, hw⟩ := h
  exact ⟨h0, lo, hi, hb.trans hr, hw⟩
theorem ChkAt.lt {w : World} {g : Nat} {k : Chk} (h : ChkAt w g k) : g < w.heap.size := by
  obtain ⟨_, lo, hi, hr, hw⟩ := h
  exact hr.lt

set_option maxRecDepth 100000 in
set_option maxHeartbeats 2000000 in
theorem read_any (k : Chk) (g : Nat) (c : UInt8) (w : World) (hk : ChkAt w g k) (hn : k.n < 1000000000) :
    Calls Try.prog 20 #[.pointer (some ⟨g, 0, none⟩), B c] w fun e w' => e = .returned (.tuple #[]) ∧ ChkAt w' g (k.read c) ∧ Keeps g w w' := by
  obtain ⟨h0, lo, hi, hr, hw⟩ := hk
  have hg := hr.lt
  have c0 : w.cell? ⟨g, 0, none⟩ = some (.int .i64 k.n) := cell_of_row w _ 0 _ 40 (0, 0) hr
  have c1 : w.cell? ⟨g, 1, none⟩ = some (.int .i64 k.T.length) := cell_of_row w _ 1 _ 40 (0, 0) hr
  have c2 : w.cell? ⟨g, 2, none⟩ = some (.int .u8 lo) := cell_of_row w _ 2 _ 40 (0, 0) hr
  have c3 : w.cell? ⟨g, 3, none⟩ = some (.int .u8 hi) := cell_of_row w _ 3 _ 40 (0, 0) hr
  have HH := Lib.hid (And.intro h0 (And.intro hr hw))
  clear h0 hr hw
  go_enter Try.func20, Try.ntmps20
  go_wp2_with fail
  refine (behind_any k.T k.T.length lo hi HH.out.2.2 HH.out.1.three HH.out.1.same c w).mono ?_
  rintro e W1 ⟨⟨n', lo', hi', rfl, hT'⟩, hB⟩
  unfold GV
  have hr1 := HH.out.2.1.below hB hg
  clear c0 c1 c2 c3
  have c0 : W1.cell? ⟨g, 0, none⟩ = some (.int .i64 k.n) := cell_of_row W1 _ 0 _ 40 (0, 0) hr1
  have c1 : W1.cell? ⟨g, 1, none⟩ = some (.int .i64 k.T.length) := cell_of_row W1 _ 1 _ 40 (0, 0) hr1
  have c2 : W1.cell? ⟨g, 2, none⟩ = some (.int .u8 lo) := cell_of_row W1 _ 2 _ 40 (0, 0) hr1
  have c3 : W1.cell? ⟨g, 3, none⟩ = some (.int .u8 hi) := cell_of_row W1 _ 3 _ 40 (0, 0) hr1
  have c4 : W1.cell? ⟨g, 4, none⟩ = some (.bool k.bad) := cell_of_row W1 _ 4 _ 40 (0, 0) hr1
  have f0 := hr1.frozen 0
  have f1 := hr1.frozen 1
  have f2 := hr1.frozen 2
  have f3 := hr1.frozen 3
  have f4 := hr1.frozen 4
  have hg1 : g < W1.heap.size := Nat.lt_of_lt_of_le hg hB.size
  have H1 := Lib.hid (And.intro hr1 (And.intro hB hT'))
  clear hr1 hB hT'
  cases hx : nextF k.T c with
  | none =>
    have HX := Lib.hid hx
    clear hx
    go_wp2
    refine bodyPost_ret (results_none rfl _ _ _) rfl ?_
    refine ⟨rfl, ⟨HH.out.1.read c, lo, hi, ?_⟩, ((Keeps.of_below (H1.out.2.1)).trans (Keeps.setCell W1 4 _)).trans (Keeps.of_below ((Below.refl _ _).alloc (Nat.le_refl _) _))⟩
    have e : k.read c = { k with bad := true } := by unfold Chk.read; rw [HX.out]
    rw [e]
    exact ⟨(H1.out.1.set 4 (.bool true)).alloc _, HH.out.2.2⟩
  | some T' =>
    have HX := Lib.hid hx
    clear hx
    go_wp2
    go_end0
    have e : k.read c = { k with n := k.n + 1, T := T' } := by unfold Chk.read; rw [HX.out]
    have hw := H1.out.2.2 T' HX.out
    refine ⟨rfl, ⟨HH.out.1.read c, lo', hi', ?_⟩, (((((Keeps.of_below (H1.out.2.1)).trans (Keeps.setCell _ 1 _)).trans (Keeps.setCell _ 2 _)).trans (Keeps.setCell _ 3 _)).trans (Keeps.setCell _ 0 _)).trans (Keeps.of_below ((Below.refl _ _).alloc (Nat.le_refl _) _))⟩
    rw [e]
    show Row _ _ #[.int .i64 ((k.n + 1 : Nat) : Int), .int .i64 T'.length, .int .u8 lo', .int .u8 hi', .bool k.bad] 40 ∧ Waits T' T'.length lo' hi'
    rw [hw.len, show ((k.n + 1 : Nat) : Int) = (k.n : Int) + 1 by omega]
    exact ⟨((((H1.out.1.set 1 _).set 2 _).set 3 _).set 0 _).alloc _, hw.len ▸ hw⟩
end Go.Proofs.Ytmamklahnpmgjaa
