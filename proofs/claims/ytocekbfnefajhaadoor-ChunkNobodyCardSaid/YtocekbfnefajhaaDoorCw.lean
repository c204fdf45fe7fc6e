/- ChunkNobody walked, over any package that does what is asked of it. (mkcw.py writes it.) -/
import Derived.Test.YtocekbfnefajhaaDoorCz
namespace Go.Proofs.YtocekbfnefajhaaDoor
open Go.RowKit
attribute [local go_sem] store_one S_match S_store

set_option maxRecDepth 100000 in
set_option maxHeartbeats 4000000 in
theorem cnobody_any {RA : World → (Nat → Prop) → Nat → Cst → Prop} (C : ChunkI RA) (D : DocReads) (hzero : ∀ w : World, RA (w.alloc (.cells zeroC 38)) (fun k => k = w.heap.size) w.heap.size Cst.new) (s : List UInt8) (_hs : s.length ≤ maxLen) (w : World) :
    Calls Tryd.prog 6 #[S s] w fun e w' => e = .returned (.bool true) ∧ Below w.heap.size w w' := by
  have hlen := run_len_S (P := Tryd.prog) Tryd.underlying9 3 s
  have HC := Lib.hid C
  have HZ := Lib.hid hzero
  clear hzero
  by_cases h : 2000 < s.length
  · have j1 : decide ((2000 : Int) < (s.length : Int)) = true := decide_eq_true (by omega)
    go_enter Tryd.func6, Tryd.ntmps6
    go_wp2_with fail
    refine (awake_chunk HC.out _).mono ?_
    rintro e W1 ⟨rfl, hB⟩
    have HB := Lib.hid hB
    clear hB
    go_wp2
    go_ret
    exact ⟨rfl, HB.out⟩
  have j1 : decide ((2000 : Int) < (s.length : Int)) = false := decide_eq_false (by omega)
  have HD := Lib.hid (D s · (by omega))
  have HSL := Lib.hid (show s.length ≤ 100000 by omega)
  obtain ⟨u, hu⟩ : ∃ u, u = (Cst.new.run s).1 := ⟨_, rfl⟩
  obtain ⟨st, hst⟩ : ∃ st, st = (Cst.new.run s).2 := ⟨_, rfl⟩
  have HR : Hid (Cst.new.run s = (u, st)) := Lib.hid (by rw [hu, hst])
  have hrv : readsV s = .tuple #[.int .i64 (u : Int), S st.data, .bool st.isDone, .int .i64 (st.badN : Int)] := by rw [hu, hst]; rfl
  rw [hrv] at HD
  have e0 : binOp .eql 9 (S st.data) (S st.data) = pure (.bool true) := by rw [eql_S]; simp
  have g0 := guard_S 9
  have e1 : binOp .eql 9 (S []) (.string ⟨#[]⟩) = pure (.bool true) := eql_S 9 [] []
  have g1 : ∀ x y, eqGuard .eql 9 x y (S []) (.string ⟨#[]⟩) = pure () := fun x y => guard_S 9 x y [] []
  have b0 : ∀ (x : Bool) w, (binOp .eql 4 (.bool x) (.bool x)).run Tryd.prog w = .ok (.bool true) w := fun x w => by cases x <;> rfl
  have n1 : ((u : Int) == (u : Int)) = true := by simp
  have n2 : ((st.badN : Int) == (st.badN : Int)) = true := by simp
  clear h _hs C D hu hst hrv
  go_enter Tryd.func6, Tryd.ntmps6
  go_wp2_with fail
  refine (awake_chunk HC.out _).mono ?_
  rintro e W1 ⟨rfl, hB⟩
  have H1 := Lib.hid hB
  clear hB
  have h2 : One RA w W1.heap.size Cst.new (W1.alloc (.cells zeroC 38)) := ⟨⟨_, HZ.out W1, fun k hk => by have := H1.out.size; omega⟩, H1.out.alloc H1.out.size _⟩
  have H2 := Lib.hid h2
  clear h2
  go_wp2_with fail
  refine (H2.out.done HC.out).mono ?_
  rintro e W3 ⟨rfl, h3⟩
  have H3 := Lib.hid h3
  clear h3 H2
  rw [show Cst.new.isDone = false from rfl]
  generalize W1.heap.size = g at *
  go_wp2_with fail
  refine (H3.out.bad HC.out).mono ?_
  rintro e W4 ⟨rfl, h4⟩
  have H4 := Lib.hid h4
  clear h4 H3
  rw [show ((Cst.new.badN : Nat) : Int) = 0 from rfl]
  go_wp2_with fail
  refine (H4.out.data HC.out).mono ?_
  rintro e W5 ⟨rfl, h5⟩
  have H5 := Lib.hid h5
  clear h5 H4
  rw [show Cst.new.data = [] from rfl]
  go_wp2_with fail
  refine (H5.out.feedAs HC.out HSL.out HR.out).mono ?_
  rintro e W6 ⟨rfl, h6⟩
  have H6 := Lib.hid h6
  clear h6 H5
  go_wp2_with fail
  refine (HD.out _).mono ?_
  rintro e W7 ⟨rfl, h7⟩
  have H7 := Lib.hid (H6.out.below HC.out h7)
  clear h7 H6
  go_wp2_with fail
  refine (HC.out.feed0 s _ HSL.out).mono ?_
  rintro e W8 ⟨rfl, h8⟩
  have H8 := Lib.hid (H7.out.below HC.out h8)
  clear h8 H7
  go_wp2_with fail
  refine (HC.out.data0 _).mono ?_
  rintro e W9 ⟨rfl, h9⟩
  have H9 := Lib.hid (H8.out.below HC.out h9)
  clear h9 H8
  go_wp2_with fail
  refine (HC.out.done0 _).mono ?_
  rintro e W10 ⟨rfl, h10⟩
  have H10 := Lib.hid (H9.out.below HC.out h10)
  clear h10 H9
  go_wp2_with fail
  refine (HC.out.bad0 _).mono ?_
  rintro e W11 ⟨rfl, h11⟩
  have H11 := Lib.hid (H10.out.below HC.out h11)
  clear h11 H10
  go_wp2_with fail
  refine (H11.out.data HC.out).mono ?_
  rintro e W12 ⟨rfl, h12⟩
  have H12 := Lib.hid h12
  clear h12 H11
  go_wp2_with fail
  refine (H12.out.done HC.out).mono ?_
  rintro e W13 ⟨rfl, h13⟩
  have H13 := Lib.hid h13
  clear h13 H12
  go_wp2_with fail
  refine (H13.out.bad HC.out).mono ?_
  rintro e W14 ⟨rfl, h14⟩
  have H14 := Lib.hid h14
  clear h14 H13
  go_wp2
  go_ret
  exact ⟨rfl, H14.out.bel⟩
end Go.Proofs.YtocekbfnefajhaaDoor
