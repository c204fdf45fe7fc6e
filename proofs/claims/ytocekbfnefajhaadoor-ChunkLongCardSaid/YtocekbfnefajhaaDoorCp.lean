/- ChunkReads and ChunkPieces walked, over any package that does what is asked of it. (hdoc: the document's Reads.) -/
import Derived.Test.YtocekbfnefajhaaDoorCi
import Derived.Test.YtocekbfnefajhaaDoorCg
namespace Go.Proofs.YtocekbfnefajhaaDoor
open Go.RowKit
attribute [local go_sem] store_one S_match S_store

set_option maxRecDepth 100000 in
set_option maxHeartbeats 1000000 in
theorem creads_any {RA : World → (Nat → Prop) → Nat → Cst → Prop} (C : ChunkI RA) (D : DocReads) (s : List UInt8) (_hs : s.length ≤ maxLen) (w : World) :
    Calls Tryd.prog 4 #[S s] w fun e w' => e = .returned (.bool true) ∧ Below w.heap.size w w' := by
  have hlen := run_len_S (P := Tryd.prog) Tryd.underlying9 3 s
  have HC := Lib.hid C
  by_cases h : 10000 < s.length
  · have j1 : decide ((10000 : Int) < (s.length : Int)) = true := decide_eq_true (by omega)
    go_enter Tryd.func4, Tryd.ntmps4
    go_wp2_with fail
    refine (awake_chunk HC.out _).mono ?_
    rintro e W1 ⟨rfl, hB⟩
    have HB := Lib.hid hB
    clear hB
    go_wp2
    go_ret
    exact ⟨rfl, HB.out⟩
  have j1 : decide ((10000 : Int) < (s.length : Int)) = false := decide_eq_false (by omega)
  have HD := Lib.hid (D s · (by omega))
  obtain ⟨u, hu⟩ : ∃ u, u = (Cst.new.run s).1 := ⟨_, rfl⟩
  obtain ⟨st, hst⟩ : ∃ st, st = (Cst.new.run s).2 := ⟨_, rfl⟩
  have hul : u ≤ s.length := by rw [hu]; exact run_le s _
  have HF : Hid (∀ {w : World} {F : Nat → Prop} {g : Nat}, RA w F g Cst.new → Calls Tryd.prog 12 #[.pointer (some ⟨g, 0, none⟩), S s] w fun e w' => e = .returned (.int .i64 (u : Int)) ∧ ∃ F', RA w' F' g st ∧ Moves F F' w w') := Lib.hid fun h => by
    rw [hu, hst]; exact HC.out.feed s h (by omega)
  have hrv : readsV s = .tuple #[.int .i64 (u : Int), S st.data, .bool st.isDone, .int .i64 (st.badN : Int)] := by rw [hu, hst]; rfl
  rw [hrv] at HD
  have e0 : binOp .eql 9 (S st.data) (S st.data) = pure (.bool true) := by rw [eql_S]; simp
  have g0 := guard_S 9
  have b0 : ∀ (x : Bool) w, (binOp .eql 4 (.bool x) (.bool x)).run Tryd.prog w = .ok (.bool true) w := fun x w => by cases x <;> rfl
  have n1 : ((u : Int) == (u : Int)) = true := by simp
  have n2 : ((st.badN : Int) == (st.badN : Int)) = true := by simp
  clear h _hs C D hu hst hrv
  go_enter Tryd.func4, Tryd.ntmps4
  go_wp2_with fail
  refine (awake_chunk HC.out _).mono ?_
  rintro e W1 ⟨rfl, hB⟩
  have H1 := Lib.hid hB
  clear hB
  go_wp2_with fail
  refine (HC.out.new _).mono ?_
  rintro e W2 ⟨g, F, rfl, hR, hF, hB⟩
  have H2 : Hid (RA W2 F g Cst.new ∧ (∀ k, F k → w.heap.size ≤ k) ∧ Below w.heap.size w W2) := Lib.hid ⟨hR, fun k hk => by have := hF k hk; have := H1.out.size; omega, H1.out.trans (hB.mono H1.out.size)⟩
  clear hR hF hB
  go_wp2_with fail
  refine (HF.out H2.out.1).mono ?_
  rintro e W3 ⟨rfl, F', hR, hM⟩
  have H3 : Hid (RA W3 F' g st ∧ Below w.heap.size w W3) := Lib.hid ⟨hR, H2.out.2.2.trans (hM.below H2.out.2.1 H2.out.2.2.size)⟩
  clear hR hM
  go_wp2_with fail
  refine (HD.out _).mono ?_
  rintro e W4 ⟨rfl, hB⟩
  have H4 : Hid (RA W4 F' g st ∧ Below w.heap.size w W4) := Lib.hid ⟨HC.out.below H3.out.1 hB, H3.out.2.trans (hB.mono H3.out.2.size)⟩
  clear hB
  go_wp2_with fail
  refine (HC.out.data H4.out.1).mono ?_
  rintro e W5 ⟨rfl, hB⟩
  have H5 : Hid (RA W5 F' g st ∧ Below w.heap.size w W5) := Lib.hid ⟨HC.out.below H4.out.1 hB, H4.out.2.trans (hB.mono H4.out.2.size)⟩
  clear hB
  go_wp2_with fail
  refine (HC.out.done H5.out.1).mono ?_
  rintro e W6 ⟨rfl, hB⟩
  have H6 : Hid (RA W6 F' g st ∧ Below w.heap.size w W6) := Lib.hid ⟨HC.out.below H5.out.1 hB, H5.out.2.trans (hB.mono H5.out.2.size)⟩
  clear hB
  go_wp2_with fail
  refine (HC.out.bad H6.out.1).mono ?_
  rintro e W7 ⟨rfl, hB⟩
  have H7 := Lib.hid (H6.out.2.trans (hB.mono H6.out.2.size))
  clear hB
  go_wp2
  go_ret
  exact ⟨rfl, H7.out⟩
end Go.Proofs.YtocekbfnefajhaaDoor
