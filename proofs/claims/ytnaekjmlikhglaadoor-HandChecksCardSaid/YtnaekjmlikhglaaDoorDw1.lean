/- The landed Accept walked (out of Db's text of the document's). -/
import Derived.Test.YtnaekjmlikhglaaDoorDb
import Derived.Test.YtnaekjmlikhglaaDoorNsW7
import Derived.Test.YtnaekjmlikhglaaDoorNbW5
namespace Go.Proofs.YtnaekjmlikhglaaDoor
open Go.RowKit
attribute [local go_sem] store_one B_match B_store S_match S_store

theorem sa_sum (t : List UInt8) (ht : t.length ≤ 20000) (w : World) (hs : sa.Start w) : Calls Tryd.prog 41 #[S t] w fun e w' => e = .returned (.agg (bcells (sa.shaL t))) ∧ Below w.heap.size w w' := by
  have h := sa.sum_any t w hs (by omega)
  rw [sa_S, sa_bcells] at h
  exact h
theorem bb_lenc (t : List UInt8) (ht : t.length ≤ 10000) (w : World) : Calls Tryd.prog 20 #[S t] w fun e w' => e = .returned (S (bb.enc t)) ∧ Below w.heap.size w w' := by
  have h := bb.encode_any t (by omega) w
  rw [bb_S, bb_S] at h
  exact h
theorem bb_ldec (t : List UInt8) (ht : t.length ≤ 10000) (w : World) : Calls Tryd.prog 48 #[S t] w fun e w' => e = .returned (.tuple #[S ((bb.dec t).getD []), .bool (bb.dec t).isSome]) ∧ Below w.heap.size w w' := by
  have h := bb.decode_any t (by omega) w
  unfold bb.ans at h
  rw [bb_S, bb_S] at h
  exact h
set_option maxRecDepth 100000 in
set_option maxHeartbeats 1000000 in
theorem accept17_any (k : DTx) (hk : k.length ≤ 5000) (w : World) (hs : sa.Start w) : Calls Tryd.prog 16 #[S k] w fun e w' => e = .returned (S (accF k)) ∧ Below w.heap.size w w' := by
  have ha : binOp .add 9 (S k) (.string ⟨#[50, 53, 56, 69, 65, 70, 65, 53, 45, 69, 57, 49, 52, 45, 52, 55, 68, 65, 45, 57, 53, 67, 65, 45, 67, 53, 65, 66, 48, 68, 67, 56, 53, 66, 49, 49]⟩) = pure (S (k ++ guidD)) := S_add 9 k guidD (by simp only [guidD, List.length_cons, List.length_nil]; omega)
  obtain ⟨kg, hkg⟩ : ∃ x, x = k ++ guidD := ⟨_, rfl⟩
  have hkl : kg.length ≤ 5036 := by rw [hkg, List.length_append]; simp only [guidD, List.length_cons, List.length_nil]; omega
  have hS := sa_sum kg (by omega) w hs
  have hlen := sha_len kg
  obtain ⟨sm, hsm⟩ : ∃ x, x = sa.shaL kg := ⟨_, rfl⟩
  have HV : Hid (accF k = bb.enc sm) := Lib.hid (by unfold accF; rw [← hkg, ← hsm])
  rw [← hsm] at hS hlen
  have HE : Hid (∀ W, Calls Tryd.prog 20 #[S sm] W fun e w' => e = .returned (S (bb.enc sm)) ∧ Below W.heap.size W w') := Lib.hid fun W => bb_lenc sm (by omega) W
  rw [← hkg] at ha
  clear hkg hkl hsm
  obtain ⟨Z, hZ⟩ : ∃ z, z = sa.Z20 := ⟨_, rfl⟩
  have hz : ∀ w', (zeroValue 55).run Tryd.prog w' = .ok (.agg Z) w' := by rw [hZ]; exact sa.z22
  obtain ⟨C, hC⟩ : ∃ c, c = bcells sm := ⟨_, rfl⟩
  have hCs : C.size = 20 := by rw [hC, bcells_size, hlen]
  have HZC : Hid (Z.size = C.size) := Lib.hid (by rw [hCs, hZ]; rfl)
  have HIC : Hid ((Tryd.prog.info? 55).map (·.size) = some C.size) := Lib.hid (by rw [hCs]; exact sa.i22)
  have HC1 : Hid (C.all (·.oneCell') = true) := Lib.hid (by rw [hC]; exact bcells_one sm)
  obtain ⟨en, hen⟩ : ∃ x, x = S sm := ⟨_, rfl⟩
  have HT : Hid (∀ W : World, (convert 42 9 (.slice (some ⟨W.heap.size, 0, none⟩) 20 20)).run Tryd.prog ((W.alloc (.cells Z 55)).setRow W.heap.size C) = .ok en ((W.alloc (.cells Z 55)).setRow W.heap.size C)) := Lib.hid fun W => by
    rw [hen, hC]
    exact row_text20 (setRow_heap _ _ _ _ _ _ (row_new W _ _)) hlen
  rw [← hC] at hS
  rw [← hen] at HE
  obtain ⟨ec, hec⟩ : ∃ x, x = S (bb.enc sm) := ⟨_, rfl⟩
  rw [← hec] at HE
  rw [← HV.out] at hec
  have HEC := Lib.hid hec
  have HS := Lib.hid hS
  clear hS hlen hen hec HV hZ hC
  go_enter Tryd.func16, Tryd.ntmps16
  go_wp2_with fail
  refine HS.out.mono ?_
  rintro e W2 ⟨rfl, hB⟩
  have hcv := HT.out W2
  have HB := Lib.hid ((hB.alloc hB.size (.cells Z 55)).setRow hB.size C)
  have HRW := Lib.hid (row_new W2 Z 55)
  clear hB HS HT
  have hst : (storeCells ⟨W2.heap.size, 0, none⟩ C.toList).run Tryd.prog (W2.alloc (.cells Z 55)) = .ok () ((W2.alloc (.cells Z 55)).setRow W2.heap.size C) := store_whole HRW.out HZC.out HC1.out
  go_wp2_with fail
  clear hst hCs
  refine (HE.out _).mono ?_
  rintro e W3 ⟨rfl, hB⟩
  have HB3 := Lib.hid (HB.out.trans (hB.mono HB.out.size))
  clear hB HE hcv
  go_wp2
  go_ret
  exact ⟨by rw [← HEC.out]; rfl, HB3.out⟩
end Go.Proofs.YtnaekjmlikhglaaDoor
