/- The walks of a hash's Sum, Len and New, and of Sum. -/
import Derived.Test.YtihgmgphfdjcfaaDoorW6
import Derived.Test.YtihgmgphfdjcfaaDoorW5
import Derived.Test.YtihgmgphfdjcfaaDoorW3
namespace Go.Proofs.YtihgmgphfdjcfaaDoor
open Go.RowKit
attribute [local go_sem] U_add U_xor U_and U_or U_not U_shl U_shr store_one U_match B_match U_store B_store

/-- Seventy noughts: a hash of nothing yet. -/
def Z70 : Array Value := (hcl ⟨0, 0, 0, 0, 0⟩ (List.replicate 64 0) 0).toArray
theorem z38 : ∀ w, (zeroValue 38).run Tryd.prog w = .ok (.agg Z70) w := (zero_of_info (n := 70) (by kernel_rfl)).1
theorem isHash_new (w : World) (b : Nat) (h : Row w b Z70 38) : IsHash b [] w :=
  ⟨⟨0, 0, 0, 0, 0⟩, List.replicate 64 0, h, by simp, fun h => absurd rfl h⟩
theorem hcl_one (ws : S5) (bg : List UInt8) (n : Nat) : (hcl ws bg n).toArray.all (·.oneCell') = true := by
  refine Array.all_eq_true_iff_forall_mem.2 fun v hv => ?_
  simp only [hcl, List.mem_toArray, List.mem_append, List.mem_map, List.mem_singleton] at hv
  rcases hv with ⟨x, _, rfl⟩ | ⟨x, _, rfl⟩ | rfl <;> rfl

set_option maxRecDepth 100000 in
set_option maxHeartbeats 2000000 in
theorem hashSum_any (b : Nat) (t : List UInt8) (w : World) (h0 : IsHash b t w) (hs : Start w) (ht : t.length < 100000000000000) :
    Calls Tryd.prog 14 #[.pointer (some ⟨b, 0, none⟩)] w fun e w' => e = .returned (.agg (bcells (shaL t))) ∧ Below w.heap.size w w' := by
  obtain ⟨ws, bg, R0, hb, hinv⟩ := h0
  have hz1 := z22
  have hz2 := z38
  have HB := Lib.hid hb
  have HI := Lib.hid hinv
  have hsz : Hid ((Tryd.prog.info? 38).map (·.size) = some (hcl ws bg t.length).toArray.size) := by
    unfold Hid; rw [List.size_toArray, hcl_length _ _ _ hb]; exact i38
  have hold : Hid (Z70.size = (hcl ws bg t.length).toArray.size) := by
    have e : (hcl ws bg t.length).toArray.size = 70 := by rw [List.size_toArray, hcl_length _ _ _ hb]
    unfold Hid; rw [e]; rfl
  have e1 : (w.alloc (.cells Z20 22)).heap.size = w.heap.size + 1 := alloc_size _ _
  have R1 : Row (w.alloc (.cells Z20 22)) b (hcl ws bg t.length).toArray 38 := Row.alloc R0.cells _
  have RN : Row ((w.alloc (.cells Z20 22)).alloc (.cells Z70 38)) (w.heap.size + 1) Z70 38 := by
    have := row_new (w.alloc (.cells Z20 22)) Z70 38
    rw [e1] at this; exact this
  have RR : Row ((w.alloc (.cells Z20 22)).alloc (.cells Z70 38)) w.heap.size Z20 22 := Row.alloc (row_new w Z20 22) _
  have RB := Row.alloc R1 (.cells Z70 38)
  have S1 := (hs.alloc (.cells Z20 22)).alloc (.cells Z70 38)
  have b2 : Below w.heap.size w ((w.alloc (.cells Z20 22)).alloc (.cells Z70 38)) := ((Below.refl _ _).alloc (Nat.le_refl _) _).alloc (by simp) _
  have hlt := HRow.lt R0
  have HH := Lib.hid (And.intro RN (And.intro RR (And.intro RB (And.intro S1 (And.intro b2 R1)))))
  clear hb hinv e1 R1 RN RR RB S1 b2
  go_enter Tryd.func14, Tryd.ntmps14
  go_wp2_with (first
    | (refine wpList_load_var rfl 38 (.tmp 8) (by with_reducible rfl) b rfl HH.out.2.2.2.2.2 _ Tryd.underlying38 rfl hsz.out ?_)
    | (refine wpList_store_var rfl rfl 38 (.tmp 3) (.tmp 9) (by with_reducible rfl) (w.heap.size + 1) _ rfl rfl HH.out.1 hsz.out hold.out (hcl_one _ _ _) ?_; intro W3 R3 K3; have c69 := HRow.num (HH.out.2.2.1.keeps K3 (by omega)) HB.out)
    | (go_at_call 18; refine (padding_any t.length (by omega) _).mono ?_; rintro e W4 ⟨rfl, B4⟩)
    | fail)
  obtain ⟨RN, RR, RB, S1, b2, R1⟩ := HH.out
  have S3 := S1.keeps K3 (by omega)
  have S4 := S3.below B4 S3.lt
  have IH4 : IsHash (w.heap.size + 1) t W4 := ⟨ws, bg, R3.below B4 R3.lt, HB.out, HI.out⟩
  have RR3 := RR.keeps K3 (by omega)
  have RR4 := RR3.below B4 RR3.lt
  have z2 := b2.size
  have z3 := K3.size
  have z4 := B4.size
  have c3 := K3.below (k := w.heap.size) z2 (by omega)
  have b4 := (b2.trans c3).trans (B4.mono (by omega))
  refine (write_any (w.heap.size + 1) t (padL t.length) W4 IH4 S4 (by rw [padL_length]; omega)).mono ?_
  rintro e W5 ⟨rfl, ⟨ws5, bg5, R5, I5⟩, K5⟩
  have RR5 := RR4.keeps K5 (by omega)
  have z5 := K5.size
  have b5 := b4.trans (K5.below (k := w.heap.size) (by omega) (by omega))
  have hsha : shaL t = wbs ws5.l 20 := by rw [shaL, full, ← I5.words]
  have HSH := Lib.hid hsha
  have HS1 : Hid ((Tryd.prog.info? 22).map (·.size) = some (bcells (wbs ws5.l 20)).size) := by unfold Hid; rw [bcells_size, wbs_length]; exact i22
  have HS2 : Hid (Z20.size = (bcells (wbs ws5.l 20)).size) := by unfold Hid; rw [bcells_size, wbs_length]; rfl
  clear hsha c69 RN RR RB S1 b2 R1 c3 b4 z2 z3
  go_wp2_with (first
    | (refine wpList_load_ws rfl (.tmp 16) (by with_reducible rfl) (w.heap.size + 1) rfl R5 ?_)
    | (go_at_call 19; refine (wordBytes_any ws5.l rfl _).mono ?_; rintro e W6 ⟨rfl, B6⟩; have RR6 := RR5.below B6 RR5.lt)
    | (refine wpList_store_var rfl rfl 22 (.tmp 2) (.tmp 18) (by with_reducible rfl) w.heap.size _ rfl rfl RR6 HS1.out HS2.out (bcells_one _) ?_; intro W7 R7 K7))
  have z6 := B6.size
  have z7 := b5.size
  refine bodyPost_ret (v := .agg (bcells (wbs ws5.l 20))) (results_cell_row rfl _ _ w.heap.size 22 _ (0, 0) _ rfl R7 Tryd.underlying22 rfl HS1.out) rfl ⟨by rw [HSH.out], ?_⟩
  exact (b5.trans (B6.mono (by omega))).trans (K7.below (k := w.heap.size) (by omega) (Nat.le_refl _))
set_option maxRecDepth 100000 in
set_option maxHeartbeats 2000000 in
theorem sum_any (t : List UInt8) (w : World) (hs : Start w) (ht : t.length < 100000000000000) :
    Calls Tryd.prog 9 #[S t] w fun e w' => e = .returned (.agg (bcells (shaL t))) ∧ Below w.heap.size w w' := by
  have hz1 := z22
  have hz2 := z38
  have e1 : (w.alloc (.cells Z20 22)).heap.size = w.heap.size + 1 := alloc_size _ _
  have RN : Row ((w.alloc (.cells Z20 22)).alloc (.cells Z70 38)) (w.heap.size + 1) Z70 38 := by
    have := row_new (w.alloc (.cells Z20 22)) Z70 38
    rw [e1] at this; exact this
  have RR : Row ((w.alloc (.cells Z20 22)).alloc (.cells Z70 38)) w.heap.size Z20 22 := Row.alloc (row_new w Z20 22) _
  have S1 := (hs.alloc (.cells Z20 22)).alloc (.cells Z70 38)
  have b2 : Below w.heap.size w ((w.alloc (.cells Z20 22)).alloc (.cells Z70 38)) := ((Below.refl _ _).alloc (Nat.le_refl _) _).alloc (by simp) _
  have HH := Lib.hid (And.intro RN (And.intro RR (And.intro S1 b2)))
  have HS1 : Hid ((Tryd.prog.info? 22).map (·.size) = some (bcells (shaL t)).size) := by unfold Hid; rw [bcells_size, shaL, wbs_length]; exact i22
  have HS2 : Hid (Z20.size = (bcells (shaL t)).size) := by unfold Hid; rw [bcells_size, shaL, wbs_length]; rfl
  clear e1 RN RR S1 b2
  go_enter Tryd.func9, Tryd.ntmps9
  go_wp2_with fail
  obtain ⟨RN, RR, S1, b2⟩ := HH.out
  refine (write_any (w.heap.size + 1) [] t _ (isHash_new _ _ RN) S1 (by simp; omega)).mono ?_
  rintro e W5 ⟨rfl, M5, K5⟩
  have I5 := M5.isHash
  have S5' := S1.keeps K5 (by omega)
  have RR5 := RR.keeps K5 (by omega)
  have z2 := b2.size
  have z5 := K5.size
  have b5 := b2.trans (K5.below (k := w.heap.size) z2 (by omega))
  clear M5 RN RR S1 b2
  go_wp2_with (first
    | (go_at_call 14; refine (hashSum_any (w.heap.size + 1) ([] ++ t) _ I5 S5' ht).mono ?_; rintro e W6 ⟨rfl, B6⟩; have RR6 := RR5.below B6 RR5.lt)
    | (refine wpList_store_var rfl rfl 22 (.tmp 2) (.tmp 6) (by with_reducible rfl) w.heap.size (bcells (shaL t)) rfl rfl RR6 HS1.out HS2.out (bcells_one _) ?_; intro W7 R7 K7))
  have z6 := B6.size
  have z7 := b5.size
  refine bodyPost_ret (v := .agg (bcells (shaL t))) (results_cell_row rfl _ _ w.heap.size 22 _ (0, 0) _ rfl R7 Tryd.underlying22 rfl HS1.out) rfl ⟨rfl, ?_⟩
  exact (b5.trans (B6.mono (by omega))).trans (K7.below (k := w.heap.size) (by omega) (Nat.le_refl _))

set_option maxRecDepth 100000 in
set_option maxHeartbeats 2000000 in
theorem hashSum_nil (w : World) (hs : Start w) :
    Calls Tryd.prog 14 #[.pointer none] w fun e w' => e = .returned (.agg (bcells (shaL []))) ∧ Below w.heap.size w w' := by
  have hz1 := z22
  have hS : Value.string ⟨#[]⟩ = S [] := rfl
  have RR : Row (w.alloc (.cells Z20 22)) w.heap.size Z20 22 := row_new w Z20 22
  have S1 := hs.alloc (.cells Z20 22)
  have b2 : Below w.heap.size w (w.alloc (.cells Z20 22)) := (Below.refl _ _).alloc (Nat.le_refl _) _
  have HH := Lib.hid (And.intro RR (And.intro S1 b2))
  have HS1 : Hid ((Tryd.prog.info? 22).map (·.size) = some (bcells (shaL [])).size) := by unfold Hid; rw [bcells_size, shaL, wbs_length]; exact i22
  have HS2 : Hid (Z20.size = (bcells (shaL [])).size) := by unfold Hid; rw [bcells_size, shaL, wbs_length]; rfl
  clear RR S1 b2
  go_enter Tryd.func14, Tryd.ntmps14
  go_wp2_with (first
    | (go_at_call 9; refine (sum_any [] _ HH.out.2.1 (by simp)).mono ?_; rintro e W6 ⟨rfl, B6⟩; have RR6 := HH.out.1.below B6 HH.out.1.lt)
    | (refine wpList_store_var rfl rfl 22 (.tmp 2) (.tmp 6) (by with_reducible rfl) w.heap.size (bcells (shaL [])) rfl rfl RR6 HS1.out HS2.out (bcells_one _) ?_; intro W7 R7 K7))
  obtain ⟨RR, S1, b2⟩ := HH.out
  have z6 := B6.size
  have z7 := b2.size
  refine bodyPost_ret (v := .agg (bcells (shaL []))) (results_cell_row rfl _ _ w.heap.size 22 _ (0, 0) _ rfl R7 Tryd.underlying22 rfl HS1.out) rfl ⟨rfl, ?_⟩
  exact (b2.trans (B6.mono (by omega))).trans (K7.below (k := w.heap.size) (by omega) (Nat.le_refl _))

set_option maxRecDepth 100000 in
set_option maxHeartbeats 400000 in
theorem len_any (b : Nat) (t : List UInt8) (w : World) (h0 : IsHash b t w) :
    Calls Tryd.prog 15 #[.pointer (some ⟨b, 0, none⟩)] w fun e w' => e = .returned (.int .i64 t.length) ∧ w = w' := by
  obtain ⟨ws, bg, R0, hb, hinv⟩ := h0
  have c69 := R0.num hb
  clear hb hinv
  go_enter Tryd.func15, Tryd.ntmps15
  go_wp2
  go_ret
  exact ⟨rfl, rfl⟩
theorem len_nil (w : World) : Calls Tryd.prog 15 #[.pointer none] w fun e w' => e = .returned (.int .i64 0) ∧ w = w' := by
  go_enter Tryd.func15, Tryd.ntmps15
  go_wp2
  go_ret
  exact ⟨rfl, rfl⟩

set_option maxRecDepth 100000 in
set_option maxHeartbeats 400000 in
theorem new_any (w : World) :
    Calls Tryd.prog 12 #[] w fun e w' => e = .returned (.pointer (some ⟨w.heap.size, 0, none⟩)) ∧ w' = w.alloc (.cells Z70 38) := by
  have hz2 := z38
  go_enter Tryd.func12, Tryd.ntmps12
  go_wp2
  go_ret
  exact ⟨rfl, rfl⟩

end Go.Proofs.YtihgmgphfdjcfaaDoor
