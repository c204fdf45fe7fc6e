/- The walk of ShaStays. -/
import Derived.Test.YtihgmgphfdjcfaaDoorV
namespace Go.Proofs.YtihgmgphfdjcfaaDoor
open Go.RowKit
attribute [local go_sem] U_add U_xor U_and U_or U_not U_shl U_shr store_one U_match B_match U_store B_store

/-- Two hashes, and the first words, in a world behind w. -/
structure Both (w : World) (bx by' : Nat) (x y : List UInt8) (wr : World) : Prop where
  hx : IsHash bx x wr
  hy : IsHash by' y wr
  st : Start wr
  bel : Below w.heap.size w wr
theorem Both.below {w wr w' : World} {bx by' : Nat} {x y : List UInt8} (h : Both w bx by' x y wr) (hb : Below wr.heap.size wr w') : Both w bx by' x y w' :=
  ⟨h.hx.below hb h.hx.lt, h.hy.below hb h.hy.lt, h.st.below hb h.st.lt, h.bel.trans (hb.mono h.bel.size)⟩

set_option maxRecDepth 100000 in
set_option maxHeartbeats 2000000 in
theorem stays_any (la lb lc : List UInt8) (w : World) (hs : Start w) :
    Calls Tryd.prog 8 #[S la, S lb, S lc] w fun e w' => e = .returned (.bool true) ∧ Below w.heap.size w w' := by
  have hz1 := z22
  go_enter Tryd.func8, Tryd.ntmps8
  go_wp2_with fail
  refine (awake_any w hs).mono ?_
  rintro e W1 ⟨rfl, B1⟩
  have S1 := hs.below B1 hs.lt
  have hlenS := run_len_S 3
  by_cases h1 : 3000 < la.length
  · have hb1 : decide (3000 < (la.length : Int)) = true := by simp; omega
    go_wp2
    go_ret
    exact ⟨rfl, B1⟩
  have hb1 : decide (3000 < (la.length : Int)) = false := by simp; omega
  by_cases h2 : 3000 < lb.length
  · have hb2 : decide (3000 < (lb.length : Int)) = true := by simp; omega
    go_wp2
    go_ret
    exact ⟨rfl, B1⟩
  have hb2 : decide (3000 < (lb.length : Int)) = false := by simp; omega
  by_cases h3 : 3000 < lc.length
  · have hb3 : decide (3000 < (lc.length : Int)) = true := by simp; omega
    go_wp2
    go_ret
    exact ⟨rfl, B1⟩
  have hb3 : decide (3000 < (lc.length : Int)) = false := by simp; omega
  have z1 := B1.size
  have hw0 := hs.lt
  go_wp2_with fail
  refine (new_any W1).mono ?_
  rintro e W2 ⟨rfl, hW2⟩
  have y2 : W2.heap.size = W1.heap.size + 1 := by rw [hW2]; exact alloc_size _ _
  have I2 : IsHash W1.heap.size [] W2 := by rw [hW2]; exact isHash_new _ _ (row_new _ _ _)
  have S2 : Start W2 := by rw [hW2]; exact S1.alloc _
  have B2 : Below w.heap.size w W2 := by rw [hW2]; exact B1.alloc z1 _
  clear hW2
  have Y2 := Lib.hid y2
  clear y2
  go_wp2_with fail
  refine (new_any W2).mono ?_
  rintro e W3 ⟨rfl, hW3⟩
  have I3 : IsHash W1.heap.size [] W3 := by rw [hW3]; exact I2.alloc _
  have J3 : IsHash W2.heap.size [] W3 := by rw [hW3]; exact isHash_new _ _ (row_new _ _ _)
  have S3 : Start W3 := by rw [hW3]; exact S2.alloc _
  have B3 : Below w.heap.size w W3 := by rw [hW3]; exact B2.alloc (by have := Y2.out; omega) _
  clear hW3 I2 S2 B2
  rw [Y2.out] at J3
  rw [Y2.out]
  generalize W1.heap.size = bh at *
  clear B1 S1
  go_wp2_with fail
  refine (write_any bh [] la W3 I3 S3 (by simp; omega)).mono ?_
  rintro e W4 ⟨rfl, M4, K4⟩
  have I4 := M4.isHash
  have J4 := J3.keeps K4 (by omega)
  have S4 := S3.keeps K4 (by omega)
  have B4 := B3.trans (K4.below (k := w.heap.size) B3.size z1)
  clear I3 J3 S3 B3 M4
  go_wp2_with fail
  refine (write_any (bh + 1) [] lb W4 J4 S4 (by simp; omega)).mono ?_
  rintro e W5 ⟨rfl, M5, K5⟩
  have I5 := I4.keeps K5 (by omega)
  have J5 := M5.isHash
  have S5 := S4.keeps K5 (by omega)
  have B5 := B4.trans (K5.below (k := w.heap.size) B4.size (by omega))
  clear I4 J4 S4 B4 M5
  rw [List.nil_append] at I5 J5
  have HS1 : ∀ t, Hid ((Tryd.prog.info? 22).map (·.size) = some (bcells (shaL t)).size) := fun t => by unfold Hid; rw [bcells_size, shaL_length]; exact i22
  have HS2 : ∀ t, Hid (Z20.size = (bcells (shaL t)).size) := fun t => by unfold Hid; rw [bcells_size, shaL_length]; rfl
  have HS := Lib.hid (And.intro HS1 HS2)
  clear HS1 HS2
  go_wp2_with fail
  refine (hashSum_any bh la W5 I5 S5 (by omega)).mono ?_
  rintro e W6 ⟨rfl, C6⟩
  have I6 := I5.below C6 I5.lt
  have J6 := J5.below C6 J5.lt
  have S6 := S5.below C6 S5.lt
  have B6 := B5.trans (C6.mono B5.size)
  have RN := row_new W6 Z20 22
  clear I5 J5 S5 B5 C6
  go_wp2_with (first
    | (refine wpList_store_var rfl rfl 22 (.tmp 9) (.tmp 35) (by with_reducible rfl) W6.heap.size (bcells (shaL la)) rfl rfl RN (HS.out.1 la).out (HS.out.2 la).out (bcells_one _) ?_; intro W7 R7 K7)
    | fail)
  have l6 := I6.lt
  have m6 := J6.lt
  have n6 := S6.lt
  have I7 := (I6.alloc (.cells Z20 22)).keeps K7 (by omega)
  have J7 := (J6.alloc (.cells Z20 22)).keeps K7 (by omega)
  have S7 := (S6.alloc (.cells Z20 22)).keeps K7 (by omega)
  have B7 := (B6.alloc B6.size (.cells Z20 22)).trans (K7.below (k := w.heap.size) (by rw [alloc_size]; have := B6.size; omega) B6.size)
  have ne0 : W6.heap.size ≠ bh := by omega
  have ne1 : W6.heap.size ≠ bh + 1 := by omega
  clear I6 J6 S6 B6 RN K7 l6 m6 n6
  generalize W6.heap.size = r1 at *
  refine (hashSum_any (bh + 1) lb W7 J7 S7 (by omega)).mono ?_
  rintro e W8 ⟨rfl, C8⟩
  have I8 := I7.below C8 I7.lt
  have J8 := J7.below C8 J7.lt
  have S8 := S7.below C8 S7.lt
  have R8 := R7.below C8 R7.lt
  have B8 := B7.trans (C8.mono B7.size)
  have RN := row_new W8 Z20 22
  clear I7 J7 S7 B7 C8 R7
  go_wp2_with (first
    | (refine wpList_store_var rfl rfl 22 (.tmp 10) (.tmp 37) (by with_reducible rfl) W8.heap.size (bcells (shaL lb)) rfl rfl RN (HS.out.1 lb).out (HS.out.2 lb).out (bcells_one _) ?_; intro W9 Q9 K9)
    | fail)
  have l8 := I8.lt
  have m8 := J8.lt
  have n8 := S8.lt
  have k8 := R8.lt
  have I9 := (I8.alloc (.cells Z20 22)).keeps K9 (by omega)
  have J9 := (J8.alloc (.cells Z20 22)).keeps K9 (by omega)
  have S9 := (S8.alloc (.cells Z20 22)).keeps K9 (by omega)
  have R9 := (Row.alloc R8 (.cells Z20 22)).keeps K9 (by omega)
  have B9 := (B8.alloc B8.size (.cells Z20 22)).trans (K9.below (k := w.heap.size) (by rw [alloc_size]; have := B8.size; omega) B8.size)
  have ne2 : W8.heap.size ≠ bh := by omega
  have ne3 : W8.heap.size ≠ bh + 1 := by omega
  clear I8 J8 S8 B8 RN K9 l8 m8 n8 k8
  generalize W8.heap.size = r2 at *
  refine (write_any bh la lc W9 I9 S9 (by omega)).mono ?_
  rintro e V1 ⟨rfl, M1, K1⟩
  have I1 := M1.isHash
  have J1 := J9.keeps K1 (by omega)
  have S1 := S9.keeps K1 (by omega)
  have R1 := R9.keeps K1 ne0
  have Q1 := Q9.keeps K1 ne2
  have b1 := B9.trans (K1.below (k := w.heap.size) B9.size z1)
  clear I9 J9 S9 R9 Q9 B9 M1
  go_wp2_with fail
  refine (write_any (bh + 1) lb lc V1 J1 S1 (by omega)).mono ?_
  rintro e V2 ⟨rfl, M2, K2⟩
  have G2 : Both w bh (bh + 1) (la ++ lc) (lb ++ lc) V2 := ⟨I1.keeps K2 (by omega), M2.isHash, S1.keeps K2 (by omega), b1.trans (K2.below (k := w.heap.size) b1.size (by omega))⟩
  have R2 := R1.keeps K2 ne1
  have Q2 := Q1.keeps K2 ne3
  clear I1 J1 S1 R1 Q1 b1 M2
  go_wp2_with fail
  have heqa := eq_sum la
  have heqb := eq_sum lb
  have heqc := eq_sum (la ++ lc)
  have heqd := eq_sum (lb ++ lc)
  have hgd := guard22
  have hadd1 : binOp .add 9 (S la) (S lc) = pure (S (la ++ lc)) := S_add 9 _ _ (by omega)
  have hadd2 : binOp .add 9 (S lb) (S lc) = pure (S (lb ++ lc)) := S_add 9 _ _ (by omega)
  have hu := Tryd.underlying22
  have hia : (Tryd.prog.info? 22).map (·.size) = some ((shaL la).map B).length := by rw [List.length_map, shaL_length]; exact i22
  have hib : (Tryd.prog.info? 22).map (·.size) = some ((shaL lb).map B).length := by rw [List.length_map, shaL_length]; exact i22
  have r1r : ∀ w', Row w' r1 (bcells (shaL la)) 22 → w'.rangeAt r1 0 ((shaL la).map B) := fun w' R j v hv => by
    rw [Nat.zero_add, cell_of_row w' r1 j _ 22 (0, 0) R, bcells, List.getElem?_toArray]; exact hv
  have r2r : ∀ w', Row w' r2 (bcells (shaL lb)) 22 → w'.rangeAt r2 0 ((shaL lb).map B) := fun w' R j v hv => by
    rw [Nat.zero_add, cell_of_row w' r2 j _ 22 (0, 0) R, bcells, List.getElem?_toArray]; exact hv
  have l1 := R2.lt
  have l2 := Q2.lt
  have R3 : Row V2.drew r1 (bcells (shaL la)) 22 := R2
  have Q3 : Row V2.drew r2 (bcells (shaL lb)) 22 := Q2
  have G3 : Both w bh (bh + 1) (la ++ lc) (lb ++ lc) V2.drew := G2.below ((Below.refl _ _).drew)
  have HR := Lib.hid r1r
  have HQ := Lib.hid r2r
  clear r1r r2r R2 Q2 G2
  have E3 : V2.drew.rangeAt r1 0 ((shaL la).map B) ∧ V2.drew.rangeAt r2 0 ((shaL lb).map B) := ⟨HR.out _ R3, HQ.out _ Q3⟩
  refine wp_region_noPanic ?_
  refine wp_region_held_drew (S := fun w' => w'.rangeAt r1 0 ((shaL la).map B) ∧ w'.rangeAt r2 0 ((shaL lb).map B)) (by kernel_rfl) E3 (fun _ => ?_)
  refine take_at (i := 0) (d := some 44) (v := .agg (bcells (shaL la))) rfl (by kernel_rfl) (by kernel_rfl) (by kernel_rfl) (fun _ _ _ h => h) (fun oi ho => ?_) E3 ?_
  · obtain rfl := Option.some.inj ho
    exact Or.inl ⟨by rfl, fun wx hSw => exec_load_mid 22 (.tmp 9) rfl r1 0 rfl ((shaL la).map B) _ hSw.1 Tryd.underlying22 rfl hia⟩
  simp only [Act.put, List.setIfInBounds_toArray, List.set_cons_zero, List.set_cons_succ]
  refine take_at (i := 1) (d := some 45) (v := S la) rfl (by kernel_rfl) (by kernel_rfl) (by kernel_rfl) (fun _ _ _ h => h) (fun oi ho => ?_) E3 ?_
  · obtain rfl := Option.some.inj ho
    exact Or.inl ⟨by rfl, fun wx hSw => by go_simp⟩
  simp only [Act.put, List.setIfInBounds_toArray, List.set_cons_zero, List.set_cons_succ]
  refine ready_call (i := 2) (d := some 46) (f := 9) (args := #[S la]) rfl (by kernel_rfl) (fun oi ho => ?_) ?_
  · obtain rfl := Option.some.inj ho
    exact ⟨by rfl, by go_simp⟩
  refine (sum_any la _ G3.st (by omega)).mono ?_
  rintro e X4 ⟨rfl, C4⟩
  have R4 := R3.below C4 R3.lt
  have Q4 := Q3.below C4 Q3.lt
  have G4 := G3.below C4
  have E4 : X4.rangeAt r1 0 ((shaL la).map B) ∧ X4.rangeAt r2 0 ((shaL lb).map B) := ⟨HR.out _ R4, HQ.out _ Q4⟩
  refine ⟨_, rfl, E4, ?_⟩
  clear R3 Q3 G3 E3 C4
  simp only [Act.put, List.setIfInBounds_toArray, List.set_cons_zero, List.set_cons_succ]
  refine take_at (i := 3) (d := some 47) (v := .bool true) rfl (by kernel_rfl) (by kernel_rfl) (by kernel_rfl) (fun _ _ _ h => h) (fun oi ho => ?_) E4 ?_
  · obtain rfl := Option.some.inj ho
    exact Or.inl ⟨by rfl, fun wx hSw => by go_simp⟩
  simp only [Act.put, List.setIfInBounds_toArray, List.set_cons_zero, List.set_cons_succ]
  refine take_at (i := 4) (d := some 48) (v := .bool true) rfl (by kernel_rfl) (by kernel_rfl) (by kernel_rfl) (fun _ _ _ h => h) (fun oi ho => ?_) E4 ?_
  · obtain rfl := Option.some.inj ho
    exact Or.inl ⟨by rfl, fun wx hSw => by go_simp⟩
  simp only [Act.put, List.setIfInBounds_toArray, List.set_cons_zero, List.set_cons_succ]
  refine take_at (i := 5) (d := some 49) (v := .agg (bcells (shaL lb))) rfl (by kernel_rfl) (by kernel_rfl) (by kernel_rfl) (fun _ _ _ h => h) (fun oi ho => ?_) E4 ?_
  · obtain rfl := Option.some.inj ho
    exact Or.inl ⟨by rfl, fun wx hSw => exec_load_mid 22 (.tmp 10) rfl r2 0 rfl ((shaL lb).map B) _ hSw.2 Tryd.underlying22 rfl hib⟩
  simp only [Act.put, List.setIfInBounds_toArray, List.set_cons_zero, List.set_cons_succ]
  refine take_at (i := 6) (d := some 50) (v := S lb) rfl (by kernel_rfl) (by kernel_rfl) (by kernel_rfl) (fun _ _ _ h => h) (fun oi ho => ?_) E4 ?_
  · obtain rfl := Option.some.inj ho
    exact Or.inl ⟨by rfl, fun wx hSw => by go_simp⟩
  simp only [Act.put, List.setIfInBounds_toArray, List.set_cons_zero, List.set_cons_succ]
  refine ready_call (i := 7) (d := some 51) (f := 9) (args := #[S lb]) rfl (by kernel_rfl) (fun oi ho => ?_) ?_
  · obtain rfl := Option.some.inj ho
    exact ⟨by rfl, by go_simp⟩
  refine (sum_any lb _ G4.st (by omega)).mono ?_
  rintro e X5 ⟨rfl, C5⟩
  have R5 := R4.below C5 R4.lt
  have Q5 := Q4.below C5 Q4.lt
  have G5 := G4.below C5
  have E5 : X5.rangeAt r1 0 ((shaL la).map B) ∧ X5.rangeAt r2 0 ((shaL lb).map B) := ⟨HR.out _ R5, HQ.out _ Q5⟩
  refine ⟨_, rfl, E5, ?_⟩
  clear R4 Q4 G4 E4 C5
  simp only [Act.put, List.setIfInBounds_toArray, List.set_cons_zero, List.set_cons_succ]
  refine take_at (i := 8) (d := some 52) (v := .bool true) rfl (by kernel_rfl) (by kernel_rfl) (by kernel_rfl) (fun _ _ _ h => h) (fun oi ho => ?_) E5 ?_
  · obtain rfl := Option.some.inj ho
    exact Or.inl ⟨by rfl, fun wx hSw => by go_simp⟩
  simp only [Act.put, List.setIfInBounds_toArray, List.set_cons_zero, List.set_cons_succ]
  refine take_at (i := 9) (d := some 53) (v := .bool true) rfl (by kernel_rfl) (by kernel_rfl) (by kernel_rfl) (fun _ _ _ h => h) (fun oi ho => ?_) E5 ?_
  · obtain rfl := Option.some.inj ho
    exact Or.inl ⟨by rfl, fun wx hSw => by go_simp⟩
  simp only [Act.put, List.setIfInBounds_toArray, List.set_cons_zero, List.set_cons_succ]
  refine take_at (i := 10) (d := some 54) (v := .bool true) rfl (by kernel_rfl) (by kernel_rfl) (by kernel_rfl) (fun _ _ _ h => h) (fun oi ho => ?_) E5 ?_
  · obtain rfl := Option.some.inj ho
    exact Or.inl ⟨by rfl, fun wx hSw => by go_simp⟩
  simp only [Act.put, List.setIfInBounds_toArray, List.set_cons_zero, List.set_cons_succ]
  refine take_at (i := 11) (d := some 55) (v := .pointer (some ⟨bh, 0, none⟩)) rfl (by kernel_rfl) (by kernel_rfl) (by kernel_rfl) (fun _ _ _ h => h) (fun oi ho => ?_) E5 ?_
  · obtain rfl := Option.some.inj ho
    exact Or.inl ⟨by rfl, fun wx hSw => by go_simp⟩
  simp only [Act.put, List.setIfInBounds_toArray, List.set_cons_zero, List.set_cons_succ]
  refine take_at (i := 13) (d := some 57) (v := S la) rfl (by kernel_rfl) (by kernel_rfl) (by kernel_rfl) (fun _ _ _ h => h) (fun oi ho => ?_) E5 ?_
  · obtain rfl := Option.some.inj ho
    exact Or.inl ⟨by rfl, fun wx hSw => by go_simp⟩
  simp only [Act.put, List.setIfInBounds_toArray, List.set_cons_zero, List.set_cons_succ]
  refine take_at (i := 14) (d := some 58) (v := S lc) rfl (by kernel_rfl) (by kernel_rfl) (by kernel_rfl) (fun _ _ _ h => h) (fun oi ho => ?_) E5 ?_
  · obtain rfl := Option.some.inj ho
    exact Or.inl ⟨by rfl, fun wx hSw => by go_simp⟩
  simp only [Act.put, List.setIfInBounds_toArray, List.set_cons_zero, List.set_cons_succ]
  refine take_at (i := 15) (d := some 59) (v := S (la ++ lc)) rfl (by kernel_rfl) (by kernel_rfl) (by kernel_rfl) (fun _ _ _ h => h) (fun oi ho => ?_) E5 ?_
  · obtain rfl := Option.some.inj ho
    exact Or.inl ⟨by rfl, fun wx hSw => by go_simp⟩
  simp only [Act.put, List.setIfInBounds_toArray, List.set_cons_zero, List.set_cons_succ]
  refine ready_call (i := 12) (d := some 56) (f := 14) (args := #[.pointer (some ⟨bh, 0, none⟩)]) rfl (by kernel_rfl) (fun oi ho => ?_) ?_
  · obtain rfl := Option.some.inj ho
    exact ⟨by rfl, by go_simp⟩
  refine (hashSum_any bh (la ++ lc) _ G5.hx G5.st (by rw [List.length_append]; omega)).mono ?_
  rintro e X6 ⟨rfl, C6⟩
  have R6 := R5.below C6 R5.lt
  have Q6 := Q5.below C6 Q5.lt
  have G6 := G5.below C6
  have E6 : X6.rangeAt r1 0 ((shaL la).map B) ∧ X6.rangeAt r2 0 ((shaL lb).map B) := ⟨HR.out _ R6, HQ.out _ Q6⟩
  refine ⟨_, rfl, E6, ?_⟩
  clear R5 Q5 G5 E5 C6
  simp only [Act.put, List.setIfInBounds_toArray, List.set_cons_zero, List.set_cons_succ]
  refine ready_call (i := 16) (d := some 60) (f := 9) (args := #[S (la ++ lc)]) rfl (by kernel_rfl) (fun oi ho => ?_) ?_
  · obtain rfl := Option.some.inj ho
    exact ⟨by rfl, by go_simp⟩
  refine (sum_any (la ++ lc) _ G6.st (by rw [List.length_append]; omega)).mono ?_
  rintro e X7 ⟨rfl, C7⟩
  have R7 := R6.below C7 R6.lt
  have Q7 := Q6.below C7 Q6.lt
  have G7 := G6.below C7
  have E7 : X7.rangeAt r1 0 ((shaL la).map B) ∧ X7.rangeAt r2 0 ((shaL lb).map B) := ⟨HR.out _ R7, HQ.out _ Q7⟩
  refine ⟨_, rfl, E7, ?_⟩
  clear R6 Q6 G6 E6 C7
  simp only [Act.put, List.setIfInBounds_toArray, List.set_cons_zero, List.set_cons_succ]
  refine take_at (i := 17) (d := some 61) (v := .bool true) rfl (by kernel_rfl) (by kernel_rfl) (by kernel_rfl) (fun _ _ _ h => h) (fun oi ho => ?_) E7 ?_
  · obtain rfl := Option.some.inj ho
    exact Or.inl ⟨by rfl, fun wx hSw => by go_simp⟩
  simp only [Act.put, List.setIfInBounds_toArray, List.set_cons_zero, List.set_cons_succ]
  refine take_at (i := 18) (d := some 62) (v := .bool true) rfl (by kernel_rfl) (by kernel_rfl) (by kernel_rfl) (fun _ _ _ h => h) (fun oi ho => ?_) E7 ?_
  · obtain rfl := Option.some.inj ho
    exact Or.inl ⟨by rfl, fun wx hSw => by go_simp⟩
  simp only [Act.put, List.setIfInBounds_toArray, List.set_cons_zero, List.set_cons_succ]
  refine take_at (i := 19) (d := some 63) (v := .bool true) rfl (by kernel_rfl) (by kernel_rfl) (by kernel_rfl) (fun _ _ _ h => h) (fun oi ho => ?_) E7 ?_
  · obtain rfl := Option.some.inj ho
    exact Or.inl ⟨by rfl, fun wx hSw => by go_simp⟩
  simp only [Act.put, List.setIfInBounds_toArray, List.set_cons_zero, List.set_cons_succ]
  refine take_at (i := 20) (d := some 64) (v := .pointer (some ⟨bh + 1, 0, none⟩)) rfl (by kernel_rfl) (by kernel_rfl) (by kernel_rfl) (fun _ _ _ h => h) (fun oi ho => ?_) E7 ?_
  · obtain rfl := Option.some.inj ho
    exact Or.inl ⟨by rfl, fun wx hSw => by go_simp⟩
  simp only [Act.put, List.setIfInBounds_toArray, List.set_cons_zero, List.set_cons_succ]
  refine take_at (i := 22) (d := some 66) (v := S lb) rfl (by kernel_rfl) (by kernel_rfl) (by kernel_rfl) (fun _ _ _ h => h) (fun oi ho => ?_) E7 ?_
  · obtain rfl := Option.some.inj ho
    exact Or.inl ⟨by rfl, fun wx hSw => by go_simp⟩
  simp only [Act.put, List.setIfInBounds_toArray, List.set_cons_zero, List.set_cons_succ]
  refine take_at (i := 23) (d := some 67) (v := S lc) rfl (by kernel_rfl) (by kernel_rfl) (by kernel_rfl) (fun _ _ _ h => h) (fun oi ho => ?_) E7 ?_
  · obtain rfl := Option.some.inj ho
    exact Or.inl ⟨by rfl, fun wx hSw => by go_simp⟩
  simp only [Act.put, List.setIfInBounds_toArray, List.set_cons_zero, List.set_cons_succ]
  refine take_at (i := 24) (d := some 68) (v := S (lb ++ lc)) rfl (by kernel_rfl) (by kernel_rfl) (by kernel_rfl) (fun _ _ _ h => h) (fun oi ho => ?_) E7 ?_
  · obtain rfl := Option.some.inj ho
    exact Or.inl ⟨by rfl, fun wx hSw => by go_simp⟩
  simp only [Act.put, List.setIfInBounds_toArray, List.set_cons_zero, List.set_cons_succ]
  refine ready_call (i := 21) (d := some 65) (f := 14) (args := #[.pointer (some ⟨bh + 1, 0, none⟩)]) rfl (by kernel_rfl) (fun oi ho => ?_) ?_
  · obtain rfl := Option.some.inj ho
    exact ⟨by rfl, by go_simp⟩
  refine (hashSum_any (bh + 1) (lb ++ lc) _ G7.hy G7.st (by rw [List.length_append]; omega)).mono ?_
  rintro e X8 ⟨rfl, C8⟩
  have R8 := R7.below C8 R7.lt
  have Q8 := Q7.below C8 Q7.lt
  have G8 := G7.below C8
  have E8 : X8.rangeAt r1 0 ((shaL la).map B) ∧ X8.rangeAt r2 0 ((shaL lb).map B) := ⟨HR.out _ R8, HQ.out _ Q8⟩
  refine ⟨_, rfl, E8, ?_⟩
  clear R7 Q7 G7 E7 C8
  simp only [Act.put, List.setIfInBounds_toArray, List.set_cons_zero, List.set_cons_succ]
  refine ready_call (i := 25) (d := some 69) (f := 9) (args := #[S (lb ++ lc)]) rfl (by kernel_rfl) (fun oi ho => ?_) ?_
  · obtain rfl := Option.some.inj ho
    exact ⟨by rfl, by go_simp⟩
  refine (sum_any (lb ++ lc) _ G8.st (by rw [List.length_append]; omega)).mono ?_
  rintro e X9 ⟨rfl, C9⟩
  have R9 := R8.below C9 R8.lt
  have Q9 := Q8.below C9 Q8.lt
  have G9 := G8.below C9
  have E9 : X9.rangeAt r1 0 ((shaL la).map B) ∧ X9.rangeAt r2 0 ((shaL lb).map B) := ⟨HR.out _ R9, HQ.out _ Q9⟩
  refine ⟨_, rfl, E9, ?_⟩
  clear R8 Q8 G8 E8 C9
  simp only [Act.put, List.setIfInBounds_toArray, List.set_cons_zero, List.set_cons_succ]
  refine take_at (i := 26) (d := some 70) (v := .bool true) rfl (by kernel_rfl) (by kernel_rfl) (by kernel_rfl) (fun _ _ _ h => h) (fun oi ho => ?_) E9 ?_
  · obtain rfl := Option.some.inj ho
    exact Or.inl ⟨by rfl, fun wx hSw => by go_simp⟩
  simp only [Act.put, List.setIfInBounds_toArray, List.set_cons_zero, List.set_cons_succ]
  refine take_at (i := 27) (d := some 71) (v := .bool true) rfl (by kernel_rfl) (by kernel_rfl) (by kernel_rfl) (fun _ _ _ h => h) (fun oi ho => ?_) E9 ?_
  · obtain rfl := Option.some.inj ho
    exact Or.inl ⟨by rfl, fun wx hSw => by go_simp⟩
  simp only [Act.put, List.setIfInBounds_toArray, List.set_cons_zero, List.set_cons_succ]
  refine ready_value (i := 28) (d := some 6) (v := .bool true) rfl (by kernel_rfl) (fun oi ho => ?_) E9 ?_
  · obtain rfl := Option.some.inj ho
    exact ⟨by rfl, by go_simp⟩
  simp only [Act.put, List.setIfInBounds_toArray, List.set_cons_zero, List.set_cons_succ]
  refine wpAnyH_done (by kernel_rfl) ?_ _
  refine NoPanic.normal ?_
  go_wp2
  go_ret
  exact ⟨rfl, G9.bel⟩
end Go.Proofs.YtihgmgphfdjcfaaDoor
