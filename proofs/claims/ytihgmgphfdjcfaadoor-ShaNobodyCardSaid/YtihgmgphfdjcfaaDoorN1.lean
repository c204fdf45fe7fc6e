/- The walk of ShaNobody. -/
import Derived.Test.YtihgmgphfdjcfaaDoorV
import Derived.Test.YtihgmgphfdjcfaaDoorR3
import Derived.Test.YtihgmgphfdjcfaaDoorNil
namespace Go.Proofs.YtihgmgphfdjcfaaDoor
open Go.RowKit
attribute [local go_sem] U_add U_xor U_and U_or U_not U_shl U_shr store_one U_match B_match U_store B_store

/-- A hash, and the first words, in a world behind w. -/
structure One (w : World) (b : Nat) (x : List UInt8) (wr : World) : Prop where
  hx : IsHash b x wr
  st : Start wr
  bel : Below w.heap.size w wr
theorem One.below {w wr w' : World} {b : Nat} {x : List UInt8} (h : One w b x wr) (hb : Below wr.heap.size wr w') : One w b x w' :=
  ⟨h.hx.below hb h.hx.lt, h.st.below hb h.st.lt, h.bel.trans (hb.mono h.bel.size)⟩

set_option maxRecDepth 100000 in
set_option maxHeartbeats 2000000 in
theorem nobody_any (l : List UInt8) (w : World) (hs : Start w) : Calls Tryd.prog 6 #[S l] w fun e w' => e = .returned (.bool true) ∧ Below w.heap.size w w' := by
  have hz1 := z22
  have hz2 := z38
  have hempty : Value.string ⟨#[]⟩ = S [] := rfl
  go_enter Tryd.func6, Tryd.ntmps6
  go_wp2_with fail
  refine (awake_any w hs).mono ?_
  rintro e W1 ⟨rfl, B1⟩
  have S1 := hs.below B1 hs.lt
  have hlenS := run_len_S 3
  by_cases h1 : 2000 < l.length
  · have hb1 : decide (2000 < (l.length : Int)) = true := by simp; omega
    go_wp2
    go_ret
    exact ⟨rfl, B1⟩
  have hb1 : decide (2000 < (l.length : Int)) = false := by simp; omega
  have z1 := B1.size
  have hw0 := hs.lt
  have I2 : IsHash W1.heap.size [] (W1.alloc (.cells Z70 38)) := isHash_new _ _ (row_new _ _ _)
  have S2 : Start (W1.alloc (.cells Z70 38)) := S1.alloc _
  have B2 : Below w.heap.size w (W1.alloc (.cells Z70 38)) := B1.alloc z1 _
  have y2 := alloc_size W1 (.cells Z70 38)
  have H2 := Lib.hid (And.intro I2 (And.intro S2 (And.intro B2 y2)))
  clear I2 S2 B2 y2 B1 S1
  have HS1 : ∀ t, Hid ((Tryd.prog.info? 22).map (·.size) = some (bcells (shaL t)).size) := fun t => by unfold Hid; rw [bcells_size, shaL_length]; exact i22
  have HS2 : ∀ t, Hid (Z20.size = (bcells (shaL t)).size) := fun t => by unfold Hid; rw [bcells_size, shaL_length]; rfl
  have HS := Lib.hid (And.intro HS1 HS2)
  clear HS1 HS2
  go_wp2_with fail
  obtain ⟨I2, S2, B2, y2⟩ := H2.out
  refine (hashSum_any W1.heap.size [] _ I2 S2 (by simp)).mono ?_
  rintro e W6 ⟨rfl, C6⟩
  have G6 : One w W1.heap.size [] W6 := ⟨I2.below C6 I2.lt, S2.below C6 S2.lt, B2.trans (C6.mono B2.size)⟩
  have hbr : W1.heap.size < W6.heap.size := G6.hx.lt
  clear I2 S2 B2 C6 y2 H2
  generalize W1.heap.size = bh at *
  have RN := row_new W6 Z20 22
  go_wp2_with (first
    | (refine wpList_store_var rfl rfl 22 (.tmp 5) (.tmp 14) (by with_reducible rfl) W6.heap.size (bcells (shaL [])) rfl rfl RN (HS.out.1 []).out (HS.out.2 []).out (bcells_one _) ?_; intro W7 R7 K7)
    | fail)
  have n6 := G6.st.lt
  have I7 := (G6.hx.alloc (.cells Z20 22)).keeps K7 (by omega)
  have S7 := (G6.st.alloc (.cells Z20 22)).keeps K7 (by omega)
  have B7 := (G6.bel.alloc G6.bel.size (.cells Z20 22)).trans (K7.below (k := w.heap.size) (by rw [alloc_size]; have := G6.bel.size; omega) G6.bel.size)
  have G7 : One w bh [] W7 := ⟨I7, S7, B7⟩
  have ne0 : W6.heap.size ≠ bh := by omega
  clear G6 RN K7 I7 S7 B7 n6 hbr
  generalize W6.heap.size = r1 at *
  refine (write_nil l W7).mono ?_
  rintro e W8 ⟨rfl, C8⟩
  have G8 := G7.below C8
  have R8 := R7.below C8 R7.lt
  clear G7 R7 C8
  go_wp2_with fail
  refine (write_any bh [] l W8 G8.hx G8.st (by simp; omega)).mono ?_
  rintro e V2 ⟨rfl, M2, K2⟩
  have hl0 := G8.st.lt
  have G2 : One w bh l V2 := ⟨M2.isHash, G8.st.keeps K2 (by omega), G8.bel.trans (K2.below (k := w.heap.size) G8.bel.size (by omega))⟩
  have R2 := R8.keeps K2 ne0
  clear M2 G8 R8 K2
  go_wp2_with fail
  have heqn := eq_sum []
  have heql := eq_sum l
  have hgd := guard22
  have hu := Tryd.underlying22
  have hia : (Tryd.prog.info? 22).map (·.size) = some ((shaL []).map B).length := by rw [List.length_map, shaL_length]; exact i22
  have r1r : ∀ w', Row w' r1 (bcells (shaL [])) 22 → w'.rangeAt r1 0 ((shaL []).map B) := fun w' R j v hv => by
    rw [Nat.zero_add, cell_of_row w' r1 j _ 22 (0, 0) R, bcells, List.getElem?_toArray]; exact hv
  have R3 : Row V2.drew r1 (bcells (shaL [])) 22 := R2
  have G3 : One w bh l V2.drew := G2.below ((Below.refl _ _).drew)
  have HR := Lib.hid r1r
  clear r1r R2 G2
  have E3 : V2.drew.rangeAt r1 0 ((shaL []).map B) := HR.out _ R3
  refine wp_region_noPanic ?_
  refine wp_region_held_drew (S := fun w' => w'.rangeAt r1 0 ((shaL []).map B)) (by kernel_rfl) E3 (fun _ => ?_)
  refine take_at (i := 0) (d := some 21) (v := .pointer none) rfl (by kernel_rfl) (by kernel_rfl) (by kernel_rfl) (fun _ _ _ h => h) (fun oi ho => ?_) E3 ?_
  · obtain rfl := Option.some.inj ho
    exact Or.inl ⟨by rfl, fun wx hSw => by go_simp⟩
  simp only [Act.put, List.setIfInBounds_toArray, List.set_cons_zero, List.set_cons_succ]
  refine ready_call (i := 1) (d := some 22) (f := 14) (args := #[.pointer none]) rfl (by kernel_rfl) (fun oi ho => ?_) ?_
  · obtain rfl := Option.some.inj ho
    exact ⟨by rfl, by go_simp⟩
  refine (hashSum_nil _ G3.st).mono ?_
  rintro e X4 ⟨rfl, C4⟩
  have R4 := R3.below C4 R3.lt
  have G4 := G3.below C4
  have E4 : X4.rangeAt r1 0 ((shaL []).map B) := HR.out _ R4
  refine ⟨_, rfl, E4, ?_⟩
  clear R3 G3 E3 C4
  simp only [Act.put, List.setIfInBounds_toArray, List.set_cons_zero, List.set_cons_succ]
  refine ready_call (i := 2) (d := some 23) (f := 11) (args := #[S []]) rfl (by kernel_rfl) (fun oi ho => ?_) ?_
  · obtain rfl := Option.some.inj ho
    exact ⟨by rfl, by go_simp⟩
  refine (ref_any [] (by simp) _).mono ?_
  rintro e X5 ⟨rfl, C5⟩
  have R5 := R4.below C5 R4.lt
  have G5 := G4.below C5
  have E5 : X5.rangeAt r1 0 ((shaL []).map B) := HR.out _ R5
  refine ⟨_, rfl, E5, ?_⟩
  clear R4 G4 E4 C5
  simp only [Act.put, List.setIfInBounds_toArray, List.set_cons_zero, List.set_cons_succ]
  refine take_at (i := 3) (d := some 24) (v := .bool true) rfl (by kernel_rfl) (by kernel_rfl) (by kernel_rfl) (fun _ _ _ h => h) (fun oi ho => ?_) E5 ?_
  · obtain rfl := Option.some.inj ho
    exact Or.inl ⟨by rfl, fun wx hSw => by go_simp⟩
  simp only [Act.put, List.setIfInBounds_toArray, List.set_cons_zero, List.set_cons_succ]
  refine take_at (i := 4) (d := some 25) (v := .bool true) rfl (by kernel_rfl) (by kernel_rfl) (by kernel_rfl) (fun _ _ _ h => h) (fun oi ho => ?_) E5 ?_
  · obtain rfl := Option.some.inj ho
    exact Or.inl ⟨by rfl, fun wx hSw => by go_simp⟩
  simp only [Act.put, List.setIfInBounds_toArray, List.set_cons_zero, List.set_cons_succ]
  refine take_at (i := 5) (d := some 26) (v := .agg (bcells (shaL []))) rfl (by kernel_rfl) (by kernel_rfl) (by kernel_rfl) (fun _ _ _ h => h) (fun oi ho => ?_) E5 ?_
  · obtain rfl := Option.some.inj ho
    exact Or.inl ⟨by rfl, fun wx hSw => exec_load_mid 22 (.tmp 5) rfl r1 0 rfl ((shaL []).map B) _ hSw Tryd.underlying22 rfl hia⟩
  simp only [Act.put, List.setIfInBounds_toArray, List.set_cons_zero, List.set_cons_succ]
  refine ready_call (i := 6) (d := some 27) (f := 11) (args := #[S []]) rfl (by kernel_rfl) (fun oi ho => ?_) ?_
  · obtain rfl := Option.some.inj ho
    exact ⟨by rfl, by go_simp⟩
  refine (ref_any [] (by simp) _).mono ?_
  rintro e X6 ⟨rfl, C6⟩
  have R6 := R5.below C6 R5.lt
  have G6 := G5.below C6
  have E6 : X6.rangeAt r1 0 ((shaL []).map B) := HR.out _ R6
  refine ⟨_, rfl, E6, ?_⟩
  clear R5 G5 E5 C6
  simp only [Act.put, List.setIfInBounds_toArray, List.set_cons_zero, List.set_cons_succ]
  refine take_at (i := 7) (d := some 28) (v := .bool true) rfl (by kernel_rfl) (by kernel_rfl) (by kernel_rfl) (fun _ _ _ h => h) (fun oi ho => ?_) E6 ?_
  · obtain rfl := Option.some.inj ho
    exact Or.inl ⟨by rfl, fun wx hSw => by go_simp⟩
  simp only [Act.put, List.setIfInBounds_toArray, List.set_cons_zero, List.set_cons_succ]
  refine take_at (i := 8) (d := some 29) (v := .bool true) rfl (by kernel_rfl) (by kernel_rfl) (by kernel_rfl) (fun _ _ _ h => h) (fun oi ho => ?_) E6 ?_
  · obtain rfl := Option.some.inj ho
    exact Or.inl ⟨by rfl, fun wx hSw => by go_simp⟩
  simp only [Act.put, List.setIfInBounds_toArray, List.set_cons_zero, List.set_cons_succ]
  refine take_at (i := 9) (d := some 30) (v := .bool true) rfl (by kernel_rfl) (by kernel_rfl) (by kernel_rfl) (fun _ _ _ h => h) (fun oi ho => ?_) E6 ?_
  · obtain rfl := Option.some.inj ho
    exact Or.inl ⟨by rfl, fun wx hSw => by go_simp⟩
  simp only [Act.put, List.setIfInBounds_toArray, List.set_cons_zero, List.set_cons_succ]
  refine take_at (i := 10) (d := some 31) (v := .pointer none) rfl (by kernel_rfl) (by kernel_rfl) (by kernel_rfl) (fun _ _ _ h => h) (fun oi ho => ?_) E6 ?_
  · obtain rfl := Option.some.inj ho
    exact Or.inl ⟨by rfl, fun wx hSw => by go_simp⟩
  simp only [Act.put, List.setIfInBounds_toArray, List.set_cons_zero, List.set_cons_succ]
  refine ready_call (i := 11) (d := some 32) (f := 15) (args := #[.pointer none]) rfl (by kernel_rfl) (fun oi ho => ?_) ?_
  · obtain rfl := Option.some.inj ho
    exact ⟨by rfl, by go_simp⟩
  refine (len_nil _).mono ?_
  rintro e X6' ⟨rfl, rfl⟩
  refine ⟨_, rfl, E6, ?_⟩
  simp only [Act.put, List.setIfInBounds_toArray, List.set_cons_zero, List.set_cons_succ]
  refine take_at (i := 12) (d := some 33) (v := .bool true) rfl (by kernel_rfl) (by kernel_rfl) (by kernel_rfl) (fun _ _ _ h => h) (fun oi ho => ?_) E6 ?_
  · obtain rfl := Option.some.inj ho
    exact Or.inl ⟨by rfl, fun wx hSw => by go_simp⟩
  simp only [Act.put, List.setIfInBounds_toArray, List.set_cons_zero, List.set_cons_succ]
  refine take_at (i := 13) (d := some 34) (v := .bool true) rfl (by kernel_rfl) (by kernel_rfl) (by kernel_rfl) (fun _ _ _ h => h) (fun oi ho => ?_) E6 ?_
  · obtain rfl := Option.some.inj ho
    exact Or.inl ⟨by rfl, fun wx hSw => by go_simp⟩
  simp only [Act.put, List.setIfInBounds_toArray, List.set_cons_zero, List.set_cons_succ]
  refine take_at (i := 14) (d := some 35) (v := .bool true) rfl (by kernel_rfl) (by kernel_rfl) (by kernel_rfl) (fun _ _ _ h => h) (fun oi ho => ?_) E6 ?_
  · obtain rfl := Option.some.inj ho
    exact Or.inl ⟨by rfl, fun wx hSw => by go_simp⟩
  simp only [Act.put, List.setIfInBounds_toArray, List.set_cons_zero, List.set_cons_succ]
  refine take_at (i := 15) (d := some 36) (v := .pointer (some ⟨bh, 0, none⟩)) rfl (by kernel_rfl) (by kernel_rfl) (by kernel_rfl) (fun _ _ _ h => h) (fun oi ho => ?_) E6 ?_
  · obtain rfl := Option.some.inj ho
    exact Or.inl ⟨by rfl, fun wx hSw => by go_simp⟩
  simp only [Act.put, List.setIfInBounds_toArray, List.set_cons_zero, List.set_cons_succ]
  refine take_at (i := 17) (d := some 38) (v := S l) rfl (by kernel_rfl) (by kernel_rfl) (by kernel_rfl) (fun _ _ _ h => h) (fun oi ho => ?_) E6 ?_
  · obtain rfl := Option.some.inj ho
    exact Or.inl ⟨by rfl, fun wx hSw => by go_simp⟩
  simp only [Act.put, List.setIfInBounds_toArray, List.set_cons_zero, List.set_cons_succ]
  refine take_at (i := 18) (d := some 39) (v := .int .i64 l.length) rfl (by kernel_rfl) (by kernel_rfl) (by kernel_rfl) (fun _ _ _ h => h) (fun oi ho => ?_) E6 ?_
  · obtain rfl := Option.some.inj ho
    exact Or.inl ⟨by rfl, fun wx hSw => by go_simp⟩
  simp only [Act.put, List.setIfInBounds_toArray, List.set_cons_zero, List.set_cons_succ]
  refine ready_call (i := 16) (d := some 37) (f := 15) (args := #[.pointer (some ⟨bh, 0, none⟩)]) rfl (by kernel_rfl) (fun oi ho => ?_) ?_
  · obtain rfl := Option.some.inj ho
    exact ⟨by rfl, by go_simp⟩
  refine (len_any bh l _ G6.hx).mono ?_
  rintro e X6' ⟨rfl, rfl⟩
  refine ⟨_, rfl, E6, ?_⟩
  simp only [Act.put, List.setIfInBounds_toArray, List.set_cons_zero, List.set_cons_succ]
  refine take_at (i := 19) (d := some 40) (v := .bool true) rfl (by kernel_rfl) (by kernel_rfl) (by kernel_rfl) (fun _ _ _ h => h) (fun oi ho => ?_) E6 ?_
  · obtain rfl := Option.some.inj ho
    exact Or.inl ⟨by rfl, fun wx hSw => by go_simp⟩
  simp only [Act.put, List.setIfInBounds_toArray, List.set_cons_zero, List.set_cons_succ]
  refine take_at (i := 20) (d := some 41) (v := .bool true) rfl (by kernel_rfl) (by kernel_rfl) (by kernel_rfl) (fun _ _ _ h => h) (fun oi ho => ?_) E6 ?_
  · obtain rfl := Option.some.inj ho
    exact Or.inl ⟨by rfl, fun wx hSw => by go_simp⟩
  simp only [Act.put, List.setIfInBounds_toArray, List.set_cons_zero, List.set_cons_succ]
  refine take_at (i := 21) (d := some 42) (v := .bool true) rfl (by kernel_rfl) (by kernel_rfl) (by kernel_rfl) (fun _ _ _ h => h) (fun oi ho => ?_) E6 ?_
  · obtain rfl := Option.some.inj ho
    exact Or.inl ⟨by rfl, fun wx hSw => by go_simp⟩
  simp only [Act.put, List.setIfInBounds_toArray, List.set_cons_zero, List.set_cons_succ]
  refine take_at (i := 22) (d := some 43) (v := .pointer (some ⟨bh, 0, none⟩)) rfl (by kernel_rfl) (by kernel_rfl) (by kernel_rfl) (fun _ _ _ h => h) (fun oi ho => ?_) E6 ?_
  · obtain rfl := Option.some.inj ho
    exact Or.inl ⟨by rfl, fun wx hSw => by go_simp⟩
  simp only [Act.put, List.setIfInBounds_toArray, List.set_cons_zero, List.set_cons_succ]
  refine take_at (i := 24) (d := some 45) (v := S l) rfl (by kernel_rfl) (by kernel_rfl) (by kernel_rfl) (fun _ _ _ h => h) (fun oi ho => ?_) E6 ?_
  · obtain rfl := Option.some.inj ho
    exact Or.inl ⟨by rfl, fun wx hSw => by go_simp⟩
  simp only [Act.put, List.setIfInBounds_toArray, List.set_cons_zero, List.set_cons_succ]
  refine ready_call (i := 23) (d := some 44) (f := 14) (args := #[.pointer (some ⟨bh, 0, none⟩)]) rfl (by kernel_rfl) (fun oi ho => ?_) ?_
  · obtain rfl := Option.some.inj ho
    exact ⟨by rfl, by go_simp⟩
  refine (hashSum_any bh l _ G6.hx G6.st (by omega)).mono ?_
  rintro e X7 ⟨rfl, C7⟩
  have R7 := R6.below C7 R6.lt
  have G7 := G6.below C7
  have E7 : X7.rangeAt r1 0 ((shaL []).map B) := HR.out _ R7
  refine ⟨_, rfl, E7, ?_⟩
  clear R6 G6 E6 C7
  simp only [Act.put, List.setIfInBounds_toArray, List.set_cons_zero, List.set_cons_succ]
  refine ready_call (i := 25) (d := some 46) (f := 11) (args := #[S l]) rfl (by kernel_rfl) (fun oi ho => ?_) ?_
  · obtain rfl := Option.some.inj ho
    exact ⟨by rfl, by go_simp⟩
  refine (ref_any l (by omega) _).mono ?_
  rintro e X8 ⟨rfl, C8⟩
  have R8 := R7.below C8 R7.lt
  have G8 := G7.below C8
  have E8 : X8.rangeAt r1 0 ((shaL []).map B) := HR.out _ R8
  refine ⟨_, rfl, E8, ?_⟩
  clear R7 G7 E7 C8
  simp only [Act.put, List.setIfInBounds_toArray, List.set_cons_zero, List.set_cons_succ]
  refine take_at (i := 26) (d := some 47) (v := .bool true) rfl (by kernel_rfl) (by kernel_rfl) (by kernel_rfl) (fun _ _ _ h => h) (fun oi ho => ?_) E8 ?_
  · obtain rfl := Option.some.inj ho
    exact Or.inl ⟨by rfl, fun wx hSw => by go_simp⟩
  simp only [Act.put, List.setIfInBounds_toArray, List.set_cons_zero, List.set_cons_succ]
  refine take_at (i := 27) (d := some 48) (v := .bool true) rfl (by kernel_rfl) (by kernel_rfl) (by kernel_rfl) (fun _ _ _ h => h) (fun oi ho => ?_) E8 ?_
  · obtain rfl := Option.some.inj ho
    exact Or.inl ⟨by rfl, fun wx hSw => by go_simp⟩
  simp only [Act.put, List.setIfInBounds_toArray, List.set_cons_zero, List.set_cons_succ]
  refine ready_value (i := 28) (d := some 2) (v := .bool true) rfl (by kernel_rfl) (fun oi ho => ?_) E8 ?_
  · obtain rfl := Option.some.inj ho
    exact ⟨by rfl, by go_simp⟩
  simp only [Act.put, List.setIfInBounds_toArray, List.set_cons_zero, List.set_cons_succ]
  refine wpAnyH_done (by kernel_rfl) ?_ _
  refine NoPanic.normal ?_
  go_wp2
  go_ret
  exact ⟨rfl, G8.bel⟩
end Go.Proofs.YtihgmgphfdjcfaaDoor
