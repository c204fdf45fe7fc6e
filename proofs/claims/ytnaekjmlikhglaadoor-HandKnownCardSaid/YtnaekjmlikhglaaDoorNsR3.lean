/- The walk of the reference's sum. -/
import Derived.Test.YtnaekjmlikhglaaDoorNsR2
import Derived.Test.YtnaekjmlikhglaaDoorNsW3
import Derived.Deep.QuietTactic
import Derived.BigQuiet
namespace Go.Proofs.YtnaekjmlikhglaaDoor.sa
open Go.RowKit
attribute [local go_sem] U_add U_xor U_and U_or U_not U_shl U_shr store_one U_match B_match U_store B_store

set_option maxRecDepth 100000 in
set_option maxHeartbeats 2000000 in
theorem ref_any (t : List UInt8) (ht : t.length ≤ 20000) (w : World) : Calls Tryd.prog 42 #[S t] w fun e w' => e = .returned (.agg (bcells (shaL t))) ∧ Below w.heap.size w w' := by
  have hz := z22
  have HT := Lib.hid ht
  clear ht
  go_enter Tryd.func42, Tryd.ntmps42
  go_wp2_with (first
    | (refine wpList_bytes rfl (.tmp 23) rfl t rfl (by have := HT.out; omega) ?_; intro v1 W1 O1 G1)
    | (at_builtin; refine wpList_add_byte rfl (.tmp 25) (.tmp 26) rfl (w.heap.size + 1) W1 v1 rfl t (by rw [alloc_size] at O1; exact O1) 128 _ rfl rfl rfl (by have := HT.out; omega) (by have := G1.size; rw [alloc_size] at this; omega) ?_; intro v2 W2 O2 G2))
  rw [alloc_size] at O1
  have hs1 : w.heap.size + 1 ≤ W1.heap.size := by have := G1.size; rw [alloc_size] at this; exact this
  have hs2 : w.heap.size + 1 ≤ W2.heap.size := Nat.le_trans hs1 G2.size
  have R2 : Row W2 w.heap.size Z20 55 := row_kept (row_grown (row_new w Z20 55) G1 (by simp)) O1 G2 (Nat.lt_succ_self _)
  have B2 : Below w.heap.size w W2 := below_own (below_grown ((Below.refl _ _).alloc (Nat.le_refl _) _) G1 (fun k h => by cases h) (by rw [alloc_size]; omega)) O1 G2 (by omega) (by omega)
  clear O1 G1 G2 hs1
  obtain ⟨C, hC⟩ : ∃ C, C = (119 - t.length % 64) % 64 := ⟨_, rfl⟩
  have HC := Lib.hid hC
  clear hC
  go_loopw [3] (fun b wr => ∃ j, j ≤ C ∧ Own (w.heap.size + 1) b ((t ++ [128] ++ zs j).map B) wr ∧ Row wr w.heap.size Z20 55 ∧ Below w.heap.size w wr ∧ w.heap.size + 1 ≤ wr.heap.size) (fun b _ => 30000 - vlen b)
  case atStart => exact ⟨0, Nat.zero_le _, by simpa [zs] using O2, R2, B2, hs2⟩
  case round =>
    obtain ⟨j, hj, O, R, Bw, hsz⟩ := hrel
    obtain ⟨n, hn⟩ : ∃ n, n = t.length + 1 + j := ⟨_, rfl⟩
    have HN := Lib.hid hn
    have hl : ((t ++ [128] ++ zs j).map B).length = n := by rw [List.length_map, List.length_append, List.length_append, zs_length, hn]; rfl
    have hl2 : (t ++ [128] ++ zs j).length = n := by rw [List.length_map] at hl; exact hl
    have HL := Lib.hid hl
    have HL2 := Lib.hid hl2
    obtain ⟨g, cap, rfl, _, _, _⟩ := O.shape hl (by omega)
    clear hl hl2
    by_cases hlt : n % 64 = 56
    · obtain rfl : j = C := by have := HC.out; have := HT.out; omega
      have hlt' : (n : Int) % 64 = 56 := by omega
      clear hlt hn
      have hlenS := run_len_S 3 t
      have hT := HT.out
      go_wp2_with fail
      clear hlenS hlt'
      obtain ⟨D, hD⟩ : ∃ D, D = t ++ [128] ++ zs j := ⟨_, rfl⟩
      rw [← hD] at O HL HL2
      have HD := Lib.hid hD
      clear hD hT
      go_loopw [3, 5] (fun b i wr => ∃ k : Nat, k ≤ 8 ∧ i = .int .i64 (7 - (k : Int)) ∧ Own (w.heap.size + 1) b ((D ++ lb t.length k).map B) wr ∧ Row wr w.heap.size Z20 55 ∧ Below w.heap.size w wr ∧ w.heap.size + 1 ≤ wr.heap.size) (fun _ i _ => (intOf i + 1).toNat)
      case atStart => exact ⟨0, Nat.zero_le _, rfl, by simpa [lb] using O, R, Bw, hsz⟩
      case round =>
        obtain ⟨k, hk, rfl, O4, R4, B4, hs4⟩ := hrel
        by_cases hlt : k < 8
        · have hval : (#[Value.int .u8 ((t.length : Int) * 8 / 2 ^ (8 * (7 - k)) % 256)] : Array Value) = #[B (UInt8.ofNat (t.length * 8 / 2 ^ (56 - 8 * k)))] := by
            rw [B, UInt8.toNat_ofNat', show 8 * (7 - k) = 56 - 8 * k by omega]
            have e : (2 : Int) ^ (56 - 8 * k) = ((2 ^ (56 - 8 * k) : Nat) : Int) := by push_cast; rfl
            rw [e, show ((t.length : Int) * 8) = ((t.length * 8 : Nat) : Int) by push_cast; rfl, ← Int.natCast_ediv]
            congr 2
          have HV := Lib.hid hval
          clear hval
          have hll : Hid ((D ++ lb t.length k).length < 1000000000000) := by
            unfold Hid; rw [List.length_append, HL2.out, lb_length]; have := HN.out; have := HT.out; have := HC.out; omega
          go_wp2_with (at_builtin; refine wpList_add_byte rfl (.tmp 43) (.tmp 50) rfl (w.heap.size + 1) wr _ rfl (D ++ lb t.length k) O4 (UInt8.ofNat (t.length * 8 / 2 ^ (56 - 8 * k))) _ HV.out rfl rfl hll.out hs4 ?_; intro v5 W5 O5 G5)
          refine ⟨⟨k + 1, by omega, by go_num, ?_, row_kept R4 O4 G5 (Nat.lt_succ_self _), below_own B4 O4 G5 (by omega) (by omega), Nat.le_trans hs4 G5.size⟩, ?_⟩
          · rw [lb_succ, ← List.append_assoc]; exact O5
          · simp [intOf]; omega
        · obtain rfl : k = 8 := by omega
          rw [show (7 : Int) - ((8 : Nat) : Int) = -1 from rfl]
          have hF : D ++ lb t.length 8 = full t := by rw [full_eq, HD.out, HC.out]
          rw [hF] at O4
          have hFl : ((full t).map B).length = (full t).length := List.length_map _
          have hF0 : 0 < (full t).length := by rw [← hF, List.length_append, lb_length]; omega
          obtain ⟨gb, cb, rfl, hgb, hgl, hgr⟩ := O4.shape hFl hF0
          have hmod := full_mod t
          have hfl : (full t).length < 30000 := by rw [← hF, List.length_append, lb_length, HL2.out]; have := HN.out; have := HT.out; have := HC.out; omega
          clear hFl
          obtain ⟨N, hN⟩ : ∃ N, (full t).length = 64 * N := ⟨(full t).length / 64, by omega⟩
          rw [hN] at hfl hF0 ⊢
          have HN2 := Lib.hid hN
          clear hN hmod hF
          obtain ⟨wb, rfl⟩ : ∃ wb, wb = wr := ⟨_, rfl⟩
          go_wp2_with fail
          go_loopw [7] (fun i wx => ∃ k : Nat, k ≤ N ∧ i = .int .i64 (64 * (k : Int)) ∧ Row wx wb.heap.size (ucells (hsh (full t) k).l) 64 ∧ wx.rangeAt gb 0 ((full t).map B) ∧ Row wx w.heap.size Z20 55 ∧ Below w.heap.size w wx) (fun i _ => 64 * N - (intOf i).toNat)
          case atStart => exact ⟨0, Nat.zero_le _, rfl, row_new _ _ _, World.rangeAt_alloc hgr _, R4.alloc _, B4.alloc (by omega) _⟩
          case round =>
            obtain ⟨k, hk, rfl, Rh, Rb, Ro, Bx⟩ := hrel
            obtain ⟨wx, rfl⟩ : ∃ wx, wx = wr := ⟨_, rfl⟩
            by_cases hlt : k < N
            · go_wp2_with fail
              go_loopw [8, 9] (fun v i wy => ∃ m : Nat, m ≤ 16 ∧ i = .int .i64 m ∧ Own wx.heap.size v ((wl (full t) (64 * k) m).map U) wy ∧ Below wx.heap.size wx wy) (fun _ i _ => 16 - (intOf i).toNat)
              case atStart => exact ⟨0, Nat.zero_le _, rfl, .inl ⟨rfl, rfl⟩, Below.refl _ _⟩
              case round =>
                obtain ⟨m, hm, rfl, Ow, By⟩ := hrel
                by_cases hlt2 : m < 16
                · go_wp2_with fail
                  obtain ⟨p, hp⟩ : ∃ p, p = 64 * k + 4 * m := ⟨_, rfl⟩
                  have hp3 : p + 3 < 64 * N := by omega
                  have hval : wd (full t) p = wd (full t) (64 * k + 4 * m) := by rw [hp]
                  rw [show (64 * (k : Int) + 4 * (m : Int)) = (p : Int) by omega]
                  have hcell : ∀ q, q < 64 * N → ∀ wx : World, wx.rangeAt gb 0 ((full t).map B) → wx.cell? ⟨gb, q, none⟩ = some (B ((full t)[q]?.getD 0)) := fun q hq wx hx => by
                    have hql : q < (full t).length := by rw [HN2.out]; exact hq
                    have := hx q (B ((full t)[q]?.getD 0)) (by rw [List.getElem?_map, List.getElem?_eq_getElem hql]; rfl)
                    rwa [Nat.zero_add] at this
                  have hc0 := hcell p (by omega)
                  have hc1 := hcell (p + 1) (by omega)
                  have hc2 := hcell (p + 2) (by omega)
                  have hc3 := hcell (p + 3) (by omega)
                  have hwd : wd (full t) p = (((((full t)[p]?.getD 0).toUInt32 <<< UInt32.ofNat 24) ||| (((full t)[p + 1]?.getD 0).toUInt32 <<< UInt32.ofNat 16)) ||| (((full t)[p + 2]?.getD 0).toUInt32 <<< UInt32.ofNat 8)) ||| ((full t)[p + 3]?.getD 0).toUInt32 := rfl
                  generalize (full t)[p]?.getD 0 = y0 at hc0 hwd
                  generalize (full t)[p + 1]?.getD 0 = y1 at hc1 hwd
                  generalize (full t)[p + 2]?.getD 0 = y2 at hc2 hwd
                  generalize (full t)[p + 3]?.getD 0 = y3 at hc3 hwd
                  have hcv := convB
                  have w1 : IntKind.i64.wrap ((p : Int) + 1) = (p : Int) + 1 := IntWalk.i64_in _ (by omega)
                  have w2 : IntKind.i64.wrap ((p : Int) + 2) = (p : Int) + 2 := IntWalk.i64_in _ (by omega)
                  have w3 : IntKind.i64.wrap ((p : Int) + 3) = (p : Int) + 3 := IntWalk.i64_in _ (by omega)
                  have p0 : 0 ≤ (p : Int) ∧ (p : Int) < ((64 * N : Nat) : Int) := by omega
                  have p1 : 0 ≤ (p : Int) + 1 ∧ (p : Int) + 1 < ((64 * N : Nat) : Int) := by omega
                  have p2 : 0 ≤ (p : Int) + 2 ∧ (p : Int) + 2 < ((64 * N : Nat) : Int) := by omega
                  have p3 : 0 ≤ (p : Int) + 3 ∧ (p : Int) + 3 < ((64 * N : Nat) : Int) := by omega
                  have t1 : ((p : Int) + 1).toNat = p + 1 := by omega
                  have t2 : ((p : Int) + 2).toNat = p + 2 := by omega
                  have t3 : ((p : Int) + 3).toNat = p + 3 := by omega
                  have HWD := Lib.hid hwd
                  have HP := Lib.hid hp
                  clear hwd hval hcell hp
                  have hgbx : gb < wx.heap.size := by
                    have := hc0 wx Rb
                    exact World.block_lt_of_cell? wx _ this
                  have hH : wr.drew.rangeAt gb 0 ((full t).map B) := fun j v hv => by
                    have e : wr.drew.heap[gb]? = wx.heap[gb]? := By.block gb hgbx
                    rw [World.cell?_of_block (w := wx) e]; exact Rb j v hv
                  refine wp_region_noPanic ?_
                  refine wp_region_held_drew (S := fun w' => w'.rangeAt gb 0 ((full t).map B)) (by kernel_rfl) hH (fun _ => ?_)
                  refine take_at (i := 0) (d := some 67) (v := u8) rfl (by kernel_rfl) (by kernel_rfl) (by kernel_rfl) (fun _ _ _ h => h) (fun oi ho => ?_) hH ?_
                  · obtain rfl := Option.some.inj ho
                    exact Or.inl ⟨by rfl, fun wx hSw => by go_simp⟩
                  simp only [Act.put, List.setIfInBounds_toArray, List.set_cons_zero, List.set_cons_succ]
                  refine take_at (i := 1) (d := some 68) (v := .slice (some ⟨gb, 0, none⟩) (64 * N) cb) rfl (by kernel_rfl) (by kernel_rfl) (by kernel_rfl) (fun _ _ _ h => h) (fun oi ho => ?_) hH ?_
                  · obtain rfl := Option.some.inj ho
                    exact Or.inl ⟨by rfl, fun wx hSw => by go_simp⟩
                  simp only [Act.put, List.setIfInBounds_toArray, List.set_cons_zero, List.set_cons_succ]
                  refine take_at (i := 2) (d := some 69) (v := .int .i64 (p : Int)) rfl (by kernel_rfl) (by kernel_rfl) (by kernel_rfl) (fun _ _ _ h => h) (fun oi ho => ?_) hH ?_
                  · obtain rfl := Option.some.inj ho
                    exact Or.inl ⟨by rfl, fun wx hSw => by go_simp⟩
                  simp only [Act.put, List.setIfInBounds_toArray, List.set_cons_zero, List.set_cons_succ]
                  refine take_at (i := 3) (d := some 70) (v := .pointer (some ⟨gb, p, none⟩)) rfl (by kernel_rfl) (by kernel_rfl) (by kernel_rfl) (fun _ _ _ h => h) (fun oi ho => ?_) hH ?_
                  · obtain rfl := Option.some.inj ho
                    exact Or.inl ⟨by rfl, fun wx hSw => by go_simp; try (intro hge; omega)⟩
                  simp only [Act.put, List.setIfInBounds_toArray, List.set_cons_zero, List.set_cons_succ]
                  refine take_at (i := 4) (d := some 71) (v := B y0) rfl (by kernel_rfl) (by kernel_rfl) (by kernel_rfl) (fun _ _ _ h => h) (fun oi ho => ?_) hH ?_
                  · obtain rfl := Option.some.inj ho
                    exact Or.inl ⟨by rfl, fun wx hSw => by have hc := hc0 wx hSw; go_simp⟩
                  simp only [Act.put, List.setIfInBounds_toArray, List.set_cons_zero, List.set_cons_succ]
                  refine take_at (i := 5) (d := some 72) (v := U y0.toUInt32) rfl (by kernel_rfl) (by kernel_rfl) (by kernel_rfl) (fun _ _ _ h => h) (fun oi ho => ?_) hH ?_
                  · obtain rfl := Option.some.inj ho
                    exact Or.inl ⟨by rfl, fun wx hSw => by go_simp⟩
                  simp only [Act.put, List.setIfInBounds_toArray, List.set_cons_zero, List.set_cons_succ]
                  refine take_at (i := 6) (d := some 73) (v := U (y0.toUInt32 <<< UInt32.ofNat 24)) rfl (by kernel_rfl) (by kernel_rfl) (by kernel_rfl) (fun _ _ _ h => h) (fun oi ho => ?_) hH ?_
                  · obtain rfl := Option.some.inj ho
                    exact Or.inl ⟨by rfl, fun wx hSw => by go_simp⟩
                  simp only [Act.put, List.setIfInBounds_toArray, List.set_cons_zero, List.set_cons_succ]
                  refine take_at (i := 7) (d := some 74) (v := .slice (some ⟨gb, 0, none⟩) (64 * N) cb) rfl (by kernel_rfl) (by kernel_rfl) (by kernel_rfl) (fun _ _ _ h => h) (fun oi ho => ?_) hH ?_
                  · obtain rfl := Option.some.inj ho
                    exact Or.inl ⟨by rfl, fun wx hSw => by go_simp⟩
                  simp only [Act.put, List.setIfInBounds_toArray, List.set_cons_zero, List.set_cons_succ]
                  refine take_at (i := 8) (d := some 75) (v := .int .i64 (p : Int)) rfl (by kernel_rfl) (by kernel_rfl) (by kernel_rfl) (fun _ _ _ h => h) (fun oi ho => ?_) hH ?_
                  · obtain rfl := Option.some.inj ho
                    exact Or.inl ⟨by rfl, fun wx hSw => by go_simp⟩
                  simp only [Act.put, List.setIfInBounds_toArray, List.set_cons_zero, List.set_cons_succ]
                  refine take_at (i := 9) (d := some 76) (v := .int .i64 ((p : Int) + 1)) rfl (by kernel_rfl) (by kernel_rfl) (by kernel_rfl) (fun _ _ _ h => h) (fun oi ho => ?_) hH ?_
                  · obtain rfl := Option.some.inj ho
                    exact Or.inl ⟨by rfl, fun wx hSw => by go_simp⟩
                  simp only [Act.put, List.setIfInBounds_toArray, List.set_cons_zero, List.set_cons_succ]
                  refine take_at (i := 10) (d := some 77) (v := .pointer (some ⟨gb, p + 1, none⟩)) rfl (by kernel_rfl) (by kernel_rfl) (by kernel_rfl) (fun _ _ _ h => h) (fun oi ho => ?_) hH ?_
                  · obtain rfl := Option.some.inj ho
                    exact Or.inl ⟨by rfl, fun wx hSw => by go_simp; try (intro hge; omega)⟩
                  simp only [Act.put, List.setIfInBounds_toArray, List.set_cons_zero, List.set_cons_succ]
                  refine take_at (i := 11) (d := some 78) (v := B y1) rfl (by kernel_rfl) (by kernel_rfl) (by kernel_rfl) (fun _ _ _ h => h) (fun oi ho => ?_) hH ?_
                  · obtain rfl := Option.some.inj ho
                    exact Or.inl ⟨by rfl, fun wx hSw => by have hc := hc1 wx hSw; go_simp⟩
                  simp only [Act.put, List.setIfInBounds_toArray, List.set_cons_zero, List.set_cons_succ]
                  refine take_at (i := 12) (d := some 79) (v := U y1.toUInt32) rfl (by kernel_rfl) (by kernel_rfl) (by kernel_rfl) (fun _ _ _ h => h) (fun oi ho => ?_) hH ?_
                  · obtain rfl := Option.some.inj ho
                    exact Or.inl ⟨by rfl, fun wx hSw => by go_simp⟩
                  simp only [Act.put, List.setIfInBounds_toArray, List.set_cons_zero, List.set_cons_succ]
                  refine take_at (i := 13) (d := some 80) (v := U (y1.toUInt32 <<< UInt32.ofNat 16)) rfl (by kernel_rfl) (by kernel_rfl) (by kernel_rfl) (fun _ _ _ h => h) (fun oi ho => ?_) hH ?_
                  · obtain rfl := Option.some.inj ho
                    exact Or.inl ⟨by rfl, fun wx hSw => by go_simp⟩
                  simp only [Act.put, List.setIfInBounds_toArray, List.set_cons_zero, List.set_cons_succ]
                  refine take_at (i := 14) (d := some 81) (v := U ((y0.toUInt32 <<< UInt32.ofNat 24) ||| (y1.toUInt32 <<< UInt32.ofNat 16))) rfl (by kernel_rfl) (by kernel_rfl) (by kernel_rfl) (fun _ _ _ h => h) (fun oi ho => ?_) hH ?_
                  · obtain rfl := Option.some.inj ho
                    exact Or.inl ⟨by rfl, fun wx hSw => by go_simp⟩
                  simp only [Act.put, List.setIfInBounds_toArray, List.set_cons_zero, List.set_cons_succ]
                  refine take_at (i := 15) (d := some 82) (v := .slice (some ⟨gb, 0, none⟩) (64 * N) cb) rfl (by kernel_rfl) (by kernel_rfl) (by kernel_rfl) (fun _ _ _ h => h) (fun oi ho => ?_) hH ?_
                  · obtain rfl := Option.some.inj ho
                    exact Or.inl ⟨by rfl, fun wx hSw => by go_simp⟩
                  simp only [Act.put, List.setIfInBounds_toArray, List.set_cons_zero, List.set_cons_succ]
                  refine take_at (i := 16) (d := some 83) (v := .int .i64 (p : Int)) rfl (by kernel_rfl) (by kernel_rfl) (by kernel_rfl) (fun _ _ _ h => h) (fun oi ho => ?_) hH ?_
                  · obtain rfl := Option.some.inj ho
                    exact Or.inl ⟨by rfl, fun wx hSw => by go_simp⟩
                  simp only [Act.put, List.setIfInBounds_toArray, List.set_cons_zero, List.set_cons_succ]
                  refine take_at (i := 17) (d := some 84) (v := .int .i64 ((p : Int) + 2)) rfl (by kernel_rfl) (by kernel_rfl) (by kernel_rfl) (fun _ _ _ h => h) (fun oi ho => ?_) hH ?_
                  · obtain rfl := Option.some.inj ho
                    exact Or.inl ⟨by rfl, fun wx hSw => by go_simp⟩
                  simp only [Act.put, List.setIfInBounds_toArray, List.set_cons_zero, List.set_cons_succ]
                  refine take_at (i := 18) (d := some 85) (v := .pointer (some ⟨gb, p + 2, none⟩)) rfl (by kernel_rfl) (by kernel_rfl) (by kernel_rfl) (fun _ _ _ h => h) (fun oi ho => ?_) hH ?_
                  · obtain rfl := Option.some.inj ho
                    exact Or.inl ⟨by rfl, fun wx hSw => by go_simp; try (intro hge; omega)⟩
                  simp only [Act.put, List.setIfInBounds_toArray, List.set_cons_zero, List.set_cons_succ]
                  refine take_at (i := 19) (d := some 86) (v := B y2) rfl (by kernel_rfl) (by kernel_rfl) (by kernel_rfl) (fun _ _ _ h => h) (fun oi ho => ?_) hH ?_
                  · obtain rfl := Option.some.inj ho
                    exact Or.inl ⟨by rfl, fun wx hSw => by have hc := hc2 wx hSw; go_simp⟩
                  simp only [Act.put, List.setIfInBounds_toArray, List.set_cons_zero, List.set_cons_succ]
                  refine take_at (i := 20) (d := some 87) (v := U y2.toUInt32) rfl (by kernel_rfl) (by kernel_rfl) (by kernel_rfl) (fun _ _ _ h => h) (fun oi ho => ?_) hH ?_
                  · obtain rfl := Option.some.inj ho
                    exact Or.inl ⟨by rfl, fun wx hSw => by go_simp⟩
                  simp only [Act.put, List.setIfInBounds_toArray, List.set_cons_zero, List.set_cons_succ]
                  refine take_at (i := 21) (d := some 88) (v := U (y2.toUInt32 <<< UInt32.ofNat 8)) rfl (by kernel_rfl) (by kernel_rfl) (by kernel_rfl) (fun _ _ _ h => h) (fun oi ho => ?_) hH ?_
                  · obtain rfl := Option.some.inj ho
                    exact Or.inl ⟨by rfl, fun wx hSw => by go_simp⟩
                  simp only [Act.put, List.setIfInBounds_toArray, List.set_cons_zero, List.set_cons_succ]
                  refine take_at (i := 22) (d := some 89) (v := U (((y0.toUInt32 <<< UInt32.ofNat 24) ||| (y1.toUInt32 <<< UInt32.ofNat 16)) ||| (y2.toUInt32 <<< UInt32.ofNat 8))) rfl (by kernel_rfl) (by kernel_rfl) (by kernel_rfl) (fun _ _ _ h => h) (fun oi ho => ?_) hH ?_
                  · obtain rfl := Option.some.inj ho
                    exact Or.inl ⟨by rfl, fun wx hSw => by go_simp⟩
                  simp only [Act.put, List.setIfInBounds_toArray, List.set_cons_zero, List.set_cons_succ]
                  refine take_at (i := 23) (d := some 90) (v := .slice (some ⟨gb, 0, none⟩) (64 * N) cb) rfl (by kernel_rfl) (by kernel_rfl) (by kernel_rfl) (fun _ _ _ h => h) (fun oi ho => ?_) hH ?_
                  · obtain rfl := Option.some.inj ho
                    exact Or.inl ⟨by rfl, fun wx hSw => by go_simp⟩
                  simp only [Act.put, List.setIfInBounds_toArray, List.set_cons_zero, List.set_cons_succ]
                  refine take_at (i := 24) (d := some 91) (v := .int .i64 (p : Int)) rfl (by kernel_rfl) (by kernel_rfl) (by kernel_rfl) (fun _ _ _ h => h) (fun oi ho => ?_) hH ?_
                  · obtain rfl := Option.some.inj ho
                    exact Or.inl ⟨by rfl, fun wx hSw => by go_simp⟩
                  simp only [Act.put, List.setIfInBounds_toArray, List.set_cons_zero, List.set_cons_succ]
                  refine take_at (i := 25) (d := some 92) (v := .int .i64 ((p : Int) + 3)) rfl (by kernel_rfl) (by kernel_rfl) (by kernel_rfl) (fun _ _ _ h => h) (fun oi ho => ?_) hH ?_
                  · obtain rfl := Option.some.inj ho
                    exact Or.inl ⟨by rfl, fun wx hSw => by go_simp⟩
                  simp only [Act.put, List.setIfInBounds_toArray, List.set_cons_zero, List.set_cons_succ]
                  refine take_at (i := 26) (d := some 93) (v := .pointer (some ⟨gb, p + 3, none⟩)) rfl (by kernel_rfl) (by kernel_rfl) (by kernel_rfl) (fun _ _ _ h => h) (fun oi ho => ?_) hH ?_
                  · obtain rfl := Option.some.inj ho
                    exact Or.inl ⟨by rfl, fun wx hSw => by go_simp; try (intro hge; omega)⟩
                  simp only [Act.put, List.setIfInBounds_toArray, List.set_cons_zero, List.set_cons_succ]
                  refine take_at (i := 27) (d := some 94) (v := B y3) rfl (by kernel_rfl) (by kernel_rfl) (by kernel_rfl) (fun _ _ _ h => h) (fun oi ho => ?_) hH ?_
                  · obtain rfl := Option.some.inj ho
                    exact Or.inl ⟨by rfl, fun wx hSw => by have hc := hc3 wx hSw; go_simp⟩
                  simp only [Act.put, List.setIfInBounds_toArray, List.set_cons_zero, List.set_cons_succ]
                  refine take_at (i := 28) (d := some 95) (v := U y3.toUInt32) rfl (by kernel_rfl) (by kernel_rfl) (by kernel_rfl) (fun _ _ _ h => h) (fun oi ho => ?_) hH ?_
                  · obtain rfl := Option.some.inj ho
                    exact Or.inl ⟨by rfl, fun wx hSw => by go_simp⟩
                  simp only [Act.put, List.setIfInBounds_toArray, List.set_cons_zero, List.set_cons_succ]
                  refine take_at (i := 29) (d := some 96) (v := U ((((y0.toUInt32 <<< UInt32.ofNat 24) ||| (y1.toUInt32 <<< UInt32.ofNat 16)) ||| (y2.toUInt32 <<< UInt32.ofNat 8)) ||| y3.toUInt32)) rfl (by kernel_rfl) (by kernel_rfl) (by kernel_rfl) (fun _ _ _ h => h) (fun oi ho => ?_) hH ?_
                  · obtain rfl := Option.some.inj ho
                    exact Or.inl ⟨by rfl, fun wx hSw => by go_simp⟩
                  simp only [Act.put, List.setIfInBounds_toArray, List.set_cons_zero, List.set_cons_succ]
                  obtain ⟨i9, z9, hi9, hz9, hs9, hby9, hzs9⟩ := info34
                  have O8 : Own wx.heap.size u8 ((wl (full t) (64 * k) m).map U) (wr.drew.alloc (.cells #[U ((((y0.toUInt32 <<< UInt32.ofNat 24) ||| (y1.toUInt32 <<< UInt32.ofNat 16)) ||| (y2.toUInt32 <<< UInt32.ofNat 8)) ||| y3.toUInt32)] 64)) := (Ow.drew).alloc _
                  have S8 : (wr.drew.alloc (.cells #[U ((((y0.toUInt32 <<< UInt32.ofNat 24) ||| (y1.toUInt32 <<< UInt32.ofNat 16)) ||| (y2.toUInt32 <<< UInt32.ofNat 8)) ||| y3.toUInt32)] 64)).rangeAt gb 0 ((full t).map B) := World.rangeAt_alloc hH _
                  have hy8 : (wr.drew.alloc (.cells #[U ((((y0.toUInt32 <<< UInt32.ofNat 24) ||| (y1.toUInt32 <<< UInt32.ofNat 16)) ||| (y2.toUInt32 <<< UInt32.ofNat 8)) ||| y3.toUInt32)] 64)).cell? ⟨wr.heap.size, 0, none⟩ = some (U ((((y0.toUInt32 <<< UInt32.ofNat 24) ||| (y1.toUInt32 <<< UInt32.ofNat 16)) ||| (y2.toUInt32 <<< UInt32.ofNat 8)) ||| y3.toUInt32)) := by
                    have hr := row_new wr.drew #[U ((((y0.toUInt32 <<< UInt32.ofNat 24) ||| (y1.toUInt32 <<< UInt32.ofNat 16)) ||| (y2.toUInt32 <<< UInt32.ofNat 8)) ||| y3.toUInt32)] 64
                    exact (cell_of_row _ _ 0 _ _ _ hr)
                  obtain ⟨v9, W9, hr9, O9, G9, K9⟩ := run_push (P := Tryd.prog) (wr.drew.alloc (.cells #[U ((((y0.toUInt32 <<< UInt32.ofNat 24) ||| (y1.toUInt32 <<< UInt32.ofNat 16)) ||| (y2.toUInt32 <<< UInt32.ofNat 8)) ||| y3.toUInt32)] 64)) wx.heap.size 72 72 64 i9 z9 Tryd.underlying72 hi9 hz9 hs9 hby9 hzs9 u8 _ O8 ⟨wr.heap.size, 0, none⟩ _ hy8 rfl (by rw [List.length_map, wl_length]; omega) (by have := By.size; rw [alloc_size]; exact Nat.le_succ_of_le this)
                  have S9 : W9.rangeAt gb 0 ((full t).map B) := fun j v hv => by
                    have e : W9.heap[gb]? = (wr.drew.alloc (.cells #[U ((((y0.toUInt32 <<< UInt32.ofNat 24) ||| (y1.toUInt32 <<< UInt32.ofNat 16)) ||| (y2.toUInt32 <<< UInt32.ofNat 8)) ||| y3.toUInt32)] 64)).heap[gb]? := G9.block gb (World.block_lt_of_cell? _ _ (hc0 _ S8)) (fun e => by have := (O8.lt gb e.symm).1; omega)
                    rw [World.cell?_of_block (w := wr.drew.alloc (.cells #[U ((((y0.toUInt32 <<< UInt32.ofNat 24) ||| (y1.toUInt32 <<< UInt32.ofNat 16)) ||| (y2.toUInt32 <<< UInt32.ofNat 8)) ||| y3.toUInt32)] 64)) e]; exact S8 j v hv
                  refine ready_value (i := 30) (d := some 97) (v := .slice (some ⟨wr.heap.size, 0, none⟩) 1 1) (w' := wr.drew.alloc (.cells #[U ((((y0.toUInt32 <<< UInt32.ofNat 24) ||| (y1.toUInt32 <<< UInt32.ofNat 16)) ||| (y2.toUInt32 <<< UInt32.ofNat 8)) ||| y3.toUInt32)] 64)) rfl (by kernel_rfl) (fun oi ho => ?_) S8 ?_
                  · obtain rfl := Option.some.inj ho
                    exact ⟨by rfl, by go_simp⟩
                  simp only [Act.put, List.setIfInBounds_toArray, List.set_cons_zero, List.set_cons_succ]
                  refine ready_value (i := 31) (d := some 98) (v := v9) (w' := W9) rfl (by kernel_rfl) (fun oi ho => ?_) S9 ?_
                  · obtain rfl := Option.some.inj ho
                    exact ⟨by rfl, exec_append (.tmp 67) (.tmp 97) 72 rfl _ _ rfl rfl hr9⟩
                  simp only [Act.put, List.setIfInBounds_toArray, List.set_cons_zero, List.set_cons_succ]
                  refine ready_value (i := 32) (d := some 8) (v := v9) (w' := W9) rfl (by kernel_rfl) (fun oi ho => ?_) S9 ?_
                  · obtain rfl := Option.some.inj ho
                    exact ⟨by rfl, by go_simp⟩
                  simp only [Act.put, List.setIfInBounds_toArray, List.set_cons_zero, List.set_cons_succ]
                  refine wpAnyH_done (by kernel_rfl) ?_ _
                  refine NoPanic.normal ?_
                  have B8 : Below wx.heap.size wx (wr.drew.alloc (.cells #[U ((((y0.toUInt32 <<< UInt32.ofNat 24) ||| (y1.toUInt32 <<< UInt32.ofNat 16)) ||| (y2.toUInt32 <<< UInt32.ofNat 8)) ||| y3.toUInt32)] 64)) := (By.trans (Below.refl _ _).drew).alloc By.size _
                  have B9 : Below wx.heap.size wx W9 := below_own B8 O8 G9 (Nat.le_refl _) B8.size
                  clear hr9 hy8 S8 S9 O8 B8 G9 hi9 hz9 hs9 hby9 hzs9
                  go_wp2_with fail
                  refine ⟨⟨m + 1, by omega, by go_num, ?_, B9⟩, by simp [intOf]; omega⟩
                  rw [wl_succ, List.map_append, List.map_cons, List.map_nil, ← HP.out, HWD.out]
                  exact O9
                · obtain rfl : m = 16 := by omega
                  rw [show ((16 : Nat) : Int) = 16 from rfl]
                  obtain ⟨L, hL⟩ : ∃ L, L = wl (full t) (64 * k) 16 := ⟨_, rfl⟩
                  have HLD := Lib.hid hL
                  have hL16 : L.length = 16 := by rw [hL, wl_length]
                  have HL16 := Lib.hid hL16
                  rw [← hL] at Ow
                  clear hL hL16 hlt2
                  go_wp2_with fail
                  go_loopw [8, 11] (fun v i wy => ∃ n2 : Nat, n2 ≤ 64 ∧ i = .int .i64 (16 + (n2 : Int)) ∧ Own wx.heap.size v ((ext L n2).map U) wy ∧ Below wx.heap.size wx wy) (fun _ i _ => 80 - (intOf i).toNat)
                  case atStart => exact ⟨0, Nat.zero_le _, rfl, Ow, By⟩
                  case round =>
                    obtain ⟨n2, hn2, rfl, Ow, By⟩ := hrel
                    by_cases hlt3 : n2 < 64
                    · skip
                      go_wp2_with fail
                      have hl : ((ext L n2).map U).length = 16 + n2 := by rw [List.length_map, ext_length, HL16.out]
                      obtain ⟨gw, cw, rfl, hgw, hgwl, hgwr⟩ := Ow.shape hl (by omega)
                      clear hl
                      have hcell : ∀ q, q < 16 + n2 → ∀ wq : World, wq.rangeAt gw 0 ((ext L n2).map U) → wq.cell? ⟨gw, q, none⟩ = some (U ((ext L n2)[q]?.getD 0)) := fun q hq wq hx => by
                        have hql : q < (ext L n2).length := by rw [ext_length, HL16.out]; exact hq
                        have := hx q (U ((ext L n2)[q]?.getD 0)) (by rw [List.getElem?_map, List.getElem?_eq_getElem hql]; rfl)
                        rwa [Nat.zero_add] at this
                      have hc0 := hcell (13 + n2) (by omega)
                      have hc1 := hcell (8 + n2) (by omega)
                      have hc2 := hcell (2 + n2) (by omega)
                      have hc3 := hcell n2 (by omega)
                      have hext : ext L (n2 + 1) = ext L n2 ++ [rot ((ext L n2)[13 + n2]?.getD 0 ^^^ (ext L n2)[8 + n2]?.getD 0 ^^^ (ext L n2)[2 + n2]?.getD 0 ^^^ (ext L n2)[n2]?.getD 0) 1] := rfl
                      generalize (ext L n2)[13 + n2]?.getD 0 = x0 at hc0 hext
                      generalize (ext L n2)[8 + n2]?.getD 0 = x1 at hc1 hext
                      generalize (ext L n2)[2 + n2]?.getD 0 = x2 at hc2 hext
                      generalize (ext L n2)[n2]?.getD 0 = x3 at hc3 hext
                      have w1 : IntKind.i64.wrap (16 + (n2 : Int) - 3) = 13 + (n2 : Int) := by rw [IntWalk.i64_in _ (by omega)]; omega
                      have w2 : IntKind.i64.wrap (16 + (n2 : Int) - 8) = 8 + (n2 : Int) := by rw [IntWalk.i64_in _ (by omega)]; omega
                      have w3 : IntKind.i64.wrap (16 + (n2 : Int) - 14) = 2 + (n2 : Int) := by rw [IntWalk.i64_in _ (by omega)]; omega
                      have w4 : IntKind.i64.wrap (16 + (n2 : Int) - 16) = (n2 : Int) := by rw [IntWalk.i64_in _ (by omega)]; omega
                      have p1 : 0 ≤ 13 + (n2 : Int) ∧ 13 + (n2 : Int) < 16 + (n2 : Int) := by omega
                      have p2 : 0 ≤ 8 + (n2 : Int) ∧ 8 + (n2 : Int) < 16 + (n2 : Int) := by omega
                      have p3 : 0 ≤ 2 + (n2 : Int) ∧ 2 + (n2 : Int) < 16 + (n2 : Int) := by omega
                      have p4 : 0 ≤ (n2 : Int) ∧ (n2 : Int) < 16 + (n2 : Int) := by omega
                      have t1 : (13 + (n2 : Int)).toNat = 13 + n2 := by omega
                      have t2 : (8 + (n2 : Int)).toNat = 8 + n2 := by omega
                      have t3 : (2 + (n2 : Int)).toNat = 2 + n2 := by omega
                      have HEXT := Lib.hid hext
                      clear hext hcell
                      have hH : wr.drew.rangeAt gw 0 ((ext L n2).map U) := hgwr
                      refine wp_region_noPanic ?_
                      refine wp_region_held_drew (S := fun w' => w'.rangeAt gw 0 ((ext L n2).map U)) (by kernel_rfl) hH (fun _ => ?_)
                      refine take_at (i := 0) (d := some 103) (v := .slice (some ⟨gw, 0, none⟩) (16 + n2) cw) rfl (by kernel_rfl) (by kernel_rfl) (by kernel_rfl) (fun _ _ _ h => h) (fun oi ho => ?_) hH ?_
                      · obtain rfl := Option.some.inj ho
                        exact Or.inl ⟨by rfl, fun wq hSw => by go_simp⟩
                      simp only [Act.put, List.setIfInBounds_toArray, List.set_cons_zero, List.set_cons_succ]
                      refine take_at (i := 1) (d := some 104) (v := .slice (some ⟨gw, 0, none⟩) (16 + n2) cw) rfl (by kernel_rfl) (by kernel_rfl) (by kernel_rfl) (fun _ _ _ h => h) (fun oi ho => ?_) hH ?_
                      · obtain rfl := Option.some.inj ho
                        exact Or.inl ⟨by rfl, fun wq hSw => by go_simp⟩
                      simp only [Act.put, List.setIfInBounds_toArray, List.set_cons_zero, List.set_cons_succ]
                      refine take_at (i := 2) (d := some 105) (v := .int .i64 (16 + (n2 : Int))) rfl (by kernel_rfl) (by kernel_rfl) (by kernel_rfl) (fun _ _ _ h => h) (fun oi ho => ?_) hH ?_
                      · obtain rfl := Option.some.inj ho
                        exact Or.inl ⟨by rfl, fun wq hSw => by go_simp⟩
                      simp only [Act.put, List.setIfInBounds_toArray, List.set_cons_zero, List.set_cons_succ]
                      refine take_at (i := 3) (d := some 106) (v := .int .i64 (13 + (n2 : Int))) rfl (by kernel_rfl) (by kernel_rfl) (by kernel_rfl) (fun _ _ _ h => h) (fun oi ho => ?_) hH ?_
                      · obtain rfl := Option.some.inj ho
                        exact Or.inl ⟨by rfl, fun wq hSw => by go_simp⟩
                      simp only [Act.put, List.setIfInBounds_toArray, List.set_cons_zero, List.set_cons_succ]
                      refine take_at (i := 4) (d := some 107) (v := .pointer (some ⟨gw, 13 + n2, none⟩)) rfl (by kernel_rfl) (by kernel_rfl) (by kernel_rfl) (fun _ _ _ h => h) (fun oi ho => ?_) hH ?_
                      · obtain rfl := Option.some.inj ho
                        exact Or.inl ⟨by rfl, fun wq hSw => by go_simp; try (intro hge; omega)⟩
                      simp only [Act.put, List.setIfInBounds_toArray, List.set_cons_zero, List.set_cons_succ]
                      refine take_at (i := 5) (d := some 108) (v := U x0) rfl (by kernel_rfl) (by kernel_rfl) (by kernel_rfl) (fun _ _ _ h => h) (fun oi ho => ?_) hH ?_
                      · obtain rfl := Option.some.inj ho
                        exact Or.inl ⟨by rfl, fun wq hSw => by have hc := hc0 wq hSw; go_simp⟩
                      simp only [Act.put, List.setIfInBounds_toArray, List.set_cons_zero, List.set_cons_succ]
                      refine take_at (i := 6) (d := some 109) (v := .slice (some ⟨gw, 0, none⟩) (16 + n2) cw) rfl (by kernel_rfl) (by kernel_rfl) (by kernel_rfl) (fun _ _ _ h => h) (fun oi ho => ?_) hH ?_
                      · obtain rfl := Option.some.inj ho
                        exact Or.inl ⟨by rfl, fun wq hSw => by go_simp⟩
                      simp only [Act.put, List.setIfInBounds_toArray, List.set_cons_zero, List.set_cons_succ]
                      refine take_at (i := 7) (d := some 110) (v := .int .i64 (16 + (n2 : Int))) rfl (by kernel_rfl) (by kernel_rfl) (by kernel_rfl) (fun _ _ _ h => h) (fun oi ho => ?_) hH ?_
                      · obtain rfl := Option.some.inj ho
                        exact Or.inl ⟨by rfl, fun wq hSw => by go_simp⟩
                      simp only [Act.put, List.setIfInBounds_toArray, List.set_cons_zero, List.set_cons_succ]
                      refine take_at (i := 8) (d := some 111) (v := .int .i64 (8 + (n2 : Int))) rfl (by kernel_rfl) (by kernel_rfl) (by kernel_rfl) (fun _ _ _ h => h) (fun oi ho => ?_) hH ?_
                      · obtain rfl := Option.some.inj ho
                        exact Or.inl ⟨by rfl, fun wq hSw => by go_simp⟩
                      simp only [Act.put, List.setIfInBounds_toArray, List.set_cons_zero, List.set_cons_succ]
                      refine take_at (i := 9) (d := some 112) (v := .pointer (some ⟨gw, 8 + n2, none⟩)) rfl (by kernel_rfl) (by kernel_rfl) (by kernel_rfl) (fun _ _ _ h => h) (fun oi ho => ?_) hH ?_
                      · obtain rfl := Option.some.inj ho
                        exact Or.inl ⟨by rfl, fun wq hSw => by go_simp; try (intro hge; omega)⟩
                      simp only [Act.put, List.setIfInBounds_toArray, List.set_cons_zero, List.set_cons_succ]
                      refine take_at (i := 10) (d := some 113) (v := U x1) rfl (by kernel_rfl) (by kernel_rfl) (by kernel_rfl) (fun _ _ _ h => h) (fun oi ho => ?_) hH ?_
                      · obtain rfl := Option.some.inj ho
                        exact Or.inl ⟨by rfl, fun wq hSw => by have hc := hc1 wq hSw; go_simp⟩
                      simp only [Act.put, List.setIfInBounds_toArray, List.set_cons_zero, List.set_cons_succ]
                      refine take_at (i := 11) (d := some 114) (v := U (x0 ^^^ x1)) rfl (by kernel_rfl) (by kernel_rfl) (by kernel_rfl) (fun _ _ _ h => h) (fun oi ho => ?_) hH ?_
                      · obtain rfl := Option.some.inj ho
                        exact Or.inl ⟨by rfl, fun wq hSw => by go_simp⟩
                      simp only [Act.put, List.setIfInBounds_toArray, List.set_cons_zero, List.set_cons_succ]
                      refine take_at (i := 12) (d := some 115) (v := .slice (some ⟨gw, 0, none⟩) (16 + n2) cw) rfl (by kernel_rfl) (by kernel_rfl) (by kernel_rfl) (fun _ _ _ h => h) (fun oi ho => ?_) hH ?_
                      · obtain rfl := Option.some.inj ho
                        exact Or.inl ⟨by rfl, fun wq hSw => by go_simp⟩
                      simp only [Act.put, List.setIfInBounds_toArray, List.set_cons_zero, List.set_cons_succ]
                      refine take_at (i := 13) (d := some 116) (v := .int .i64 (16 + (n2 : Int))) rfl (by kernel_rfl) (by kernel_rfl) (by kernel_rfl) (fun _ _ _ h => h) (fun oi ho => ?_) hH ?_
                      · obtain rfl := Option.some.inj ho
                        exact Or.inl ⟨by rfl, fun wq hSw => by go_simp⟩
                      simp only [Act.put, List.setIfInBounds_toArray, List.set_cons_zero, List.set_cons_succ]
                      refine take_at (i := 14) (d := some 117) (v := .int .i64 (2 + (n2 : Int))) rfl (by kernel_rfl) (by kernel_rfl) (by kernel_rfl) (fun _ _ _ h => h) (fun oi ho => ?_) hH ?_
                      · obtain rfl := Option.some.inj ho
                        exact Or.inl ⟨by rfl, fun wq hSw => by go_simp⟩
                      simp only [Act.put, List.setIfInBounds_toArray, List.set_cons_zero, List.set_cons_succ]
                      refine take_at (i := 15) (d := some 118) (v := .pointer (some ⟨gw, 2 + n2, none⟩)) rfl (by kernel_rfl) (by kernel_rfl) (by kernel_rfl) (fun _ _ _ h => h) (fun oi ho => ?_) hH ?_
                      · obtain rfl := Option.some.inj ho
                        exact Or.inl ⟨by rfl, fun wq hSw => by go_simp; try (intro hge; omega)⟩
                      simp only [Act.put, List.setIfInBounds_toArray, List.set_cons_zero, List.set_cons_succ]
                      refine take_at (i := 16) (d := some 119) (v := U x2) rfl (by kernel_rfl) (by kernel_rfl) (by kernel_rfl) (fun _ _ _ h => h) (fun oi ho => ?_) hH ?_
                      · obtain rfl := Option.some.inj ho
                        exact Or.inl ⟨by rfl, fun wq hSw => by have hc := hc2 wq hSw; go_simp⟩
                      simp only [Act.put, List.setIfInBounds_toArray, List.set_cons_zero, List.set_cons_succ]
                      refine take_at (i := 17) (d := some 120) (v := U ((x0 ^^^ x1) ^^^ x2)) rfl (by kernel_rfl) (by kernel_rfl) (by kernel_rfl) (fun _ _ _ h => h) (fun oi ho => ?_) hH ?_
                      · obtain rfl := Option.some.inj ho
                        exact Or.inl ⟨by rfl, fun wq hSw => by go_simp⟩
                      simp only [Act.put, List.setIfInBounds_toArray, List.set_cons_zero, List.set_cons_succ]
                      refine take_at (i := 18) (d := some 121) (v := .slice (some ⟨gw, 0, none⟩) (16 + n2) cw) rfl (by kernel_rfl) (by kernel_rfl) (by kernel_rfl) (fun _ _ _ h => h) (fun oi ho => ?_) hH ?_
                      · obtain rfl := Option.some.inj ho
                        exact Or.inl ⟨by rfl, fun wq hSw => by go_simp⟩
                      simp only [Act.put, List.setIfInBounds_toArray, List.set_cons_zero, List.set_cons_succ]
                      refine take_at (i := 19) (d := some 122) (v := .int .i64 (16 + (n2 : Int))) rfl (by kernel_rfl) (by kernel_rfl) (by kernel_rfl) (fun _ _ _ h => h) (fun oi ho => ?_) hH ?_
                      · obtain rfl := Option.some.inj ho
                        exact Or.inl ⟨by rfl, fun wq hSw => by go_simp⟩
                      simp only [Act.put, List.setIfInBounds_toArray, List.set_cons_zero, List.set_cons_succ]
                      refine take_at (i := 20) (d := some 123) (v := .int .i64 (n2 : Int)) rfl (by kernel_rfl) (by kernel_rfl) (by kernel_rfl) (fun _ _ _ h => h) (fun oi ho => ?_) hH ?_
                      · obtain rfl := Option.some.inj ho
                        exact Or.inl ⟨by rfl, fun wq hSw => by go_simp⟩
                      simp only [Act.put, List.setIfInBounds_toArray, List.set_cons_zero, List.set_cons_succ]
                      refine take_at (i := 21) (d := some 124) (v := .pointer (some ⟨gw, n2, none⟩)) rfl (by kernel_rfl) (by kernel_rfl) (by kernel_rfl) (fun _ _ _ h => h) (fun oi ho => ?_) hH ?_
                      · obtain rfl := Option.some.inj ho
                        exact Or.inl ⟨by rfl, fun wq hSw => by go_simp; try (intro hge; omega)⟩
                      simp only [Act.put, List.setIfInBounds_toArray, List.set_cons_zero, List.set_cons_succ]
                      refine take_at (i := 22) (d := some 125) (v := U x3) rfl (by kernel_rfl) (by kernel_rfl) (by kernel_rfl) (fun _ _ _ h => h) (fun oi ho => ?_) hH ?_
                      · obtain rfl := Option.some.inj ho
                        exact Or.inl ⟨by rfl, fun wq hSw => by have hc := hc3 wq hSw; go_simp⟩
                      simp only [Act.put, List.setIfInBounds_toArray, List.set_cons_zero, List.set_cons_succ]
                      refine take_at (i := 23) (d := some 126) (v := U (((x0 ^^^ x1) ^^^ x2) ^^^ x3)) rfl (by kernel_rfl) (by kernel_rfl) (by kernel_rfl) (fun _ _ _ h => h) (fun oi ho => ?_) hH ?_
                      · obtain rfl := Option.some.inj ho
                        exact Or.inl ⟨by rfl, fun wq hSw => by go_simp⟩
                      simp only [Act.put, List.setIfInBounds_toArray, List.set_cons_zero, List.set_cons_succ]
                      refine ready_call (i := 24) (d := some 127) (f := 54) (args := #[U (((x0 ^^^ x1) ^^^ x2) ^^^ x3), .int .u64 1]) rfl (by kernel_rfl) (fun oi ho => ?_) ?_
                      · obtain rfl := Option.some.inj ho
                        exact ⟨by rfl, by go_simp⟩
                      refine (rot1 _ _).mono ?_
                      rintro e W5 ⟨rfl, rfl⟩
                      refine ⟨_, rfl, hH, ?_⟩
                      simp only [Act.put, List.setIfInBounds_toArray, List.set_cons_zero, List.set_cons_succ]
                      obtain ⟨i9, z9, hi9, hz9, hs9, hby9, hzs9⟩ := info34
                      have O8 : Own wx.heap.size (.slice (some ⟨gw, 0, none⟩) (16 + n2) cw) ((ext L n2).map U) (wr.drew.alloc (.cells #[U (rot (((x0 ^^^ x1) ^^^ x2) ^^^ x3) 1)] 64)) := (Ow.drew).alloc _
                      have S8 : (wr.drew.alloc (.cells #[U (rot (((x0 ^^^ x1) ^^^ x2) ^^^ x3) 1)] 64)).rangeAt gw 0 ((ext L n2).map U) := World.rangeAt_alloc hH _
                      have hy8 : (wr.drew.alloc (.cells #[U (rot (((x0 ^^^ x1) ^^^ x2) ^^^ x3) 1)] 64)).cell? ⟨wr.heap.size, 0, none⟩ = some (U (rot (((x0 ^^^ x1) ^^^ x2) ^^^ x3) 1)) := by
                        have hr := row_new wr.drew #[U (rot (((x0 ^^^ x1) ^^^ x2) ^^^ x3) 1)] 64
                        exact (cell_of_row _ _ 0 _ _ _ hr)
                      obtain ⟨v9, W9, hr9, O9, G9, K9⟩ := run_push (P := Tryd.prog) (wr.drew.alloc (.cells #[U (rot (((x0 ^^^ x1) ^^^ x2) ^^^ x3) 1)] 64)) wx.heap.size 72 72 64 i9 z9 Tryd.underlying72 hi9 hz9 hs9 hby9 hzs9 _ _ O8 ⟨wr.heap.size, 0, none⟩ _ hy8 rfl (by rw [List.length_map, ext_length, HL16.out]; omega) (by have := By.size; rw [alloc_size]; exact Nat.le_succ_of_le this)
                      refine ready_value (i := 25) (d := some 128) (v := .slice (some ⟨wr.heap.size, 0, none⟩) 1 1) (w' := wr.drew.alloc (.cells #[U (rot (((x0 ^^^ x1) ^^^ x2) ^^^ x3) 1)] 64)) rfl (by kernel_rfl) (fun oi ho => ?_) S8 ?_
                      · obtain rfl := Option.some.inj ho
                        exact ⟨by rfl, by go_simp⟩
                      simp only [Act.put, List.setIfInBounds_toArray, List.set_cons_zero, List.set_cons_succ]
                      have S9 : W9.rangeAt gw 0 ((ext L n2).map U) := K9 gw _ _ rfl
                      refine ready_value (i := 26) (d := some 129) (v := v9) (w' := W9) rfl (by kernel_rfl) (fun oi ho => ?_) S9 ?_
                      · obtain rfl := Option.some.inj ho
                        exact ⟨by rfl, exec_append (.tmp 103) (.tmp 128) 72 rfl _ _ rfl rfl hr9⟩
                      simp only [Act.put, List.setIfInBounds_toArray, List.set_cons_zero, List.set_cons_succ]
                      refine ready_value (i := 27) (d := some 8) (v := v9) (w' := W9) rfl (by kernel_rfl) (fun oi ho => ?_) S9 ?_
                      · obtain rfl := Option.some.inj ho
                        exact ⟨by rfl, by go_simp⟩
                      simp only [Act.put, List.setIfInBounds_toArray, List.set_cons_zero, List.set_cons_succ]
                      refine wpAnyH_done (by kernel_rfl) ?_ _
                      refine NoPanic.normal ?_
                      have B8 : Below wx.heap.size wx (wr.drew.alloc (.cells #[U (rot (((x0 ^^^ x1) ^^^ x2) ^^^ x3) 1)] 64)) := (By.trans (Below.refl _ _).drew).alloc By.size _
                      have B9 : Below wx.heap.size wx W9 := below_own B8 O8 G9 (Nat.le_refl _) B8.size
                      clear hr9 hy8 S8 S9 O8 B8 G9 K9 hi9 hz9 hs9 hby9 hzs9 w1 w2 w3 w4 p1 p2 p3 p4 t1 t2 t3
                      go_wp2_with fail
                      refine ⟨⟨n2 + 1, by omega, by go_num, ?_, B9⟩, by simp [intOf]; omega⟩
                      rw [HEXT.out, List.map_append, List.map_cons, List.map_nil]
                      exact O9
                    · obtain rfl : n2 = 64 := by omega
                      rw [show (16 : Int) + ((64 : Nat) : Int) = 80 from rfl]
                      go_wp2_with fail
                      have hl : ((ext L 64).map U).length = 80 := by rw [List.length_map, ext_length, HL16.out]
                      obtain ⟨gw, cw, rfl, hgw, hgwl, hgwr⟩ := Ow.shape hl (by omega)
                      clear hl
                      obtain ⟨E, hE⟩ : ∃ E, E = ext L 64 := ⟨_, rfl⟩
                      obtain ⟨s, hs⟩ : ∃ s, s = hsh (full t) k := ⟨_, rfl⟩
                      rw [← hE] at Ow hgwr
                      rw [← hs] at Rh
                      have hEl : E.length = 80 := by rw [hE, ext_length, HL16.out]
                      have HE := Lib.hid hE
                      have HS := Lib.hid hs
                      clear hE hs Ow
                      have Rh2 : Row wr wb.heap.size (ucells s.l) 64 := Rh.below By Rh.lt
                      have c0 : wr.cell? ⟨wb.heap.size, 0, none⟩ = some (U s.a) := Rh2.word _ rfl 0 (by simp [S5.l])
                      have c1 : wr.cell? ⟨wb.heap.size, 1, none⟩ = some (U s.b) := Rh2.word _ rfl 1 (by simp [S5.l])
                      have c2 : wr.cell? ⟨wb.heap.size, 2, none⟩ = some (U s.c) := Rh2.word _ rfl 2 (by simp [S5.l])
                      have c3 : wr.cell? ⟨wb.heap.size, 3, none⟩ = some (U s.d) := Rh2.word _ rfl 3 (by simp [S5.l])
                      have c4 : wr.cell? ⟨wb.heap.size, 4, none⟩ = some (U s.e) := Rh2.word _ rfl 4 (by simp [S5.l])
                      go_quiet (fail)
                      clear c0 c1 c2 c3 c4
                      obtain ⟨W, hW⟩ : ∃ W, W = wr.drewN nq := ⟨_, rfl⟩
                      rw [← hW]
                      have Rh3 : Row W wb.heap.size (ucells s.l) 64 := by rw [hW]; exact Rh2.below (_root_.Go.below_drewN (Below.refl _ _) nq) Rh2.lt
                      have By3 : Below wx.heap.size wx W := by rw [hW]; exact _root_.Go.below_drewN By nq
                      have hgwr3 : W.rangeAt gw 0 (E.map U) := fun j v hv => by
                        have e : W.heap[gw]? = wr.heap[gw]? := by rw [hW]; exact (_root_.Go.below_drewN (Below.refl (wr.heap.size) wr) nq).block gw hgwl
                        rw [World.cell?_of_block (w := wr) e]; exact hgwr j v hv
                      have hgwl3 : gw < W.heap.size := World.block_lt_of_cell? W _ (hgwr3 0 (U (E[0]?.getD 0)) (by rw [List.getElem?_map, List.getElem?_eq_getElem (by omega)]; rfl))
                      clear hW hgwr hgwl By Rh2
                      go_wp2_with fail
                      go_loopw [12, 13, 14, 15, 16, 17] (fun a b c d e i wy => ∃ t2 : Nat, t2 ≤ 80 ∧ i = .int .i64 t2 ∧ a = U (rd E s t2).a ∧ b = U (rd E s t2).b ∧ c = U (rd E s t2).c ∧ d = U (rd E s t2).d ∧ e = U (rd E s t2).e ∧ Below W.heap.size W wy) (fun _ _ _ _ _ i _ => 80 - (intOf i).toNat)
                      case atStart => exact ⟨0, Nat.zero_le _, rfl, rfl, rfl, rfl, rfl, rfl, Below.refl _ _⟩
                      case round =>
                        obtain ⟨t2, ht2, rfl, rfl, rfl, rfl, rfl, rfl, Bz⟩ := hrel
                        obtain ⟨q, hq⟩ : ∃ q, q = rd E s t2 := ⟨_, rfl⟩
                        rw [← hq]
                        have HQ := Lib.hid hq
                        clear hq
                        by_cases hlt4 : t2 < 80
                        · have hEc : wr.cell? ⟨gw, t2, none⟩ = some (U (E[t2]?.getD 0)) := by
                            rw [World.cell?_of_block (w := W) (Bz.block gw hgwl3)]
                            have := hgwr3 t2 (U (E[t2]?.getD 0)) (by rw [List.getElem?_map, List.getElem?_eq_getElem (by omega)]; rfl)
                            rwa [Nat.zero_add] at this
                          have hb : 0 ≤ (t2 : Int) ∧ (t2 : Int) < 80 := by omega
                          have k1 := K1
                          have k2 := K2
                          have k3 := K3
                          have k4 := K4
                          have e : rd E s (t2 + 1) = rd1 E t2 q := by rw [HQ.out]; rfl
                          by_cases h1 : t2 < 20
                          · have hf : fF t2 q.b q.c q.d = (q.b &&& q.c) ^^^ (~~~q.b &&& q.d) := by simp [fF, h1]
                            have hk : kK t2 = 0x5a827999 := by simp [kK, h1]
                            have h1' : (t2 : Int) < 20 := by omega
                            have HF := Lib.hid hf
                            have HK := Lib.hid hk
                            have HEE := Lib.hid e
                            clear hf hk e
                            go_wp2_with fail
                            go_quiet (first | (go_at_call 54; refine Calls.quiet_of_same ((rot5 _ _).mono fun _ _ ⟨ea, eb⟩ => ⟨ea, eb.symm⟩)))
                            go_wp2_with (go_at_call 54; refine (rot30 _ _).mono ?_; rintro e W3 ⟨rfl, rfl⟩)
                            refine ⟨⟨t2 + 1, by omega, by go_num, ?_, by rw [HEE.out]; rfl, by rw [HEE.out]; rfl, by rw [HEE.out]; rfl, by rw [HEE.out]; rfl, _root_.Go.below_drewN Bz nq⟩, by simp [intOf]; omega⟩
                            rw [HEE.out]
                            show _ = U (rot q.a 5 + fF t2 q.b q.c q.d + q.e + kK t2 + E[t2]?.getD 0)
                            rw [HF.out, HK.out]
                            first | rfl | (rw [List.getElem?_eq_getElem (by omega)]; rfl)
                          · by_cases h2 : t2 < 40
                            · have hf : fF t2 q.b q.c q.d = q.b ^^^ q.c ^^^ q.d := by simp [fF, h1, h2]
                              have hk : kK t2 = 0x6ed9eba1 := by simp [kK, h1, h2]
                              have h1' : ¬ (t2 : Int) < 20 := by omega
                              have h2' : ¬ (40 : Int) ≤ (t2 : Int) := by omega
                              have h3' : ¬ (60 : Int) ≤ (t2 : Int) := by omega
                              have HF := Lib.hid hf
                              have HK := Lib.hid hk
                              have HEE := Lib.hid e
                              clear hf hk e
                              go_wp2_with fail
                              go_quiet (first | (go_at_call 54; refine Calls.quiet_of_same ((rot5 _ _).mono fun _ _ ⟨ea, eb⟩ => ⟨ea, eb.symm⟩)))
                              go_wp2_with (go_at_call 54; refine (rot30 _ _).mono ?_; rintro e W3 ⟨rfl, rfl⟩)
                              refine ⟨⟨t2 + 1, by omega, by go_num, ?_, by rw [HEE.out]; rfl, by rw [HEE.out]; rfl, by rw [HEE.out]; rfl, by rw [HEE.out]; rfl, _root_.Go.below_drewN Bz nq⟩, by simp [intOf]; omega⟩
                              rw [HEE.out]
                              show _ = U (rot q.a 5 + fF t2 q.b q.c q.d + q.e + kK t2 + E[t2]?.getD 0)
                              rw [HF.out, HK.out]
                              first | rfl | (rw [List.getElem?_eq_getElem (by omega)]; rfl)
                            · by_cases h3 : t2 < 60
                              · have hf : fF t2 q.b q.c q.d = (q.b &&& q.c) ^^^ (q.b &&& q.d) ^^^ (q.c &&& q.d) := by simp [fF, h1, h2, h3]
                                have hk : kK t2 = 0x8f1bbcdc := by simp [kK, h1, h2, h3]
                                have h1' : ¬ (t2 : Int) < 20 := by omega
                                have h2' : (40 : Int) ≤ (t2 : Int) := by omega
                                have h3' : (t2 : Int) < 60 := by omega
                                have HF := Lib.hid hf
                                have HK := Lib.hid hk
                                have HEE := Lib.hid e
                                clear hf hk e
                                go_wp2_with fail
                                go_quiet (first | (go_at_call 54; refine Calls.quiet_of_same ((rot5 _ _).mono fun _ _ ⟨ea, eb⟩ => ⟨ea, eb.symm⟩)))
                                go_wp2_with (go_at_call 54; refine (rot30 _ _).mono ?_; rintro e W3 ⟨rfl, rfl⟩)
                                refine ⟨⟨t2 + 1, by omega, by go_num, ?_, by rw [HEE.out]; rfl, by rw [HEE.out]; rfl, by rw [HEE.out]; rfl, by rw [HEE.out]; rfl, _root_.Go.below_drewN Bz nq⟩, by simp [intOf]; omega⟩
                                rw [HEE.out]
                                show _ = U (rot q.a 5 + fF t2 q.b q.c q.d + q.e + kK t2 + E[t2]?.getD 0)
                                rw [HF.out, HK.out]
                                first | rfl | (rw [List.getElem?_eq_getElem (by omega)]; rfl)
                              · have hf : fF t2 q.b q.c q.d = q.b ^^^ q.c ^^^ q.d := by simp [fF, h1, h2, h3]
                                have hk : kK t2 = 0xca62c1d6 := by simp [kK, h1, h2, h3]
                                have h1' : ¬ (t2 : Int) < 20 := by omega
                                have h2' : (40 : Int) ≤ (t2 : Int) := by omega
                                have h3' : (60 : Int) ≤ (t2 : Int) := by omega
                                have HF := Lib.hid hf
                                have HK := Lib.hid hk
                                have HEE := Lib.hid e
                                clear hf hk e
                                go_wp2_with fail
                                go_quiet (first | (go_at_call 54; refine Calls.quiet_of_same ((rot5 _ _).mono fun _ _ ⟨ea, eb⟩ => ⟨ea, eb.symm⟩)))
                                go_wp2_with (go_at_call 54; refine (rot30 _ _).mono ?_; rintro e W3 ⟨rfl, rfl⟩)
                                refine ⟨⟨t2 + 1, by omega, by go_num, ?_, by rw [HEE.out]; rfl, by rw [HEE.out]; rfl, by rw [HEE.out]; rfl, by rw [HEE.out]; rfl, _root_.Go.below_drewN Bz nq⟩, by simp [intOf]; omega⟩
                                rw [HEE.out]
                                show _ = U (rot q.a 5 + fF t2 q.b q.c q.d + q.e + kK t2 + E[t2]?.getD 0)
                                rw [HF.out, HK.out]
                                first | rfl | (rw [List.getElem?_eq_getElem (by omega)]; rfl)
                        · obtain rfl : t2 = 80 := by omega
                          rw [show ((80 : Nat) : Int) = 80 from rfl]
                          have hgh : wb.heap.size < wx.heap.size := Rh.lt
                          have Rh4 : Row wr wb.heap.size (ucells s.l) 64 := Rh3.below Bz Rh3.lt
                          have By4 : Below wx.heap.size wx wr := By3.trans (Bz.mono By3.size)
                          have c0 : wr.cell? ⟨wb.heap.size, 0, none⟩ = some (U s.a) := Rh4.word _ rfl 0 (by simp [S5.l])
                          have c1 : wr.cell? ⟨wb.heap.size, 1, none⟩ = some (U s.b) := Rh4.word _ rfl 1 (by simp [S5.l])
                          have c2 : wr.cell? ⟨wb.heap.size, 2, none⟩ = some (U s.c) := Rh4.word _ rfl 2 (by simp [S5.l])
                          have c3 : wr.cell? ⟨wb.heap.size, 3, none⟩ = some (U s.d) := Rh4.word _ rfl 3 (by simp [S5.l])
                          have c4 : wr.cell? ⟨wb.heap.size, 4, none⟩ = some (U s.e) := Rh4.word _ rfl 4 (by simp [S5.l])
                          have f0 := Rh4.frozen 0
                          have f1 := Rh4.frozen 1
                          have f2 := Rh4.frozen 2
                          have f3 := Rh4.frozen 3
                          have f4 := Rh4.frozen 4
                          go_wp2_with fail
                          have he : hsh (full t) (k + 1) = s.add q := by rw [hsh, ← HS.out, blk, blkW, sched_block, ← HLD.out, ← HE.out, ← HQ.out]
                          have hne : w.heap.size ≠ wb.heap.size := by omega
                          have hgbx : gb < wx.heap.size := by omega
                          have Rb4 : wr.rangeAt gb 0 ((full t).map B) := fun j v hv => by
                            rw [World.cell?_of_block (w := wx) (By4.block gb hgbx)]; exact Rb j v hv
                          refine ⟨⟨k + 1, by omega, by first | go_num | (congr 1; push_cast; omega), ?_, ?_, ?_, ?_⟩, by simp [intOf]; omega⟩
                          · rw [he]
                            exact ((((Rh4.set_word 0 _ rfl).set_word 1 _ rfl).set_word 2 _ rfl).set_word 3 _ rfl).set_word 4 (s.e + q.e) (l' := (s.add q).l) rfl
                          · intro j v hv
                            have hng : wb.heap.size ≠ gb := by omega
                            rw [World.cell?_setCell_far (h := hng), World.cell?_setCell_far (h := hng), World.cell?_setCell_far (h := hng), World.cell?_setCell_far (h := hng), World.cell?_setCell_far (h := hng)]
                            exact Rb4 j v hv
                          · exact (((((Ro.below By4 Ro.lt).other hne).other hne).other hne).other hne).other hne
                          · have hle : w.heap.size ≤ wb.heap.size := by omega
                            exact (((((Bx.trans (By4.mono Bx.size)).setCell hle _).setCell hle _).setCell hle _).setCell hle _).setCell hle _
            · obtain rfl : k = N := by omega
              obtain ⟨ws, hws⟩ : ∃ ws, ws = (hsh (full t) k).l := ⟨_, rfl⟩
              rw [← hws] at Rh
              have hw5 : ws.length = 5 := by rw [hws]; rfl
              have HWS := Lib.hid hws
              have HW5 := Lib.hid hw5
              clear hws hw5
              have hgw0 : w.heap.size < wb.heap.size := by omega
              have hgx : wb.heap.size < wx.heap.size := Rh.lt
              go_wp2_with fail
              go_loopw [22] (fun i wy => ∃ m : Nat, m ≤ 20 ∧ i = .int .i64 m ∧ Row wy wx.heap.size (bcells (wbs ws m)) 55 ∧ Row wy wb.heap.size (ucells ws) 64 ∧ Row wy w.heap.size Z20 55 ∧ Below w.heap.size w wy) (fun i _ => 20 - (intOf i).toNat)
              case atStart => exact ⟨0, Nat.zero_le _, rfl, by rw [← Z20_wbs]; exact row_new _ _ _, Rh.alloc _, Ro.alloc _, Bx.alloc (by omega) _⟩
              case round =>
                obtain ⟨m, hm, rfl, Q1, Q2, Q3, Q4⟩ := hrel
                by_cases hlt5 : m < 20
                · have hcv := convU
                  have hcell := Q2.word _ rfl (m / 4) (by rw [HW5.out]; omega)
                  have hcell2 := Q1.byte _ rfl m (by rw [wbs_length]; omega)
                  have hfr := Q1.frozen m
                  have hix : 0 ≤ (m : Int) / 4 ∧ (m : Int) / 4 < 5 := by omega
                  have hix2 : 0 ≤ (m : Int) ∧ (m : Int) < 20 := by omega
                  have hto : ((m : Int) / 4).toNat = m / 4 := by omega
                  have hsh : binOp .shr 64 (U (ws[m / 4]?.getD 0)) (.int .u64 (24 - 8 * ((m : Int) % 4))) = pure (U ((ws[m / 4]?.getD 0) >>> UInt32.ofNat (24 - 8 * (m % 4)))) := by
                    rw [U_shr 64 _ .u64 _ (by omega) (by omega), show (24 - 8 * ((m : Int) % 4)).toNat = 24 - 8 * (m % 4) by omega]
                  go_wp2_with fail
                  refine ⟨⟨m + 1, by omega, by go_num, Q1.set_byte m _ rfl, Q2.other (by show _ ≠ wx.heap.size; omega), Q3.other (by show _ ≠ wx.heap.size; omega), Q4.setCell (by show _ ≤ wx.heap.size; omega) _⟩, by simp [intOf]; omega⟩
                · obtain rfl : m = 20 := by omega
                  rw [show ((20 : Nat) : Int) = 20 from rfl]
                  have HS1 : Hid ((Tryd.prog.info? 55).map (·.size) = some (bcells (wbs ws 20)).size) := by unfold Hid; rw [bcells_size, wbs_length]; exact i22
                  have HS2 : Hid (Z20.size = (bcells (wbs ws 20)).size) := by unfold Hid; rw [bcells_size, wbs_length]; rfl
                  have HR1 := Lib.hid Q1.row
                  have HR3 := Lib.hid Q3.row
                  go_wp2_with (first
                    | (with_reducible refine wpList_load_row rfl 55 (.tmp 21) rfl wx.heap.size rfl 55 (bcells (wbs ws 20)) (0, 0) _ HR1.out Tryd.underlying55 rfl HS1.out ?_)
                    | (with_reducible refine wpList_store_row rfl 55 (.tmp 2) (.tmp 255) rfl w.heap.size (bcells (wbs ws 20)) rfl rfl 55 Z20 HR3.out HS1.out HS2.out (bcells_one _) ?_))
                  have hsum : shaL t = wbs ws 20 := by rw [shaL, HWS.out, HN2.out, Nat.mul_div_cancel_left _ (by omega)]
                  rw [hsum]
                  exact bodyPost_ret (v := .agg (bcells (wbs ws 20))) (results_cell_row rfl _ _ w.heap.size 55 _ (0, 0) _ rfl (setRow_heap _ _ _ _ _ _ Q3) Tryd.underlying55 rfl HS1.out) rfl ⟨rfl, Q4.setRow (Nat.le_refl _) _⟩
    · have hlt' : ¬ (n : Int) % 64 = 56 := by omega
      have hj1 : j + 1 ≤ C := by have := HC.out; have := HT.out; omega
      clear hn
      go_wp2_with (at_builtin; refine wpList_add_byte rfl (.tmp 32) (.tmp 33) rfl (w.heap.size + 1) _ _ rfl (t ++ [128] ++ zs j) O 0 _ rfl rfl rfl (by have := HL2.out; have := HN.out; have := HT.out; have := HC.out; omega) hsz ?_; intro v3 W3 O3 G3)
      refine ⟨⟨j + 1, hj1, ?_, row_kept R O G3 (Nat.lt_succ_self _), below_own Bw O G3 (by omega) (by omega), Nat.le_trans hsz G3.size⟩, ?_⟩
      · simpa [zs, List.replicate_succ'] using O3
      · rw [O3.vlen, List.length_map, List.length_append, HL2.out]
        have := HN.out; have := HT.out; have := HC.out
        simp [vlen]; omega
end Go.Proofs.YtnaekjmlikhglaaDoor.sa
