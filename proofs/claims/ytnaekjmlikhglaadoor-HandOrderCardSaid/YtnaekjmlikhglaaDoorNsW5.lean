/- The walk of the padding. -/
import Derived.Test.YtnaekjmlikhglaaDoorNsReg
import Derived.Test.YtnaekjmlikhglaaDoorShelf
import Derived.Lib.Hide
import Derived.IntWalk
import Derived.Deep.RegionWith
import Derived.Laws.BytesString
namespace Go.Proofs.YtnaekjmlikhglaaDoor.sa
open Go.RowKit
attribute [local go_sem] U_add U_xor U_and U_or U_not U_shl U_shr store_one U_match B_match U_store B_store

/-- Eight noughts. -/
def Z8 : Array Value := (List.replicate 8 (B 0)).toArray
theorem z55 : ∀ w, (zeroValue 95).run Tryd.prog w = .ok (.agg Z8) w := (zero_of_info (n := 8) (by kernel_rfl)).1
theorem Z8_lbs (n : Nat) : Z8 = bcells (lbs n 0) := rfl

theorem shr_len (n k : Nat) (hk : k < 8) : binOp .shr 71 (.int .u64 ((n : Int) * 8)) (.int .i64 (56 - 8 * (k : Int))) = pure (.int .u64 ((n * 8 / 2 ^ (56 - 8 * k) : Nat) : Int)) := by
  simp only [binOp, Op.shift]
  rw [if_neg (by omega)]
  have hm : min (56 - 8 * (k : Int)).toNat IntKind.u64.bits = 56 - 8 * k := by simp [IntKind.bits]; omega
  rw [hm]
  congr 2
  have e : (2 : Int) ^ (56 - 8 * k) = ((2 ^ (56 - 8 * k) : Nat) : Int) := by push_cast; rfl
  have e2 : ((n : Int) * 8) = ((n * 8 : Nat) : Int) := by push_cast; rfl
  rw [e, e2, Int.fdiv_eq_ediv_of_nonneg _ (Int.natCast_nonneg _)]
  rfl

theorem run_bytes_cells (w : World) (g : Nat) (l : List UInt8) (t : TypeId) (R : Row w g (bcells l) t) (c : Nat) :
    (convert 42 9 (.slice (some ⟨g, 0, none⟩) l.length c)).run Tryd.prog w = .ok (.string ⟨l.toArray⟩) w := by
  rw [run_convert_bytes_string w 42 9 5 _ _ _ Tryd.underlying42 Tryd.underlying5 Tryd.underlying9]
  have hl : (loadCells ⟨g, 0, none⟩ l.length).run Tryd.prog w = .ok ((l.map fun b => (b.toNat : Int)).map (Value.int .u8)).toArray w := by
    have := run_loadCells_list (P := Tryd.prog) w ⟨g, 0, none⟩ (l.map B) (fun j v hv => by
      rw [Addr.add_mid, Nat.zero_add, cell_of_row w g j _ _ _ R, bcells]
      simpa using hv)
    rw [List.length_map] at this
    rw [this, List.map_map]; rfl
  rw [run_bytesToString w _ _ _ _ hl]
  congr 2
  have : ∀ (l : List UInt8) (s : ByteArray), (l.map fun b => (b.toNat : Int)).foldl (fun r n => r.push (UInt8.ofNat n.toNat)) s = ⟨s.data ++ l.toArray⟩ := by
    intro l
    induction l with
    | nil => intro s; simp
    | cons b l ih =>
      intro s
      rw [List.map_cons, List.foldl_cons, ih]
      simp [ByteArray.push]
  rw [this]; show (⟨#[] ++ l.toArray⟩ : ByteArray) = _; simp

theorem repeatL_zs : ∀ c, Lib.repeatL [0] c = zs c
  | 0 => rfl
  | c + 1 => by rw [Lib.repeatL, repeatL_zs c]; rfl
theorem repeat_any (c : Nat) (hc : c < 64) (w : World) : Calls Tryd.prog 75 #[.string ⟨#[0]⟩, .int .i64 c] w fun e w' => e = .returned (S (zs c)) ∧ Below w.heap.size w w' :=
  (Tryd.strings_Repeat ⟨#[0]⟩ c w (by omega) (by show 1 * c ≤ _; omega)).mono fun _ _ ⟨he, hw⟩ => ⟨by rw [he, S, ← repeatL_zs], hw⟩

set_option maxRecDepth 100000 in
set_option maxHeartbeats 2000000 in
theorem padding_any (n : Nat) (hn : n < 1000000000000000) (w : World) : Calls Tryd.prog 63 #[.int .i64 n] w fun e w' => e = .returned (S (padL n)) ∧ Below w.heap.size w w' := by
  have hz := z55
  go_enter Tryd.func63, Tryd.ntmps63
  go_wp2
  go_loopw [10] (fun i wr => ∃ k : Nat, k ≤ 8 ∧ i = .int .i64 k ∧ wr = (w.alloc (.cells (bcells (lbs n k)) 95))) (fun i _ => 8 - (intOf i).toNat)
  case atStart => exact ⟨0, Nat.zero_le _, rfl, by rw [← Z8_lbs]⟩
  case round =>
    obtain ⟨k, hk, rfl, rfl⟩ := hrel
    by_cases hlt : k < 8
    · have hcv := convN
      have hsh := shr_len n k hlt
      have hcell2 : (bcells (lbs n k))[k]? = some (B ((lbs n k)[k]?.getD 0)) := bcells_get _ _ (by rw [lbs_length]; omega)
      have hset := fun x => bcells_set (lbs n k) k x
      have hval : Value.int .u8 ((n : Int) * 8 / 2 ^ (56 - 8 * k) % 256) = B (UInt8.ofNat (n * 8 / 2 ^ (56 - 8 * k))) := by
        rw [B, UInt8.toNat_ofNat']
        have e : (2 : Int) ^ (56 - 8 * k) = ((2 ^ (56 - 8 * k) : Nat) : Int) := by push_cast; rfl
        rw [e, show ((n : Int) * 8) = ((n * 8 : Nat) : Int) by push_cast; rfl, ← Int.natCast_ediv]
        congr 1
      have HV := Lib.hid hval
      clear hval
      go_wp2
      exact ⟨⟨k + 1, by omega, by go_num, by rw [HV.out, bcells_set]; rfl⟩, by simp [intOf]; omega⟩
    · obtain rfl : k = 8 := by omega
      rw [show ((8 : Nat) : Int) = 8 from rfl]
      go_wp2
      have ec : (119 - (n : Int) % 64) % 64 = (((119 - n % 64) % 64 : Nat) : Int) := by omega
      rw [ec]
      have HC : Hid (padL n = (128 :: zs ((119 - n % 64) % 64)) ++ lbs n 8) := rfl
      have hc1 : (119 - n % 64) % 64 < 64 := Nat.mod_lt _ (by decide)
      clear ec
      generalize (119 - n % 64) % 64 = c at *
      obtain ⟨W, hW⟩ : ∃ W, W = w.alloc (.cells (bcells (lbs n 8)) 95) := ⟨_, rfl⟩
      have R0 : Row W w.heap.size (bcells (lbs n 8)) 95 := by rw [hW]; exact row_new _ _ _
      have bW : Below w.heap.size w W := by rw [hW]; exact (Below.refl _ _).alloc (Nat.le_refl _) _
      rw [← hW]
      clear hW
      have hconv : ∀ w' c', Row w' w.heap.size (bcells (lbs n 8)) 95 → (convert 42 9 (.slice (some ⟨w.heap.size, 0, none⟩) 8 c')).run Tryd.prog w' = .ok (S (lbs n 8)) w' := fun w' c' h => by
        have := run_bytes_cells w' w.heap.size (lbs n 8) 95 h c'
        rw [lbs_length] at this; exact this
      have R1 := R0.drew
      have hlt1 := R0.lt
      have h128 : Value.string ⟨#[128]⟩ = S [128] := rfl
      have hadd1 : binOp .add 9 (S [128]) (S (zs c)) = pure (S (128 :: zs c)) := S_add 9 _ _ (by rw [zs_length]; simp; omega)
      have hadd2 : binOp .add 9 (S (128 :: zs c)) (S (lbs n 8)) = pure (S ((128 :: zs c) ++ lbs n 8)) := S_add 9 _ _ (by rw [lbs_length, List.length_cons, zs_length]; omega)
      go_region_with (go_at_call 75; refine (repeat_any c hc1 _).mono ?_; rintro e W2 ⟨rfl, b2⟩; have R2 := R1.below b2 hlt1)
      all_goals
        go_wp2
        go_ret
        exact ⟨by rw [HC.out]; rfl, bW.drew.trans (b2.mono bW.size)⟩
end Go.Proofs.YtnaekjmlikhglaaDoor.sa
