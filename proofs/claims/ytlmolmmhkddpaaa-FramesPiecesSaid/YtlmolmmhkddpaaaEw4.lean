/- The landed Mask and putNumber walked. -/
import Derived.Test.YtlmolmmhkddpaaaEw3
namespace Go.Proofs.Ytlmolmmhkddpaaa
open Go.RowKit
attribute [local go_sem] store_one B_match B_store S_match S_store

theorem mskL_all (s Z : List UInt8) (K : Key4) (a : Nat) : mskL (s ++ Z) 0 K a s.length = maskN K a s ++ Z := by
  unfold mskL
  rw [List.take_zero, List.nil_append, List.drop_zero, List.take_left, Nat.zero_add, List.drop_left]
theorem mrow_text {w : World} {g : Nat} {L Z : List UInt8} {t : TypeId} {fr : Nat × Nat} (h : MRow w g (L ++ Z) t fr) (c : Nat) : (convert 38 9 (.slice (some ⟨g, 0, none⟩) L.length c)).run Try.prog w = .ok (S L) w := by
  refine run_convert_bytes_back w 38 9 5 ⟨g, 0, none⟩ c L Try.underlying38 Try.underlying5 Try.underlying9 fun j hj => ?_
  rw [Addr.add_mid, Nat.zero_add]
  exact h.cell (by rw [List.getElem?_append_left hj, List.getElem?_eq_getElem hj])
theorem bytes_row (w : World) (s : List UInt8) : ∃ c Z W, (convert 9 38 (S s)).run Try.prog w = .ok (.slice (some ⟨w.heap.size, 0, none⟩) s.length c) W ∧ MRow W w.heap.size (s ++ Z) 5 (s.length + Z.length, s.length + Z.length + 1) ∧ Below w.heap.size w W := by
  have hr := Go.Lib.run_convert_string_bytes (P := Try.prog) w 9 38 5 ⟨s.toArray⟩ Try.underlying9 Try.underlying38 Try.underlying5
  have hsz : (⟨s.toArray⟩ : ByteArray).size = s.length := by simp [ByteArray.size]
  have hcl : Lib.bytesCells w 5 ⟨s.toArray⟩ = bcells (s ++ List.replicate (grownCap w s.length 0 5 - s.length) 0) := by
    unfold Lib.bytesCells bcells
    rw [hsz, List.map_append, List.map_replicate]
    apply Array.toList_inj.1
    simp [B]
  have hlen : (Lib.bytesCells w 5 ⟨s.toArray⟩).size = s.length + (List.replicate (grownCap w s.length 0 5 - s.length) (0 : UInt8)).length := by rw [hcl, bcells_size, List.length_append]
  refine ⟨grownCap w s.length 0 5, List.replicate (grownCap w s.length 0 5 - s.length) 0, Lib.bytesWorld w 5 ⟨s.toArray⟩, by rw [← hsz]; exact hr, ⟨?_, .inr (by rw [List.length_append]; exact Nat.le_refl _)⟩, ?_⟩
  · have := Lib.bytesWorld_at_new w 5 ⟨s.toArray⟩
    rw [hlen, hcl] at this
    exact this
  · refine ⟨?_, ?_, ?_, by rw [Lib.bytesWorld_size]; omega, fun k hk => Lib.bytesWorld_at_old w 5 _ k hk⟩
    all_goals (unfold Lib.bytesWorld World.freeze; split <;> rfl)
set_option maxRecDepth 100000 in
set_option maxHeartbeats 1000000 in
theorem wmask_any (K : Key4) (a : Int) (ha' : IntKind.i64.wrap a = a) (s : List UInt8) (hl : s.length ≤ 200000) (w : World) : Calls Try.prog 39 #[kV K, .int .i64 a, S s] w fun e w' => e = .returned (S (maskF K a s)) ∧ Below w.heap.size w w' := by
  obtain ⟨W1, hW1⟩ : ∃ W, W = w.alloc (.cells (kC K) 43) := ⟨_, rfl⟩
  have H1 : Hid (Row W1 w.heap.size (kC K) 43 ∧ Below w.heap.size w W1 ∧ W1.heap.size = w.heap.size + 1) := Lib.hid (by rw [hW1]; exact ⟨row_new _ _ _, (Below.refl _ _).alloc (Nat.le_refl _) _, alloc_size _ _⟩)
  by_cases ha : a < 0
  · have g1 : decide (a < 0) = true := decide_eq_true ha
    have HM : Hid (maskF K a s = s) := Lib.hid (by unfold maskF; rw [if_pos ha])
    unfold kV
    unfold kC at hW1 ⊢
    clear ha ha' hl
    go_enter Try.func39, Try.ntmps39
    go_wp2
    go_ret
    rw [← hW1]
    exact ⟨by rw [HM.out]; rfl, H1.out.2.1⟩
  have g1 : decide (a < 0) = false := decide_eq_false ha
  obtain ⟨n, rfl⟩ : ∃ n : Nat, a = (n : Int) := ⟨a.toNat, by omega⟩
  have HM : Hid (maskF K (n : Int) s = maskN K n s) := Lib.hid (by unfold maskF; rw [if_neg ha, Int.toNat_natCast])
  obtain ⟨c, Z, W2, hcv, hR2, hB2⟩ := bytes_row W1 s
  rw [H1.out.2.2] at hcv hR2
  have hk2 := H1.out.1.below hB2 H1.out.1.lt
  have hb2 : Below w.heap.size w W2 := H1.out.2.1.trans (hB2.mono H1.out.2.1.size)
  obtain ⟨N, hN⟩ : ∃ N, N = s.length := ⟨_, rfl⟩
  have HK : Hid (Calls Try.prog 32 #[.agg (kC K), .int .i64 (n : Int), .slice (some ⟨w.heap.size + 1, 0, none⟩) N c] W2 fun e w' => e = .returned (.tuple #[]) ∧ MRow w' (w.heap.size + 1) (maskN K n s ++ Z) 5 (s.length + Z.length, s.length + Z.length + 1) ∧ Keeps (w.heap.size + 1) W2 w') := Lib.hid (by
    have := mask_any K n (w.heap.size + 1) 0 s.length c (s ++ Z) 5 _ W2 hR2 (by rw [List.length_append]; omega) (by omega)
    rw [mskL_all] at this
    rw [hN]; exact this)
  have HB := Lib.hid (And.intro hb2 hN)
  rw [← hN] at hcv
  have k0 : W2.cell? ⟨w.heap.size, 0, none⟩ = some (B K.k0) := cell_of_row W2 _ 0 _ _ (0, 0) hk2
  have k1 : W2.cell? ⟨w.heap.size, 1, none⟩ = some (B K.k1) := cell_of_row W2 _ 1 _ _ (0, 0) hk2
  have k2 : W2.cell? ⟨w.heap.size, 2, none⟩ = some (B K.k2) := cell_of_row W2 _ 2 _ _ (0, 0) hk2
  have k3 : W2.cell? ⟨w.heap.size, 3, none⟩ = some (B K.k3) := cell_of_row W2 _ 3 _ _ (0, 0) hk2
  rw [hW1] at hcv
  unfold kV
  unfold kC at hcv HK ⊢
  clear hW1 H1 hR2 hB2 hk2 hb2 hN ha ha' hl
  go_enter Try.func39, Try.ntmps39
  go_wp2_with fail
  refine HK.out.mono ?_
  rintro e W3 ⟨rfl, hR3, hK3⟩
  have hcv2 := mrow_text hR3 c
  rw [mask_len, ← HB.out.2] at hcv2
  have HE := Lib.hid (HB.out.1.trans (hK3.below (k := w.heap.size) HB.out.1.size (by omega)))
  clear hR3 hK3 HB HK k0 k1 k2 k3 hcv
  go_wp2
  go_ret
  exact ⟨by rw [HM.out]; rfl, HE.out⟩
theorem wshr_u64 (t : TypeId) (n k : Nat) (hk : k ≤ 64) : binOp .shr t (.int .u64 (n : Int)) (.int .i64 (k : Int)) = pure (.int .u64 ((n / 2 ^ k : Nat) : Int)) := by
  simp only [binOp, Op.shift]
  rw [if_neg (by omega)]
  have hm : min (k : Int).toNat IntKind.u64.bits = k := by simp [IntKind.bits]; omega
  rw [hm]
  congr 2
  have e : (2 : Int) ^ k = ((2 ^ k : Nat) : Int) := by push_cast; rfl
  rw [e, Int.fdiv_eq_ediv_of_nonneg _ (Int.natCast_nonneg _)]
  rfl
set_option maxRecDepth 100000 in
set_option maxHeartbeats 1000000 in
/-- A slice of no bytes, wherever it stands. -/
theorem put0_any (ad : Option Addr) (c n : Nat) (w : World) : Calls Try.prog 30 #[.slice ad 0 c, .int .u64 (n : Int)] w fun e w' => e = .returned (.tuple #[]) ∧ w' = w := by
  have hlS : ∀ w', (Builtin.len_ #[38] 3 #[.slice ad 0 c]).run Try.prog w' = .ok (.int .i64 0) w' := fun w' => by go_simp
  go_enter Try.func30, Try.ntmps30
  go_wp2
  go_loopw [7] (fun iv wr => iv = .int .i64 0 ∧ wr = w) (fun _ _ => 0)
  case atStart => exact ⟨rfl, rfl⟩
  case round =>
    obtain ⟨rfl, rfl⟩ := hrel
    go_wp2
    refine bodyPost_end (results_none rfl _ _ _) rfl ?_
    exact ⟨rfl, rfl⟩
set_option maxRecDepth 100000 in
set_option maxHeartbeats 1000000 in
theorem put_any (n g o k c : Nat) (hk : k ≤ 8) (L : List UInt8) (t : TypeId) (fr : Nat × Nat) (w : World) (hg : MRow w g L t fr) (hn : o + k ≤ L.length) :
    Calls Try.prog 30 #[.slice (some ⟨g, o, none⟩) k c, .int .u64 (n : Int)] w fun e w' => e = .returned (.tuple #[]) ∧ MRow w' g (putL L o k n k) t fr ∧ Keeps g w w' := by
  have hlS : ∀ w', (Builtin.len_ #[38] 3 #[.slice (some ⟨g, o, none⟩) k c]).run Try.prog w' = .ok (.int .i64 (k : Int)) w' := fun w' => by go_simp
  have HG := Lib.hid (And.intro hg (And.intro hn hk))
  have mk : IntKind.i64.wrap ((k : Int) - 1) = (k : Int) - 1 := by rw [IntKind.wrap_i64]; omega
  clear hg hn hk
  go_enter Try.func30, Try.ntmps30
  go_wp2
  go_loopw [7] (fun iv wr => ∃ i : Nat, i ≤ k ∧ iv = .int .i64 (i : Int) ∧ Hid (MRow wr g (putL L o k n i) t fr ∧ Keeps g w wr)) (fun iv _ => k - (intOf iv).toNat)
  case atStart => exact ⟨0, Nat.zero_le _, rfl, Lib.hid ⟨by rw [putL_zero]; exact HG.out.1, .refl _ _⟩⟩
  case round =>
    obtain ⟨i, hi, rfl, HI⟩ := hrel
    by_cases hlt : i < k
    · have g2 : decide ((i : Int) < (k : Int)) = true := decide_eq_true (by omega)
      obtain ⟨j, hj⟩ : ∃ j, j = k - 1 - i := ⟨_, rfl⟩
      obtain ⟨p, hp⟩ : ∃ p, p = o + j := ⟨_, rfl⟩
      have hix := widx_byte g o k c j (by omega) p hp
      obtain ⟨e, he⟩ : ∃ e, e = 8 * i := ⟨_, rfl⟩
      have hk8 := HG.out.2.2
      have m1 : IntKind.i64.wrap ((k : Int) - 1 - (i : Int)) = (j : Int) := by rw [IntKind.wrap_i64]; omega
      have m2 : IntKind.i64.wrap (8 * (i : Int)) = (e : Int) := by rw [IntKind.wrap_i64]; omega
      have m5 : IntKind.i64.wrap ((i : Int) + 1) = (i : Int) + 1 := by rw [IntKind.wrap_i64]; omega
      have o1 := wshr_u64 56 n e (by omega)
      obtain ⟨D, hD⟩ : ∃ D, D = n / 2 ^ e := ⟨_, rfl⟩
      rw [← hD] at o1
      have hcv := wconv_ub D
      obtain ⟨y, hy⟩ : ∃ y, y = UInt8.ofNat D := ⟨_, rfl⟩
      rw [← hy] at hcv
      have hye : y = UInt8.ofNat (n / 256 ^ i % 256) := by
        rw [hy, hD, he, Nat.pow_mul]
        apply UInt8.toNat_inj.1
        rw [UInt8.toNat_ofNat', UInt8.toNat_ofNat']
        show n / 256 ^ i % 256 = n / 256 ^ i % 256 % 256
        omega
      have hnx := putL_next (n := n) HG.out.2.1 hlt
      rw [← hye, ← hj, ← hp] at hnx
      have hpl : p < (putL L o k n i).length := by rw [putL_len HG.out.2.1 hi]; have := HG.out.2.1; omega
      obtain ⟨x, hx⟩ : ∃ x, (putL L o k n i)[p]? = some x := ⟨_, List.getElem?_eq_getElem hpl⟩
      have hc := HI.out.1.cell hx
      have hf := HI.out.1.frozen hpl
      have HE : Hid (MRow (wr.setCell ⟨g, p, none⟩ (B y)) g (putL L o k n (i + 1)) t fr ∧ Keeps g w (wr.setCell ⟨g, p, none⟩ (B y))) := Lib.hid ⟨HI.out.1.set p y hnx.symm, HI.out.2.trans (.setCell _ _ _)⟩
      clear hj hp he hD hy hye hnx hpl hx HI HG hk8
      go_wp2
      exact ⟨⟨i + 1, by omega, by go_num, HE⟩, by simp [intOf]; omega⟩
    · obtain rfl : i = k := by omega
      have g2 : decide ((i : Int) < (i : Int)) = false := decide_eq_false (by omega)
      go_wp2
      refine bodyPost_end (results_none rfl _ _ _) rfl ?_
      exact ⟨rfl, HI.out.1, HI.out.2⟩
end Go.Proofs.Ytlmolmmhkddpaaa
