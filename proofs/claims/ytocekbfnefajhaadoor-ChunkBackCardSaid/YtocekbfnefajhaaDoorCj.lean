/- strconv.FormatInt of base 16 walked: formatBits. -/
import Derived.Test.YtocekbfnefajhaaDoorCh
namespace Go.Proofs.YtocekbfnefajhaaDoor
open Go.RowKit
attribute [local go_sem] store_one S_match S_store B_store B_match

theorem and15 (u : Nat) (h : u < 65536) : bits .and .u64 (u : Int) 15 = ((u % 16 : Nat) : Int) := by
  have h1 : (BitVec.ofInt 64 (u : Int)).toNat = u := by
    rw [BitVec.ofInt_natCast, BitVec.toNat_ofNat]; exact Nat.mod_eq_of_lt (by omega)
  have h2 : (BitVec.ofInt 64 (15 : Int)).toNat = 15 := by decide
  show IntKind.u64.wrap ((BitVec.ofInt 64 (u : Int) &&& BitVec.ofInt 64 (15 : Int)).toNat : Int) = _
  rw [BitVec.toNat_and, h1, h2, IntKind.wrap_u64, show u &&& 15 = u % 16 from Nat.and_two_pow_sub_one_eq_mod u 4]
  omega
def digL : List UInt8 := [48, 49, 50, 51, 52, 53, 54, 55, 56, 57, 97, 98, 99, 100, 101, 102, 103, 104, 105, 106, 107, 108, 109, 110, 111, 112, 113, 114, 115, 116, 117, 118, 119, 120, 121, 122]
theorem dig_at : ∀ m : Fin 16, digL[m.1]? = some (hexC m.1) := by decide
theorem index_dig (m : Nat) (h : m < 16) (w : World) : (Instr.index 9 (.string ⟨#[48, 49, 50, 51, 52, 53, 54, 55, 56, 57, 97, 98, 99, 100, 101, 102, 103, 104, 105, 106, 107, 108, 109, 110, 111, 112, 113, 114, 115, 116, 117, 118, 119, 120, 121, 122]⟩) (.int .u64 (m : Int))).run Tryd.prog w = .ok (B (hexC m)) w := by
  have hx := dig_at ⟨m, h⟩
  obtain ⟨hlt, he⟩ := List.getElem?_eq_some_iff.1 hx
  have hs : m < (⟨digL.toArray⟩ : ByteArray).size := hlt
  show (Instr.index 9 (.string ⟨digL.toArray⟩) (.int .u64 (m : Int))).run Tryd.prog w = _
  rw [run_index_string (w := w) 9 ⟨digL.toArray⟩ .u64 m Tryd.underlying9, dif_pos ⟨Int.natCast_nonneg _, by omega⟩]
  rw [← he]
  simp [B]
  rfl
theorem conv_row {W : World} {b i q : Nat} {l t : List UInt8} (h : Row W b (bcells l) 84) (hl : l.drop i = t) : (convert 35 9 (.slice (some ⟨b, i, none⟩) t.length q)).run Tryd.prog W = .ok (S t) W := by
  refine run_convert_bytes_back (P := Tryd.prog) _ 35 9 5 ⟨b, i, none⟩ q t Tryd.underlying35 Tryd.underlying5 Tryd.underlying9 (fun j hj => ?_)
  have hl2 : l[i + j]? = some t[j] := by
    rw [← List.getElem?_drop, hl]; exact List.getElem?_eq_getElem hj
  obtain ⟨hlt, he⟩ := List.getElem?_eq_some_iff.1 hl2
  have := h.byte l rfl (i + j) hlt
  rw [hl2] at this
  rw [Addr.add_mid]
  exact this
theorem hexF_small {f u : Nat} (h : u < 16) : hexF f u = [hexC u] := by
  cases f with
  | zero => rfl
  | succ f => rw [hexF, if_pos h]
theorem hexF_step {f u : Nat} (h : 16 ≤ u) : hexF (f + 1) u = hexF f (u / 16) ++ [hexC (u % 16)] := by rw [hexF, if_neg (by omega)]
theorem set_dig (k : Nat) (t : List UInt8) (x : UInt8) : List.replicate k 0 ++ x :: t = (List.replicate (k + 1) 0 ++ t).set k x := by
  rw [List.replicate_succ', List.append_assoc, List.set_append_right _ _ (by simp)]
  simp
set_option maxRecDepth 100000 in
set_option maxHeartbeats 4000000 in
theorem bits16 (n : Nat) (h1 : 1 ≤ n) (h2 : n ≤ 4096) (w : World) (hT : ZeroAt w) : Calls Tryd.prog 45 #[.slice none 0 0, .int .u64 (n : Int), .int .i64 16, .bool false, .bool false] w fun e w' => e = .returned (.tuple #[.slice none 0 0, S (hexT n)]) ∧ Below w.heap.size w w' := by
  have HP := Lib.hid (fun w => pow2 w)
  have k1 : IntKind.u64.wrap 16 = 16 := by decide
  have k2 : IntKind.u64.wrap 15 = 15 := by decide
  have k3 : IntKind.u64.wrap (16 - 1) = 15 := by decide
  have k4 : IntKind.u64.wrap 4 = 4 := by decide
  obtain ⟨b, hb⟩ : ∃ b, b = w.heap.size := ⟨_, rfl⟩
  obtain ⟨W1, hW1⟩ : ∃ W1, W1 = w.alloc (.cells Tryd.zeroCells84 84) := ⟨_, rfl⟩
  have hr1 : Row W1 b (bcells (List.replicate 65 0)) 84 := by
    rw [hW1, hb, ← show Tryd.zeroCells84 = bcells (List.replicate 65 0) by kernel_rfl]; exact row_new w _ _
  have hb1 : Below w.heap.size w W1 := by rw [hW1]; exact (Below.refl _ w).alloc (Nat.le_refl _) _
  have HZ := Lib.hid (fun W => tz W)
  have HT1 := Lib.hid (zero_keep w W1 hT hb1)
  have H1 := Lib.hid (And.intro hr1 hb1)
  have HB := Lib.hid hb
  obtain ⟨D, hD⟩ : ∃ D, D = hexT n := ⟨_, rfl⟩
  rw [← hD]
  have hn16 : n < 16 ^ 4 := by omega
  clear hr1 hb1 hT
  go_enter Tryd.func45, Tryd.ntmps45
  go_wp2_with fail
  rw [← hb, ← hW1]
  clear hb hW1
  refine (HP.out _).mono ?_
  rintro e w1 ⟨rfl, hw1⟩
  obtain rfl := hw1.symm
  clear hw1 HP
  go_wp2_with fail
  refine (HZ.out _ HT1.out).mono ?_
  rintro e w1 ⟨rfl, hw1⟩
  obtain rfl := hw1.symm
  clear hw1 HZ
  go_wp2
  go_loopw [1, 13] (fun uv iv wr => ∃ (k u : Nat) (t : List UInt8), uv = .int .u64 (u : Int) ∧ D = hexF (3 - k) u ++ t ∧ u < 16 ^ (4 - k) ∧ t.length = k ∧ Row wr b (bcells (List.replicate (65 - k) 0 ++ t)) 84 ∧ Below w.heap.size w wr ∧
      ((k = 0 ∧ iv = .int .i64 65) ∨ (k = 1 ∧ iv = .int .i64 64) ∨ (k = 2 ∧ iv = .int .i64 63) ∨ (k = 3 ∧ iv = .int .i64 62))) (fun uv _ _ => (intOf uv).toNat)
  case atStart => exact ⟨0, n, [], rfl, by rw [hD, List.append_nil]; rfl, hn16, rfl, by rw [List.append_nil]; exact H1.out.1, H1.out.2, .inl ⟨rfl, rfl⟩⟩
  case round =>
    obtain ⟨k, u, t, rfl, hDu, hu, ht, hr, hB, hk⟩ := hrel
    clear hD hn16 h1 h2 H1 HT1
    have HBW := Lib.hid hB
    clear hB
    rcases hk with ⟨rfl, rfl⟩ | ⟨rfl, rfl⟩ | ⟨rfl, rfl⟩ | ⟨rfl, rfl⟩
    · have hu6 : u < 65536 := by omega
      have hcell : wr.cell? ⟨b, 64, none⟩ = some (B 0) := by
        have := hr.byte _ rfl 64 (by simp)
        rwa [show (List.replicate 65 0 ++ t)[64]?.getD 0 = (0 : UInt8) by rw [List.getElem?_append_left (by simp)]; rfl] at this
      have hfr : wr.frozen? ⟨b, 64, none⟩ = false := Row.frozen hr 64
      have HRW := Lib.hid hr
      clear hr
      by_cases h16 : 16 ≤ u
      · have g1 : decide ((16 : Int) ≤ (u : Int)) = true := decide_eq_true (by omega)
        have hand := and15 u hu6
        have hnx : D = hexF (3 - 1) (u / 16) ++ (hexC (u % 16) :: t) := by rw [hDu, show 3 - 0 = (3 - 1) + 1 from rfl, hexF_step h16, List.append_assoc]; rfl
        obtain ⟨m, hm⟩ : ∃ m, m = u % 16 := ⟨_, rfl⟩
        obtain ⟨v, hv⟩ : ∃ v, v = u / 16 := ⟨_, rfl⟩
        rw [← hm] at hand hnx
        rw [← hv] at hnx
        have hix := index_dig m (by omega)
        have hdv : (u : Int) / 16 = (v : Int) := by omega
        have hvu : v < u := by omega
        have HN : Hid (D = hexF (3 - 1) v ++ (hexC m :: t) ∧ v < 16 ^ (4 - 1) ∧ (hexC m :: t).length = 1) := Lib.hid ⟨hnx, by omega, by rw [List.length_cons, ht]⟩
        have HST : Hid (Row (wr.setCell ⟨b, 64, none⟩ (B (hexC m))) b (bcells (List.replicate 64 0 ++ (hexC m :: t))) 84) := Lib.hid (HRW.out.set_byte 64 (hexC m) (set_dig 64 t (hexC m)))
        have HBL : Hid (Below w.heap.size w (wr.setCell ⟨b, 64, none⟩ (B (hexC m)))) := Lib.hid (HBW.out.setCell (p := ⟨b, 64, none⟩) (Nat.le_of_eq HB.out.symm) _)
        clear hm hv hnx hDu ht hu h16
        generalize hexC m = x at *
        go_wp2
        exact ⟨⟨1, v, x :: t, rfl, HN.out.1, HN.out.2.1, HN.out.2.2, HST.out, HBL.out, .inr (.inl ⟨rfl, rfl⟩)⟩, by simp [intOf]; omega⟩
      · have g1 : decide ((16 : Int) ≤ (u : Int)) = false := decide_eq_false (by omega)
        have hix := index_dig u (by omega)
        have HD : Hid (D = hexC u :: t) := Lib.hid (by rw [hDu, hexF_small (by omega)]; rfl)
        have HST := Lib.hid (HRW.out.set_byte 64 (hexC u) (set_dig 64 t (hexC u)))
        have HBL : Hid (Below w.heap.size w (wr.setCell ⟨b, 64, none⟩ (B (hexC u)))) := Lib.hid (HBW.out.setCell (p := ⟨b, 64, none⟩) (Nat.le_of_eq HB.out.symm) _)
        have hcv : (convert 35 9 (.slice (some ⟨b, 64, none⟩) 1 1)).run Tryd.prog (wr.setCell ⟨b, 64, none⟩ (B (hexC u))) = .ok (S (hexC u :: t)) (wr.setCell ⟨b, 64, none⟩ (B (hexC u))) := by
          have := conv_row (i := 64) (q := 1) (t := hexC u :: t) HST.out (by rw [List.drop_left' (by simp)])
          rwa [List.length_cons, ht] at this
        clear hDu ht hu h16
        generalize hexC u = x at *
        go_wp2
        trace_state
        go_ret2
        exact ⟨by rw [HD.out]; rfl, HBL.out⟩
    · have hu6 : u < 65536 := by omega
      have hcell : wr.cell? ⟨b, 63, none⟩ = some (B 0) := by
        have := hr.byte _ rfl 63 (by simp)
        rwa [show (List.replicate 64 0 ++ t)[63]?.getD 0 = (0 : UInt8) by rw [List.getElem?_append_left (by simp)]; rfl] at this
      have hfr : wr.frozen? ⟨b, 63, none⟩ = false := Row.frozen hr 63
      have HRW := Lib.hid hr
      clear hr
      by_cases h16 : 16 ≤ u
      · have g1 : decide ((16 : Int) ≤ (u : Int)) = true := decide_eq_true (by omega)
        have hand := and15 u hu6
        have hnx : D = hexF (3 - 2) (u / 16) ++ (hexC (u % 16) :: t) := by rw [hDu, show 3 - 1 = (3 - 2) + 1 from rfl, hexF_step h16, List.append_assoc]; rfl
        obtain ⟨m, hm⟩ : ∃ m, m = u % 16 := ⟨_, rfl⟩
        obtain ⟨v, hv⟩ : ∃ v, v = u / 16 := ⟨_, rfl⟩
        rw [← hm] at hand hnx
        rw [← hv] at hnx
        have hix := index_dig m (by omega)
        have hdv : (u : Int) / 16 = (v : Int) := by omega
        have hvu : v < u := by omega
        have HN : Hid (D = hexF (3 - 2) v ++ (hexC m :: t) ∧ v < 16 ^ (4 - 2) ∧ (hexC m :: t).length = 2) := Lib.hid ⟨hnx, by omega, by rw [List.length_cons, ht]⟩
        have HST : Hid (Row (wr.setCell ⟨b, 63, none⟩ (B (hexC m))) b (bcells (List.replicate 63 0 ++ (hexC m :: t))) 84) := Lib.hid (HRW.out.set_byte 63 (hexC m) (set_dig 63 t (hexC m)))
        have HBL : Hid (Below w.heap.size w (wr.setCell ⟨b, 63, none⟩ (B (hexC m)))) := Lib.hid (HBW.out.setCell (p := ⟨b, 63, none⟩) (Nat.le_of_eq HB.out.symm) _)
        clear hm hv hnx hDu ht hu h16
        generalize hexC m = x at *
        go_wp2
        exact ⟨⟨2, v, x :: t, rfl, HN.out.1, HN.out.2.1, HN.out.2.2, HST.out, HBL.out, .inr (.inr (.inl ⟨rfl, rfl⟩))⟩, by simp [intOf]; omega⟩
      · have g1 : decide ((16 : Int) ≤ (u : Int)) = false := decide_eq_false (by omega)
        have hix := index_dig u (by omega)
        have HD : Hid (D = hexC u :: t) := Lib.hid (by rw [hDu, hexF_small (by omega)]; rfl)
        have HST := Lib.hid (HRW.out.set_byte 63 (hexC u) (set_dig 63 t (hexC u)))
        have HBL : Hid (Below w.heap.size w (wr.setCell ⟨b, 63, none⟩ (B (hexC u)))) := Lib.hid (HBW.out.setCell (p := ⟨b, 63, none⟩) (Nat.le_of_eq HB.out.symm) _)
        have hcv : (convert 35 9 (.slice (some ⟨b, 63, none⟩) 2 2)).run Tryd.prog (wr.setCell ⟨b, 63, none⟩ (B (hexC u))) = .ok (S (hexC u :: t)) (wr.setCell ⟨b, 63, none⟩ (B (hexC u))) := by
          have := conv_row (i := 63) (q := 2) (t := hexC u :: t) HST.out (by rw [List.drop_left' (by simp)])
          rwa [List.length_cons, ht] at this
        clear hDu ht hu h16
        generalize hexC u = x at *
        go_wp2
        trace_state
        go_ret2
        exact ⟨by rw [HD.out]; rfl, HBL.out⟩
    · have hu6 : u < 65536 := by omega
      have hcell : wr.cell? ⟨b, 62, none⟩ = some (B 0) := by
        have := hr.byte _ rfl 62 (by simp)
        rwa [show (List.replicate 63 0 ++ t)[62]?.getD 0 = (0 : UInt8) by rw [List.getElem?_append_left (by simp)]; rfl] at this
      have hfr : wr.frozen? ⟨b, 62, none⟩ = false := Row.frozen hr 62
      have HRW := Lib.hid hr
      clear hr
      by_cases h16 : 16 ≤ u
      · have g1 : decide ((16 : Int) ≤ (u : Int)) = true := decide_eq_true (by omega)
        have hand := and15 u hu6
        have hnx : D = hexF (3 - 3) (u / 16) ++ (hexC (u % 16) :: t) := by rw [hDu, show 3 - 2 = (3 - 3) + 1 from rfl, hexF_step h16, List.append_assoc]; rfl
        obtain ⟨m, hm⟩ : ∃ m, m = u % 16 := ⟨_, rfl⟩
        obtain ⟨v, hv⟩ : ∃ v, v = u / 16 := ⟨_, rfl⟩
        rw [← hm] at hand hnx
        rw [← hv] at hnx
        have hix := index_dig m (by omega)
        have hdv : (u : Int) / 16 = (v : Int) := by omega
        have hvu : v < u := by omega
        have HN : Hid (D = hexF (3 - 3) v ++ (hexC m :: t) ∧ v < 16 ^ (4 - 3) ∧ (hexC m :: t).length = 3) := Lib.hid ⟨hnx, by omega, by rw [List.length_cons, ht]⟩
        have HST : Hid (Row (wr.setCell ⟨b, 62, none⟩ (B (hexC m))) b (bcells (List.replicate 62 0 ++ (hexC m :: t))) 84) := Lib.hid (HRW.out.set_byte 62 (hexC m) (set_dig 62 t (hexC m)))
        have HBL : Hid (Below w.heap.size w (wr.setCell ⟨b, 62, none⟩ (B (hexC m)))) := Lib.hid (HBW.out.setCell (p := ⟨b, 62, none⟩) (Nat.le_of_eq HB.out.symm) _)
        clear hm hv hnx hDu ht hu h16
        generalize hexC m = x at *
        go_wp2
        exact ⟨⟨3, v, x :: t, rfl, HN.out.1, HN.out.2.1, HN.out.2.2, HST.out, HBL.out, .inr (.inr (.inr ⟨rfl, rfl⟩))⟩, by simp [intOf]; omega⟩
      · have g1 : decide ((16 : Int) ≤ (u : Int)) = false := decide_eq_false (by omega)
        have hix := index_dig u (by omega)
        have HD : Hid (D = hexC u :: t) := Lib.hid (by rw [hDu, hexF_small (by omega)]; rfl)
        have HST := Lib.hid (HRW.out.set_byte 62 (hexC u) (set_dig 62 t (hexC u)))
        have HBL : Hid (Below w.heap.size w (wr.setCell ⟨b, 62, none⟩ (B (hexC u)))) := Lib.hid (HBW.out.setCell (p := ⟨b, 62, none⟩) (Nat.le_of_eq HB.out.symm) _)
        have hcv : (convert 35 9 (.slice (some ⟨b, 62, none⟩) 3 3)).run Tryd.prog (wr.setCell ⟨b, 62, none⟩ (B (hexC u))) = .ok (S (hexC u :: t)) (wr.setCell ⟨b, 62, none⟩ (B (hexC u))) := by
          have := conv_row (i := 62) (q := 3) (t := hexC u :: t) HST.out (by rw [List.drop_left' (by simp)])
          rwa [List.length_cons, ht] at this
        clear hDu ht hu h16
        generalize hexC u = x at *
        go_wp2
        trace_state
        go_ret2
        exact ⟨by rw [HD.out]; rfl, HBL.out⟩
    · have hu6 : u < 65536 := by omega
      have hcell : wr.cell? ⟨b, 61, none⟩ = some (B 0) := by
        have := hr.byte _ rfl 61 (by simp)
        rwa [show (List.replicate 62 0 ++ t)[61]?.getD 0 = (0 : UInt8) by rw [List.getElem?_append_left (by simp)]; rfl] at this
      have hfr : wr.frozen? ⟨b, 61, none⟩ = false := Row.frozen hr 61
      have HRW := Lib.hid hr
      clear hr
      by_cases h16 : 16 ≤ u
      · exact absurd hu (by omega)
      · have g1 : decide ((16 : Int) ≤ (u : Int)) = false := decide_eq_false (by omega)
        have hix := index_dig u (by omega)
        have HD : Hid (D = hexC u :: t) := Lib.hid (by rw [hDu, hexF_small (by omega)]; rfl)
        have HST := Lib.hid (HRW.out.set_byte 61 (hexC u) (set_dig 61 t (hexC u)))
        have HBL : Hid (Below w.heap.size w (wr.setCell ⟨b, 61, none⟩ (B (hexC u)))) := Lib.hid (HBW.out.setCell (p := ⟨b, 61, none⟩) (Nat.le_of_eq HB.out.symm) _)
        have hcv : (convert 35 9 (.slice (some ⟨b, 61, none⟩) 4 4)).run Tryd.prog (wr.setCell ⟨b, 61, none⟩ (B (hexC u))) = .ok (S (hexC u :: t)) (wr.setCell ⟨b, 61, none⟩ (B (hexC u))) := by
          have := conv_row (i := 61) (q := 4) (t := hexC u :: t) HST.out (by rw [List.drop_left' (by simp)])
          rwa [List.length_cons, ht] at this
        clear hDu ht hu h16
        generalize hexC u = x at *
        go_wp2
        trace_state
        go_ret2
        exact ⟨by rw [HD.out]; rfl, HBL.out⟩
theorem cv64 (n : Nat) (h : n ≤ 4096) (w : World) : (convert 2 66 (.int .i64 (n : Int))).run Tryd.prog w = .ok (.int .u64 (n : Int)) w := by
  have e : IntKind.u64.wrap (n : Int) = (n : Int) := by rw [IntKind.wrap_u64]; omega
  simp [convert, run_underlying Tryd.underlying2, run_underlying Tryd.underlying66, e, go_sem]
set_option maxRecDepth 100000 in
set_option maxHeartbeats 1000000 in
theorem format30 (n : Nat) (h1 : 1 ≤ n) (h2 : n ≤ 4096) (w : World) (hT : ZeroAt w) : Calls Tryd.prog 30 #[.int .i64 (n : Int), .int .i64 16] w fun e w' => e = .returned (S (hexT n)) ∧ Below w.heap.size w w' := by
  have HP := Lib.hid (bits16 n h1 h2 w hT)
  have hcv := cv64 n h2
  have g1 : decide ((n : Int) < 0) = false := decide_eq_false (by omega)
  clear hT
  go_enter Tryd.func30, Tryd.ntmps30
  go_wp2_with fail
  refine HP.out.mono ?_
  rintro e w1 ⟨rfl, hB⟩
  have HB := Lib.hid hB
  clear hB
  go_wp2
  go_ret
  exact ⟨rfl, HB.out⟩
set_option maxRecDepth 100000 in
set_option maxHeartbeats 1000000 in
theorem format16 (n : Nat) (w : World) (h1 : 1 ≤ n) (h2 : n ≤ 4096) (hT : ZeroAt w) : Calls Tryd.prog 19 #[.int .i64 (n : Int), .int .i64 16] w fun e w' => e = .returned (S (hexT n)) ∧ Below w.heap.size w w' := by
  have HP := Lib.hid (format30 n h1 h2 w hT)
  clear hT h1 h2
  go_enter Tryd.func19, Tryd.ntmps19
  go_wp2_with fail
  refine HP.out.mono ?_
  rintro e w1 ⟨rfl, hB⟩
  have HB := Lib.hid hB
  clear hB
  go_wp2
  go_ret
  exact ⟨rfl, HB.out⟩
theorem hexI : HexI ZeroAt where
  hex := format16
  keep := zero_keep
end Go.Proofs.YtocekbfnefajhaaDoor
