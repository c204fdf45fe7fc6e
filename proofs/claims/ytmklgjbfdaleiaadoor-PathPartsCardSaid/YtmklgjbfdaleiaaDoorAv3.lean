/- The landed read: a piece of a path, read; strconv.ParseUint of two digits of sixteen walked. -/
import Derived.Test.YtmklgjbfdaleiaaDoorAv2
import Derived.Test.YtmklgjbfdaleiaaDoorAc
import Derived.Lib.ConvBytes

namespace Go.Proofs.YtmklgjbfdaleiaaDoor
open Go.RowKit
attribute [local go_sem] store_one B_match B_store S_match S_store eguard_BN nguard_BN

/-- A digit of sixteen, made small. -/
def lowN (c : UInt8) : Nat := if c.toNat ≤ 57 then c.toNat else if c.toNat ≤ 70 then c.toNat + 32 else c.toNat
theorem lower_any (c : UInt8) (h : hexB c = true) (w : World) : Calls Tryd.prog 53 #[.int .u8 (c.toNat : Int)] w fun e w' => e = .returned (.int .u8 (lowN c : Int)) ∧ w' = w := by
  have hb : bits .or .u8 (c.toNat : Int) 32 = (lowN c : Int) := by
    have := all_bytes (p := fun c => !hexB c || decide (bits .or .u8 (c.toNat : Int) 32 = (lowN c : Int))) (by decide +kernel) c
    simpa [h] using this
  go_enter Tryd.func53, Tryd.ntmps53
  go_wp2
  go_ret
  exact ⟨rfl, rfl⟩
theorem hex_cases (c : UInt8) (h : hexB c = true) : (48 ≤ c.toNat ∧ c.toNat ≤ 57 ∧ hexN c = c.toNat - 48) ∨ (57 < c.toNat ∧ c.toNat ≠ 95 ∧ 97 ≤ lowN c ∧ lowN c ≤ 102 ∧ hexN c + 87 = lowN c) := by
  have := all_bytes (p := fun c => !hexB c || (decide (48 ≤ c.toNat ∧ c.toNat ≤ 57 ∧ hexN c = c.toNat - 48) || decide (57 < c.toNat ∧ c.toNat ≠ 95 ∧ 97 ≤ lowN c ∧ lowN c ≤ 102 ∧ hexN c + 87 = lowN c))) (by decide +kernel) c
  simpa [h] using this
/-- The value of the first k of two digits. -/
def valK (x y : UInt8) (k : Nat) : Nat := if k = 0 then 0 else if k = 1 then hexN x else 16 * hexN x + hexN y

set_option maxRecDepth 100000 in
set_option maxHeartbeats 2000000 in
theorem parse16in_any (x y : UInt8) (hx : hexB x = true) (hy : hexB y = true) (w : World) :
    Calls Tryd.prog 44 #[S [x, y], .int .i64 16, .int .i64 8] w fun e w' => e = .returned (.tuple #[.int .u64 ((16 * hexN x + hexN y : Nat) : Int), .nilIface]) ∧ Below w.heap.size w w' := by
  have hx15 := hexN_le hx
  have hy15 := hexN_le hy
  have hemp : (⟨#[x, y]⟩ : ByteArray).toList.isEmpty = false := by
    rw [Lib.toList_data]; rfl
  have hcv := Lib.run_convert_string_bytes (P := Tryd.prog) w 9 31 5 ⟨#[x, y]⟩ (u := .string) Tryd.underlying9 Tryd.underlying31 Tryd.underlying5
  have hB : ∀ j, j < 2 → (Lib.bytesWorld w 5 ⟨#[x, y]⟩).cell? ⟨w.heap.size, j, none⟩ = some (.int .u8 (([x, y] : List UInt8).getD j 0).toNat) := fun j hj => Lib.bytesWorld_cell w 5 ⟨#[x, y]⟩ j hj
  have hBW : Below w.heap.size w (Lib.bytesWorld w 5 ⟨#[x, y]⟩) := below_grown (Below.refl _ _) (grown_bytes _ none) (fun _ h => by cases h) (Nat.le_refl _)
  have hs2 : (⟨#[x, y]⟩ : ByteArray).size = 2 := rfl
  rw [hs2] at hcv
  obtain ⟨W1, hW1⟩ : ∃ W1, W1 = Lib.bytesWorld w 5 ⟨#[x, y]⟩ := ⟨_, rfl⟩
  rw [← hW1] at hcv hB hBW
  obtain ⟨q, hq⟩ : ∃ q, q = grownCap w 2 0 5 := ⟨_, rfl⟩
  rw [← hq] at hcv
  clear hW1 hs2 hq
  have hb : ∀ k, k < 2 → ∃ c : UInt8, hexB c = true ∧ W1.cell? ⟨w.heap.size, k, none⟩ = some (.int .u8 (c.toNat : Int)) ∧ valK x y k ≤ 15 ∧ valK x y (k + 1) = 16 * valK x y k + hexN c := by
    intro k hk
    have : k = 0 ∨ k = 1 := by omega
    rcases this with rfl | rfl
    · exact ⟨x, hx, hB 0 (by omega), by simp [valK], by simp [valK]⟩
    · exact ⟨y, hy, hB 1 (by omega), by simp [valK]; exact hx15, by simp [valK]⟩
  have hend : valK x y 2 = 16 * hexN x + hexN y := rfl
  have hzero : valK x y 0 = 0 := rfl
  rw [← hend]
  have hv255 : ∀ k, k ≤ 2 → valK x y k ≤ 255 := by
    intro k hk
    have : k = 0 ∨ k = 1 ∨ k = 2 := by omega
    rcases this with rfl | rfl | rfl <;> simp [valK] <;> omega
  generalize valK x y = val at *
  have HB := Lib.hid hb
  have HV := Lib.hid hv255
  have HBW := Lib.hid hBW
  have hmv : IntKind.u64.wrap (IntKind.u64.wrap 256 - 1) = 255 := by
    rw [IntKind.wrap_u64, IntKind.wrap_u64]
    decide
  have hS : S [x, y] = .string ⟨#[x, y]⟩ := rfl
  rw [hS]
  have HZ := Lib.hid hzero
  clear hb hv255 hB hBW hend hx15 hy15 hx hy hzero hS
  generalize w.heap.size = g at *
  go_enter Tryd.func44, Tryd.ntmps44
  go_wp2
  clear hcv hemp
  go_loop [12, 13, 101] (fun vu vn vi => ∃ (k : Nat) (a : Int), vu = .bool false ∧ vn = .int .u64 a ∧ vi = .int .i64 (k : Int) ∧ k ≤ 2 ∧ Hid (a = (val k : Int)))
    (fun _ _ vi => 2 - (intOf vi).toNat)
  case atStart => exact ⟨0, 0, rfl, rfl, rfl, by omega, Lib.hid (by rw [HZ.out]; rfl)⟩
  case round =>
    obtain ⟨k, a, rfl, rfl, rfl, hk, hh⟩ := hrel
    by_cases hkn : k < 2
    · obtain ⟨c, hc, hcell, h15, hnext⟩ := HB.out k hkn
      have a0 : 0 ≤ a := by rw [hh.out]; exact Int.natCast_nonneg _
      have a15 : a ≤ 15 := by rw [hh.out]; omega
      have HN : Hid ((val (k + 1) : Int) = 16 * a + (hexN c : Int)) := Lib.hid (by rw [hh.out]; omega)
      have HL := Lib.hid (fun W => lower_any c hc W)
      have hc256 : c.toNat < 256 := c.toNat_lt
      rcases hex_cases c hc with ⟨hd0, hd1, hd2⟩ | ⟨hd0, hd1, hd2, hd3, hd4⟩
      · have iov : a * 16 + ((c.toNat : Int) - 48) ≤ 255 := by omega
        have HN2 : Hid (a * 16 + ((c.toNat : Int) - 48) = (val (k + 1) : Int)) := Lib.hid (by rw [HN.out, hd2]; omega)
        clear hnext h15 hc hd2 hh
        go_wp2
        refine ⟨⟨k + 1, a * 16 + ((c.toNat : Int) - 48), rfl, (by first | rfl | (congr 1; omega)), (by first | rfl | (congr 1; omega)), by omega, HN2⟩, by simp [intOf]; omega⟩
      · obtain ⟨v, hv⟩ : ∃ v, v = lowN c := ⟨_, rfl⟩
        rw [← hv] at hd2 hd3 hd4 HL
        have iov : a * 16 + ((v : Int) - 97 + 10) ≤ 255 := by omega
        have h95 : ((c.toNat : Int) == 95) = false := by rw [beq_eq_false_iff_ne]; omega
        have HN2 : Hid (a * 16 + ((v : Int) - 97 + 10) = (val (k + 1) : Int)) := Lib.hid (by rw [HN.out]; omega)
        clear hnext h15 hc hd4 hv hd1 hh
        go_wp2_with (first
          | (go_at_call 53; refine (HL.out _).mono ?_; rintro e w' ⟨rfl, hw⟩; rw [hw]; clear hw)
          | fail)
        refine ⟨⟨k + 1, a * 16 + ((v : Int) - 97 + 10), rfl, (by first | rfl | (congr 1; omega)), (by first | rfl | (congr 1; omega)), by omega, HN2⟩, by simp [intOf]; omega⟩
    · have HE : Hid (a = (val 2 : Int)) := Lib.hid (by rw [hh.out, show k = 2 by omega])
      have hk2 : ¬ ((k : Int) < 2) := by omega
      clear hh hkn hk
      have e := HE.out
      subst e
      go_wp2
      go_ret2
      exact ⟨rfl, HBW.out⟩
set_option maxRecDepth 100000 in
set_option maxHeartbeats 400000 in
theorem parse16_any (x y : UInt8) (hx : hexB x = true) (hy : hexB y = true) (w : World) :
    Calls Tryd.prog 31 #[S [x, y], .int .i64 16, .int .i64 8] w fun e w' => e = .returned (.tuple #[.int .u64 ((16 * hexN x + hexN y : Nat) : Int), .nilIface]) ∧ Below w.heap.size w w' := by
  have H := Lib.hid (fun W => parse16in_any x y hx hy W)
  generalize 16 * hexN x + hexN y = v at *
  generalize S [x, y] = T at *
  clear hx hy
  go_enter Tryd.func31, Tryd.ntmps31
  go_wp2_with (first
    | (go_at_call 44; refine (H.out _).mono ?_; rintro e w' ⟨rfl, hw⟩)
    | fail)
  go_wp2
  first | (go_ret2; exact ⟨rfl, hw⟩) | exact ⟨rfl, hw⟩
theorem elemB : Elem Tryd.prog 5 := elem_of (z := .int .u8 0) (n := 1) (by kernel_rfl) (by omega) rfl
/-- Bytes so far, in a slice of one's own. -/
def OB (w : World) (v : Value) (l : List UInt8) (W : World) : Prop := Own w.heap.size v (l.map B) W ∧ Below w.heap.size w W
theorem OB.below {w : World} {v : Value} {l : List UInt8} {W W' : World} (h : OB w v l W) (hb : Below W.heap.size W W') : OB w v l W' :=
  ⟨h.1.below hb (fun k e => (h.1.lt k e).2), h.2.trans (hb.mono h.2.size)⟩
theorem OB.grown {w : World} {v v' : Value} {l l' : List UInt8} {W W' : World} (h : OB w v l W) (ho : Own w.heap.size v' (l'.map B) W') (hg : W.grownBy W' v.ownBlock) : OB w v' l' W' :=
  ⟨ho, below_own h.2 h.1 hg (Nat.le_refl _) h.2.size⟩
theorem conv_u64 (n : Nat) (h : n < 256) (w : World) : (convert 46 5 (.int .u64 (n : Int))).run Tryd.prog w = .ok (.int .u8 (n : Int)) w := by
  have e : IntKind.u8.wrap (n : Int) = (n : Int) := by rw [IntKind.wrap_u8]; omega
  simp [convert, run_underlying Tryd.underlying5, run_underlying Tryd.underlying46, e, go_sem]
set_option maxRecDepth 100000 in
set_option maxHeartbeats 2000000 in
theorem read_any (s : List UInt8) (ho : okT s = true) (hl : s.length ≤ 1000) (w : World) : Calls Tryd.prog 18 #[S s] w fun e w' => e = .returned (S (rdF s)) ∧ Below w.heap.size w w' := by
  have hlen := run_len_S (P := Tryd.prog) Tryd.underlying9 3 s
  obtain ⟨L, hL⟩ : ∃ L, L = s.length := ⟨_, rfl⟩
  rw [← hL] at hlen hl
  have HO := Lib.hid ho
  have HL := Lib.hid hL
  clear ho hL
  go_enter Tryd.func18, Tryd.ntmps18
  go_wp2_with (first
    | (refine wpList_make Tryd.underlying31 elemB rfl (.tmp 8) (by with_reducible rfl) L rfl (by omega) w.heap.size (Nat.le_refl _) ?_; intro v1 W1 o1 g1)
    | fail)
  have HI : Hid (OB w v1 [] W1) := Lib.hid ⟨o1, below_grown (Below.refl _ _) g1 (fun _ h => by cases h) (Nat.le_refl _)⟩
  clear o1 g1
  go_loopw [3, 4] (fun vv iv wr => ∃ (done : List UInt8) (i : Nat), iv = .int .i64 (i : Int) ∧ i ≤ L ∧ Hid (OB w vv done wr ∧ okT (s.drop i) = true ∧ rdF s = done ++ rdF (s.drop i) ∧ done.length ≤ i)) (fun _ iv _ => L - (intOf iv).toNat)
  case atStart => exact ⟨[], 0, rfl, by omega, Lib.hid ⟨HI.out, HO.out, rfl, Nat.le_refl _⟩⟩
  case round =>
    obtain ⟨done, i, rfl, hi, HR⟩ := hrel
    have hdl : done.length ≤ 1000 := by have := HR.out.2.2.2; omega
    have hw1 : IntKind.i64.wrap ((i : Int) + 1) = (i : Int) + 1 := by rw [IntKind.wrap_i64]; omega
    have hw2 : IntKind.i64.wrap ((i : Int) + 2) = (i : Int) + 2 := by rw [IntKind.wrap_i64]; omega
    have hw3 : IntKind.i64.wrap ((i : Int) + 3) = (i : Int) + 3 := by rw [IntKind.wrap_i64]; omega
    have hw21 : IntKind.i64.wrap ((i : Int) + 2 + 1) = (i : Int) + 2 + 1 := by rw [IntKind.wrap_i64]; omega
    by_cases hlt : i < L
    case neg =>
      obtain rfl : i = L := by omega
      have HE : Hid (rdF s = done) := Lib.hid (by
        have := HR.out.2.2.1
        rw [HL.out, List.drop_length, rd_nil, List.append_nil] at this
        exact this)
      have htx := own_text Tryd.underlying9 Tryd.underlying31 Tryd.underlying5 HR.out.1.1
      have HB := Lib.hid HR.out.1.2
      clear hw1 hw2 hw3 hw21
      go_wp2
      go_ret
      exact ⟨by rw [HE.out]; rfl, HB.out⟩
    case pos =>
      obtain ⟨c, hc⟩ : ∃ c, s[i]? = some c := ⟨s[i]'(by have := HL.out; omega), List.getElem?_eq_getElem _⟩
      have hidx : ∀ w, (Instr.index 9 (S s) (.int .i64 (i : Int))).run Tryd.prog w = .ok (B c) w := fun w => index_S (P := Tryd.prog) Tryd.underlying9 s i c hc w
      have hdr : s.drop i = c :: s.drop (i + 1) := by
        rw [List.drop_eq_getElem_cons (by rw [← HL.out]; exact hlt), (List.getElem?_eq_some_iff.1 hc).2]
      have p1 : binOp .neq 5 (B c) (.int .u8 37) = pure (.bool (c != 37)) := by
        show pure (Value.bool ((c.toNat : Int) != 37)) = _
        have := beqB c 37
        rw [bne, bne]
        congr 3
      by_cases h37 : c = 37
      case neg =>
        rw [show (c != 37) = true from bne_iff_ne.2 h37] at p1
        have HN : Hid (okT (s.drop (i + 1)) = true ∧ rdF s = (done ++ [c]) ++ rdF (s.drop (i + 1))) := Lib.hid (by
          have h1 := HR.out.2.1
          have h2 := HR.out.2.2.1
          rw [hdr] at h1 h2
          rw [okT_one h37, Bool.and_eq_true] at h1
          rw [rd_on h37] at h2
          exact ⟨h1.2, by rw [h2, List.append_assoc]; rfl⟩)
        have HOB := Lib.hid HR.out.1
        have HDL := Lib.hid HR.out.2.2.2
        clear hdr hc h37
        go_wp2_with (first
          | (at_builtin; refine wpList_add_byte rfl 31 5 (.tmp 20) (.tmp 24) rfl Tryd.underlying31 elemB w.heap.size wr _ rfl done HOB.out.1 c _ rfl rfl rfl (by omega) HOB.out.2.size ?_; intro v7 W7 o7 g7 _; have H7 : Hid (OB w v7 (done ++ [c]) W7) := Lib.hid (HOB.out.grown o7 g7); clear o7 g7)
          | fail)
        exact ⟨⟨done ++ [c], i + 1, by go_num, by omega, Lib.hid ⟨H7.out, HN.out.1, HN.out.2, by rw [List.length_append, List.length_singleton]; have := HDL.out; omega⟩⟩, by simp [intOf]; omega⟩
      case pos =>
        rw [show (c != 37) = false by rw [h37]; rfl] at p1
        obtain ⟨x, y, hx0, hy0, hxb, hyb, hi3, hdr3⟩ : ∃ x y, s[i + 1]? = some x ∧ s[i + 2]? = some y ∧ hexB x = true ∧ hexB y = true ∧ i + 3 ≤ L ∧ s.drop i = 37 :: x :: y :: s.drop (i + 3) ∧ okT (s.drop (i + 3)) = true := by
          rcases okT_cases HR.out.2.1 with e | ⟨d, r, e, hd1, _⟩ | ⟨x, y, r, e, hx, hy, hr⟩
          · rw [hdr] at e; cases e
          · rw [hdr] at e; injection e with e1 _; exact absurd (e1.symm.trans h37) hd1
          · have e1 : s.drop (i + 1) = x :: y :: r := by rw [hdr] at e; injection e
            have k1 : s[i + 1]? = some x := by
              have := congrArg (fun l => l[0]?) e1
              simpa [List.getElem?_drop] using this
            have k2 : s[i + 2]? = some y := by
              have := congrArg (fun l => l[1]?) e1
              simpa [List.getElem?_drop, Nat.add_assoc] using this
            have e3 : s.drop (i + 3) = r := by
              have := congrArg (List.drop 2) e1
              rw [List.drop_drop] at this
              simpa [Nat.add_assoc] using this
            have hll := congrArg List.length e1
            rw [List.length_drop, List.length_cons, List.length_cons] at hll
            exact ⟨x, y, k1, k2, hx, hy, by have := HL.out; omega, by rw [e, e3], by rw [e3]; exact hr⟩
        have hmid : ∀ w, (Instr.slice 9 (S s) (some (.int .i64 ((i : Int) + 1))) (some (.int .i64 ((i : Int) + 3))) none).run Tryd.prog w = .ok (S [x, y]) w := by
          intro w
          have h := slice_mid (P := Tryd.prog) Tryd.underlying9 s (i + 1) (i + 3) (by omega) (by rw [← HL.out]; exact hi3) w
          have e : (s.drop (i + 1)).take (i + 3 - (i + 1)) = [x, y] := by
            rw [show i + 3 - (i + 1) = 2 by omega]
            have e1 : s.drop (i + 1) = x :: y :: s.drop (i + 3) := by
              have := hdr3.1
              rw [hdr] at this
              injection this
            rw [e1]; rfl
          rw [e] at h
          exact h
        have hv : 16 * hexN x + hexN y < 256 := by have := hexN_le hxb; have := hexN_le hyb; omega
        have HP := Lib.hid (fun W => parse16_any x y hxb hyb W)
        have HN : Hid (okT (s.drop (i + 3)) = true ∧ rdF s = (done ++ [byteH x y]) ++ rdF (s.drop (i + 3))) := Lib.hid (by
          have h2 := HR.out.2.2.1
          rw [hdr3.1, rd_pct] at h2
          exact ⟨hdr3.2, by rw [h2, List.append_assoc]; rfl⟩)
        have hcv := fun w => conv_u64 (16 * hexN x + hexN y) hv w
        have hbh : Hid (#[Value.int .u8 (((16 * hexN x + hexN y : Nat) : Int))] = #[B (byteH x y)]) := Lib.hid (byte_cell2 _ hv)
        obtain ⟨v, hvv⟩ : ∃ v, v = 16 * hexN x + hexN y := ⟨_, rfl⟩
        rw [← hvv] at HP hbh
        simp only [← hvv] at hcv
        have HOB := Lib.hid HR.out.1
        have HDL := Lib.hid HR.out.2.2.2
        have H3 := Lib.hid hi3
        generalize hbb : byteH x y = b at *
        generalize S [x, y] = T at *
        clear hdr hc h37 hx0 hy0 hdr3 hv hvv hxb hyb hbb hi3
        go_wp2_with (first
          | (go_at_call 31; refine (HP.out _).mono ?_; rintro e W5 ⟨rfl, hw5⟩; have HO5 := Lib.hid (HOB.out.below hw5); clear hw5)
          | (at_builtin; refine wpList_add_byte rfl 31 5 (.tmp 36) (.tmp 39) rfl Tryd.underlying31 elemB w.heap.size W5 _ rfl done HO5.out.1 b _ hbh.out rfl rfl (by omega) HO5.out.2.size ?_; intro v7 W7 o7 g7 _; have H7 : Hid (OB w v7 (done ++ [b]) W7) := Lib.hid (HO5.out.grown o7 g7); clear o7 g7)
          | fail)
        exact ⟨⟨done ++ [b], i + 3, by go_num, by have := H3.out; omega, Lib.hid ⟨H7.out, HN.out.1, HN.out.2, by rw [List.length_append, List.length_singleton]; have := HDL.out; omega⟩⟩, by have := H3.out; simp [intOf]; omega⟩
end Go.Proofs.YtmklgjbfdaleiaaDoor
