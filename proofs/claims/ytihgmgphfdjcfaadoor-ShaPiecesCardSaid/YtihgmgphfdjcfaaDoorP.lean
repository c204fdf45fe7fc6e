/- The walk of ShaPieces. -/
import Derived.Test.YtihgmgphfdjcfaaDoorV
namespace Go.Proofs.YtihgmgphfdjcfaaDoor
open Go.RowKit
attribute [local go_sem] U_add U_xor U_and U_or U_not U_shl U_shr store_one U_match B_match U_store B_store

/-- What holds between the two hashes while a text is cut. -/
def Cutting (w : World) (bh : Nat) (x : List UInt8) (wr : World) : Prop :=
  IsHash bh x wr ∧ IsHash (bh + 1) x wr ∧ Start wr ∧ Below w.heap.size w wr

set_option maxRecDepth 100000 in
set_option maxHeartbeats 2000000 in
theorem pieces_any (l : List UInt8) (V : Value) (n : Nat) (ad : Nat → Addr) (z : Nat → Nat) (w : World) (hs : Start w)
    (hV : Came w 39 V n ad (fun i => .int .u16 (z i : Int))) (hz : ∀ i, i < n → z i ≤ 65535) :
    Calls Tryd.prog 7 #[S l, V] w fun e w' => e = .returned (.bool true) ∧ Below w.heap.size w w' := by
  have HV := Lib.hid hV
  have HZ := Lib.hid hz
  clear hV hz
  go_enter Tryd.func7, Tryd.ntmps7
  go_wp2_with fail
  refine (awake_any w hs).mono ?_
  rintro e W1 ⟨rfl, B1⟩
  have S1 := hs.below B1 hs.lt
  have hlenV := HV.out.len 3
  have hlenS := run_len_S 3
  by_cases h1 : 20000 < l.length
  · have hb1 : decide (20000 < (l.length : Int)) = true := by simp; omega
    go_wp2
    go_ret
    exact ⟨rfl, B1⟩
  have hb1 : decide (20000 < (l.length : Int)) = false := by simp; omega
  by_cases h2 : 200 < n
  · have hb2 : decide (200 < (n : Int)) = true := by simp; omega
    go_wp2
    go_ret
    exact ⟨rfl, B1⟩
  have hb2 : decide (200 < (n : Int)) = false := by simp; omega
  go_wp2_with fail
  have z1 := B1.size
  refine (new_any W1).mono ?_
  rintro e W2 ⟨rfl, hW2⟩
  have y2 : W2.heap.size = W1.heap.size + 1 := by rw [hW2]; exact alloc_size _ _
  have I2 : IsHash W1.heap.size [] W2 := by rw [hW2]; exact isHash_new _ _ (row_new _ _ _)
  have S2 : Start W2 := by rw [hW2]; exact S1.alloc _
  have B2 : Below w.heap.size w W2 := by rw [hW2]; exact B1.alloc z1 _
  clear hW2
  have Y2 := Lib.hid y2
  clear y2
  go_wp2_with fail
  refine (new_any W2).mono ?_
  rintro e W3 ⟨rfl, hW3⟩
  have y3 : W3.heap.size = W2.heap.size + 1 := by rw [hW3]; exact alloc_size _ _
  have I3 : IsHash W1.heap.size [] W3 := by rw [hW3]; exact I2.alloc _
  have J3 : IsHash W2.heap.size [] W3 := by rw [hW3]; exact isHash_new _ _ (row_new _ _ _)
  have S3 : Start W3 := by rw [hW3]; exact S2.alloc _
  have B3 : Below w.heap.size w W3 := by rw [hW3]; exact B2.alloc (by have := Y2.out; omega) _
  clear hW3 I2 S2 B2
  rw [Y2.out] at J3
  rw [Y2.out]
  generalize W1.heap.size = bh at *
  clear B1 S1
  have H3 := Lib.hid (show Cutting w bh [] W3 from ⟨I3, J3, S3, B3⟩)
  clear I3 J3 S3 B3 y3
  go_wp2
  go_loopw [7, 8] (fun rv iv wr => ∃ i x r, i ≤ n ∧ iv = .int .i64 (i : Nat) ∧ l = x ++ r ∧ rv = S r ∧ Cutting w bh x wr) (fun _ iv _ => n - (intOf iv).toNat)
  case atStart => exact ⟨0, [], l, Nat.zero_le _, rfl, rfl, rfl, H3.out⟩
  case round =>
    obtain ⟨i, x, r, hi, rfl, hlx, rfl, hc⟩ := hrel
    have HLX := Lib.hid hlx
    have hlen : x.length + r.length ≤ 20000 := by
      rw [hlx, List.length_append] at h1; omega
    have HC := Lib.hid hc
    clear hlx hc
    by_cases hlt : i < n
    · obtain ⟨q1, q2, q3, q4⟩ := HC.out
      have hx := HV.out.index i hlt
      have hcell : wr.cell? (ad i) = some (.int .u16 (z i : Int)) := (HV.out.below q4).cell i hlt
      have hzi := HZ.out i hlt
      obtain ⟨m, hm⟩ : ∃ m, m = z i % (r.length + 1) := ⟨_, rfl⟩
      have hmr : m ≤ r.length := by rw [hm]; exact Nat.lt_succ_iff.1 (Nat.mod_lt _ (Nat.succ_pos _))
      have hme : (z i : Int) % ((r.length : Int) + 1) = (m : Int) := by rw [hm]; simp
      have HME := Lib.hid hme
      clear hm hme q1 q2 q3 q4
      go_wp2_with (first
        | (refine wpList_take_str rfl (.tmp 39) (.tmp 40) (by with_reducible rfl) r rfl _ m rfl HME.out hmr ?_)
        | fail)
      obtain ⟨q1, q2, q3, q4⟩ := HC.out
      have hw0 := hs.lt
      have ht : (r.take m).length = m := by rw [List.length_take]; exact Nat.min_eq_left hmr
      refine (write_any bh x (r.take m) wr q1 q3 (by omega)).mono ?_
      rintro e V1 ⟨rfl, M1, K1⟩
      have p2 := q2.keeps K1 (by omega)
      have p3 := q3.keeps K1 (by omega)
      have p4 := q4.trans (K1.below (k := w.heap.size) q4.size z1)
      have p1 := M1.isHash
      clear M1 q1 q2 q3 q4
      have HP := Lib.hid (And.intro p1 (And.intro p2 (And.intro p3 p4)))
      clear p1 p2 p3 p4
      go_wp2_with (first
        | (refine wpList_take_str rfl (.tmp 44) (.tmp 45) (by with_reducible rfl) r rfl _ m rfl HME.out hmr ?_)
        | fail)
      obtain ⟨p1, p2, p3, p4⟩ := HP.out
      refine (write_any (bh + 1) x (r.take m) V1 p2 p3 (by omega)).mono ?_
      rintro e V2 ⟨rfl, M2, K2⟩
      have o1 := p1.keeps K2 (by omega)
      have o2 := M2.isHash
      have o3 := p3.keeps K2 (by omega)
      have o4 := p4.trans (K2.below (k := w.heap.size) p4.size (by omega))
      clear M2 p1 p2 p3 p4
      go_wp2_with fail
      refine (hashSum_any (bh + 1) (x ++ r.take m) V2 o2 o3 (by rw [List.length_append]; omega)).mono ?_
      rintro e V3 ⟨rfl, B5⟩
      have h3 := Lib.hid (show Cutting w bh (x ++ r.take m) V3 from ⟨o1.below B5 o1.lt, o2.below B5 o2.lt, o3.below B5 o3.lt, o4.trans (B5.mono o4.size)⟩)
      clear o1 o2 o3 o4 B5
      go_wp2_with (first
        | (refine wpList_drop_str' rfl (.tmp 50) (.tmp 51) (by with_reducible rfl) r rfl _ m rfl HME.out hmr ?_)
        | fail)
      exact ⟨⟨i + 1, x ++ r.take m, r.drop m, by omega, by go_num, by rw [List.append_assoc, List.take_append_drop]; exact HLX.out, rfl, h3.out⟩, by simp [intOf]; omega⟩
    · obtain rfl : i = n := by omega
      go_wp2_with fail
      obtain ⟨q1, q2, q3, q4⟩ := HC.out
      have hw0 := hs.lt
      refine (write_any bh x r wr q1 q3 (by omega)).mono ?_
      rintro e V1 ⟨rfl, M1, K1⟩
      have p2 := q2.keeps K1 (by omega)
      have p3 := q3.keeps K1 (by omega)
      have p4 := q4.trans (K1.below (k := w.heap.size) q4.size z1)
      have p1 := M1.isHash
      clear M1 q1 q2 q3 q4
      have HP := Lib.hid (And.intro p1 (And.intro p2 (And.intro p3 p4)))
      clear p1 p2 p3 p4
      go_wp2_with fail
      obtain ⟨p1, p2, p3, p4⟩ := HP.out
      refine (write_any (bh + 1) x r V1 p2 p3 (by omega)).mono ?_
      rintro e V2 ⟨rfl, M2, K2⟩
      have o1 := p1.keeps K2 (by omega)
      have o2 := M2.isHash
      have o3 := p3.keeps K2 (by omega)
      have o4 := p4.trans (K2.below (k := w.heap.size) p4.size (by omega))
      rw [← HLX.out] at o1 o2
      clear M2 p1 p2 p3 p4
      have hlt : l.length < 100000000000000 := by omega
      have heq := eq_sum l
      have hgd := guard22
      go_wp2_with fail
      refine (hashSum_any bh l V2 o1 o3 hlt).mono ?_
      rintro e V3 ⟨rfl, C3⟩
      have a1 := o1.below C3 o1.lt
      have a2 := o2.below C3 o2.lt
      have a3 := o3.below C3 o3.lt
      have a4 := o4.trans (C3.mono o4.size)
      clear o1 o2 o3 o4 C3
      go_wp2_with fail
      refine (sum_any l V3 a3 hlt).mono ?_
      rintro e V4 ⟨rfl, C4⟩
      have b1 := a1.below C4 a1.lt
      have b2 := a2.below C4 a2.lt
      have b3 := a3.below C4 a3.lt
      have b4 := a4.trans (C4.mono a4.size)
      clear a1 a2 a3 a4 C4
      go_wp2_with fail
      refine (hashSum_any (bh + 1) l V4 b2 b3 hlt).mono ?_
      rintro e V5 ⟨rfl, C5⟩
      have a1 := b1.below C5 b1.lt
      have a3 := b3.below C5 b3.lt
      have a4 := b4.trans (C5.mono b4.size)
      clear b1 b2 b3 b4 C5
      go_wp2_with fail
      refine (hashSum_any bh l V5 a1 a3 hlt).mono ?_
      rintro e V6 ⟨rfl, C6⟩
      have b1 := a1.below C6 a1.lt
      have b3 := a3.below C6 a3.lt
      have b4 := a4.trans (C6.mono a4.size)
      clear a1 a3 a4 C6
      go_wp2_with fail
      refine (hashSum_any bh l V6 b1 b3 hlt).mono ?_
      rintro e V7 ⟨rfl, C7⟩
      have a1 := b1.below C7 b1.lt
      have a3 := b3.below C7 b3.lt
      have a4 := b4.trans (C7.mono b4.size)
      clear b1 b3 b4 C7
      go_wp2_with fail
      refine (hashSum_any bh l V7 a1 a3 hlt).mono ?_
      rintro e V8 ⟨rfl, C8⟩
      have b1 := a1.below C8 a1.lt
      have b4 := a4.trans (C8.mono a4.size)
      clear a1 a3 a4 C8
      go_wp2_with fail
      refine (len_any bh l V8 b1).mono ?_
      rintro e V9 ⟨rfl, rfl⟩
      go_wp2
      go_ret
      exact ⟨by simp, b4⟩
end Go.Proofs.YtihgmgphfdjcfaaDoor
