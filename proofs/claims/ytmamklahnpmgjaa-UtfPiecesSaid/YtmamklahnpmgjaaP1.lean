/- The walk of UtfPieces. -/
import Derived.Test.YtmamklahnpmgjaaW9
namespace Go.Proofs.Ytmamklahnpmgjaa
open Go.RowKit
attribute [local go_sem] store_one

theorem feed_count : ∀ (s : List UInt8) (k : Chk), k.bad = false → ((feed k s).bad = false → (feed k s).n = k.n + s.length) ∧ ((feed k s).bad = true → (feed k s).n < k.n + s.length)
  | [], k, hk => ⟨fun _ => rfl, fun h => by rw [feed, hk] at h; cases h⟩
  | c :: r, k, hk => by
    rw [feed_cons hk]
    cases hn : nextF k.T c with
    | none =>
      have e : k.read c = { k with bad := true } := by unfold Chk.read; rw [hn]
      rw [e, feed_bad rfl]
      exact ⟨fun h => Bool.noConfusion h, fun _ => by show k.n < k.n + (r.length + 1); omega⟩
    | some T =>
      have e : k.read c = { k with n := k.n + 1, T := T } := by unfold Chk.read; rw [hn]
      have := feed_count r (k.read c) (by rw [e]; exact hk)
      have hn1 : (k.read c).n = k.n + 1 := by rw [e]
      rw [hn1] at this
      rw [List.length_cons]
      exact ⟨fun h => by rw [this.1 h]; omega, fun h => by have := this.2 h; omega⟩

/-- What holds while a text is cut: one check has read it, another one what is cut off. -/
def Cutting (w : World) (g1 g2 : Nat) (s x : List UInt8) (wr : World) : Prop :=
  ChkAt wr g1 (feed Chk.start s) ∧ ChkAt wr g2 (feed Chk.start x) ∧ Below w.heap.size w wr

set_option maxRecDepth 100000 in
set_option maxHeartbeats 2000000 in
theorem pieces_any (s t : List UInt8) (V : Value) (n : Nat) (ad : Nat → Addr) (z : Nat → Nat) (w : World)
    (hV : Came Try.prog w 35 V n ad (fun i => .int .u8 (z i : Int))) (hz : ∀ i, i < n → z i ≤ 255) :
    Calls Try.prog 7 #[S s, V, S t] w fun e w' => e = .returned (.bool true) ∧ Below w.heap.size w w' := by
  have HV := Lib.hid hV
  have HZ := Lib.hid hz
  clear hV hz
  go_enter Try.func7, Try.ntmps7
  go_wp2_with fail
  refine (awake_any w).mono ?_
  rintro e W1 ⟨rfl, B1⟩
  have hlenV := HV.out.len 3
  have hlenS := run_len_S (P := Try.prog) Try.underlying9 3 s
  have hlenT := run_len_S (P := Try.prog) Try.underlying9 3 t
  by_cases h1 : 5000 < s.length
  · have hb1 : decide (5000 < (s.length : Int)) = true := by simp; omega
    go_wp2
    go_ret
    exact ⟨rfl, B1⟩
  have hb1 : decide (5000 < (s.length : Int)) = false := by simp; omega
  by_cases h2 : 200 < n
  · have hb2 : decide (200 < (n : Int)) = true := by simp; omega
    go_wp2
    go_ret
    exact ⟨rfl, B1⟩
  have hb2 : decide (200 < (n : Int)) = false := by simp; omega
  by_cases h3 : 300 < t.length
  · have hb3 : decide (300 < (t.length : Int)) = true := by simp; omega
    go_wp2
    go_ret
    exact ⟨rfl, B1⟩
  have hb3 : decide (300 < (t.length : Int)) = false := by simp; omega
  have z1 := B1.size
  have HB1 := Lib.hid B1
  clear B1
  go_wp2_with fail
  refine (new_any W1).mono ?_
  rintro e W2 ⟨rfl, hC2, hB2⟩
  have hl2 := hC2.lt
  have H2 := Lib.hid (And.intro hC2 hB2)
  clear hC2 hB2
  go_wp2_with fail
  refine (new_any W2).mono ?_
  rintro e W3 ⟨rfl, hC3, hB3⟩
  have H3 := Lib.hid (And.intro (H2.out.1.below hB3 hl2) (And.intro hC3 ((HB1.out.trans (H2.out.2.mono z1)).trans (hB3.mono (by have := H2.out.2.size; omega)))))
  clear hC3 hB3 H2 HB1
  obtain ⟨g1, hg1⟩ : ∃ g, g = W1.heap.size := ⟨_, rfl⟩
  obtain ⟨g2, hg2⟩ : ∃ g, g = W2.heap.size := ⟨_, rfl⟩
  rw [← hg1, ← hg2] at H3
  rw [← hg1, ← hg2]
  have hne : g1 < g2 := by omega
  have hw1 : w.heap.size ≤ g1 := by omega
  clear hg1 hg2 hl2 z1
  have hst : Chk.start.n = 0 := rfl
  go_wp2_with fail
  refine (feed_any s Chk.start g1 W3 H3.out.1 (by omega)).mono ?_
  rintro e W4 ⟨rfl, hC4, hK4⟩
  have H4 := Lib.hid (show Cutting w g1 g2 s [] W4 from ⟨hC4, H3.out.2.1.keeps hK4 (by omega), H3.out.2.2.trans (hK4.below H3.out.2.2.size hw1)⟩)
  clear hC4 hK4 H3
  go_wp2
  go_loopw [9, 10] (fun rv iv wr => ∃ i x r, i ≤ n ∧ iv = .int .i64 (i : Nat) ∧ s = x ++ r ∧ rv = S r ∧ Cutting w g1 g2 s x wr) (fun _ iv _ => n - (intOf iv).toNat)
  case atStart => exact ⟨0, [], s, Nat.zero_le _, rfl, rfl, rfl, H4.out⟩
  case round =>
    obtain ⟨i, x, r, hi, rfl, hlx, rfl, hc⟩ := hrel
    have HLX := Lib.hid hlx
    have hlen : x.length + r.length ≤ 5000 := by
      rw [hlx, List.length_append] at h1; omega
    have hxn := feed_n x Chk.start
    rw [hst] at hxn
    have hlenR := run_len_S (P := Try.prog) Try.underlying9 3 r
    have HC := Lib.hid hc
    clear hlx hc
    by_cases hlt : i < n
    · have hx := HV.out.index i hlt
      have hcell : wr.cell? (ad i) = some (.int .u8 (z i : Int)) := (HV.out.below HC.out.2.2).cell i hlt
      have hzi := HZ.out i hlt
      obtain ⟨m, hm⟩ : ∃ m, m = z i % (r.length + 1) := ⟨_, rfl⟩
      have hmr : m ≤ r.length := by rw [hm]; exact Nat.lt_succ_iff.1 (Nat.mod_lt _ (Nat.succ_pos _))
      have hme : (z i : Int) % ((r.length : Int) + 1) = (m : Int) := by rw [hm]; simp
      have HME := Lib.hid hme
      clear hm hme
      go_wp2_with (first
        | (refine wpList_take_str Try.underlying9 rfl (.tmp 50) (.tmp 51) (by with_reducible rfl) r rfl _ m rfl HME.out hmr ?_)
        | fail)
      refine (feed_any (r.take m) (feed Chk.start x) g2 wr HC.out.2.1 (by rw [List.length_take]; omega)).mono ?_
      rintro e V1 ⟨rfl, hC, hK⟩
      rw [← feed_append] at hC
      have h5 := Lib.hid (show Cutting w g1 g2 s (x ++ r.take m) V1 from ⟨HC.out.1.keeps hK (by omega), hC, HC.out.2.2.trans (hK.below HC.out.2.2.size (by omega))⟩)
      clear hC hK
      go_wp2_with (first
        | (refine wpList_drop_str' Try.underlying9 rfl (.tmp 54) (.tmp 55) (by with_reducible rfl) r rfl _ m rfl HME.out hmr ?_)
        | fail)
      exact ⟨⟨i + 1, x ++ r.take m, r.drop m, by omega, by go_num, by rw [List.append_assoc, List.take_append_drop]; exact HLX.out, rfl, h5.out⟩, by simp [intOf]; omega⟩
    · obtain rfl : i = n := by omega
      go_wp2_with fail
      refine (feed_any r (feed Chk.start x) g2 wr HC.out.2.1 (by omega)).mono ?_
      rintro e V1 ⟨rfl, hC, hK⟩
      rw [← feed_append, ← HLX.out] at hC
      rw [← feed_append, ← HLX.out]
      have h5 := Lib.hid (show Cutting w g1 g2 s s V1 from ⟨HC.out.1.keeps hK (by omega), hC, HC.out.2.2.trans (hK.below HC.out.2.2.size (by omega))⟩)
      clear hC hK
      have hcnt := feed_count s Chk.start rfl
      rw [hst, Nat.zero_add] at hcnt
      have htx : textB s = (feed Chk.start s).whole := rfl
      obtain ⟨k, hk⟩ : ∃ k, k = feed Chk.start s := ⟨_, rfl⟩
      rw [Cutting, ← hk] at h5
      rw [← hk] at hcnt htx
      rw [← hk]
      clear hk HLX HC hxn
      cases hb : k.bad with
      | false =>
        have hn := hcnt.1 hb
        have hgt : decide ((s.length : Int) < (k.n : Int)) = false := decide_eq_false (by omega)
        have heq : ((k.n : Int) == (s.length : Int)) = true := by rw [beq_iff_eq]; omega
        have HB := Lib.hid hb
        clear hb hcnt
        cases hv : k.whole with
        | false =>
          have HV' := Lib.hid hv
          rw [hv] at htx
          have HT := Lib.hid htx
          clear hv htx
          go_wp2_with fail
          refine (bad_any k g1 V1 h5.out.1).mono ?_
          rintro e V1 ⟨rfl, rfl⟩
          rw [HB.out]
          go_wp2_with fail
          refine (bad_any k g2 _ h5.out.2.1).mono ?_
          rintro e V1 ⟨rfl, rfl⟩
          rw [HB.out]
          go_wp2_with fail
          refine (whole_any k g1 _ h5.out.1).mono ?_
          rintro e V1 ⟨rfl, rfl⟩
          rw [HV'.out]
          go_wp2_with fail
          refine (whole_any k g2 _ h5.out.2.1).mono ?_
          rintro e V1 ⟨rfl, rfl⟩
          rw [HV'.out]
          go_wp2_with fail
          refine (at_any k g1 _ h5.out.1).mono ?_
          rintro e V1 ⟨rfl, rfl⟩
          go_wp2_with fail
          refine (at_any k g2 _ h5.out.2.1).mono ?_
          rintro e V1 ⟨rfl, rfl⟩
          go_wp2_with fail
          refine (at_any k g1 _ h5.out.1).mono ?_
          rintro e V1 ⟨rfl, rfl⟩
          go_wp2_with fail
          refine (bad_any k g1 _ h5.out.1).mono ?_
          rintro e V1 ⟨rfl, rfl⟩
          rw [HB.out]
          go_wp2_with fail
          refine (at_any k g1 _ h5.out.1).mono ?_
          rintro e V1 ⟨rfl, rfl⟩
          go_wp2_with fail
          refine (bad_any k g1 _ h5.out.1).mono ?_
          rintro e V1 ⟨rfl, rfl⟩
          rw [HB.out]
          go_wp2_with fail
          refine (whole_any k g1 _ h5.out.1).mono ?_
          rintro e V1 ⟨rfl, rfl⟩
          rw [HV'.out]
          go_wp2_with fail
          refine (valid_any s (by omega) _).mono ?_
          rintro e V2 ⟨rfl, hB2⟩
          rw [HT.out]
          go_wp2
          go_ret
          exact ⟨rfl, h5.out.2.2.trans (hB2.mono h5.out.2.2.size)⟩
        | true =>
          have HV' := Lib.hid hv
          rw [hv] at htx
          have HT := Lib.hid htx
          clear hv htx
          go_wp2_with fail
          refine (bad_any k g1 V1 h5.out.1).mono ?_
          rintro e V1 ⟨rfl, rfl⟩
          rw [HB.out]
          go_wp2_with fail
          refine (bad_any k g2 _ h5.out.2.1).mono ?_
          rintro e V1 ⟨rfl, rfl⟩
          rw [HB.out]
          go_wp2_with fail
          refine (whole_any k g1 _ h5.out.1).mono ?_
          rintro e V1 ⟨rfl, rfl⟩
          rw [HV'.out]
          go_wp2_with fail
          refine (whole_any k g2 _ h5.out.2.1).mono ?_
          rintro e V1 ⟨rfl, rfl⟩
          rw [HV'.out]
          go_wp2_with fail
          refine (at_any k g1 _ h5.out.1).mono ?_
          rintro e V1 ⟨rfl, rfl⟩
          go_wp2_with fail
          refine (at_any k g2 _ h5.out.2.1).mono ?_
          rintro e V1 ⟨rfl, rfl⟩
          go_wp2_with fail
          refine (at_any k g1 _ h5.out.1).mono ?_
          rintro e V1 ⟨rfl, rfl⟩
          go_wp2_with fail
          refine (bad_any k g1 _ h5.out.1).mono ?_
          rintro e V1 ⟨rfl, rfl⟩
          rw [HB.out]
          go_wp2_with fail
          refine (at_any k g1 _ h5.out.1).mono ?_
          rintro e V1 ⟨rfl, rfl⟩
          go_wp2_with fail
          refine (bad_any k g1 _ h5.out.1).mono ?_
          rintro e V1 ⟨rfl, rfl⟩
          rw [HB.out]
          go_wp2_with fail
          refine (whole_any k g1 _ h5.out.1).mono ?_
          rintro e V1 ⟨rfl, rfl⟩
          rw [HV'.out]
          go_wp2_with fail
          refine (valid_any s (by omega) _).mono ?_
          rintro e V2 ⟨rfl, hB2⟩
          rw [HT.out]
          go_wp2
          go_ret
          exact ⟨rfl, h5.out.2.2.trans (hB2.mono h5.out.2.2.size)⟩
      | true =>
        have hn := hcnt.2 hb
        have hgt : decide ((s.length : Int) < (k.n : Int)) = false := decide_eq_false (by omega)
        have heq : ((k.n : Int) == (s.length : Int)) = false := by rw [beq_eq_false_iff_ne]; omega
        have HB := Lib.hid hb
        clear hb hcnt
        cases hv : k.whole with
        | false =>
          have HV' := Lib.hid hv
          rw [hv] at htx
          have HT := Lib.hid htx
          clear hv htx
          go_wp2_with fail
          refine (bad_any k g1 V1 h5.out.1).mono ?_
          rintro e V1 ⟨rfl, rfl⟩
          rw [HB.out]
          go_wp2_with fail
          refine (bad_any k g2 _ h5.out.2.1).mono ?_
          rintro e V1 ⟨rfl, rfl⟩
          rw [HB.out]
          go_wp2_with fail
          refine (whole_any k g1 _ h5.out.1).mono ?_
          rintro e V1 ⟨rfl, rfl⟩
          rw [HV'.out]
          go_wp2_with fail
          refine (whole_any k g2 _ h5.out.2.1).mono ?_
          rintro e V1 ⟨rfl, rfl⟩
          rw [HV'.out]
          go_wp2_with fail
          refine (at_any k g1 _ h5.out.1).mono ?_
          rintro e V1 ⟨rfl, rfl⟩
          go_wp2_with fail
          refine (at_any k g2 _ h5.out.2.1).mono ?_
          rintro e V1 ⟨rfl, rfl⟩
          go_wp2_with fail
          refine (at_any k g1 _ h5.out.1).mono ?_
          rintro e V1 ⟨rfl, rfl⟩
          go_wp2_with fail
          refine (bad_any k g1 _ h5.out.1).mono ?_
          rintro e V1 ⟨rfl, rfl⟩
          rw [HB.out]
          go_wp2_with fail
          refine (at_any k g1 _ h5.out.1).mono ?_
          rintro e V1 ⟨rfl, rfl⟩
          go_wp2_with fail
          refine (bad_any k g1 _ h5.out.1).mono ?_
          rintro e V1 ⟨rfl, rfl⟩
          rw [HB.out]
          go_wp2_with fail
          refine (at_any k g1 _ h5.out.1).mono ?_
          rintro e V1 ⟨rfl, rfl⟩
          go_wp2_with fail
          refine (feed_any t k g1 _ h5.out.1 (by omega)).mono ?_
          rintro e V2 ⟨rfl, hC2, hK2⟩
          rw [feed_bad HB.out, HB.out]
          rw [feed_bad HB.out] at hC2
          have h6 := Lib.hid (And.intro hC2 (h5.out.2.2.trans (hK2.below h5.out.2.2.size hw1)))
          clear hC2 hK2
          go_wp2_with fail
          refine (at_any k g1 _ h6.out.1).mono ?_
          rintro e V2 ⟨rfl, rfl⟩
          go_wp2_with fail
          refine (bad_any k g1 _ h6.out.1).mono ?_
          rintro e V2 ⟨rfl, rfl⟩
          rw [HB.out]
          go_wp2
          go_ret
          exact ⟨rfl, h6.out.2⟩
        | true =>
          have HV' := Lib.hid hv
          rw [hv] at htx
          have HT := Lib.hid htx
          clear hv htx
          go_wp2_with fail
          refine (bad_any k g1 V1 h5.out.1).mono ?_
          rintro e V1 ⟨rfl, rfl⟩
          rw [HB.out]
          go_wp2_with fail
          refine (bad_any k g2 _ h5.out.2.1).mono ?_
          rintro e V1 ⟨rfl, rfl⟩
          rw [HB.out]
          go_wp2_with fail
          refine (whole_any k g1 _ h5.out.1).mono ?_
          rintro e V1 ⟨rfl, rfl⟩
          rw [HV'.out]
          go_wp2_with fail
          refine (whole_any k g2 _ h5.out.2.1).mono ?_
          rintro e V1 ⟨rfl, rfl⟩
          rw [HV'.out]
          go_wp2_with fail
          refine (at_any k g1 _ h5.out.1).mono ?_
          rintro e V1 ⟨rfl, rfl⟩
          go_wp2_with fail
          refine (at_any k g2 _ h5.out.2.1).mono ?_
          rintro e V1 ⟨rfl, rfl⟩
          go_wp2_with fail
          refine (at_any k g1 _ h5.out.1).mono ?_
          rintro e V1 ⟨rfl, rfl⟩
          go_wp2_with fail
          refine (bad_any k g1 _ h5.out.1).mono ?_
          rintro e V1 ⟨rfl, rfl⟩
          rw [HB.out]
          go_wp2_with fail
          refine (at_any k g1 _ h5.out.1).mono ?_
          rintro e V1 ⟨rfl, rfl⟩
          go_wp2_with fail
          refine (bad_any k g1 _ h5.out.1).mono ?_
          rintro e V1 ⟨rfl, rfl⟩
          rw [HB.out]
          go_wp2_with fail
          refine (at_any k g1 _ h5.out.1).mono ?_
          rintro e V1 ⟨rfl, rfl⟩
          go_wp2_with fail
          refine (feed_any t k g1 _ h5.out.1 (by omega)).mono ?_
          rintro e V2 ⟨rfl, hC2, hK2⟩
          rw [feed_bad HB.out, HB.out]
          rw [feed_bad HB.out] at hC2
          have h6 := Lib.hid (And.intro hC2 (h5.out.2.2.trans (hK2.below h5.out.2.2.size hw1)))
          clear hC2 hK2
          go_wp2_with fail
          refine (at_any k g1 _ h6.out.1).mono ?_
          rintro e V2 ⟨rfl, rfl⟩
          go_wp2_with fail
          refine (bad_any k g1 _ h6.out.1).mono ?_
          rintro e V2 ⟨rfl, rfl⟩
          rw [HB.out]
          go_wp2
          go_ret
          exact ⟨rfl, h6.out.2⟩
end Go.Proofs.Ytmamklahnpmgjaa
