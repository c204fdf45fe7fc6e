/- FramesPieces (stage 16) walked, over any package of frames as they come. -/
import Derived.Test.YtlmolmmhkddpaaaHi
import Derived.Test.YtlmolmmhkddpaaaHm3
import Derived.BigQuiet
namespace Go.Proofs.Ytlmolmmhkddpaaa
open Go.RowKit
attribute [local go_sem] store_one B_match B_store S_match S_store

theorem conv_u8b (n : Nat) (h : n ≤ 255) (w : World) : (convert 5 3 (.int .u8 (n : Int))).run Try.prog w = .ok (.int .i64 (n : Int)) w := by
  have e : IntKind.i64.wrap (n : Int) = (n : Int) := by rw [IntKind.wrap_i64]; omega
  simp [convert, run_underlying Try.underlying5, run_underlying Try.underlying3, e, go_sem]
def longF (l : List Ev) : Nat → Nat
  | 0 => 0
  | j + 1 => match l[j]? with
    | some d => d.len
    | none => 0
/-- Two readers and their rows, side by side. -/
structure PInv (RA : World → (Nat → Prop) → Nat → Fst → Prop) (w : World) (g1 : Nat) (F1 : Nat → Prop) (st1 : Fst) (V1 : Value) (l1 : List Ev) (g2 : Nat) (F2 : Nat → Prop) (st2 : Fst) (V2 : Value) (l2 : List Ev) (W : World) : Prop where
  r1 : AtR RA w W F1 g1 st1
  v1 : EvR 29 w.heap.size V1 l1 W
  r2 : AtR RA w W F2 g2 st2
  v2 : EvR 29 w.heap.size V2 l2 W
  s12 : ∀ k, F1 k → ¬ F2 k
  sv1 : ∀ k, V1.ownBlock = some k → ¬ F2 k ∧ V2.ownBlock ≠ some k
  sv2 : ∀ k, V2.ownBlock = some k → ¬ F1 k ∧ ¬ F2 k
section
variable {RA : World → (Nat → Prop) → Nat → Fst → Prop} {w W W' : World} {zr : Array Value} {g1 g2 : Nat} {F1 F2 F2' : Nat → Prop} {st1 st2 st2' : Fst} {V1 V2 : Value} {l1 l2 : List Ev}
theorem PInv.below (C : FramesI w zr RA) (h : PInv RA w g1 F1 st1 V1 l1 g2 F2 st2 V2 l2 W) (hb : Below W.heap.size W W') : PInv RA w g1 F1 st1 V1 l1 g2 F2 st2 V2 l2 W' where
  r1 := h.r1.below C hb
  v1 := h.v1.below hb
  r2 := h.r2.below C hb
  v2 := h.v2.below hb
  s12 := h.s12
  sv1 := h.sv1
  sv2 := h.sv2
theorem PInv.feed (C : FramesI w zr RA) (h : PInv RA w g1 F1 st1 V1 l1 g2 F2 st2 V2 l2 W) (hr : RA W' F2' g2 st2') (hm : Moves F2 F2' W W') : PInv RA w g1 F1 st1 V1 l1 g2 F2' st2' V2 l2 W' where
  r1 := ⟨C.same h.r1.1 hm.size fun k hk => hm.rest k ((C.lt h.r1.1).2 k hk) (h.s12 k hk), h.r1.2.1.trans (hm.below h.r2.2.2 h.r1.2.1.size), h.r1.2.2⟩
  v1 := h.v1.same fun j hj => hm.rest j (h.v1.lt hj).2 (h.sv1 j hj).1
  r2 := h.r2.moves hr hm
  v2 := h.v2.same fun j hj => hm.rest j (h.v2.lt hj).2 (h.sv2 j hj).2
  s12 := fun k hk e => by rcases hm.foot k e with h1 | h1; exact h.s12 k hk h1; have := (C.lt h.r1.1).2 k hk; omega
  sv1 := fun k hk => ⟨fun e => by rcases hm.foot k e with h1 | h1; exact (h.sv1 k hk).1 h1; have := (h.v1.lt hk).2; omega, (h.sv1 k hk).2⟩
  sv2 := fun k hk => ⟨(h.sv2 k hk).1, fun e => by rcases hm.foot k e with h1 | h1; exact (h.sv2 k hk).2 h1; have := (h.v2.lt hk).2; omega⟩
/-- told, of the second one. -/
theorem PInv.told (C : FramesI w zr RA) (h : PInv RA w g1 F1 st1 V1 l1 g2 F2 st2 V2 l2 W) (hl : l2.length + (allF st2).length ≤ 1000000 ∧ textN l2 + textN (allF st2) ≤ 1000000) :
    Calls Try.prog 12 #[.pointer (some ⟨g2, 0, none⟩), V2] W fun e w' => ∃ V2' F2', e = .returned V2' ∧ PInv RA w g1 F1 st1 V1 l1 g2 F2' (endF st2) V2' (toldF l2 st2) w' := by
  refine (told16_any C h.r2.2.1 h.r2.1 h.r2.2.2 h.v2 ⟨Nat.le_refl _, h.r2.2.1.size⟩ (fun k hk => (h.sv2 k hk).2) hl).mono ?_
  rintro e W1 ⟨V', F', rfl, hev, hR, hown, hm⟩
  have hG : ∀ k, F2 k ∨ V2.ownBlock = some k → w.heap.size ≤ k := fun k hk => by
    rcases hk with hk | hk
    · exact h.r2.2.2 k hk
    · exact (h.v2.lt hk).1
  have hlt1 := (C.lt h.r1.1).2
  refine ⟨V', F', rfl, ⟨C.same h.r1.1 hm.size fun k hk => hm.rest k (hlt1 k hk) ?_, h.r1.2.1.trans (hm.below hG h.r1.2.1.size), h.r1.2.2⟩, h.v1.same fun j hj => hm.rest j (h.v1.lt hj).2 ?_, ⟨hR, h.r1.2.1.trans (hm.below hG h.r1.2.1.size), hm.from hG h.r1.2.1.size⟩, hev, fun k hk e => ?_, fun k hk => ⟨fun e => ?_, fun e => ?_⟩, fun k hk => ⟨fun e => ?_, (hown k hk).1⟩⟩
  · rintro (e | e)
    · exact h.s12 k hk e
    · exact (h.sv2 k e).1 hk
  · rintro (e | e)
    · exact (h.sv1 j hj).1 e
    · exact (h.sv1 j hj).2 e
  · rcases hm.foot k e with (h1 | h1) | h1
    · exact h.s12 k hk h1
    · exact (h.sv2 k h1).1 hk
    · have := hlt1 k hk; omega
  · rcases hm.foot k e with (h1 | h1) | h1
    · exact (h.sv1 k hk).1 h1
    · exact (h.sv1 k hk).2 h1
    · have := (h.v1.lt hk).2; omega
  · rcases (hown k e).2 with h1 | h1
    · exact (h.sv1 k hk).2 h1
    · have := (h.v1.lt hk).2; omega
  · rcases (hown k hk).2 with h1 | h1
    · exact (h.sv2 k h1).1 e
    · have := hlt1 k e; omega
end
set_option maxRecDepth 100000 in
set_option maxHeartbeats 4000000 in
theorem pieces16_any {w : World} {zr : Array Value} {RA : World → (Nat → Prop) → Nat → Fst → Prop} (C : FramesI w zr RA) (s : List UInt8) (V : Value) (N : Nat) (ad : Nat → Addr) (z : Nat → Nat) (m : Bool)
    (hV : Came Try.prog w 38 V N ad (fun i => .int .u8 (z i : Int))) (hz : ∀ i, i < N → z i ≤ 255) :
    Calls Try.prog 7 #[S s, V, .bool m] w fun e w' => e = .returned (.bool true) ∧ Below w.heap.size w w' := by
  have hlen := run_len_S (P := Try.prog) Try.underlying9 3 s
  have hlV := hV.len 3
  have HA := Lib.hid (awake16_any C)
  obtain ⟨K, hK⟩ : ∃ K, K = s.length := ⟨_, rfl⟩
  rw [← hK] at hlen
  have HK := Lib.hid hK
  have HV := Lib.hid (And.intro hV hz)
  clear hK hz hV
  go_enter Try.func7, Try.ntmps7
  go_wp2_with fail
  refine HA.out.mono ?_
  rintro e W1 ⟨rfl, hB⟩
  have HB1 := Lib.hid hB
  clear hB HA
  by_cases h : 10000 < K
  · have j1 : decide ((10000 : Int) < (K : Int)) = true := decide_eq_true (by omega)
    have j1' : decide ((K : Int) > 10000) = true := decide_eq_true (by omega)
    go_wp2
    go_ret
    exact ⟨rfl, HB1.out⟩
  have j1 : decide ((10000 : Int) < (K : Int)) = false := decide_eq_false (by omega)
  have j1' : decide ((K : Int) > 10000) = false := decide_eq_false (by omega)
  by_cases h3 : 300 < N
  · have j2 : decide ((300 : Int) < (N : Int)) = true := decide_eq_true (by omega)
    have j2' : decide ((N : Int) > 300) = true := decide_eq_true (by omega)
    go_wp2
    go_ret
    exact ⟨rfl, HB1.out⟩
  have j2 : decide ((300 : Int) < (N : Int)) = false := decide_eq_false (by omega)
  have j2' : decide ((N : Int) > 300) = false := decide_eq_false (by omega)
  have HN : Hid (N ≤ 300 ∧ K ≤ 10000) := Lib.hid ⟨by omega, by omega⟩
  clear h h3
  have HC := Lib.hid (C.new m W1 HB1.out)
  go_wp2_with fail
  refine HC.out.mono ?_
  rintro e W2 ⟨g1, F1, rfl, hR, hF, hB⟩
  have H2 : Hid (AtR RA w W2 F1 g1 (fresh16 m)) := Lib.hid ⟨hR, HB1.out.trans (hB.mono HB1.out.size), fun k hk => Nat.le_trans HB1.out.size (hF k hk)⟩
  clear hR hF hB HC HB1
  have HC := Lib.hid (C.feed s H2.out.1 H2.out.2.1 (by have := HN.out; have := HK.out; show 0 + s.length ≤ 100000; omega))
  rw [fresh_feed] at HC
  go_wp2_with fail
  refine HC.out.mono ?_
  rintro e W3 ⟨rfl, F3, hR, hm⟩
  have H3 := Lib.hid (H2.out.moves hR hm)
  clear hR hm HC H2
  have HC := Lib.hid (told16_new C H3.out (by have := HN.out; have := HK.out; show s.length ≤ 100000; omega))
  go_wp2_with fail
  refine HC.out.mono ?_
  rintro e W4 ⟨V1, F4, rfl, hrow, hat, hm⟩
  have H4 := Lib.hid (And.intro hat hrow)
  clear hrow hat hm HC H3
  have HC := Lib.hid (C.new m W4 H4.out.1.2.1)
  go_wp2_with fail
  refine HC.out.mono ?_
  rintro e W5 ⟨g2, F5, rfl, hR, hF, hB⟩
  have H5 : Hid (PInv RA w g1 F4 (endF (atS m s)) V1 (toldF [] (atS m s)) g2 F5 (endF (atS m (s.take 0))) (.slice none 0 0) (toldF [] (atS m (s.take 0))) W5) := Lib.hid (by
    have hn := tell_none (m := m) (s := s.take 0) [] rfl
    rw [hn.1, hn.2]
    exact ⟨H4.out.1.below C hB, H4.out.2.1.below hB, ⟨hR, H4.out.1.2.1.trans (hB.mono H4.out.1.2.1.size), fun k hk => Nat.le_trans H4.out.1.2.1.size (hF k hk)⟩, evr_nil _ _ _, fun k hk e => by have := (C.lt H4.out.1.1).2 k hk; have := hF k e; omega,
      fun k hk => ⟨fun e => by have := (H4.out.2.1.lt hk).2; have := hF k e; omega, fun e => by cases e⟩, fun k hk => by cases hk⟩)
  clear hR hF hB HC H4
  go_wp2_with fail
  go_loopw [10, 11, 12] (fun mv rv iv wr => ∃ (i p : Nat) (F2 : Nat → Prop) (V2 : Value), i ≤ N + 1 ∧ iv = .int .i64 (i : Int) ∧ p ≤ K ∧ (i = N + 1 → p = K) ∧ rv = S (s.drop p) ∧ mv = V2 ∧ Hid (PInv RA w g1 F4 (endF (atS m s)) V1 (toldF [] (atS m s)) g2 F2 (endF (atS m (s.take p))) V2 (toldF [] (atS m (s.take p))) wr)) (fun _ _ iv _ => N + 1 - (intOf iv).toNat)
  case atStart => exact ⟨0, 0, F5, _, Nat.zero_le _, rfl, Nat.zero_le _, fun h => by omega, by rw [List.drop_zero], rfl, H5⟩
  case round =>
    obtain ⟨i, p, F2, V2, hi, rfl, hp, hend, rfl, rfl, HI⟩ := hrel
    by_cases hil : i ≤ N
    · have j3 : decide ((i : Int) ≤ (N : Int)) = true := decide_eq_true (by omega)
      have j3' : decide (i ≤ N) = true := decide_eq_true hil
      obtain ⟨R, hR⟩ : ∃ R, R = s.drop p := ⟨_, rfl⟩
      have hRl : R.length = K - p := by rw [hR, List.length_drop, ← HK.out]
      rw [← hR]
      have hlR := run_len_S (P := Try.prog) Try.underlying9 3 R
      obtain ⟨M, hM⟩ : ∃ M, M = R.length := ⟨_, rfl⟩
      rw [← hM] at hlR
      obtain ⟨st, hst⟩ : ∃ st, st = endF (atS m (s.take p)) := ⟨_, rfl⟩
      obtain ⟨l2, hl2⟩ : ∃ l, l = toldF [] (atS m (s.take p)) := ⟨_, rfl⟩
      have htp : (s.take p).length = p := by rw [List.length_take, ← HK.out]; omega
      have hsb : st.buf.length ≤ 10000 := by
        have := end_buf (atS m (s.take p))
        rw [← hst] at this
        have e : (atS m (s.take p)).buf = s.take p := rfl
        rw [e, htp] at this
        have := HN.out; omega
      have hll : l2.length ≤ 20001 ∧ textN l2 ≤ 10000 := by
        have h1 := toldF_len (atS m (s.take p))
        have h2 := (fold_size (allF (atS m (s.take p))) []).2
        have h3 := all_text (atS m (s.take p))
        have e : (atS m (s.take p)).buf = s.take p := rfl
        rw [e, htp] at h1 h3
        have h4 : textN l2 = textN (allF (atS m (s.take p))) := by rw [hl2]; unfold toldF; rw [h2]; simp [textN]
        have := HN.out
        rw [← hl2] at h1
        exact ⟨by omega, by omega⟩
      have HP : Hid (∀ k, k ≤ M → (∀ W, (Instr.slice 9 (S R) none (some (.int .i64 (k : Int))) none).run Try.prog W = .ok (S (R.take k)) W) ∧ (∀ W, (Instr.slice 9 (S R) (some (.int .i64 (k : Int))) none none).run Try.prog W = .ok (S (R.drop k)) W) ∧
          st.buf.length + (R.take k).length ≤ 100000 ∧ (l2.length + (allF (st.feed (R.take k))).length ≤ 1000000 ∧ textN l2 + textN (allF (st.feed (R.take k))) ≤ 1000000) ∧
          p + k ≤ K ∧ (k = M → p + k = K) ∧ S (R.drop k) = S (s.drop (p + k)) ∧ toldF l2 (st.feed (R.take k)) = toldF [] (atS m (s.take (p + k))) ∧ endF (st.feed (R.take k)) = endF (atS m (s.take (p + k)))) := Lib.hid fun k hk => by
        have hkl : (R.take k).length = k := by rw [List.length_take]; omega
        have hfb := feed_buf st (R.take k)
        rw [hkl] at hfb
        have h1 := all_len (st.feed (R.take k))
        have h2 := all_text (st.feed (R.take k))
        have hc := tell_cut m s p k
        rw [← hst, ← hl2, ← hR] at hc
        have := HN.out
        exact ⟨fun W => slice_take (P := Try.prog) Try.underlying9 R k (by omega) W, fun W => slice_drop (P := Try.prog) Try.underlying9 R k (by omega) W, by rw [hkl]; omega, ⟨by omega, by omega⟩, by omega, fun e => by omega, by rw [hR, List.drop_drop], hc.1, hc.2⟩
      rw [← hst, ← hl2] at HI
      have HI2 := Lib.hid HI.out
      have hMb : M ≤ 10000 := by have := HN.out; omega
      have hib : i < 1000 := by have := HN.out; omega
      have hwi : IntKind.i64.wrap ((i : Int) + 1) = (i : Int) + 1 := by rw [IntKind.wrap_i64]; omega
      clear hR hRl hM hst hl2 htp hsb hll hend HI
      by_cases hiN : i < N
      · have j4 : decide ((i : Int) < (N : Int)) = true := decide_eq_true (by omega)
        have j4' : decide (i < N) = true := decide_eq_true hiN
        have hix := HV.out.1.index i hiN
        have hcc : wr.cell? (ad i) = some (.int .u8 (z i : Int)) := (HV.out.1.below HI2.out.r1.2.1).cell i hiN
        have hzi := HV.out.2 i hiN
        obtain ⟨x, hx⟩ : ∃ x, x = z i := ⟨_, rfl⟩
        rw [← hx] at hcc hzi
        have hcv : ∀ W, (convert 5 3 (.int .u8 (x : Int))).run Try.prog W = .ok (.int .i64 (x : Int)) W := conv_u8b x hzi
        obtain ⟨k, hk⟩ : ∃ k, k = x % (M + 1) := ⟨_, rfl⟩
        have hkM : k ≤ M := by have := Nat.mod_lt x (show 0 < M + 1 by omega); omega
        have hP0 : (M : Int) + 1 ≠ 0 := by omega
        have hP1 : ((M : Int) + 1 == 0) = false := by rw [beq_eq_false_iff_ne]; omega
        have hmod : (x : Int).tmod ((M : Int) + 1) = (k : Int) := by rw [Int.tmod_eq_emod_of_nonneg (by omega), hk, show ((M : Int) + 1) = ((M + 1 : Nat) : Int) from rfl]; rfl
        have hwk : IntKind.i64.wrap (k : Int) = (k : Int) := by rw [IntKind.wrap_i64]; omega
        have hw1 : IntKind.i64.wrap ((M : Int) + 1) = (M : Int) + 1 := by rw [IntKind.wrap_i64]; omega
        have HX := Lib.hid (HP.out k hkM)
        have hsT := HX.out.1
        have hsD := HX.out.2.1
        have HY : Hid (i + 1 ≤ N + 1 ∧ ¬ i + 1 = N + 1) := Lib.hid ⟨by omega, by omega⟩
        clear hk hx hzi HP
        generalize ad i = adi at *
        have HC := Lib.hid (C.feed (R.take k) HI2.out.r2.1 HI2.out.r2.2.1 HX.out.2.2.1)
        go_wp2_with fail
        refine HC.out.mono ?_
        rintro e W6 ⟨rfl, F6, hR, hm⟩
        have H6 := Lib.hid (HI2.out.feed C hR hm)
        clear hR hm HC HI2
        have HC := Lib.hid (H6.out.told C HX.out.2.2.2.1)
        rw [HX.out.2.2.2.2.2.2.2.1, HX.out.2.2.2.2.2.2.2.2] at HC
        go_wp2_with fail
        refine HC.out.mono ?_
        rintro e W7 ⟨V7, F7, rfl, hI⟩
        have H7 := Lib.hid hI
        clear hI HC H6
        go_wp2
        exact ⟨⟨i + 1, p + k, F7, V7, HY.out.1, by go_num, HX.out.2.2.2.2.1, fun e => absurd e HY.out.2, HX.out.2.2.2.2.2.2.1, rfl, Lib.hid H7.out⟩, by simp [intOf]; omega⟩
      · have hiN' : i = N := by omega
        have j4 : decide ((i : Int) < (N : Int)) = false := decide_eq_false (by omega)
        have j4' : decide (i < N) = false := decide_eq_false hiN
        obtain ⟨k, hk⟩ : ∃ k, k = M := ⟨_, rfl⟩
        have HX := Lib.hid (HP.out k (by omega))
        have hsT := HX.out.1
        have hsD := HX.out.2.1
        have HY : Hid (i + 1 ≤ N + 1 ∧ (i + 1 = N + 1 → k = M)) := Lib.hid ⟨by omega, fun _ => hk⟩
        rw [← hk] at hlR
        clear hk HP
        have HC := Lib.hid (C.feed (R.take k) HI2.out.r2.1 HI2.out.r2.2.1 HX.out.2.2.1)
        go_wp2_with fail
        refine HC.out.mono ?_
        rintro e W6 ⟨rfl, F6, hR, hm⟩
        have H6 := Lib.hid (HI2.out.feed C hR hm)
        clear hR hm HC HI2
        have HC := Lib.hid (H6.out.told C HX.out.2.2.2.1)
        rw [HX.out.2.2.2.2.2.2.2.1, HX.out.2.2.2.2.2.2.2.2] at HC
        go_wp2_with fail
        refine HC.out.mono ?_
        rintro e W7 ⟨V7, F7, rfl, hI⟩
        have H7 := Lib.hid hI
        clear hI HC H6
        go_wp2
        exact ⟨⟨i + 1, p + k, F7, V7, HY.out.1, by go_num, HX.out.2.2.2.2.1, fun e => HX.out.2.2.2.2.2.1 (HY.out.2 e), HX.out.2.2.2.2.2.2.1, rfl, Lib.hid H7.out⟩, by simp [intOf]; omega⟩
    · have hiN' : i = N + 1 := by omega
      have j3 : decide ((i : Int) ≤ (N : Int)) = false := decide_eq_false (by omega)
      have j3' : decide (i ≤ N) = false := decide_eq_false hil
      obtain rfl : p = K := hend hiN'
      have htk : s.take p = s := by rw [HK.out, List.take_length]
      rw [htk] at HI
      clear hend hiN' htk
      have hb0 : ∀ (x : Bool) W, (binOp .neq 4 (.bool x) (.bool x)).run Try.prog W = .ok (.bool false) W := fun x W => by cases x <;> rfl
      obtain ⟨L, hL⟩ : ∃ L, L = toldF [] (atS m s) := ⟨_, rfl⟩
      obtain ⟨st, hst⟩ : ∃ x, x = endF (atS m s) := ⟨_, rfl⟩
      have hok := told_okP0 m s
      have hln := toldF_len (atS m s)
      have e0 : (atS m s).buf = s := rfl
      rw [e0] at hln
      rw [← hL] at HI hok hln
      rw [← hst] at HI
      obtain ⟨n, hn⟩ : ∃ n, n = L.length := ⟨_, rfl⟩
      have hnb : n ≤ 20001 := by have := HN.out; have := HK.out; omega
      have hl1 := fun W => HI.out.v1.len Try.underlying25 3 W
      have hl2 := fun W => HI.out.v2.len Try.underlying25 3 W
      rw [← hn] at hl1 hl2
      obtain ⟨Bd, hBd⟩ : ∃ x, x = st.bad := ⟨_, rfl⟩
      obtain ⟨Id, hId⟩ : ∃ x, x = st.idle := ⟨_, rfl⟩
      have HBI := Lib.hid (And.intro hBd hId)
      have g0 : ((n : Int) != (n : Int)) = false := by simp
      have z1 : (Bd != Bd) = false := by simp
      have z2 : (Id != Id) = false := by simp
      have HL := Lib.hid (And.intro hok hn)
      have HI3 := Lib.hid HI.out
      clear hL hst hok hln e0 hn hBd hId HI
      have HC := Lib.hid (C.bad HI3.out.r1.1 HI3.out.r1.2.1)
      rw [← HBI.out.1] at HC
      go_wp2_with fail
      refine HC.out.mono ?_
      rintro e W6 ⟨rfl, hB⟩
      have H6 := Lib.hid (HI3.out.below C hB)
      clear hB HC HI3
      have HC := Lib.hid (C.bad H6.out.r2.1 H6.out.r2.2.1)
      rw [← HBI.out.1] at HC
      go_wp2_with fail
      refine HC.out.mono ?_
      rintro e W7 ⟨rfl, hB⟩
      have H7 := Lib.hid (H6.out.below C hB)
      clear hB HC H6
      have HC := Lib.hid (C.idle H7.out.r1.1 H7.out.r1.2.1)
      rw [← HBI.out.2] at HC
      go_wp2_with fail
      refine HC.out.mono ?_
      rintro e W8 ⟨rfl, hB⟩
      have H8 := Lib.hid (H7.out.below C hB)
      clear hB HC H7
      have HC := Lib.hid (C.idle H8.out.r2.1 H8.out.r2.2.1)
      rw [← HBI.out.2] at HC
      go_wp2_with fail
      refine HC.out.mono ?_
      rintro e W9 ⟨rfl, hB⟩
      have H9 := Lib.hid (H8.out.below C hB)
      clear hB HC H8
      obtain ⟨a1, c1, hv1, hr1⟩ := H9.out.v1.form
      obtain ⟨a2, c2, hv2, hr2⟩ := H9.out.v2.form
      rw [← HL.out.2] at hv1 hv2
      subst hv1
      subst hv2
      have HR := Lib.hid (And.intro hr1 hr2)
      clear hr1 hr2
      go_wp2
      clear g0 z1 z2
      go_loopw [14, 15] (fun lv iv wr2 => ∃ j : Nat, j ≤ n ∧ lv = .int .i64 (longF L j : Int) ∧ iv = .int .i64 (j : Int) ∧ Hid (Below W9.heap.size W9 wr2)) (fun _ iv _ => n - (intOf iv).toNat)
      case atStart => exact ⟨0, Nat.zero_le _, rfl, rfl, Lib.hid (Below.refl _ _)⟩
      case round =>
        obtain ⟨j, hj, rfl, rfl, HB⟩ := hrel
        by_cases hlt : j < n
        · have k1' : decide ((j : Int) < (n : Int)) = true := decide_eq_true (by omega)
          have hjl : j < L.length := by have := HL.out.2; omega
          obtain ⟨e, he⟩ : ∃ e, L[j]? = some e := ⟨L[j]'hjl, List.getElem?_eq_getElem _⟩
          have hne : L ≠ [] := fun e => by rw [e] at hjl; exact absurd hjl (Nat.not_lt_zero _)
          obtain ⟨k1, rfl, -, hk1, y⟩ := HR.out.1 hne
          obtain ⟨k2, rfl, -, hk2, z⟩ := HR.out.2 hne
          have hia := fun W => indexEv Try.underlying25 (fun w => Try.sizeOf29 w) k1 n c1 j hlt W
          have hib := fun W => indexEv Try.underlying25 (fun w => Try.sizeOf29 w) k2 n c2 j hlt W
          have eF := eqin_evF e
          have gF : ∀ x y w', (eqGuard .neq 29 x y (.agg (evC e)) (.agg (evC e))).run Try.prog w' = .ok () w' := fun x y w' => run_eqGuard_agg w' .neq 29 x y _ _ (by kernel_rfl)
          have hnl : longF L (j + 1) = e.len := by show (match L[j]? with | some d => d.len | none => 0) = _; rw [he]
          have hpc : e.kind = 2 → e.text ≠ [] ∧ e.text.length ≤ longF L j := fun h2 => by
            obtain ⟨h3, j', d, rfl, h4, h5⟩ := HL.out.1 j e he h2
            exact ⟨h3, by show _ ≤ (match L[j']? with | some d => d.len | none => 0); rw [h4]; exact h5⟩
          obtain ⟨kd, op, fin, ln, tx⟩ := e
          unfold evC at eF gF
          dsimp only at eF gF hnl hpc
          have ya0 : wr.cell? ⟨k1, j * 5 + 0, none⟩ = some (.int .i64 (kd : Int)) := (HB.out.cell (p := ⟨k1, j * 5 + 0, none⟩) hk1).trans (y j _ 0 _ he rfl).1
          have ya1 : wr.cell? ⟨k1, j * 5 + 1, none⟩ = some (.int .i64 (op : Int)) := (HB.out.cell (p := ⟨k1, j * 5 + 1, none⟩) hk1).trans (y j _ 1 _ he rfl).1
          have ya2 : wr.cell? ⟨k1, j * 5 + 2, none⟩ = some (.bool fin) := (HB.out.cell (p := ⟨k1, j * 5 + 2, none⟩) hk1).trans (y j _ 2 _ he rfl).1
          have ya3 : wr.cell? ⟨k1, j * 5 + 3, none⟩ = some (.int .i64 (ln : Int)) := (HB.out.cell (p := ⟨k1, j * 5 + 3, none⟩) hk1).trans (y j _ 3 _ he rfl).1
          have ya4 : wr.cell? ⟨k1, j * 5 + 4, none⟩ = some (S tx) := (HB.out.cell (p := ⟨k1, j * 5 + 4, none⟩) hk1).trans (y j _ 4 _ he rfl).1
          have za0 : wr.cell? ⟨k2, j * 5 + 0, none⟩ = some (.int .i64 (kd : Int)) := (HB.out.cell (p := ⟨k2, j * 5 + 0, none⟩) hk2).trans (z j _ 0 _ he rfl).1
          have za1 : wr.cell? ⟨k2, j * 5 + 1, none⟩ = some (.int .i64 (op : Int)) := (HB.out.cell (p := ⟨k2, j * 5 + 1, none⟩) hk2).trans (z j _ 1 _ he rfl).1
          have za2 : wr.cell? ⟨k2, j * 5 + 2, none⟩ = some (.bool fin) := (HB.out.cell (p := ⟨k2, j * 5 + 2, none⟩) hk2).trans (z j _ 2 _ he rfl).1
          have za3 : wr.cell? ⟨k2, j * 5 + 3, none⟩ = some (.int .i64 (ln : Int)) := (HB.out.cell (p := ⟨k2, j * 5 + 3, none⟩) hk2).trans (z j _ 3 _ he rfl).1
          have za4 : wr.cell? ⟨k2, j * 5 + 4, none⟩ = some (S tx) := (HB.out.cell (p := ⟨k2, j * 5 + 4, none⟩) hk2).trans (z j _ 4 _ he rfl).1
          rw [Nat.add_zero] at ya0 za0
          obtain ⟨KB, hKB⟩ : ∃ x, x = j * 5 := ⟨_, rfl⟩
          rw [← hKB] at hia hib ya0 ya1 ya2 ya3 ya4 za0 za1 za2 za3 za4
          obtain ⟨LL, hLL⟩ : ∃ x, x = longF L j := ⟨_, rfl⟩
          rw [← hLL] at hpc ⊢
          have HNL := Lib.hid hnl
          have hw1 : IntKind.i64.wrap ((j : Int) + 1) = (j : Int) + 1 := by rw [IntKind.wrap_i64]; omega
          have w3 : ∀ q, (wr.drewN q).cell? ⟨k1, KB + 3, none⟩ = some (.int .i64 (ln : Int)) := fun q => ya3
          by_cases hk : kd = 2
          · have q1 : ((kd : Int) == 2) = true := by rw [beq_iff_eq]; omega
            obtain ⟨htx, htl⟩ := hpc hk
            have qe : binOp .eql 9 (S tx) (.string ⟨#[]⟩) = pure (.bool false) := by
              have h := eql_S 9 tx []
              rw [show (tx == []) = false by simpa using htx] at h
              exact h
            have ge : ∀ x y, eqGuard .eql 9 x y (S tx) (.string ⟨#[]⟩) = pure () := fun x y => rfl
            have hlT := run_len_S (P := Try.prog) Try.underlying9 3 tx
            obtain ⟨TL, hTL⟩ : ∃ x, x = tx.length := ⟨_, rfl⟩
            rw [← hTL] at hlT htl
            have g3 : decide ((LL : Int) < (TL : Int)) = false := decide_eq_false (by omega)
            have g4 : decide (LL < TL) = false := decide_eq_false (by omega)
            have g5 : decide ((TL : Int) > (LL : Int)) = false := decide_eq_false (by omega)
            clear hKB hLL y z he hne hjl hk1 hk2 hpc hnl htx htl hTL hk
            go_wp2
            go_quiet (fail)
            go_wp2
            exact ⟨⟨j + 1, by omega, by rw [HNL.out], by go_num, Lib.hid ⟨HB.out.os, HB.out.tape, HB.out.output, HB.out.size, HB.out.block⟩⟩, by simp [intOf]; omega⟩
          · have q1 : ((kd : Int) == 2) = false := by rw [beq_eq_false_iff_ne]; omega
            clear hKB hLL y z he hne hjl hk1 hk2 hpc hnl hk
            go_wp2
            go_quiet (fail)
            go_wp2
            exact ⟨⟨j + 1, by omega, by rw [HNL.out], by go_num, Lib.hid ⟨HB.out.os, HB.out.tape, HB.out.output, HB.out.size, HB.out.block⟩⟩, by simp [intOf]; omega⟩
        · obtain rfl : j = n := by omega
          have k1' : decide ((j : Int) < (j : Int)) = false := decide_eq_false (by omega)
          go_wp2
          go_ret
          exact ⟨rfl, H9.out.r1.2.1.trans (HB.out.mono H9.out.r1.2.1.size)⟩
end Go.Proofs.Ytlmolmmhkddpaaa
