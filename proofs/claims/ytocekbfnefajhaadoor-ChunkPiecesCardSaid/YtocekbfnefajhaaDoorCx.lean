/- ChunkPieces walked, over any package that does what is asked of it. (mkcx.py writes it.) -/
import Derived.Test.YtocekbfnefajhaaDoorCp
namespace Go.Proofs.YtocekbfnefajhaaDoor
open Go.RowKit
attribute [local go_sem] store_one S_match S_store

/-- Two readers side by side. -/
structure Two (RA : World → (Nat → Prop) → Nat → Cst → Prop) (w : World) (g1 g2 : Nat) (s1 s2 : Cst) (W : World) : Prop where
  ex : ∃ F1 F2, RA W F1 g1 s1 ∧ RA W F2 g2 s2 ∧ (∀ k, F1 k → ¬ F2 k) ∧ (∀ k, F1 k → w.heap.size ≤ k) ∧ (∀ k, F2 k → w.heap.size ≤ k)
  bel : Below w.heap.size w W
section
variable {RA : World → (Nat → Prop) → Nat → Cst → Prop} {w W W' : World} {g1 g2 : Nat} {s1 s2 s3 : Cst}
theorem Two.below (C : ChunkI RA) (h : Two RA w g1 g2 s1 s2 W) (hb : Below W.heap.size W W') : Two RA w g1 g2 s1 s2 W' := by
  obtain ⟨⟨F1, F2, h1, h2, h3, h4, h5⟩, hB⟩ := h
  exact ⟨⟨F1, F2, C.below h1 hb, C.below h2 hb, h3, h4, h5⟩, hB.trans (hb.mono hB.size)⟩
theorem Two.feed (C : ChunkI RA) (h : Two RA w g1 g2 s1 s2 W) (x : List UInt8) (hx : x.length ≤ 100000) :
    Calls Tryd.prog 12 #[.pointer (some ⟨g2, 0, none⟩), S x] W fun e W' => e = .returned (.int .i64 ((s2.run x).1 : Int)) ∧ Two RA w g1 g2 s1 (s2.run x).2 W' := by
  obtain ⟨⟨F1, F2, h1, h2, h3, h4, h5⟩, hB⟩ := h
  refine (C.feed x h2 hx).mono ?_
  rintro e W' ⟨he, F2', h2', hm⟩
  obtain ⟨a1, a2⟩ := C.aside h1 hm h3
  exact ⟨he, ⟨F1, F2', a1, h2', a2, h4, hm.from h5 hB.size⟩, ⟨hm.os.trans hB.os, hm.tape.trans hB.tape, hm.output.trans hB.output, Nat.le_trans hB.size hm.size, fun k hk => (hm.rest k (Nat.lt_of_lt_of_le hk hB.size) (fun hf => by have := h5 k hf; omega)).trans (hB.block k hk)⟩⟩
theorem Two.one {fn : Nat} {v : Cst → Value} (C : ChunkI RA) (hf : ∀ {W : World} {F : Nat → Prop} {g : Nat} {st : Cst}, RA W F g st → Calls Tryd.prog fn #[.pointer (some ⟨g, 0, none⟩)] W fun e W' => e = .returned (v st) ∧ Below W.heap.size W W') (h : Two RA w g1 g2 s1 s2 W) :
    (Calls Tryd.prog fn #[.pointer (some ⟨g1, 0, none⟩)] W fun e W' => e = .returned (v s1) ∧ Two RA w g1 g2 s1 s2 W') ∧ (Calls Tryd.prog fn #[.pointer (some ⟨g2, 0, none⟩)] W fun e W' => e = .returned (v s2) ∧ Two RA w g1 g2 s1 s2 W') := by
  obtain ⟨F1, F2, h1, h2, h3, h4, h5⟩ := h.ex
  exact ⟨(hf h1).mono (by rintro e W' ⟨he, hb⟩; exact ⟨he, h.below C hb⟩), (hf h2).mono (by rintro e W' ⟨he, hb⟩; exact ⟨he, h.below C hb⟩)⟩
end
theorem conv_u8 (n : Nat) (h : n ≤ 255) (w : World) : (convert 5 3 (.int .u8 (n : Int))).run Tryd.prog w = .ok (.int .i64 (n : Int)) w := by
  have e : IntKind.i64.wrap (n : Int) = (n : Int) := by rw [IntKind.wrap_i64]; omega
  simp [convert, run_underlying Tryd.underlying5, run_underlying Tryd.underlying3, e, go_sem]
set_option maxRecDepth 100000 in
set_option maxHeartbeats 4000000 in
theorem cpieces_any {RA : World → (Nat → Prop) → Nat → Cst → Prop} (C : ChunkI RA) (s : List UInt8) (V : Value) (N : Nat) (ad : Nat → Addr) (z : Nat → Nat) (_hs : s.length ≤ maxLen) (w : World)
    (hV : Came Tryd.prog w 35 V N ad (fun i => .int .u8 (z i : Int))) (hz : ∀ i, i < N → z i ≤ 255) :
    Calls Tryd.prog 7 #[S s, V] w fun e w' => e = .returned (.bool true) ∧ Below w.heap.size w w' := by
  have hlen := run_len_S (P := Tryd.prog) Tryd.underlying9 3 s
  have hlV := hV.len 3
  have HC := Lib.hid C
  clear C
  by_cases h : 10000 < s.length
  · have j1 : decide ((10000 : Int) < (s.length : Int)) = true := decide_eq_true (by omega)
    go_enter Tryd.func7, Tryd.ntmps7
    go_wp2_with fail
    refine (awake_chunk HC.out _).mono ?_
    rintro e W1 ⟨rfl, hB⟩
    have HB := Lib.hid hB
    clear hB
    go_wp2
    go_ret
    exact ⟨rfl, HB.out⟩
  have j1 : decide ((10000 : Int) < (s.length : Int)) = false := decide_eq_false (by omega)
  by_cases h3 : 300 < N
  · have j2 : decide ((300 : Int) < (N : Int)) = true := decide_eq_true (by omega)
    go_enter Tryd.func7, Tryd.ntmps7
    go_wp2_with fail
    refine (awake_chunk HC.out _).mono ?_
    rintro e W1 ⟨rfl, hB⟩
    have HB := Lib.hid hB
    clear hB
    go_wp2
    go_ret
    exact ⟨rfl, HB.out⟩
  have j2 : decide ((300 : Int) < (N : Int)) = false := decide_eq_false (by omega)
  have hN : N ≤ 300 := by omega
  have hL : s.length ≤ 10000 := by omega
  have HV := Lib.hid (And.intro hV hz)
  obtain ⟨n, hn⟩ : ∃ n, n = (Cst.new.run s).1 := ⟨_, rfl⟩
  obtain ⟨s1, hs1⟩ : ∃ st, st = (Cst.new.run s).2 := ⟨_, rfl⟩
  have hnl : n ≤ s.length := by rw [hn]; exact run_le s _
  have HS : Hid (n = (Cst.new.run s).1 ∧ s1 = (Cst.new.run s).2) := Lib.hid ⟨hn, hs1⟩
  have HF : Hid (∀ {w : World} {F : Nat → Prop} {g : Nat}, RA w F g Cst.new → Calls Tryd.prog 12 #[.pointer (some ⟨g, 0, none⟩), S s] w fun e w' => e = .returned (.int .i64 (n : Int)) ∧ ∃ F', RA w' F' g s1 ∧ Moves F F' w w') := Lib.hid fun h => by
    rw [hn, hs1]; exact HC.out.feed s h (by omega)
  have HE : Hid ((n < s.length → s1.isDone = true ∨ s1.badN ≠ 0) ∧ (s1.isDone = true → s1.badN = 0)) := Lib.hid ⟨fun h => by
    rw [hn] at h
    rw [hs1]
    exact (stop_iff (run_fine s _ new_fine)).1 (run_lt s _ h), done_bad s1⟩
  have b0 : ∀ (x : Bool) w, (binOp .eql 4 (.bool x) (.bool x)).run Tryd.prog w = .ok (.bool true) w := fun x w => by cases x <;> rfl
  have e0 : ∀ x, binOp .eql 9 (S x) (S x) = pure (.bool true) := fun x => by rw [eql_S]; simp
  have g0 := guard_S 9
  have n1 : ((n : Int) == (n : Int)) = true := by simp
  have n2 : ((s1.badN : Int) == (s1.badN : Int)) = true := by simp
  have n3 : decide ((n : Int) ≤ (s.length : Int)) = true := decide_eq_true (by omega)
  clear hV hz h h3 hn hs1 _hs
  go_enter Tryd.func7, Tryd.ntmps7
  go_wp2_with fail
  refine (awake_chunk HC.out _).mono ?_
  rintro e W1 ⟨rfl, hB⟩
  have H1 := Lib.hid hB
  clear hB
  go_wp2_with fail
  refine (HC.out.new _).mono ?_
  rintro e W2 ⟨g1, F1, rfl, hR, hF, hB⟩
  have H2 : Hid (RA W2 F1 g1 Cst.new ∧ (∀ k, F1 k → w.heap.size ≤ k) ∧ Below w.heap.size w W2) := Lib.hid ⟨hR, fun k hk => by have := hF k hk; have := H1.out.size; omega, H1.out.trans (hB.mono H1.out.size)⟩
  clear hR hF hB H1
  go_wp2_with fail
  refine (HF.out H2.out.1).mono ?_
  rintro e W3 ⟨rfl, F3, hR, hM⟩
  have H3 : Hid (RA W3 F3 g1 s1 ∧ (∀ k, F3 k → w.heap.size ≤ k) ∧ Below w.heap.size w W3) := Lib.hid ⟨hR, hM.from H2.out.2.1 H2.out.2.2.size, H2.out.2.2.trans (hM.below H2.out.2.1 H2.out.2.2.size)⟩
  clear hR hM H2 HF
  go_wp2_with fail
  refine (HC.out.new _).mono ?_
  rintro e W4 ⟨g2, F2, rfl, hR, hF, hB⟩
  have H4 : Hid (Two RA w g1 g2 s1 Cst.new W4) := Lib.hid ⟨⟨F3, F2, HC.out.below H3.out.1 hB, hR, fun k h1 h2 => by have := hF k h2; have := (HC.out.lt H3.out.1).2 k h1; omega, H3.out.2.1, fun k hk => by have := hF k hk; have := H3.out.2.2.size; omega⟩, H3.out.2.2.trans (hB.mono H3.out.2.2.size)⟩
  clear hR hF hB H3
  go_wp2
  go_loopw [8, 9, 10] (fun uv rv iv wr => ∃ (i p : Nat), i ≤ N + 1 ∧ iv = .int .i64 (i : Int) ∧ p ≤ s.length ∧ (i = N + 1 → p = s.length) ∧ uv = .int .i64 ((Cst.new.run (s.take p)).1 : Int) ∧ rv = S (s.drop p) ∧ Two RA w g1 g2 s1 (Cst.new.run (s.take p)).2 wr) (fun _ _ iv _ => N + 1 - (intOf iv).toNat)
  case atStart => exact ⟨0, 0, Nat.zero_le _, rfl, Nat.zero_le _, fun h => by omega, rfl, by rw [List.drop_zero], H4.out⟩
  case round =>
    obtain ⟨i, p, hi, rfl, hp, hend, rfl, rfl, hTw⟩ := hrel
    by_cases hil : i ≤ N
    · have j3 : decide ((i : Int) ≤ (N : Int)) = true := decide_eq_true (by omega)
      obtain ⟨R, hR⟩ : ∃ R, R = s.drop p := ⟨_, rfl⟩
      obtain ⟨st, hst⟩ : ∃ st, st = (Cst.new.run (s.take p)).2 := ⟨_, rfl⟩
      obtain ⟨U, hU⟩ : ∃ U, U = (Cst.new.run (s.take p)).1 := ⟨_, rfl⟩
      have hRl : R.length = s.length - p := by rw [hR, List.length_drop]
      have hUl : U ≤ 10000 := by
        have := run_le (s.take p) Cst.new
        rw [List.length_take] at this
        omega
      have hst2 : st.fine := by rw [hst]; exact run_fine _ _ new_fine
      rw [← hst] at hTw
      rw [← hR, ← hU]
      have hlR := run_len_S (P := Tryd.prog) Tryd.underlying9 3 R
      obtain ⟨M, hM⟩ : ∃ M, M = R.length := ⟨_, rfl⟩
      rw [← hM] at hlR
      -- behind the piece of k bytes
      have HK : Hid (∀ k, k ≤ M → ∃ m st', m ≤ k ∧ (∀ W, Two RA w g1 g2 s1 st W → Calls Tryd.prog 12 #[.pointer (some ⟨g2, 0, none⟩), S (R.take k)] W fun e W' => e = .returned (.int .i64 (m : Int)) ∧ Two RA w g1 g2 s1 st' W') ∧
          (m < k → st'.isDone = true ∨ st'.badN ≠ 0) ∧ p + k ≤ s.length ∧ (Cst.new.run (s.take (p + k))).1 = U + m ∧ (Cst.new.run (s.take (p + k))).2 = st' ∧ s.drop (p + k) = R.drop k ∧ (k = M → p + k = s.length) ∧
          (∀ w, (Instr.slice 9 (S R) none (some (.int .i64 (k : Int))) none).run Tryd.prog w = .ok (S (R.take k)) w) ∧ ∀ w, (Instr.slice 9 (S R) (some (.int .i64 (k : Int))) none none).run Tryd.prog w = .ok (S (R.drop k)) w) := Lib.hid fun k hk => by
        have hle := run_le (R.take k) st
        rw [List.length_take] at hle
        have ha := run_append (s.take p) Cst.new (R.take k)
        rw [← hst, ← hU] at ha
        have et : s.take (p + k) = s.take p ++ R.take k := by rw [hR, List.take_add]
        rw [← et] at ha
        refine ⟨(st.run (R.take k)).1, (st.run (R.take k)).2, by omega, fun W h => h.feed HC.out (R.take k) (by rw [List.length_take]; omega), fun h => (stop_iff (run_fine _ _ hst2)).1 (run_lt _ _ (by rw [List.length_take]; omega)), by omega, by rw [ha], by rw [ha], by rw [hR, List.drop_drop], fun h => by omega,
          fun w => slice_take (P := Tryd.prog) Tryd.underlying9 R k (by omega) w, fun w => slice_drop (P := Tryd.prog) Tryd.underlying9 R k (by omega) w⟩
      have HT := Lib.hid hTw
      have hib : i < 1000 := by omega
      have hMb : M ≤ 10000 := by omega
      clear hR hst hU hRl hst2 hTw hM hend
      by_cases hiN : i < N
      · have j4 : decide ((i : Int) < (N : Int)) = true := decide_eq_true (by omega)
        have hix := HV.out.1.index i hiN
        have hcc : wr.cell? (ad i) = some (.int .u8 (z i : Int)) := (HV.out.1.below HT.out.bel).cell i hiN
        have hzi := HV.out.2 i hiN
        obtain ⟨x, hx⟩ : ∃ x, x = z i := ⟨_, rfl⟩
        rw [← hx] at hcc hzi
        have hcv := conv_u8 x hzi
        obtain ⟨k, hk⟩ : ∃ k, k = x % (M + 1) := ⟨_, rfl⟩
        have hkM : k ≤ M := by have := Nat.mod_lt x (show 0 < M + 1 by omega); omega
        have hP0 : (M : Int) + 1 ≠ 0 := by omega
        have hP1 : ((M : Int) + 1 == 0) = false := by rw [beq_eq_false_iff_ne]; omega
        have hmod : (x : Int).tmod ((M : Int) + 1) = (k : Int) := by rw [Int.tmod_eq_emod_of_nonneg (by omega), hk, show ((M : Int) + 1) = ((M + 1 : Nat) : Int) from rfl]; rfl
        have hwk : IntKind.i64.wrap (k : Int) = (k : Int) := by rw [IntKind.wrap_i64]; omega
        have hw1 : IntKind.i64.wrap ((M : Int) + 1) = (M : Int) + 1 := by rw [IntKind.wrap_i64]; omega
        obtain ⟨m, st', hm, hfeed, hstop, hpk, hU2, hst2, hdr, _, hs1', hs2'⟩ := HK.out k hkM
        have HX : Hid ((∀ W, Two RA w g1 g2 s1 st W → Calls Tryd.prog 12 #[.pointer (some ⟨g2, 0, none⟩), S (R.take k)] W fun e W' => e = .returned (.int .i64 (m : Int)) ∧ Two RA w g1 g2 s1 st' W') ∧ (m < k → st'.isDone = true ∨ st'.badN ≠ 0)) := Lib.hid ⟨hfeed, hstop⟩
        have HY : Hid (i + 1 ≤ N + 1 ∧ p + k ≤ s.length ∧ (i + 1 = N + 1 → p + k = s.length) ∧ (Cst.new.run (s.take (p + k))).1 = U + m ∧ (Cst.new.run (s.take (p + k))).2 = st' ∧ s.drop (p + k) = R.drop k) := Lib.hid ⟨by omega, hpk, fun h => by omega, hU2, hst2, hdr⟩
        clear hfeed hstop hpk hU2 hst2 hdr hk hx HK hzi
        generalize ad i = adi at *
        have hmb : m ≤ 10000 := by omega
        have hkb : k ≤ 10000 := by omega
        have hwU : IntKind.i64.wrap ((U : Int) + (m : Int)) = (U : Int) + (m : Int) := by rw [IntKind.wrap_i64]; omega
        have hwi : IntKind.i64.wrap ((i : Int) + 1) = (i : Int) + 1 := by rw [IntKind.wrap_i64]; omega
        have q1 : decide ((m : Int) < 0) = false := decide_eq_false (by omega)
        have q2 : decide ((k : Int) < (m : Int)) = false := decide_eq_false (by omega)
        generalize R.take k = A at *
        generalize R.drop k = D at *
        go_wp2_with fail
        refine (HX.out.1 _ HT.out).mono ?_
        rintro e W5 ⟨rfl, hT⟩
        have H5 := Lib.hid hT
        clear hT
        by_cases hmk : m < k
        · have q3 : decide ((m : Int) < (k : Int)) = true := decide_eq_true (by omega)
          have hso := HX.out.2 hmk
          go_wp2_with fail
          refine (H5.out.one HC.out HC.out.done).2.mono ?_
          rintro e W6 ⟨rfl, hT⟩
          have H6 := Lib.hid hT
          clear hT
          cases hd : st'.isDone with
          | true =>
            clear hd hso
            go_wp2
            exact ⟨⟨i + 1, p + k, HY.out.1, by go_num, HY.out.2.1, HY.out.2.2.1, by rw [HY.out.2.2.2.1] <;> first | done | go_num, by rw [HY.out.2.2.2.2.2], by rw [HY.out.2.2.2.2.1]; exact H6.out⟩, by first | (simp [intOf]; done) | (simp [intOf]; omega) | (unfold intOf; omega)⟩
          | false =>
            have hb : st'.badN ≠ 0 := by
              rcases hso with h | h
              · rw [hd] at h; cases h
              · exact h
            have q4 : ((st'.badN : Int) == 0) = false := by rw [beq_eq_false_iff_ne]; omega
            clear hd hso hb
            go_wp2_with fail
            refine (H6.out.one HC.out HC.out.bad).2.mono ?_
            rintro e W7 ⟨rfl, hT⟩
            have H7 := Lib.hid hT
            clear hT
            go_wp2
            exact ⟨⟨i + 1, p + k, HY.out.1, by go_num, HY.out.2.1, HY.out.2.2.1, by rw [HY.out.2.2.2.1] <;> first | done | go_num, by rw [HY.out.2.2.2.2.2], by rw [HY.out.2.2.2.2.1]; exact H7.out⟩, by first | (simp [intOf]; done) | (simp [intOf]; omega) | (unfold intOf; omega)⟩
        · have q3 : decide ((m : Int) < (k : Int)) = false := decide_eq_false (by omega)
          go_wp2
          exact ⟨⟨i + 1, p + k, HY.out.1, by go_num, HY.out.2.1, HY.out.2.2.1, by rw [HY.out.2.2.2.1] <;> first | done | go_num, by rw [HY.out.2.2.2.2.2], by rw [HY.out.2.2.2.2.1]; exact H5.out⟩, by first | (simp [intOf]; done) | (simp [intOf]; omega) | (unfold intOf; omega)⟩
      · obtain rfl : i = N := by omega
        have j4 : decide ((i : Int) < (i : Int)) = false := decide_eq_false (by omega)
        obtain ⟨k, hk⟩ : ∃ k, k = M := ⟨_, rfl⟩
        obtain ⟨m, st', hm, hfeed, hstop, hpk, hU2, hst2, hdr, hkend, hs1', hs2'⟩ := HK.out k (by omega)
        have HX : Hid ((∀ W, Two RA w g1 g2 s1 st W → Calls Tryd.prog 12 #[.pointer (some ⟨g2, 0, none⟩), S (R.take k)] W fun e W' => e = .returned (.int .i64 (m : Int)) ∧ Two RA w g1 g2 s1 st' W') ∧ (m < k → st'.isDone = true ∨ st'.badN ≠ 0)) := Lib.hid ⟨hfeed, hstop⟩
        have HY : Hid (i + 1 ≤ i + 1 ∧ p + k ≤ s.length ∧ (i + 1 = i + 1 → p + k = s.length) ∧ (Cst.new.run (s.take (p + k))).1 = U + m ∧ (Cst.new.run (s.take (p + k))).2 = st' ∧ s.drop (p + k) = R.drop k) := Lib.hid ⟨by omega, hpk, fun _ => hkend hk, hU2, hst2, hdr⟩
        subst hk
        have hkM : k ≤ k := Nat.le_refl _
        clear hfeed hstop hpk hU2 hst2 hdr hkend HK
        have hmb : m ≤ 10000 := by omega
        have hkb : k ≤ 10000 := by omega
        have hwU : IntKind.i64.wrap ((U : Int) + (m : Int)) = (U : Int) + (m : Int) := by rw [IntKind.wrap_i64]; omega
        have hwi : IntKind.i64.wrap ((i : Int) + 1) = (i : Int) + 1 := by rw [IntKind.wrap_i64]; omega
        have q1 : decide ((m : Int) < 0) = false := decide_eq_false (by omega)
        have q2 : decide ((k : Int) < (m : Int)) = false := decide_eq_false (by omega)
        generalize R.take k = A at *
        generalize R.drop k = D at *
        go_wp2_with fail
        refine (HX.out.1 _ HT.out).mono ?_
        rintro e W5 ⟨rfl, hT⟩
        have H5 := Lib.hid hT
        clear hT
        by_cases hmk : m < k
        · have q3 : decide ((m : Int) < (k : Int)) = true := decide_eq_true (by omega)
          have hso := HX.out.2 hmk
          go_wp2_with fail
          refine (H5.out.one HC.out HC.out.done).2.mono ?_
          rintro e W6 ⟨rfl, hT⟩
          have H6 := Lib.hid hT
          clear hT
          cases hd : st'.isDone with
          | true =>
            clear hd hso
            go_wp2
            exact ⟨⟨i + 1, p + k, HY.out.1, by go_num, HY.out.2.1, fun _ => HY.out.2.2.1 trivial, by rw [HY.out.2.2.2.1] <;> first | done | go_num, by rw [HY.out.2.2.2.2.2], by rw [HY.out.2.2.2.2.1]; exact H6.out⟩, by first | (simp [intOf]; done) | (simp [intOf]; omega) | (unfold intOf; omega)⟩
          | false =>
            have hb : st'.badN ≠ 0 := by
              rcases hso with h | h
              · rw [hd] at h; cases h
              · exact h
            have q4 : ((st'.badN : Int) == 0) = false := by rw [beq_eq_false_iff_ne]; omega
            clear hd hso hb
            go_wp2_with fail
            refine (H6.out.one HC.out HC.out.bad).2.mono ?_
            rintro e W7 ⟨rfl, hT⟩
            have H7 := Lib.hid hT
            clear hT
            go_wp2
            exact ⟨⟨i + 1, p + k, HY.out.1, by go_num, HY.out.2.1, fun _ => HY.out.2.2.1 trivial, by rw [HY.out.2.2.2.1] <;> first | done | go_num, by rw [HY.out.2.2.2.2.2], by rw [HY.out.2.2.2.2.1]; exact H7.out⟩, by first | (simp [intOf]; done) | (simp [intOf]; omega) | (unfold intOf; omega)⟩
        · have q3 : decide ((m : Int) < (k : Int)) = false := decide_eq_false (by omega)
          go_wp2
          exact ⟨⟨i + 1, p + k, HY.out.1, by go_num, HY.out.2.1, fun _ => HY.out.2.2.1 trivial, by rw [HY.out.2.2.2.1] <;> first | done | go_num, by rw [HY.out.2.2.2.2.2], by rw [HY.out.2.2.2.2.1]; exact H5.out⟩, by first | (simp [intOf]; done) | (simp [intOf]; omega) | (unfold intOf; omega)⟩
    · obtain rfl : i = N + 1 := by omega
      have hps := hend rfl
      have ht2 : (Cst.new.run (s.take p)).2 = s1 := by rw [hps, List.take_length, ← HS.out.2]
      have ht1 : (Cst.new.run (s.take p)).1 = n := by rw [hps, List.take_length, ← HS.out.1]
      rw [ht2] at hTw
      rw [ht1, hps]
      clear ht1 ht2
      have j3 : decide (((N + 1 : Nat) : Int) ≤ (N : Int)) = false := decide_eq_false (by omega)
      have H9 := Lib.hid hTw
      clear hTw hend hps hp hi hil
      generalize ((N + 1 : Nat) : Int) = NN at *
      generalize s.drop s.length = DD at *
      go_wp2_with fail
      refine (H9.out.one HC.out HC.out.data).1.mono ?_
      rintro e W10 ⟨rfl, hT⟩
      have H10 := Lib.hid hT
      clear hT
      go_wp2_with fail
      refine (H10.out.one HC.out HC.out.data).2.mono ?_
      rintro e W11 ⟨rfl, hT⟩
      have H11 := Lib.hid hT
      clear hT
      go_wp2_with fail
      refine (H11.out.one HC.out HC.out.done).1.mono ?_
      rintro e W12 ⟨rfl, hT⟩
      have H12 := Lib.hid hT
      clear hT
      go_wp2_with fail
      refine (H12.out.one HC.out HC.out.done).2.mono ?_
      rintro e W13 ⟨rfl, hT⟩
      have H13 := Lib.hid hT
      clear hT
      go_wp2_with fail
      refine (H13.out.one HC.out HC.out.bad).1.mono ?_
      rintro e W14 ⟨rfl, hT⟩
      have H14 := Lib.hid hT
      clear hT
      go_wp2_with fail
      refine (H14.out.one HC.out HC.out.bad).2.mono ?_
      rintro e W15 ⟨rfl, hT⟩
      have H15 := Lib.hid hT
      clear hT
      cases hd : s1.isDone with
      | true =>
        have hb0 : ((s1.badN : Int) == 0) = true := by rw [beq_iff_eq, HE.out.2 hd]; rfl
        by_cases hns : n = s.length
        · have q5 : ((n : Int) == (s.length : Int)) = true := by rw [beq_iff_eq]; omega
          have hns' : (n == s.length) = true := by rw [beq_iff_eq]; exact hns
          clear hns
          go_wp2_with fail
          refine (H15.out.one HC.out HC.out.done).1.mono ?_
          rintro e W16 ⟨rfl, hT⟩
          have H16 := Lib.hid hT
          clear hT
          rw [hd]
          go_wp2_with fail
          refine (H16.out.one HC.out HC.out.bad).1.mono ?_
          rintro e W17 ⟨rfl, hT⟩
          have H17 := Lib.hid hT
          clear hT
          go_wp2
          go_ret
          exact ⟨rfl, H17.out.bel⟩
        · have q5 : ((n : Int) == (s.length : Int)) = false := by rw [beq_eq_false_iff_ne]; omega
          have hns' : (n == s.length) = false := by rw [beq_eq_false_iff_ne]; exact hns
          clear hns
          go_wp2_with fail
          refine (H15.out.one HC.out HC.out.done).1.mono ?_
          rintro e W16 ⟨rfl, hT⟩
          have H16 := Lib.hid hT
          clear hT
          rw [hd]
          go_wp2_with fail
          refine (H16.out.one HC.out HC.out.done).1.mono ?_
          rintro e W17 ⟨rfl, hT⟩
          have H17 := Lib.hid hT
          clear hT
          rw [hd]
          go_wp2_with fail
          refine (H17.out.one HC.out HC.out.bad).1.mono ?_
          rintro e W18 ⟨rfl, hT⟩
          have H18 := Lib.hid hT
          clear hT
          go_wp2
          go_ret
          exact ⟨rfl, H18.out.bel⟩
      | false =>
        by_cases hns : n = s.length
        · have q5 : ((n : Int) == (s.length : Int)) = true := by rw [beq_iff_eq]; omega
          have hns' : (n == s.length) = true := by rw [beq_iff_eq]; exact hns
          clear hns
          go_wp2_with fail
          refine (H15.out.one HC.out HC.out.done).1.mono ?_
          rintro e W16 ⟨rfl, hT⟩
          have H16 := Lib.hid hT
          clear hT
          rw [hd]
          go_wp2
          go_ret
          exact ⟨rfl, H16.out.bel⟩
        · have q5 : ((n : Int) == (s.length : Int)) = false := by rw [beq_eq_false_iff_ne]; omega
          have hns' : (n == s.length) = false := by rw [beq_eq_false_iff_ne]; exact hns
          have hb : s1.badN ≠ 0 := by
            rcases HE.out.1 (by omega) with h | h
            · rw [hd] at h; cases h
            · exact h
          have q6 : ((s1.badN : Int) != 0) = true := by rw [bne_iff_ne]; omega
          clear hns hb
          go_wp2_with fail
          refine (H15.out.one HC.out HC.out.done).1.mono ?_
          rintro e W16 ⟨rfl, hT⟩
          have H16 := Lib.hid hT
          clear hT
          rw [hd]
          go_wp2_with fail
          refine (H16.out.one HC.out HC.out.bad).1.mono ?_
          rintro e W17 ⟨rfl, hT⟩
          have H17 := Lib.hid hT
          clear hT
          go_wp2_with fail
          refine (H17.out.one HC.out HC.out.done).1.mono ?_
          rintro e W18 ⟨rfl, hT⟩
          have H18 := Lib.hid hT
          clear hT
          rw [hd]
          go_wp2
          go_ret
          exact ⟨rfl, H18.out.bel⟩
end Go.Proofs.YtocekbfnefajhaaDoor
