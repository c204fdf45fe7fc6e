/- ChunkData walked, over any package that does what is asked of it. (mkct.py writes it.) -/
import Derived.Test.YtocekbfnefajhaaDoorCl
namespace Go.Proofs.YtocekbfnefajhaaDoor
open Go.RowKit
attribute [local go_sem] store_one S_match S_store nguard_B eguard_B

theorem greedy_end {w : List UInt8} (h : greedy w [] = []) : w = [] := by
  cases w with
  | nil => rfl
  | cons a w => simp [greedy] at h
theorem greedy_step (a c : UInt8) (w s : List UInt8) : greedy (a :: w) (c :: s) = if c = a then greedy w s else greedy (a :: w) s := by rw [greedy]
set_option maxRecDepth 100000 in
set_option maxHeartbeats 4000000 in
theorem cdata_any {RA : World → (Nat → Prop) → Nat → Cst → Prop} (C : ChunkI RA) (s : List UInt8) (V : Value) (N : Nat) (ad : Nat → Addr) (z : Nat → Nat) (_hs : s.length ≤ maxLen) (w : World)
    (hV : Came Tryd.prog w 35 V N ad (fun i => .int .u8 (z i : Int))) (hz : ∀ i, i < N → z i ≤ 255) :
    Calls Tryd.prog 9 #[S s, V] w fun e w' => e = .returned (.bool true) ∧ Below w.heap.size w w' := by
  have hlen := run_len_S (P := Tryd.prog) Tryd.underlying9 3 s
  have hlV := hV.len 3
  have HC := Lib.hid C
  clear C
  by_cases h : 5000 < s.length
  · have j1 : decide ((5000 : Int) < (s.length : Int)) = true := decide_eq_true (by omega)
    go_enter Tryd.func9, Tryd.ntmps9
    go_wp2_with fail
    refine (awake_chunk HC.out _).mono ?_
    rintro e W1 ⟨rfl, hB⟩
    have HB := Lib.hid hB
    clear hB
    go_wp2
    go_ret
    exact ⟨rfl, HB.out⟩
  have j1 : decide ((5000 : Int) < (s.length : Int)) = false := decide_eq_false (by omega)
  by_cases h3 : 300 < N
  · have j2 : decide ((300 : Int) < (N : Int)) = true := decide_eq_true (by omega)
    go_enter Tryd.func9, Tryd.ntmps9
    go_wp2_with fail
    refine (awake_chunk HC.out _).mono ?_
    rintro e W1 ⟨rfl, hB⟩
    have HB := Lib.hid hB
    clear hB
    go_wp2
    go_ret
    exact ⟨rfl, HB.out⟩
  have j2 : decide ((300 : Int) < (N : Int)) = false := decide_eq_false (by omega)
  have hN : N ≤ 300 := by omega
  obtain ⟨L, hL⟩ : ∃ L, L = s.length := ⟨_, rfl⟩
  rw [← hL] at hlen j1
  have hL5 : L ≤ 5000 := by omega
  have HL := Lib.hid hL
  have HV := Lib.hid (And.intro hV hz)
  have HLS : Hid (∀ r w, (Builtin.len_ #[9] 3 #[S r]).run Tryd.prog w = .ok (.int .i64 (r.length : Int)) w) := Lib.hid fun r => run_len_S (P := Tryd.prog) Tryd.underlying9 3 r
  clear hV hz h h3 _hs hL
  go_enter Tryd.func9, Tryd.ntmps9
  go_wp2_with fail
  refine (awake_chunk HC.out _).mono ?_
  rintro e W1 ⟨rfl, hB⟩
  have H1 := Lib.hid hB
  clear hB
  go_wp2_with fail
  refine (One.make HC.out H1.out).mono ?_
  rintro e W2 ⟨g, rfl, h2⟩
  have H2 := Lib.hid h2
  clear h2 H1
  go_wp2
  go_loopw [6, 7, 8] (fun wv rv iv wr => ∃ (i p : Nat), i ≤ N ∧ iv = .int .i64 (i : Int) ∧ p ≤ L ∧ rv = S (s.drop p) ∧ wv = S (Cst.new.run (s.take p)).2.data ∧ One RA w g (Cst.new.run (s.take p)).2 wr) (fun _ _ iv _ => N - (intOf iv).toNat)
  case atStart => exact ⟨0, 0, Nat.zero_le _, rfl, Nat.zero_le _, by rw [List.drop_zero], rfl, H2.out⟩
  case round =>
    obtain ⟨i, p, hi, rfl, hp, rfl, rfl, hO⟩ := hrel
    obtain ⟨st, hst⟩ : ∃ st, st = (Cst.new.run (s.take p)).2 := ⟨_, rfl⟩
    rw [← hst] at hO ⊢
    have HST := Lib.hid hst
    have HO := Lib.hid hO
    clear hst hO
    by_cases hil : i < N
    · have j3 : decide ((i : Int) < (N : Int)) = true := decide_eq_true (by omega)
      obtain ⟨R, hR⟩ : ∃ R, R = s.drop p := ⟨_, rfl⟩
      rw [← hR]
      obtain ⟨M, hM⟩ : ∃ M, M = R.length := ⟨_, rfl⟩
      have hlR := HLS.out R
      rw [← hM] at hlR
      have hMs : M + p = L := by rw [hM, hR, List.length_drop]; have := HL.out; omega
      have hix := HV.out.1.index i hil
      have hcc : wr.cell? (ad i) = some (.int .u8 (z i : Int)) := (HV.out.1.below HO.out.bel).cell i hil
      have hzi := HV.out.2 i hil
      obtain ⟨x, hx⟩ : ∃ x, x = z i := ⟨_, rfl⟩
      rw [← hx] at hcc hzi
      have hcv := cv8 x hzi
      obtain ⟨k, hk⟩ : ∃ k, k = x % (M + 1) := ⟨_, rfl⟩
      have hkM : k ≤ M := by have := Nat.mod_lt x (show 0 < M + 1 by omega); omega
      have hP0 : (M : Int) + 1 ≠ 0 := by omega
      have hP1 : ((M : Int) + 1 == 0) = false := by rw [beq_eq_false_iff_ne]; omega
      have hmod : (x : Int).tmod ((M : Int) + 1) = (k : Int) := by rw [Int.tmod_eq_emod_of_nonneg (by omega), hk, show ((M : Int) + 1) = ((M + 1 : Nat) : Int) from rfl]; rfl
      have hwk : IntKind.i64.wrap (k : Int) = (k : Int) := by rw [IntKind.wrap_i64]; omega
      have hw1 : IntKind.i64.wrap ((M : Int) + 1) = (M : Int) + 1 := by rw [IntKind.wrap_i64]; omega
      have hwi : IntKind.i64.wrap ((i : Int) + 1) = (i : Int) + 1 := by rw [IntKind.wrap_i64]; omega
      have hs1 : ∀ w, (Instr.slice 9 (S R) none (some (.int .i64 (k : Int))) none).run Tryd.prog w = .ok (S (R.take k)) w := fun w => slice_take (P := Tryd.prog) Tryd.underlying9 R k (by omega) w
      have hs2 : ∀ w, (Instr.slice 9 (S R) (some (.int .i64 (k : Int))) none none).run Tryd.prog w = .ok (S (R.drop k)) w := fun w => slice_drop (P := Tryd.prog) Tryd.underlying9 R k (by omega) w
      obtain ⟨st', hst'⟩ : ∃ st', st' = (st.run (R.take k)).2 := ⟨_, rfl⟩
      have HF : Hid (∀ W, One RA w g st W → Calls Tryd.prog 12 #[.pointer (some ⟨g, 0, none⟩), S (R.take k)] W fun e W' => e = .returned (.int .i64 ((st.run (R.take k)).1 : Int)) ∧ One RA w g st' W') := Lib.hid fun W h => by
        rw [hst']; exact h.feed HC.out (R.take k) (by rw [List.length_take]; have := HL.out; omega)
      have et : s.take (p + k) = s.take p ++ R.take k := by rw [hR, List.take_add]
      have hrun : (Cst.new.run (s.take (p + k))).2 = st' := by rw [et, run_append, ← HST.out, hst']
      obtain ⟨dd, hd1, hd2⟩ := run_data (R.take k) st
      rw [← hst'] at hd1
      obtain ⟨da, ha1, ha2⟩ := run_data (s.take (p + k)) Cst.new
      rw [hrun] at ha1
      have hroom := room_le (run_room (s.take (p + k)) Cst.new new_room)
      rw [hrun] at hroom
      have hle : st'.data.length ≤ L := by
        have h1 : st'.data.length = da.length := by rw [ha1]; rfl
        have h2 := ha2.length_le
        rw [List.length_take] at h2
        have := HL.out
        omega
      have HY : Hid (p + k ≤ L ∧ (Cst.new.run (s.take (p + k))).2 = st' ∧ s.drop (p + k) = R.drop k) := Lib.hid ⟨by omega, hrun, by rw [hR, List.drop_drop]⟩
      obtain ⟨X, hX⟩ : ∃ X, X = st.data := ⟨_, rfl⟩
      obtain ⟨Y, hY⟩ : ∃ Y, Y = st'.data := ⟨_, rfl⟩
      rw [← hX, ← hY] at hd1
      rw [← hY] at hroom hle
      have hlX := HLS.out X
      have hlY := HLS.out Y
      have hXY : X.length ≤ Y.length := by rw [hd1, List.length_append]; omega
      have q1 : decide ((Y.length : Int) < (X.length : Int)) = false := decide_eq_false (by omega)
      have q2 : decide ((4096 : Int) < (Y.length : Int)) = false := decide_eq_false (by omega)
      have q3 : decide ((L : Int) < (Y.length : Int)) = false := decide_eq_false (by omega)
      have hs3 : ∀ w, (Instr.slice 9 (S Y) none (some (.int .i64 (X.length : Int))) none).run Tryd.prog w = .ok (S X) w := fun w => by
        have := slice_take (P := Tryd.prog) Tryd.underlying9 Y X.length hXY w
        rwa [show Y.take X.length = X by rw [hd1, List.take_left]] at this
      have e0 : binOp .neq 9 (S X) (S X) = pure (.bool false) := by rw [neql_S]; simp
      have g0 := nguard_S 9
      have HYY := Lib.hid hY
      have hMb : M ≤ 10000 := by omega
      have hkb : k ≤ 10000 := by omega
      obtain ⟨lx, hlx⟩ : ∃ lx, lx = X.length := ⟨_, rfl⟩
      obtain ⟨ly, hly⟩ : ∃ ly, ly = Y.length := ⟨_, rfl⟩
      rw [← hlx] at hlX q1 hs3
      rw [← hly] at hlY q1 q2 q3
      rw [← hX]
      have q1' : ¬ ly < lx := by omega
      have q3' : ¬ L < ly := by omega
      generalize (st.run (R.take k)).1 = nf at *
      clear hst' et hrun hd1 hd2 ha1 ha2 hroom hle hX hXY hk hx hMs hM hR hlx hly hp hzi hY
      generalize R.take k = A at *
      generalize R.drop k = D at *
      generalize ad i = adi at *
      go_wp2_with fail
      refine (HF.out _ HO.out).mono ?_
      rintro e W3 ⟨rfl, h3⟩
      have H3 := Lib.hid h3
      clear h3 HO
      go_wp2_with fail
      refine (H3.out.data HC.out).mono ?_
      rintro e W4 ⟨rfl, h4⟩
      have H4 := Lib.hid h4
      clear h4 H3
      rw [← HYY.out]
      go_wp2
      exact ⟨⟨i + 1, p + k, by omega, by go_num, HY.out.1, by rw [HY.out.2.2], by rw [HY.out.2.1, HYY.out], by rw [HY.out.2.1]; exact H4.out⟩, by first | (simp [intOf]; done) | (simp [intOf]; omega) | (unfold intOf; omega)⟩
    · obtain rfl : i = N := by omega
      have j3 : decide ((i : Int) < (i : Int)) = false := decide_eq_false (by omega)
      obtain ⟨X, hX⟩ : ∃ X, X = st.data := ⟨_, rfl⟩
      rw [← hX]
      have hsub : X.Sublist s := by
        obtain ⟨da, ha1, ha2⟩ := run_data (s.take p) Cst.new
        rw [← HST.out, ← hX] at ha1
        rw [show X = da from ha1]
        exact ha2.trans (List.take_sublist p s)
      have HG := Lib.hid (greedy_sub s X hsub)
      have hXL : X.length ≤ L := by have := hsub.length_le; have := HL.out; omega
      have hlX := HLS.out X
      obtain ⟨M, hM⟩ : ∃ M, M = X.length := ⟨_, rfl⟩
      rw [← hM] at hlX hXL
      have HM := Lib.hid hM
      have HB := Lib.hid HO.out.bel
      generalize s.drop p = DD at *
      have hmx : Tryd.prog.follows .mixedOrders = true := by kernel_rfl
      clear hX hsub hM HO HST hp hi hil
      go_wp2
      go_loopw [11, 12] (fun av iv wx => ∃ (a q : Nat), q ≤ L ∧ a ≤ M ∧ av = .int .i64 (a : Int) ∧ iv = .int .i64 (q : Int) ∧ Below w.heap.size w wx ∧ greedy (X.drop a) (s.drop q) = []) (fun _ iv _ => L - (intOf iv).toNat)
      case atStart => exact ⟨0, 0, Nat.zero_le _, Nat.zero_le _, rfl, rfl, HB.out, HG.out⟩
      case round =>
        obtain ⟨a, q, hq, ha, rfl, rfl, hB, hG⟩ := hrel
        have HB2 := Lib.hid hB
        clear hB
        by_cases hql : q < L
        · by_cases hal : a < M
          · obtain ⟨c, hc⟩ : ∃ c, s[q]? = some c := ⟨s[q]'(by have := HL.out; omega), List.getElem?_eq_getElem _⟩
            obtain ⟨d, hd⟩ : ∃ d, X[a]? = some d := ⟨X[a]'(by have := HM.out; omega), List.getElem?_eq_getElem _⟩
            have hi1 : ∀ w, (Instr.index 9 (S s) (.int .i64 (q : Int))).run Tryd.prog w = .ok (B c) w := fun w => index_S (P := Tryd.prog) Tryd.underlying9 s q c hc w
            have hi2 : ∀ w, (Instr.index 9 (S X) (.int .i64 (a : Int))).run Tryd.prog w = .ok (B d) w := fun w => index_S (P := Tryd.prog) Tryd.underlying9 X a d hd w
            have hw4 : IntKind.i64.wrap ((q : Int) + 1) = (q : Int) + 1 := by rw [IntKind.wrap_i64]; omega
            have hw5 : IntKind.i64.wrap ((a : Int) + 1) = (a : Int) + 1 := by rw [IntKind.wrap_i64]; omega
            have e1 : s.drop q = c :: s.drop (q + 1) := by rw [List.drop_eq_getElem_cons (by rw [← HL.out]; exact hql), (List.getElem?_eq_some_iff.1 hc).2]
            have e2 : X.drop a = d :: X.drop (a + 1) := by rw [List.drop_eq_getElem_cons (by rw [← HM.out]; exact hal), (List.getElem?_eq_some_iff.1 hd).2]
            have hG2 := hG
            rw [e1, e2, greedy_step] at hG2
            have qe : binOp .eql 5 (B c) (B d) = pure (.bool (c == d)) := B_eql 5 c d
            cases hcd : (c == d) with
            | true =>
              rw [hcd] at qe
              rw [if_pos (beq_iff_eq.1 hcd)] at hG2
              have HN := Lib.hid hG2
              clear hG hG2 e1 e2 hc hd hcd
              go_wp2
              clear hlen hlX
              go_region
              go_wp2
              exact ⟨⟨a + 1, q + 1, by omega, by omega, by go_num, by go_num, HB2.out.trans ⟨rfl, rfl, rfl, Nat.le_refl _, fun _ _ => rfl⟩, HN.out⟩, by simp [intOf]; omega⟩
            | false =>
              rw [hcd] at qe
              rw [if_neg (beq_eq_false_iff_ne.1 hcd), ← e2] at hG2
              have HN := Lib.hid hG2
              clear hG hG2 e1 e2 hc hd hcd
              go_wp2
              clear hlen hlX
              go_region
              go_wp2
              exact ⟨⟨a, q + 1, by omega, by omega, rfl, by go_num, HB2.out.trans ⟨rfl, rfl, rfl, Nat.le_refl _, fun _ _ => rfl⟩, HN.out⟩, by simp [intOf]; omega⟩
          · have k1 : ((a : Int) == (M : Int)) = true := by rw [beq_iff_eq]; omega
            have k2 : decide ((a : Int) < (M : Int)) = false := decide_eq_false (by omega)
            clear hG
            go_wp2
            go_ret
            exact ⟨rfl, HB2.out⟩
        · have haM : a = M := by
            rw [show s.drop q = [] from List.drop_of_length_le (by rw [← HL.out]; omega)] at hG
            have := congrArg List.length (greedy_end hG)
            rw [List.length_drop] at this
            simp only [List.length_nil] at this
            have := HM.out
            omega
          have k1 : ((a : Int) == (M : Int)) = true := by rw [beq_iff_eq]; omega
          have k2 : decide ((q : Int) < (L : Int)) = false := decide_eq_false (by omega)
          clear hG haM
          go_wp2
          go_ret
          exact ⟨rfl, HB2.out⟩
end Go.Proofs.YtocekbfnefajhaaDoor
