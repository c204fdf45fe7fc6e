/- RequestPieces walked, over any package that does what is asked of it. (mkrp2.py writes it.) -/
import Derived.Test.YtplajlccnnbifaaDoorRp1
namespace Go.Proofs.YtplajlccnnbifaaDoor
open Go.RowKit
attribute [local go_sem] store_one S_match S_store

theorem conv_u8 (n : Nat) (h : n ≤ 255) (w : World) : (convert 5 3 (.int .u8 (n : Int))).run Tryd.prog w = .ok (.int .i64 (n : Int)) w := by
  have e : IntKind.i64.wrap (n : Int) = (n : Int) := by rw [IntKind.wrap_i64]; omega
  simp [convert, run_underlying Tryd.underlying5, run_underlying Tryd.underlying3, e, go_sem]
/-- Within the pieces: p bytes were fed, these were told. -/
structure PcsAt (RA : World → (Nat → Prop) → Nat → PSt → Prop) (w Wm : World) (g2 : Nat) (s : List UInt8) (L : List Rq) (p' : PSt) (p : Nat) (L1 : List Rq) (W : World) : Prop where
  ex : ∃ u, Drains ⟨s.take p, 0⟩ L1 u ∧ OneK RA w g2 u (fun k => k < Wm.heap.size) W
  same : Same (fun k => k < Wm.heap.size) Wm W
  size : Wm.heap.size ≤ W.heap.size
/-- Within a piece. -/
structure PcAt (RA : World → (Nat → Prop) → Nat → PSt → Prop) (w Wm : World) (g2 : Nat) (R : List Rq) (u2 : PSt) (W : World) : Prop where
  ex : ∃ u, Drains u R u2 ∧ OneK RA w g2 u (fun k => k < Wm.heap.size) W ∧ u.buf.length ≤ 20000
  same : Same (fun k => k < Wm.heap.size) Wm W
  size : Wm.heap.size ≤ W.heap.size
theorem drains_buf {p p' : PSt} {l : List Rq} (h : Drains p l p') : p'.buf.length ≤ p.buf.length := by have := drains_len h; omega
/-- A piece more: what is told then, and that it is of the list. -/
theorem piece_more {s : List UInt8} {L L1 : List Rq} {p' u : PSt} {p k : Nat} (hs : s.length ≤ 20000) (hd : Drains ⟨s, 0⟩ L p') (h1 : Drains ⟨s.take p, 0⟩ L1 u) (hpk : p + k ≤ s.length) :
    ∃ L2 L3 u2, Drains (u.feed ((s.drop p).take k)) L2 u2 ∧ Drains ⟨s.take (p + k), 0⟩ (L1 ++ L2) u2 ∧ L = (L1 ++ L2) ++ L3 ∧ (u.feed ((s.drop p).take k)).buf.length ≤ 20000 := by
  have hub := drains_buf h1
  dsimp only at hub
  rw [List.length_take] at hub
  have hfl : (u.feed ((s.drop p).take k)).buf.length ≤ 20000 := by
    unfold PSt.feed
    split
    · rw [List.length_append, List.length_take, List.length_drop]; omega
    · omega
  obtain ⟨L2, u2, hd2, _⟩ := drains_ex _ (u.feed ((s.drop p).take k)) (Nat.le_refl _)
  have e1 : PSt.feed ⟨s.take p, 0⟩ ((s.drop p).take k) = ⟨s.take (p + k), 0⟩ := by
    unfold PSt.feed
    rw [if_pos rfl, List.take_add]
  have hd3 := drains_feed ((s.drop p).take k) h1 hd2
  rw [e1] at hd3
  obtain ⟨L3, u3, hd4, _⟩ := drains_ex _ (u2.feed (s.drop (p + k))) (Nat.le_refl _)
  have hd5 := drains_feed (s.drop (p + k)) hd3 hd4
  have e2 : PSt.feed ⟨s.take (p + k), 0⟩ (s.drop (p + k)) = ⟨s, 0⟩ := by
    unfold PSt.feed
    rw [if_pos rfl, List.take_append_drop]
  rw [e2] at hd5
  exact ⟨L2, L3, u2, hd2, hd3, (drains_one hd hd5).1, hfl⟩
theorem pieces_feed {RA : World → (Nat → Prop) → Nat → PSt → Prop} {w Wm W : World} (C : RequestI w RA) {g2 : Nat} {s : List UInt8} {L L1 : List Rq} {p' : PSt} {p k : Nat} (hs : s.length ≤ 20000) (hd : Drains ⟨s, 0⟩ L p') (h : PcsAt RA w Wm g2 s L p' p L1 W) (hpk : p + k ≤ s.length) :
    ∃ L2 L3 u2, L = (L1 ++ L2) ++ L3 ∧ Drains ⟨s.take (p + k), 0⟩ (L1 ++ L2) u2 ∧
      Calls Tryd.prog 7 #[.pointer (some ⟨g2, 0, none⟩), S ((s.drop p).take k)] W fun e W' => e = .returned (.tuple #[]) ∧ PcAt RA w Wm g2 L2 u2 W' := by
  obtain ⟨⟨u, hu, hO⟩, hsm, hsz⟩ := h
  obtain ⟨L2, L3, u2, h1, h2, h3, h4⟩ := piece_more hs hd hu hpk
  have hub := drains_buf hu
  dsimp only at hub
  rw [List.length_take] at hub
  refine ⟨L2, L3, u2, h3, h2, ?_⟩
  obtain ⟨F, a1, a2, a3⟩ := hO.ex
  refine (C.feed ((s.drop p).take k) a1 (by rw [List.length_take, List.length_drop]; omega)).mono ?_
  rintro e W' ⟨he, F', b1, hm⟩
  have ha := hm.apart a3
  exact ⟨he, ⟨⟨_, h1, ⟨⟨F', b1, hm.from a2 hO.bel.size, ha.2⟩, hO.bel.trans (hm.below a2 hO.bel.size)⟩, h4⟩, fun k hk => (ha.1 k hk).trans (hsm k hk), Nat.le_trans hsz hm.size⟩⟩
theorem pc_next {RA : World → (Nat → Prop) → Nat → PSt → Prop} {w Wm W : World} (C : RequestI w RA) {g2 : Nat} {R : List Rq} {u2 : PSt} (h : PcAt RA w Wm g2 R u2 W) :
    (R = [] ∧ Calls Tryd.prog 8 #[.pointer (some ⟨g2, 0, none⟩)] W fun e W' => e = .returned (.tuple #[.agg zeroR, .bool false]) ∧ OneK RA w g2 u2 (fun k => k < Wm.heap.size) W' ∧ Same (fun k => k < Wm.heap.size) Wm W' ∧ Wm.heap.size ≤ W'.heap.size) ∨
    (∃ r R', R = r :: R' ∧ Calls Tryd.prog 8 #[.pointer (some ⟨g2, 0, none⟩)] W fun e W' => ∃ a c gf, e = .returned (.tuple #[.agg (rqCells r.m r.p r.q r.v (.slice a r.fs.length c) r.body r.cl), .bool true]) ∧ FldsAt W' (.slice a r.fs.length c) r.fs gf ∧ PcAt RA w Wm g2 R' u2 W') := by
  obtain ⟨⟨u, hd, hO, hl⟩, hsm, hsz⟩ := h
  obtain ⟨F, a1, a2, a3⟩ := hO.ex
  have hnx := C.next a1 (by omega) hO.bel
  cases hd with
  | stop hn =>
    refine .inl ⟨rfl, hnx.mono ?_⟩
    rintro e W' ⟨F', b1, hm, hv⟩
    rw [hn] at b1 hv
    have ha := hm.apart a3
    exact ⟨hv, ⟨⟨F', b1, hm.from a2 hO.bel.size, ha.2⟩, hO.bel.trans (hm.below a2 hO.bel.size)⟩, fun k hk => (ha.1 k hk).trans (hsm k hk), Nat.le_trans hsz hm.size⟩
  | @more _ u1 _ r R' hn hd' =>
    have hlt := (next_len hn).2.2.1
    refine .inr ⟨r, R', rfl, hnx.mono ?_⟩
    rintro e W' ⟨F', b1, hm, hv⟩
    rw [hn] at b1 hv
    obtain ⟨V, gf, he, hf, _⟩ := hv
    obtain ⟨a, c, rfl⟩ := hf.form
    have ha := hm.apart a3
    exact ⟨a, c, gf, he, hf, ⟨⟨u1, hd', ⟨⟨F', b1, hm.from a2 hO.bel.size, ha.2⟩, hO.bel.trans (hm.below a2 hO.bel.size)⟩, by omega⟩, fun k hk => (ha.1 k hk).trans (hsm k hk), Nat.le_trans hsz hm.size⟩⟩
theorem PcAt.below {RA : World → (Nat → Prop) → Nat → PSt → Prop} {w Wm W W' : World} (C : RequestI w RA) {g2 : Nat} {R : List Rq} {u2 : PSt} (h : PcAt RA w Wm g2 R u2 W) (hb : Below W.heap.size W W') : PcAt RA w Wm g2 R u2 W' := by
  obtain ⟨⟨u, hd, hO, hl⟩, hsm, hsz⟩ := h
  exact ⟨⟨u, hd, hO.below C hb, hl⟩, fun k hk => (hO.same hb k hk).trans (hsm k hk), Nat.le_trans hsz hb.size⟩
set_option maxRecDepth 100000 in
set_option maxHeartbeats 4000000 in
theorem rpieces_any {RA : World → (Nat → Prop) → Nat → PSt → Prop} {w : World} (C : RequestI w RA) (s : List UInt8) (V : Value) (N : Nat) (ad : Nat → Addr) (z : Nat → Nat)
    (hV : Came Tryd.prog w 22 V N ad (fun i => .int .u8 (z i : Int))) (hz : ∀ i, i < N → z i ≤ 255) :
    Calls Tryd.prog 3 #[S s, V] w fun e w' => e = .returned (.bool true) ∧ Below w.heap.size w w' := by
  have hlen := run_len_S (P := Tryd.prog) Tryd.underlying9 3 s
  have hlV := hV.len 3
  have HC := Lib.hid C
  have HAW := Lib.hid (awake_request C)
  clear C
  by_cases h : 20000 < s.length
  · have j1 : decide ((20000 : Int) < (s.length : Int)) = true := decide_eq_true (by omega)
    go_enter Tryd.func3, Tryd.ntmps3
    go_wp2_with fail
    refine HAW.out.mono ?_
    rintro e W1 ⟨rfl, hB⟩
    have HB := Lib.hid hB
    clear hB
    go_wp2
    go_ret
    exact ⟨rfl, HB.out⟩
  have j1 : decide ((20000 : Int) < (s.length : Int)) = false := decide_eq_false (by omega)
  by_cases h3 : 300 < N
  · have j2 : decide ((300 : Int) < (N : Int)) = true := decide_eq_true (by omega)
    go_enter Tryd.func3, Tryd.ntmps3
    go_wp2_with fail
    refine HAW.out.mono ?_
    rintro e W1 ⟨rfl, hB⟩
    have HB := Lib.hid hB
    clear hB
    go_wp2
    go_ret
    exact ⟨rfl, HB.out⟩
  have j2 : decide ((300 : Int) < (N : Int)) = false := decide_eq_false (by omega)
  have hN : N ≤ 300 := by omega
  have HV := Lib.hid (And.intro hV hz)
  obtain ⟨L, p', hd, hll⟩ := drains_ex s.length ⟨s, 0⟩ (Nat.le_refl _)
  have HD := Lib.hid (And.intro hd (And.intro (show s.length ≤ 20000 by omega) (show L.length ≤ 20000 by dsimp only at hll; omega)))
  have hinfo := infoR
  clear h h3 hV hz hd hll
  go_enter Tryd.func3, Tryd.ntmps3
  go_wp2_with fail
  refine HAW.out.mono ?_
  rintro e W0 ⟨rfl, hB⟩
  have HB := Lib.hid hB
  clear hB
  go_wp2_with fail
  refine (OneK.make HC.out HB.out).mono ?_
  rintro e W1 ⟨g1, rfl, h, _⟩
  have H1 := Lib.hid (h.mono (K' := fun _ => False) (fun _ h => h.elim))
  clear h
  go_wp2_with fail
  refine (H1.out.feed HC.out s (by have := HD.out.2.1; show 0 + _ ≤ _; omega)).mono ?_
  rintro e W2 ⟨rfl, h, _⟩
  have h2 : OneK RA w g1 ⟨s, 0⟩ (fun _ => False) W2 := h
  have H2 := Lib.hid h2
  clear h h2 H1
  go_wp2_with fail
  refine (coll_start HC.out HD.out.2.1 H2.out HD.out.1).mono ?_
  rintro e W3 ⟨cs, b, rfl, hcs, hone, hw3, hk⟩
  have hr4 : Row (W3.alloc (.cells zeroR 30)) W3.heap.size zeroR 30 := row_new _ _ _
  have HK := Lib.hid hk
  have HO := Lib.hid hone
  have HR4 := Lib.hid hr4
  have HI := Lib.hid (hinfo.trans (congrArg some hcs.symm))
  have HZ7 := Lib.hid (show zeroR.size = cs.size from hcs.symm)
  obtain ⟨b7, hb7⟩ : ∃ b7, b7 = W3.heap.size := ⟨_, rfl⟩
  have HW3 := Lib.hid (And.intro hw3 hb7)
  clear hk hone hr4 hcs hw3 hb7 hinfo H2
  go_wp2_with (first
    | (refine wpList_store_var rfl rfl 30 (.tmp 7) (.tmp 33) (by with_reducible rfl) W3.heap.size cs rfl rfl HR4.out HI.out HZ7.out HO.out ?_; intro W5 r5 k5; have H5 := Lib.hid (HK.out W5 r5 k5); clear r5 k5)
    | fail)
  rw [← HW3.out.2] at H5
  rw [← HW3.out.2]
  have HB7 := Lib.hid HW3.out.1
  have HWB : Hid (w.heap.size ≤ b7) := Lib.hid (by rw [HW3.out.2]; exact HW3.out.1)
  clear HK HO HR4 HI HZ7 HW3 HB7
  go_loopw [6, 8] (fun lv ov wr => ∃ b : Bool, ov = .bool b ∧ Hid (Coll RA w g1 b7 L p' b lv wr)) (fun lv _ _ => L.length + 1 - vlen lv)
  case atStart => exact ⟨b, rfl, H5⟩
  case round =>
    clear H5
    obtain ⟨b, rfl, HL⟩ := hrel
    cases b with
    | true =>
      have hT : CollT RA w g1 b7 L p' u6 wr := HL.out
      obtain ⟨n, cs1, r, a, c, hrow, hown, hsz, hvl, hnL, hmore⟩ := hT.append HC.out
      obtain ⟨m, p, q, v, fs, bd, cl⟩ := r
      dsimp only at hrow hmore
      have k0 : wr.cell? ⟨b7, 0, none⟩ = some (S m) := cell_of_row _ _ 0 _ _ (0, 0) hrow
      have k1 : wr.cell? ⟨b7, 1, none⟩ = some (S p) := cell_of_row _ _ 1 _ _ (0, 0) hrow
      have k2 : wr.cell? ⟨b7, 2, none⟩ = some (S q) := cell_of_row _ _ 2 _ _ (0, 0) hrow
      have k3 : wr.cell? ⟨b7, 3, none⟩ = some (.int .i64 (v : Int)) := cell_of_row _ _ 3 _ _ (0, 0) hrow
      have k4 : wr.cell? ⟨b7, 4, none⟩ = some (.slice a fs.length c) := cell_of_row _ _ 4 _ _ (0, 0) hrow
      have k5 : wr.cell? ⟨b7, 5, none⟩ = some (S bd) := cell_of_row _ _ 5 _ _ (0, 0) hrow
      have k6 : wr.cell? ⟨b7, 6, none⟩ = some (.bool cl) := cell_of_row _ _ 6 _ _ (0, 0) hrow
      have hone : ∀ u ∈ (#[S m, S p, S q, .int .i64 (v : Int), .slice a fs.length c, S bd, .bool cl] : Array Value).toList, u.oneCell' = true := by
        intro u hu
        simp only [List.mem_cons, List.not_mem_nil, or_false] at hu
        rcases hu with rfl | rfl | rfl | rfl | rfl | rfl | rfl <;> rfl
      have hnn : n < 1000000 := by have := HD.out.2.2; omega
      have HM := Lib.hid hmore
      have HVL := Lib.hid (And.intro hvl hnL)
      clear hmore hvl hnL hrow hT HL
      go_wp2_with (first
        | (at_builtin; refine wpList_addL rfl 27 30 (.tmp 36) (.tmp 38) rfl Tryd.underlying27 eleRp (by omega) w.heap.size wr u6 rfl n cs1 hown #[S m, S p, S q, .int .i64 (v : Int), .slice a fs.length c, S bd, .bool cl] rfl hone rfl wr.heap.size rfl rfl hnn hsz ?_; intro g' cap W6 o1 o2 o3 o4; have HO := Lib.hid (HM.out g' cap W6 o1 o2 o3 o4); clear o1 o2 o3 o4)
        | fail)
      refine (HO.out.both HC.out HWB.out).mono ?_
      rintro e W7 ⟨cs2, b2, rfl, hcs2, hone2, ⟨cs', hr', hs'⟩, hk2⟩
      have HI := Lib.hid (infoR.trans (congrArg some hcs2.symm))
      have HZ7 := Lib.hid (hs'.trans hcs2.symm)
      have HO2 := Lib.hid hone2
      have HK := Lib.hid hk2
      have HR := Lib.hid hr'
      clear hcs2 hone2 hr' hs' hk2 HO hown hone k0 k1 k2 k3 k4 k5 k6
      go_wp2_with (first
        | (refine wpList_store_var rfl rfl 30 (.tmp 7) (.tmp 43) (by with_reducible rfl) b7 cs2 rfl rfl HR.out HI.out HZ7.out HO2.out ?_; intro W8 r8 k8; have H8 := Lib.hid (HK.out W8 r8 k8); clear r8 k8)
        | fail)
      exact ⟨⟨b2, rfl, H8⟩, by show L.length + 1 - (n + 1) < L.length + 1 - vlen u6; rw [HVL.out.1]; have := HVL.out.2; omega⟩
    | false =>
      have hF : CollF RA w g1 L p' u6 wr := HL.out
      obtain ⟨xs, KL, hR, hO1, hxs⟩ := hF
      have hlL := hR.len 3
      obtain ⟨NL, hNL⟩ : ∃ n, n = xs.length := ⟨_, rfl⟩
      rw [← hNL] at hlL
      have HF := Lib.hid (And.intro hR (And.intro hO1 (And.intro hxs hNL)))
      clear hR hO1 hxs hNL HL
      go_wp2_with fail
      refine (OneK.make HC.out HF.out.2.1.bel).mono ?_
      rintro e W4 ⟨g2, rfl, h, hB4⟩
      have H4 : Hid (PcsAt RA w wr g2 s L p' 0 [] W4) := Lib.hid ⟨⟨PSt.new, .stop (by rw [List.take_zero]; exact next_more rfl), h⟩, fun k hk => hB4.block k hk, hB4.size⟩
      clear h hB4
      obtain ⟨Wm, rfl⟩ : ∃ Wm, Wm = wr := ⟨_, rfl⟩
      go_wp2
      go_loopw [10, 11, 12] (fun av rv iv wx => ∃ (i p A : Nat) (L1 : List Rq), i ≤ N + 1 ∧ iv = .int .i64 (i : Int) ∧ p ≤ s.length ∧ (i = N + 1 → p = s.length) ∧ av = .int .i64 (A : Int) ∧ rv = S (s.drop p) ∧ Hid (A = L1.length ∧ PcsAt RA w Wm g2 s L p' p L1 wx)) (fun _ _ iv _ => N + 1 - (intOf iv).toNat)
      case atStart => exact ⟨0, 0, 0, [], Nat.zero_le _, rfl, Nat.zero_le _, fun h => by omega, rfl, by rw [List.drop_zero], Lib.hid ⟨rfl, H4.out⟩⟩
      case round =>
        obtain ⟨i, p, A, L1, hi, rfl, hp, hend, rfl, rfl, HP⟩ := hrel
        by_cases hil : i ≤ N
        · have j3 : decide ((i : Int) ≤ (N : Int)) = true := decide_eq_true (by omega)
          obtain ⟨R, hR⟩ : ∃ R, R = s.drop p := ⟨_, rfl⟩
          have hRl : R.length = s.length - p := by rw [hR, List.length_drop]
          rw [← hR]
          have hlR := run_len_S (P := Tryd.prog) Tryd.underlying9 3 R
          obtain ⟨M, hM⟩ : ∃ M, M = R.length := ⟨_, rfl⟩
          rw [← hM] at hlR
          have hMb : M ≤ 20000 := by have := HD.out.2.1; omega
          have hwi : IntKind.i64.wrap ((i : Int) + 1) = (i : Int) + 1 := by rw [IntKind.wrap_i64]; omega
          have HK : Hid (∀ k, k ≤ M → p + k ≤ s.length ∧ s.drop (p + k) = R.drop k ∧ (k = M → p + k = s.length) ∧ ∃ L2 L3 u2, L = (L1 ++ L2) ++ L3 ∧ Drains ⟨s.take (p + k), 0⟩ (L1 ++ L2) u2 ∧
              Calls Tryd.prog 7 #[.pointer (some ⟨g2, 0, none⟩), S (R.take k)] wr fun e W' => e = .returned (.tuple #[]) ∧ PcAt RA w Wm g2 L2 u2 W') := Lib.hid fun k hk => by
            refine ⟨by omega, by rw [hR, List.drop_drop], fun h => by omega, ?_⟩
            rw [hR]
            exact pieces_feed HC.out HD.out.2.1 HD.out.1 HP.out.2 (by omega)
          have HS1 : ∀ k, k ≤ M → ∀ w, (Instr.slice 9 (S R) none (some (.int .i64 (k : Int))) none).run Tryd.prog w = .ok (S (R.take k)) w := fun k hk w => slice_take (P := Tryd.prog) Tryd.underlying9 R k (by omega) w
          have HS2 : ∀ k, k ≤ M → ∀ w, (Instr.slice 9 (S R) (some (.int .i64 (k : Int))) none none).run Tryd.prog w = .ok (S (R.drop k)) w := fun k hk w => slice_drop (P := Tryd.prog) Tryd.underlying9 R k (by omega) w
          have HSL := Lib.hid (And.intro HS1 HS2)
          have HA := Lib.hid HP.out.1
          have HBW : Hid (Below w.heap.size w wr) := Lib.hid (by obtain ⟨u, _, h⟩ := HP.out.2.ex; exact h.bel)
          clear hR hRl hM hend HP HS1 HS2
          by_cases hiN : i < N
          · have j4 : decide ((i : Int) < (N : Int)) = true := decide_eq_true (by omega)
            have hix := HV.out.1.index i hiN
            have hcc : wr.cell? (ad i) = some (.int .u8 (z i : Int)) := (HV.out.1.below HBW.out).cell i hiN
            have hzi := HV.out.2 i hiN
            obtain ⟨x, hx⟩ : ∃ x, x = z i := ⟨_, rfl⟩
            rw [← hx] at hcc hzi
            have hcv := conv_u8 x hzi
            obtain ⟨k, hk⟩ : ∃ k, k = x % (M + 1) := ⟨_, rfl⟩
            have hkM : k ≤ M := by have := Nat.mod_lt x (show 0 < M + 1 by omega); omega
            have hP0 : (M : Int) + 1 ≠ 0 := by omega
            have hP1 : ((M : Int) + 1 == 0) = false := by rw [beq_eq_false_iff_ne]; omega
            have hmod : (x : Int).tmod ((M : Int) + 1) = (k : Int) := by rw [Int.tmod_eq_emod_of_nonneg (by omega), hk, show ((M : Int) + 1) = ((M + 1 : Nat) : Int) from rfl]; rfl
            have hwk : IntKind.i64.wrap (k : Int) = (k : Int) := by rw [IntKind.wrap_i64]; omega
            have hw1 : IntKind.i64.wrap ((M : Int) + 1) = (M : Int) + 1 := by rw [IntKind.wrap_i64]; omega
            obtain ⟨hpk, hdr, _, L2, L3, u2, hL, hd2, hfeed⟩ := HK.out k hkM
            have hs1 := HSL.out.1 k hkM
            have hs2 := HSL.out.2 k hkM
            have HY : Hid (i + 1 ≤ N + 1 ∧ p + k ≤ s.length ∧ (i + 1 = N + 1 → p + k = s.length) ∧ s.drop (p + k) = R.drop k) := Lib.hid ⟨by omega, hpk, fun h => by omega, hdr⟩
            clear hk hx hzi hdr hpk
            generalize ad i = adi at *
            have HFD := Lib.hid hfeed
            have HL2 := Lib.hid (And.intro hL hd2)
            clear hfeed hL hd2 HK HSL
            generalize R.take k = X at *
            generalize R.drop k = D at *
            go_wp2_with fail
            refine HFD.out.mono ?_
            rintro e W5 ⟨rfl, h5⟩
            have H5 := Lib.hid h5
            clear h5 HFD
            go_wp2
            go_loopw [10] (fun av wy => ∃ j B : Nat, av = .int .i64 (B : Int) ∧ Hid (B = A + j ∧ j ≤ L2.length ∧ PcAt RA w Wm g2 (L2.drop j) u2 wy)) (fun av _ => L.length + 1 - (intOf av).toNat)
            case atStart => exact ⟨0, A, rfl, Lib.hid ⟨rfl, Nat.zero_le _, by rw [List.drop_zero]; exact H5.out⟩⟩
            case round =>
              obtain ⟨j, B, rfl, HP⟩ := hrel
              rcases pc_next HC.out HP.out.2.2 with ⟨hnil, hcall⟩ | ⟨r, R', hRe, hcall⟩
              · have hj : j = L2.length := by
                  have h1 := HP.out.2.1
                  have h2 := congrArg List.length hnil
                  rw [List.length_drop, List.length_nil] at h2
                  omega
                have HCL := Lib.hid hcall
                have HJ := Lib.hid hj
                clear hnil hcall hj
                go_wp2_with fail
                refine HCL.out.mono ?_
                rintro e W6 ⟨rfl, h6, hs6, hz6⟩
                have hB7 : Below W6.heap.size W6 (W6.alloc (.cells zeroR 30)) := (Below.refl _ W6).alloc (Nat.le_refl _) _
                have H7 : Hid (PcsAt RA w Wm g2 s L p' (p + k) (L1 ++ L2) (W6.alloc (.cells zeroR 30))) := Lib.hid ⟨⟨u2, HL2.out.2, h6.below HC.out hB7⟩, fun k hk => (h6.same hB7 k hk).trans (hs6 k hk), Nat.le_trans hz6 hB7.size⟩
                have HBn : Hid (B = (L1 ++ L2).length) := Lib.hid (by rw [List.length_append, HP.out.1, HJ.out, HA.out])
                unfold zeroR
                clear h6 hs6 hz6 hB7
                go_wp2
                exact ⟨⟨i + 1, p + k, B, L1 ++ L2, HY.out.1, by go_num, HY.out.2.1, fun h => HY.out.2.2.1 (by first | exact h | trivial), rfl, by rw [HY.out.2.2.2], Lib.hid ⟨HBn.out, H7.out⟩⟩, by first | (simp [intOf]; done) | (simp [intOf]; omega) | (unfold intOf; omega)⟩
              · have hjl : j < L2.length := by
                  have h2 := congrArg List.length hRe
                  rw [List.length_drop, List.length_cons] at h2
                  omega
                have hLB : L[B]? = some r := by
                  have e1 : L2[j]? = some r := by
                    have : (L2.drop j)[0]? = some r := by rw [hRe]; rfl
                    rw [List.getElem?_drop, Nat.add_zero] at this
                    exact this
                  rw [HL2.out.1, HP.out.1, HA.out, List.getElem?_append_left (by rw [List.length_append]; omega), List.getElem?_append_right (by omega), Nat.add_sub_cancel_left]
                  exact e1
                obtain ⟨x, hx, hxr⟩ : ∃ x, xs[B]? = some x ∧ x.1 = r := by
                  rw [← HF.out.2.2.1, List.getElem?_map] at hLB
                  cases hxx : xs[B]? with
                  | none => rw [hxx] at hLB; cases hLB
                  | some x => rw [hxx] at hLB; exact ⟨x, rfl, Option.some.inj hLB⟩
                have hBN : B < NL := by rw [HF.out.2.2.2]; exact (List.getElem?_eq_some_iff.1 hx).1
                have hNLb : NL ≤ 20000 := by rw [HF.out.2.2.2, ← List.length_map (f := fun x : Rq × Value × Nat => x.1), HF.out.2.2.1]; exact HD.out.2.2
                have hgt : decide ((B : Int) ≥ (NL : Int)) = false := decide_eq_false (by omega)
                have hgt' : decide ((NL : Int) ≤ (B : Int)) = false := decide_eq_false (by omega)
                have hwB : IntKind.i64.wrap ((B : Int) + 1) = (B : Int) + 1 := by rw [IntKind.wrap_i64]; omega
                have hfl : r.fs.length ≤ 1000000 := drains_fs HD.out.1 r (List.mem_of_getElem? hLB)
                have hdj : L2.drop (j + 1) = R' := by
                  rw [show j + 1 = 1 + j by omega, Nat.add_comm 1 j, ← List.drop_drop, hRe]; rfl
                have HBJ : Hid (B + 1 = A + (j + 1)) := Lib.hid (by have := HP.out.1; omega)
                have HLL : Hid (B < L.length) := Lib.hid (List.getElem?_eq_some_iff.1 hLB).1
                have HJ := Lib.hid (And.intro hjl (And.intro hdj (And.intro hfl hx)))
                subst hxr
                obtain ⟨⟨m, pp, q, v, fs, bd, cl⟩, V0, gf0⟩ := x
                have HCL := Lib.hid hcall
                clear hRe hcall hjl hLB hx hdj hfl
                go_wp2_with fail
                refine HCL.out.mono ?_
                rintro e W6 ⟨a, c, gf, rfl, hf, h6⟩
                unfold rqCells
                dsimp only
                try dsimp only at hf
                obtain ⟨W7, hW7⟩ : ∃ W7, W7 = W6.alloc (.cells (rqCells m pp q v (.slice a fs.length c) bd cl) 30) := ⟨_, rfl⟩
                have hB7 : Below W6.heap.size W6 W7 := by rw [hW7]; exact (Below.refl _ W6).alloc (Nat.le_refl _) _
                have hr7 : Row W7 W6.heap.size (rqCells m pp q v (.slice a fs.length c) bd cl) 30 := by rw [hW7]; exact row_new _ _ _
                obtain ⟨b14, hb14⟩ : ∃ b, b = W6.heap.size := ⟨_, rfl⟩
                rw [← hb14] at hr7
                have h7 := h6.below HC.out hB7
                have hR7 : Reqs W7 w.heap.size KL u6 xs := HF.out.1.kept (fun k hk => h7.same k (HF.out.1.old k hk)) (fun k hk => Nat.lt_of_lt_of_le (HF.out.1.old k hk) h7.size)
                obtain ⟨gl, ea, ec, gf2, hix2, hse, hfe⟩ := hR7.get HJ.out.2.2.2
                try dsimp only at hse hfe
                have H7 := Lib.hid (And.intro h7 (And.intro (hf.below hB7) hfe))
                have HSV := Lib.hid (And.intro (seven_row hr7) hse)
                have hw2 : (W6.alloc (.cells #[S m, S pp, S q, .int .i64 (v : Int), .slice a fs.length c, S bd, .bool cl] 30)) = W7 := hW7.symm
                clear hf h6 h7 hB7 hr7 hR7 hse hfe HP HCL
                go_wp2
                all_goals try rw [hw2]
                all_goals try rw [← hW7]
                all_goals try rw [← hb14]
                clear hw2 hW7 hb14
                obtain ⟨Wq, hWq⟩ : ∃ Wq, Wq = W7.drew := ⟨_, rfl⟩
                have hSq : SevenAt Wq b14 0 (S m) (S pp) (S q) (.int .i64 (v : Int)) (.slice a fs.length c) (S bd) (.bool cl) ∧ SevenAt Wq gl (B * 7) (S m) (S pp) (S q) (.int .i64 (v : Int)) (.slice ea fs.length ec) (S bd) (.bool cl) := by rw [hWq]; exact HSV.out
                have HSQ := Lib.hid hSq
                have hBq : Below W7.heap.size W7 Wq := by rw [hWq]; exact ⟨rfl, rfl, rfl, Nat.le_refl _, fun _ _ => rfl⟩
                have HQ := Lib.hid (And.intro (H7.out.1.below HC.out hBq) (And.intro (H7.out.2.1.below hBq) (H7.out.2.2.below hBq)))
                clear hBq HSV
                refine wp_region_noPanic ?_
                refine wp_region_held_drew (S := fun wx => SevenAt wx b14 0 (S m) (S pp) (S q) (.int .i64 (v : Int)) (.slice a fs.length c) (S bd) (.bool cl) ∧ SevenAt wx gl (B * 7) (S m) (S pp) (S q) (.int .i64 (v : Int)) (.slice ea fs.length ec) (S bd) (.bool cl)) (by kernel_rfl) (by rw [hWq] at hSq; exact hSq) (fun _ => ?_)
                rw [← hWq]
                clear hWq hSq
                refine take_at (i := 0) (d := some 83) (v := .int .i64 (B : Int)) rfl (by kernel_rfl) (by kernel_rfl) (by kernel_rfl) (fun _ _ _ h => h) (fun oi ho => ?_) HSQ.out ?_
                · obtain rfl := Option.some.inj ho
                  exact Or.inl ⟨by rfl, fun wx hSw => by go_simp⟩
                simp only [Act.put, List.setIfInBounds_toArray, List.set_cons_zero, List.set_cons_succ]
                refine take_at (i := 1) (d := some 84) (v := u6) rfl (by kernel_rfl) (by kernel_rfl) (by kernel_rfl) (fun _ _ _ h => h) (fun oi ho => ?_) HSQ.out ?_
                · obtain rfl := Option.some.inj ho
                  exact Or.inl ⟨by rfl, fun wx hSw => by go_simp⟩
                simp only [Act.put, List.setIfInBounds_toArray, List.set_cons_zero, List.set_cons_succ]
                refine take_at (i := 2) (d := some 85) (v := .int .i64 (NL : Int)) rfl (by kernel_rfl) (by kernel_rfl) (by kernel_rfl) (fun _ _ _ h => h) (fun oi ho => ?_) HSQ.out ?_
                · obtain rfl := Option.some.inj ho
                  exact Or.inl ⟨by rfl, fun wx hSw => by go_simp⟩
                simp only [Act.put, List.setIfInBounds_toArray, List.set_cons_zero, List.set_cons_succ]
                refine take_at (i := 3) (d := some 86) (v := .bool false) rfl (by kernel_rfl) (by kernel_rfl) (by kernel_rfl) (fun _ _ _ h => h) (fun oi ho => ?_) HSQ.out ?_
                · obtain rfl := Option.some.inj ho
                  exact Or.inl ⟨by rfl, fun wx hSw => by go_simp⟩
                simp only [Act.put, List.setIfInBounds_toArray, List.set_cons_zero, List.set_cons_succ]
                refine take_at (i := 4) (d := some 87) (v := .bool false) rfl (by kernel_rfl) (by kernel_rfl) (by kernel_rfl) (fun _ _ _ h => h) (fun oi ho => ?_) HSQ.out ?_
                · obtain rfl := Option.some.inj ho
                  exact Or.inl ⟨by rfl, fun wx hSw => by go_simp⟩
                simp only [Act.put, List.setIfInBounds_toArray, List.set_cons_zero, List.set_cons_succ]
                refine take_at (i := 5) (d := some 88) (v := .agg #[S m, S pp, S q, .int .i64 (v : Int), .slice a fs.length c, S bd, .bool cl]) rfl (by kernel_rfl) (by kernel_rfl) (by kernel_rfl) (fun _ _ _ h => h) (fun oi ho => ?_) HSQ.out ?_
                · obtain rfl := Option.some.inj ho
                  exact Or.inl ⟨by rfl, fun wx hSw => by obtain ⟨⟨x0, x1, x2, x3, x4, x5, x6⟩, ⟨y0, y1, y2, y3, y4, y5, y6⟩⟩ := hSw; go_simp⟩
                simp only [Act.put, List.setIfInBounds_toArray, List.set_cons_zero, List.set_cons_succ]
                refine take_at (i := 6) (d := some 89) (v := u6) rfl (by kernel_rfl) (by kernel_rfl) (by kernel_rfl) (fun _ _ _ h => h) (fun oi ho => ?_) HSQ.out ?_
                · obtain rfl := Option.some.inj ho
                  exact Or.inl ⟨by rfl, fun wx hSw => by go_simp⟩
                simp only [Act.put, List.setIfInBounds_toArray, List.set_cons_zero, List.set_cons_succ]
                refine take_at (i := 7) (d := some 90) (v := .int .i64 (B : Int)) rfl (by kernel_rfl) (by kernel_rfl) (by kernel_rfl) (fun _ _ _ h => h) (fun oi ho => ?_) HSQ.out ?_
                · obtain rfl := Option.some.inj ho
                  exact Or.inl ⟨by rfl, fun wx hSw => by go_simp⟩
                simp only [Act.put, List.setIfInBounds_toArray, List.set_cons_zero, List.set_cons_succ]
                refine take_at (i := 8) (d := some 91) (v := .pointer (some ⟨gl, B * 7, none⟩)) rfl (by kernel_rfl) (by kernel_rfl) (by kernel_rfl) (fun _ _ _ h => h) (fun oi ho => ?_) HSQ.out ?_
                · obtain rfl := Option.some.inj ho
                  exact Or.inl ⟨by rfl, fun wx hSw => by go_simp⟩
                simp only [Act.put, List.setIfInBounds_toArray, List.set_cons_zero, List.set_cons_succ]
                refine take_at (i := 9) (d := some 92) (v := .agg #[S m, S pp, S q, .int .i64 (v : Int), .slice ea fs.length ec, S bd, .bool cl]) rfl (by kernel_rfl) (by kernel_rfl) (by kernel_rfl) (fun _ _ _ h => h) (fun oi ho => ?_) HSQ.out ?_
                · obtain rfl := Option.some.inj ho
                  exact Or.inl ⟨by rfl, fun wx hSw => by obtain ⟨⟨x0, x1, x2, x3, x4, x5, x6⟩, ⟨y0, y1, y2, y3, y4, y5, y6⟩⟩ := hSw; go_simp⟩
                simp only [Act.put, List.setIfInBounds_toArray, List.set_cons_zero, List.set_cons_succ]
                refine ready_call (i := 10) (d := some 93) (f := 9) (args := #[.agg #[S m, S pp, S q, .int .i64 (v : Int), .slice a fs.length c, S bd, .bool cl], .agg #[S m, S pp, S q, .int .i64 (v : Int), .slice ea fs.length ec, S bd, .bool cl]]) rfl (by kernel_rfl) (fun oi ho => ?_) ?_
                · obtain rfl := Option.some.inj ho
                  exact ⟨by rfl, by go_simp⟩
                refine (dsame_true m pp q bd v cl fs (.slice a fs.length c) (.slice ea fs.length ec) gf gf2 HJ.out.2.2.1 Wq HQ.out.2.1 HQ.out.2.2).mono ?_
                rintro e W8 ⟨rfl, hB⟩
                have hS8 := And.intro (HSQ.out.1.below hB) (HSQ.out.2.below hB)
                have H8 := Lib.hid (HQ.out.1.below HC.out hB)
                clear HSQ hB
                have HSQ := Lib.hid hS8
                clear hS8
                refine ⟨_, rfl, HSQ.out, ?_⟩
                simp only [Act.put, List.setIfInBounds_toArray, List.set_cons_zero, List.set_cons_succ]
                refine take_at (i := 11) (d := some 94) (v := .bool false) rfl (by kernel_rfl) (by kernel_rfl) (by kernel_rfl) (fun _ _ _ h => h) (fun oi ho => ?_) HSQ.out ?_
                · obtain rfl := Option.some.inj ho
                  exact Or.inl ⟨by rfl, fun wx hSw => by go_simp⟩
                simp only [Act.put, List.setIfInBounds_toArray, List.set_cons_zero, List.set_cons_succ]
                refine take_at (i := 12) (d := some 95) (v := .bool false) rfl (by kernel_rfl) (by kernel_rfl) (by kernel_rfl) (fun _ _ _ h => h) (fun oi ho => ?_) HSQ.out ?_
                · obtain rfl := Option.some.inj ho
                  exact Or.inl ⟨by rfl, fun wx hSw => by go_simp⟩
                simp only [Act.put, List.setIfInBounds_toArray, List.set_cons_zero, List.set_cons_succ]
                refine wpAnyH_done (by kernel_rfl) ?_ _
                refine NoPanic.normal ?_
                go_wp2
                exact ⟨⟨j + 1, B + 1, by go_num, Lib.hid ⟨HBJ.out, HJ.out.1, by rw [HJ.out.2.1]; exact H8.out⟩⟩, by simp [intOf]; have := HLL.out; omega⟩
          · obtain rfl : i = N := by omega
            have j4 : decide ((i : Int) < (i : Int)) = false := decide_eq_false (by omega)
            obtain ⟨k, hk⟩ : ∃ k, k = M := ⟨_, rfl⟩
            obtain ⟨hpk, hdr, hke, L2, L3, u2, hL, hd2, hfeed⟩ := HK.out k (by omega)
            have hs1 := HSL.out.1 k (by omega)
            have hs2 := HSL.out.2 k (by omega)
            have HY : Hid (i + 1 ≤ i + 1 ∧ p + k ≤ s.length ∧ (i + 1 = i + 1 → p + k = s.length) ∧ s.drop (p + k) = R.drop k) := Lib.hid ⟨by omega, hpk, fun _ => hke hk, hdr⟩
            clear hdr hpk hke
            subst hk
            have HFD := Lib.hid hfeed
            have HL2 := Lib.hid (And.intro hL hd2)
            clear hfeed hL hd2 HK HSL
            generalize R.take k = X at *
            generalize R.drop k = D at *
            go_wp2_with fail
            refine HFD.out.mono ?_
            rintro e W5 ⟨rfl, h5⟩
            have H5 := Lib.hid h5
            clear h5 HFD
            go_wp2
            go_loopw [10] (fun av wy => ∃ j B : Nat, av = .int .i64 (B : Int) ∧ Hid (B = A + j ∧ j ≤ L2.length ∧ PcAt RA w Wm g2 (L2.drop j) u2 wy)) (fun av _ => L.length + 1 - (intOf av).toNat)
            case atStart => exact ⟨0, A, rfl, Lib.hid ⟨rfl, Nat.zero_le _, by rw [List.drop_zero]; exact H5.out⟩⟩
            case round =>
              obtain ⟨j, B, rfl, HP⟩ := hrel
              rcases pc_next HC.out HP.out.2.2 with ⟨hnil, hcall⟩ | ⟨r, R', hRe, hcall⟩
              · have hj : j = L2.length := by
                  have h1 := HP.out.2.1
                  have h2 := congrArg List.length hnil
                  rw [List.length_drop, List.length_nil] at h2
                  omega
                have HCL := Lib.hid hcall
                have HJ := Lib.hid hj
                clear hnil hcall hj
                go_wp2_with fail
                refine HCL.out.mono ?_
                rintro e W6 ⟨rfl, h6, hs6, hz6⟩
                have hB7 : Below W6.heap.size W6 (W6.alloc (.cells zeroR 30)) := (Below.refl _ W6).alloc (Nat.le_refl _) _
                have H7 : Hid (PcsAt RA w Wm g2 s L p' (p + k) (L1 ++ L2) (W6.alloc (.cells zeroR 30))) := Lib.hid ⟨⟨u2, HL2.out.2, h6.below HC.out hB7⟩, fun k hk => (h6.same hB7 k hk).trans (hs6 k hk), Nat.le_trans hz6 hB7.size⟩
                have HBn : Hid (B = (L1 ++ L2).length) := Lib.hid (by rw [List.length_append, HP.out.1, HJ.out, HA.out])
                unfold zeroR
                clear h6 hs6 hz6 hB7
                go_wp2
                exact ⟨⟨i + 1, p + k, B, L1 ++ L2, HY.out.1, by go_num, HY.out.2.1, fun h => HY.out.2.2.1 (by first | exact h | trivial), rfl, by rw [HY.out.2.2.2], Lib.hid ⟨HBn.out, H7.out⟩⟩, by first | (simp [intOf]; done) | (simp [intOf]; omega) | (unfold intOf; omega)⟩
              · have hjl : j < L2.length := by
                  have h2 := congrArg List.length hRe
                  rw [List.length_drop, List.length_cons] at h2
                  omega
                have hLB : L[B]? = some r := by
                  have e1 : L2[j]? = some r := by
                    have : (L2.drop j)[0]? = some r := by rw [hRe]; rfl
                    rw [List.getElem?_drop, Nat.add_zero] at this
                    exact this
                  rw [HL2.out.1, HP.out.1, HA.out, List.getElem?_append_left (by rw [List.length_append]; omega), List.getElem?_append_right (by omega), Nat.add_sub_cancel_left]
                  exact e1
                obtain ⟨x, hx, hxr⟩ : ∃ x, xs[B]? = some x ∧ x.1 = r := by
                  rw [← HF.out.2.2.1, List.getElem?_map] at hLB
                  cases hxx : xs[B]? with
                  | none => rw [hxx] at hLB; cases hLB
                  | some x => rw [hxx] at hLB; exact ⟨x, rfl, Option.some.inj hLB⟩
                have hBN : B < NL := by rw [HF.out.2.2.2]; exact (List.getElem?_eq_some_iff.1 hx).1
                have hNLb : NL ≤ 20000 := by rw [HF.out.2.2.2, ← List.length_map (f := fun x : Rq × Value × Nat => x.1), HF.out.2.2.1]; exact HD.out.2.2
                have hgt : decide ((B : Int) ≥ (NL : Int)) = false := decide_eq_false (by omega)
                have hgt' : decide ((NL : Int) ≤ (B : Int)) = false := decide_eq_false (by omega)
                have hwB : IntKind.i64.wrap ((B : Int) + 1) = (B : Int) + 1 := by rw [IntKind.wrap_i64]; omega
                have hfl : r.fs.length ≤ 1000000 := drains_fs HD.out.1 r (List.mem_of_getElem? hLB)
                have hdj : L2.drop (j + 1) = R' := by
                  rw [show j + 1 = 1 + j by omega, Nat.add_comm 1 j, ← List.drop_drop, hRe]; rfl
                have HBJ : Hid (B + 1 = A + (j + 1)) := Lib.hid (by have := HP.out.1; omega)
                have HLL : Hid (B < L.length) := Lib.hid (List.getElem?_eq_some_iff.1 hLB).1
                have HJ := Lib.hid (And.intro hjl (And.intro hdj (And.intro hfl hx)))
                subst hxr
                obtain ⟨⟨m, pp, q, v, fs, bd, cl⟩, V0, gf0⟩ := x
                have HCL := Lib.hid hcall
                clear hRe hcall hjl hLB hx hdj hfl
                go_wp2_with fail
                refine HCL.out.mono ?_
                rintro e W6 ⟨a, c, gf, rfl, hf, h6⟩
                unfold rqCells
                dsimp only
                try dsimp only at hf
                obtain ⟨W7, hW7⟩ : ∃ W7, W7 = W6.alloc (.cells (rqCells m pp q v (.slice a fs.length c) bd cl) 30) := ⟨_, rfl⟩
                have hB7 : Below W6.heap.size W6 W7 := by rw [hW7]; exact (Below.refl _ W6).alloc (Nat.le_refl _) _
                have hr7 : Row W7 W6.heap.size (rqCells m pp q v (.slice a fs.length c) bd cl) 30 := by rw [hW7]; exact row_new _ _ _
                obtain ⟨b14, hb14⟩ : ∃ b, b = W6.heap.size := ⟨_, rfl⟩
                rw [← hb14] at hr7
                have h7 := h6.below HC.out hB7
                have hR7 : Reqs W7 w.heap.size KL u6 xs := HF.out.1.kept (fun k hk => h7.same k (HF.out.1.old k hk)) (fun k hk => Nat.lt_of_lt_of_le (HF.out.1.old k hk) h7.size)
                obtain ⟨gl, ea, ec, gf2, hix2, hse, hfe⟩ := hR7.get HJ.out.2.2.2
                try dsimp only at hse hfe
                have H7 := Lib.hid (And.intro h7 (And.intro (hf.below hB7) hfe))
                have HSV := Lib.hid (And.intro (seven_row hr7) hse)
                have hw2 : (W6.alloc (.cells #[S m, S pp, S q, .int .i64 (v : Int), .slice a fs.length c, S bd, .bool cl] 30)) = W7 := hW7.symm
                clear hf h6 h7 hB7 hr7 hR7 hse hfe HP HCL
                go_wp2
                all_goals try rw [hw2]
                all_goals try rw [← hW7]
                all_goals try rw [← hb14]
                clear hw2 hW7 hb14
                obtain ⟨Wq, hWq⟩ : ∃ Wq, Wq = W7.drew := ⟨_, rfl⟩
                have hSq : SevenAt Wq b14 0 (S m) (S pp) (S q) (.int .i64 (v : Int)) (.slice a fs.length c) (S bd) (.bool cl) ∧ SevenAt Wq gl (B * 7) (S m) (S pp) (S q) (.int .i64 (v : Int)) (.slice ea fs.length ec) (S bd) (.bool cl) := by rw [hWq]; exact HSV.out
                have HSQ := Lib.hid hSq
                have hBq : Below W7.heap.size W7 Wq := by rw [hWq]; exact ⟨rfl, rfl, rfl, Nat.le_refl _, fun _ _ => rfl⟩
                have HQ := Lib.hid (And.intro (H7.out.1.below HC.out hBq) (And.intro (H7.out.2.1.below hBq) (H7.out.2.2.below hBq)))
                clear hBq HSV
                refine wp_region_noPanic ?_
                refine wp_region_held_drew (S := fun wx => SevenAt wx b14 0 (S m) (S pp) (S q) (.int .i64 (v : Int)) (.slice a fs.length c) (S bd) (.bool cl) ∧ SevenAt wx gl (B * 7) (S m) (S pp) (S q) (.int .i64 (v : Int)) (.slice ea fs.length ec) (S bd) (.bool cl)) (by kernel_rfl) (by rw [hWq] at hSq; exact hSq) (fun _ => ?_)
                rw [← hWq]
                clear hWq hSq
                refine take_at (i := 0) (d := some 83) (v := .int .i64 (B : Int)) rfl (by kernel_rfl) (by kernel_rfl) (by kernel_rfl) (fun _ _ _ h => h) (fun oi ho => ?_) HSQ.out ?_
                · obtain rfl := Option.some.inj ho
                  exact Or.inl ⟨by rfl, fun wx hSw => by go_simp⟩
                simp only [Act.put, List.setIfInBounds_toArray, List.set_cons_zero, List.set_cons_succ]
                refine take_at (i := 1) (d := some 84) (v := u6) rfl (by kernel_rfl) (by kernel_rfl) (by kernel_rfl) (fun _ _ _ h => h) (fun oi ho => ?_) HSQ.out ?_
                · obtain rfl := Option.some.inj ho
                  exact Or.inl ⟨by rfl, fun wx hSw => by go_simp⟩
                simp only [Act.put, List.setIfInBounds_toArray, List.set_cons_zero, List.set_cons_succ]
                refine take_at (i := 2) (d := some 85) (v := .int .i64 (NL : Int)) rfl (by kernel_rfl) (by kernel_rfl) (by kernel_rfl) (fun _ _ _ h => h) (fun oi ho => ?_) HSQ.out ?_
                · obtain rfl := Option.some.inj ho
                  exact Or.inl ⟨by rfl, fun wx hSw => by go_simp⟩
                simp only [Act.put, List.setIfInBounds_toArray, List.set_cons_zero, List.set_cons_succ]
                refine take_at (i := 3) (d := some 86) (v := .bool false) rfl (by kernel_rfl) (by kernel_rfl) (by kernel_rfl) (fun _ _ _ h => h) (fun oi ho => ?_) HSQ.out ?_
                · obtain rfl := Option.some.inj ho
                  exact Or.inl ⟨by rfl, fun wx hSw => by go_simp⟩
                simp only [Act.put, List.setIfInBounds_toArray, List.set_cons_zero, List.set_cons_succ]
                refine take_at (i := 4) (d := some 87) (v := .bool false) rfl (by kernel_rfl) (by kernel_rfl) (by kernel_rfl) (fun _ _ _ h => h) (fun oi ho => ?_) HSQ.out ?_
                · obtain rfl := Option.some.inj ho
                  exact Or.inl ⟨by rfl, fun wx hSw => by go_simp⟩
                simp only [Act.put, List.setIfInBounds_toArray, List.set_cons_zero, List.set_cons_succ]
                refine take_at (i := 5) (d := some 88) (v := .agg #[S m, S pp, S q, .int .i64 (v : Int), .slice a fs.length c, S bd, .bool cl]) rfl (by kernel_rfl) (by kernel_rfl) (by kernel_rfl) (fun _ _ _ h => h) (fun oi ho => ?_) HSQ.out ?_
                · obtain rfl := Option.some.inj ho
                  exact Or.inl ⟨by rfl, fun wx hSw => by obtain ⟨⟨x0, x1, x2, x3, x4, x5, x6⟩, ⟨y0, y1, y2, y3, y4, y5, y6⟩⟩ := hSw; go_simp⟩
                simp only [Act.put, List.setIfInBounds_toArray, List.set_cons_zero, List.set_cons_succ]
                refine take_at (i := 6) (d := some 89) (v := u6) rfl (by kernel_rfl) (by kernel_rfl) (by kernel_rfl) (fun _ _ _ h => h) (fun oi ho => ?_) HSQ.out ?_
                · obtain rfl := Option.some.inj ho
                  exact Or.inl ⟨by rfl, fun wx hSw => by go_simp⟩
                simp only [Act.put, List.setIfInBounds_toArray, List.set_cons_zero, List.set_cons_succ]
                refine take_at (i := 7) (d := some 90) (v := .int .i64 (B : Int)) rfl (by kernel_rfl) (by kernel_rfl) (by kernel_rfl) (fun _ _ _ h => h) (fun oi ho => ?_) HSQ.out ?_
                · obtain rfl := Option.some.inj ho
                  exact Or.inl ⟨by rfl, fun wx hSw => by go_simp⟩
                simp only [Act.put, List.setIfInBounds_toArray, List.set_cons_zero, List.set_cons_succ]
                refine take_at (i := 8) (d := some 91) (v := .pointer (some ⟨gl, B * 7, none⟩)) rfl (by kernel_rfl) (by kernel_rfl) (by kernel_rfl) (fun _ _ _ h => h) (fun oi ho => ?_) HSQ.out ?_
                · obtain rfl := Option.some.inj ho
                  exact Or.inl ⟨by rfl, fun wx hSw => by go_simp⟩
                simp only [Act.put, List.setIfInBounds_toArray, List.set_cons_zero, List.set_cons_succ]
                refine take_at (i := 9) (d := some 92) (v := .agg #[S m, S pp, S q, .int .i64 (v : Int), .slice ea fs.length ec, S bd, .bool cl]) rfl (by kernel_rfl) (by kernel_rfl) (by kernel_rfl) (fun _ _ _ h => h) (fun oi ho => ?_) HSQ.out ?_
                · obtain rfl := Option.some.inj ho
                  exact Or.inl ⟨by rfl, fun wx hSw => by obtain ⟨⟨x0, x1, x2, x3, x4, x5, x6⟩, ⟨y0, y1, y2, y3, y4, y5, y6⟩⟩ := hSw; go_simp⟩
                simp only [Act.put, List.setIfInBounds_toArray, List.set_cons_zero, List.set_cons_succ]
                refine ready_call (i := 10) (d := some 93) (f := 9) (args := #[.agg #[S m, S pp, S q, .int .i64 (v : Int), .slice a fs.length c, S bd, .bool cl], .agg #[S m, S pp, S q, .int .i64 (v : Int), .slice ea fs.length ec, S bd, .bool cl]]) rfl (by kernel_rfl) (fun oi ho => ?_) ?_
                · obtain rfl := Option.some.inj ho
                  exact ⟨by rfl, by go_simp⟩
                refine (dsame_true m pp q bd v cl fs (.slice a fs.length c) (.slice ea fs.length ec) gf gf2 HJ.out.2.2.1 Wq HQ.out.2.1 HQ.out.2.2).mono ?_
                rintro e W8 ⟨rfl, hB⟩
                have hS8 := And.intro (HSQ.out.1.below hB) (HSQ.out.2.below hB)
                have H8 := Lib.hid (HQ.out.1.below HC.out hB)
                clear HSQ hB
                have HSQ := Lib.hid hS8
                clear hS8
                refine ⟨_, rfl, HSQ.out, ?_⟩
                simp only [Act.put, List.setIfInBounds_toArray, List.set_cons_zero, List.set_cons_succ]
                refine take_at (i := 11) (d := some 94) (v := .bool false) rfl (by kernel_rfl) (by kernel_rfl) (by kernel_rfl) (fun _ _ _ h => h) (fun oi ho => ?_) HSQ.out ?_
                · obtain rfl := Option.some.inj ho
                  exact Or.inl ⟨by rfl, fun wx hSw => by go_simp⟩
                simp only [Act.put, List.setIfInBounds_toArray, List.set_cons_zero, List.set_cons_succ]
                refine take_at (i := 12) (d := some 95) (v := .bool false) rfl (by kernel_rfl) (by kernel_rfl) (by kernel_rfl) (fun _ _ _ h => h) (fun oi ho => ?_) HSQ.out ?_
                · obtain rfl := Option.some.inj ho
                  exact Or.inl ⟨by rfl, fun wx hSw => by go_simp⟩
                simp only [Act.put, List.setIfInBounds_toArray, List.set_cons_zero, List.set_cons_succ]
                refine wpAnyH_done (by kernel_rfl) ?_ _
                refine NoPanic.normal ?_
                go_wp2
                exact ⟨⟨j + 1, B + 1, by go_num, Lib.hid ⟨HBJ.out, HJ.out.1, by rw [HJ.out.2.1]; exact H8.out⟩⟩, by simp [intOf]; have := HLL.out; omega⟩
        · obtain rfl : i = N + 1 := by omega
          have j3 : decide (((N : Int) + 1) ≤ (N : Int)) = false := decide_eq_false (by omega)
          obtain ⟨hA, ⟨u, hu, hO⟩, hsm, hsz⟩ := HP.out
          rw [hend rfl, List.take_length] at hu
          obtain ⟨hLL, hpu⟩ := drains_one HD.out.1 hu
          have hAN : A = NL := by rw [hA, HF.out.2.2.2, ← hLL, ← HF.out.2.2.1, List.length_map]
          have eA : ((A : Int) == (NL : Int)) = true := by rw [beq_iff_eq]; omega
          rw [← hpu] at hO
          have HPP := Lib.hid (PairP.of HC.out HF.out.2.1 hO hsm hsz)
          have e0 : binOp .eql 9 (S p'.buf) (S p'.buf) = pure (.bool true) := by rw [eql_S]; simp
          have g0 := guard_S 9
          have b0 : ∀ (x : Bool) w, (binOp .eql 4 (.bool x) (.bool x)).run Tryd.prog w = .ok (.bool true) w := fun x w => by cases x <;> rfl
          have n0 : ((p'.bad : Int) == (p'.bad : Int)) = true := by simp
          clear hA hu hO hsm hsz hLL hpu hAN HP hend
          go_wp2_with fail
          refine (HPP.out.bad1 HC.out).mono ?_
          rintro e W5 ⟨rfl, h⟩
          have H5 := Lib.hid h
          clear h HPP
          go_wp2_with fail
          refine (H5.out.bad2 HC.out).mono ?_
          rintro e W6 ⟨rfl, h⟩
          have H6 := Lib.hid h
          clear h H5
          go_wp2_with fail
          refine (H6.out.idle1 HC.out).mono ?_
          rintro e W7 ⟨rfl, h⟩
          have H7 := Lib.hid h
          clear h H6
          go_wp2_with fail
          refine (H7.out.idle2 HC.out).mono ?_
          rintro e W8 ⟨rfl, h⟩
          have H8 := Lib.hid h
          clear h H7
          go_wp2_with fail
          refine (H8.out.rest1 HC.out).mono ?_
          rintro e W9 ⟨rfl, h⟩
          have H9 := Lib.hid h
          clear h H8
          go_wp2_with fail
          refine (H9.out.rest2 HC.out).mono ?_
          rintro e W10 ⟨rfl, h⟩
          have H10 := Lib.hid h
          clear h H9
          go_wp2
          go_ret
          exact ⟨rfl, H10.out⟩
end Go.Proofs.YtplajlccnnbifaaDoor
