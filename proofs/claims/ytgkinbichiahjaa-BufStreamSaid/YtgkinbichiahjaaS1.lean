/- The walk of BufStream. -/
import Derived.Test.YtgkinbichiahjaaF1
namespace Go.Proofs.Ytgkinbichiahjaa
open Go.RowKit
attribute [local go_sem] store_one S_match S_store

theorem take_more (s : List UInt8) (G t k : Nat) (h : G ≤ t) : (s.drop G).take (t - G) ++ (s.drop t).take k = (s.drop G).take (t + k - G) := by
  rw [show t + k - G = (t - G) + k by omega, List.take_add, List.drop_drop, show G + (t - G) = t by omega]
theorem take_next (s : List UInt8) (G k : Nat) : s.take G ++ (s.drop G).take k = s.take (G + k) := List.take_add.symm
theorem mid_take (s : List UInt8) (a b k : Nat) (h : k = min b a) : (s.take a).take b = s.take k := by
  rw [List.take_take, h]
theorem mid_drop (s : List UInt8) (G t k : Nat) : ((s.drop G).take (t - G)).drop k = (s.drop (G + k)).take (t - (G + k)) := by
  rw [List.drop_take, List.drop_drop, show t - G - k = t - (G + k) by omega]
theorem mid_len (s : List UInt8) (G t : Nat) (h : t ≤ s.length) : ((s.drop G).take (t - G)).length = t - G := by
  rw [List.length_take, List.length_drop]; omega

/-- What holds while s runs through: t bytes of it were written, G of them read. -/
structure Run (w : World) (g m : Nat) (s : List UInt8) (t G : Nat) (wr : World) : Prop where
  b : BufAt wr g (Under g) true m ((s.drop G).take (t - G))
  bel : Below w.heap.size w wr
  le1 : G ≤ t
  le2 : t ≤ s.length

set_option maxRecDepth 100000 in
set_option maxHeartbeats 4000000 in
theorem stream_any (s : List UInt8) (q : Nat) (hq : q ≤ 65535) (V : Value) (n : Nat) (ad : Nat → Addr) (z : Nat → Nat) (w : World)
    (hV : Came Try.prog w 38 V n ad (fun i => .int .u8 (z i : Int))) (hz : ∀ i, i < n → z i ≤ 255) (hm : MaxAt w) :
    Calls Try.prog 6 #[S s, .int .u16 (q : Int), V] w fun e w' => e = .returned (.bool true) ∧ Below w.heap.size w w' := by
  have hlenV := hV.len 3
  have hlenS := run_len_S (P := Try.prog) Try.underlying9 3 s
  have HV := Lib.hid (And.intro hV hz)
  clear hV hz
  go_enter Try.func6, Try.ntmps6
  go_wp2_with fail
  refine (awake_any w hm).mono ?_
  rintro e W1 ⟨rfl, hB⟩
  have HB := Lib.hid (And.intro hB hm)
  clear hB hm
  by_cases h1 : 5000 < s.length
  · have hb : decide ((5000 : Int) < (s.length : Int)) = true := decide_eq_true (by omega)
    go_wp2
    go_ret
    exact ⟨rfl, HB.out.1⟩
  have hb : decide ((5000 : Int) < (s.length : Int)) = false := decide_eq_false (by omega)
  by_cases h2 : 2000 < n
  · have hb2 : decide ((2000 : Int) < (n : Int)) = true := decide_eq_true (by omega)
    go_wp2
    go_ret
    exact ⟨rfl, HB.out.1⟩
  have hb2 : decide ((2000 : Int) < (n : Int)) = false := decide_eq_false (by omega)
  have HZ : Hid (s.length ≤ 5000 ∧ n ≤ 2000) := Lib.hid ⟨by omega, by omega⟩
  have hcq : ∀ w, (convert 42 3 (.int .u16 (q : Int))).run Try.prog w = .ok (.int .i64 (q : Int)) w := fun w => by
    have e : IntKind.i64.wrap (q : Int) = (q : Int) := by rw [IntKind.wrap_i64]; omega
    simp [convert, run_underlying Try.underlying42, run_underlying Try.underlying3, e, go_sem]
  have hwm : IntKind.i64.wrap (1 + (q : Int)) = 1 + (q : Int) := by rw [IntKind.wrap_i64]; omega
  obtain ⟨m, hmq⟩ : ∃ m : Nat, m = 1 + q := ⟨_, rfl⟩
  have hmI : (m : Int) = 1 + (q : Int) := by omega
  have HMQ : Hid ((m : Int) = 1 + (q : Int) ∧ m ≤ 65536) := Lib.hid ⟨hmI, by omega⟩
  clear h1 h2 hq hmq
  go_wp2_with fail
  rw [← hmI]
  refine (new_good m W1 (by have := HMQ.out.2; omega)).mono ?_
  rintro e W2 ⟨rfl, hF, hzz, hB2⟩
  rw [hmI]
  clear hmI
  have hR : Run w W1.heap.size m s 0 0 W2 := ⟨by
    rw [List.take_zero]
    exact hF.buf _ (fun k hk => by unfold Under at hk; omega) (by have := HMQ.out.2; omega), HB.out.1.trans (hB2.mono HB.out.1.size), Nat.le_refl _, Nat.zero_le _⟩
  have HR := Lib.hid hR
  have HG : Hid (w.heap.size ≤ W1.heap.size) := Lib.hid HB.out.1.size
  have hs0 : Value.string ⟨#[]⟩ = S (s.take 0) := rfl
  clear hF hB2 hzz hR
  generalize W1.heap.size = g at *
  go_wp2
  go_loopw [9, 10, 11] (fun gv tv iv wr => ∃ (i t G : Nat), i ≤ n ∧ iv = .int .i64 i ∧ tv = .int .i64 t ∧ gv = S (s.take G) ∧ Run w g m s t G wr) (fun _ _ iv _ => n - (intOf iv).toNat)
  case atStart => exact ⟨0, 0, 0, Nat.zero_le _, rfl, rfl, rfl, HR.out⟩
  case round =>
    obtain ⟨i, t, G, hi, rfl, rfl, rfl, hR2⟩ := hrel
    have HR2 := Lib.hid hR2
    have hle1 := hR2.le1
    have hle2 := hR2.le2
    have hfit := hR2.b.fits
    rw [mid_len s G t hle2] at hfit
    have hn2000 := HZ.out.2
    have hs5000 := HZ.out.1
    have hm6 := HMQ.out.2
    clear hR2
    by_cases hlt : i < n
    · have hb4 : decide ((i : Int) < (n : Int)) = true := decide_eq_true (by omega)
      have hb5 : decide (i < n) = true := decide_eq_true hlt
      have hidx := HV.out.1.index i hlt
      have hcell : wr.cell? (ad i) = some (.int .u8 (z i : Int)) := by
        have hc := HV.out.1.cell i hlt
        rw [HR2.out.bel.cell (World.block_lt_of_cell? w _ hc)]; exact hc
      have hcz : ∀ w, (convert 5 3 (.int .u8 (z i : Int))).run Try.prog w = .ok (.int .i64 (z i : Int)) w := fun w => by
        have := HV.out.2 i hlt
        have e : IntKind.i64.wrap (z i : Int) = (z i : Int) := by rw [IntKind.wrap_i64]; omega
        simp [convert, run_underlying Try.underlying5, run_underlying Try.underlying3, e, go_sem]
      have hz255 := HV.out.2 i hlt
      generalize z i = nn at *
      have hx := mid_len s G t hle2
      obtain ⟨x, hxd⟩ : ∃ x, x = (s.drop G).take (t - G) := ⟨_, rfl⟩
      rw [← hxd] at hx
      have hbx : BufAt wr g (Under g) true m x := by rw [hxd]; exact HR2.out.b
      have HX := Lib.hid (And.intro hxd (And.intro hx hbx))
      clear hxd hbx
      have hi63 : i ≤ 2000 := by omega
      by_cases hev : i % 2 = 0
      · have hpar : ((Int.tmod (i : Int) 2) == 0) = true := by rw [show Int.tmod (i : Int) 2 = ((i % 2 : Nat) : Int) from rfl, beq_iff_eq]; omega
        have hxl := HX.out.2.1
        obtain ⟨r, hr⟩ : ∃ r, r = m - x.length := ⟨_, rfl⟩
        have hroom := room_any g (Under g) true m x wr HX.out.2.2
        rw [← hr] at hroom
        obtain ⟨E, hE⟩ : ∃ E, E = min s.length (t + nn) := ⟨_, rfl⟩
        have hmi : ∀ w, (Builtin.min_ #[3, 3] 3 #[.int .i64 (s.length : Int), .int .i64 ((t : Int) + (nn : Int))]).run Try.prog w = .ok (.int .i64 (E : Int)) w := fun w => by
          rw [run_min_int2]; congr 2; split <;> omega
        have hw1 : IntKind.i64.wrap ((t : Int) + (nn : Int)) = (t : Int) + (nn : Int) := by rw [IntKind.wrap_i64]; omega
        obtain ⟨u, hu⟩ : ∃ u, u = (s.drop t).take (E - t) := ⟨_, rfl⟩
        have hsl : ∀ w, (Instr.slice 9 (S s) (some (.int .i64 (t : Int))) (some (.int .i64 (E : Int))) none).run Try.prog w = .ok (S u) w := fun w => by
          rw [hu]; exact slice_mid (P := Try.prog) Try.underlying9 s t E (by omega) (by omega) w
        obtain ⟨U, hU⟩ : ∃ U, U = u.length := ⟨_, rfl⟩
        have hUl : U = E - t := by rw [hU, hu]; exact mid_len s t E (by omega)
        have hlu := run_len_S (P := Try.prog) Try.underlying9 3 u
        rw [← hU] at hlu
        obtain ⟨k, hk⟩ : ∃ k, k = min U r := ⟨_, rfl⟩
        have hmi2 : ∀ w, (Builtin.min_ #[3, 3] 3 #[.int .i64 (r : Int), .int .i64 (U : Int)]).run Try.prog w = .ok (.int .i64 (k : Int)) w := fun w => by
          rw [run_min_int2]; congr 2; split <;> omega
        have hw2 : IntKind.i64.wrap ((t : Int) + (k : Int)) = (t : Int) + (k : Int) := by rw [IntKind.wrap_i64]; omega
        have hwrite : Hid (∀ W, BufAt W g (Under g) true m x → Calls Try.prog 9 #[.pointer (some ⟨g, 0, none⟩), S u] W fun e w' => e = .returned (.int .i64 (k : Int)) ∧ BufAt w' g (Under g) true m ((s.drop G).take (t + k - G)) ∧ Spare g (Under g) W w') := Lib.hid fun W hb => by
          have h := write_any g (Under g) true m x u W hb (by simp only [maxLen]; omega)
          rw [← hr, ← hU, ← hk] at h
          have e : x ++ u.take r = (s.drop G).take (t + k - G) := by
            rw [HX.out.1, hu, mid_take (s.drop t) (E - t) r k (by omega)]
            exact take_more s G t k hle1
          rw [e] at h
          exact h
        have HK : Hid (G ≤ t + k ∧ t + k ≤ s.length) := Lib.hid ⟨by omega, by omega⟩
        have htk : t + k ≤ 5000 := by omega
        have HLT := Lib.hid hlt
        clear hr hE hu hU hUl hk hxl hx hlt hfit
        go_wp2_with fail
        refine hroom.mono ?_
        rintro e W3 ⟨rfl, hD⟩
        have H3 : Hid (BufAt W3 g (Under g) true m x ∧ Below w.heap.size w W3) := Lib.hid ⟨HX.out.2.2.drawn hD, HR2.out.bel.trans (((Spare.of_drawn (g := g) (A := Under g) hD).below (Nat.le_refl _)).mono HG.out)⟩
        clear hD hroom
        go_wp2_with fail
        refine (hwrite.out W3 H3.out.1).mono ?_
        rintro e W4 ⟨rfl, b4, s4⟩
        have H4 : Hid (Run w g m s (t + k) G W4) := Lib.hid ⟨b4, H3.out.2.trans ((s4.below (Nat.le_refl _)).mono HG.out), HK.out.1, HK.out.2⟩
        clear b4 s4
        go_wp2
        exact ⟨⟨i + 1, t + k, G, HLT.out, by go_num, by go_num, rfl, H4.out⟩, by have := HLT.out; simp [intOf]; omega⟩
      · have hpar : ((Int.tmod (i : Int) 2) == 0) = false := by rw [show Int.tmod (i : Int) 2 = ((i % 2 : Nat) : Int) from rfl, beq_eq_false_iff_ne]; omega
        have hxl := HX.out.2.1
        obtain ⟨k, hk⟩ : ∃ k, k = min nn (t - G) := ⟨_, rfl⟩
        obtain ⟨R, hR⟩ : ∃ R, R = x.take nn := ⟨_, rfl⟩
        have hRk : R = (s.drop G).take k := by rw [hR, HX.out.1]; exact mid_take (s.drop G) (t - G) nn k hk
        have hRl : R.length = k := by rw [hR, List.length_take]; omega
        have hlR := run_len_S (P := Try.prog) Try.underlying9 3 R
        rw [hRl] at hlR
        obtain ⟨N, hN⟩ : ∃ N, N = G + k := ⟨_, rfl⟩
        have hadd : binOp .add 9 (S (s.take G)) (S R) = pure (S (s.take N)) := by
          rw [S_add 9 _ _ (by rw [List.length_take, hRl]; omega), hRk, take_next, hN]
        have hlN : ∀ w, (Builtin.len_ #[9] 3 #[S (s.take N)]).run Try.prog w = .ok (.int .i64 (N : Int)) w := fun w => by
          have := run_len_S (P := Try.prog) Try.underlying9 3 (s.take N) w
          rw [List.length_take, Nat.min_eq_left (by omega)] at this
          exact this
        have hslN : ∀ w, (Instr.slice 9 (S s) none (some (.int .i64 (N : Int))) none).run Try.prog w = .ok (S (s.take N)) w := fun w => slice_take (P := Try.prog) Try.underlying9 s N (by omega) w
        have hneqR : binOp .neq 9 (S R) (S R) = pure (.bool false) := by rw [neql_S]; simp
        have hneqN : binOp .neq 9 (S (s.take N)) (S (s.take N)) = pure (.bool false) := by rw [neql_S]; simp
        have hgd := nguard_S 9
        have hd1 : decide ((nn : Int) < (k : Int)) = false := decide_eq_false (by omega)
        have hd1' : decide (nn < k) = false := decide_eq_false (by omega)
        have hd2 : decide ((s.length : Int) < (N : Int)) = false := decide_eq_false (by omega)
        have hd2' : decide (s.length < N) = false := decide_eq_false (by omega)
        obtain ⟨y, hy⟩ : ∃ y, y = x.drop R.length := ⟨_, rfl⟩
        have hyd : y = (s.drop N).take (t - N) := by rw [hy, hRl, HX.out.1, hN]; exact mid_drop s G t k
        obtain ⟨Y, hY⟩ : ∃ Y, Y = y.length := ⟨_, rfl⟩
        have hYl : Y = t - N := by rw [hY, hyd]; exact mid_len s N t hle2
        obtain ⟨r, hr⟩ : ∃ r, r = m - y.length := ⟨_, rfl⟩
        have hsum : IntKind.i64.wrap ((Y : Int) + (r : Int)) = 1 + (q : Int) := by have := HMQ.out.1; rw [IntKind.wrap_i64]; omega
        have hsum2 : IntKind.i64.wrap ((N : Int) + (Y : Int)) = (t : Int) := by rw [IntKind.wrap_i64]; omega
        have hpeek : Hid (∀ W, BufAt W g (Under g) true m x → Calls Try.prog 17 #[.pointer (some ⟨g, 0, none⟩), .int .i64 (nn : Int)] W fun e w' => e = .returned (S R) ∧ Drawn W w') := Lib.hid fun W hb => by
          have h := peek_any g (Under g) true m x (nn : Int) W hb
          rw [peekF_nat, ← hR] at h
          exact h
        have hread : Hid (∀ W, BufAt W g (Under g) true m x → Calls Try.prog 11 #[.pointer (some ⟨g, 0, none⟩), .int .i64 (nn : Int)] W fun e w' => e = .returned (S R) ∧ BufAt w' g (Under g) true m y ∧ Spare g (Under g) W w') := Lib.hid fun W hb => by
          have h := read_any g (Under g) true m x (nn : Int) W hb
          rw [peekF_nat, ← hR, ← hy] at h
          exact h
        have hleny : Hid (∀ W, BufAt W g (Under g) true m y → Calls Try.prog 20 #[.pointer (some ⟨g, 0, none⟩)] W fun e w' => e = .returned (.int .i64 (Y : Int)) ∧ Drawn W w') := Lib.hid fun W hb => by
          rw [hY]; exact len_any g _ true m y W hb
        have hroomy : Hid (∀ W, BufAt W g (Under g) true m y → Calls Try.prog 13 #[.pointer (some ⟨g, 0, none⟩)] W fun e w' => e = .returned (.int .i64 (r : Int)) ∧ Drawn W w') := Lib.hid fun W hb => by
          rw [hr]; exact room_any g _ true m y W hb
        have HK : Hid (y = (s.drop N).take (t - N) ∧ N ≤ t ∧ t ≤ s.length) := Lib.hid ⟨hyd, by omega, hle2⟩
        have HLT := Lib.hid hlt
        clear hk hR hRk hRl hN hy hyd hY hYl hr hxl hx hlt hfit
        go_wp2_with fail
        refine (hpeek.out wr HX.out.2.2).mono ?_
        rintro e W3 ⟨rfl, hD⟩
        have H3 : Hid (BufAt W3 g (Under g) true m x ∧ Below w.heap.size w W3) := Lib.hid ⟨HX.out.2.2.drawn hD, HR2.out.bel.trans (((Spare.of_drawn (g := g) (A := Under g) hD).below (Nat.le_refl _)).mono HG.out)⟩
        clear hD
        go_wp2_with fail
        refine (hread.out W3 H3.out.1).mono ?_
        rintro e W4 ⟨rfl, b4, s4⟩
        have H4 : Hid (BufAt W4 g (Under g) true m y ∧ Below w.heap.size w W4) := Lib.hid ⟨b4, H3.out.2.trans ((s4.below (Nat.le_refl _)).mono HG.out)⟩
        clear b4 s4
        go_wp2_with fail
        refine (hleny.out W4 H4.out.1).mono ?_
        rintro e W5 ⟨rfl, hD⟩
        have H5 : Hid (BufAt W5 g (Under g) true m y ∧ Below w.heap.size w W5) := Lib.hid ⟨H4.out.1.drawn hD, H4.out.2.trans (((Spare.of_drawn (g := g) (A := Under g) hD).below (Nat.le_refl _)).mono HG.out)⟩
        clear hD
        go_wp2_with fail
        refine (hroomy.out W5 H5.out.1).mono ?_
        rintro e W6 ⟨rfl, hD⟩
        have H6 : Hid (BufAt W6 g (Under g) true m y ∧ Below w.heap.size w W6) := Lib.hid ⟨H5.out.1.drawn hD, H5.out.2.trans (((Spare.of_drawn (g := g) (A := Under g) hD).below (Nat.le_refl _)).mono HG.out)⟩
        clear hD
        go_wp2_with fail
        refine (hleny.out W6 H6.out.1).mono ?_
        rintro e W7 ⟨rfl, hD⟩
        have H7 : Hid (Run w g m s t N W7) := Lib.hid ⟨by rw [← HK.out.1]; exact H6.out.1.drawn hD, H6.out.2.trans (((Spare.of_drawn (g := g) (A := Under g) hD).below (Nat.le_refl _)).mono HG.out), HK.out.2.1, HK.out.2.2⟩
        clear hD
        go_wp2
        exact ⟨⟨i + 1, t, N, HLT.out, by go_num, rfl, rfl, H7.out⟩, by have := HLT.out; simp [intOf]; omega⟩
    · have hb4 : decide ((i : Int) < (n : Int)) = false := decide_eq_false (by omega)
      have hb5 : decide (i < n) = false := decide_eq_false hlt
      go_wp2
      obtain ⟨x, hxd⟩ : ∃ x, x = (s.drop G).take (t - G) := ⟨_, rfl⟩
      have hxl : x.length ≤ 5000 := by rw [hxd, mid_len s G t hle2]; omega
      have hadd : binOp .add 9 (S (s.take G)) (S x) = pure (S (s.take t)) := by
        rw [S_add 9 _ _ (by rw [List.length_take]; omega), hxd, take_next, show G + (t - G) = t by omega]
      have hslt : ∀ w, (Instr.slice 9 (S s) none (some (.int .i64 (t : Int))) none).run Try.prog w = .ok (S (s.take t)) w := fun w => slice_take (P := Try.prog) Try.underlying9 s t hle2 w
      have heq : binOp .eql 9 (S (s.take t)) (S (s.take t)) = pure (.bool true) := by rw [eql_S]; simp
      have hgd := guard_S 9
      obtain ⟨Wq, hWq⟩ : ∃ Wq, Wq = wr.drew := ⟨_, rfl⟩
      have HQ : Hid (BufAt Wq g (Under g) true m x ∧ Below w.heap.size w Wq) := Lib.hid ⟨by rw [hxd]; exact HR2.out.b.drawn ⟨1, hWq⟩, HR2.out.bel.trans (((Spare.of_drawn (g := g) (A := Under g) (⟨1, hWq⟩ : Drawn wr Wq)).below (Nat.le_refl _)).mono HG.out)⟩
      have hread : Calls Try.prog 11 #[.pointer (some ⟨g, 0, none⟩), .int .i64 5000] Wq fun e w' => e = .returned (S x) ∧ BufAt w' g (Under g) true m [] ∧ Spare g (Under g) Wq w' := by
        have h := read_any g (Under g) true m x 5000 Wq HQ.out.1
        have e : peekF x 5000 = x := by
          have := peekF_nat x 5000
          rw [List.take_of_length_le hxl] at this
          exact this
        rw [e, List.drop_length] at h
        exact h
      clear hxd
      generalize s.take G = T0 at *
      generalize s.take t = T1 at *
      refine wp_region_noPanic ?_
      refine wp_region_held_drew (S := fun _ => True) (by kernel_rfl) trivial (fun _ => ?_)
      rw [← hWq]
      clear hWq
      refine take_at (i := 0) (d := some 129) (v := S T0) rfl (by kernel_rfl) (by kernel_rfl) (by kernel_rfl) (fun _ _ _ h => h) (fun oi ho => ?_) trivial ?_
      · obtain rfl := Option.some.inj ho
        exact Or.inl ⟨by rfl, fun wx hSw => by go_simp⟩
      simp only [Act.put, List.setIfInBounds_toArray, List.set_cons_zero, List.set_cons_succ]
      refine take_at (i := 1) (d := some 130) (v := .pointer (some ⟨g, 0, none⟩)) rfl (by kernel_rfl) (by kernel_rfl) (by kernel_rfl) (fun _ _ _ h => h) (fun oi ho => ?_) trivial ?_
      · obtain rfl := Option.some.inj ho
        exact Or.inl ⟨by rfl, fun wx hSw => by go_simp⟩
      simp only [Act.put, List.setIfInBounds_toArray, List.set_cons_zero, List.set_cons_succ]
      refine take_at (i := 4) (d := some 133) (v := S s) rfl (by kernel_rfl) (by kernel_rfl) (by kernel_rfl) (fun _ _ _ h => h) (fun oi ho => ?_) trivial ?_
      · obtain rfl := Option.some.inj ho
        exact Or.inl ⟨by rfl, fun wx hSw => by go_simp⟩
      simp only [Act.put, List.setIfInBounds_toArray, List.set_cons_zero, List.set_cons_succ]
      refine take_at (i := 5) (d := some 134) (v := .int .i64 (t : Int)) rfl (by kernel_rfl) (by kernel_rfl) (by kernel_rfl) (fun _ _ _ h => h) (fun oi ho => ?_) trivial ?_
      · obtain rfl := Option.some.inj ho
        exact Or.inl ⟨by rfl, fun wx hSw => by go_simp⟩
      simp only [Act.put, List.setIfInBounds_toArray, List.set_cons_zero, List.set_cons_succ]
      refine take_at (i := 6) (d := some 135) (v := S T1) rfl (by kernel_rfl) (by kernel_rfl) (by kernel_rfl) (fun _ _ _ h => h) (fun oi ho => ?_) trivial ?_
      · obtain rfl := Option.some.inj ho
        exact Or.inl ⟨by rfl, fun wx hSw => by go_simp⟩
      simp only [Act.put, List.setIfInBounds_toArray, List.set_cons_zero, List.set_cons_succ]
      refine ready_call (i := 2) (d := some 131) (f := 11) (args := #[.pointer (some ⟨g, 0, none⟩), .int .i64 5000]) rfl (by kernel_rfl) (fun oi ho => ?_) ?_
      · obtain rfl := Option.some.inj ho
        exact ⟨by rfl, by go_simp⟩
      refine hread.mono ?_
      rintro e W3 ⟨rfl, b3, s3⟩
      have H3 : Hid (BufAt W3 g (Under g) true m [] ∧ Below w.heap.size w W3) := Lib.hid ⟨b3, HQ.out.2.trans ((s3.below (Nat.le_refl _)).mono HG.out)⟩
      clear b3 s3 hread
      refine ⟨_, rfl, trivial, ?_⟩
      simp only [Act.put, List.setIfInBounds_toArray, List.set_cons_zero, List.set_cons_succ]
      refine take_at (i := 3) (d := some 132) (v := S T1) rfl (by kernel_rfl) (by kernel_rfl) (by kernel_rfl) (fun _ _ _ h => h) (fun oi ho => ?_) trivial ?_
      · obtain rfl := Option.some.inj ho
        exact Or.inl ⟨by rfl, fun wx hSw => by go_simp⟩
      simp only [Act.put, List.setIfInBounds_toArray, List.set_cons_zero, List.set_cons_succ]
      refine take_at (i := 7) (d := some 136) (v := .bool true) rfl (by kernel_rfl) (by kernel_rfl) (by kernel_rfl) (fun _ _ _ h => h) (fun oi ho => ?_) trivial ?_
      · obtain rfl := Option.some.inj ho
        exact Or.inl ⟨by rfl, fun wx hSw => by go_simp⟩
      simp only [Act.put, List.setIfInBounds_toArray, List.set_cons_zero, List.set_cons_succ]
      refine take_at (i := 8) (d := some 137) (v := .bool true) rfl (by kernel_rfl) (by kernel_rfl) (by kernel_rfl) (fun _ _ _ h => h) (fun oi ho => ?_) trivial ?_
      · obtain rfl := Option.some.inj ho
        exact Or.inl ⟨by rfl, fun wx hSw => by go_simp⟩
      simp only [Act.put, List.setIfInBounds_toArray, List.set_cons_zero, List.set_cons_succ]
      refine take_at (i := 9) (d := some 138) (v := .pointer (some ⟨g, 0, none⟩)) rfl (by kernel_rfl) (by kernel_rfl) (by kernel_rfl) (fun _ _ _ h => h) (fun oi ho => ?_) trivial ?_
      · obtain rfl := Option.some.inj ho
        exact Or.inl ⟨by rfl, fun wx hSw => by go_simp⟩
      simp only [Act.put, List.setIfInBounds_toArray, List.set_cons_zero, List.set_cons_succ]
      have hl0 : Calls Try.prog 20 #[.pointer (some ⟨g, 0, none⟩)] W3 fun e w' => e = .returned (.int .i64 0) ∧ Drawn W3 w' := len_any g _ true m [] W3 H3.out.1
      refine ready_call (i := 10) (d := some 139) (f := 20) (args := #[.pointer (some ⟨g, 0, none⟩)]) rfl (by kernel_rfl) (fun oi ho => ?_) ?_
      · obtain rfl := Option.some.inj ho
        exact ⟨by rfl, by go_simp⟩
      refine hl0.mono ?_
      rintro e W4 ⟨rfl, hD⟩
      have H4 : Hid (Below w.heap.size w W4) := Lib.hid (H3.out.2.trans (((Spare.of_drawn (g := g) (A := Under g) hD).below (Nat.le_refl _)).mono HG.out))
      clear hD hl0
      refine ⟨_, rfl, trivial, ?_⟩
      simp only [Act.put, List.setIfInBounds_toArray, List.set_cons_zero, List.set_cons_succ]
      refine take_at (i := 11) (d := some 140) (v := .bool true) rfl (by kernel_rfl) (by kernel_rfl) (by kernel_rfl) (fun _ _ _ h => h) (fun oi ho => ?_) trivial ?_
      · obtain rfl := Option.some.inj ho
        exact Or.inl ⟨by rfl, fun wx hSw => by go_simp⟩
      simp only [Act.put, List.setIfInBounds_toArray, List.set_cons_zero, List.set_cons_succ]
      refine take_at (i := 12) (d := some 141) (v := .bool true) rfl (by kernel_rfl) (by kernel_rfl) (by kernel_rfl) (fun _ _ _ h => h) (fun oi ho => ?_) trivial ?_
      · obtain rfl := Option.some.inj ho
        exact Or.inl ⟨by rfl, fun wx hSw => by go_simp⟩
      simp only [Act.put, List.setIfInBounds_toArray, List.set_cons_zero, List.set_cons_succ]
      refine take_at (i := 13) (d := some 6) (v := .bool true) rfl (by kernel_rfl) (by kernel_rfl) (by kernel_rfl) (fun _ _ _ h => h) (fun oi ho => ?_) trivial ?_
      · obtain rfl := Option.some.inj ho
        exact Or.inl ⟨by rfl, fun wx hSw => by go_simp⟩
      simp only [Act.put, List.setIfInBounds_toArray, List.set_cons_zero, List.set_cons_succ]
      refine wpAnyH_done (by kernel_rfl) ?_ _
      refine NoPanic.normal ?_
      go_wp2
      go_ret
      exact ⟨rfl, H4.out⟩
end Go.Proofs.Ytgkinbichiahjaa
