/- The document's Reads walked. (mkcf.py writes it.) -/
import Derived.Test.YtplajlccnnbifaaGreatDoorCe
import Derived.Test.YtplajlccnnbifaaGreatDoorQr
import Derived.Test.YtplajlccnnbifaaGreatDoorCg
namespace Go.Proofs.YtplajlccnnbifaaGreatDoor
open Go.RowKit
attribute [local go_sem] store_one S_match S_store eguard_BN nguard_BN nguard_B

theorem ln_stop {s : List UInt8} {a : Nat} {st part : Cst} {next : List UInt8 → Nat → Cst} {o : List UInt8 × Nat × Nat × Bool} (hU : Upto s a st) (hL : LineAt a (s.drop a) st part next o) (hw : o.2.2.2 = false)
    (hpd : part.data = st.data) (hps : part.isDone = false) (hpb : part.badN = 0) : readsV s = .tuple #[.int .i64 (o.2.1 : Int), S st.data, .bool false, .int .i64 (o.2.2.1 : Int)] := by
  obtain ⟨h1, h2, h3, h4, h5⟩ := hL
  unfold readsV
  rw [hU.2]
  by_cases hc : o.2.2.1 = 0
  · obtain ⟨g1, g2⟩ := h4 hw hc
    rw [g2, hc]
    simp only [hpd, hps, hpb]
    rw [g1]
  · rw [h5 hw hc]
    show Value.tuple #[.int .i64 ((a + (o.2.1 - a) : Nat) : Int), S st.data, .bool false, .int .i64 (o.2.2.1 : Int)] = _
    rw [show a + (o.2.1 - a) = o.2.1 by omega]
theorem ln_whole {s : List UInt8} {a : Nat} {st part : Cst} {next : List UInt8 → Nat → Cst} {o : List UInt8 × Nat × Nat × Bool} (hU : Upto s a st) (hL : LineAt a (s.drop a) st part next o) (hw : o.2.2.2 = true) :
    a < o.2.1 ∧ o.2.1 ≤ s.length ∧ Upto s o.2.1 (next o.1 (o.2.1 - a)) := by
  obtain ⟨h1, h2, h3, h4, h5⟩ := hL
  obtain ⟨g1, g2⟩ := h3 hw
  have hle : o.2.1 ≤ s.length := by have := hU.1; rw [List.length_drop] at h2; omega
  refine ⟨g1, hle, ?_⟩
  have := hU.step (k := o.2.1 - a) (st' := next o.1 (o.2.1 - a)) (by omega) (by
    rw [g2, List.drop_drop])
  rwa [show a + (o.2.1 - a) = o.2.1 by omega] at this
theorem readsV_of {s : List UInt8} {n : Nat} {st : Cst} (h : Cst.new.run s = (n, st)) : readsV s = .tuple #[.int .i64 (n : Int), S st.data, .bool st.isDone, .int .i64 (st.badN : Int)] := by
  unfold readsV; rw [h]
theorem head_none {t d : List UInt8} (h : sizeF t = none) : headF t d = .bad 400 := by unfold headF; rw [h]
theorem head_some {t d : List UInt8} {x : Nat} (h : sizeF t = some x) : headF t d = if 4096 < d.length + x then .bad 413 else if x = 0 then .tail [] 0 0 else .body x := by unfold headF; rw [h]
theorem upto_part {s d : List UInt8} {a x : Nat} (hU : Upto s a ⟨.body x, d⟩) (h : s.length < a + x) : readsV s = .tuple #[.int .i64 (s.length : Int), S (d ++ s.drop a), .bool false, .int .i64 0] := by
  have h1 := hU.1
  have h2 := hU.2
  rw [run_part (s.drop a) d x (by rw [List.length_drop]; omega), List.length_drop] at h2
  rw [readsV_of h2]
  show Value.tuple #[.int .i64 ((a + (s.length - a) : Nat) : Int), S (d ++ s.drop a), .bool false, .int .i64 0] = _
  rw [show a + (s.length - a) = s.length by omega]
theorem upto_body {s d : List UInt8} {a x : Nat} (hU : Upto s a ⟨.body x, d⟩) (hx : x ≠ 0) (h : a + x ≤ s.length) : Upto s (a + x) ⟨.cr, d ++ (s.drop a).take x⟩ := by
  have hl : ((s.drop a).take x).length = x := by rw [List.length_take, List.length_drop]; omega
  refine hU.step h ?_
  have e : s.drop a = (s.drop a).take x ++ s.drop (a + x) := by
    conv => lhs; rw [← List.take_append_drop x (s.drop a)]
    rw [List.drop_drop]
  have hr := run_body ((s.drop a).take x) d (by intro e2; rw [e2] at hl; exact hx hl.symm)
  rw [hl] at hr
  conv => lhs; rw [e]
  rw [run_append, hr]
theorem upto_over {s d : List UInt8} {a : Nat} {ph : Ph} (hU : Upto s a ⟨ph, d⟩) (h : a = s.length) (h1 : Cst.isDone ⟨ph, d⟩ = false) (h2 : Cst.badN ⟨ph, d⟩ = 0) : readsV s = .tuple #[.int .i64 (a : Int), S d, .bool false, .int .i64 0] := by
  subst h
  rw [readsV_of hU.over, h1, h2]; rfl
theorem upto_bad {s d : List UInt8} {a b : Nat} (hU : Upto s a ⟨.bad b, d⟩) : readsV s = .tuple #[.int .i64 (a : Int), S d, .bool false, .int .i64 (b : Int)] := by
  rw [readsV_of (hU.stop rfl)]; rfl
theorem upto_done {s d : List UInt8} {a : Nat} (hU : Upto s a ⟨.done, d⟩) : readsV s = .tuple #[.int .i64 (a : Int), S d, .bool true, .int .i64 0] := by
  rw [readsV_of (hU.stop rfl)]; rfl
theorem drew_below {n : Nat} {w W : World} (h : Below n w W) : Below n w W.drew := h.trans ⟨rfl, rfl, rfl, Nat.le_refl _, fun _ _ => rfl⟩

set_option maxRecDepth 100000 in
set_option maxHeartbeats 2000000 in
theorem docReads : DocReads := by
  intro s w hs
  have hlen := run_len_S (P := Tryz.prog) Tryz.underlying9 3 s
  have hmx : Tryz.prog.follows .mixedOrders = true := by kernel_rfl
  obtain ⟨L, hL⟩ : ∃ L, L = s.length := ⟨_, rfl⟩
  rw [← hL] at hlen hs
  have HL := Lib.hid hL
  clear hL
  have HLS : Hid (∀ r w, (Builtin.len_ #[9] 3 #[S r]).run Tryz.prog w = .ok (.int .i64 (r.length : Int)) w) := Lib.hid fun r => run_len_S (P := Tryz.prog) Tryz.underlying9 3 r
  have HS := Lib.hid (show s.length ≤ 100000 by have := HL.out; omega)
  obtain ⟨V, hV⟩ : ∃ V, V = readsV s := ⟨_, rfl⟩
  rw [← hV]
  have HV := Lib.hid hV
  clear hV
  go_enter Tryz.func33, Tryz.ntmps33
  go_wp2
  go_loopw [3, 6] (fun dv av wr => ∃ (d : List UInt8) (a : Nat), a ≤ L ∧ d.length ≤ 4096 ∧ dv = S d ∧ av = .int .i64 (a : Int) ∧ Below w.heap.size w wr ∧ Upto s a ⟨.head [], d⟩) (fun _ av _ => L - (intOf av).toNat)
  case atStart => exact ⟨[], 0, Nat.zero_le _, by simp, rfl, rfl, Below.refl _ _, upto_new s⟩
  case round =>
    obtain ⟨d, a, ha, hd, rfl, rfl, hB, hU⟩ := hrel
    have HB := Lib.hid hB
    have HX := Lib.hid (And.intro hU hd)
    clear hB hU hd
    have hcl : Calls Tryz.prog 56 #[S s, .int .i64 (a : Int), .int .i64 2048, .int .i64 (-1)] wr fun e w' => e = .returned (lnV (lnGo 2048 (-1) a [] (s.drop a))) ∧ w' = wr := dline_head s a HS.out (by have := HL.out; omega) wr
    have hla := line_head (s.drop a) a [] d
    have htl := ln_le 2048 (-1) (s.drop a) a []
    obtain ⟨⟨t, nx, cd, wh⟩, hO⟩ : ∃ p, p = lnGo 2048 (-1) a [] (s.drop a) := ⟨_, rfl⟩
    rw [← hO] at hcl hla htl
    rw [show lnV (t, nx, cd, wh) = .tuple #[S t, .int .i64 (nx : Int), .int .i64 (cd : Int), .bool wh] from rfl] at hcl
    have HC := Lib.hid hcl
    have htl2 : t.length ≤ 100000 := by
      simp only [List.length_nil, List.length_drop] at htl
      have := HS.out
      omega
    clear hcl hO htl
    cases wh with
    | false =>
      have HP : Hid (V = .tuple #[.int .i64 (nx : Int), S d, .bool false, .int .i64 (cd : Int)]) := Lib.hid (HV.out.trans (ln_stop HX.out.1 hla rfl rfl rfl rfl))
      clear hla htl2
      go_wp2_with fail
      refine HC.out.mono ?_
      rintro e w1 ⟨rfl, hw1⟩
      obtain rfl := hw1.symm
      clear hw1
      go_wp2
      refine bodyPost_ret (res4 rfl _ _ _) rfl ?_
      exact ⟨by rw [HP.out]; first | rfl | trivial, HB.out⟩
    | true =>
      obtain ⟨hnx1, hnx2, hU2⟩ := ln_whole HX.out.1 hla rfl
      dsimp only at hnx1 hnx2 hU2
      have HU := Lib.hid (And.intro hU2 hnx2)
      have hnL : nx ≤ L := by have := HL.out; omega
      clear hla hnx2 hU2
      have HZ := Lib.hid (fun w => dsize_any t htl2 w)
      clear htl2
      cases hz : sizeF t with
      | none =>
        have HP : Hid (V = .tuple #[.int .i64 (nx : Int), S d, .bool false, .int .i64 ((400 : Nat) : Int)]) := Lib.hid (HV.out.trans (upto_bad (by have := HU.out.1; rwa [head_none hz] at this)))
        rw [hz, show sizeV none = .int .i64 (-1) from rfl] at HZ
        clear hz
        go_wp2_with fail
        refine HC.out.mono ?_
        rintro e w1 ⟨rfl, hw1⟩
        obtain rfl := hw1.symm
        clear hw1
        go_wp2_with fail
        refine (HZ.out _).mono ?_
        rintro e w1 ⟨rfl, hw1⟩
        obtain rfl := hw1.symm
        clear hw1
        go_wp2
        refine bodyPost_ret (res4 rfl _ _ _) rfl ?_
        exact ⟨by rw [HP.out]; first | rfl | trivial, HB.out⟩
      | some x =>
        have hx32 := sizeF_lt hz
        have hhd := head_some (d := d) hz
        rw [hz, show sizeV (some x) = .int .i64 (x : Int) from rfl] at HZ
        have gx : decide ((x : Int) < 0) = false := decide_eq_false (by omega)
        have hld := HLS.out d
        obtain ⟨D, hD⟩ : ∃ D, D = d.length := ⟨_, rfl⟩
        rw [← hD] at hld hhd
        have hD4 : D ≤ 4096 := by rw [hD]; exact HX.out.2
        have HD := Lib.hid hD
        clear hD hz
        have hw1 : IntKind.i64.wrap ((D : Int) + (x : Int)) = (D : Int) + (x : Int) := by rw [IntKind.wrap_i64]; omega
        by_cases h413 : 4096 < D + x
        · have g2 : decide ((4096 : Int) < (D : Int) + (x : Int)) = true := decide_eq_true (by omega)
          rw [if_pos h413] at hhd
          have HP : Hid (V = .tuple #[.int .i64 (nx : Int), S d, .bool false, .int .i64 ((413 : Nat) : Int)]) := Lib.hid (HV.out.trans (upto_bad (by have := HU.out.1; rwa [hhd] at this)))
          clear hhd h413
          go_wp2_with fail
          refine HC.out.mono ?_
          rintro e w1 ⟨rfl, hw1⟩
          obtain rfl := hw1.symm
          clear hw1
          go_wp2_with fail
          refine (HZ.out _).mono ?_
          rintro e w1 ⟨rfl, hw1⟩
          obtain rfl := hw1.symm
          clear hw1
          go_wp2
          refine bodyPost_ret (res4 rfl _ _ _) rfl ?_
          exact ⟨by rw [HP.out]; first | rfl | trivial, HB.out⟩
        have g2 : decide ((4096 : Int) < (D : Int) + (x : Int)) = false := decide_eq_false (by omega)
        rw [if_neg h413] at hhd
        by_cases hx0 : x = 0
        · have g0 : ((x : Int) == 0) = true := by rw [beq_iff_eq]; omega
          rw [if_pos hx0] at hhd
          have HT : Hid (Upto s nx ⟨.tail [] 0 0, d⟩) := Lib.hid (by have := HU.out.1; rwa [hhd] at this)
          clear hhd h413
          have hw2 : IntKind.i64.wrap ((nx : Int) + 2048) = ((nx + 2048 : Nat) : Int) := by rw [IntKind.wrap_i64]; omega
          obtain ⟨last, hlast⟩ : ∃ last, last = nx + 2048 := ⟨_, rfl⟩
          rw [← hlast] at hw2
          have HLA := Lib.hid hlast
          clear hlast
          go_wp2_with fail
          refine HC.out.mono ?_
          rintro e w1 ⟨rfl, hw1⟩
          obtain rfl := hw1.symm
          clear hw1
          go_wp2_with fail
          refine (HZ.out _).mono ?_
          rintro e w1 ⟨rfl, hw1⟩
          obtain rfl := hw1.symm
          clear hw1
          go_wp2
          clear hw2 g0 gx g2 hw1 hld HZ HC hx0 hx32 hD4
          go_loopw [3, 6, 14] (fun dv av fv wx => ∃ b k f : Nat, b ≤ L ∧ dv = S d ∧ b = nx + k ∧ k ≤ 2048 ∧ f ≤ 32 ∧ av = .int .i64 (b : Int) ∧ fv = .int .i64 (f : Int) ∧ Below w.heap.size w wx ∧ Upto s b ⟨.tail [] k f, d⟩) (fun _ av _ _ => L - (intOf av).toNat)
          case atStart => exact ⟨nx, 0, 0, hnL, rfl, by omega, by omega, by omega, rfl, rfl, HB.out, HT.out⟩
          case round =>
            obtain ⟨b, k, f, hb, rfl, hbk, hk, hf, rfl, rfl, hB2, hu⟩ := hrel
            have HB2 := Lib.hid hB2
            have HY := Lib.hid hu
            have hla := line_tail (s.drop b) b k f (last : Int) [] d (by have := HLA.out; omega) hk
            have hls20 : last ≤ 200000 := by have := HLA.out; have := HS.out; have := HL.out; omega
            have HBK := Lib.hid hbk
            clear hB2 hu hbk
            rename World => wx
            have hcl : Calls Tryz.prog 56 #[S s, .int .i64 (b : Int), .int .i64 (-1), .int .i64 (last : Int)] wx fun e w' => e = .returned (lnV (lnGo (-1) (last : Int) b [] (s.drop b))) ∧ w' = wx := dline_tail s b last HS.out (by have := HL.out; omega) hls20 wx
            have htl := ln_le (-1) (last : Int) (s.drop b) b []
            have hll := ln_last (-1) (last : Int) (s.drop b) b [] (by omega)
            obtain ⟨⟨t, ny, cd, wh⟩, hO⟩ : ∃ p, p = lnGo (-1) (last : Int) b [] (s.drop b) := ⟨_, rfl⟩
            rw [← hO] at hcl hla htl hll
            rw [show lnV (t, ny, cd, wh) = .tuple #[S t, .int .i64 (ny : Int), .int .i64 (cd : Int), .bool wh] from rfl] at hcl
            have HC := Lib.hid hcl
            have htl2 : t.length ≤ 100000 := by
              simp only [List.length_nil, List.length_drop] at htl
              have := HS.out
              omega
            clear hcl hO htl
            cases wh with
            | false =>
              have HP : Hid (V = .tuple #[.int .i64 (ny : Int), S d, .bool false, .int .i64 (cd : Int)]) := Lib.hid (HV.out.trans (ln_stop HY.out hla rfl rfl rfl rfl))
              clear hla htl2 hll
              go_wp2_with fail
              refine HC.out.mono ?_
              rintro e w1 ⟨rfl, hw1⟩
              obtain rfl := hw1.symm
              clear hw1
              go_wp2
              refine bodyPost_ret (res4 rfl _ _ _) rfl ?_
              exact ⟨by rw [HP.out]; first | rfl | trivial, HB2.out⟩
            | true =>
              obtain ⟨hny1, hny2, hU2⟩ := ln_whole HY.out hla rfl
              have hle := hll rfl
              dsimp only at hny1 hny2 hU2 hle
              have hyL : ny ≤ L := by have := HL.out; omega
              have e0 : binOp .eql 9 (S t) (.string ⟨#[]⟩) = pure (.bool (t == [])) := eql_S 9 t []
              have g5 : ∀ x y, eqGuard .eql 9 x y (S t) (.string ⟨#[]⟩) = pure () := fun x y => guard_S 9 x y t []
              clear hla hny2 hll
              by_cases ht : t = []
              · rw [show (t == []) = true from beq_iff_eq.2 ht] at e0
                have HP : Hid (V = .tuple #[.int .i64 (ny : Int), S d, .bool true, .int .i64 0]) := Lib.hid (HV.out.trans (upto_done (by unfold tailF at hU2; rwa [if_pos ht] at hU2)))
                clear hU2 ht htl2
                go_wp2_with fail
                refine HC.out.mono ?_
                rintro e w1 ⟨rfl, hw1⟩
                obtain rfl := hw1.symm
                clear hw1
                go_wp2
                refine bodyPost_ret (res4 rfl _ _ _) rfl ?_
                exact ⟨by rw [HP.out]; first | rfl | trivial, HB2.out⟩
              · rw [show (t == []) = false from beq_eq_false_iff_ne.2 ht] at e0
                have htf : tailF t (k + (ny - b)) f = if (parseF t).2.2 = false then .bad 400 else if f = 32 then .bad 431 else .tail [] (k + (ny - b)) (f + 1) := by unfold tailF; rw [if_neg ht]
                rw [htf] at hU2
                have hpc := fun w => parse_any t htl2 w
                obtain ⟨⟨n1, v1, ok⟩, hp1⟩ : ∃ p, p = parseF t := ⟨_, rfl⟩
                rw [← hp1] at hpc hU2
                rw [show parseV (n1, v1, ok) = .tuple #[.agg #[S n1, S v1], .bool ok] from rfl] at hpc
                have HPC := Lib.hid hpc
                clear hpc hp1 htf htl2 ht
                dsimp only at hU2
                cases ok with
                | false =>
                  rw [if_pos rfl] at hU2
                  have HP : Hid (V = .tuple #[.int .i64 (ny : Int), S d, .bool false, .int .i64 ((400 : Nat) : Int)]) := Lib.hid (HV.out.trans (upto_bad hU2))
                  clear hU2
                  go_wp2_with fail
                  refine HC.out.mono ?_
                  rintro e w1 ⟨rfl, hw1⟩
                  obtain rfl := hw1.symm
                  clear hw1
                  go_wp2_with fail
                  refine (HPC.out _).mono ?_
                  rintro e W3 ⟨rfl, hB3⟩
                  have HB3 := Lib.hid (HB2.out.trans (hB3.mono HB2.out.size))
                  clear hB3
                  go_wp2
                  refine bodyPost_ret (res4 rfl _ _ _) rfl ?_
                  exact ⟨by rw [HP.out]; first | rfl | trivial, HB3.out.alloc HB3.out.size _⟩
                | true =>
                  rw [if_neg Bool.noConfusion] at hU2
                  by_cases hf32 : f = 32
                  · have g6 : ((f : Int) == 32) = true := by rw [beq_iff_eq]; omega
                    rw [if_pos hf32] at hU2
                    have HP : Hid (V = .tuple #[.int .i64 (ny : Int), S d, .bool false, .int .i64 ((431 : Nat) : Int)]) := Lib.hid (HV.out.trans (upto_bad hU2))
                    clear hU2 hf32
                    go_wp2_with fail
                    refine HC.out.mono ?_
                    rintro e w1 ⟨rfl, hw1⟩
                    obtain rfl := hw1.symm
                    clear hw1
                    go_wp2_with fail
                    refine (HPC.out _).mono ?_
                    rintro e W3 ⟨rfl, hB3⟩
                    have HB3 := Lib.hid (HB2.out.trans (hB3.mono HB2.out.size))
                    clear hB3
                    go_wp2
                    refine bodyPost_ret (res4 rfl _ _ _) rfl ?_
                    exact ⟨by rw [HP.out]; first | rfl | trivial, HB3.out.alloc HB3.out.size _⟩
                  · have g6 : ((f : Int) == 32) = false := by rw [beq_eq_false_iff_ne]; omega
                    rw [if_neg hf32] at hU2
                    have HN := Lib.hid hU2
                    have hw7 : IntKind.i64.wrap ((f : Int) + 1) = (f : Int) + 1 := by rw [IntKind.wrap_i64]; omega
                    clear hU2
                    go_wp2_with fail
                    refine HC.out.mono ?_
                    rintro e w1 ⟨rfl, hw1⟩
                    obtain rfl := hw1.symm
                    clear hw1
                    go_wp2_with fail
                    refine (HPC.out _).mono ?_
                    rintro e W3 ⟨rfl, hB3⟩
                    have HB3 := Lib.hid (HB2.out.trans (hB3.mono HB2.out.size))
                    clear hB3
                    go_wp2
                    exact ⟨⟨ny, k + (ny - b), f + 1, hyL, rfl, by have := HBK.out; omega, by have := HBK.out; have := HLA.out; omega, by omega, rfl, by go_num, HB3.out.alloc HB3.out.size _, HN.out⟩, by simp [intOf]; omega⟩
        · have g0 : ((x : Int) == 0) = false := by rw [beq_eq_false_iff_ne]; omega
          rw [if_neg hx0] at hhd
          have HT : Hid (Upto s nx ⟨.body x, d⟩) := Lib.hid (by have := HU.out.1; rwa [hhd] at this)
          clear hhd
          have hw2 : IntKind.i64.wrap ((nx : Int) + (x : Int)) = (nx : Int) + (x : Int) := by rw [IntKind.wrap_i64]; omega
          by_cases hgt : L < nx + x
          · have g3 : decide ((L : Int) < (nx : Int) + (x : Int)) = true := decide_eq_true (by omega)
            have HP : Hid (V = .tuple #[.int .i64 (L : Int), S (d ++ s.drop nx), .bool false, .int .i64 0]) := Lib.hid (by
              have := HV.out.trans (upto_part HT.out (by have := HL.out; omega))
              rwa [← HL.out] at this)
            have hsl : ∀ w, (Instr.slice 9 (S s) (some (.int .i64 (nx : Int))) none none).run Tryz.prog w = .ok (S (s.drop nx)) w := fun w => slice_drop (P := Tryz.prog) Tryz.underlying9 s nx (by have := HL.out; omega) w
            have had : binOp .add 9 (S d) (S (s.drop nx)) = pure (S (d ++ s.drop nx)) := S_add 9 d _ (by rw [List.length_drop]; have := HS.out; have := HX.out.2; omega)
            generalize d ++ s.drop nx = E at *
            generalize s.drop nx = G at *
            clear h413 hgt
            go_wp2_with fail
            refine HC.out.mono ?_
            rintro e w1 ⟨rfl, hw1⟩
            obtain rfl := hw1.symm
            clear hw1
            go_wp2_with fail
            refine (HZ.out _).mono ?_
            rintro e w1 ⟨rfl, hw1⟩
            obtain rfl := hw1.symm
            clear hw1
            go_wp2
            clear HZ HC hld hw1 hw2 g0 g2 g3 gx hnx1 hnL hx32 hx0
            go_region
            go_wp2
            refine bodyPost_ret (res4 rfl _ _ _) rfl ?_
            exact ⟨by rw [HP.out]; first | rfl | trivial, drew_below HB.out⟩
          · have g3 : decide ((L : Int) < (nx : Int) + (x : Int)) = false := decide_eq_false (by omega)
            have hsl : ∀ w, (Instr.slice 9 (S s) (some (.int .i64 (nx : Int))) (some (.int .i64 ((nx : Int) + (x : Int)))) none).run Tryz.prog w = .ok (S ((s.drop nx).take x)) w := fun w => by
              have := slice_mid (P := Tryz.prog) Tryz.underlying9 s nx (nx + x) (by omega) (by have := HL.out; omega) w
              rwa [show nx + x - nx = x by omega, show ((nx + x : Nat) : Int) = (nx : Int) + (x : Int) by omega] at this
            have had : binOp .add 9 (S d) (S ((s.drop nx).take x)) = pure (S (d ++ (s.drop nx).take x)) := S_add 9 d _ (by rw [List.length_take, List.length_drop]; have := HS.out; have := HX.out.2; omega)
            have HT2 : Hid (Upto s (nx + x) ⟨.cr, d ++ (s.drop nx).take x⟩ ∧ (d ++ (s.drop nx).take x).length ≤ 4096) := Lib.hid ⟨upto_body HT.out hx0 (by have := HL.out; omega), by
              rw [List.length_append, List.length_take, List.length_drop]
              have := HD.out
              omega⟩
            obtain ⟨p, hp⟩ : ∃ p, p = nx + x := ⟨_, rfl⟩
            rw [← hp] at HT2
            rw [show (nx : Int) + (x : Int) = (p : Int) by omega] at hw2 g3 hsl
            have hpa : a < p := by omega
            have hpL : p ≤ L := by omega
            have hw2' : IntKind.i64.wrap ((nx : Int) + (x : Int)) = (p : Int) := by rw [IntKind.wrap_i64]; omega
            have hsl' : ∀ w, (Instr.slice 9 (S s) (some (.int .i64 (nx : Int))) (some (.int .i64 (p : Int))) none).run Tryz.prog w = .ok (S ((s.drop nx).take x)) w := hsl
            clear hp hw2 hsl
            generalize d ++ (s.drop nx).take x = E at *
            generalize (s.drop nx).take x = G at *
            clear h413 hgt
            go_wp2_with fail
            refine HC.out.mono ?_
            rintro e w1 ⟨rfl, hw1⟩
            obtain rfl := hw1.symm
            clear hw1
            go_wp2_with fail
            refine (HZ.out _).mono ?_
            rintro e w1 ⟨rfl, hw1⟩
            obtain rfl := hw1.symm
            clear hw1
            go_wp2
            clear hw2' g0 gx g2 g3 hw1 hld HZ HC hx32 hsl' had hx0 hD4
            go_loopw [3, 6, 12] (fun dv av iv wx => ∃ b : Nat, p ≤ b ∧ b ≤ L ∧ dv = S E ∧ av = .int .i64 (b : Int) ∧ Below w.heap.size w wx ∧ ((iv = .int .i64 0 ∧ Upto s b ⟨.cr, E⟩) ∨ (iv = .int .i64 1 ∧ Upto s b ⟨.lf, E⟩) ∨ (iv = .int .i64 2 ∧ Upto s b ⟨.head [], E⟩))) (fun _ _ iv _ => 2 - (intOf iv).toNat)
            case atStart => exact ⟨p, Nat.le_refl _, hpL, rfl, rfl, HB.out, .inl ⟨rfl, HT2.out.1⟩⟩
            case round =>
              obtain ⟨b, hb1, hb2, rfl, rfl, hB2, hst⟩ := hrel
              have HB2 := Lib.hid hB2
              clear hB2
              rcases hst with ⟨rfl, hu⟩ | ⟨rfl, hu⟩ | ⟨rfl, hu⟩
              · have HY := Lib.hid hu
                clear hu
                by_cases hbl : b = L
                · have g4 : ((b : Int) == (L : Int)) = true := by rw [beq_iff_eq]; omega
                  have HP : Hid (V = .tuple #[.int .i64 (b : Int), S E, .bool false, .int .i64 0]) := Lib.hid (HV.out.trans (upto_over HY.out (by have := HL.out; omega) rfl rfl))
                  clear hbl
                  go_wp2
                  refine bodyPost_ret (res4 rfl _ _ _) rfl ?_
                  exact ⟨by rw [HP.out]; first | rfl | trivial, HB2.out⟩
                · have g4 : ((b : Int) == (L : Int)) = false := by rw [beq_eq_false_iff_ne]; omega
                  obtain ⟨c, hc⟩ : ∃ c, s[b]? = some c := ⟨s[b]'(by have := HL.out; omega), List.getElem?_eq_getElem _⟩
                  have hidx : ∀ w, (Instr.index 9 (S s) (.int .i64 (b : Int))).run Tryz.prog w = .ok (B c) w := fun w => index_S (P := Tryz.prog) Tryz.underlying9 s b c hc w
                  have hid2 : ∀ w, (Instr.index 9 (.string ⟨#[13, 10]⟩) (.int .i64 0)).run Tryz.prog w = .ok (B 13) w := fun w => index_S (P := Tryz.prog) Tryz.underlying9 [13, 10] 0 13 rfl w
                  have hw4 : IntKind.i64.wrap ((b : Int) + 1) = (b : Int) + 1 := by rw [IntKind.wrap_i64]; omega
                  have hw5 : IntKind.i64.wrap ((b : Int) + 1 - 1) = (b : Int) := by rw [IntKind.wrap_i64]; omega
                  have hw6 : wrap64 (b : Int) = (b : Int) := by unfold wrap64; omega
                  have hby := HY.out.byte hc rfl
                  by_cases hcc : c = 13
                  · have q : binOp .neq 5 (B c) (B 13) = pure (.bool false) := by rw [hcc]; rfl
                    have HN : Hid (Upto s (b + 1) ⟨.lf, E⟩) := Lib.hid (by rw [hcc] at hby; exact hby)
                    clear hby hc hcc
                    go_wp2
                    clear hlen g4
                    go_region
                    go_wp2
                    exact ⟨⟨b + 1, by omega, by omega, rfl, by go_num, drew_below HB2.out, .inr (.inl ⟨rfl, HN.out⟩)⟩, by simp [intOf]⟩
                  · have q : binOp .neq 5 (B c) (B 13) = pure (.bool true) := B_neq 5 c 13 hcc
                    have hse : (⟨.cr, E⟩ : Cst).step c = ⟨.bad 400, E⟩ := by unfold Cst.step; dsimp only; rw [if_neg hcc]
                    rw [hse] at hby
                    have HP : Hid (V = .tuple #[.int .i64 ((b + 1 : Nat) : Int), S E, .bool false, .int .i64 ((400 : Nat) : Int)]) := Lib.hid (HV.out.trans (upto_bad hby))
                    clear hby hc hcc hse
                    go_wp2
                    clear hlen g4
                    go_region
                    go_wp2
                    refine bodyPost_ret (res4 rfl _ _ _) rfl ?_
                    exact ⟨by rw [HP.out]; first | rfl | trivial, drew_below HB2.out⟩
              · have HY := Lib.hid hu
                clear hu
                by_cases hbl : b = L
                · have g4 : ((b : Int) == (L : Int)) = true := by rw [beq_iff_eq]; omega
                  have HP : Hid (V = .tuple #[.int .i64 (b : Int), S E, .bool false, .int .i64 0]) := Lib.hid (HV.out.trans (upto_over HY.out (by have := HL.out; omega) rfl rfl))
                  clear hbl
                  go_wp2
                  refine bodyPost_ret (res4 rfl _ _ _) rfl ?_
                  exact ⟨by rw [HP.out]; first | rfl | trivial, HB2.out⟩
                · have g4 : ((b : Int) == (L : Int)) = false := by rw [beq_eq_false_iff_ne]; omega
                  obtain ⟨c, hc⟩ : ∃ c, s[b]? = some c := ⟨s[b]'(by have := HL.out; omega), List.getElem?_eq_getElem _⟩
                  have hidx : ∀ w, (Instr.index 9 (S s) (.int .i64 (b : Int))).run Tryz.prog w = .ok (B c) w := fun w => index_S (P := Tryz.prog) Tryz.underlying9 s b c hc w
                  have hid2 : ∀ w, (Instr.index 9 (.string ⟨#[13, 10]⟩) (.int .i64 1)).run Tryz.prog w = .ok (B 10) w := fun w => index_S (P := Tryz.prog) Tryz.underlying9 [13, 10] 1 10 rfl w
                  have hw4 : IntKind.i64.wrap ((b : Int) + 1) = (b : Int) + 1 := by rw [IntKind.wrap_i64]; omega
                  have hw5 : IntKind.i64.wrap ((b : Int) + 1 - 1) = (b : Int) := by rw [IntKind.wrap_i64]; omega
                  have hw6 : wrap64 (b : Int) = (b : Int) := by unfold wrap64; omega
                  have hby := HY.out.byte hc rfl
                  by_cases hcc : c = 10
                  · have q : binOp .neq 5 (B c) (B 10) = pure (.bool false) := by rw [hcc]; rfl
                    have HN : Hid (Upto s (b + 1) ⟨.head [], E⟩) := Lib.hid (by rw [hcc] at hby; exact hby)
                    clear hby hc hcc
                    go_wp2
                    clear hlen g4
                    go_region
                    go_wp2
                    exact ⟨⟨b + 1, by omega, by omega, rfl, by go_num, drew_below HB2.out, .inr (.inr ⟨rfl, HN.out⟩)⟩, by simp [intOf]⟩
                  · have q : binOp .neq 5 (B c) (B 10) = pure (.bool true) := B_neq 5 c 10 hcc
                    have hse : (⟨.lf, E⟩ : Cst).step c = ⟨.bad 400, E⟩ := by unfold Cst.step; dsimp only; rw [if_neg hcc]
                    rw [hse] at hby
                    have HP : Hid (V = .tuple #[.int .i64 ((b + 1 : Nat) : Int), S E, .bool false, .int .i64 ((400 : Nat) : Int)]) := Lib.hid (HV.out.trans (upto_bad hby))
                    clear hby hc hcc hse
                    go_wp2
                    clear hlen g4
                    go_region
                    go_wp2
                    refine bodyPost_ret (res4 rfl _ _ _) rfl ?_
                    exact ⟨by rw [HP.out]; first | rfl | trivial, drew_below HB2.out⟩
              · have HY := Lib.hid hu
                clear hu
                go_wp2
                exact ⟨⟨E, b, by omega, HT2.out.2, rfl, rfl, HB2.out, HY.out⟩, by simp [intOf]; omega⟩
end Go.Proofs.YtplajlccnnbifaaGreatDoor
