/- The law's RouterAllows (stage 14) walked. (mkue.py writes it.) -/
import Derived.Test.YtendejpkdjkmnaaGreatDoorUe0
namespace Go.Proofs.YtendejpkdjkmnaaGreatDoor
open Go.RowKit
attribute [local go_sem] store_one S_match S_store nguard_BU guard_SU nguard_SU

set_option maxRecDepth 100000 in
set_option maxHeartbeats 4000000 in
theorem allows14_any {w : World} {RF : World → (Nat → Prop) → Nat → List Rt → Prop} (C : RouterF w RF) (l : List Rt) (V : Value) (bs os : Nat) (hS : RoA w V l bs os) (r : RqU) (Vr : Value) (b o : Nat) (hA : FA w Vr r.fs b o) :
    Calls Tryz.prog 5 #[V, rquV r Vr] w fun e w' => e = .returned (.bool true) ∧ Below w.heap.size w w' := by
  have HC := Lib.hid C
  have HI := Lib.hid C.toI
  clear C
  unfold rquV
  obtain ⟨W1, hW1⟩ : ∃ W, W = w.alloc (.cells (rquC r Vr) 24) := ⟨_, rfl⟩
  have hM : RuAt w w.heap.size r Vr b o W1 := by rw [hW1]; exact ruAt_new hA
  have hsz : W1.heap.size = w.heap.size + 1 := by rw [hW1, alloc_size]
  have hS1 : RoA W1 V l bs os := by rw [hW1]; exact hS.below ((Below.refl _ _).alloc (Nat.le_refl _) _)
  have hg := great14_any l V bs os r Vr b o W1 hS1 hM.fa
  have c0 : W1.cell? ⟨w.heap.size, 0, none⟩ = some (S r.m) := hM.cell 0 _ rfl
  have c1 : W1.cell? ⟨w.heap.size, 1, none⟩ = some (S r.p) := hM.cell 1 _ rfl
  have c2 : W1.cell? ⟨w.heap.size, 2, none⟩ = some (S r.q) := hM.cell 2 _ rfl
  have c3 : W1.cell? ⟨w.heap.size, 3, none⟩ = some (.int .i64 r.v) := hM.cell 3 _ rfl
  have c4 : W1.cell? ⟨w.heap.size, 4, none⟩ = some Vr := hM.cell 4 _ rfl
  have c5 : W1.cell? ⟨w.heap.size, 5, none⟩ = some (S r.body) := hM.cell 5 _ rfl
  have c6 : W1.cell? ⟨w.heap.size, 6, none⟩ = some (.bool r.cl) := hM.cell 6 _ rfl
  unfold rquV rquC at hg
  have HG := Lib.hid hg
  have HM := Lib.hid (And.intro hM (And.intro hS (And.intro hA hsz)))
  have HW1 := Lib.hid hW1
  have hlS := hS.len 3
  obtain ⟨N, hN⟩ : ∃ N, N = l.length := ⟨_, rfl⟩
  rw [← hN] at hlS
  have HN := Lib.hid hN
  rw [hW1] at HG c0 c1 c2 c3 c4 c5 c6
  unfold rquC at HG c0 c1 c2 c3 c4 c5 c6 ⊢
  clear hM hg hA hW1 hS hS1 hN hsz
  go_enter Tryz.func5, Tryz.ntmps5
  go_wp2_with fail
  refine HG.out.mono ?_
  rintro e W2 ⟨x, rfl, hx, hB2⟩
  have hWe := HW1.out
  unfold rquC at hWe
  rw [← hWe] at hB2
  clear hWe c0 c1 c2 c3 c4 c5 c6 HG
  have H2 : Hid (Below W1.heap.size W1 W2 ∧ Below w.heap.size w W2) := Lib.hid ⟨hB2, HM.out.1.bel.trans (hB2.mono HM.out.1.bel.size)⟩
  clear hB2
  cases x with
  | true =>
    have HWK := Lib.hid (wakes14_any (HI.out.up H2.out.2))
    clear hx
    go_wp2_with fail
    refine HWK.out.mono ?_
    rintro e Wz ⟨rfl, hBz⟩
    have HE := Lib.hid (Below.trans H2.out.2 (hBz.mono (Below.size H2.out.2)))
    clear hBz
    go_wp2
    go_ret
    exact ⟨rfl, HE.out⟩
  | false =>
    have HX := Lib.hid (hx rfl)
    have HNW := Lib.hid (HC.out.new l V bs os W2 H2.out.2 (HM.out.2.1.below H2.out.2) (hx rfl).1)
    clear hx
    go_wp2_with fail
    refine HNW.out.mono ?_
    rintro e W3 ⟨hB3, h3⟩
    have H3 : Hid (Below W1.heap.size W1 W3 ∧ Below w.heap.size w W3) := Lib.hid ⟨H2.out.1.trans (hB3.mono H2.out.1.size), H2.out.2.trans (hB3.mono H2.out.2.size)⟩
    clear hB3 HNW
    rcases h3 with ⟨hne, rfl⟩ | ⟨h0, g, F, rfl, hRF, hFb⟩
    · have q1 : ((newF l : Int) == 0) = false := by rw [beq_eq_false_iff_ne]; omega
      obtain ⟨E, hE⟩ : ∃ E, E = newF l := ⟨_, rfl⟩
      rw [← hE] at q1 ⊢
      have HWK := Lib.hid (wakes14_any (HI.out.up H3.out.2))
      clear hE hne
      go_wp2_with fail
      refine HWK.out.mono ?_
      rintro e Wz ⟨rfl, hBz⟩
      have HE := Lib.hid (Below.trans H3.out.2 (hBz.mono (Below.size H3.out.2)))
      clear hBz
      go_wp2
      go_ret
      exact ⟨rfl, HE.out⟩
    have hgood := (new_good l).1 h0
    have hnF : ¬ F w.heap.size := fun h => by
      rcases hFb _ h with ⟨h1, _⟩ | ⟨h1, h2⟩
      · have := H2.out.1.size; have := HM.out.2.2.2; omega
      · have := HM.out.2.1.lt h1; omega
    have al3 : AlAt RF w F g l r Vr r.m W3 := ⟨(HM.out.1.below H3.out.1).row, hRF, H3.out.2⟩
    obtain ⟨⟨c0, c1, c2, c3, c4, c5, c6⟩, f0⟩ := al3.cells
    obtain ⟨W4, hW4⟩ : ∃ W, W = W3.setCell ⟨w.heap.size, 0, none⟩ (.string ⟨#[78, 79, 45, 83, 85, 67, 72]⟩) := ⟨_, rfl⟩
    have HG := Lib.hid (And.intro hgood hnF)
    have H4 : Hid (AlAt RF w F g l r Vr noM W4) := Lib.hid (by rw [hW4]; exact al3.store HC.out hnF noM)
    have HRO : Hid (∀ W, Below w.heap.size w W → RoA W V l bs os ∧ FA W Vr r.fs b o) := Lib.hid fun W hB => ⟨HM.out.2.1.below hB, HM.out.2.2.1.below hB⟩
    have HA : Hid (FA w Vr r.fs b o) := Lib.hid HM.out.2.2.1
    clear h0 hRF hFb hgood hnF al3
    go_wp2_with fail
    rw [← hW4]
    clear hW4 c0 c1 c2 c3 c4 c5 c6 f0
    go_loopw [7] (fun iv wr => ∃ i : Nat, i ≤ N ∧ iv = .int .i64 (i : Int) ∧ Hid (AlAt RF w F g l r Vr noM wr ∧ ∀ s ∈ l.take i, s.m ≠ noM)) (fun iv _ => N - (intOf iv).toNat)
    case atStart => exact ⟨0, Nat.zero_le _, rfl, Lib.hid ⟨H4.out, by simp⟩⟩
    case round =>
      obtain ⟨i, hi, rfl, HJ⟩ := hrel
      have hw1 : IntKind.i64.wrap ((i : Int) + 1) = (i : Int) + 1 := by rw [IntKind.wrap_i64]; have := HN.out; have := HX.out.1.1; omega
      by_cases hlt : i < N
      · have g1 : decide ((i : Int) < (N : Int)) = true := decide_eq_true (by omega)
        obtain ⟨s, hs⟩ : ∃ s, l[i]? = some s := ⟨l[i]'(by have := HN.out; omega), List.getElem?_eq_getElem _⟩
        have hro := (HRO.out wr HJ.out.1.bel).1
        have hix := hro.index i (by have := HN.out; omega)
        obtain ⟨kk, hkk⟩ : ∃ k, k = os + i * 4 := ⟨_, rfl⟩
        have d0 : wr.cell? ⟨bs, kk, none⟩ = some (S s.m) := by rw [hkk]; exact hro.cell i s hs 0 _ rfl
        have e0 : wr.drew.cell? ⟨bs, kk, none⟩ = some (S s.m) := d0
        have c0 : wr.cell? ⟨w.heap.size, 0, none⟩ = some (S noM) := HJ.out.1.cells.1.1
        have cc : wr.drew.cell? ⟨w.heap.size, 0, none⟩ = some (S noM) := c0
        rw [← hkk] at hix
        have hq : binOp .eql 9 (S s.m) (S noM) = pure (.bool (s.m == noM)) := eql_S 9 s.m noM
        have hgd := fun x y => guard_S 9 x y s.m noM
        have hmx : Tryz.prog.follows .mixedOrders = true := by kernel_rfl
        have hBd : Below wr.heap.size wr wr.drew := ⟨rfl, rfl, rfl, Nat.le_refl _, fun _ _ => rfl⟩
        by_cases hE : s.m = noM
        · rw [beq_iff_eq.2 hE] at hq
          have HWK := Lib.hid (wakes14_any (HI.out.up (HJ.out.1.bel.trans (hBd.mono HJ.out.1.bel.size))))
          have HBD := Lib.hid (HJ.out.1.bel.trans (hBd.mono HJ.out.1.bel.size))
          obtain ⟨sm, hsm⟩ : ∃ x, x = s.m := ⟨_, rfl⟩
          rw [← hsm] at hq d0 e0 hgd
          clear hE hs hkk hro hBd hsm
          go_wp2
          go_region
          go_wp2_with fail
          refine HWK.out.mono ?_
          rintro e Wz ⟨rfl, hBz⟩
          have HE := Lib.hid (Below.trans HBD.out (hBz.mono (Below.size HBD.out)))
          clear hBz
          go_wp2
          go_ret
          exact ⟨rfl, HE.out⟩
        · rw [beq_eq_false_iff_ne.2 hE] at hq
          have HX2 : Hid (AlAt RF w F g l r Vr noM wr.drew ∧ ∀ s ∈ l.take (i + 1), s.m ≠ noM) := Lib.hid ⟨HJ.out.1.below HC.out hBd, by
            intro t ht
            rw [List.take_add_one, hs] at ht
            rcases List.mem_append.1 ht with ht | ht
            · exact HJ.out.2 t ht
            · have : t = s := by simpa using ht
              rw [this]; exact hE⟩
          obtain ⟨sm, hsm⟩ : ∃ x, x = s.m := ⟨_, rfl⟩
          rw [← hsm] at hq d0 e0 hgd
          clear hE hs hkk hro hBd hsm
          go_wp2
          go_region
          go_wp2
          exact ⟨⟨i + 1, by omega, by go_num, HX2⟩, by simp [intOf]; omega⟩
      · obtain rfl : N = i := by omega
        have g1 : decide ((N : Int) < (N : Int)) = false := decide_eq_false (by omega)
        have hno : ∀ s ∈ l, s.m ≠ noM := by
          have h := HJ.out.2
          rwa [HN.out, List.take_length] at h
        have HNO := Lib.hid hno
        obtain ⟨⟨c0, c1, c2, c3, c4, c5, c6⟩, f0⟩ := HJ.out.1.cells
        have HS := Lib.hid (HJ.out.1.serve HC.out HX.out.1 HG.out.1 HX.out.2 (by decide) HA.out)
        clear hno hlt hi hw1
        go_wp2_with fail
        refine HS.out.mono ?_
        rintro e W5 ⟨x, nf, ax, cx, bx, ox, hx, hnf, rfl, hF, hAl, hB5⟩
        clear HS c0 c1 c2 c3 c4 c5 c6 f0
        rcases serve_noSuch HNO.out (by decide) hx with ⟨hcode, hfs, hk⟩ | ⟨segs, p, ms, h1, h2, h3, h4, h5, rfl⟩
        · obtain ⟨xc, xf, xb, xk⟩ := x
          dsimp only at hcode hfs hk hnf
          subst hfs hk
          obtain rfl : nf = 0 := hnf
          have hbel : Below w.heap.size w (W5.alloc (.cells #[.int .i64 xc, .slice ax 0 cx, S xb] 29)) := hAl.bel.alloc hAl.bel.size _
          have HWK := Lib.hid (wakes14_any (HI.out.up hbel))
          have HBD := Lib.hid hbel
          clear hx hF hAl hB5 hbel
          rcases hcode with rfl | rfl
          · dsimp only
            go_wp2_with fail
            refine HWK.out.mono ?_
            rintro e Wz ⟨rfl, hBz⟩
            have HE := Lib.hid (Below.trans HBD.out (hBz.mono (Below.size HBD.out)))
            clear hBz
            go_wp2
            go_ret
            exact ⟨rfl, HE.out⟩
          · dsimp only
            go_wp2_with fail
            refine HWK.out.mono ?_
            rintro e Wz ⟨rfl, hBz⟩
            have HE := Lib.hid (Below.trans HBD.out (hBz.mono (Below.size HBD.out)))
            clear hBz
            go_wp2
            go_ret
            exact ⟨rfl, HE.out⟩
        · obtain rfl : nf = 1 := hnf
          have htok : ∀ m ∈ ms, tokF m = true ∧ m.length ≤ 200 := fun m hm => ⟨told_tok HG.out.1 ((h4 m).1 hm), told_short HX.out.1 ((h4 m).1 hm)⟩
          have hsl := sep_len (ms := ms) fun m hm => (htok m hm).2
          have hfew := told_few h3 h4
          have h40 := HX.out.1.1
          obtain ⟨J, hJ⟩ : ∃ J, J = joinA ms := ⟨_, rfl⟩
          obtain ⟨SL, hSL⟩ : ∃ SL, SL = sepA ms := ⟨_, rfl⟩
          have hjs : J ++ [44, 32] = SL := by rw [hJ, hSL]; exact joinA_sep h5
          have hjl : J.length + 2 = SL.length := by rw [← hjs]; simp
          have hadd : binOp .add 9 (S J) (.string ⟨#[44, 32]⟩) = pure (S SL) := by
            rw [← hjs]
            exact S_add 9 J [44, 32] (by rw [hSL] at hjl; simp only [List.length_cons, List.length_nil]; omega)
          obtain ⟨LS, hLS⟩ : ∃ n, n = SL.length := ⟨_, rfl⟩
          have hlen := run_len_S (P := Tryz.prog) Tryz.underlying9 3 SL
          rw [← hLS] at hlen
          have hLB : LS ≤ 9000 := by rw [hLS, hSL]; omega
          have hixf : ∀ w', (Instr.indexAt 22 (.slice ax 1 cx) (.int .i64 0)).run Tryz.prog w' = .ok (.pointer (some ⟨bx, ox, none⟩)) w' := fun w' => by
            have h := hF.index 0 (by simp) w'
            rw [Nat.zero_mul, Nat.add_zero] at h
            exact h
          obtain ⟨W6, hW6⟩ : ∃ W, W = W5.alloc (.cells #[.int .i64 405, .slice ax 1 cx, S noSuchT] 29) := ⟨_, rfl⟩
          have hB6 : Below W5.heap.size W5 W6 := by rw [hW6]; exact (Below.refl _ _).alloc (Nat.le_refl _) _
          have hfc : W6.cell? ⟨bx, ox, none⟩ = some (.string ⟨#[65, 108, 108, 111, 119]⟩) ∧ W6.cell? ⟨bx, ox + 1, none⟩ = some (S J) := by
            have h := (hF.below hB6).cell 0 _ rfl
            rw [Nat.zero_mul, Nat.add_zero] at h
            rw [hJ]; exact h
          obtain ⟨fc0, fc1⟩ := hfc
          obtain ⟨n, hn⟩ : ∃ n, n = ms.length := ⟨_, rfl⟩
          have H6 : Hid (AlAt RF w F g l r Vr noM W6) := Lib.hid (hAl.below HC.out hB6)
          have HMS : Hid (n = ms.length ∧ SL = sepA ms ∧ LS = SL.length ∧ (∀ m ∈ ms, tokF m = true ∧ m.length ≤ 200) ∧ Rising ms ∧ ms ≠ [] ∧ ∀ k, k ∈ ms ↔ toldR l p k) := Lib.hid ⟨hn, hSL, hLS, htok, h3, h5, h4⟩
          have HB := Lib.hid (And.intro h1 h2)
          have HLB := Lib.hid hLB
          rw [hW6] at fc0 fc1
          clear hx hF hAl hB5 hB6 h1 h2 h3 h4 h5 htok hsl hfew h40 hJ hSL hjs hjl hLS hLB hn
          go_wp2_with fail
          rw [← hW6]
          clear hW6 fc0 fc1 hixf hadd
          go_loopw [11, 12, 13, 14] (fun lv gv hv av wr => ∃ (i A : Nat) (M : Txt), i ≤ n ∧ lv = S (lastA ms i) ∧ gv = .bool ((ms.take i).contains getT) ∧ hv = .bool ((ms.take i).contains headT) ∧ av = .int .i64 (A : Int) ∧ Hid (A = offA ms i ∧ AlAt RF w F g l r Vr M wr)) (fun _ _ _ av _ => LS - (intOf av).toNat)
          case atStart => exact ⟨0, 0, noM, Nat.zero_le _, rfl, rfl, rfl, rfl, Lib.hid ⟨rfl, H6.out⟩⟩
          case round =>
            obtain ⟨i, A, M, hi, rfl, rfl, rfl, rfl, HK⟩ := hrel
            obtain ⟨LT, hLT⟩ : ∃ x, x = lastA ms i := ⟨_, rfl⟩
            obtain ⟨G, hGe⟩ : ∃ x, x = (ms.take i).contains getT := ⟨_, rfl⟩
            obtain ⟨H, hHe⟩ : ∃ x, x = (ms.take i).contains headT := ⟨_, rfl⟩
            rw [← hLT, ← hGe, ← hHe]
            have HLT := Lib.hid hLT
            have HGe := Lib.hid hGe
            have HHe := Lib.hid hHe
            clear hLT hGe hHe
            by_cases hlt : i < n
            · obtain ⟨m, hm⟩ : ∃ m, ms[i]? = some m := ⟨ms[i]'(by have := HMS.out.1; omega), List.getElem?_eq_getElem _⟩
              have hA1 : A = offA ms i := HK.out.1
              have hend := off_end hm
              rw [← hA1, ← HMS.out.2.1, ← HMS.out.2.2.1] at hend
              obtain ⟨hmt, hml⟩ := HMS.out.2.2.2.1 m (List.mem_of_getElem? hm)
              obtain ⟨hmn, hmc⟩ := tok_plain hmt
              have hget := fun j => sep_get hm j
              rw [← hA1, ← HMS.out.2.1] at hget
              obtain ⟨LM, hLM⟩ : ∃ n, n = m.length := ⟨_, rfl⟩
              obtain ⟨E, hE⟩ : ∃ E, E = A + LM := ⟨_, rfl⟩
              obtain ⟨A2, hA2⟩ : ∃ a, a = E + 2 := ⟨_, rfl⟩
              have hin : Hid (∀ K, A ≤ K → K < E → ∃ c, SL[K]? = some c ∧ c ≠ 44) := Lib.hid fun K h1 h2 => by
                have h := hget (K - A)
                rw [show A + (K - A) = K by omega, List.getElem?_append_left (by omega)] at h
                exact ⟨m[K - A]'(by omega), by rw [h, List.getElem?_eq_getElem], hmc _ (List.getElem_mem _)⟩
              have hat : SL[E]? = some 44 := by
                have h := hget LM
                rw [← hE, List.getElem?_append_right (by omega), hLM, Nat.sub_self] at h
                exact h
              have hLB := HLB.out
              have hAL : A < LS := by omega
              have hEL : E < LS := by omega
              have hixE := fun w' => index_S (P := Tryz.prog) Tryz.underlying9 SL E 44 hat w'
              have hneE : binOp .neq 5 (B 44) (.int .u8 44) = pure (.bool false) := neq_B 44 44
              have hsl : ∀ w', (Instr.slice 9 (S SL) (some (.int .i64 (A : Int))) (some (.int .i64 (E : Int))) none).run Tryz.prog w' = .ok (S m) w' := fun w' => by
                have h := slice_mid (P := Tryz.prog) Tryz.underlying9 SL A E (by omega) (by have := HMS.out.2.2.1; omega) w'
                have e : (SL.drop A).take (E - A) = m := by
                  rw [HMS.out.2.1, hA1, sep_drop hm, ← hA1, show E - A = m.length by omega, List.take_left]
                rw [e] at h
                exact h
              have hw2 : IntKind.i64.wrap ((E : Int) + 2) = (A2 : Int) := by rw [IntKind.wrap_i64]; omega
              have hleq := leq_no (lastA_lt HMS.out.2.2.2.2.1 hm hmn)
              rw [← HLT.out] at hleq
              have hqg : binOp .eql 9 (S m) (.string ⟨#[71, 69, 84]⟩) = pure (.bool (m == getT)) := eql_S 9 m getT
              have hqh : binOp .eql 9 (S m) (.string ⟨#[72, 69, 65, 68]⟩) = pure (.bool (m == headT)) := eql_S 9 m headT
              obtain ⟨BG, hBG⟩ : ∃ x, x = (m == getT) := ⟨_, rfl⟩
              obtain ⟨BH, hBH⟩ : ∃ x, x = (m == headT) := ⟨_, rfl⟩
              rw [← hBG] at hqg
              rw [← hBH] at hqh
              have HBG := Lib.hid (And.intro hBG hBH)
              have HMI : Hid (ms[i]? = some m ∧ m.length ≤ 200 ∧ A2 = offA ms (i + 1) ∧ toldR l p m) := Lib.hid ⟨hm, hml, by rw [off_next hm, ← hA1]; omega, (HMS.out.2.2.2.2.2.2 m).1 (List.mem_of_getElem? hm)⟩
              have HSZ : Hid (A ≤ E ∧ E + 2 = A2 ∧ A2 ≤ LS ∧ LS ≤ 9000) := Lib.hid ⟨by omega, by omega, by omega, hLB⟩
              clear hm hA1 hend hmt hml hmn hmc hget hLM hE hA2 hat hLB hBG hBH
              go_wp2
              go_loopw [15] (fun nv wq => ∃ K : Nat, A ≤ K ∧ K ≤ E ∧ nv = .int .i64 (K : Int) ∧ wq = wr) (fun nv _ => E - (intOf nv).toNat)
              case atStart => exact ⟨A, Nat.le_refl _, HSZ.out.1, rfl, rfl⟩
              case round =>
                obtain ⟨K, hK1, hK2, rfl, hwq⟩ := hrel
                subst hwq
                by_cases hKE : K < E
                · obtain ⟨c, hc, hc44⟩ := hin.out K hK1 hKE
                  have hKL : K < LS := by have := HSZ.out; omega
                  have hixK := fun w' => index_S (P := Tryz.prog) Tryz.underlying9 SL K c hc w'
                  have hneK : binOp .neq 5 (B c) (.int .u8 44) = pure (.bool true) := by
                    have h := neq_B c 44
                    rw [bne_iff_ne.2 hc44] at h
                    exact h
                  have hw1 : IntKind.i64.wrap ((K : Int) + 1) = (K : Int) + 1 := by rw [IntKind.wrap_i64]; have := HSZ.out; omega
                  clear hc hc44
                  go_wp2
                  exact ⟨⟨K + 1, by omega, by omega, by go_num, by trivial⟩, by simp [intOf]; omega⟩
                · obtain rfl : K = E := by omega
                  have hst := HK.out.2.store HC.out HG.out.2 m
                  obtain ⟨W7, hW7⟩ : ∃ W, W = wr.setCell ⟨w.heap.size, 0, none⟩ (S m) := ⟨_, rfl⟩
                  have k0 := HK.out.2.cells.1.1
                  have kf := HK.out.2.cells.2
                  rw [← hW7] at hst
                  obtain ⟨⟨c0, c1, c2, c3, c4, c5, c6⟩, f0⟩ := hst.cells
                  have HS := Lib.hid (hst.serve HC.out HX.out.1 HG.out.1 HX.out.2 HMI.out.2.1 HA.out)
                  rw [hW7] at HS c0 c1 c2 c3 c4 c5 c6
                  clear hst hW7 f0 hKE hK1 hK2
                  go_wp2_with fail
                  refine HS.out.mono ?_
                  rintro e W8 ⟨y, ny, ay, cy, by_, oy, hy, hny, rfl, hFy, hAl, hB8⟩
                  obtain ⟨hkn, hcode, -⟩ := told_served HG.out.1 HB.out.1 HB.out.2 HMI.out.2.2.2 hy
                  obtain ⟨yc, yf, yb, yk⟩ := y
                  dsimp only at hkn hcode
                  have hk0 : (yk == 0) = false := by rw [beq_eq_false_iff_ne]; exact hkn
                  have hB9 : Below W8.heap.size W8 (W8.alloc (.cells #[.int .i64 yc, .slice ay ny cy, S yb] 29)) := (Below.refl _ _).alloc (Nat.le_refl _) _
                  have hal9 := hAl.below HC.out hB9
                  have H9 := Lib.hid hal9
                  clear c0 c1 c2 c3 c4 c5 c6 k0 kf
                  have c0 := hal9.cells.1.1
                  clear hy hny hFy hAl hB8 hB9 hal9 hkn HS hixE hneE hsl
                  dsimp only
                  rcases hcode with rfl | rfl <;> cases G <;> cases H <;> (
                    go_wp2
                    exact ⟨⟨i + 1, A2, m, by omega, by rw [lastA_next HMI.out.1], by rw [takeT_contains HMI.out.1, ← HGe.out, ← HBG.out.1]; rfl, by rw [takeT_contains HMI.out.1, ← HHe.out, ← HBG.out.2]; rfl, rfl, Lib.hid ⟨HMI.out.2.2.1, H9.out⟩⟩, by simp [intOf]; have := HSZ.out; omega⟩)
            · obtain rfl : n = i := by omega
              have hAL : LS = A := by rw [HK.out.1, HMS.out.1, off_all, ← HMS.out.2.1]; exact HMS.out.2.2.1
              subst hAL
              have hG : G = ms.contains getT := by have h := HGe.out; rwa [HMS.out.1, List.take_length] at h
              have hH : H = ms.contains headT := by have h := HHe.out; rwa [HMS.out.1, List.take_length] at h
              have hGH : G = true → H = true ∧ toldR l p getT ∧ toldR l p headT := fun h => by
                rw [hG, List.contains_iff_mem] at h
                have ht := (HMS.out.2.2.2.2.2.2 getT).1 h
                have ht2 : toldR l p headT := by
                  rcases ht with h1 | ⟨h1, _⟩
                  · exact .inr ⟨rfl, h1⟩
                  · exact absurd h1 (by decide)
                exact ⟨by rw [hH, List.contains_iff_mem]; exact (HMS.out.2.2.2.2.2.2 headT).2 ht2, ht, ht2⟩
              have hLTn : LT ≠ [] := by
                rw [HLT.out, HMS.out.1]
                exact lastA_ne HMS.out.2.2.2.2.2.1 fun m hm => (tok_plain (HMS.out.2.2.2.1 m hm).1).1
              have hneL : binOp .neq 9 (S LT) (.string ⟨#[]⟩) = pure (.bool true) := by
                have h := neql_S 9 LT []
                rw [bne_iff_ne.2 hLTn] at h
                exact h
              have HAL := Lib.hid HK.out.2
              have HGH := Lib.hid hGH
              clear hG hH hGH hLTn HGe HHe hlt hi
              cases G with
              | false =>
                go_wp2
                go_loopw [18, 19] (fun ov iv wq => ∃ j : Nat, j ≤ N ∧ ov = .bool ((l.take j).any fun s => s.m == headT) ∧ iv = .int .i64 (j : Int) ∧ wq = wr) (fun _ iv _ => N - (intOf iv).toNat)
                case atStart => exact ⟨0, Nat.zero_le _, rfl, rfl, rfl⟩
                case round =>
                  obtain ⟨j, hj, rfl, rfl, hwq⟩ := hrel
                  subst hwq
                  have hw1 : IntKind.i64.wrap ((j : Int) + 1) = (j : Int) + 1 := by rw [IntKind.wrap_i64]; have := HN.out; have := HX.out.1.1; omega
                  obtain ⟨O, hO⟩ : ∃ x, x = (l.take j).any fun s => s.m == headT := ⟨_, rfl⟩
                  rw [← hO]
                  have HO := Lib.hid hO
                  clear hO
                  by_cases hlt : j < N
                  · obtain ⟨s, hs⟩ : ∃ s, l[j]? = some s := ⟨l[j]'(by have := HN.out; omega), List.getElem?_eq_getElem _⟩
                    have hro := (HRO.out wr HAL.out.bel).1
                    have hix := hro.index j (by have := HN.out; omega)
                    obtain ⟨kk, hkk⟩ : ∃ k, k = os + j * 4 := ⟨_, rfl⟩
                    have d0 : wr.cell? ⟨bs, kk, none⟩ = some (S s.m) := by rw [hkk]; exact hro.cell j s hs 0 _ rfl
                    rw [← hkk] at hix
                    have hq : binOp .eql 9 (S s.m) (.string ⟨#[72, 69, 65, 68]⟩) = pure (.bool (s.m == headT)) := eql_S 9 s.m headT
                    obtain ⟨BO, hBO⟩ : ∃ x, x = (s.m == headT) := ⟨_, rfl⟩
                    obtain ⟨sm, hsm⟩ : ∃ x, x = s.m := ⟨_, rfl⟩
                    rw [← hBO, ← hsm] at hq
                    rw [← hsm] at d0
                    have HS4 := Lib.hid (And.intro hs hBO)
                    clear hs hBO hsm hkk hro
                    cases O <;> (
                      go_wp2
                      exact ⟨⟨j + 1, by omega, by rw [takeR_any HS4.out.1, ← HO.out, ← HS4.out.2]; rfl, by go_num, by trivial⟩, by simp [intOf]; omega⟩)
                  · obtain rfl : N = j := by omega
                    have hOn : O = l.any fun s => s.m == headT := by have h := HO.out; rwa [HN.out, List.take_length] at h
                    have HOn := Lib.hid hOn
                    clear hOn hw1 HO hlt hj
                    have HWK := Lib.hid (wakes14_any (HI.out.up HAL.out.bel))
                    go_wp2_with fail
                    refine HWK.out.mono ?_
                    rintro e Wz ⟨rfl, hBz⟩
                    have HE := Lib.hid (Below.trans HAL.out.bel (hBz.mono (Below.size HAL.out.bel)))
                    clear hBz
                    go_wp2
                    go_ret
                    exact ⟨rfl, HE.out⟩
              | true =>
                obtain ⟨hH1, htg, hth⟩ := HGH.out rfl
                subst hH1
                have HTG := Lib.hid (And.intro htg hth)
                clear htg hth
                go_wp2
                go_loopw [18, 19] (fun ov iv wq => ∃ j : Nat, j ≤ N ∧ ov = .bool ((l.take j).any fun s => s.m == headT) ∧ iv = .int .i64 (j : Int) ∧ wq = wr) (fun _ iv _ => N - (intOf iv).toNat)
                case atStart => exact ⟨0, Nat.zero_le _, rfl, rfl, rfl⟩
                case round =>
                  obtain ⟨j, hj, rfl, rfl, hwq⟩ := hrel
                  subst hwq
                  have hw1 : IntKind.i64.wrap ((j : Int) + 1) = (j : Int) + 1 := by rw [IntKind.wrap_i64]; have := HN.out; have := HX.out.1.1; omega
                  obtain ⟨O, hO⟩ : ∃ x, x = (l.take j).any fun s => s.m == headT := ⟨_, rfl⟩
                  rw [← hO]
                  have HO := Lib.hid hO
                  clear hO
                  by_cases hlt : j < N
                  · obtain ⟨s, hs⟩ : ∃ s, l[j]? = some s := ⟨l[j]'(by have := HN.out; omega), List.getElem?_eq_getElem _⟩
                    have hro := (HRO.out wr HAL.out.bel).1
                    have hix := hro.index j (by have := HN.out; omega)
                    obtain ⟨kk, hkk⟩ : ∃ k, k = os + j * 4 := ⟨_, rfl⟩
                    have d0 : wr.cell? ⟨bs, kk, none⟩ = some (S s.m) := by rw [hkk]; exact hro.cell j s hs 0 _ rfl
                    rw [← hkk] at hix
                    have hq : binOp .eql 9 (S s.m) (.string ⟨#[72, 69, 65, 68]⟩) = pure (.bool (s.m == headT)) := eql_S 9 s.m headT
                    obtain ⟨BO, hBO⟩ : ∃ x, x = (s.m == headT) := ⟨_, rfl⟩
                    obtain ⟨sm, hsm⟩ : ∃ x, x = s.m := ⟨_, rfl⟩
                    rw [← hBO, ← hsm] at hq
                    rw [← hsm] at d0
                    have HS4 := Lib.hid (And.intro hs hBO)
                    clear hs hBO hsm hkk hro
                    cases O <;> (
                      go_wp2
                      exact ⟨⟨j + 1, by omega, by rw [takeR_any HS4.out.1, ← HO.out, ← HS4.out.2]; rfl, by go_num, by trivial⟩, by simp [intOf]; omega⟩)
                  · obtain rfl : N = j := by omega
                    have hOn : O = l.any fun s => s.m == headT := by have h := HO.out; rwa [HN.out, List.take_length] at h
                    have HOn := Lib.hid hOn
                    clear hOn hw1 HO hlt hj
                    cases O with
                    | true =>
                      have HWK := Lib.hid (wakes14_any (HI.out.up HAL.out.bel))
                      go_wp2_with fail
                      refine HWK.out.mono ?_
                      rintro e Wz ⟨rfl, hBz⟩
                      have HE := Lib.hid (Below.trans HAL.out.bel (hBz.mono (Below.size HAL.out.bel)))
                      clear hBz
                      go_wp2
                      go_ret
                      exact ⟨rfl, HE.out⟩
                    | false =>
                      have hnh : ∀ s ∈ l, s.m ≠ headT := fun s hs e => by
                        have h := HOn.out
                        rw [eq_comm, List.any_eq_false] at h
                        exact h s hs (by rw [e, beq_self_eq_true])
                      have HNH := Lib.hid hnh
                      have k0 := HAL.out.cells.1.1
                      have kf := HAL.out.cells.2
                      obtain ⟨W7, hW7⟩ : ∃ W, W = wr.setCell ⟨w.heap.size, 0, none⟩ (.string ⟨#[71, 69, 84]⟩) := ⟨_, rfl⟩
                      have hst : AlAt RF w F g l r Vr getT W7 := by rw [hW7]; exact HAL.out.store HC.out HG.out.2 getT
                      obtain ⟨⟨c0, c1, c2, c3, c4, c5, c6⟩, f0⟩ := hst.cells
                      have HS := Lib.hid (hst.serve HC.out HX.out.1 HG.out.1 HX.out.2 (by decide) HA.out)
                      rw [hW7] at HS c0 c1 c2 c3 c4 c5 c6
                      clear hst hW7 f0 hnh
                      go_wp2_with fail
                      refine HS.out.mono ?_
                      rintro e W8 ⟨y, ny, ay, cy, by_, oy, hy, hny, rfl, hFy, hAl, hB8⟩
                      clear HS c0 c1 c2 c3 c4 c5 c6 k0 kf
                      obtain ⟨-, -, hfs⟩ := told_served HG.out.1 HB.out.1 HB.out.2 HTG.out.1 hy
                      obtain ⟨yc, yf, yb, yk⟩ := y
                      dsimp only at hfs hny
                      subst hfs
                      obtain rfl : ny = 0 := hny
                      obtain ⟨b9, hb9⟩ : ∃ b, b = W8.heap.size := ⟨_, rfl⟩
                      obtain ⟨W9, hW9⟩ : ∃ W, W = W8.alloc (.cells #[.int .i64 yc, .slice ay 0 cy, S yb] 29) := ⟨_, rfl⟩
                      have hB9 : Below W8.heap.size W8 W9 := by rw [hW9]; exact (Below.refl _ _).alloc (Nat.le_refl _) _
                      have hal9 := hAl.below HC.out hB9
                      have hR9 : Row W9 b9 (rpuC yc (.slice ay 0 cy) yb) 29 := by rw [hW9, hb9]; exact row_new _ _ _
                      have hbn : b9 ≠ w.heap.size := by rw [hb9]; have := hAl.row.lt; omega
                      obtain ⟨W10, hW10⟩ : ∃ W, W = W9.setCell ⟨w.heap.size, 0, none⟩ (.string ⟨#[72, 69, 65, 68]⟩) := ⟨_, rfl⟩
                      have hst : AlAt RF w F g l r Vr headT W10 := by rw [hW10]; exact hal9.store HC.out HG.out.2 headT
                      have hR10 : Row W10 b9 (rpuC yc (.slice ay 0 cy) yb) 29 := by rw [hW10]; exact hR9.other hbn
                      have k0 := hal9.cells.1.1
                      have kf := hal9.cells.2
                      obtain ⟨⟨c0, c1, c2, c3, c4, c5, c6⟩, f0⟩ := hst.cells
                      have HS := Lib.hid (hst.serve HC.out HX.out.1 HG.out.1 HX.out.2 (by decide) HA.out)
                      have HY := Lib.hid (And.intro hy (And.intro hR10 hbn))
                      have HW10 := Lib.hid (And.intro hW10 (And.intro hW9 hb9))
                      rw [hW10] at HS c0 c1 c2 c3 c4 c5 c6
                      rw [hW9] at HS c0 c1 c2 c3 c4 c5 c6 k0 kf
                      clear hy hFy hAl hB8 hB9 hal9 hR9 hbn hst hR10 f0 hW10 hW9 hb9
                      dsimp only
                      go_wp2_with fail
                      refine HS.out.mono ?_
                      rintro e W11 ⟨z, nz, az, cz, bz, oz, hz, hnz, rfl, hFz, hAl, hB11⟩
                      rw [← HW10.out.2.1, ← HW10.out.1] at hB11
                      rw [← HW10.out.2.2]
                      clear HS c0 c1 c2 c3 c4 c5 c6 k0 kf
                      obtain rfl := serve_one (head_get HNH.out HY.out.1) hz
                      dsimp only at hnz hFz ⊢
                      obtain rfl : nz = 0 := hnz
                      obtain ⟨b12, hb12⟩ : ∃ b, b = W11.heap.size := ⟨_, rfl⟩
                      obtain ⟨W12, hW12⟩ : ∃ W, W = W11.alloc (.cells #[.int .i64 yc, .slice az 0 cz, S yb] 29) := ⟨_, rfl⟩
                      have hB12 : Below W11.heap.size W11 W12 := by rw [hW12]; exact (Below.refl _ _).alloc (Nat.le_refl _) _
                      have hR12 : Row W12 b12 (rpuC yc (.slice az 0 cz) yb) 29 := by rw [hW12, hb12]; exact row_new _ _ _
                      have hBb := hB11.trans (hB12.mono hB11.size)
                      have hR9b := HY.out.2.1.below hBb HY.out.2.1.lt
                      have hbel := (hAl.below HC.out hB12).bel
                      have hs := same14_true yc yb [] (.slice ay 0 cy) (.slice az 0 cz) 0 0 0 0 (by simp) W12 (fau_nil _ _ _) (fau_nil _ _ _)
                      unfold rpuC at hs
                      have HS1 := Lib.hid hs
                      have p0 : W12.cell? ⟨b9, 0, none⟩ = some (.int .i64 yc) := cell_of_row _ _ 0 _ _ (0, 0) hR9b
                      have p1 : W12.cell? ⟨b9, 1, none⟩ = some (.slice ay 0 cy) := cell_of_row _ _ 1 _ _ (0, 0) hR9b
                      have p2 : W12.cell? ⟨b9, 2, none⟩ = some (S yb) := cell_of_row _ _ 2 _ _ (0, 0) hR9b
                      have q0 : W12.cell? ⟨b12, 0, none⟩ = some (.int .i64 yc) := cell_of_row _ _ 0 _ _ (0, 0) hR12
                      have q1 : W12.cell? ⟨b12, 1, none⟩ = some (.slice az 0 cz) := cell_of_row _ _ 1 _ _ (0, 0) hR12
                      have q2 : W12.cell? ⟨b12, 2, none⟩ = some (S yb) := cell_of_row _ _ 2 _ _ (0, 0) hR12
                      have H12 := Lib.hid hbel
                      have HW12 := Lib.hid hW12
                      have hk1 : (yk == yk) = true := beq_self_eq_true yk
                      rw [hW12] at HS1 p0 p1 p2 q0 q1 q2
                      rw [hb12] at q0 q1 q2
                      clear hz hFz hAl hB11 hB12 hR12 hBb hR9b hbel hs hW12 hb12
                      go_wp2_with fail
                      refine HS1.out.mono ?_
                      rintro e W13 ⟨rfl, hB13⟩
                      rw [← HW12.out] at hB13
                      have H13 := Lib.hid (H12.out.trans (hB13.mono H12.out.size))
                      have HWK := Lib.hid (wakes14_any (HI.out.up H13.out))
                      clear hB13 p0 p1 p2 q0 q1 q2 HS1
                      go_wp2_with fail
                      refine HWK.out.mono ?_
                      rintro e Wz ⟨rfl, hBz⟩
                      have HE := Lib.hid (H13.out.trans (hBz.mono H13.out.size))
                      clear hBz
                      go_wp2
                      go_ret
                      exact ⟨rfl, HE.out⟩
end Go.Proofs.YtendejpkdjkmnaaGreatDoor
