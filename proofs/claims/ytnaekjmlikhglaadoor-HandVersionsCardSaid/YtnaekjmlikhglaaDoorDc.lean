/- The document's Check (stage 17) walked. (mkdc.py writes it.) -/
import Derived.Test.YtnaekjmlikhglaaDoorDb
namespace Go.Proofs.YtnaekjmlikhglaaDoor
open Go.RowKit
attribute [local go_sem] store_one B_match B_store S_match S_store

theorem bb_decode (t : List UInt8) (ht : t.length ≤ 10000) (w : World) : Calls Tryd.prog 40 #[S t] w fun e w' => e = .returned (.tuple #[S ((bb.dec t).getD []), .bool (bb.dec t).isSome]) ∧ Below w.heap.size w w' := by
  have h := bb.ref_decode t ht w
  unfold bb.ans at h
  rw [bb_S, bb_S] at h
  exact h
/-- A request in its box, its fields as they came. -/
structure StD (w : World) (fc : Array Value) (V : Value) (fs : DFds) (b o : Nat) (W : World) : Prop where
  row : Row W w.heap.size fc 24
  fa : FA W V fs b o
  below : Below w.heap.size w W
theorem StD.next {w : World} {fc : Array Value} {V : Value} {fs : DFds} {b o : Nat} {W W' : World} (h : StD w fc V fs b o W) (hb : Below W.heap.size W W') : StD w fc V fs b o W' := ⟨h.row.below hb h.row.lt, h.fa.below hb, h.below.trans (hb.mono h.below.size)⟩
/-- The one text of a row of one. -/
theorem one_of {w : World} {base : Nat} {v : Value} {l : List DTx} (h : Own base v (l.map S) w) (hl : l.length = 1) : ∃ g cap x, v = .slice (some ⟨g, 0, none⟩) 1 cap ∧ l = [x] ∧ w.cell? ⟨g, 0, none⟩ = some (S x) ∧ g < w.heap.size := by
  obtain ⟨g, cap, rfl, _, hg, hr⟩ := h.shape (n := 1) (by rw [List.length_map]; exact hl) (by decide)
  match l, hl with
  | [x], _ => exact ⟨g, cap, x, rfl, rfl, by have := hr 0 (S x) rfl; simpa using this, hg⟩
theorem ne1I (n : Nat) : ((n : Int) != 1) = !decide (n = 1) := by by_cases h : n = 1 <;> simp [h]; omega
theorem ne1N (n : Nat) : (n != 1) = !decide (n = 1) := by by_cases h : n = 1 <;> simp [h]
theorem ne16I (n : Nat) : ((n : Int) != 16) = !decide (n = 16) := by by_cases h : n = 16 <;> simp [h]; omega
theorem ne16N (n : Nat) : (n != 16) = !decide (n = 16) := by by_cases h : n = 16 <;> simp [h]
theorem check_no {m : DTx} {v : Int} {fs : DFds} (h : askF m v fs = false) : checkF m v fs = ([], 400) := by
  unfold checkF; rw [if_neg (by rw [h]; decide)]
set_option maxRecDepth 100000 in
set_option maxHeartbeats 4000000 in
theorem rcheck_any (m p q : DTx) (v : Int) (V : Value) (body : DTx) (cl : Bool) (fs : DFds) (b o : Nat) (w : World) (hV : FA w V fs b o) (hs : Small17 fs) :
    Calls Tryd.prog 12 #[rqV17 m p q v V body cl] w fun e w' => e = .returned (.tuple #[S (checkF m v fs).1, .int .i64 ((checkF m v fs).2 : Int)]) ∧ Below w.heap.size w w' := by
  obtain ⟨W1, hW1⟩ : ∃ W, W = w.alloc (.cells (rqC17 m p q v V body cl) 24) := ⟨_, rfl⟩
  have hb1 : Below w.heap.size w W1 := by rw [hW1]; exact (Below.refl _ _).alloc (Nat.le_refl _) _
  have H1 : Hid (StD w (rqC17 m p q v V body cl) V fs b o W1) := Lib.hid ⟨by rw [hW1]; exact row_new _ _ _, hV.below hb1, hb1⟩
  obtain ⟨a1, ha1⟩ : ∃ x, x = (m == getD) := ⟨_, rfl⟩
  obtain ⟨a2, ha2⟩ : ∃ x, x = (v == 11) := ⟨_, rfl⟩
  obtain ⟨a3, ha3⟩ : ∃ x, x = decide ((manyF fs hostD).length = 1) := ⟨_, rfl⟩
  obtain ⟨a4, ha4⟩ : ∃ x, x = hasAny (manyF fs upD) wsD := ⟨_, rfl⟩
  obtain ⟨a5, ha5⟩ : ∃ x, x = hasAny (manyF fs conD) upD := ⟨_, rfl⟩
  obtain ⟨a6, ha6⟩ : ∃ x, x = decide ((manyF fs keyD).length = 1) := ⟨_, rfl⟩
  obtain ⟨a7, ha7⟩ : ∃ x, x = decide ((manyF fs verD).length = 1) := ⟨_, rfl⟩
  obtain ⟨a8, ha8⟩ : ∃ x, x = ok16 ((manyF fs keyD).headD []) := ⟨_, rfl⟩
  have hask : askF m v fs = (a1 && a2 && a3 && a4 && a5 && a6 && a7 && a8) := by unfold askF; rw [ha1, ha2, ha3, ha4, ha5, ha6, ha7, ha8]
  have HN : Hid ((a1 && a2 && a3 && a4 && a5 && a6 && a7 && a8) = false → checkF m v fs = ([], 400)) := Lib.hid fun h => check_no (by rw [hask]; exact h)
  have HY : Hid ((a1 && a2 && a3 && a4 && a5 && a6 && a7 && a8) = true → checkF m v fs = if (manyF fs verD).headD [] = v13D then (accF ((manyF fs keyD).headD []), 101) else ([], 426)) := Lib.hid fun h => by unfold checkF; rw [if_pos (by rw [hask]; exact h)]
  have eM : binOp .neq 9 (S m) (.string ⟨#[71, 69, 84]⟩) = pure (.bool (!a1)) := by rw [ha1]; exact neql_S 9 m getD
  have gM : ∀ x y, eqGuard .neq 9 x y (S m) (.string ⟨#[71, 69, 84]⟩) = pure () := fun x y => nguard_S 9 x y m getD
  have q2 : (v != 11) = !a2 := by rw [ha2]; rfl
  have hfl := hs.few
  have hlong : ∀ f ∈ fs, f.1.length ≤ 100000 := fun f hf => by have := (hs.each f hf).1; omega
  have hml : ∀ n, ∀ x ∈ manyF fs n, x.length ≤ 200 := fun n x hx => by
    obtain ⟨f, hf, rfl, _⟩ := many_mem hx
    exact (hs.each f hf).2
  have HML := Lib.hid hml
  have HMY : Hid (∀ (t : DTx) (W : World), t.length ≤ 1000 → StD w (rqC17 m p q v V body cl) V fs b o W → Calls Tryd.prog 38 #[V, S t] W fun e w' => ∃ x, e = .returned x ∧ Own W.heap.size x ((manyF fs t).map S) w' ∧ Below W.heap.size W w') := Lib.hid fun t W ht h => rmany_any V fs b o t (by omega) (by omega) hlong W h.fa
  have HHS : Hid (∀ (x : Value) (n t : DTx) (base : Nat) (W : World), t.length ≤ 1000 → Own base x ((manyF fs n).map S) W → Calls Tryd.prog 39 #[x, S t] W fun e w' => e = .returned (.bool (hasAny (manyF fs n) t)) ∧ Below W.heap.size W w') := Lib.hid fun x n t base W ht h => rhas_any x _ base t (by omega) (by have := many_len fs n; omega) (fun y hy => by have := hml n y hy; omega) W h
  have HLN : Hid (∀ n, (manyF fs n).length ≤ 100) := Lib.hid fun n => by have := many_len fs n; omega
  have HA3 := Lib.hid ha3
  have HA4 := Lib.hid ha4
  have HA5 := Lib.hid ha5
  have HA67 := Lib.hid (And.intro ha6 (And.intro ha7 ha8))
  have hc : ∀ W, StD w (rqC17 m p q v V body cl) V fs b o W → W.cell? ⟨w.heap.size, 4, none⟩ = some V := fun W h => cell_of_row W _ 4 _ _ (0, 0) h.row
  have HC := Lib.hid hc
  clear hask ha1 ha2 ha3 ha4 ha5 ha6 ha7 ha8 hb1 hV hs hfl hlong hml hc
  obtain ⟨fc, hfc⟩ : ∃ c, c = rqC17 m p q v V body cl := ⟨_, rfl⟩
  rw [← hfc] at H1 HMY HC
  unfold rqV17
  unfold rqC17 at hfc hW1 ⊢
  clear hfc
  go_enter Tryd.func12, Tryd.ntmps12
  cases a1 with
  | false =>
    have HV : Hid (checkF m v fs = ([], 400)) := Lib.hid (HN.out (by simp))
    clear HN HMY HHS HC HA3 HA4 HA5 HA67 HML HLN
    go_wp2
    go_ret2
    exact ⟨by rw [HV.out]; rfl, by rw [← hW1]; exact H1.out.below⟩
  | true =>
    cases a2 with
    | false =>
      have HV : Hid (checkF m v fs = ([], 400)) := Lib.hid (HN.out (by simp))
      clear HN HMY HHS HC HA3 HA4 HA5 HA67 HML HLN
      go_wp2
      go_ret2
      exact ⟨by rw [HV.out]; rfl, by rw [← hW1]; exact H1.out.below⟩
    | true =>
      go_wp2_with fail
      rw [← hW1]
      refine (HMY.out hostD W1 (by simp [hostD]) H1.out).mono ?_
      rintro e W2 ⟨xh, rfl, hO, hB⟩
      have S2 := Lib.hid (H1.out.next hB)
      have hl := own_len (P := Tryd.prog) hO 50 9 3 Tryd.underlying50
      rw [List.length_map] at hl
      obtain ⟨n1, hn1⟩ : ∃ x, x = (manyF fs hostD).length := ⟨_, rfl⟩
      have hA := HA3.out
      rw [← hn1] at hl hA
      have q3 : ((n1 : Int) != 1) = !a3 := by rw [hA]; exact ne1I n1
      have q3' : (n1 != 1) = !a3 := by rw [hA]; exact ne1N n1
      have c4 := HC.out W2 S2.out
      clear hA hn1 hO hB H1 hW1
      cases a3 with
      | false =>
        have HV : Hid (checkF m v fs = ([], 400)) := Lib.hid (HN.out (by simp))
        clear HN HMY HHS HC HA3 HA4 HA5 HA67 HML HLN
        go_wp2
        go_ret2
        exact ⟨by rw [HV.out]; rfl, S2.out.below⟩
      | true =>
        go_wp2_with fail
        refine (HMY.out upD W2 (by simp [upD]) S2.out).mono ?_
        rintro e W3 ⟨xu, rfl, hO, hB⟩
        have S3 := Lib.hid (S2.out.next hB)
        have hOu := Lib.hid hO
        clear hO hB
        go_wp2_with fail
        have hH := HHS.out xu upD wsD _ W3 (by simp [wsD]) hOu.out
        rw [← HA4.out] at hH
        refine hH.mono ?_
        rintro e W4 ⟨rfl, hB⟩
        have S4 := Lib.hid (S3.out.next hB)
        have d4u := HC.out W4 S4.out
        clear hH hB hOu
        cases a4 with
        | false =>
          have HV : Hid (checkF m v fs = ([], 400)) := Lib.hid (HN.out (by simp))
          clear HN HMY HHS HC HA3 HA4 HA5 HA67 HML HLN
          go_wp2
          go_ret2
          exact ⟨by rw [HV.out]; rfl, S4.out.below⟩
        | true =>
          go_wp2_with fail
          refine (HMY.out conD W4 (by simp [conD]) S4.out).mono ?_
          rintro e W5 ⟨xc, rfl, hO, hB⟩
          have S5 := Lib.hid (S4.out.next hB)
          have hOc := Lib.hid hO
          clear hO hB
          go_wp2_with fail
          have hH := HHS.out xc conD upD _ W5 (by simp [upD]) hOc.out
          rw [← HA5.out] at hH
          refine hH.mono ?_
          rintro e W6 ⟨rfl, hB⟩
          have S6 := Lib.hid (S5.out.next hB)
          have d4c := HC.out W6 S6.out
          clear hH hB hOc
          cases a5 with
          | false =>
            have HV : Hid (checkF m v fs = ([], 400)) := Lib.hid (HN.out (by simp))
            clear HN HMY HHS HC HA3 HA4 HA5 HA67 HML HLN
            go_wp2
            go_ret2
            exact ⟨by rw [HV.out]; rfl, S6.out.below⟩
          | true =>
            go_wp2_with fail
            refine (HMY.out keyD W6 (by simp [keyD]) S6.out).mono ?_
            rintro e W7 ⟨xk, rfl, hO, hB⟩
            have S7 := Lib.hid (S6.out.next hB)
            have hOk := Lib.hid hO
            have e4 := HC.out W7 S7.out
            clear hO hB
            go_wp2_with fail
            refine (HMY.out verD W7 (by simp [verD]) S7.out).mono ?_
            rintro e W8 ⟨xv, rfl, hO, hB⟩
            have S8 := Lib.hid (S7.out.next hB)
            have hOk8 := hOk.out.of_block hB.size (fun j hj => hB.block j (hOk.out.lt j hj).2)
            have hlk := own_len (P := Tryd.prog) hOk8 50 9 3 Tryd.underlying50
            have hlv := own_len (P := Tryd.prog) hO 50 9 3 Tryd.underlying50
            rw [List.length_map] at hlk hlv
            have HOV := Lib.hid (And.intro hOk8 hO)
            obtain ⟨n6, hn6⟩ : ∃ x, x = (manyF fs keyD).length := ⟨_, rfl⟩
            obtain ⟨n7, hn7⟩ : ∃ x, x = (manyF fs verD).length := ⟨_, rfl⟩
            have hA6 := HA67.out.1
            have hA7 := HA67.out.2.1
            rw [← hn6] at hlk hA6
            rw [← hn7] at hlv hA7
            have q6 : ((n6 : Int) != 1) = !a6 := by rw [hA6]; exact ne1I n6
            have q6' : (n6 != 1) = !a6 := by rw [hA6]; exact ne1N n6
            have q7 : ((n7 : Int) != 1) = !a7 := by rw [hA7]; exact ne1I n7
            have q7' : (n7 != 1) = !a7 := by rw [hA7]; exact ne1N n7
            have HNN := Lib.hid (And.intro hn6 (And.intro hn7 (And.intro hA6 hA7)))
            clear hOk8 hO hOk hB hA6 hA7 hn6 hn7
            cases a6 with
            | false =>
              have HV : Hid (checkF m v fs = ([], 400)) := Lib.hid (HN.out (by simp))
              clear HN HMY HHS HC HA3 HA4 HA5 HA67 HML HLN
              go_wp2
              go_ret2
              exact ⟨by rw [HV.out]; rfl, S8.out.below⟩
            | true =>
              cases a7 with
              | false =>
                have HV : Hid (checkF m v fs = ([], 400)) := Lib.hid (HN.out (by simp))
                clear HN HMY HHS HC HA3 HA4 HA5 HA67 HML HLN
                go_wp2
                go_ret2
                exact ⟨by rw [HV.out]; rfl, S8.out.below⟩
              | true =>
                have h61 : (manyF fs keyD).length = 1 := by rw [← HNN.out.1]; exact of_decide_eq_true HNN.out.2.2.1.symm
                have h71 : (manyF fs verD).length = 1 := by rw [← HNN.out.2.1]; exact of_decide_eq_true HNN.out.2.2.2.symm
                obtain ⟨gk, ck, k0, rfl, hk0, ek, glk⟩ := one_of HOV.out.1 h61
                obtain ⟨gv, cv, v0, rfl, hv0, ev, glv⟩ := one_of HOV.out.2 h71
                have hA8 := HA67.out.2.2
                have hk200 : k0.length ≤ 200 := HML.out keyD k0 (by rw [hk0]; exact List.mem_singleton.2 rfl)
                have HYY := HY.out
                rw [hk0] at hA8 HYY
                rw [hv0] at HYY
                have hYY : (true && true && true && true && true && true && true && a8) = true → checkF m v fs = if v0 = v13D then (accF k0, 101) else ([], 426) := HYY
                have hA8' : a8 = ok16 k0 := hA8
                have hD := bb_decode k0 (by omega) W8
                obtain ⟨ak, hak⟩ : ∃ x, x = accF k0 := ⟨_, rfl⟩
                rw [← hak] at hYY
                have HAC : Hid (∀ W, Calls Tryd.prog 17 #[S k0] W fun e w' => e = .returned (S ak) ∧ Below W.heap.size W w') := Lib.hid fun W => by rw [hak]; exact raccept_any k0 (by omega) W
                have eV : binOp .neq 9 (S v0) (.string ⟨#[49, 51]⟩) = pure (.bool (v0 != v13D)) := neql_S 9 v0 v13D
                have gV : ∀ x y, eqGuard .neq 9 x y (S v0) (.string ⟨#[49, 51]⟩) = pure () := fun x y => nguard_S 9 x y v0 v13D
                have HE8 := Lib.hid (And.intro ev (And.intro glv (And.intro ek glk)))
                have HYH := Lib.hid hYY
                unfold ok16 at hA8'
                clear hak hA8 HYY hYY h61 h71 hk0 hv0 hk200 HY
                cases hd : bb.dec k0 with
                | none =>
                  rw [hd] at hD hA8'
                  have ha8 : a8 = false := hA8'
                  subst ha8
                  have HD := Lib.hid hD
                  clear hD hd hA8'
                  go_wp2_with fail
                  refine HD.out.mono ?_
                  rintro e W9 ⟨rfl, hB⟩
                  have S9 := Lib.hid (S8.out.next hB)
                  clear hB HD
                  have HV : Hid (checkF m v fs = ([], 400)) := Lib.hid (HN.out (by simp))
                  clear HN HMY HHS HC HA3 HA4 HA5 HA67 HML HLN
                  go_wp2
                  go_ret2
                  exact ⟨by rw [HV.out]; rfl, S9.out.below⟩
                | some t =>
                  rw [hd] at hD hA8'
                  have hA : a8 = decide (t.length = 16) := hA8'
                  have hlt := run_len_S (P := Tryd.prog) Tryd.underlying9 3 t
                  have HD : Hid (Calls Tryd.prog 40 #[S k0] W8 fun e w' => e = .returned (.tuple #[S t, .bool true]) ∧ Below W8.heap.size W8 w') := Lib.hid hD
                  obtain ⟨n8, hn8⟩ : ∃ x, x = t.length := ⟨_, rfl⟩
                  rw [← hn8] at hlt hA
                  have q8 : ((n8 : Int) != 16) = !a8 := by rw [hA]; exact ne16I n8
                  have q8' : (n8 != 16) = !a8 := by rw [hA]; exact ne16N n8
                  clear hD hd hA8' hA hn8
                  go_wp2_with fail
                  refine HD.out.mono ?_
                  rintro e W9 ⟨rfl, hB⟩
                  have S9 := Lib.hid (S8.out.next hB)
                  have ek9 : W9.cell? ⟨gk, 0, none⟩ = some (S k0) := by rw [hB.cell (p := ⟨gk, 0, none⟩) HE8.out.2.2.2]; exact HE8.out.2.2.1
                  have ev9 : W9.cell? ⟨gv, 0, none⟩ = some (S v0) := by rw [hB.cell (p := ⟨gv, 0, none⟩) HE8.out.2.1]; exact HE8.out.1
                  clear hB HD
                  cases a8 with
                  | false =>
                    have HV : Hid (checkF m v fs = ([], 400)) := Lib.hid (HN.out (by simp))
                    clear HN HMY HHS HC HA3 HA4 HA5 HA67 HML HLN
                    go_wp2
                    go_ret2
                    exact ⟨by rw [HV.out]; rfl, S9.out.below⟩
                  | true =>
                    have hC := HYH.out rfl
                    clear HN HMY HHS HC HA3 HA4 HA5 HA67 HML HLN HYH ek ev
                    by_cases h13 : v0 = v13D
                    · rw [if_pos h13] at hC
                      have HV := Lib.hid hC
                      rw [show (v0 != v13D) = false by simpa using h13] at eV
                      clear hC h13
                      go_wp2_with fail
                      refine (HAC.out W9).mono ?_
                      rintro e W10 ⟨rfl, hB⟩
                      have S10 := Lib.hid (S9.out.next hB)
                      clear hB HAC
                      go_wp2
                      go_ret2
                      exact ⟨by rw [HV.out]; rfl, S10.out.below⟩
                    · rw [if_neg h13] at hC
                      have HV := Lib.hid hC
                      rw [show (v0 != v13D) = true by simpa using h13] at eV
                      clear hC h13
                      go_wp2
                      go_ret2
                      exact ⟨by rw [HV.out]; rfl, S9.out.below⟩
end Go.Proofs.YtnaekjmlikhglaaDoor
