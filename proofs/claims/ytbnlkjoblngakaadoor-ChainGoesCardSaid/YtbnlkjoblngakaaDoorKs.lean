/- The document's Right (stage 13) walked. (mkksr.py writes it.) -/
import Derived.Test.YtbnlkjoblngakaaDoorKr
namespace Go.Proofs.YtbnlkjoblngakaaDoor
open Go.RowKit Go.Shelf
attribute [local go_sem] store_one S_match S_store eguard_BN nguard_BN

set_option maxRecDepth 100000 in
set_option maxHeartbeats 4000000 in
theorem right13_any (s : Stp) (h1 : s.name.length ≤ 100) (h2 : s.val.length ≤ 100) (w : World) : Calls Tryd.prog 13 #[stV s] w fun e w' => e = .returned (.bool (rightS s)) ∧ Below w.heap.size w w' := by
  unfold stV stC
  obtain ⟨kd, nm, vl, n⟩ := s
  dsimp only at *
  obtain ⟨W1, hW1⟩ : ∃ W, W = w.alloc (.cells #[.int .i64 kd, S nm, S vl, .int .i64 n] 37) := ⟨_, rfl⟩
  have hr : Row W1 w.heap.size #[.int .i64 kd, S nm, S vl, .int .i64 n] 37 := by rw [hW1]; exact row_new _ _ _
  have hB : Below w.heap.size w W1 := by rw [hW1]; exact (Below.refl _ _).alloc (Nat.le_refl _) _
  have d0 : W1.cell? ⟨w.heap.size, 0, none⟩ = some (.int .i64 kd) := cell_of_row W1 _ 0 _ _ (0, 0) hr
  have d1 : W1.cell? ⟨w.heap.size, 1, none⟩ = some (S nm) := cell_of_row W1 _ 1 _ _ (0, 0) hr
  have d2 : W1.cell? ⟨w.heap.size, 2, none⟩ = some (S vl) := cell_of_row W1 _ 2 _ _ (0, 0) hr
  have d3 : W1.cell? ⟨w.heap.size, 3, none⟩ = some (.int .i64 n) := cell_of_row W1 _ 3 _ _ (0, 0) hr
  have HR := Lib.hid hr
  have HB := Lib.hid hB
  have HLv : Hid (vl.length < 1000000) := Lib.hid (by omega)
  have HTn := Lib.hid (token13_any nm (by omega) W1)
  have HTv := Lib.hid (token13_any vl (by omega) W1)
  have HPv := Lib.hid (plain13_any vl (by omega) W1)
  have HOn := Lib.hid (own13_any nm (by omega) W1)
  have HOv := Lib.hid (own13_any vl (by omega) W1)
  have HW := Lib.hid hW1
  rw [hW1] at HTn HTv HPv HOn HOv d0 d1 d2 d3
  clear hr hB hW1 h1 h2
  by_cases k1 : kd = 1
  · have := HW
    have e1 : (kd == 1) = true := beq_iff_eq.2 k1
    have HV : Hid (rightS ⟨kd, nm, vl, n⟩ = (tokF nm && plainV vl && !ownN nm && n == 0)) := Lib.hid (by unfold rightS; simp [k1])
    clear k1 this
    go_enter Tryd.func13, Tryd.ntmps13
    go_wp2_with fail
    refine HTn.out.mono ?_
    rintro e W2 ⟨rfl, hw2⟩
    subst hw2
    cases t1 : tokF nm with
    | false =>
      have HT : Hid (rightS ⟨kd, nm, vl, n⟩ = false) := Lib.hid (by rw [HV.out]; simp [t1])
      go_wp2
      go_ret
      exact ⟨by rw [HT.out]; rfl, by rw [← HW.out]; exact HB.out⟩
    | true =>
      go_wp2_with fail
      refine HPv.out.mono ?_
      rintro e W2 ⟨rfl, hw2⟩
      subst hw2
      cases t2 : plainV vl with
      | false =>
        have HT : Hid (rightS ⟨kd, nm, vl, n⟩ = false) := Lib.hid (by rw [HV.out]; simp [t1, t2])
        go_wp2
        go_ret
        exact ⟨by rw [HT.out]; rfl, by rw [← HW.out]; exact HB.out⟩
      | true =>
        go_wp2_with fail
        refine HOn.out.mono ?_
        rintro e W2 ⟨rfl, hB2⟩
        rw [← HW.out] at hB2
        have HB2 := Lib.hid (HB.out.trans (hB2.mono HB.out.size))
        have f3 : W2.cell? ⟨w.heap.size, 3, none⟩ = some (.int .i64 n) := cell_of_row W2 _ 3 _ _ (0, 0) (HR.out.below hB2 HR.out.lt)
        clear hB2
        cases t3 : ownN nm with
        | true =>
          have HT : Hid (rightS ⟨kd, nm, vl, n⟩ = false) := Lib.hid (by rw [HV.out]; simp [t1, t2, t3])
          go_wp2
          go_ret
          exact ⟨by rw [HT.out]; rfl, HB2.out⟩
        | false =>
          by_cases hn : n = 0
          · have e0 : (n == 0) = true := beq_iff_eq.2 hn
            have HT : Hid (rightS ⟨kd, nm, vl, n⟩ = true) := Lib.hid (by rw [HV.out]; simp [t1, t2, t3, hn])
            clear hn HV
            go_wp2
            go_ret
            exact ⟨by rw [HT.out]; rfl, HB2.out⟩
          · have e0 : (n == 0) = false := beq_eq_false_iff_ne.2 hn
            have HT : Hid (rightS ⟨kd, nm, vl, n⟩ = false) := Lib.hid (by rw [HV.out]; simp [t1, t2, t3, hn])
            clear hn HV
            go_wp2
            go_ret
            exact ⟨by rw [HT.out]; rfl, HB2.out⟩
  by_cases k2 : kd = 2
  · have := HW
    have e1 : (kd == 1) = false := beq_eq_false_iff_ne.2 (by omega)
    have e2 : (kd == 2) = true := beq_iff_eq.2 k2
    have HV : Hid (rightS ⟨kd, nm, vl, n⟩ = (tokF nm && n == 0)) := Lib.hid (by unfold rightS; simp [k2])
    clear k1 k2 this
    go_enter Tryd.func13, Tryd.ntmps13
    go_wp2_with fail
    refine HTn.out.mono ?_
    rintro e W2 ⟨rfl, hw2⟩
    subst hw2
    cases t1 : tokF nm with
    | false =>
      have HT : Hid (rightS ⟨kd, nm, vl, n⟩ = false) := Lib.hid (by rw [HV.out]; simp [t1])
      go_wp2
      go_ret
      exact ⟨by rw [HT.out]; rfl, by rw [← HW.out]; exact HB.out⟩
    | true =>
      by_cases hn : n = 0
      · have e0 : (n == 0) = true := beq_iff_eq.2 hn
        have HT : Hid (rightS ⟨kd, nm, vl, n⟩ = true) := Lib.hid (by rw [HV.out]; simp [t1, hn])
        clear hn HV
        go_wp2
        go_ret
        exact ⟨by rw [HT.out]; rfl, by rw [← HW.out]; exact HB.out⟩
      · have e0 : (n == 0) = false := beq_eq_false_iff_ne.2 hn
        have HT : Hid (rightS ⟨kd, nm, vl, n⟩ = false) := Lib.hid (by rw [HV.out]; simp [t1, hn])
        clear hn HV
        go_wp2
        go_ret
        exact ⟨by rw [HT.out]; rfl, by rw [← HW.out]; exact HB.out⟩
  by_cases k3 : kd = 3
  · have := HW
    have e1 : (kd == 1) = false := beq_eq_false_iff_ne.2 (by omega)
    have e2 : (kd == 2) = false := beq_eq_false_iff_ne.2 (by omega)
    have e3 : (kd == 3) = true := beq_iff_eq.2 k3
    have HV : Hid (rightS ⟨kd, nm, vl, n⟩ = (decide (0 ≤ n) && nm == [] && vl == [])) := Lib.hid (by unfold rightS; simp [k3])
    clear k1 k2 k3 this
    have qn := empty_S nm
    have qv := empty_S vl
    have gn := eguard_E nm
    have gv := eguard_E vl
    by_cases hn : 0 ≤ n
    · have e0 : decide (0 ≤ n) = true := decide_eq_true hn
      by_cases z1 : nm = []
      · rw [z1] at qn
        have qn2 : binOp .eql 9 (S []) (.string ⟨#[]⟩) = pure (.bool true) := qn
        by_cases z2 : vl = []
        · rw [z2] at qv
          have qv2 : binOp .eql 9 (S []) (.string ⟨#[]⟩) = pure (.bool true) := qv
          have HT : Hid (rightS ⟨kd, nm, vl, n⟩ = true) := Lib.hid (by rw [HV.out]; simp [hn, z1, z2])
          clear hn HV HTn HTv HPv HOn HOv qn qv gn gv
          have gz := eguard_E []
          subst z1 z2
          go_enter Tryd.func13, Tryd.ntmps13
          go_wp2
          go_ret
          exact ⟨by rw [HT.out]; rfl, by rw [← HW.out]; exact HB.out⟩
        · rw [decide_eq_true (List.length_pos_iff.2 z2)] at qv
          have HT : Hid (rightS ⟨kd, nm, vl, n⟩ = false) := Lib.hid (by rw [HV.out]; simp [hn, z1, z2])
          clear hn HV HTn HTv HPv HOn HOv qn gn z2
          have gz := eguard_E []
          subst z1
          go_enter Tryd.func13, Tryd.ntmps13
          go_wp2
          go_ret
          exact ⟨by rw [HT.out]; rfl, by rw [← HW.out]; exact HB.out⟩
      · rw [decide_eq_true (List.length_pos_iff.2 z1)] at qn
        have HT : Hid (rightS ⟨kd, nm, vl, n⟩ = false) := Lib.hid (by rw [HV.out]; simp [hn, z1])
        clear hn HV HTn HTv HPv HOn HOv qv gv z1
        go_enter Tryd.func13, Tryd.ntmps13
        go_wp2
        go_ret
        exact ⟨by rw [HT.out]; rfl, by rw [← HW.out]; exact HB.out⟩
    · have e0 : decide (0 ≤ n) = false := decide_eq_false hn
      have HT : Hid (rightS ⟨kd, nm, vl, n⟩ = false) := Lib.hid (by rw [HV.out]; simp [hn])
      clear hn HV HTn HTv HPv HOn HOv qn qv gn gv
      go_enter Tryd.func13, Tryd.ntmps13
      go_wp2
      go_ret
      exact ⟨by rw [HT.out]; rfl, by rw [← HW.out]; exact HB.out⟩
  by_cases k4 : kd = 4
  · have := HW
    have e1 : (kd == 1) = false := beq_eq_false_iff_ne.2 (by omega)
    have e2 : (kd == 2) = false := beq_eq_false_iff_ne.2 (by omega)
    have e3 : (kd == 3) = false := beq_eq_false_iff_ne.2 (by omega)
    have e4 : (kd == 4) = true := beq_iff_eq.2 k4
    have HV : Hid (rightS ⟨kd, nm, vl, n⟩ = (decide (2 ≤ vl.length) && vl[0]? == some 47 && vl[vl.length - 1]? != some 47 && nm == [] && n == 0)) := Lib.hid (by unfold rightS; simp [k4])
    clear k1 k2 k3 k4 this HTn HTv HPv HOn HOv
    have hlen := run_len_S (P := Tryd.prog) Tryd.underlying9 3 vl
    have qn := empty_S nm
    have gn := eguard_E nm
    by_cases hL : 2 ≤ vl.length
    · have gL : decide ((2 : Int) ≤ (vl.length : Int)) = true := decide_eq_true (by omega)
      obtain ⟨a, ha⟩ : ∃ c, vl[0]? = some c := ⟨vl[0], List.getElem?_eq_getElem (by omega)⟩
      obtain ⟨b, hb⟩ : ∃ c, vl[vl.length - 1]? = some c := ⟨vl[vl.length - 1], List.getElem?_eq_getElem (by omega)⟩
      have hia : ∀ w, (Instr.index 9 (S vl) (.int .i64 0)).run Tryd.prog w = .ok (B a) w := fun w => index_S (P := Tryd.prog) Tryd.underlying9 vl 0 a ha w
      have hib : ∀ w, (Instr.index 9 (S vl) (.int .i64 ((vl.length : Int) - 1))).run Tryd.prog w = .ok (B b) w := fun w => by
        have := index_S (P := Tryd.prog) Tryd.underlying9 vl (vl.length - 1) b hb w
        rwa [show ((vl.length - 1 : Nat) : Int) = (vl.length : Int) - 1 by omega] at this
      have hw : IntKind.i64.wrap ((vl.length : Int) - 1) = (vl.length : Int) - 1 := by rw [IntKind.wrap_i64]; have : vl.length < 1000000 := HLv.out; omega
      have HV : Hid (rightS ⟨kd, nm, vl, n⟩ = (a == 47 && b != 47 && nm == [] && n == 0)) := Lib.hid (by rw [HV.out, ha, hb, decide_eq_true hL]; simp [bne])
      have qa := B_eqlN 5 a 47
      have qb := B_neqN 5 b 47
      clear ha hb hL
      by_cases ta : a = 47
      · rw [show (((a.toNat : Nat) : Int) == 47) = true by rw [ta]; rfl] at qa
        by_cases tb : b = 47
        · rw [show (((b.toNat : Nat) : Int) != 47) = false by rw [tb]; rfl] at qb
          have HT : Hid (rightS ⟨kd, nm, vl, n⟩ = false) := Lib.hid (by rw [HV.out]; simp [ta, tb])
          clear ta tb HV qn gn
          go_enter Tryd.func13, Tryd.ntmps13
          go_wp2
          go_ret
          exact ⟨by rw [HT.out]; rfl, by rw [← HW.out]; exact HB.out⟩
        · rw [show (((b.toNat : Nat) : Int) != 47) = true by rw [bne_iff_ne]; intro e; exact tb (UInt8.toNat_inj.1 (by have : ((47 : UInt8).toNat) = 47 := rfl; omega))] at qb
          by_cases z1 : nm = []
          · rw [z1] at qn
            have qn2 : binOp .eql 9 (S []) (.string ⟨#[]⟩) = pure (.bool true) := qn
            have gz := eguard_E []
            by_cases hn : n = 0
            · have e0 : (n == 0) = true := beq_iff_eq.2 hn
              have HT : Hid (rightS ⟨kd, nm, vl, n⟩ = true) := Lib.hid (by rw [HV.out]; simp [ta, tb, z1, hn])
              clear ta tb HV qn gn hn
              subst z1
              go_enter Tryd.func13, Tryd.ntmps13
              go_wp2
              go_ret
              exact ⟨by rw [HT.out]; rfl, by rw [← HW.out]; exact HB.out⟩
            · have e0 : (n == 0) = false := beq_eq_false_iff_ne.2 hn
              have HT : Hid (rightS ⟨kd, nm, vl, n⟩ = false) := Lib.hid (by rw [HV.out]; simp [ta, tb, z1, hn])
              clear ta tb HV qn gn hn
              subst z1
              go_enter Tryd.func13, Tryd.ntmps13
              go_wp2
              go_ret
              exact ⟨by rw [HT.out]; rfl, by rw [← HW.out]; exact HB.out⟩
          · rw [decide_eq_true (List.length_pos_iff.2 z1)] at qn
            have HT : Hid (rightS ⟨kd, nm, vl, n⟩ = false) := Lib.hid (by rw [HV.out]; simp [ta, tb, z1])
            clear ta tb HV z1
            go_enter Tryd.func13, Tryd.ntmps13
            go_wp2
            go_ret
            exact ⟨by rw [HT.out]; rfl, by rw [← HW.out]; exact HB.out⟩
      · rw [show (((a.toNat : Nat) : Int) == 47) = false by rw [beq_eq_false_iff_ne]; intro e; exact ta (UInt8.toNat_inj.1 (by have : ((47 : UInt8).toNat) = 47 := rfl; omega))] at qa
        have HT : Hid (rightS ⟨kd, nm, vl, n⟩ = false) := Lib.hid (by rw [HV.out]; simp [ta])
        clear ta HV qn gn qb
        go_enter Tryd.func13, Tryd.ntmps13
        go_wp2
        go_ret
        exact ⟨by rw [HT.out]; rfl, by rw [← HW.out]; exact HB.out⟩
    · have gL : decide ((2 : Int) ≤ (vl.length : Int)) = false := decide_eq_false (by omega)
      have HT : Hid (rightS ⟨kd, nm, vl, n⟩ = false) := Lib.hid (by rw [HV.out]; simp [hL])
      clear hL HV qn gn
      go_enter Tryd.func13, Tryd.ntmps13
      go_wp2
      go_ret
      exact ⟨by rw [HT.out]; rfl, by rw [← HW.out]; exact HB.out⟩
  by_cases k5 : kd = 5
  · have := HW
    have e1 : (kd == 1) = false := beq_eq_false_iff_ne.2 (by omega)
    have e2 : (kd == 2) = false := beq_eq_false_iff_ne.2 (by omega)
    have e3 : (kd == 3) = false := beq_eq_false_iff_ne.2 (by omega)
    have e4 : (kd == 4) = false := beq_eq_false_iff_ne.2 (by omega)
    have e5 : (kd == 5) = true := beq_iff_eq.2 k5
    have HV : Hid (rightS ⟨kd, nm, vl, n⟩ = (tokF nm && tokF vl && !ownN vl && n == 0)) := Lib.hid (by unfold rightS; simp [k5])
    clear k1 k2 k3 k4 k5 this
    go_enter Tryd.func13, Tryd.ntmps13
    go_wp2_with fail
    refine HTn.out.mono ?_
    rintro e W2 ⟨rfl, hw2⟩
    subst hw2
    cases t1 : tokF nm with
    | false =>
      have HT : Hid (rightS ⟨kd, nm, vl, n⟩ = false) := Lib.hid (by rw [HV.out]; simp [t1])
      go_wp2
      go_ret
      exact ⟨by rw [HT.out]; rfl, by rw [← HW.out]; exact HB.out⟩
    | true =>
      go_wp2_with fail
      refine HTv.out.mono ?_
      rintro e W2 ⟨rfl, hw2⟩
      subst hw2
      cases t2 : tokF vl with
      | false =>
        have HT : Hid (rightS ⟨kd, nm, vl, n⟩ = false) := Lib.hid (by rw [HV.out]; simp [t1, t2])
        go_wp2
        go_ret
        exact ⟨by rw [HT.out]; rfl, by rw [← HW.out]; exact HB.out⟩
      | true =>
        go_wp2_with fail
        refine HOv.out.mono ?_
        rintro e W2 ⟨rfl, hB2⟩
        rw [← HW.out] at hB2
        have HB2 := Lib.hid (HB.out.trans (hB2.mono HB.out.size))
        have f3 : W2.cell? ⟨w.heap.size, 3, none⟩ = some (.int .i64 n) := cell_of_row W2 _ 3 _ _ (0, 0) (HR.out.below hB2 HR.out.lt)
        clear hB2
        cases t3 : ownN vl with
        | true =>
          have HT : Hid (rightS ⟨kd, nm, vl, n⟩ = false) := Lib.hid (by rw [HV.out]; simp [t1, t2, t3])
          go_wp2
          go_ret
          exact ⟨by rw [HT.out]; rfl, HB2.out⟩
        | false =>
          by_cases hn : n = 0
          · have e0 : (n == 0) = true := beq_iff_eq.2 hn
            have HT : Hid (rightS ⟨kd, nm, vl, n⟩ = true) := Lib.hid (by rw [HV.out]; simp [t1, t2, t3, hn])
            clear hn HV
            go_wp2
            go_ret
            exact ⟨by rw [HT.out]; rfl, HB2.out⟩
          · have e0 : (n == 0) = false := beq_eq_false_iff_ne.2 hn
            have HT : Hid (rightS ⟨kd, nm, vl, n⟩ = false) := Lib.hid (by rw [HV.out]; simp [t1, t2, t3, hn])
            clear hn HV
            go_wp2
            go_ret
            exact ⟨by rw [HT.out]; rfl, HB2.out⟩
  have e1 : (kd == 1) = false := beq_eq_false_iff_ne.2 k1
  have e2 : (kd == 2) = false := beq_eq_false_iff_ne.2 k2
  have e3 : (kd == 3) = false := beq_eq_false_iff_ne.2 k3
  have e4 : (kd == 4) = false := beq_eq_false_iff_ne.2 k4
  have e5 : (kd == 5) = false := beq_eq_false_iff_ne.2 k5
  have HT : Hid (rightS ⟨kd, nm, vl, n⟩ = false) := Lib.hid (by unfold rightS; simp [k1, k2, k3, k4, k5])
  clear k1 k2 k3 k4 k5 HTn HTv HPv HOn HOv
  go_enter Tryd.func13, Tryd.ntmps13
  go_wp2
  go_ret
  exact ⟨by rw [HT.out]; rfl, by rw [← HW.out]; exact HB.out⟩
end Go.Proofs.YtbnlkjoblngakaaDoor
