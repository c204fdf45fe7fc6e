/- The law's TrieMore (stage 12) walked. (mktc.py writes it.) -/
import Derived.Test.YtgoaljnfegaldaaDoorTb
import Derived.Test.YtgoaljnfegaldaaDoorTm2
namespace Go.Proofs.YtgoaljnfegaldaaDoor
open Go.RowKit
attribute [local go_sem] store_one B_match B_store S_match S_store

theorem params_len : ∀ l p : List Txt, (paramsF l p).length ≤ p.length
  | [], _ => by simp [paramsF]
  | _ :: _, [] => by simp [paramsF]
  | s :: l, x :: p => by
    have ih := params_len l p
    rw [paramsF]
    split
    · simp
    · split
      · simp only [List.length_cons]; omega
      · simp only [List.length_cons]; omega
theorem fdF_len {β : Type} (r : Option (Txt × β)) (path : List Txt) : (fdF r path).length ≤ path.length := by
  cases r with
  | none => simp [fdF]
  | some e => exact params_len _ _
section
variable {RA : World → (Nat → Prop) → Nat → Int → Ents Int → Prop} {w W : World} {g : Nat} {max : Int} {l : Ents Int}
theorem OneT.findI (C : IntI w RA) (h : OneT RA w g max l W) {path : List Txt} {V : Value} {b o : Nat} (hV : TA W V path b o) (hp : PathOk path) {r : Option (Txt × Int)} (hr : FindIs l path r) {x : Int} {p : Txt} {ok : Bool} {fs : List (Txt × Txt)}
    (hx : fdX 0 r = x) (hpp : fdP r = p) (hok : r.isSome = ok) (hfs : fdF r path = fs) :
    Calls Tryd.prog 16 #[.pointer (some ⟨g, 0, none⟩), V] W fun e W' => ∃ VF gf o', e = .returned (.tuple #[.int .i64 x, VF, S p, .bool ok]) ∧ RowT RA w g max l VF fs gf o' W' ∧ Below W.heap.size W W' := by
  subst hx hpp hok hfs
  exact OneT.find C h hV hp hr
end
theorem own_facts {T : Ents Int} (hw : Wf T) (hs : ∀ e ∈ T, e.1.length ≤ 200) {r : Option (Txt × Int)} {path : List Txt} {x : Int} {p : Txt} {fs : List (Txt × Txt)} (h : FindIs T path r ∧ fdX 0 r = x ∧ fdP r = p ∧ r.isSome = true ∧ fdF r path = fs) :
    p.length ≤ 200 ∧ addE ((1 : Nat) : Int) [] p x = (0, [(p, x)]) ∧ FindIs [(p, x)] path (some (p, x)) ∧ fdF (some (p, x)) path = fs := by
  obtain ⟨h1, h2, h3, h4, h5⟩ := h
  cases r with
  | none => cases h4
  | some y =>
    obtain ⟨q, z⟩ := y
    subst h2 h3 h5
    exact ⟨hs _ h1.mem, add_one (q, z) (hw.segs _ h1.mem), find_own h1, rfl⟩
set_option maxRecDepth 100000 in
set_option maxHeartbeats 2000000 in
theorem more12_any {w : World} {RA : World → (Nat → Prop) → Nat → Int → Ents Int → Prop} (C : IntI w RA) (R : RightI w) (l : List Txt) (V : Value) (b o : Nat) (hV : TA w V l b o) (m : Txt) (path : List Txt) (Vp : Value) (bp op : Nat) (hP : TA w Vp path bp op) :
    Calls Tryd.prog 5 #[V, S m, Vp] w fun e w' => e = .returned (.bool true) ∧ Below w.heap.size w w' := by
  have HC := Lib.hid C
  have HR := Lib.hid R
  have hlV := hV.len 3
  have hlS := run_len_S (P := Tryd.prog) Tryd.underlying9 3 m
  obtain ⟨N, hN⟩ : ∃ N, N = l.length := ⟨_, rfl⟩
  obtain ⟨L, hL⟩ : ∃ L, L = m.length := ⟨_, rfl⟩
  rw [← hN] at hlV
  rw [← hL] at hlS
  have HV := Lib.hid (And.intro hV hN)
  have HP := Lib.hid hP
  have HL := Lib.hid hL
  have HW0 := Lib.hid (wakes12_any C R)
  have hg := great12_any path Vp bp op w hP
  obtain ⟨O, hO⟩ : ∃ O, O = greatF path := ⟨_, rfl⟩
  rw [← hO] at hg
  have HG := Lib.hid hg
  have HO := Lib.hid hO
  clear C R hV hP hN hL hO hg
  go_enter Tryd.func5, Tryd.ntmps5
  by_cases h30 : 30 < N
  · have g1 : decide ((30 : Int) < (N : Int)) = true := decide_eq_true (by omega)
    have HWK := Lib.hid (wakes12_any (HC.out.up (Below.refl w.heap.size w)) (HR.out.up (Below.refl w.heap.size w)))
    go_wp2_with fail
    refine HWK.out.mono ?_
    rintro e W1 ⟨rfl, hB⟩
    have HE := Lib.hid (Below.trans (Below.refl w.heap.size w) (hB.mono (Below.size (Below.refl w.heap.size w))))
    clear hB HWK
    go_wp2
    go_ret
    exact ⟨rfl, HE.out⟩
  have g1 : decide ((30 : Int) < (N : Int)) = false := decide_eq_false (by omega)
  by_cases h200 : 200 < L
  · have g2 : decide ((200 : Int) < (L : Int)) = true := decide_eq_true (by omega)
    have HWK := Lib.hid (wakes12_any (HC.out.up (Below.refl w.heap.size w)) (HR.out.up (Below.refl w.heap.size w)))
    go_wp2_with fail
    refine HWK.out.mono ?_
    rintro e W1 ⟨rfl, hB⟩
    have HE := Lib.hid (Below.trans (Below.refl w.heap.size w) (hB.mono (Below.size (Below.refl w.heap.size w))))
    clear hB HWK
    go_wp2
    go_ret
    exact ⟨rfl, HE.out⟩
  have g2 : decide ((200 : Int) < (L : Int)) = false := decide_eq_false (by omega)
  go_wp2_with fail
  refine HG.out.mono ?_
  rintro e W0 ⟨rfl, hWW⟩
  subst hWW
  cases O with
  | true =>
    have HWK := Lib.hid (wakes12_any (HC.out.up (Below.refl W0.heap.size W0)) (HR.out.up (Below.refl W0.heap.size W0)))
    go_wp2_with fail
    refine HWK.out.mono ?_
    rintro e W1 ⟨rfl, hB⟩
    have HE := Lib.hid (Below.trans (Below.refl W0.heap.size W0) (hB.mono (Below.size (Below.refl W0.heap.size W0))))
    clear hB HWK
    go_wp2
    go_ret
    exact ⟨rfl, HE.out⟩
  | false =>
    have HPK := Lib.hid (great_ok HO.out.symm)
    have HM := Lib.hid (OneT.make HC.out 40 (by decide) (Below.refl _ W0))
    clear HG HO
    go_wp2_with fail
    refine HM.out.mono ?_
    rintro e W1 ⟨g, rfl, hT⟩
    have HT1 := Lib.hid hT
    clear hT HM
    go_wp2_with fail
    go_loopw [8] (fun iv wr => ∃ i : Nat, i ≤ N ∧ iv = .int .i64 (i : Int) ∧ Hid (OneT RA W0 g ((40 : Nat) : Int) (addsN ((40 : Nat) : Int) (fun j _ => (j : Int)) l i) wr ∧ ∀ s ∈ l.take i, s.length ≤ 200)) (fun iv _ => N - (intOf iv).toNat)
    case atStart => exact ⟨0, Nat.zero_le _, rfl, Lib.hid ⟨HT1.out, by simp⟩⟩
    case round =>
      obtain ⟨i, hi, rfl, HI⟩ := hrel
      by_cases hlt : i < N
      · have g3 : decide ((i : Int) < (N : Int)) = true := decide_eq_true (by omega)
        obtain ⟨x, hx⟩ : ∃ x, l[i]? = some x := ⟨l[i]'(by have := HV.out.2; omega), List.getElem?_eq_getElem _⟩
        have hix := HV.out.1.index i (by have := HV.out.2; omega)
        have k0 := (HV.out.1.below HI.out.1.bel).cell i x hx
        obtain ⟨kk, hkk⟩ : ∃ k, k = o + i := ⟨_, rfl⟩
        rw [← hkk] at hix k0
        have hl1 := run_len_S (P := Tryd.prog) Tryd.underlying9 3 x
        obtain ⟨lx, hlx⟩ : ∃ a, a = x.length := ⟨_, rfl⟩
        rw [← hlx] at hl1
        have hw1 : IntKind.i64.wrap ((i : Int) + 1) = (i : Int) + 1 := by rw [IntKind.wrap_i64]; omega
        have HX := Lib.hid (And.intro hx hlx)
        clear hx hlx hkk
        by_cases hx2 : 200 < lx
        · have g4 : decide ((200 : Int) < (lx : Int)) = true := decide_eq_true (by omega)
          have HWK := Lib.hid (wakes12_any (HC.out.up HI.out.1.bel) (HR.out.up HI.out.1.bel))
          go_wp2_with fail
          refine HWK.out.mono ?_
          rintro e W2 ⟨rfl, hB⟩
          have HE := Lib.hid (Below.trans HI.out.1.bel (hB.mono (Below.size HI.out.1.bel)))
          clear hB HWK
          go_wp2
          go_ret
          exact ⟨rfl, HE.out⟩
        · have g4 : decide ((200 : Int) < (lx : Int)) = false := decide_eq_false (by omega)
          have HXL : Hid (x.length ≤ 200) := Lib.hid (by have := HX.out.2; omega)
          have HA := Lib.hid (OneT.add HC.out HI.out.1 x (i : Int) HXL.out)
          go_wp2_with fail
          refine HA.out.mono ?_
          rintro e W2 ⟨rfl, hT⟩
          have HX3 : Hid (OneT RA W0 g ((40 : Nat) : Int) (addsN ((40 : Nat) : Int) (fun j _ => (j : Int)) l (i + 1)) W2 ∧ ∀ s ∈ l.take (i + 1), s.length ≤ 200) := Lib.hid ⟨by rw [adds_next HX.out.1]; exact hT, by
            intro s hs
            rw [List.take_add_one, HX.out.1] at hs
            rcases List.mem_append.1 hs with hs | hs
            · exact HI.out.2 s hs
            · have : s = x := by simpa using hs
              rw [this]; exact HXL.out⟩
          clear hT HA k0
          go_wp2
          exact ⟨⟨i + 1, by omega, by go_num, HX3⟩, by simp [intOf]; omega⟩
      · obtain rfl : i = N := by omega
        have g3 : decide ((i : Int) < (i : Int)) = false := decide_eq_false (by omega)
        obtain ⟨T, hT⟩ : ∃ T, T = addsN ((40 : Nat) : Int) (fun j _ => (j : Int)) l i := ⟨_, rfl⟩
        have HT : Hid (OneT RA W0 g ((40 : Nat) : Int) T wr ∧ Wf T ∧ ∀ e ∈ T, e.1.length ≤ 200) := Lib.hid (by rw [hT]; exact ⟨HI.out.1, adds_wf _ _ _ _, adds_small HI.out.2⟩)
        clear hT HI HT1
        obtain ⟨r, hr⟩ := find_is path HT.out.2.1
        obtain ⟨x, hx⟩ : ∃ x, x = fdX 0 r := ⟨_, rfl⟩
        obtain ⟨p, hp⟩ : ∃ p, p = fdP r := ⟨_, rfl⟩
        obtain ⟨ok, hok⟩ : ∃ ok, ok = r.isSome := ⟨_, rfl⟩
        obtain ⟨fs, hfs⟩ : ∃ fs, fs = fdF r path := ⟨_, rfl⟩
        have HRR := Lib.hid (And.intro hr (And.intro hx.symm (And.intro hp.symm (And.intro hok.symm hfs.symm))))
        have HFL : Hid (fs.length ≤ 1000000) := Lib.hid (by rw [hfs]; have h1 := fdF_len r path; have h2 := HPK.out.1; omega)
        clear hr hx hp hok hfs
        have HF := Lib.hid (OneT.findI HC.out HT.out.1 (HP.out.below HT.out.1.bel) HPK.out HRR.out.1 HRR.out.2.1 HRR.out.2.2.1 HRR.out.2.2.2.1 HRR.out.2.2.2.2)
        have x1 : (x != x) = false := by simp
        have x2 : (x == x) = true := by simp
        have q1 : binOp .neq 9 (S p) (S p) = pure (.bool false) := by rw [neql_S]; simp
        have q2 : binOp .eql 9 (S p) (S p) = pure (.bool true) := by rw [eql_S]; simp
        have n1 : ∀ a b, eqGuard .neq 9 a b (S p) (S p) = pure () := fun a b => nguard_S 9 a b p p
        have n2 : ∀ a b, eqGuard .eql 9 a b (S p) (S p) = pure () := fun a b => guard_S 9 a b p p
        have n3 : ∀ a b, eqGuard .neq 9 a b (S p) (S m) = pure () := fun a b => nguard_S 9 a b p m
        have n4 : ∀ a b, eqGuard .neq 9 a b (S m) (S m) = pure () := fun a b => nguard_S 9 a b m m
        have q3 : binOp .neq 9 (S m) (S m) = pure (.bool false) := by rw [neql_S]; simp
        go_wp2_with fail
        refine HF.out.mono ?_
        rintro e W2 ⟨VF, gf, of, rfl, hT, hB⟩
        have HT2 := Lib.hid (And.intro hT HT.out.2)
        clear hT hB HF HT
        cases ok with
        | false =>
          have HA := Lib.hid (RowT.add HC.out HT2.out.1 m (-1) (by have := HL.out; omega))
          obtain ⟨c, hc⟩ : ∃ c, c = (addE ((40 : Nat) : Int) T m (-1)).1 := ⟨_, rfl⟩
          obtain ⟨T2, hT2⟩ : ∃ t, t = (addE ((40 : Nat) : Int) T m (-1)).2 := ⟨_, rfl⟩
          have hmc : (FindIs T2 path r ∧ (c ≠ 0 ∨ p ≠ m)) ∨ (c = 0 ∧ FindIs T2 path (some (m, (-1 : Int))) ∧ (∃ s, segsF m = some s) ∧ FindIs [(m, (-1 : Int))] path (some (m, -1))) := by rw [hc, hT2, ← HRR.out.2.2.1]; exact more_cases HT2.out.2.1 _ (-1) HRR.out.1
          rw [← hc, ← hT2] at HA
          clear hc hT2
          rcases hmc with hmc | hmc
          · have HMC := Lib.hid hmc
            clear hmc
            go_wp2_with fail
            refine HA.out.mono ?_
            rintro e W3 ⟨rfl, hT⟩
            have HT3 := Lib.hid hT
            clear hT HA
            have HF := Lib.hid (OneT.findI HC.out HT3.out.one (HP.out.below HT3.out.bel) HPK.out HMC.out.1 HRR.out.2.1 HRR.out.2.2.1 HRR.out.2.2.2.1 HRR.out.2.2.2.2)
            by_cases hc0 : c = 0
            · have c1 : ((c : Int) != 0) = false := by rw [hc0]; rfl
              have q4 : binOp .neq 9 (S p) (S m) = pure (.bool true) := by
                rw [neql_S]
                have := HMC.out.2.resolve_left (fun e => e hc0)
                rw [bne_iff_ne.2 this]
              clear hc0
              go_wp2_with fail
              refine HF.out.mono ?_
              rintro e W4 ⟨VG, gg, og, rfl, hT, hB⟩
              have HSM := Lib.hid (sameF12_true fs VF VG gf of gg og HFL.out W4 (HT3.out.row.below hB) hT.row)
              have HB := Lib.hid hT.bel
              clear hT hB HF
              go_wp2_with fail
              refine HSM.out.mono ?_
              rintro e W5 ⟨rfl, hB⟩
              have HBB := Lib.hid (HB.out.trans (hB.mono HB.out.size))
              clear hB HSM HB
              have HWK := Lib.hid (wakes12_any (HC.out.up HBB.out) (HR.out.up HBB.out))
              go_wp2_with fail
              refine HWK.out.mono ?_
              rintro e W6 ⟨rfl, hB⟩
              have HE := Lib.hid (Below.trans HBB.out (hB.mono (Below.size HBB.out)))
              clear hB HWK
              go_wp2
              go_ret
              exact ⟨rfl, HE.out⟩
            · have c1 : ((c : Int) != 0) = true := by rw [bne_iff_ne]; omega
              clear hc0
              go_wp2_with fail
              refine HF.out.mono ?_
              rintro e W4 ⟨VG, gg, og, rfl, hT, hB⟩
              have HSM := Lib.hid (sameF12_true fs VF VG gf of gg og HFL.out W4 (HT3.out.row.below hB) hT.row)
              have HB := Lib.hid hT.bel
              clear hT hB HF
              go_wp2_with fail
              refine HSM.out.mono ?_
              rintro e W5 ⟨rfl, hB⟩
              have HBB := Lib.hid (HB.out.trans (hB.mono HB.out.size))
              clear hB HSM HB
              have HWK := Lib.hid (wakes12_any (HC.out.up HBB.out) (HR.out.up HBB.out))
              go_wp2_with fail
              refine HWK.out.mono ?_
              rintro e W6 ⟨rfl, hB⟩
              have HE := Lib.hid (Below.trans HBB.out (hB.mono (Below.size HBB.out)))
              clear hB HWK
              go_wp2
              go_ret
              exact ⟨rfl, HE.out⟩
          · have HMC := Lib.hid hmc
            have c1 : ((c : Int) != 0) = false := by rw [hmc.1]; rfl
            clear hmc
            obtain ⟨f2, hf2⟩ : ∃ f, fdF (some (m, (-1 : Int))) path = f := ⟨_, rfl⟩
            have HF2 : Hid (f2.length ≤ 1000000 ∧ fdF (some (m, (-1 : Int))) path = f2) := Lib.hid ⟨by rw [← hf2]; have h1 := fdF_len (some (m, (-1 : Int))) path; have h2 := HPK.out.1; omega, hf2⟩
            clear hf2
            go_wp2_with fail
            refine HA.out.mono ?_
            rintro e W3 ⟨rfl, hT⟩
            have HT3 := Lib.hid hT
            clear hT HA
            have HF := Lib.hid (OneT.findI HC.out HT3.out.one (HP.out.below HT3.out.bel) HPK.out HMC.out.2.1 (x := -1) rfl (p := m) rfl (ok := true) rfl HF2.out.2)
            go_wp2_with fail
            refine HF.out.mono ?_
            rintro e W4 ⟨VG, gg, og, rfl, hT, hB⟩
            have HG2 := Lib.hid hT
            clear hT hB HF
            have HM := Lib.hid (OneT.make (HC.out.up HG2.out.bel) 1 (by decide) (Below.refl _ W4))
            go_wp2_with fail
            refine HM.out.mono ?_
            rintro e W5 ⟨g2, rfl, hT⟩
            have HO1 := Lib.hid hT
            clear hT HM
            have ha := OneT.add (HC.out.up HG2.out.bel) HO1.out m (-1) (by have := HL.out; omega)
            rw [show addE ((1 : Nat) : Int) [] m (-1) = (0, [(m, (-1 : Int))]) from add_one (m, -1) HMC.out.2.2.1] at ha
            have HA2 := Lib.hid ha
            clear ha
            go_wp2_with fail
            refine HA2.out.mono ?_
            rintro e W6 ⟨rfl, hT⟩
            have HO2 := Lib.hid hT
            clear hT HA2 HO1
            have HF := Lib.hid (OneT.findI (HC.out.up HG2.out.bel) HO2.out (HP.out.below (HG2.out.bel.trans (HO2.out.bel.mono HG2.out.bel.size))) HPK.out HMC.out.2.2.2 (x := -1) rfl (p := m) rfl (ok := true) rfl HF2.out.2)
            go_wp2_with fail
            refine HF.out.mono ?_
            rintro e W7 ⟨VH, gh, oh, rfl, hT, hB⟩
            have HSM := Lib.hid (sameF12_true f2 VG VH gg og gh oh HF2.out.1 W7 (HG2.out.row.below (HO2.out.bel.trans (hB.mono HO2.out.bel.size))) hT.row)
            have HB := Lib.hid (HG2.out.bel.trans (hT.bel.mono HG2.out.bel.size))
            clear hT hB HF HO2
            go_wp2_with fail
            refine HSM.out.mono ?_
            rintro e W8 ⟨rfl, hB⟩
            have HBB := Lib.hid (HB.out.trans (hB.mono HB.out.size))
            clear hB HSM HB
            have HWK := Lib.hid (wakes12_any (HC.out.up HBB.out) (HR.out.up HBB.out))
            go_wp2_with fail
            refine HWK.out.mono ?_
            rintro e W9 ⟨rfl, hB⟩
            have HE := Lib.hid (Below.trans HBB.out (hB.mono (Below.size HBB.out)))
            clear hB HWK
            go_wp2
            go_ret
            exact ⟨rfl, HE.out⟩
        | true =>
          have HOF := Lib.hid (own_facts HT2.out.2.1 HT2.out.2.2 HRR.out)
          have HM := Lib.hid (OneT.make (HC.out.up HT2.out.1.bel) 1 (by decide) (Below.refl _ W2))
          go_wp2_with fail
          refine HM.out.mono ?_
          rintro e W3 ⟨g1, rfl, hT⟩
          have HO1 := Lib.hid hT
          clear hT HM
          have ha := OneT.add (HC.out.up HT2.out.1.bel) HO1.out p x HOF.out.1
          rw [HOF.out.2.1] at ha
          have HA1 := Lib.hid ha
          clear ha
          go_wp2_with fail
          refine HA1.out.mono ?_
          rintro e W4 ⟨rfl, hT⟩
          have HO2 := Lib.hid hT
          clear hT HA1 HO1
          have HF := Lib.hid (OneT.findI (HC.out.up HT2.out.1.bel) HO2.out (HP.out.below (HT2.out.1.bel.trans (HO2.out.bel.mono HT2.out.1.bel.size))) HPK.out HOF.out.2.2.1 (x := x) rfl (p := p) rfl (ok := true) rfl HOF.out.2.2.2)
          go_wp2_with fail
          refine HF.out.mono ?_
          rintro e W5 ⟨VG1, gg1, og1, rfl, hT, hB⟩
          have HSM := Lib.hid (sameF12_true fs VF VG1 gf of gg1 og1 HFL.out W5 (HT2.out.1.row.below (HO2.out.bel.trans (hB.mono HO2.out.bel.size))) hT.row)
          have HB := Lib.hid hT.bel
          clear hT hB HF HO2
          go_wp2_with fail
          refine HSM.out.mono ?_
          rintro e W6 ⟨rfl, hB⟩
          have HT5 := Lib.hid (And.intro (HT2.out.1.below HC.out (HB.out.trans (hB.mono HB.out.size))) HT2.out.2)
          clear hB HSM HB HT2 HOF
          have HT2 := Lib.hid HT5.out
          clear HT5
          go_wp2_with fail
          have HA := Lib.hid (RowT.add HC.out HT2.out.1 m (-1) (by have := HL.out; omega))
          obtain ⟨c, hc⟩ : ∃ c, c = (addE ((40 : Nat) : Int) T m (-1)).1 := ⟨_, rfl⟩
          obtain ⟨T2, hT2⟩ : ∃ t, t = (addE ((40 : Nat) : Int) T m (-1)).2 := ⟨_, rfl⟩
          have hmc : (FindIs T2 path r ∧ (c ≠ 0 ∨ p ≠ m)) ∨ (c = 0 ∧ FindIs T2 path (some (m, (-1 : Int))) ∧ (∃ s, segsF m = some s) ∧ FindIs [(m, (-1 : Int))] path (some (m, -1))) := by rw [hc, hT2, ← HRR.out.2.2.1]; exact more_cases HT2.out.2.1 _ (-1) HRR.out.1
          rw [← hc, ← hT2] at HA
          clear hc hT2
          rcases hmc with hmc | hmc
          · have HMC := Lib.hid hmc
            clear hmc
            go_wp2_with fail
            refine HA.out.mono ?_
            rintro e W7 ⟨rfl, hT⟩
            have HT3 := Lib.hid hT
            clear hT HA
            have HF := Lib.hid (OneT.findI HC.out HT3.out.one (HP.out.below HT3.out.bel) HPK.out HMC.out.1 HRR.out.2.1 HRR.out.2.2.1 HRR.out.2.2.2.1 HRR.out.2.2.2.2)
            by_cases hc0 : c = 0
            · have c1 : ((c : Int) != 0) = false := by rw [hc0]; rfl
              have q4 : binOp .neq 9 (S p) (S m) = pure (.bool true) := by
                rw [neql_S]
                have := HMC.out.2.resolve_left (fun e => e hc0)
                rw [bne_iff_ne.2 this]
              clear hc0
              go_wp2_with fail
              refine HF.out.mono ?_
              rintro e W8 ⟨VG, gg, og, rfl, hT, hB⟩
              have HSM := Lib.hid (sameF12_true fs VF VG gf of gg og HFL.out W8 (HT3.out.row.below hB) hT.row)
              have HB := Lib.hid hT.bel
              clear hT hB HF
              go_wp2_with fail
              refine HSM.out.mono ?_
              rintro e W9 ⟨rfl, hB⟩
              have HBB := Lib.hid (HB.out.trans (hB.mono HB.out.size))
              clear hB HSM HB
              have HWK := Lib.hid (wakes12_any (HC.out.up HBB.out) (HR.out.up HBB.out))
              go_wp2_with fail
              refine HWK.out.mono ?_
              rintro e W10 ⟨rfl, hB⟩
              have HE := Lib.hid (Below.trans HBB.out (hB.mono (Below.size HBB.out)))
              clear hB HWK
              go_wp2
              go_ret
              exact ⟨rfl, HE.out⟩
            · have c1 : ((c : Int) != 0) = true := by rw [bne_iff_ne]; omega
              clear hc0
              go_wp2_with fail
              refine HF.out.mono ?_
              rintro e W8 ⟨VG, gg, og, rfl, hT, hB⟩
              have HSM := Lib.hid (sameF12_true fs VF VG gf of gg og HFL.out W8 (HT3.out.row.below hB) hT.row)
              have HB := Lib.hid hT.bel
              clear hT hB HF
              go_wp2_with fail
              refine HSM.out.mono ?_
              rintro e W9 ⟨rfl, hB⟩
              have HBB := Lib.hid (HB.out.trans (hB.mono HB.out.size))
              clear hB HSM HB
              have HWK := Lib.hid (wakes12_any (HC.out.up HBB.out) (HR.out.up HBB.out))
              go_wp2_with fail
              refine HWK.out.mono ?_
              rintro e W10 ⟨rfl, hB⟩
              have HE := Lib.hid (Below.trans HBB.out (hB.mono (Below.size HBB.out)))
              clear hB HWK
              go_wp2
              go_ret
              exact ⟨rfl, HE.out⟩
          · have HMC := Lib.hid hmc
            have c1 : ((c : Int) != 0) = false := by rw [hmc.1]; rfl
            clear hmc
            obtain ⟨f2, hf2⟩ : ∃ f, fdF (some (m, (-1 : Int))) path = f := ⟨_, rfl⟩
            have HF2 : Hid (f2.length ≤ 1000000 ∧ fdF (some (m, (-1 : Int))) path = f2) := Lib.hid ⟨by rw [← hf2]; have h1 := fdF_len (some (m, (-1 : Int))) path; have h2 := HPK.out.1; omega, hf2⟩
            clear hf2
            go_wp2_with fail
            refine HA.out.mono ?_
            rintro e W7 ⟨rfl, hT⟩
            have HT3 := Lib.hid hT
            clear hT HA
            have HF := Lib.hid (OneT.findI HC.out HT3.out.one (HP.out.below HT3.out.bel) HPK.out HMC.out.2.1 (x := -1) rfl (p := m) rfl (ok := true) rfl HF2.out.2)
            go_wp2_with fail
            refine HF.out.mono ?_
            rintro e W8 ⟨VG, gg, og, rfl, hT, hB⟩
            have HG2 := Lib.hid hT
            clear hT hB HF
            have HM := Lib.hid (OneT.make (HC.out.up HG2.out.bel) 1 (by decide) (Below.refl _ W8))
            go_wp2_with fail
            refine HM.out.mono ?_
            rintro e W9 ⟨g2, rfl, hT⟩
            have HO1 := Lib.hid hT
            clear hT HM
            have ha := OneT.add (HC.out.up HG2.out.bel) HO1.out m (-1) (by have := HL.out; omega)
            rw [show addE ((1 : Nat) : Int) [] m (-1) = (0, [(m, (-1 : Int))]) from add_one (m, -1) HMC.out.2.2.1] at ha
            have HA2 := Lib.hid ha
            clear ha
            go_wp2_with fail
            refine HA2.out.mono ?_
            rintro e W10 ⟨rfl, hT⟩
            have HO2 := Lib.hid hT
            clear hT HA2 HO1
            have HF := Lib.hid (OneT.findI (HC.out.up HG2.out.bel) HO2.out (HP.out.below (HG2.out.bel.trans (HO2.out.bel.mono HG2.out.bel.size))) HPK.out HMC.out.2.2.2 (x := -1) rfl (p := m) rfl (ok := true) rfl HF2.out.2)
            go_wp2_with fail
            refine HF.out.mono ?_
            rintro e W11 ⟨VH, gh, oh, rfl, hT, hB⟩
            have HSM := Lib.hid (sameF12_true f2 VG VH gg og gh oh HF2.out.1 W11 (HG2.out.row.below (HO2.out.bel.trans (hB.mono HO2.out.bel.size))) hT.row)
            have HB := Lib.hid (HG2.out.bel.trans (hT.bel.mono HG2.out.bel.size))
            clear hT hB HF HO2
            go_wp2_with fail
            refine HSM.out.mono ?_
            rintro e W12 ⟨rfl, hB⟩
            have HBB := Lib.hid (HB.out.trans (hB.mono HB.out.size))
            clear hB HSM HB
            have HWK := Lib.hid (wakes12_any (HC.out.up HBB.out) (HR.out.up HBB.out))
            go_wp2_with fail
            refine HWK.out.mono ?_
            rintro e W13 ⟨rfl, hB⟩
            have HE := Lib.hid (Below.trans HBB.out (hB.mono (Below.size HBB.out)))
            clear hB HWK
            go_wp2
            go_ret
            exact ⟨rfl, HE.out⟩
end Go.Proofs.YtgoaljnfegaldaaDoor
