/- The law's TrieFills (stage 12) walked. (mkte.py writes it.) -/
import Derived.Test.YtgoaljnfegaldaaDoorTc
import Derived.Test.YtgoaljnfegaldaaDoorTm4
import Derived.Test.YtgoaljnfegaldaaDoorQb
import Derived.BigQuiet
namespace Go.Proofs.YtgoaljnfegaldaaDoor
open Go.RowKit
attribute [local go_sem] store_one B_match B_store S_match S_store eguard_BN nguard_BN

theorem sl_len : ∀ l : List Txt, (∀ s ∈ l, s.length ≤ 40) → (slF l).length ≤ 41 * l.length
  | [], _ => by simp [slF]
  | s :: l, h => by
    have h1 := sl_len l fun t ht => h t (List.mem_cons_of_mem _ ht)
    have h2 := h s (by simp)
    rw [sl_cons, List.length_cons, List.length_append, List.length_cons]
    omega
theorem want_len {path : List Txt} (h : PathOk path) : (wantF path).length ≤ 600 := by
  unfold wantF
  split
  · simp
  · have h1 := sl_len path h.2
    have h2 := h.1
    omega
theorem found_at {T : Ents Int} (hw : Wf T) {r : Option (Txt × Int)} {path : List Txt} {p : Txt} {fs : List (Txt × Txt)} (hr : FindIs T path r) (hp : fdP r = p) (hok : r.isSome = true) (hfs : fdF r path = fs) : ∃ l pr, FillAt p (wantF path) fs 0 0 [] l pr := by
  cases r with
  | none => cases hok
  | some e =>
    obtain ⟨s, hs⟩ := hw.segs e hr.mem
    have h1 := hr.fits
    have e1 : segD e.1 = s := by unfold segD; rw [hs]; rfl
    rw [e1] at h1
    have := fill_start hs h1
    subst hp hfs
    show ∃ l pr, FillAt e.1 (wantF path) (paramsF (segD e.1) path) 0 0 [] l pr
    rw [e1]; exact this
theorem not_found {β : Type} {r : Option (Txt × β)} {path : List Txt} {p : Txt} {fs : List (Txt × Txt)} (hp : fdP r = p) (hok : r.isSome = false) (hfs : fdF r path = fs) : p = [] ∧ fs = [] := by
  cases r with
  | none => exact ⟨hp.symm, hfs.symm⟩
  | some e => cases hok
theorem small_found {T : Ents Int} (hs : ∀ e ∈ T, e.1.length ≤ 200) {r : Option (Txt × Int)} {path : List Txt} {p : Txt} (hr : FindIs T path r) (hp : fdP r = p) : p.length ≤ 200 := by
  cases r with
  | none => subst hp; show (0 : Nat) ≤ 200; omega
  | some e => subst hp; exact hs e hr.mem
theorem kind_empty : kindS [] = 0 := rfl
theorem kind_lit {c : UInt8} {s : Txt} (h1 : c ≠ 58) (h2 : c ≠ 42) : kindS (c :: s) = 0 := by
  show (if c = 58 then 1 else if c = 42 then 2 else 0) = 0
  rw [if_neg h1, if_neg h2]
theorem kind_par {c : UInt8} {s : Txt} (h1 : c = 58) : kindS (c :: s) ≠ 0 := by
  show (if c = 58 then 1 else if c = 42 then 2 else 0) ≠ 0
  rw [if_pos h1]; decide
theorem kind_rest {c : UInt8} {s : Txt} (h1 : c ≠ 58) (h2 : c = 42) : kindS (c :: s) ≠ 0 := by
  show (if c = 58 then 1 else if c = 42 then 2 else 0) ≠ 0
  rw [if_neg h1, if_pos h2]; decide
theorem b_eqk (c : UInt8) (k : Nat) (hk : k < 256) (h : c ≠ UInt8.ofNat k) : ((c.toNat : Int) == (k : Int)) = false := by
  rw [beq_eq_false_iff_ne]; intro e; exact h (UInt8.toNat_inj.1 (by rw [UInt8.toNat_ofNat_of_lt' (by simpa using hk)]; omega))
set_option maxRecDepth 100000 in
set_option maxHeartbeats 2000000 in
theorem fills12_any {w : World} {RA : World → (Nat → Prop) → Nat → Int → Ents Int → Prop} (C : IntI w RA) (R : RightI w) (l : List Txt) (V : Value) (b o : Nat) (hV : TA w V l b o) (path : List Txt) (Vp : Value) (bp op : Nat) (hP : TA w Vp path bp op) :
    Calls Tryd.prog 4 #[V, Vp] w fun e w' => e = .returned (.bool true) ∧ Below w.heap.size w w' := by
  have HC := Lib.hid C
  have HR := Lib.hid R
  have hlV := hV.len 3
  have hlP := hP.len 3
  obtain ⟨N, hN⟩ : ∃ N, N = l.length := ⟨_, rfl⟩
  obtain ⟨M, hM⟩ : ∃ M, M = path.length := ⟨_, rfl⟩
  rw [← hN] at hlV
  rw [← hM] at hlP
  have HV := Lib.hid (And.intro hV hN)
  have HP := Lib.hid (And.intro hP hM)
  have hg := great12_any path Vp bp op w hP
  obtain ⟨O, hO⟩ : ∃ O, O = greatF path := ⟨_, rfl⟩
  rw [← hO] at hg
  have HG := Lib.hid hg
  have HO := Lib.hid hO
  clear C R hV hP hN hM hO hg
  go_enter Tryd.func4, Tryd.ntmps4
  by_cases h30 : 30 < N
  · have g1 : decide ((30 : Int) < (N : Int)) = true := decide_eq_true (by omega)
    have HWK := Lib.hid (wakes12_any (HC.out.up (Below.refl w.heap.size w)) (HR.out.up (Below.refl w.heap.size w)))
    go_wp2_with fail
    refine HWK.out.mono ?_
    rintro e W1 ⟨rfl, hB⟩
    have HEE := Lib.hid (Below.trans (Below.refl w.heap.size w) (hB.mono (Below.size (Below.refl w.heap.size w))))
    clear hB HWK
    go_wp2
    go_ret
    exact ⟨rfl, HEE.out⟩
  have g1 : decide ((30 : Int) < (N : Int)) = false := decide_eq_false (by omega)
  go_wp2_with fail
  refine HG.out.mono ?_
  rintro e W0 ⟨rfl, hWW⟩
  subst hWW
  cases O with
  | true =>
    have HWK := Lib.hid (wakes12_any (HC.out.up (Below.refl W0.heap.size W0)) (HR.out.up (Below.refl W0.heap.size W0)))
    go_wp2_with fail
    refine HWK.out.mono ?_
    rintro e W1 ⟨rfl, hB⟩
    have HEE := Lib.hid (Below.trans (Below.refl W0.heap.size W0) (hB.mono (Below.size (Below.refl W0.heap.size W0))))
    clear hB HWK
    go_wp2
    go_ret
    exact ⟨rfl, HEE.out⟩
  | false =>
    have HPK := Lib.hid (great_ok HO.out.symm)
    have HM := Lib.hid (OneT.make HC.out 40 (by decide) (Below.refl _ W0))
    clear HG HO
    go_wp2_with fail
    refine HM.out.mono ?_
    rintro e W1 ⟨g, rfl, hT⟩
    have HT1 := Lib.hid hT
    clear hT HM
    go_wp2_with fail
    go_loopw [6] (fun iv wr => ∃ i : Nat, i ≤ N ∧ iv = .int .i64 (i : Int) ∧ Hid (OneT RA W0 g ((40 : Nat) : Int) (addsN ((40 : Nat) : Int) (fun j _ => (j : Int)) l i) wr ∧ ∀ s ∈ l.take i, s.length ≤ 200)) (fun iv _ => N - (intOf iv).toNat)
    case atStart => exact ⟨0, Nat.zero_le _, rfl, Lib.hid ⟨HT1.out, by simp⟩⟩
    case round =>
      obtain ⟨i, hi, rfl, HI⟩ := hrel
      by_cases hlt : i < N
      · have g3 : decide ((i : Int) < (N : Int)) = true := decide_eq_true (by omega)
        obtain ⟨x, hx⟩ : ∃ x, l[i]? = some x := ⟨l[i]'(by have := HV.out.2; omega), List.getElem?_eq_getElem _⟩
        have hix := HV.out.1.index i (by have := HV.out.2; omega)
        have k0 := (HV.out.1.below HI.out.1.bel).cell i x hx
        obtain ⟨kk, hkk⟩ : ∃ k, k = o + i := ⟨_, rfl⟩
        rw [← hkk] at hix k0
        have hl1 := run_len_S (P := Tryd.prog) Tryd.underlying9 3 x
        obtain ⟨lx, hlx⟩ : ∃ a, a = x.length := ⟨_, rfl⟩
        rw [← hlx] at hl1
        have hw1 : IntKind.i64.wrap ((i : Int) + 1) = (i : Int) + 1 := by rw [IntKind.wrap_i64]; omega
        have HX := Lib.hid (And.intro hx hlx)
        clear hx hlx hkk
        by_cases hx2 : 200 < lx
        · have g4 : decide ((200 : Int) < (lx : Int)) = true := decide_eq_true (by omega)
          have HWK := Lib.hid (wakes12_any (HC.out.up HI.out.1.bel) (HR.out.up HI.out.1.bel))
          go_wp2_with fail
          refine HWK.out.mono ?_
          rintro e W2 ⟨rfl, hB⟩
          have HEE := Lib.hid (Below.trans HI.out.1.bel (hB.mono (Below.size HI.out.1.bel)))
          clear hB HWK
          go_wp2
          go_ret
          exact ⟨rfl, HEE.out⟩
        · have g4 : decide ((200 : Int) < (lx : Int)) = false := decide_eq_false (by omega)
          have HXL : Hid (x.length ≤ 200) := Lib.hid (by have := HX.out.2; omega)
          have HA := Lib.hid (OneT.add HC.out HI.out.1 x (i : Int) HXL.out)
          go_wp2_with fail
          refine HA.out.mono ?_
          rintro e W2 ⟨rfl, hT⟩
          have HX3 : Hid (OneT RA W0 g ((40 : Nat) : Int) (addsN ((40 : Nat) : Int) (fun j _ => (j : Int)) l (i + 1)) W2 ∧ ∀ s ∈ l.take (i + 1), s.length ≤ 200) := Lib.hid ⟨by rw [adds_next HX.out.1]; exact hT, by
            intro s hs
            rw [List.take_add_one, HX.out.1] at hs
            rcases List.mem_append.1 hs with hs | hs
            · exact HI.out.2 s hs
            · have : s = x := by simpa using hs
              rw [this]; exact HXL.out⟩
          clear hT HA k0
          go_wp2
          exact ⟨⟨i + 1, by omega, by go_num, HX3⟩, by simp [intOf]; omega⟩
      · obtain rfl : i = N := by omega
        have g3 : decide ((i : Int) < (i : Int)) = false := decide_eq_false (by omega)
        obtain ⟨T, hT⟩ : ∃ T, T = addsN ((40 : Nat) : Int) (fun j _ => (j : Int)) l i := ⟨_, rfl⟩
        have HT : Hid (OneT RA W0 g ((40 : Nat) : Int) T wr ∧ Wf T ∧ ∀ e ∈ T, e.1.length ≤ 200) := Lib.hid (by rw [hT]; exact ⟨HI.out.1, adds_wf _ _ _ _, adds_small HI.out.2⟩)
        clear hT HI HT1
        obtain ⟨r, hr⟩ := find_is path HT.out.2.1
        obtain ⟨x, hx⟩ : ∃ x, x = fdX 0 r := ⟨_, rfl⟩
        obtain ⟨p, hp⟩ : ∃ p, p = fdP r := ⟨_, rfl⟩
        obtain ⟨ok, hok⟩ : ∃ ok, ok = r.isSome := ⟨_, rfl⟩
        obtain ⟨fs, hfs⟩ : ∃ fs, fs = fdF r path := ⟨_, rfl⟩
        have HRR := Lib.hid (And.intro hr (And.intro hx.symm (And.intro hp.symm (And.intro hok.symm hfs.symm))))
        clear hr hx hp hok hfs
        have HLP : Hid (p.length ≤ 200) := Lib.hid (small_found HT.out.2.2 HRR.out.1 HRR.out.2.2.1)
        have HF := Lib.hid (OneT.findI HC.out HT.out.1 (HP.out.1.below HT.out.1.bel) HPK.out HRR.out.1 HRR.out.2.1 HRR.out.2.2.1 HRR.out.2.2.2.1 HRR.out.2.2.2.2)
        go_wp2_with fail
        refine HF.out.mono ?_
        rintro e W2 ⟨VF, gf, of, rfl, hT, hB⟩
        have HF2 := Lib.hid (And.intro hT.row hT.bel)
        have HW := Lib.hid HT.out.2.1
        have hlF := hT.row.len 3
        clear hT hB HF HT
        cases ok with
        | false =>
          have HPF := Lib.hid (not_found HRR.out.2.2.1 HRR.out.2.2.2.1 HRR.out.2.2.2.2)
          rw [HPF.out.2] at hlF
          have q1 : binOp .eql 9 (S p) (.string ⟨#[]⟩) = pure (.bool true) := by rw [HPF.out.1]; exact eql_S 9 [] []
          have n1 : ∀ a b, eqGuard .eql 9 a b (S p) (.string ⟨#[]⟩) = pure () := fun a b => guard_S 9 a b p []
          have hlF' : ∀ w', (Builtin.len_ #[30] 3 #[VF]).run Tryd.prog w' = .ok (.int .i64 0) w' := hlF
          clear hlF
          have HWK := Lib.hid (wakes12_any (HC.out.up HF2.out.2) (HR.out.up HF2.out.2))
          go_wp2_with fail
          refine HWK.out.mono ?_
          rintro e W3 ⟨rfl, hB⟩
          have HEE := Lib.hid (Below.trans HF2.out.2 (hB.mono (Below.size HF2.out.2)))
          clear hB HWK
          go_wp2
          go_ret
          exact ⟨rfl, HEE.out⟩
        | true =>
          obtain ⟨l0, pr0, hfill⟩ := found_at HW.out HRR.out.1 HRR.out.2.2.1 HRR.out.2.2.2.1 HRR.out.2.2.2.2
          have HFI := Lib.hid hfill
          clear hfill
          obtain ⟨NF, hNF⟩ : ∃ a, a = fs.length := ⟨_, rfl⟩
          obtain ⟨LP, hLP⟩ : ∃ a, a = p.length := ⟨_, rfl⟩
          rw [← hNF] at hlF
          have hlp := run_len_S (P := Tryd.prog) Tryd.underlying9 3 p
          rw [← hLP] at hlp
          have HLL : Hid (NF = fs.length ∧ LP = p.length ∧ NF ≤ 12 ∧ LP ≤ 200 ∧ M = path.length ∧ M ≤ 12) := Lib.hid ⟨hNF, hLP, by rw [hNF, ← HRR.out.2.2.2.2]; have h1 := fdF_len r path; have h2 := HPK.out.1; omega, by rw [hLP]; exact HLP.out, HP.out.2, by rw [HP.out.2]; exact HPK.out.1⟩
          obtain ⟨wt, hwt⟩ : ∃ a, a = wantF path := ⟨_, rfl⟩
          rw [← hwt] at HFI
          have HWT : Hid (wt = wantF path ∧ wt.length ≤ 600) := Lib.hid ⟨hwt, by rw [hwt]; exact want_len HPK.out⟩
          clear hNF hLP hwt
          have hM12 : M ≤ 12 := HLL.out.2.2.2.2.2
          go_wp2_with fail
          go_loopw [11, 12] (fun sv iv wr => ∃ i : Nat, i ≤ M ∧ sv = S (slF (path.take i)) ∧ iv = .int .i64 (i : Int) ∧ wr = W2) (fun _ iv _ => M - (intOf iv).toNat)
          case atStart => exact ⟨0, Nat.zero_le _, rfl, rfl, rfl⟩
          case round =>
            obtain ⟨i, hi, rfl, rfl, hwr⟩ := hrel
            have hwr := hwr.symm
            subst hwr
            by_cases hlt : i < M
            · have g5 : decide ((i : Int) < (M : Int)) = true := decide_eq_true (by omega)
              obtain ⟨y, hy⟩ : ∃ x, path[i]? = some x := ⟨path[i]'(by have := HP.out.2; omega), List.getElem?_eq_getElem _⟩
              have hix := HP.out.1.index i (by have := HP.out.2; omega)
              have k0 := (HP.out.1.below HF2.out.2).cell i y hy
              obtain ⟨kk, hkk⟩ : ∃ k, k = op + i := ⟨_, rfl⟩
              rw [← hkk] at hix k0
              have hw1 : IntKind.i64.wrap ((i : Int) + 1) = (i : Int) + 1 := by rw [IntKind.wrap_i64]; omega
              obtain ⟨X0, hX0⟩ : ∃ a, a = slF (path.take i) := ⟨_, rfl⟩
              have h1 : X0.length ≤ 600 := by
                have h2 := sl_len (path.take i) fun s hs => HPK.out.2 s (List.mem_of_mem_take hs)
                rw [List.length_take] at h2
                rw [hX0]; omega
              have h2 : y.length ≤ 40 := HPK.out.2 y (List.mem_of_getElem? hy)
              obtain ⟨X1, hX1⟩ : ∃ a, a = X0 ++ [47] := ⟨_, rfl⟩
              obtain ⟨X2, hX2⟩ : ∃ a, a = X1 ++ y := ⟨_, rfl⟩
              have z1 : binOp .add 9 (S X0) (.string ⟨#[47]⟩) = pure (S X1) := by rw [hX1]; exact S_add 9 X0 [47] (by show _ + 1 ≤ _; omega)
              have z2 : binOp .add 9 (S X1) (S y) = pure (S X2) := by rw [hX2]; exact S_add 9 X1 y (by rw [hX1, List.length_append]; show _ + 1 + _ ≤ _; omega)
              have HXX : Hid (X2 = slF (path.take (i + 1))) := Lib.hid (by
                rw [List.take_add_one, hy, hX2, hX1]
                show _ = slF (path.take i ++ [y])
                rw [sl_snoc, ← hX0]; simp)
              rw [← hX0]
              clear hy hX0 hX1 hX2 hkk h1 h2
              go_wp2
              exact ⟨⟨i + 1, by omega, by rw [HXX.out], by go_num, by trivial⟩, by simp [intOf]; omega⟩
            · obtain rfl : i = M := by omega
              have g5 : decide ((i : Int) < (i : Int)) = false := decide_eq_false (by omega)
              obtain ⟨X0, hX0⟩ : ∃ a, a = slF (path.take i) := ⟨_, rfl⟩
              have HX0 : Hid (X0 = slF path) := Lib.hid (by rw [hX0, HLL.out.2.2.2.2.1, List.take_length])
              rw [← hX0]
              clear hX0
              by_cases hM0 : i = 0
              · have g6 : ((i : Int) == 0) = true := by rw [hM0]; rfl
                have HWE : Hid (wt = [47]) := Lib.hid (by
                  rw [HWT.out.1]; unfold wantF
                  rw [if_pos (List.length_eq_zero_iff.1 (by rw [← HLL.out.2.2.2.2.1]; exact hM0))])
                clear hM0
                have HTX : Hid (S wt = .string ⟨#[47]⟩) := Lib.hid (by rw [HWE.out]; rfl)
                go_wp2_with fail
                go_loopw [13, 14, 15] (fun gv kv iv wr => ∃ (i k : Nat) (got : Txt), i ≤ LP ∧ k ≤ NF ∧ gv = S got ∧ kv = .int .i64 (k : Int) ∧ iv = .int .i64 (i : Int) ∧ Hid ((∃ l pr, FillAt p wt fs i k got l pr) ∧ Below W2.heap.size W2 wr)) (fun _ _ iv _ => LP - (intOf iv).toNat)
                case atStart => exact ⟨0, 0, [], Nat.zero_le _, Nat.zero_le _, rfl, rfl, rfl, Lib.hid ⟨⟨_, _, HFI.out⟩, Below.refl _ _⟩⟩
                case round =>
                  obtain ⟨W6, hW6⟩ : ∃ W, W = wr := ⟨_, rfl⟩
                  subst hW6
                  obtain ⟨i, k, got, hi, hk, rfl, rfl, rfl, HI⟩ := hrel
                  obtain ⟨⟨l1, pr1, hfl⟩, _⟩ := HI.out
                  by_cases hlt : i < LP
                  · have g7 : decide ((i : Int) < (LP : Int)) = true := decide_eq_true (by omega)
                    obtain ⟨s, l2, hl2, hle, hget, hstop, htake, hdrop⟩ := hfl.more (by rw [← HLL.out.2.1]; exact hlt)
                    subst hl2
                    have hfl2 := Lib.hid hfl
                    obtain ⟨ls, hls⟩ : ∃ a, a = s.length := ⟨_, rfl⟩
                    have HT4 := Lib.hid (And.intro hls (And.intro hle (And.intro hget (And.intro hstop (And.intro htake hdrop)))))
                    have h200 : LP ≤ 200 := HLL.out.2.2.2.1
                    have hw1 : IntKind.i64.wrap ((i : Int) + 1) = (i : Int) + 1 := by rw [IntKind.wrap_i64]; omega
                    clear hfl hle hget hstop htake hdrop hls
                    go_wp2_with fail
                    go_loopw [16] (fun nv w4 => ∃ n : Nat, i + 1 ≤ n ∧ n ≤ i + 1 + ls ∧ nv = .int .i64 (n : Int) ∧ w4 = W6) (fun nv _ => LP - (intOf nv).toNat)
                    case atStart => exact ⟨i + 1, Nat.le_refl _, by omega, by go_num, rfl⟩
                    case round =>
                      obtain ⟨n, hn1, hn2, rfl, hwr⟩ := hrel
                      have hwr := hwr.symm
                      subst hwr
                      have hLPS : i + 1 + ls ≤ LP := by rw [HT4.out.1, HLL.out.2.1]; exact HT4.out.2.1
                      by_cases hn : n < i + 1 + ls
                      · obtain ⟨c, hc⟩ : ∃ c, s[n - (i + 1)]? = some c := ⟨s[n - (i + 1)]'(by have := HT4.out.1; omega), List.getElem?_eq_getElem _⟩
                        obtain ⟨hpc, hcn⟩ := HT4.out.2.2.1 _ _ hc
                        rw [show i + 1 + (n - (i + 1)) = n by omega] at hpc
                        have hidx : ∀ w, (Instr.index 9 (S p) (.int .i64 (n : Int))).run Tryd.prog w = .ok (B c) w := fun w => index_S (P := Tryd.prog) Tryd.underlying9 p n c hpc w
                        have p1 := B_neqN 5 c 47
                        rw [show ((c.toNat : Int) != 47) = true from congrArg Bool.not (show ((c.toNat : Int) == 47) = false from b_eqk c 47 (by decide) hcn)] at p1
                        have g8 : decide ((n : Int) < (LP : Int)) = true := decide_eq_true (by omega)
                        have hw2 : IntKind.i64.wrap ((n : Int) + 1) = (n : Int) + 1 := by rw [IntKind.wrap_i64]; omega
                        clear hc hpc hcn
                        go_wp2
                        exact ⟨⟨n + 1, by omega, by omega, by go_num, by trivial⟩, by simp [intOf]; omega⟩
                      · have hne : n = i + 1 + ls := by omega
                        have HS : Hid (i + 1 + s.length = n ∧ i + 1 + s.length ≤ p.length ∧ n ≤ LP ∧ i + 1 ≤ n ∧ ls = s.length ∧ p.drop (i + 1 + s.length) = slF l2) := Lib.hid ⟨by rw [← HT4.out.1]; exact hne.symm, HT4.out.2.1, by omega, hn1, HT4.out.1, HT4.out.2.2.2.2.2⟩
                        have HSL : Hid ((p.drop (i + 1)).take (n - (i + 1)) = s) := Lib.hid (by rw [show n - (i + 1) = s.length by have := HT4.out.1; omega]; exact HT4.out.2.2.2.2.1)
                        rcases HT4.out.2.2.2.1 with hst | hst
                        · rw [← HT4.out.1, ← hne] at hst
                          obtain rfl : n = LP := by have h1 := List.getElem?_eq_none_iff.1 hst; have h2 := HLL.out.2.1; omega
                          have g8 : decide ((n : Int) < (n : Int)) = false := decide_eq_false (by omega)
                          clear hst hne hn
                          have hsl : ∀ w, (Instr.slice 9 (S p) (some (.int .i64 ((i : Int) + 1))) (some (.int .i64 (n : Int))) none).run Tryd.prog w = .ok (S s) w := fun w => by
                            have := slice_mid (P := Tryd.prog) Tryd.underlying9 p (i + 1) n (by have := HS.out.2.2.2.1; omega) (by rw [← HLL.out.2.1]; exact HS.out.2.2.1) w
                            rw [HSL.out] at this
                            exact this
                          cases s with
                          | nil =>
                            have q5 : binOp .neq 9 (S []) (.string ⟨#[]⟩) = pure (.bool false) := neql_S 9 [] []
                            have n5 : ∀ a b, eqGuard .neq 9 a b (S []) (.string ⟨#[]⟩) = pure () := fun a b => nguard_S 9 a b [] []
                            obtain ⟨pr2, hf2⟩ := hfl2.out.lit kind_empty HS.out.2.1 HS.out.2.2.2.2.2
                            rw [HS.out.1] at hf2
                            obtain ⟨X1, hX1⟩ : ∃ a, a = got ++ [47] := ⟨_, rfl⟩
                            obtain ⟨X2, hX2⟩ : ∃ a, a = X1 ++ ([] : Txt) := ⟨_, rfl⟩
                            have e2 : got ++ 47 :: ([] : Txt) = X2 := by rw [hX2, hX1]; simp
                            rw [e2] at hf2
                            have hgl := congrArg List.length hf2.goes
                            rw [List.length_append, ← e2, List.length_append, List.length_cons] at hgl
                            have z1 : binOp .add 9 (S got) (.string ⟨#[47]⟩) = pure (S X1) := by rw [hX1]; exact S_add 9 got [47] (by have := HWT.out.2; show _ + 1 ≤ _; omega)
                            have z2 : binOp .add 9 (S X1) (S ([] : Txt)) = pure (S X2) := by rw [hX2]; exact S_add 9 X1 ([] : Txt) (by have := HWT.out.2; rw [hX1, List.length_append]; show _ + 1 + _ ≤ _; omega)
                            have HN2 : Hid (∃ l pr, FillAt p wt fs n k X2 l pr) := Lib.hid ⟨_, _, hf2⟩
                            clear hX1 hX2 e2 hf2 hgl
                            go_wp2
                            exact ⟨⟨n, k, X2, HS.out.2.2.1, hk, rfl, by trivial, rfl, Lib.hid ⟨HN2.out, HI.out.2⟩⟩, by have := HS.out.2.2.2.1; simp [intOf]; omega⟩
                          | cons c s =>
                            have q5 : binOp .neq 9 (S (c :: s)) (.string ⟨#[]⟩) = pure (.bool true) := neql_S 9 (c :: s) []
                            have n5 : ∀ a b, eqGuard .neq 9 a b (S (c :: s)) (.string ⟨#[]⟩) = pure () := fun a b => nguard_S 9 a b (c :: s) []
                            have hi0 : ∀ w, (Instr.index 9 (S (c :: s)) (.int .i64 0)).run Tryd.prog w = .ok (B c) w := fun w => index_S (P := Tryd.prog) Tryd.underlying9 (c :: s) 0 c rfl w
                            have p1 := B_eqlN 5 c 58
                            have p2 := B_eqlN 5 c 42
                            by_cases h58 : c = 58
                            · have HK := Lib.hid (kind_par (s := s) h58)
                              rw [show ((c.toNat : Int) == 58) = true by rw [h58]; rfl] at p1
                              clear h58 p2
                              obtain ⟨v, pr2, hfv, hf2⟩ := hfl2.out.par HK.out HS.out.2.1 HS.out.2.2.2.2.2
                              rw [HS.out.1] at hf2
                              have hkf : k < NF := by rw [HLL.out.1]; exact (List.getElem?_eq_some_iff.1 hfv).1
                              have g9 : decide ((NF : Int) ≤ (k : Int)) = false := decide_eq_false (by omega)
                              have hFA := HF2.out.1.below HI.out.2
                              have hix := hFA.index k (by rw [← HLL.out.1]; exact hkf)
                              have hcl := hFA.cell k _ hfv
                              obtain ⟨kk, hkk⟩ : ∃ a, a = of + k * 2 := ⟨_, rfl⟩
                              rw [← hkk] at hix hcl
                              obtain ⟨d, hd⟩ : ∃ a, a = (c :: s).drop 1 := ⟨_, rfl⟩
                              rw [← hd] at hcl
                              have c0 : W6.cell? ⟨gf, kk, none⟩ = some (S d) := hcl.1
                              have c1 : W6.cell? ⟨gf, kk + 1, none⟩ = some (S v) := hcl.2
                              have e0 : W6.drew.cell? ⟨gf, kk, none⟩ = some (S d) := hcl.1
                              have e1 : W6.drew.cell? ⟨gf, kk + 1, none⟩ = some (S v) := hcl.2
                              have hsd : ∀ w, (Instr.slice 9 (S (c :: s)) (some (.int .i64 1)) none none).run Tryd.prog w = .ok (S d) w := fun w => by rw [hd]; exact slice_drop (P := Tryd.prog) Tryd.underlying9 (c :: s) 1 (by simp) w
                              have q7 : binOp .neq 9 (S d) (S d) = pure (.bool false) := by rw [neql_S]; simp
                              have n7 : ∀ a b, eqGuard .neq 9 a b (S d) (S d) = pure () := fun a b => nguard_S 9 a b d d
                              have hwk : IntKind.i64.wrap ((k : Int) + 1) = (k : Int) + 1 := by rw [IntKind.wrap_i64]; have := HLL.out.2.2.1; omega
                              obtain ⟨X1, hX1⟩ : ∃ a, a = got ++ [47] := ⟨_, rfl⟩
                              obtain ⟨X2, hX2⟩ : ∃ a, a = X1 ++ v := ⟨_, rfl⟩
                              have e2 : got ++ 47 :: v = X2 := by rw [hX2, hX1]; simp
                              rw [e2] at hf2
                              have hgl := congrArg List.length hf2.goes
                              rw [List.length_append, ← e2, List.length_append, List.length_cons] at hgl
                              have z1 : binOp .add 9 (S got) (.string ⟨#[47]⟩) = pure (S X1) := by rw [hX1]; exact S_add 9 got [47] (by have := HWT.out.2; show _ + 1 ≤ _; omega)
                              have z2 : binOp .add 9 (S X1) (S v) = pure (S X2) := by rw [hX2]; exact S_add 9 X1 v (by have := HWT.out.2; rw [hX1, List.length_append]; show _ + 1 + _ ≤ _; omega)
                              have HN2 : Hid (∃ l pr, FillAt p wt fs n (k + 1) X2 l pr) := Lib.hid ⟨_, _, hf2⟩
                              have hmx : Tryd.prog.follows .mixedOrders = true := by kernel_rfl
                              clear hX1 hX2 e2 hf2 hgl hfv hFA hcl hkk hd
                              go_wp2
                              go_quiet (fail)
                              go_wp2
                              exact ⟨⟨n, k + 1, X2, HS.out.2.2.1, by omega, rfl, by go_num, rfl, Lib.hid ⟨HN2.out, HI.out.2.trans ⟨rfl, rfl, rfl, Nat.le_refl _, fun _ _ => rfl⟩⟩⟩, by have := HS.out.2.2.2.1; simp [intOf]; omega⟩
                            rw [show ((c.toNat : Int) == 58) = false from b_eqk c 58 (by decide) h58] at p1
                            by_cases h42 : c = 42
                            · have HK := Lib.hid (kind_rest (s := s) h58 h42)
                              rw [show ((c.toNat : Int) == 42) = true by rw [h42]; rfl] at p2
                              clear h58 h42
                              obtain ⟨v, pr2, hfv, hf2⟩ := hfl2.out.par HK.out HS.out.2.1 HS.out.2.2.2.2.2
                              rw [HS.out.1] at hf2
                              have hkf : k < NF := by rw [HLL.out.1]; exact (List.getElem?_eq_some_iff.1 hfv).1
                              have g9 : decide ((NF : Int) ≤ (k : Int)) = false := decide_eq_false (by omega)
                              have hFA := HF2.out.1.below HI.out.2
                              have hix := hFA.index k (by rw [← HLL.out.1]; exact hkf)
                              have hcl := hFA.cell k _ hfv
                              obtain ⟨kk, hkk⟩ : ∃ a, a = of + k * 2 := ⟨_, rfl⟩
                              rw [← hkk] at hix hcl
                              obtain ⟨d, hd⟩ : ∃ a, a = (c :: s).drop 1 := ⟨_, rfl⟩
                              rw [← hd] at hcl
                              have c0 : W6.cell? ⟨gf, kk, none⟩ = some (S d) := hcl.1
                              have c1 : W6.cell? ⟨gf, kk + 1, none⟩ = some (S v) := hcl.2
                              have e0 : W6.drew.cell? ⟨gf, kk, none⟩ = some (S d) := hcl.1
                              have e1 : W6.drew.cell? ⟨gf, kk + 1, none⟩ = some (S v) := hcl.2
                              have hsd : ∀ w, (Instr.slice 9 (S (c :: s)) (some (.int .i64 1)) none none).run Tryd.prog w = .ok (S d) w := fun w => by rw [hd]; exact slice_drop (P := Tryd.prog) Tryd.underlying9 (c :: s) 1 (by simp) w
                              have q7 : binOp .neq 9 (S d) (S d) = pure (.bool false) := by rw [neql_S]; simp
                              have n7 : ∀ a b, eqGuard .neq 9 a b (S d) (S d) = pure () := fun a b => nguard_S 9 a b d d
                              have hwk : IntKind.i64.wrap ((k : Int) + 1) = (k : Int) + 1 := by rw [IntKind.wrap_i64]; have := HLL.out.2.2.1; omega
                              obtain ⟨X1, hX1⟩ : ∃ a, a = got ++ [47] := ⟨_, rfl⟩
                              obtain ⟨X2, hX2⟩ : ∃ a, a = X1 ++ v := ⟨_, rfl⟩
                              have e2 : got ++ 47 :: v = X2 := by rw [hX2, hX1]; simp
                              rw [e2] at hf2
                              have hgl := congrArg List.length hf2.goes
                              rw [List.length_append, ← e2, List.length_append, List.length_cons] at hgl
                              have z1 : binOp .add 9 (S got) (.string ⟨#[47]⟩) = pure (S X1) := by rw [hX1]; exact S_add 9 got [47] (by have := HWT.out.2; show _ + 1 ≤ _; omega)
                              have z2 : binOp .add 9 (S X1) (S v) = pure (S X2) := by rw [hX2]; exact S_add 9 X1 v (by have := HWT.out.2; rw [hX1, List.length_append]; show _ + 1 + _ ≤ _; omega)
                              have HN2 : Hid (∃ l pr, FillAt p wt fs n (k + 1) X2 l pr) := Lib.hid ⟨_, _, hf2⟩
                              have hmx : Tryd.prog.follows .mixedOrders = true := by kernel_rfl
                              clear hX1 hX2 e2 hf2 hgl hfv hFA hcl hkk hd
                              go_wp2
                              go_quiet (fail)
                              go_wp2
                              exact ⟨⟨n, k + 1, X2, HS.out.2.2.1, by omega, rfl, by go_num, rfl, Lib.hid ⟨HN2.out, HI.out.2.trans ⟨rfl, rfl, rfl, Nat.le_refl _, fun _ _ => rfl⟩⟩⟩, by have := HS.out.2.2.2.1; simp [intOf]; omega⟩
                            rw [show ((c.toNat : Int) == 42) = false from b_eqk c 42 (by decide) h42] at p2
                            have HK := Lib.hid (kind_lit (s := s) h58 h42)
                            clear h58 h42
                            obtain ⟨pr2, hf2⟩ := hfl2.out.lit HK.out HS.out.2.1 HS.out.2.2.2.2.2
                            rw [HS.out.1] at hf2
                            obtain ⟨X1, hX1⟩ : ∃ a, a = got ++ [47] := ⟨_, rfl⟩
                            obtain ⟨X2, hX2⟩ : ∃ a, a = X1 ++ (c :: s) := ⟨_, rfl⟩
                            have e2 : got ++ 47 :: (c :: s) = X2 := by rw [hX2, hX1]; simp
                            rw [e2] at hf2
                            have hgl := congrArg List.length hf2.goes
                            rw [List.length_append, ← e2, List.length_append, List.length_cons] at hgl
                            have z1 : binOp .add 9 (S got) (.string ⟨#[47]⟩) = pure (S X1) := by rw [hX1]; exact S_add 9 got [47] (by have := HWT.out.2; show _ + 1 ≤ _; omega)
                            have z2 : binOp .add 9 (S X1) (S (c :: s)) = pure (S X2) := by rw [hX2]; exact S_add 9 X1 (c :: s) (by have := HWT.out.2; rw [hX1, List.length_append]; show _ + 1 + _ ≤ _; omega)
                            have HN2 : Hid (∃ l pr, FillAt p wt fs n k X2 l pr) := Lib.hid ⟨_, _, hf2⟩
                            clear hX1 hX2 e2 hf2 hgl
                            go_wp2
                            exact ⟨⟨n, k, X2, HS.out.2.2.1, hk, rfl, by trivial, rfl, Lib.hid ⟨HN2.out, HI.out.2⟩⟩, by have := HS.out.2.2.2.1; simp [intOf]; omega⟩
                        · rw [← HT4.out.1, ← hne] at hst
                          have hnL : n < LP := by have h1 := (List.getElem?_eq_some_iff.1 hst).1; have h2 := HLL.out.2.1; omega
                          have g8 : decide ((n : Int) < (LP : Int)) = true := decide_eq_true (by omega)
                          have hidx : ∀ w, (Instr.index 9 (S p) (.int .i64 (n : Int))).run Tryd.prog w = .ok (B 47) w := fun w => index_S (P := Tryd.prog) Tryd.underlying9 p n 47 hst w
                          have p0 : binOp .neq 5 (B 47) (.int .u8 47) = pure (.bool false) := B_neqN 5 47 47
                          clear hst hne hn
                          have hsl : ∀ w, (Instr.slice 9 (S p) (some (.int .i64 ((i : Int) + 1))) (some (.int .i64 (n : Int))) none).run Tryd.prog w = .ok (S s) w := fun w => by
                            have := slice_mid (P := Tryd.prog) Tryd.underlying9 p (i + 1) n (by have := HS.out.2.2.2.1; omega) (by rw [← HLL.out.2.1]; exact HS.out.2.2.1) w
                            rw [HSL.out] at this
                            exact this
                          cases s with
                          | nil =>
                            have q5 : binOp .neq 9 (S []) (.string ⟨#[]⟩) = pure (.bool false) := neql_S 9 [] []
                            have n5 : ∀ a b, eqGuard .neq 9 a b (S []) (.string ⟨#[]⟩) = pure () := fun a b => nguard_S 9 a b [] []
                            obtain ⟨pr2, hf2⟩ := hfl2.out.lit kind_empty HS.out.2.1 HS.out.2.2.2.2.2
                            rw [HS.out.1] at hf2
                            obtain ⟨X1, hX1⟩ : ∃ a, a = got ++ [47] := ⟨_, rfl⟩
                            obtain ⟨X2, hX2⟩ : ∃ a, a = X1 ++ ([] : Txt) := ⟨_, rfl⟩
                            have e2 : got ++ 47 :: ([] : Txt) = X2 := by rw [hX2, hX1]; simp
                            rw [e2] at hf2
                            have hgl := congrArg List.length hf2.goes
                            rw [List.length_append, ← e2, List.length_append, List.length_cons] at hgl
                            have z1 : binOp .add 9 (S got) (.string ⟨#[47]⟩) = pure (S X1) := by rw [hX1]; exact S_add 9 got [47] (by have := HWT.out.2; show _ + 1 ≤ _; omega)
                            have z2 : binOp .add 9 (S X1) (S ([] : Txt)) = pure (S X2) := by rw [hX2]; exact S_add 9 X1 ([] : Txt) (by have := HWT.out.2; rw [hX1, List.length_append]; show _ + 1 + _ ≤ _; omega)
                            have HN2 : Hid (∃ l pr, FillAt p wt fs n k X2 l pr) := Lib.hid ⟨_, _, hf2⟩
                            clear hX1 hX2 e2 hf2 hgl
                            go_wp2
                            exact ⟨⟨n, k, X2, HS.out.2.2.1, hk, rfl, by trivial, rfl, Lib.hid ⟨HN2.out, HI.out.2⟩⟩, by have := HS.out.2.2.2.1; simp [intOf]; omega⟩
                          | cons c s =>
                            have q5 : binOp .neq 9 (S (c :: s)) (.string ⟨#[]⟩) = pure (.bool true) := neql_S 9 (c :: s) []
                            have n5 : ∀ a b, eqGuard .neq 9 a b (S (c :: s)) (.string ⟨#[]⟩) = pure () := fun a b => nguard_S 9 a b (c :: s) []
                            have hi0 : ∀ w, (Instr.index 9 (S (c :: s)) (.int .i64 0)).run Tryd.prog w = .ok (B c) w := fun w => index_S (P := Tryd.prog) Tryd.underlying9 (c :: s) 0 c rfl w
                            have p1 := B_eqlN 5 c 58
                            have p2 := B_eqlN 5 c 42
                            by_cases h58 : c = 58
                            · have HK := Lib.hid (kind_par (s := s) h58)
                              rw [show ((c.toNat : Int) == 58) = true by rw [h58]; rfl] at p1
                              clear h58 p2
                              obtain ⟨v, pr2, hfv, hf2⟩ := hfl2.out.par HK.out HS.out.2.1 HS.out.2.2.2.2.2
                              rw [HS.out.1] at hf2
                              have hkf : k < NF := by rw [HLL.out.1]; exact (List.getElem?_eq_some_iff.1 hfv).1
                              have g9 : decide ((NF : Int) ≤ (k : Int)) = false := decide_eq_false (by omega)
                              have hFA := HF2.out.1.below HI.out.2
                              have hix := hFA.index k (by rw [← HLL.out.1]; exact hkf)
                              have hcl := hFA.cell k _ hfv
                              obtain ⟨kk, hkk⟩ : ∃ a, a = of + k * 2 := ⟨_, rfl⟩
                              rw [← hkk] at hix hcl
                              obtain ⟨d, hd⟩ : ∃ a, a = (c :: s).drop 1 := ⟨_, rfl⟩
                              rw [← hd] at hcl
                              have c0 : W6.cell? ⟨gf, kk, none⟩ = some (S d) := hcl.1
                              have c1 : W6.cell? ⟨gf, kk + 1, none⟩ = some (S v) := hcl.2
                              have e0 : W6.drew.cell? ⟨gf, kk, none⟩ = some (S d) := hcl.1
                              have e1 : W6.drew.cell? ⟨gf, kk + 1, none⟩ = some (S v) := hcl.2
                              have hsd : ∀ w, (Instr.slice 9 (S (c :: s)) (some (.int .i64 1)) none none).run Tryd.prog w = .ok (S d) w := fun w => by rw [hd]; exact slice_drop (P := Tryd.prog) Tryd.underlying9 (c :: s) 1 (by simp) w
                              have q7 : binOp .neq 9 (S d) (S d) = pure (.bool false) := by rw [neql_S]; simp
                              have n7 : ∀ a b, eqGuard .neq 9 a b (S d) (S d) = pure () := fun a b => nguard_S 9 a b d d
                              have hwk : IntKind.i64.wrap ((k : Int) + 1) = (k : Int) + 1 := by rw [IntKind.wrap_i64]; have := HLL.out.2.2.1; omega
                              obtain ⟨X1, hX1⟩ : ∃ a, a = got ++ [47] := ⟨_, rfl⟩
                              obtain ⟨X2, hX2⟩ : ∃ a, a = X1 ++ v := ⟨_, rfl⟩
                              have e2 : got ++ 47 :: v = X2 := by rw [hX2, hX1]; simp
                              rw [e2] at hf2
                              have hgl := congrArg List.length hf2.goes
                              rw [List.length_append, ← e2, List.length_append, List.length_cons] at hgl
                              have z1 : binOp .add 9 (S got) (.string ⟨#[47]⟩) = pure (S X1) := by rw [hX1]; exact S_add 9 got [47] (by have := HWT.out.2; show _ + 1 ≤ _; omega)
                              have z2 : binOp .add 9 (S X1) (S v) = pure (S X2) := by rw [hX2]; exact S_add 9 X1 v (by have := HWT.out.2; rw [hX1, List.length_append]; show _ + 1 + _ ≤ _; omega)
                              have HN2 : Hid (∃ l pr, FillAt p wt fs n (k + 1) X2 l pr) := Lib.hid ⟨_, _, hf2⟩
                              have hmx : Tryd.prog.follows .mixedOrders = true := by kernel_rfl
                              clear hX1 hX2 e2 hf2 hgl hfv hFA hcl hkk hd
                              go_wp2
                              go_quiet (fail)
                              go_wp2
                              exact ⟨⟨n, k + 1, X2, HS.out.2.2.1, by omega, rfl, by go_num, rfl, Lib.hid ⟨HN2.out, HI.out.2.trans ⟨rfl, rfl, rfl, Nat.le_refl _, fun _ _ => rfl⟩⟩⟩, by have := HS.out.2.2.2.1; simp [intOf]; omega⟩
                            rw [show ((c.toNat : Int) == 58) = false from b_eqk c 58 (by decide) h58] at p1
                            by_cases h42 : c = 42
                            · have HK := Lib.hid (kind_rest (s := s) h58 h42)
                              rw [show ((c.toNat : Int) == 42) = true by rw [h42]; rfl] at p2
                              clear h58 h42
                              obtain ⟨v, pr2, hfv, hf2⟩ := hfl2.out.par HK.out HS.out.2.1 HS.out.2.2.2.2.2
                              rw [HS.out.1] at hf2
                              have hkf : k < NF := by rw [HLL.out.1]; exact (List.getElem?_eq_some_iff.1 hfv).1
                              have g9 : decide ((NF : Int) ≤ (k : Int)) = false := decide_eq_false (by omega)
                              have hFA := HF2.out.1.below HI.out.2
                              have hix := hFA.index k (by rw [← HLL.out.1]; exact hkf)
                              have hcl := hFA.cell k _ hfv
                              obtain ⟨kk, hkk⟩ : ∃ a, a = of + k * 2 := ⟨_, rfl⟩
                              rw [← hkk] at hix hcl
                              obtain ⟨d, hd⟩ : ∃ a, a = (c :: s).drop 1 := ⟨_, rfl⟩
                              rw [← hd] at hcl
                              have c0 : W6.cell? ⟨gf, kk, none⟩ = some (S d) := hcl.1
                              have c1 : W6.cell? ⟨gf, kk + 1, none⟩ = some (S v) := hcl.2
                              have e0 : W6.drew.cell? ⟨gf, kk, none⟩ = some (S d) := hcl.1
                              have e1 : W6.drew.cell? ⟨gf, kk + 1, none⟩ = some (S v) := hcl.2
                              have hsd : ∀ w, (Instr.slice 9 (S (c :: s)) (some (.int .i64 1)) none none).run Tryd.prog w = .ok (S d) w := fun w => by rw [hd]; exact slice_drop (P := Tryd.prog) Tryd.underlying9 (c :: s) 1 (by simp) w
                              have q7 : binOp .neq 9 (S d) (S d) = pure (.bool false) := by rw [neql_S]; simp
                              have n7 : ∀ a b, eqGuard .neq 9 a b (S d) (S d) = pure () := fun a b => nguard_S 9 a b d d
                              have hwk : IntKind.i64.wrap ((k : Int) + 1) = (k : Int) + 1 := by rw [IntKind.wrap_i64]; have := HLL.out.2.2.1; omega
                              obtain ⟨X1, hX1⟩ : ∃ a, a = got ++ [47] := ⟨_, rfl⟩
                              obtain ⟨X2, hX2⟩ : ∃ a, a = X1 ++ v := ⟨_, rfl⟩
                              have e2 : got ++ 47 :: v = X2 := by rw [hX2, hX1]; simp
                              rw [e2] at hf2
                              have hgl := congrArg List.length hf2.goes
                              rw [List.length_append, ← e2, List.length_append, List.length_cons] at hgl
                              have z1 : binOp .add 9 (S got) (.string ⟨#[47]⟩) = pure (S X1) := by rw [hX1]; exact S_add 9 got [47] (by have := HWT.out.2; show _ + 1 ≤ _; omega)
                              have z2 : binOp .add 9 (S X1) (S v) = pure (S X2) := by rw [hX2]; exact S_add 9 X1 v (by have := HWT.out.2; rw [hX1, List.length_append]; show _ + 1 + _ ≤ _; omega)
                              have HN2 : Hid (∃ l pr, FillAt p wt fs n (k + 1) X2 l pr) := Lib.hid ⟨_, _, hf2⟩
                              have hmx : Tryd.prog.follows .mixedOrders = true := by kernel_rfl
                              clear hX1 hX2 e2 hf2 hgl hfv hFA hcl hkk hd
                              go_wp2
                              go_quiet (fail)
                              go_wp2
                              exact ⟨⟨n, k + 1, X2, HS.out.2.2.1, by omega, rfl, by go_num, rfl, Lib.hid ⟨HN2.out, HI.out.2.trans ⟨rfl, rfl, rfl, Nat.le_refl _, fun _ _ => rfl⟩⟩⟩, by have := HS.out.2.2.2.1; simp [intOf]; omega⟩
                            rw [show ((c.toNat : Int) == 42) = false from b_eqk c 42 (by decide) h42] at p2
                            have HK := Lib.hid (kind_lit (s := s) h58 h42)
                            clear h58 h42
                            obtain ⟨pr2, hf2⟩ := hfl2.out.lit HK.out HS.out.2.1 HS.out.2.2.2.2.2
                            rw [HS.out.1] at hf2
                            obtain ⟨X1, hX1⟩ : ∃ a, a = got ++ [47] := ⟨_, rfl⟩
                            obtain ⟨X2, hX2⟩ : ∃ a, a = X1 ++ (c :: s) := ⟨_, rfl⟩
                            have e2 : got ++ 47 :: (c :: s) = X2 := by rw [hX2, hX1]; simp
                            rw [e2] at hf2
                            have hgl := congrArg List.length hf2.goes
                            rw [List.length_append, ← e2, List.length_append, List.length_cons] at hgl
                            have z1 : binOp .add 9 (S got) (.string ⟨#[47]⟩) = pure (S X1) := by rw [hX1]; exact S_add 9 got [47] (by have := HWT.out.2; show _ + 1 ≤ _; omega)
                            have z2 : binOp .add 9 (S X1) (S (c :: s)) = pure (S X2) := by rw [hX2]; exact S_add 9 X1 (c :: s) (by have := HWT.out.2; rw [hX1, List.length_append]; show _ + 1 + _ ≤ _; omega)
                            have HN2 : Hid (∃ l pr, FillAt p wt fs n k X2 l pr) := Lib.hid ⟨_, _, hf2⟩
                            clear hX1 hX2 e2 hf2 hgl
                            go_wp2
                            exact ⟨⟨n, k, X2, HS.out.2.2.1, hk, rfl, by trivial, rfl, Lib.hid ⟨HN2.out, HI.out.2⟩⟩, by have := HS.out.2.2.2.1; simp [intOf]; omega⟩
                  · obtain rfl : i = LP := by omega
                    have g7 : decide ((i : Int) < (i : Int)) = false := decide_eq_false (by omega)
                    have hend := hfl
                    rw [HLL.out.2.1] at hend
                    obtain ⟨hgot, hkn⟩ := hend.end
                    have q5 : binOp .eql 9 (S got) (.string ⟨#[47]⟩) = pure (.bool true) := by rw [hgot, ← HTX.out, eql_S]; simp
                    have n5 : ∀ a b, eqGuard .eql 9 a b (S got) (.string ⟨#[47]⟩) = pure () := fun a b => by rw [← HTX.out]; exact guard_S 9 a b got wt
                    have g8 : ((k : Int) == (NF : Int)) = true := by rw [hkn, ← HLL.out.1]; simp
                    have HBX := Lib.hid (HF2.out.2.trans (HI.out.2.mono HF2.out.2.size))
                    clear hgot hkn hend hfl
                    have HWK := Lib.hid (wakes12_any (HC.out.up HBX.out) (HR.out.up HBX.out))
                    go_wp2_with fail
                    refine HWK.out.mono ?_
                    rintro e W7 ⟨rfl, hB⟩
                    have HEE := Lib.hid (Below.trans HBX.out (hB.mono (Below.size HBX.out)))
                    clear hB HWK
                    go_wp2
                    go_ret
                    exact ⟨rfl, HEE.out⟩
              · have g6 : ((i : Int) == 0) = false := by rw [beq_eq_false_iff_ne]; omega
                have HWE : Hid (wt = X0) := Lib.hid (by
                  rw [HWT.out.1, HX0.out]; unfold wantF
                  rw [if_neg fun e => hM0 (by rw [HLL.out.2.2.2.2.1, e]; rfl)])
                clear hM0
                have HTX : Hid (S wt = S X0) := Lib.hid (by rw [HWE.out])
                go_wp2_with fail
                go_loopw [13, 14, 15] (fun gv kv iv wr => ∃ (i k : Nat) (got : Txt), i ≤ LP ∧ k ≤ NF ∧ gv = S got ∧ kv = .int .i64 (k : Int) ∧ iv = .int .i64 (i : Int) ∧ Hid ((∃ l pr, FillAt p wt fs i k got l pr) ∧ Below W2.heap.size W2 wr)) (fun _ _ iv _ => LP - (intOf iv).toNat)
                case atStart => exact ⟨0, 0, [], Nat.zero_le _, Nat.zero_le _, rfl, rfl, rfl, Lib.hid ⟨⟨_, _, HFI.out⟩, Below.refl _ _⟩⟩
                case round =>
                  obtain ⟨W6, hW6⟩ : ∃ W, W = wr := ⟨_, rfl⟩
                  subst hW6
                  obtain ⟨i, k, got, hi, hk, rfl, rfl, rfl, HI⟩ := hrel
                  obtain ⟨⟨l1, pr1, hfl⟩, _⟩ := HI.out
                  by_cases hlt : i < LP
                  · have g7 : decide ((i : Int) < (LP : Int)) = true := decide_eq_true (by omega)
                    obtain ⟨s, l2, hl2, hle, hget, hstop, htake, hdrop⟩ := hfl.more (by rw [← HLL.out.2.1]; exact hlt)
                    subst hl2
                    have hfl2 := Lib.hid hfl
                    obtain ⟨ls, hls⟩ : ∃ a, a = s.length := ⟨_, rfl⟩
                    have HT4 := Lib.hid (And.intro hls (And.intro hle (And.intro hget (And.intro hstop (And.intro htake hdrop)))))
                    have h200 : LP ≤ 200 := HLL.out.2.2.2.1
                    have hw1 : IntKind.i64.wrap ((i : Int) + 1) = (i : Int) + 1 := by rw [IntKind.wrap_i64]; omega
                    clear hfl hle hget hstop htake hdrop hls
                    go_wp2_with fail
                    go_loopw [16] (fun nv w4 => ∃ n : Nat, i + 1 ≤ n ∧ n ≤ i + 1 + ls ∧ nv = .int .i64 (n : Int) ∧ w4 = W6) (fun nv _ => LP - (intOf nv).toNat)
                    case atStart => exact ⟨i + 1, Nat.le_refl _, by omega, by go_num, rfl⟩
                    case round =>
                      obtain ⟨n, hn1, hn2, rfl, hwr⟩ := hrel
                      have hwr := hwr.symm
                      subst hwr
                      have hLPS : i + 1 + ls ≤ LP := by rw [HT4.out.1, HLL.out.2.1]; exact HT4.out.2.1
                      by_cases hn : n < i + 1 + ls
                      · obtain ⟨c, hc⟩ : ∃ c, s[n - (i + 1)]? = some c := ⟨s[n - (i + 1)]'(by have := HT4.out.1; omega), List.getElem?_eq_getElem _⟩
                        obtain ⟨hpc, hcn⟩ := HT4.out.2.2.1 _ _ hc
                        rw [show i + 1 + (n - (i + 1)) = n by omega] at hpc
                        have hidx : ∀ w, (Instr.index 9 (S p) (.int .i64 (n : Int))).run Tryd.prog w = .ok (B c) w := fun w => index_S (P := Tryd.prog) Tryd.underlying9 p n c hpc w
                        have p1 := B_neqN 5 c 47
                        rw [show ((c.toNat : Int) != 47) = true from congrArg Bool.not (show ((c.toNat : Int) == 47) = false from b_eqk c 47 (by decide) hcn)] at p1
                        have g8 : decide ((n : Int) < (LP : Int)) = true := decide_eq_true (by omega)
                        have hw2 : IntKind.i64.wrap ((n : Int) + 1) = (n : Int) + 1 := by rw [IntKind.wrap_i64]; omega
                        clear hc hpc hcn
                        go_wp2
                        exact ⟨⟨n + 1, by omega, by omega, by go_num, by trivial⟩, by simp [intOf]; omega⟩
                      · have hne : n = i + 1 + ls := by omega
                        have HS : Hid (i + 1 + s.length = n ∧ i + 1 + s.length ≤ p.length ∧ n ≤ LP ∧ i + 1 ≤ n ∧ ls = s.length ∧ p.drop (i + 1 + s.length) = slF l2) := Lib.hid ⟨by rw [← HT4.out.1]; exact hne.symm, HT4.out.2.1, by omega, hn1, HT4.out.1, HT4.out.2.2.2.2.2⟩
                        have HSL : Hid ((p.drop (i + 1)).take (n - (i + 1)) = s) := Lib.hid (by rw [show n - (i + 1) = s.length by have := HT4.out.1; omega]; exact HT4.out.2.2.2.2.1)
                        rcases HT4.out.2.2.2.1 with hst | hst
                        · rw [← HT4.out.1, ← hne] at hst
                          obtain rfl : n = LP := by have h1 := List.getElem?_eq_none_iff.1 hst; have h2 := HLL.out.2.1; omega
                          have g8 : decide ((n : Int) < (n : Int)) = false := decide_eq_false (by omega)
                          clear hst hne hn
                          have hsl : ∀ w, (Instr.slice 9 (S p) (some (.int .i64 ((i : Int) + 1))) (some (.int .i64 (n : Int))) none).run Tryd.prog w = .ok (S s) w := fun w => by
                            have := slice_mid (P := Tryd.prog) Tryd.underlying9 p (i + 1) n (by have := HS.out.2.2.2.1; omega) (by rw [← HLL.out.2.1]; exact HS.out.2.2.1) w
                            rw [HSL.out] at this
                            exact this
                          cases s with
                          | nil =>
                            have q5 : binOp .neq 9 (S []) (.string ⟨#[]⟩) = pure (.bool false) := neql_S 9 [] []
                            have n5 : ∀ a b, eqGuard .neq 9 a b (S []) (.string ⟨#[]⟩) = pure () := fun a b => nguard_S 9 a b [] []
                            obtain ⟨pr2, hf2⟩ := hfl2.out.lit kind_empty HS.out.2.1 HS.out.2.2.2.2.2
                            rw [HS.out.1] at hf2
                            obtain ⟨X1, hX1⟩ : ∃ a, a = got ++ [47] := ⟨_, rfl⟩
                            obtain ⟨X2, hX2⟩ : ∃ a, a = X1 ++ ([] : Txt) := ⟨_, rfl⟩
                            have e2 : got ++ 47 :: ([] : Txt) = X2 := by rw [hX2, hX1]; simp
                            rw [e2] at hf2
                            have hgl := congrArg List.length hf2.goes
                            rw [List.length_append, ← e2, List.length_append, List.length_cons] at hgl
                            have z1 : binOp .add 9 (S got) (.string ⟨#[47]⟩) = pure (S X1) := by rw [hX1]; exact S_add 9 got [47] (by have := HWT.out.2; show _ + 1 ≤ _; omega)
                            have z2 : binOp .add 9 (S X1) (S ([] : Txt)) = pure (S X2) := by rw [hX2]; exact S_add 9 X1 ([] : Txt) (by have := HWT.out.2; rw [hX1, List.length_append]; show _ + 1 + _ ≤ _; omega)
                            have HN2 : Hid (∃ l pr, FillAt p wt fs n k X2 l pr) := Lib.hid ⟨_, _, hf2⟩
                            clear hX1 hX2 e2 hf2 hgl
                            go_wp2
                            exact ⟨⟨n, k, X2, HS.out.2.2.1, hk, rfl, by trivial, rfl, Lib.hid ⟨HN2.out, HI.out.2⟩⟩, by have := HS.out.2.2.2.1; simp [intOf]; omega⟩
                          | cons c s =>
                            have q5 : binOp .neq 9 (S (c :: s)) (.string ⟨#[]⟩) = pure (.bool true) := neql_S 9 (c :: s) []
                            have n5 : ∀ a b, eqGuard .neq 9 a b (S (c :: s)) (.string ⟨#[]⟩) = pure () := fun a b => nguard_S 9 a b (c :: s) []
                            have hi0 : ∀ w, (Instr.index 9 (S (c :: s)) (.int .i64 0)).run Tryd.prog w = .ok (B c) w := fun w => index_S (P := Tryd.prog) Tryd.underlying9 (c :: s) 0 c rfl w
                            have p1 := B_eqlN 5 c 58
                            have p2 := B_eqlN 5 c 42
                            by_cases h58 : c = 58
                            · have HK := Lib.hid (kind_par (s := s) h58)
                              rw [show ((c.toNat : Int) == 58) = true by rw [h58]; rfl] at p1
                              clear h58 p2
                              obtain ⟨v, pr2, hfv, hf2⟩ := hfl2.out.par HK.out HS.out.2.1 HS.out.2.2.2.2.2
                              rw [HS.out.1] at hf2
                              have hkf : k < NF := by rw [HLL.out.1]; exact (List.getElem?_eq_some_iff.1 hfv).1
                              have g9 : decide ((NF : Int) ≤ (k : Int)) = false := decide_eq_false (by omega)
                              have hFA := HF2.out.1.below HI.out.2
                              have hix := hFA.index k (by rw [← HLL.out.1]; exact hkf)
                              have hcl := hFA.cell k _ hfv
                              obtain ⟨kk, hkk⟩ : ∃ a, a = of + k * 2 := ⟨_, rfl⟩
                              rw [← hkk] at hix hcl
                              obtain ⟨d, hd⟩ : ∃ a, a = (c :: s).drop 1 := ⟨_, rfl⟩
                              rw [← hd] at hcl
                              have c0 : W6.cell? ⟨gf, kk, none⟩ = some (S d) := hcl.1
                              have c1 : W6.cell? ⟨gf, kk + 1, none⟩ = some (S v) := hcl.2
                              have e0 : W6.drew.cell? ⟨gf, kk, none⟩ = some (S d) := hcl.1
                              have e1 : W6.drew.cell? ⟨gf, kk + 1, none⟩ = some (S v) := hcl.2
                              have hsd : ∀ w, (Instr.slice 9 (S (c :: s)) (some (.int .i64 1)) none none).run Tryd.prog w = .ok (S d) w := fun w => by rw [hd]; exact slice_drop (P := Tryd.prog) Tryd.underlying9 (c :: s) 1 (by simp) w
                              have q7 : binOp .neq 9 (S d) (S d) = pure (.bool false) := by rw [neql_S]; simp
                              have n7 : ∀ a b, eqGuard .neq 9 a b (S d) (S d) = pure () := fun a b => nguard_S 9 a b d d
                              have hwk : IntKind.i64.wrap ((k : Int) + 1) = (k : Int) + 1 := by rw [IntKind.wrap_i64]; have := HLL.out.2.2.1; omega
                              obtain ⟨X1, hX1⟩ : ∃ a, a = got ++ [47] := ⟨_, rfl⟩
                              obtain ⟨X2, hX2⟩ : ∃ a, a = X1 ++ v := ⟨_, rfl⟩
                              have e2 : got ++ 47 :: v = X2 := by rw [hX2, hX1]; simp
                              rw [e2] at hf2
                              have hgl := congrArg List.length hf2.goes
                              rw [List.length_append, ← e2, List.length_append, List.length_cons] at hgl
                              have z1 : binOp .add 9 (S got) (.string ⟨#[47]⟩) = pure (S X1) := by rw [hX1]; exact S_add 9 got [47] (by have := HWT.out.2; show _ + 1 ≤ _; omega)
                              have z2 : binOp .add 9 (S X1) (S v) = pure (S X2) := by rw [hX2]; exact S_add 9 X1 v (by have := HWT.out.2; rw [hX1, List.length_append]; show _ + 1 + _ ≤ _; omega)
                              have HN2 : Hid (∃ l pr, FillAt p wt fs n (k + 1) X2 l pr) := Lib.hid ⟨_, _, hf2⟩
                              have hmx : Tryd.prog.follows .mixedOrders = true := by kernel_rfl
                              clear hX1 hX2 e2 hf2 hgl hfv hFA hcl hkk hd
                              go_wp2
                              go_quiet (fail)
                              go_wp2
                              exact ⟨⟨n, k + 1, X2, HS.out.2.2.1, by omega, rfl, by go_num, rfl, Lib.hid ⟨HN2.out, HI.out.2.trans ⟨rfl, rfl, rfl, Nat.le_refl _, fun _ _ => rfl⟩⟩⟩, by have := HS.out.2.2.2.1; simp [intOf]; omega⟩
                            rw [show ((c.toNat : Int) == 58) = false from b_eqk c 58 (by decide) h58] at p1
                            by_cases h42 : c = 42
                            · have HK := Lib.hid (kind_rest (s := s) h58 h42)
                              rw [show ((c.toNat : Int) == 42) = true by rw [h42]; rfl] at p2
                              clear h58 h42
                              obtain ⟨v, pr2, hfv, hf2⟩ := hfl2.out.par HK.out HS.out.2.1 HS.out.2.2.2.2.2
                              rw [HS.out.1] at hf2
                              have hkf : k < NF := by rw [HLL.out.1]; exact (List.getElem?_eq_some_iff.1 hfv).1
                              have g9 : decide ((NF : Int) ≤ (k : Int)) = false := decide_eq_false (by omega)
                              have hFA := HF2.out.1.below HI.out.2
                              have hix := hFA.index k (by rw [← HLL.out.1]; exact hkf)
                              have hcl := hFA.cell k _ hfv
                              obtain ⟨kk, hkk⟩ : ∃ a, a = of + k * 2 := ⟨_, rfl⟩
                              rw [← hkk] at hix hcl
                              obtain ⟨d, hd⟩ : ∃ a, a = (c :: s).drop 1 := ⟨_, rfl⟩
                              rw [← hd] at hcl
                              have c0 : W6.cell? ⟨gf, kk, none⟩ = some (S d) := hcl.1
                              have c1 : W6.cell? ⟨gf, kk + 1, none⟩ = some (S v) := hcl.2
                              have e0 : W6.drew.cell? ⟨gf, kk, none⟩ = some (S d) := hcl.1
                              have e1 : W6.drew.cell? ⟨gf, kk + 1, none⟩ = some (S v) := hcl.2
                              have hsd : ∀ w, (Instr.slice 9 (S (c :: s)) (some (.int .i64 1)) none none).run Tryd.prog w = .ok (S d) w := fun w => by rw [hd]; exact slice_drop (P := Tryd.prog) Tryd.underlying9 (c :: s) 1 (by simp) w
                              have q7 : binOp .neq 9 (S d) (S d) = pure (.bool false) := by rw [neql_S]; simp
                              have n7 : ∀ a b, eqGuard .neq 9 a b (S d) (S d) = pure () := fun a b => nguard_S 9 a b d d
                              have hwk : IntKind.i64.wrap ((k : Int) + 1) = (k : Int) + 1 := by rw [IntKind.wrap_i64]; have := HLL.out.2.2.1; omega
                              obtain ⟨X1, hX1⟩ : ∃ a, a = got ++ [47] := ⟨_, rfl⟩
                              obtain ⟨X2, hX2⟩ : ∃ a, a = X1 ++ v := ⟨_, rfl⟩
                              have e2 : got ++ 47 :: v = X2 := by rw [hX2, hX1]; simp
                              rw [e2] at hf2
                              have hgl := congrArg List.length hf2.goes
                              rw [List.length_append, ← e2, List.length_append, List.length_cons] at hgl
                              have z1 : binOp .add 9 (S got) (.string ⟨#[47]⟩) = pure (S X1) := by rw [hX1]; exact S_add 9 got [47] (by have := HWT.out.2; show _ + 1 ≤ _; omega)
                              have z2 : binOp .add 9 (S X1) (S v) = pure (S X2) := by rw [hX2]; exact S_add 9 X1 v (by have := HWT.out.2; rw [hX1, List.length_append]; show _ + 1 + _ ≤ _; omega)
                              have HN2 : Hid (∃ l pr, FillAt p wt fs n (k + 1) X2 l pr) := Lib.hid ⟨_, _, hf2⟩
                              have hmx : Tryd.prog.follows .mixedOrders = true := by kernel_rfl
                              clear hX1 hX2 e2 hf2 hgl hfv hFA hcl hkk hd
                              go_wp2
                              go_quiet (fail)
                              go_wp2
                              exact ⟨⟨n, k + 1, X2, HS.out.2.2.1, by omega, rfl, by go_num, rfl, Lib.hid ⟨HN2.out, HI.out.2.trans ⟨rfl, rfl, rfl, Nat.le_refl _, fun _ _ => rfl⟩⟩⟩, by have := HS.out.2.2.2.1; simp [intOf]; omega⟩
                            rw [show ((c.toNat : Int) == 42) = false from b_eqk c 42 (by decide) h42] at p2
                            have HK := Lib.hid (kind_lit (s := s) h58 h42)
                            clear h58 h42
                            obtain ⟨pr2, hf2⟩ := hfl2.out.lit HK.out HS.out.2.1 HS.out.2.2.2.2.2
                            rw [HS.out.1] at hf2
                            obtain ⟨X1, hX1⟩ : ∃ a, a = got ++ [47] := ⟨_, rfl⟩
                            obtain ⟨X2, hX2⟩ : ∃ a, a = X1 ++ (c :: s) := ⟨_, rfl⟩
                            have e2 : got ++ 47 :: (c :: s) = X2 := by rw [hX2, hX1]; simp
                            rw [e2] at hf2
                            have hgl := congrArg List.length hf2.goes
                            rw [List.length_append, ← e2, List.length_append, List.length_cons] at hgl
                            have z1 : binOp .add 9 (S got) (.string ⟨#[47]⟩) = pure (S X1) := by rw [hX1]; exact S_add 9 got [47] (by have := HWT.out.2; show _ + 1 ≤ _; omega)
                            have z2 : binOp .add 9 (S X1) (S (c :: s)) = pure (S X2) := by rw [hX2]; exact S_add 9 X1 (c :: s) (by have := HWT.out.2; rw [hX1, List.length_append]; show _ + 1 + _ ≤ _; omega)
                            have HN2 : Hid (∃ l pr, FillAt p wt fs n k X2 l pr) := Lib.hid ⟨_, _, hf2⟩
                            clear hX1 hX2 e2 hf2 hgl
                            go_wp2
                            exact ⟨⟨n, k, X2, HS.out.2.2.1, hk, rfl, by trivial, rfl, Lib.hid ⟨HN2.out, HI.out.2⟩⟩, by have := HS.out.2.2.2.1; simp [intOf]; omega⟩
                        · rw [← HT4.out.1, ← hne] at hst
                          have hnL : n < LP := by have h1 := (List.getElem?_eq_some_iff.1 hst).1; have h2 := HLL.out.2.1; omega
                          have g8 : decide ((n : Int) < (LP : Int)) = true := decide_eq_true (by omega)
                          have hidx : ∀ w, (Instr.index 9 (S p) (.int .i64 (n : Int))).run Tryd.prog w = .ok (B 47) w := fun w => index_S (P := Tryd.prog) Tryd.underlying9 p n 47 hst w
                          have p0 : binOp .neq 5 (B 47) (.int .u8 47) = pure (.bool false) := B_neqN 5 47 47
                          clear hst hne hn
                          have hsl : ∀ w, (Instr.slice 9 (S p) (some (.int .i64 ((i : Int) + 1))) (some (.int .i64 (n : Int))) none).run Tryd.prog w = .ok (S s) w := fun w => by
                            have := slice_mid (P := Tryd.prog) Tryd.underlying9 p (i + 1) n (by have := HS.out.2.2.2.1; omega) (by rw [← HLL.out.2.1]; exact HS.out.2.2.1) w
                            rw [HSL.out] at this
                            exact this
                          cases s with
                          | nil =>
                            have q5 : binOp .neq 9 (S []) (.string ⟨#[]⟩) = pure (.bool false) := neql_S 9 [] []
                            have n5 : ∀ a b, eqGuard .neq 9 a b (S []) (.string ⟨#[]⟩) = pure () := fun a b => nguard_S 9 a b [] []
                            obtain ⟨pr2, hf2⟩ := hfl2.out.lit kind_empty HS.out.2.1 HS.out.2.2.2.2.2
                            rw [HS.out.1] at hf2
                            obtain ⟨X1, hX1⟩ : ∃ a, a = got ++ [47] := ⟨_, rfl⟩
                            obtain ⟨X2, hX2⟩ : ∃ a, a = X1 ++ ([] : Txt) := ⟨_, rfl⟩
                            have e2 : got ++ 47 :: ([] : Txt) = X2 := by rw [hX2, hX1]; simp
                            rw [e2] at hf2
                            have hgl := congrArg List.length hf2.goes
                            rw [List.length_append, ← e2, List.length_append, List.length_cons] at hgl
                            have z1 : binOp .add 9 (S got) (.string ⟨#[47]⟩) = pure (S X1) := by rw [hX1]; exact S_add 9 got [47] (by have := HWT.out.2; show _ + 1 ≤ _; omega)
                            have z2 : binOp .add 9 (S X1) (S ([] : Txt)) = pure (S X2) := by rw [hX2]; exact S_add 9 X1 ([] : Txt) (by have := HWT.out.2; rw [hX1, List.length_append]; show _ + 1 + _ ≤ _; omega)
                            have HN2 : Hid (∃ l pr, FillAt p wt fs n k X2 l pr) := Lib.hid ⟨_, _, hf2⟩
                            clear hX1 hX2 e2 hf2 hgl
                            go_wp2
                            exact ⟨⟨n, k, X2, HS.out.2.2.1, hk, rfl, by trivial, rfl, Lib.hid ⟨HN2.out, HI.out.2⟩⟩, by have := HS.out.2.2.2.1; simp [intOf]; omega⟩
                          | cons c s =>
                            have q5 : binOp .neq 9 (S (c :: s)) (.string ⟨#[]⟩) = pure (.bool true) := neql_S 9 (c :: s) []
                            have n5 : ∀ a b, eqGuard .neq 9 a b (S (c :: s)) (.string ⟨#[]⟩) = pure () := fun a b => nguard_S 9 a b (c :: s) []
                            have hi0 : ∀ w, (Instr.index 9 (S (c :: s)) (.int .i64 0)).run Tryd.prog w = .ok (B c) w := fun w => index_S (P := Tryd.prog) Tryd.underlying9 (c :: s) 0 c rfl w
                            have p1 := B_eqlN 5 c 58
                            have p2 := B_eqlN 5 c 42
                            by_cases h58 : c = 58
                            · have HK := Lib.hid (kind_par (s := s) h58)
                              rw [show ((c.toNat : Int) == 58) = true by rw [h58]; rfl] at p1
                              clear h58 p2
                              obtain ⟨v, pr2, hfv, hf2⟩ := hfl2.out.par HK.out HS.out.2.1 HS.out.2.2.2.2.2
                              rw [HS.out.1] at hf2
                              have hkf : k < NF := by rw [HLL.out.1]; exact (List.getElem?_eq_some_iff.1 hfv).1
                              have g9 : decide ((NF : Int) ≤ (k : Int)) = false := decide_eq_false (by omega)
                              have hFA := HF2.out.1.below HI.out.2
                              have hix := hFA.index k (by rw [← HLL.out.1]; exact hkf)
                              have hcl := hFA.cell k _ hfv
                              obtain ⟨kk, hkk⟩ : ∃ a, a = of + k * 2 := ⟨_, rfl⟩
                              rw [← hkk] at hix hcl
                              obtain ⟨d, hd⟩ : ∃ a, a = (c :: s).drop 1 := ⟨_, rfl⟩
                              rw [← hd] at hcl
                              have c0 : W6.cell? ⟨gf, kk, none⟩ = some (S d) := hcl.1
                              have c1 : W6.cell? ⟨gf, kk + 1, none⟩ = some (S v) := hcl.2
                              have e0 : W6.drew.cell? ⟨gf, kk, none⟩ = some (S d) := hcl.1
                              have e1 : W6.drew.cell? ⟨gf, kk + 1, none⟩ = some (S v) := hcl.2
                              have hsd : ∀ w, (Instr.slice 9 (S (c :: s)) (some (.int .i64 1)) none none).run Tryd.prog w = .ok (S d) w := fun w => by rw [hd]; exact slice_drop (P := Tryd.prog) Tryd.underlying9 (c :: s) 1 (by simp) w
                              have q7 : binOp .neq 9 (S d) (S d) = pure (.bool false) := by rw [neql_S]; simp
                              have n7 : ∀ a b, eqGuard .neq 9 a b (S d) (S d) = pure () := fun a b => nguard_S 9 a b d d
                              have hwk : IntKind.i64.wrap ((k : Int) + 1) = (k : Int) + 1 := by rw [IntKind.wrap_i64]; have := HLL.out.2.2.1; omega
                              obtain ⟨X1, hX1⟩ : ∃ a, a = got ++ [47] := ⟨_, rfl⟩
                              obtain ⟨X2, hX2⟩ : ∃ a, a = X1 ++ v := ⟨_, rfl⟩
                              have e2 : got ++ 47 :: v = X2 := by rw [hX2, hX1]; simp
                              rw [e2] at hf2
                              have hgl := congrArg List.length hf2.goes
                              rw [List.length_append, ← e2, List.length_append, List.length_cons] at hgl
                              have z1 : binOp .add 9 (S got) (.string ⟨#[47]⟩) = pure (S X1) := by rw [hX1]; exact S_add 9 got [47] (by have := HWT.out.2; show _ + 1 ≤ _; omega)
                              have z2 : binOp .add 9 (S X1) (S v) = pure (S X2) := by rw [hX2]; exact S_add 9 X1 v (by have := HWT.out.2; rw [hX1, List.length_append]; show _ + 1 + _ ≤ _; omega)
                              have HN2 : Hid (∃ l pr, FillAt p wt fs n (k + 1) X2 l pr) := Lib.hid ⟨_, _, hf2⟩
                              have hmx : Tryd.prog.follows .mixedOrders = true := by kernel_rfl
                              clear hX1 hX2 e2 hf2 hgl hfv hFA hcl hkk hd
                              go_wp2
                              go_quiet (fail)
                              go_wp2
                              exact ⟨⟨n, k + 1, X2, HS.out.2.2.1, by omega, rfl, by go_num, rfl, Lib.hid ⟨HN2.out, HI.out.2.trans ⟨rfl, rfl, rfl, Nat.le_refl _, fun _ _ => rfl⟩⟩⟩, by have := HS.out.2.2.2.1; simp [intOf]; omega⟩
                            rw [show ((c.toNat : Int) == 58) = false from b_eqk c 58 (by decide) h58] at p1
                            by_cases h42 : c = 42
                            · have HK := Lib.hid (kind_rest (s := s) h58 h42)
                              rw [show ((c.toNat : Int) == 42) = true by rw [h42]; rfl] at p2
                              clear h58 h42
                              obtain ⟨v, pr2, hfv, hf2⟩ := hfl2.out.par HK.out HS.out.2.1 HS.out.2.2.2.2.2
                              rw [HS.out.1] at hf2
                              have hkf : k < NF := by rw [HLL.out.1]; exact (List.getElem?_eq_some_iff.1 hfv).1
                              have g9 : decide ((NF : Int) ≤ (k : Int)) = false := decide_eq_false (by omega)
                              have hFA := HF2.out.1.below HI.out.2
                              have hix := hFA.index k (by rw [← HLL.out.1]; exact hkf)
                              have hcl := hFA.cell k _ hfv
                              obtain ⟨kk, hkk⟩ : ∃ a, a = of + k * 2 := ⟨_, rfl⟩
                              rw [← hkk] at hix hcl
                              obtain ⟨d, hd⟩ : ∃ a, a = (c :: s).drop 1 := ⟨_, rfl⟩
                              rw [← hd] at hcl
                              have c0 : W6.cell? ⟨gf, kk, none⟩ = some (S d) := hcl.1
                              have c1 : W6.cell? ⟨gf, kk + 1, none⟩ = some (S v) := hcl.2
                              have e0 : W6.drew.cell? ⟨gf, kk, none⟩ = some (S d) := hcl.1
                              have e1 : W6.drew.cell? ⟨gf, kk + 1, none⟩ = some (S v) := hcl.2
                              have hsd : ∀ w, (Instr.slice 9 (S (c :: s)) (some (.int .i64 1)) none none).run Tryd.prog w = .ok (S d) w := fun w => by rw [hd]; exact slice_drop (P := Tryd.prog) Tryd.underlying9 (c :: s) 1 (by simp) w
                              have q7 : binOp .neq 9 (S d) (S d) = pure (.bool false) := by rw [neql_S]; simp
                              have n7 : ∀ a b, eqGuard .neq 9 a b (S d) (S d) = pure () := fun a b => nguard_S 9 a b d d
                              have hwk : IntKind.i64.wrap ((k : Int) + 1) = (k : Int) + 1 := by rw [IntKind.wrap_i64]; have := HLL.out.2.2.1; omega
                              obtain ⟨X1, hX1⟩ : ∃ a, a = got ++ [47] := ⟨_, rfl⟩
                              obtain ⟨X2, hX2⟩ : ∃ a, a = X1 ++ v := ⟨_, rfl⟩
                              have e2 : got ++ 47 :: v = X2 := by rw [hX2, hX1]; simp
                              rw [e2] at hf2
                              have hgl := congrArg List.length hf2.goes
                              rw [List.length_append, ← e2, List.length_append, List.length_cons] at hgl
                              have z1 : binOp .add 9 (S got) (.string ⟨#[47]⟩) = pure (S X1) := by rw [hX1]; exact S_add 9 got [47] (by have := HWT.out.2; show _ + 1 ≤ _; omega)
                              have z2 : binOp .add 9 (S X1) (S v) = pure (S X2) := by rw [hX2]; exact S_add 9 X1 v (by have := HWT.out.2; rw [hX1, List.length_append]; show _ + 1 + _ ≤ _; omega)
                              have HN2 : Hid (∃ l pr, FillAt p wt fs n (k + 1) X2 l pr) := Lib.hid ⟨_, _, hf2⟩
                              have hmx : Tryd.prog.follows .mixedOrders = true := by kernel_rfl
                              clear hX1 hX2 e2 hf2 hgl hfv hFA hcl hkk hd
                              go_wp2
                              go_quiet (fail)
                              go_wp2
                              exact ⟨⟨n, k + 1, X2, HS.out.2.2.1, by omega, rfl, by go_num, rfl, Lib.hid ⟨HN2.out, HI.out.2.trans ⟨rfl, rfl, rfl, Nat.le_refl _, fun _ _ => rfl⟩⟩⟩, by have := HS.out.2.2.2.1; simp [intOf]; omega⟩
                            rw [show ((c.toNat : Int) == 42) = false from b_eqk c 42 (by decide) h42] at p2
                            have HK := Lib.hid (kind_lit (s := s) h58 h42)
                            clear h58 h42
                            obtain ⟨pr2, hf2⟩ := hfl2.out.lit HK.out HS.out.2.1 HS.out.2.2.2.2.2
                            rw [HS.out.1] at hf2
                            obtain ⟨X1, hX1⟩ : ∃ a, a = got ++ [47] := ⟨_, rfl⟩
                            obtain ⟨X2, hX2⟩ : ∃ a, a = X1 ++ (c :: s) := ⟨_, rfl⟩
                            have e2 : got ++ 47 :: (c :: s) = X2 := by rw [hX2, hX1]; simp
                            rw [e2] at hf2
                            have hgl := congrArg List.length hf2.goes
                            rw [List.length_append, ← e2, List.length_append, List.length_cons] at hgl
                            have z1 : binOp .add 9 (S got) (.string ⟨#[47]⟩) = pure (S X1) := by rw [hX1]; exact S_add 9 got [47] (by have := HWT.out.2; show _ + 1 ≤ _; omega)
                            have z2 : binOp .add 9 (S X1) (S (c :: s)) = pure (S X2) := by rw [hX2]; exact S_add 9 X1 (c :: s) (by have := HWT.out.2; rw [hX1, List.length_append]; show _ + 1 + _ ≤ _; omega)
                            have HN2 : Hid (∃ l pr, FillAt p wt fs n k X2 l pr) := Lib.hid ⟨_, _, hf2⟩
                            clear hX1 hX2 e2 hf2 hgl
                            go_wp2
                            exact ⟨⟨n, k, X2, HS.out.2.2.1, hk, rfl, by trivial, rfl, Lib.hid ⟨HN2.out, HI.out.2⟩⟩, by have := HS.out.2.2.2.1; simp [intOf]; omega⟩
                  · obtain rfl : i = LP := by omega
                    have g7 : decide ((i : Int) < (i : Int)) = false := decide_eq_false (by omega)
                    have hend := hfl
                    rw [HLL.out.2.1] at hend
                    obtain ⟨hgot, hkn⟩ := hend.end
                    have q5 : binOp .eql 9 (S got) (S X0) = pure (.bool true) := by rw [hgot, ← HTX.out, eql_S]; simp
                    have n5 : ∀ a b, eqGuard .eql 9 a b (S got) (S X0) = pure () := fun a b => by rw [← HTX.out]; exact guard_S 9 a b got wt
                    have g8 : ((k : Int) == (NF : Int)) = true := by rw [hkn, ← HLL.out.1]; simp
                    have HBX := Lib.hid (HF2.out.2.trans (HI.out.2.mono HF2.out.2.size))
                    clear hgot hkn hend hfl
                    have HWK := Lib.hid (wakes12_any (HC.out.up HBX.out) (HR.out.up HBX.out))
                    go_wp2_with fail
                    refine HWK.out.mono ?_
                    rintro e W7 ⟨rfl, hB⟩
                    have HEE := Lib.hid (Below.trans HBX.out (hB.mono (Below.size HBX.out)))
                    clear hB HWK
                    go_wp2
                    go_ret
                    exact ⟨rfl, HEE.out⟩
end Go.Proofs.YtgoaljnfegaldaaDoor
