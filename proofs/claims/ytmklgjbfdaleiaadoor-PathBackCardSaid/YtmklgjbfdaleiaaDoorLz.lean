/- The landed package of lines does what is asked of it: Parse, Target, Status. (mklz.py writes it.) -/
import Derived.Test.YtmklgjbfdaleiaaDoorLi
import Derived.Test.YtmklgjbfdaleiaaDoorLv
namespace Go.Proofs.YtmklgjbfdaleiaaDoor
open Go.RowKit
attribute [local go_sem] store_one S_match S_store eguard_BN nguard_BN
theorem results_t4 {fn : Func} {t u v x : Tmp} (h : fn.results = #[.tmp t, .tmp u, .tmp v, .tmp x]) (tmps : Array Value) (P : Program) (w : World) :
    (results fn tmps).run P w = .ok (.tuple #[tmps.getD t undef, tmps.getD u undef, tmps.getD v undef, tmps.getD x undef]) w := by
  simp [results, h, go_sem]

set_option maxRecDepth 100000 in
set_option maxHeartbeats 1000000 in
theorem ltarget_any (s : List UInt8) (w : World) (hs : s.length ≤ 100000) : Calls Tryd.prog 15 #[S s] w fun e w' => e = .returned (targetV (targetF s)) ∧ Below w.heap.size w w' := by
  have hlen := run_len_S (P := Tryd.prog) Tryd.underlying9 3 s
  by_cases h5 : 512 < s.length
  · have g1 : decide ((512 : Int) < (s.length : Int)) = true := decide_eq_true (by omega)
    rw [target_long h5]
    clear h5 hs
    go_enter Tryd.func15, Tryd.ntmps15
    go_wp2
    go_ret3
    exact ⟨rfl, Below.refl _ _⟩
  have g1 : decide ((512 : Int) < (s.length : Int)) = false := decide_eq_false (by omega)
  have hpf : ∀ w, Calls Tryd.prog 24 #[S s, .string ⟨#[47]⟩] w fun e w' => e = .returned (.bool (Lib.hasPrefix s [47])) ∧ w' = w := fun w => Any.strings_HasPrefix Tryd.lays99 ⟨s.toArray⟩ ⟨#[47]⟩ w
  have hpe : Lib.hasPrefix s [47] = (s[0]? == some 47) := by
    cases s with
    | nil => rfl
    | cons c r =>
      have e : Lib.hasPrefix (c :: r) [47] = ((47 : UInt8) == c) := by
        show ((47 : UInt8) == c && true) = _
        rw [Bool.and_true]
      rw [e, show ((c :: r)[0]? == some 47) = (c == 47) from rfl, Bool.eq_iff_iff, beq_iff_eq, beq_iff_eq]
      exact eq_comm
  rw [hpe] at hpf
  have HF := Lib.hid hpf
  clear hpf hpe
  by_cases h0 : s[0]? ≠ some 47

  · rw [target_bad h0]
    rw [show (s[0]? == some 47) = false from beq_eq_false_iff_ne.2 h0] at HF
    clear h5 h0 hs
    go_enter Tryd.func15, Tryd.ntmps15
    go_wp2_with fail
    refine (HF.out w).mono ?_
    rintro e w1 ⟨rfl, hw1⟩
    obtain rfl := hw1.symm
    clear hw1
    go_wp2
    go_ret3
    exact ⟨rfl, Below.refl _ _⟩
  replace h0 := Classical.not_not.1 h0
  rw [show (s[0]? == some 47) = true from beq_iff_eq.2 h0] at HF
  have fin : ∀ (a b : List UInt8) (b1 : Bool), a.length ≤ 100000 → b.length ≤ 100000 →
      (∀ w, Calls Tryd.prog 25 #[S s, .string ⟨#[63]⟩] w fun e w' => e = .returned (.tuple #[S a, S b, .bool b1]) ∧ Drawn w w') →
      targetF s = (if (wrF pathB a && wrF queryB b) = true then (a, b, true) else ([], [], false)) →
      Calls Tryd.prog 15 #[S s] w fun e w' => e = .returned (targetV (targetF s)) ∧ Below w.heap.size w w' := by
    intro a b b1 ha hb h1 hE
    rw [hE]
    have H1 := Lib.hid h1
    have H2 := Lib.hid (fun w => written_path a ha w)
    have H3 := Lib.hid (fun w => written_query b hb w)
    clear h1 hE hs h5 h0 ha hb
    cases x : wrF pathB a with
    | false =>
      rw [x] at H2
      rw [Bool.false_and, if_neg Bool.false_ne_true]
      clear x H3
      go_enter Tryd.func15, Tryd.ntmps15
      go_wp2_with fail
      refine (HF.out w).mono ?_
      rintro e w1 ⟨rfl, hw1⟩
      obtain rfl := hw1.symm
      clear hw1
      go_wp2_with fail
      refine (H1.out w).mono ?_
      rintro e W1 ⟨rfl, hd1⟩
      have D1 := Lib.hid hd1
      clear hd1 H1
      go_wp2_with fail
      refine (H2.out W1).mono ?_
      rintro e w1 ⟨rfl, hw1⟩
      obtain rfl := hw1.symm
      clear hw1
      go_wp2
      go_ret3
      exact ⟨rfl, D1.out.below⟩
    | true =>
      rw [x] at H2
      rw [Bool.true_and]
      cases y : wrF queryB b with
      | false =>
        rw [y] at H3
        rw [if_neg Bool.false_ne_true]
        clear x y
        go_enter Tryd.func15, Tryd.ntmps15
        go_wp2_with fail
        refine (HF.out w).mono ?_
        rintro e w1 ⟨rfl, hw1⟩
        obtain rfl := hw1.symm
        clear hw1
        go_wp2_with fail
        refine (H1.out w).mono ?_
        rintro e W1 ⟨rfl, hd1⟩
        have D1 := Lib.hid hd1
        clear hd1 H1
        go_wp2_with fail
        refine (H2.out W1).mono ?_
        rintro e w1 ⟨rfl, hw1⟩
        obtain rfl := hw1.symm
        clear hw1
        go_wp2_with fail
        refine (H3.out W1).mono ?_
        rintro e w1 ⟨rfl, hw1⟩
        obtain rfl := hw1.symm
        clear hw1
        go_wp2
        go_ret3
        exact ⟨rfl, D1.out.below⟩
      | true =>
        rw [y] at H3
        rw [if_pos rfl]
        clear x y
        go_enter Tryd.func15, Tryd.ntmps15
        go_wp2_with fail
        refine (HF.out w).mono ?_
        rintro e w1 ⟨rfl, hw1⟩
        obtain rfl := hw1.symm
        clear hw1
        go_wp2_with fail
        refine (H1.out w).mono ?_
        rintro e W1 ⟨rfl, hd1⟩
        have D1 := Lib.hid hd1
        clear hd1 H1
        go_wp2_with fail
        refine (H2.out W1).mono ?_
        rintro e w1 ⟨rfl, hw1⟩
        obtain rfl := hw1.symm
        clear hw1
        go_wp2_with fail
        refine (H3.out W1).mono ?_
        rintro e w1 ⟨rfl, hw1⟩
        obtain rfl := hw1.symm
        clear hw1
        go_wp2
        go_ret3
        exact ⟨rfl, D1.out.below⟩
  rcases cut_cases 63 s with ⟨a, b, rfl, hab⟩ | hm
  · have hl := hs
    rw [List.length_append, List.length_cons] at hl
    exact fin a b true (by omega) (by omega) (fun w => cut_hit 63 a b hab (by omega) w) (targ_hit h0 (by omega) hab)
  · exact fin s [] false hs (by simp) (fun w => cut_miss 63 s hm w) (targ_miss h0 (by omega) hm)
end Go.Proofs.YtmklgjbfdaleiaaDoor
