/- The document's Target walked. (mklg.py writes it.) -/
import Derived.Test.YtmklgjbfdaleiaaDoorLf
namespace Go.Proofs.YtmklgjbfdaleiaaDoor
open Go.RowKit
attribute [local go_sem] store_one S_match S_store eguard_BN nguard_BN

/-- Where the first question mark is, of what stands ahead of i. -/
def Mark (s : List UInt8) (i : Nat) (v : Value) : Prop :=
  (v = .int .i64 (-1) ∧ 63 ∉ s.take i) ∨ ∃ m : Nat, v = .int .i64 (m : Int) ∧ m < i ∧ s[m]? = some 63 ∧ 63 ∉ s.take m
theorem mark_next {s : List UInt8} {i : Nat} {v : Value} {c : UInt8} (h : Mark s i v) (hc : s[i]? = some c) (h63 : c ≠ 63) : Mark s (i + 1) v := by
  rcases h with ⟨h1, h2⟩ | ⟨m, h1, h2, h3, h4⟩
  · refine .inl ⟨h1, ?_⟩
    obtain ⟨hi, rfl⟩ := List.getElem?_eq_some_iff.1 hc
    rw [List.take_succ_eq_append_getElem hi]
    intro hm
    rcases List.mem_append.1 hm with hm | hm
    · exact h2 hm
    · exact h63 (List.mem_singleton.1 hm).symm
  · exact .inr ⟨m, h1, by omega, h3, h4⟩
theorem target_short {s : List UInt8} (h : s[0]? ≠ some 47) : targetF s = ([], [], false) := by unfold targetF; rw [if_pos (.inl h)]
theorem B_neq47 (c : UInt8) (h : c ≠ 47) : ((c.toNat : Int) != 47) = true := by
  rw [bne_iff_ne]; intro e; exact h (UInt8.toNat_inj.1 (by rw [show (47 : UInt8).toNat = 47 from rfl]; omega))
theorem B_eql63 (c : UInt8) (h : c ≠ 63) : ((c.toNat : Int) == 63) = false := by
  rw [beq_eq_false_iff_ne]; intro e; exact h (UInt8.toNat_inj.1 (by rw [show (63 : UInt8).toNat = 63 from rfl]; omega))
theorem B_eql37 (c : UInt8) (h : c ≠ 37) : ((c.toNat : Int) == 37) = false := by
  rw [beq_eq_false_iff_ne]; intro e; exact h (UInt8.toNat_inj.1 (by rw [show (37 : UInt8).toNat = 37 from rfl]; omega))
set_option maxRecDepth 100000 in
set_option maxHeartbeats 2000000 in
theorem dtarget_any (s : List UInt8) (hs : s.length ≤ 100000) (w : World) : Calls Tryd.prog 21 #[S s] w fun e w' => e = .returned (targetV (targetF s)) ∧ Drawn w w' := by
  have hlen := run_len_S (P := Tryd.prog) Tryd.underlying9 3 s
  by_cases h0 : s.length = 0
  · have g1 : ((s.length : Int) == 0) = true := by rw [beq_iff_eq]; omega
    have HP : Hid (targetF s = ([], [], false)) := Lib.hid (target_short (by rw [List.length_eq_zero_iff.1 h0]; simp))
    clear h0 hs
    go_enter Tryd.func21, Tryd.ntmps21
    go_wp2
    go_ret3
    exact ⟨by rw [HP.out]; rfl, Drawn.refl _⟩
  have g1 : ((s.length : Int) == 0) = false := by rw [beq_eq_false_iff_ne]; omega
  by_cases h5 : 512 < s.length
  · have g2 : decide ((512 : Int) < (s.length : Int)) = true := decide_eq_true (by omega)
    have g3 : decide (s.length = 0) = false := decide_eq_false h0
    have HP : Hid (targetF s = ([], [], false)) := Lib.hid (target_long h5)
    clear h0 h5 hs
    go_enter Tryd.func21, Tryd.ntmps21
    go_wp2
    go_ret3
    exact ⟨by rw [HP.out]; rfl, Drawn.refl _⟩
  have g2 : decide ((512 : Int) < (s.length : Int)) = false := decide_eq_false (by omega)
  have g3 : decide (s.length = 0) = false := decide_eq_false h0
  obtain ⟨c0, hc0⟩ : ∃ c, s[0]? = some c := ⟨s[0]'(by omega), List.getElem?_eq_getElem _⟩
  have hidx0 : ∀ w, (Instr.index 9 (S s) (.int .i64 0)).run Tryd.prog w = .ok (B c0) w := fun w => index_S (P := Tryd.prog) Tryd.underlying9 s 0 c0 hc0 w
  have q0 := B_neqN 5 c0 47
  by_cases h47 : c0 = 47
  · rw [show ((c0.toNat : Int) != 47) = false by rw [h47]; rfl] at q0
    have HS : Hid (s[0]? = some 47 ∧ s.length ≤ 512) := Lib.hid ⟨by rw [hc0, h47], by omega⟩
    obtain ⟨L, hL⟩ : ∃ L, L = s.length := ⟨_, rfl⟩
    rw [← hL] at hlen g1 g2 g3 hs
    have hl5 : L ≤ 512 := by omega
    have HL := Lib.hid hL
    clear hL h0 h5 hc0 h47
    go_enter Tryd.func21, Tryd.ntmps21
    go_wp2
    clear g1 g2 g3 hidx0 q0
    go_loopw [5, 6] (fun mv iv wr => ∃ i : Nat, i ≤ L ∧ iv = .int .i64 (i : Int) ∧ wr = w ∧ okT s = okT (s.drop i) ∧ Mark s i mv) (fun _ iv _ => L - (intOf iv).toNat)
    case atStart => exact ⟨0, Nat.zero_le _, rfl, rfl, by rw [List.drop_zero], .inl ⟨rfl, by simp⟩⟩
    case round =>
      obtain ⟨i, hi, rfl, hwr, hok, hmk⟩ := hrel
      subst hwr
      have hib : i < 1000 := by omega
      by_cases hlt : i < L
      · obtain ⟨c, hc⟩ : ∃ c, s[i]? = some c := ⟨s[i]'(by have := HL.out; omega), List.getElem?_eq_getElem _⟩
        have hdr : s.drop i = c :: s.drop (i + 1) := by
          rw [List.drop_eq_getElem_cons (by rw [← HL.out]; exact hlt), (List.getElem?_eq_some_iff.1 hc).2]
        have hidx : ∀ w, (Instr.index 9 (S s) (.int .i64 (i : Int))).run Tryd.prog w = .ok (B c) w := fun w => index_S (P := Tryd.prog) Tryd.underlying9 s i c hc w
        have q1 := B_eqlN 5 c 63
        have hw1 : IntKind.i64.wrap ((i : Int) + 1) = (i : Int) + 1 := by rw [IntKind.wrap_i64]; omega
        rw [hdr] at hok
        by_cases h63 : c = 63
        · rw [show ((c.toNat : Int) == 63) = true by rw [h63]; rfl] at q1
          rw [h63, okT_one (by decide), show ((63 : UInt8) == 63 || pathB 63) = true by decide, Bool.true_and] at hok
          rcases hmk with ⟨rfl, hm⟩ | ⟨m, rfl, hm1, hm2, hm3⟩
          · have HX : Hid (okT s = okT (s.drop (i + 1)) ∧ Mark s (i + 1) (.int .i64 (i : Int))) := Lib.hid ⟨hok, .inr ⟨i, rfl, by omega, by rw [hc, h63], hm⟩⟩
            clear hok hm hdr hc h63
            go_wp2
            exact ⟨⟨i + 1, by omega, by go_num, by trivial, HX.out⟩, by simp [intOf]; omega⟩
          · have g4 : decide ((m : Int) < 0) = false := decide_eq_false (by omega)
            have HX : Hid (okT s = okT (s.drop (i + 1)) ∧ Mark s (i + 1) (.int .i64 (m : Int))) := Lib.hid ⟨hok, .inr ⟨m, rfl, by omega, hm2, hm3⟩⟩
            clear hok hm1 hm2 hm3 hdr hc h63
            go_wp2
            exact ⟨⟨i + 1, by omega, by go_num, by trivial, HX.out⟩, by simp [intOf]; omega⟩
        · rw [B_eql63 c h63] at q1
          have q2 := B_eqlN 5 c 37
          have HPA := Lib.hid (path_any c)
          have hmk1 := mark_next hmk hc h63
          by_cases h37 : c = 37
          · rw [show ((c.toNat : Int) == 37) = true by rw [h37]; rfl] at q2
            rw [show pathB c = false by rw [h37]; decide] at HPA
            have hw2 : IntKind.i64.wrap ((i : Int) + 2) = (i : Int) + 2 := by rw [IntKind.wrap_i64]; omega
            rw [h37] at hok
            by_cases h2 : i + 2 < L
            · have g5 : decide ((i : Int) + 2 < (L : Int)) = true := decide_eq_true (by omega)
              obtain ⟨x, hx⟩ : ∃ x, s[i + 1]? = some x := ⟨s[i + 1]'(by have := HL.out; omega), List.getElem?_eq_getElem _⟩
              obtain ⟨y, hy⟩ : ∃ y, s[i + 2]? = some y := ⟨s[i + 2]'(by have := HL.out; omega), List.getElem?_eq_getElem _⟩
              have hdx : s.drop (i + 1) = x :: y :: s.drop (i + 3) := by
                rw [List.drop_eq_getElem_cons (by rw [← HL.out]; omega), (List.getElem?_eq_some_iff.1 hx).2, List.drop_eq_getElem_cons (by rw [← HL.out]; omega), (List.getElem?_eq_some_iff.1 hy).2]
              have hidx1 : ∀ w, (Instr.index 9 (S s) (.int .i64 ((i : Int) + 1))).run Tryd.prog w = .ok (B x) w := fun w => by
                have := index_S (P := Tryd.prog) Tryd.underlying9 s (i + 1) x hx w
                rwa [show ((i + 1 : Nat) : Int) = (i : Int) + 1 by omega] at this
              have hidx2 : ∀ w, (Instr.index 9 (S s) (.int .i64 ((i : Int) + 2))).run Tryd.prog w = .ok (B y) w := fun w => by
                have := index_S (P := Tryd.prog) Tryd.underlying9 s (i + 2) y hy w
                rwa [show ((i + 2 : Nat) : Int) = (i : Int) + 2 by omega] at this
              have HHX := Lib.hid (hex_any x)
              have HHY := Lib.hid (hex_any y)
              rw [hdx] at hok
              cases hxx : hexB x with
              | true =>
                rw [hxx] at HHX
                cases hyy : hexB y with
                | true =>
                  rw [hyy] at HHY
                  rw [okT_pct hxx hyy] at hok
                  have hw3 : IntKind.i64.wrap ((i : Int) + 2 + 1) = (i : Int) + 2 + 1 := by rw [IntKind.wrap_i64]; omega
                  have HX := Lib.hid (And.intro hok (mark_next (mark_next hmk1 hx (hex_not x hxx).2) hy (hex_not y hyy).2))
                  clear hok hmk hmk1 hdr hdx hc hx hy h63 h37 hxx hyy HPA
                  go_wp2_with fail
                  refine (HHX.out _).mono ?_
                  rintro e w1 ⟨rfl, hw1⟩
                  obtain rfl := hw1.symm
                  clear hw1
                  go_wp2_with fail
                  refine (HHY.out _).mono ?_
                  rintro e w1 ⟨rfl, hw1⟩
                  obtain rfl := hw1.symm
                  clear hw1
                  go_wp2
                  exact ⟨⟨i + 3, by omega, by go_num, by trivial, HX.out⟩, by simp [intOf]; omega⟩
                | false =>
                  rw [hyy] at HHY
                  have HP : Hid (targetF s = ([], [], false)) := Lib.hid (target_none (by rw [hok, okT_bad (fun x' y' q e he => by obtain ⟨e1, e⟩ := List.cons.inj e; obtain ⟨e2, _⟩ := List.cons.inj e; rw [← e2, hyy] at he; cases he.2)]))
                  clear hok hmk hmk1 hdr hdx hc hx hy h63 h37 hxx hyy
                  go_wp2_with fail
                  refine (HHX.out _).mono ?_
                  rintro e w1 ⟨rfl, hw1⟩
                  obtain rfl := hw1.symm
                  clear hw1
                  go_wp2_with fail
                  refine (HHY.out _).mono ?_
                  rintro e w1 ⟨rfl, hw1⟩
                  obtain rfl := hw1.symm
                  clear hw1
                  go_wp2_with fail
                  refine (HPA.out _).mono ?_
                  rintro e w1 ⟨rfl, hw1⟩
                  obtain rfl := hw1.symm
                  clear hw1
                  go_wp2
                  go_ret3
                  exact ⟨by rw [HP.out]; rfl, Drawn.refl _⟩
              | false =>
                rw [hxx] at HHX
                have HP : Hid (targetF s = ([], [], false)) := Lib.hid (target_none (by rw [hok, okT_bad (fun x' y' q e he => by obtain ⟨e1, e⟩ := List.cons.inj e; rw [← e1, hxx] at he; cases he.1)]))
                clear hok hmk hmk1 hdr hdx hc hx hy h63 h37 hxx HHY
                go_wp2_with fail
                refine (HHX.out _).mono ?_
                rintro e w1 ⟨rfl, hw1⟩
                obtain rfl := hw1.symm
                clear hw1
                go_wp2_with fail
                refine (HPA.out _).mono ?_
                rintro e w1 ⟨rfl, hw1⟩
                obtain rfl := hw1.symm
                clear hw1
                go_wp2
                go_ret3
                exact ⟨by rw [HP.out]; rfl, Drawn.refl _⟩
            · have g5 : decide ((i : Int) + 2 < (L : Int)) = false := decide_eq_false (by omega)
              have HP : Hid (targetF s = ([], [], false)) := Lib.hid (target_none (by rw [hok, okT_bad (fun x' y' q e _ => by have := congrArg List.length e; rw [List.length_drop] at this; simp at this; have := HL.out; omega)]))
              clear hok hmk hmk1 hdr hc h63 h37
              go_wp2_with fail
              refine (HPA.out _).mono ?_
              rintro e w1 ⟨rfl, hw1⟩
              obtain rfl := hw1.symm
              clear hw1
              go_wp2
              go_ret3
              exact ⟨by rw [HP.out]; rfl, Drawn.refl _⟩
          · rw [B_eql37 c h37] at q2
            rw [okT_one h37, show (c == 63) = false from beq_eq_false_iff_ne.2 h63, Bool.false_or] at hok
            cases hpp : pathB c with
            | true =>
              rw [hpp] at HPA
              rw [hpp, Bool.true_and] at hok
              have HX := Lib.hid (And.intro hok hmk1)
              clear hok hmk hmk1 hdr hc h63 h37 hpp
              go_wp2_with fail
              refine (HPA.out _).mono ?_
              rintro e w1 ⟨rfl, hw1⟩
              obtain rfl := hw1.symm
              clear hw1
              go_wp2
              exact ⟨⟨i + 1, by omega, by go_num, by trivial, HX.out⟩, by simp [intOf]; omega⟩
            | false =>
              rw [hpp] at HPA
              have HP : Hid (targetF s = ([], [], false)) := Lib.hid (target_none (by rw [hok, hpp, Bool.false_and]))
              clear hok hmk hmk1 hdr hc h63 h37 hpp
              go_wp2_with fail
              refine (HPA.out _).mono ?_
              rintro e w1 ⟨rfl, hw1⟩
              obtain rfl := hw1.symm
              clear hw1
              go_wp2
              go_ret3
              exact ⟨by rw [HP.out]; rfl, Drawn.refl _⟩
      · obtain rfl : i = L := by omega
        have hoks : okT s = true := by rw [hok, List.drop_of_length_le (by rw [← HL.out]; exact Nat.le_refl _)]; rfl
        have htk : s.take i = s := List.take_of_length_le (by rw [← HL.out]; exact Nat.le_refl _)
        have hno : ¬ (s[0]? ≠ some 47 ∨ 512 < s.length ∨ okT s = false) := by
          rintro (h | h | h)
          · exact h HS.out.1
          · have := HS.out.2; omega
          · rw [hoks] at h; cases h
        rcases hmk with ⟨rfl, hm⟩ | ⟨m, rfl, hm1, hm2, hm3⟩
        · have HP : Hid (targetF s = (s, [], true)) := Lib.hid (by
            rw [htk] at hm
            unfold targetF; rw [if_neg hno, if_pos hm])
          clear hok hoks htk hno hm
          go_wp2
          go_ret3
          exact ⟨by rw [HP.out]; rfl, Drawn.refl _⟩
        · have hml : m < s.length := (List.getElem?_eq_some_iff.1 hm2).1
          have hwl : s.takeWhile (notB 63) = s.take m := while_stop (not_mem_all hm3) (fun c hc => by rw [hm2] at hc; cases hc; rfl)
          have HP : Hid (targetF s = (s.take m, s.drop (m + 1), true)) := Lib.hid (by
            unfold targetF
            rw [if_neg hno, if_neg (fun h => h (List.mem_of_getElem? hm2)), hwl, List.length_take, show min m s.length = m by omega])
          have g4 : decide ((m : Int) < 0) = false := decide_eq_false (by omega)
          have hmb : m < 1000 := by omega
          have hsa : ∀ w, (Instr.slice 9 (S s) none (some (.int .i64 (m : Int))) none).run Tryd.prog w = .ok (S (s.take m)) w := fun w => slice_take (P := Tryd.prog) Tryd.underlying9 s m (by omega) w
          have hsb : ∀ w, (Instr.slice 9 (S s) (some (.int .i64 ((m : Int) + 1))) none none).run Tryd.prog w = .ok (S (s.drop (m + 1))) w := fun w => by
            have := slice_drop (P := Tryd.prog) Tryd.underlying9 s (m + 1) (by omega) w
            rwa [show ((m + 1 : Nat) : Int) = (m : Int) + 1 by omega] at this
          have hw1 : IntKind.i64.wrap ((m : Int) + 1) = (m : Int) + 1 := by rw [IntKind.wrap_i64]; omega
          generalize s.take m = A at *
          generalize s.drop (m + 1) = D at *
          clear hok hoks htk hno hm1 hm2 hm3 hml hwl hs
          go_wp2
          clear HL HS hlen hmb hi hl5 hib hlt
          have hmx : Tryd.prog.follows .mixedOrders = true := by kernel_rfl
          go_region
          go_wp2
          go_ret3
          exact ⟨by rw [HP.out]; rfl, 1, rfl⟩
  · rw [B_neq47 c0 h47] at q0
    have HP : Hid (targetF s = ([], [], false)) := Lib.hid (target_short (by rw [hc0]; intro e; cases e; exact h47 rfl))
    clear h0 h5 hc0 h47 hs
    go_enter Tryd.func21, Tryd.ntmps21
    go_wp2
    go_ret3
    exact ⟨by rw [HP.out]; rfl, Drawn.refl _⟩
end Go.Proofs.YtmklgjbfdaleiaaDoor
