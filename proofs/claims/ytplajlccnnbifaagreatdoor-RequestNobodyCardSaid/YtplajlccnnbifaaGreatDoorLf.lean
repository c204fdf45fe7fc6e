/- The document's Parse of a request's line walked. -/
import Derived.Test.YtplajlccnnbifaaGreatDoorLd
import Derived.Test.YtplajlccnnbifaaGreatDoorJa
namespace Go.Proofs.YtplajlccnnbifaaGreatDoor
open Go.RowKit
attribute [local go_sem] store_one S_match S_store eguard_BN nguard_BN

theorem results_tmp4 {fn : Func} {t u v x : Tmp} (h : fn.results = #[.tmp t, .tmp u, .tmp v, .tmp x]) (tmps : Array Value) (P : Program) (w : World) :
    (results fn tmps).run P w = .ok (.tuple #[tmps.getD t undef, tmps.getD u undef, tmps.getD v undef, tmps.getD x undef]) w := by
  simp [results, h, go_sem]
theorem while_stop {p : UInt8 → Bool} {s : List UInt8} {i : Nat} (h : (s.take i).all p = true) (hc : ∀ c, s[i]? = some c → p c = false) : s.takeWhile p = s.take i := by
  have e : s = s.take i ++ s.drop i := (List.take_append_drop i s).symm
  conv => lhs; rw [e]
  rw [List.takeWhile_append_of_pos (by simpa using h)]
  cases hd : s.drop i with
  | nil => simp
  | cons c r =>
    have hcc := hc c (by
      have := congrArg (fun l => l[0]?) hd
      simpa using this)
    rw [List.takeWhile_cons, hcc]; simp
theorem line_none {s : List UInt8} (h : (s.takeWhile (notB 32)).length = s.length) : lineF s = ([], [], 0, false) := by
  unfold lineF
  simp only
  rw [h, List.drop_of_length_le (by omega), if_neg]
  rintro ⟨_, h⟩
  exact h rfl
theorem line_eq {s : List UInt8} {i j : Nat} (h1 : (s.take i).all (notB 32) = true) (h2 : s[i]? = some 32) (h3 : ((s.drop (i + 1)).take (j - (i + 1))).all visB = true) (hij : i + 1 ≤ j) (hj : j ≤ s.length) (h4 : ∀ c, s[j]? = some c → visB c = false) :
    lineF s = if tokF (s.take i) = true ∧ i + 1 < j then (if s.drop j = http0 then (s.take i, (s.drop (i + 1)).take (j - (i + 1)), 10, true) else if s.drop j = http1 then (s.take i, (s.drop (i + 1)).take (j - (i + 1)), 11, true) else ([], [], 0, false)) else ([], [], 0, false) := by
  have hil : i < s.length := (List.getElem?_eq_some_iff.1 h2).1
  have e1 : s.takeWhile (notB 32) = s.take i := while_stop h1 (fun c hc => by rw [h2] at hc; cases hc; rfl)
  have e2 : (s.drop (i + 1)).takeWhile visB = (s.drop (i + 1)).take (j - (i + 1)) := while_stop h3 (fun c hc => by
    rw [List.getElem?_drop, show i + 1 + (j - (i + 1)) = j by omega] at hc; exact h4 c hc)
  have l1 : (s.take i).length = i := by rw [List.length_take]; omega
  have l2 : ((s.drop (i + 1)).take (j - (i + 1))).length = j - (i + 1) := by rw [List.length_take, List.length_drop]; omega
  have e3 : (s.drop (i + 1)).drop (j - (i + 1)) = s.drop j := by rw [List.drop_drop, show i + 1 + (j - (i + 1)) = j by omega]
  unfold lineF
  simp only
  rw [e1, l1, e2, l2, e3]
  have e4 : ((s.drop (i + 1)).take (j - (i + 1)) ≠ []) ↔ i + 1 < j := by
    rw [ne_eq, ← List.length_eq_zero_iff, l2]; omega
  by_cases hc : tokF (s.take i) = true ∧ i + 1 < j
  · rw [if_pos hc, if_pos ⟨hc.1, e4.2 hc.2⟩]
  · rw [if_neg hc, if_neg (fun h => hc ⟨h.1, e4.1 h.2⟩)]
theorem vis_facts (c : UInt8) : (visB c = true ∧ decide ((33 : Int) ≤ (c.toNat : Int)) = true ∧ decide ((c.toNat : Int) ≤ 126) = true) ∨ (visB c = false ∧ decide ((33 : Int) ≤ (c.toNat : Int)) = false) ∨
    (visB c = false ∧ decide ((33 : Int) ≤ (c.toNat : Int)) = true ∧ decide ((c.toNat : Int) ≤ 126) = false) := by
  unfold visB
  by_cases h1 : 33 ≤ c.toNat
  · by_cases h2 : c.toNat ≤ 126
    · exact .inl ⟨by simp [h1, h2], decide_eq_true (by omega), decide_eq_true (by omega)⟩
    · exact .inr (.inr ⟨by simp [h2], decide_eq_true (by omega), decide_eq_false (by omega)⟩)
  · exact .inr (.inl ⟨by simp [h1], decide_eq_false (by omega)⟩)
set_option maxRecDepth 100000 in
set_option maxHeartbeats 2000000 in
theorem dparse_any (s : List UInt8) (hs : s.length ≤ 100000) (w : World) : Calls Tryz.prog 50 #[S s] w fun e w' => e = .returned (lineV (lineF s)) ∧ Drawn w w' := by
  obtain ⟨L, hL⟩ : ∃ L, L = s.length := ⟨_, rfl⟩
  have hlen := run_len_S (P := Tryz.prog) Tryz.underlying9 3 s
  rw [← hL] at hlen hs
  have HL := Lib.hid hL
  clear hL
  go_enter Tryz.func50, Tryz.ntmps50
  go_wp2
  go_loopw [6] (fun iv wr => ∃ i : Nat, i ≤ L ∧ iv = .int .i64 (i : Int) ∧ wr = w ∧ (s.take i).all (notB 32) = true) (fun iv _ => L - (intOf iv).toNat)
  case atStart => exact ⟨0, Nat.zero_le _, rfl, rfl, by simp⟩
  case round =>
    obtain ⟨i, hi, rfl, hwr, hn⟩ := hrel
    subst hwr
    by_cases hlt : i < L
    · obtain ⟨c, hc⟩ : ∃ c, s[i]? = some c := ⟨s[i]'(by have := HL.out; omega), List.getElem?_eq_getElem _⟩
      have hidx : ∀ w, (Instr.index 9 (S s) (.int .i64 (i : Int))).run Tryz.prog w = .ok (B c) w := fun w => index_S (P := Tryz.prog) Tryz.underlying9 s i c hc w
      have q1 := B_neqN 5 c 32
      by_cases h32 : c = 32
      · rw [show ((c.toNat : Int) != 32) = false by rw [h32]; rfl] at q1
        rw [h32] at hc
        have HN := Lib.hid (And.intro hn hc)
        have HT := Lib.hid (token_any (s.take i) (by rw [List.length_take]; omega))
        have hw1 : IntKind.i64.wrap ((i : Int) + 1) = (i : Int) + 1 := by rw [IntKind.wrap_i64]; omega
        have hst : ∀ w, (Instr.slice 9 (S s) none (some (.int .i64 (i : Int))) none).run Tryz.prog w = .ok (S (s.take i)) w := fun w => slice_take (P := Tryz.prog) Tryz.underlying9 s i (by have := HL.out; omega) w
        clear hn hc h32
        go_wp2
        clear q1 hidx
        go_loopw [7] (fun jv wx => ∃ j : Nat, i + 1 ≤ j ∧ j ≤ L ∧ jv = .int .i64 (j : Int) ∧ wx = wr ∧ ((s.drop (i + 1)).take (j - (i + 1))).all visB = true) (fun jv _ => L - (intOf jv).toNat)
        case atStart => exact ⟨i + 1, Nat.le_refl _, by omega, by go_num, rfl, by simp⟩
        case round =>
          obtain ⟨j, hj1, hj2, rfl, hwx, hv⟩ := hrel
          subst hwx
          have hend : Hid (∀ (_ : ∀ d, s[j]? = some d → visB d = false), lineF s = if tokF (s.take i) = true ∧ i + 1 < j then (if s.drop j = http0 then (s.take i, (s.drop (i + 1)).take (j - (i + 1)), 10, true) else if s.drop j = http1 then (s.take i, (s.drop (i + 1)).take (j - (i + 1)), 11, true) else ([], [], 0, false)) else ([], [], 0, false)) :=
            Lib.hid fun h4 => line_eq HN.out.1 HN.out.2 hv hj1 (by rw [← HL.out]; exact hj2) h4
          have hjb : j < 100001 := by omega
          have hib : i < 100001 := by omega
          -- the end, at j
          by_cases hjl : j < L
          · obtain ⟨d, hd⟩ : ∃ d, s[j]? = some d := ⟨s[j]'(by have := HL.out; omega), List.getElem?_eq_getElem _⟩
            have hidy : ∀ w, (Instr.index 9 (S s) (.int .i64 (j : Int))).run Tryz.prog w = .ok (B d) w := fun w => index_S (P := Tryz.prog) Tryz.underlying9 s j d hd w
            have q2 := B_geq 5 d 33
            have q3 := B_leq 5 d 126
            rcases vis_facts d with ⟨hvd, f1, f2⟩ | ⟨hvd, f1⟩ | ⟨hvd, f1, f2⟩
            · rw [f1] at q2
              rw [f2] at q3
              have hd2 : (s.drop (i + 1))[j - (i + 1)]? = some d := by rw [List.getElem?_drop, show i + 1 + (j - (i + 1)) = j by omega]; exact hd
              have hnx := all_take_next hd2 hv
              rw [hvd, show j - (i + 1) + 1 = j + 1 - (i + 1) by omega] at hnx
              have HX := Lib.hid hnx
              clear hnx hd2 hv hd hend hvd f1 f2 HT
              go_wp2
              exact ⟨⟨j + 1, by omega, by omega, by go_num, by trivial, HX.out⟩, by simp [intOf]; omega⟩
            all_goals
              have HE := Lib.hid (hend.out (fun d' hd' => by rw [hd] at hd'; cases hd'; exact hvd))
              rw [f1] at q2
              try rw [f2] at q3
              clear hend hv hvd f1
              try clear f2
              have g1 : decide ((L : Int) ≤ (j : Int)) = false := decide_eq_false (by omega)
              have g1' : decide (L ≤ j) = false := decide_eq_false (by omega)
              cases htk : tokF (s.take i) with
              | false =>
                have HP : Hid (lineF s = ([], [], 0, false)) := Lib.hid (by rw [HE.out, if_neg (fun h => by rw [htk] at h; cases h.1)])
                rw [htk] at HT
                clear HE htk
                go_wp2_with fail
                refine (HT.out _).mono ?_
                rintro e w1 ⟨rfl, hw1⟩
                obtain rfl := hw1.symm
                clear hw1
                go_wp2
                refine bodyPost_ret (results_tmp4 rfl _ _ _) rfl ?_
                exact ⟨by rw [HP.out]; rfl, Drawn.refl _⟩
              | true =>
                rw [htk] at HT
                by_cases hji : j = i + 1
                · have g2 : ((j : Int) == (i : Int) + 1) = true := by rw [beq_iff_eq]; omega
                  have HP : Hid (lineF s = ([], [], 0, false)) := Lib.hid (by rw [HE.out, if_neg (fun h => by have := h.2; omega)])
                  clear HE htk hji
                  go_wp2_with fail
                  refine (HT.out _).mono ?_
                  rintro e w1 ⟨rfl, hw1⟩
                  obtain rfl := hw1.symm
                  clear hw1
                  go_wp2
                  refine bodyPost_ret (results_tmp4 rfl _ _ _) rfl ?_
                  exact ⟨by rw [HP.out]; rfl, Drawn.refl _⟩
                have g2 : ((j : Int) == (i : Int) + 1) = false := by rw [beq_eq_false_iff_ne]; omega
                have g2' : (j == i + 1) = false := by rw [beq_eq_false_iff_ne]; omega
                have q4 := B_neqN 5 d 32
                have hidz := hidy
                by_cases hd32 : d = 32
                · rw [show ((d.toNat : Int) != 32) = false by rw [hd32]; rfl] at q4
                  have hdr : s.drop j = 32 :: s.drop (j + 1) := by
                    rw [List.drop_eq_getElem_cons (by rw [← HL.out]; exact hjl), (List.getElem?_eq_some_iff.1 hd).2, hd32]
                  have hsd : ∀ w, (Instr.slice 9 (S s) (some (.int .i64 ((j : Int) + 1))) none none).run Tryz.prog w = .ok (S (s.drop (j + 1))) w := fun w => by
                    have := slice_drop (P := Tryz.prog) Tryz.underlying9 s (j + 1) (by rw [← HL.out]; omega) w
                    rwa [show ((j + 1 : Nat) : Int) = (j : Int) + 1 by omega] at this
                  have hsm : ∀ w, (Instr.slice 9 (S s) (some (.int .i64 ((i : Int) + 1))) (some (.int .i64 (j : Int))) none).run Tryz.prog w = .ok (S ((s.drop (i + 1)).take (j - (i + 1)))) w := fun w => by
                    have := slice_mid (P := Tryz.prog) Tryz.underlying9 s (i + 1) j hj1 (by rw [← HL.out]; omega) w
                    rwa [show ((i + 1 : Nat) : Int) = (i : Int) + 1 by omega] at this
                  have e5 : ∀ D, binOp .eql 9 (S D) (.string ⟨#[72, 84, 84, 80, 47, 49, 46, 48]⟩) = pure (.bool (D == [72, 84, 84, 80, 47, 49, 46, 48])) := fun D => eql_S 9 D [72, 84, 84, 80, 47, 49, 46, 48]
                  have e6 : ∀ D, binOp .eql 9 (S D) (.string ⟨#[72, 84, 84, 80, 47, 49, 46, 49]⟩) = pure (.bool (D == [72, 84, 84, 80, 47, 49, 46, 49])) := fun D => eql_S 9 D [72, 84, 84, 80, 47, 49, 46, 49]
                  have e7 : ∀ a b D, eqGuard .eql 9 a b (S D) (.string ⟨#[72, 84, 84, 80, 47, 49, 46, 48]⟩) = pure () := fun a b D => guard_S 9 a b D [72, 84, 84, 80, 47, 49, 46, 48]
                  have e8 : ∀ a b D, eqGuard .eql 9 a b (S D) (.string ⟨#[72, 84, 84, 80, 47, 49, 46, 49]⟩) = pure () := fun a b D => guard_S 9 a b D [72, 84, 84, 80, 47, 49, 46, 49]
                  have hw2 : IntKind.i64.wrap ((j : Int) + 1) = (j : Int) + 1 := by rw [IntKind.wrap_i64]; omega
                  clear hd hd32
                  generalize s.drop (j + 1) = D at *
                  by_cases hD0 : D = [72, 84, 84, 80, 47, 49, 46, 48]
                  · have hq0 : s.drop j = http0 := by rw [hdr, hD0]; rfl
                    have e9 := e5 D
                    rw [show (D == [72, 84, 84, 80, 47, 49, 46, 48]) = true by rw [beq_iff_eq]; exact hD0] at e9
                    clear hD0 hdr e5 e6
                    have HP : Hid (lineF s = (s.take i, (s.drop (i + 1)).take (j - (i + 1)), 10, true)) := Lib.hid (by rw [HE.out, if_pos ⟨htk, by omega⟩, if_pos hq0])
                    clear HE hq0
                    generalize s.take i = A at *
                    generalize (s.drop (i + 1)).take (j - (i + 1)) = M at *
                    go_wp2_with fail
                    refine (HT.out _).mono ?_
                    rintro e w1 ⟨rfl, hw1⟩
                    obtain rfl := hw1.symm
                    clear hw1
                    go_wp2
                    clear HL HN HT q4 g1 g1' g2 g2' hjl hjb hib hj1 hj2 hi hlt hji htk hs hlen hidy hidz
                    have hmx : Tryz.prog.follows .mixedOrders = true := by kernel_rfl
                    go_region
                    go_wp2
                    refine bodyPost_ret (results_tmp4 rfl _ _ _) rfl ?_
                    exact ⟨by rw [HP.out]; rfl, 1, rfl⟩
                  · have hq0 : ¬ s.drop j = http0 := fun h => by rw [hdr] at h; exact hD0 (List.cons.inj h).2
                    have e9 := e5 D
                    rw [show (D == [72, 84, 84, 80, 47, 49, 46, 48]) = false by rw [beq_eq_false_iff_ne]; exact hD0] at e9
                    have e10 := e6 D
                    by_cases hD1 : D = [72, 84, 84, 80, 47, 49, 46, 49]
                    · have hq1 : s.drop j = http1 := by rw [hdr, hD1]; rfl
                      rw [show (D == [72, 84, 84, 80, 47, 49, 46, 49]) = true by rw [beq_iff_eq]; exact hD1] at e10
                      clear hD0 hD1 hdr e5 e6
                      have HP : Hid (lineF s = (s.take i, (s.drop (i + 1)).take (j - (i + 1)), 11, true)) := Lib.hid (by rw [HE.out, if_pos ⟨htk, by omega⟩, if_neg hq0, if_pos hq1])
                      clear HE hq0 hq1
                      generalize s.take i = A at *
                      generalize (s.drop (i + 1)).take (j - (i + 1)) = M at *
                      go_wp2_with fail
                      refine (HT.out _).mono ?_
                      rintro e w1 ⟨rfl, hw1⟩
                      obtain rfl := hw1.symm
                      clear hw1
                      go_wp2
                      clear HL HN HT q4 g1 g1' g2 g2' hjl hjb hib hj1 hj2 hi hlt hji htk hs hlen hidy hidz
                      have hmx : Tryz.prog.follows .mixedOrders = true := by kernel_rfl
                      go_region
                      go_wp2
                      refine bodyPost_ret (results_tmp4 rfl _ _ _) rfl ?_
                      exact ⟨by rw [HP.out]; rfl, 1, rfl⟩
                    · have hq1 : ¬ s.drop j = http1 := fun h => by rw [hdr] at h; exact hD1 (List.cons.inj h).2
                      rw [show (D == [72, 84, 84, 80, 47, 49, 46, 49]) = false by rw [beq_eq_false_iff_ne]; exact hD1] at e10
                      have HP : Hid (lineF s = ([], [], 0, false)) := Lib.hid (by rw [HE.out, if_pos ⟨htk, by omega⟩, if_neg hq0, if_neg hq1])
                      clear HE hq0 hq1 hD0 hD1 hdr e5 e6 htk hji
                      go_wp2_with fail
                      refine (HT.out _).mono ?_
                      rintro e w1 ⟨rfl, hw1⟩
                      obtain rfl := hw1.symm
                      clear hw1
                      go_wp2
                      refine bodyPost_ret (results_tmp4 rfl _ _ _) rfl ?_
                      exact ⟨by rw [HP.out]; rfl, Drawn.refl _⟩
                · rw [show ((d.toNat : Int) != 32) = true by rw [bne_iff_ne]; intro h; exact hd32 (UInt8.toNat_inj.1 (by rw [show (32 : UInt8).toNat = 32 from rfl]; omega))] at q4
                  have hdr : s.drop j = d :: s.drop (j + 1) := by
                    rw [List.drop_eq_getElem_cons (by rw [← HL.out]; exact hjl), (List.getElem?_eq_some_iff.1 hd).2]
                  have HP : Hid (lineF s = ([], [], 0, false)) := Lib.hid (by
                    rw [HE.out, if_pos ⟨htk, by omega⟩, if_neg (fun h => by rw [hdr] at h; exact hd32 (List.cons.inj h).1), if_neg (fun h => by rw [hdr] at h; exact hd32 (List.cons.inj h).1)])
                  clear HE hdr hd hd32 htk hji
                  go_wp2_with fail
                  refine (HT.out _).mono ?_
                  rintro e w1 ⟨rfl, hw1⟩
                  obtain rfl := hw1.symm
                  clear hw1
                  go_wp2
                  refine bodyPost_ret (results_tmp4 rfl _ _ _) rfl ?_
                  exact ⟨by rw [HP.out]; rfl, Drawn.refl _⟩
          · obtain rfl : j = L := by omega
            have HE := Lib.hid (hend.out (fun d' hd' => by rw [List.getElem?_eq_none (by rw [← HL.out]; exact Nat.le_refl _)] at hd'; cases hd'))
            clear hend hv
            have g1 : decide ((j : Int) ≤ (j : Int)) = true := decide_eq_true (Int.le_refl _)
            have hne : s.drop j = [] := List.drop_of_length_le (by rw [← HL.out]; exact Nat.le_refl _)
            have HP : Hid (lineF s = ([], [], 0, false)) := Lib.hid (by
              rw [HE.out]
              split
              · rw [if_neg (by rw [hne]; exact fun h => by cases h), if_neg (by rw [hne]; exact fun h => by cases h)]
              · rfl)
            clear HE hne
            cases htk : tokF (s.take i) with
            | false =>
              rw [htk] at HT
              clear htk
              go_wp2_with fail
              refine (HT.out _).mono ?_
              rintro e w1 ⟨rfl, hw1⟩
              obtain rfl := hw1.symm
              clear hw1
              go_wp2
              refine bodyPost_ret (results_tmp4 rfl _ _ _) rfl ?_
              exact ⟨by rw [HP.out]; rfl, Drawn.refl _⟩
            | true =>
              rw [htk] at HT
              clear htk
              go_wp2_with fail
              refine (HT.out _).mono ?_
              rintro e w1 ⟨rfl, hw1⟩
              obtain rfl := hw1.symm
              clear hw1
              go_wp2
              refine bodyPost_ret (results_tmp4 rfl _ _ _) rfl ?_
              exact ⟨by rw [HP.out]; rfl, Drawn.refl _⟩
      · rw [show ((c.toNat : Int) != 32) = true by rw [bne_iff_ne]; intro h; exact h32 (UInt8.toNat_inj.1 (by rw [show (32 : UInt8).toNat = 32 from rfl]; omega))] at q1
        have hnx := all_take_next hc hn
        rw [show notB 32 c = true by unfold notB; rw [bne_iff_ne]; exact h32] at hnx
        have HX := Lib.hid hnx
        clear hnx hn hc h32
        go_wp2
        exact ⟨⟨i + 1, by omega, by go_num, by trivial, HX.out⟩, by simp [intOf]; omega⟩
    · obtain rfl : i = L := by omega
      have HP : Hid (lineF s = ([], [], 0, false)) := Lib.hid (line_none (by
        rw [while_stop hn (fun c hc => by rw [List.getElem?_eq_none (by rw [← HL.out]; exact Nat.le_refl _)] at hc; cases hc), List.length_take, ← HL.out]; omega))
      have HT := Lib.hid (token_any (s.take i) (by rw [List.length_take]; omega))
      have hst : ∀ w, (Instr.slice 9 (S s) none (some (.int .i64 (i : Int))) none).run Tryz.prog w = .ok (S (s.take i)) w := fun w => slice_take (P := Tryz.prog) Tryz.underlying9 s i (by have := HL.out; omega) w
      have hw1 : IntKind.i64.wrap ((i : Int) + 1) = (i : Int) + 1 := by rw [IntKind.wrap_i64]; omega
      clear hn
      go_wp2
      go_loopw [7] (fun jv wx => jv = .int .i64 ((i : Int) + 1) ∧ wx = wr) (fun _ _ => 0)
      case atStart => exact ⟨rfl, rfl⟩
      case round =>
        obtain ⟨rfl, hwx⟩ := hrel
        subst hwx
        have g0 : decide ((i : Int) + 1 < (i : Int)) = false := decide_eq_false (by omega)
        have g1 : decide ((i : Int) ≤ (i : Int) + 1) = true := decide_eq_true (by omega)
        cases htk : tokF (s.take i) with
        | false =>
          rw [htk] at HT
          clear htk
          go_wp2_with fail
          refine (HT.out _).mono ?_
          rintro e w1 ⟨rfl, hw1⟩
          obtain rfl := hw1.symm
          clear hw1
          go_wp2
          refine bodyPost_ret (results_tmp4 rfl _ _ _) rfl ?_
          exact ⟨by rw [HP.out]; rfl, Drawn.refl _⟩
        | true =>
          rw [htk] at HT
          clear htk
          go_wp2_with fail
          refine (HT.out _).mono ?_
          rintro e w1 ⟨rfl, hw1⟩
          obtain rfl := hw1.symm
          clear hw1
          go_wp2
          refine bodyPost_ret (results_tmp4 rfl _ _ _) rfl ?_
          exact ⟨by rw [HP.out]; rfl, Drawn.refl _⟩
end Go.Proofs.YtplajlccnnbifaaGreatDoor
