/- The document's Parse of a field's line walked. (mkref06.py writes it.) -/
import Derived.Test.YtplajlccnnbifaaGreatDoorQs
import Derived.Test.YtplajlccnnbifaaGreatDoorJc
namespace Go.Proofs.YtplajlccnnbifaaGreatDoor
open Go.RowKit
attribute [local go_sem] store_one S_match S_store

set_option maxRecDepth 100000 in
set_option maxHeartbeats 1000000 in
theorem bare_any (s : List UInt8) (hs : s.length ≤ 100000) (w : World) : Calls Tryz.prog 90 #[S s] w fun e w' => e = .returned (S (bareF s)) ∧ w' = w := by
  have HLS : Hid (∀ r w, (Builtin.len_ #[9] 3 #[S r]).run Tryz.prog w = .ok (.int .i64 (r.length : Int)) w) := Lib.hid fun r => run_len_S (P := Tryz.prog) Tryz.underlying9 3 r
  go_enter Tryz.func90, Tryz.ntmps90
  go_wp2
  go_loopw [0] (fun sv wr => ∃ r : List UInt8, r.length ≤ s.length ∧ sv = S r ∧ wr = w ∧ bareF s = bareF r) (fun sv _ => slen sv)
  case atStart => exact ⟨s, Nat.le_refl _, rfl, rfl, rfl⟩
  case round =>
    obtain ⟨r, hr, rfl, rfl, hb⟩ := hrel
    cases r with
    | nil =>
      have HB : Hid (bareF s = backF [] ∧ ([] : List UInt8).length ≤ s.length) := Lib.hid ⟨by rw [hb]; rfl, hr⟩
      have hl0 : ∀ w, (Builtin.len_ #[9] 3 #[S []]).run Tryz.prog w = .ok (.int .i64 0) w := HLS.out []
      clear hb hr
      go_wp2
      go_loopw [0] (fun sv wx => ∃ q : List UInt8, q.length ≤ s.length ∧ sv = S q ∧ wx = wr ∧ bareF s = backF q) (fun sv _ => slen sv)
      case atStart => exact ⟨_, HB.out.2, rfl, rfl, HB.out.1⟩
      case round =>
        obtain ⟨q, hq, rfl, rfl, hb⟩ := hrel
        rcases List.eq_nil_or_concat q with rfl | ⟨p, c, rfl⟩
        · have HN : Hid (bareF s = []) := Lib.hid (by rw [hb]; rfl)
          have hl0 : ∀ w, (Builtin.len_ #[9] 3 #[S []]).run Tryz.prog w = .ok (.int .i64 0) w := HLS.out []
          clear hb
          go_wp2
          go_ret
          exact ⟨by rw [HN.out]; rfl, rfl⟩
        · have hq2 : p.length + 1 ≤ s.length := by simpa using hq
          obtain ⟨u, hu⟩ : ∃ u, u = p ++ [c] := ⟨_, rfl⟩
          obtain ⟨L, hL⟩ : ∃ L, L = p.length := ⟨_, rfl⟩
          have hlu : ∀ w, (Builtin.len_ #[9] 3 #[S u]).run Tryz.prog w = .ok (.int .i64 ((L : Int) + 1)) w := fun w => by
            have := HLS.out u w
            rw [hu, List.length_append, List.length_singleton, ← hL] at this
            rw [hu]; exact this
          have hpos : decide ((0 : Int) < (L : Int) + 1) = true := decide_eq_true (by omega)
          have hpos' : decide (0 < L + 1) = true := decide_eq_true (by omega)
          have hw : wrap64 (L : Int) = (L : Int) := by
            unfold wrap64; omega
          obtain ⟨x, hx⟩ : ∃ x : Nat, x = c.toNat := ⟨_, rfl⟩
          have hidx : ∀ w, (Instr.index 9 (S u) (.int .i64 (L : Int))).run Tryz.prog w = .ok (.int .u8 (x : Int)) w := fun w => by
            rw [hx, hu, hL]
            exact index_S (P := Tryz.prog) Tryz.underlying9 _ p.length c (by simp) w
          have hsl : ∀ w, (Instr.slice 9 (S u) none (some (.int .i64 (L : Int))) none).run Tryz.prog w = .ok (S p) w := fun w => by
            have := slice_take (P := Tryz.prog) Tryz.underlying9 (p ++ [c]) p.length (by simp) w
            rw [List.take_left] at this
            rw [hu, hL]; exact this
          have hsu : slen (S u) = L + 1 := by rw [slen_S, hu, List.length_append, List.length_singleton, hL]
          have hsp : slen (S p) = L := by rw [slen_S, hL]
          have hbf := blank_facts c
          rw [← hx] at hbf
          clear hx
          rcases hbf with ⟨h1, h2, h3⟩ | ⟨h1, h2, h3, h4, h5⟩ | ⟨h1, h2, h3, h4, h5⟩
          · have HN : Hid (bareF s = backF p ∧ p.length ≤ s.length) := Lib.hid ⟨by rw [hb, List.concat_eq_append, backF_end h1], by omega⟩
            rw [List.concat_eq_append, ← hu] at *
            clear hb hu hL hq hq2 h1
            go_wp2
            exact ⟨⟨p, HN.out.2, by first | rfl | trivial, by first | rfl | trivial, HN.out.1⟩, by simp [hsu, hsp]⟩
          · have HN : Hid (bareF s = backF p ∧ p.length ≤ s.length) := Lib.hid ⟨by rw [hb, List.concat_eq_append, backF_end h1], by omega⟩
            rw [List.concat_eq_append, ← hu] at *
            clear hb hu hL hq hq2 h1
            go_wp2
            exact ⟨⟨p, HN.out.2, by first | rfl | trivial, by first | rfl | trivial, HN.out.1⟩, by simp [hsu, hsp]⟩
          · have HN : Hid (bareF s = u) := Lib.hid (by rw [hb, List.concat_eq_append, backF_stop h1, hu])
            rw [List.concat_eq_append, ← hu] at *
            clear hb hu hL hq hq2 h1
            go_wp2
            go_ret
            exact ⟨by rw [HN.out]; rfl, rfl⟩
    | cons c t =>
      obtain ⟨u, hu⟩ : ∃ u, u = c :: t := ⟨_, rfl⟩
      obtain ⟨L, hL⟩ : ∃ L, L = t.length := ⟨_, rfl⟩
      have hlu : ∀ w, (Builtin.len_ #[9] 3 #[S u]).run Tryz.prog w = .ok (.int .i64 ((L : Int) + 1)) w := fun w => by
        have := HLS.out u w
        rw [hu, List.length_cons, ← hL] at this
        rw [hu]; exact this
      have hpos : decide ((0 : Int) < (L : Int) + 1) = true := decide_eq_true (by omega)
      have hpos' : decide (0 < L + 1) = true := decide_eq_true (by omega)
      obtain ⟨x, hx⟩ : ∃ x : Nat, x = c.toNat := ⟨_, rfl⟩
      have hidx : ∀ w, (Instr.index 9 (S u) (.int .i64 0)).run Tryz.prog w = .ok (.int .u8 (x : Int)) w := fun w => by
        rw [hx, hu]
        exact index_S (P := Tryz.prog) Tryz.underlying9 (c :: t) 0 c rfl w
      have hsl : ∀ w, (Instr.slice 9 (S u) (some (.int .i64 1)) none none).run Tryz.prog w = .ok (S t) w := fun w => by
        rw [hu]
        exact slice_drop (P := Tryz.prog) Tryz.underlying9 (c :: t) 1 (by simp) w
      have hsu : slen (S u) = L + 1 := by rw [slen_S, hu, List.length_cons, hL]
      have hst : slen (S t) = L := by rw [slen_S, hL]
      have hbf := blank_facts c
      rw [← hx] at hbf
      clear hx
      rcases hbf with ⟨h1, h2, h3⟩ | ⟨h1, h2, h3, h4, h5⟩ | ⟨h1, h2, h3, h4, h5⟩
      · have HN : Hid (bareF s = bareF t ∧ t.length ≤ s.length) := Lib.hid ⟨by rw [hb, bareF_front h1], by rw [List.length_cons] at hr; omega⟩
        rw [← hu] at *
        clear hb hu hL hr h1
        go_wp2
        exact ⟨⟨t, HN.out.2, by first | rfl | trivial, by first | rfl | trivial, HN.out.1⟩, by simp [hsu, hst]⟩
      · have HN : Hid (bareF s = bareF t ∧ t.length ≤ s.length) := Lib.hid ⟨by rw [hb, bareF_front h1], by rw [List.length_cons] at hr; omega⟩
        rw [← hu] at *
        clear hb hu hL hr h1
        go_wp2
        exact ⟨⟨t, HN.out.2, by first | rfl | trivial, by first | rfl | trivial, HN.out.1⟩, by simp [hsu, hst]⟩
      · have HB : Hid (bareF s = backF u ∧ u.length ≤ s.length) := Lib.hid ⟨by rw [hb, bareF_stop h1, hu], by rw [hu]; exact hr⟩
        rw [← hu] at *
        clear hb hu hL hr h1 hsl hsu hst
        go_wp2
        clear hlu hidx hpos hpos' h2 h3 h4 h5
        go_loopw [0] (fun sv wx => ∃ q : List UInt8, q.length ≤ s.length ∧ sv = S q ∧ wx = wr ∧ bareF s = backF q) (fun sv _ => slen sv)
        case atStart => exact ⟨_, HB.out.2, rfl, rfl, HB.out.1⟩
        case round =>
          obtain ⟨q, hq, rfl, rfl, hb⟩ := hrel
          rcases List.eq_nil_or_concat q with rfl | ⟨p, c, rfl⟩
          · have HN : Hid (bareF s = []) := Lib.hid (by rw [hb]; rfl)
            have hl0 : ∀ w, (Builtin.len_ #[9] 3 #[S []]).run Tryz.prog w = .ok (.int .i64 0) w := HLS.out []
            clear hb
            go_wp2
            go_ret
            exact ⟨by rw [HN.out]; rfl, rfl⟩
          · have hq2 : p.length + 1 ≤ s.length := by simpa using hq
            obtain ⟨u, hu⟩ : ∃ u, u = p ++ [c] := ⟨_, rfl⟩
            obtain ⟨L, hL⟩ : ∃ L, L = p.length := ⟨_, rfl⟩
            have hlu : ∀ w, (Builtin.len_ #[9] 3 #[S u]).run Tryz.prog w = .ok (.int .i64 ((L : Int) + 1)) w := fun w => by
              have := HLS.out u w
              rw [hu, List.length_append, List.length_singleton, ← hL] at this
              rw [hu]; exact this
            have hpos : decide ((0 : Int) < (L : Int) + 1) = true := decide_eq_true (by omega)
            have hpos' : decide (0 < L + 1) = true := decide_eq_true (by omega)
            have hw : wrap64 (L : Int) = (L : Int) := by
              unfold wrap64; omega
            obtain ⟨x, hx⟩ : ∃ x : Nat, x = c.toNat := ⟨_, rfl⟩
            have hidx : ∀ w, (Instr.index 9 (S u) (.int .i64 (L : Int))).run Tryz.prog w = .ok (.int .u8 (x : Int)) w := fun w => by
              rw [hx, hu, hL]
              exact index_S (P := Tryz.prog) Tryz.underlying9 _ p.length c (by simp) w
            have hsl : ∀ w, (Instr.slice 9 (S u) none (some (.int .i64 (L : Int))) none).run Tryz.prog w = .ok (S p) w := fun w => by
              have := slice_take (P := Tryz.prog) Tryz.underlying9 (p ++ [c]) p.length (by simp) w
              rw [List.take_left] at this
              rw [hu, hL]; exact this
            have hsu : slen (S u) = L + 1 := by rw [slen_S, hu, List.length_append, List.length_singleton, hL]
            have hsp : slen (S p) = L := by rw [slen_S, hL]
            have hbf := blank_facts c
            rw [← hx] at hbf
            clear hx
            rcases hbf with ⟨h1, h2, h3⟩ | ⟨h1, h2, h3, h4, h5⟩ | ⟨h1, h2, h3, h4, h5⟩
            · have HN : Hid (bareF s = backF p ∧ p.length ≤ s.length) := Lib.hid ⟨by rw [hb, List.concat_eq_append, backF_end h1], by omega⟩
              rw [List.concat_eq_append, ← hu] at *
              clear hb hu hL hq hq2 h1
              go_wp2
              exact ⟨⟨p, HN.out.2, by first | rfl | trivial, by first | rfl | trivial, HN.out.1⟩, by simp [hsu, hsp]⟩
            · have HN : Hid (bareF s = backF p ∧ p.length ≤ s.length) := Lib.hid ⟨by rw [hb, List.concat_eq_append, backF_end h1], by omega⟩
              rw [List.concat_eq_append, ← hu] at *
              clear hb hu hL hq hq2 h1
              go_wp2
              exact ⟨⟨p, HN.out.2, by first | rfl | trivial, by first | rfl | trivial, HN.out.1⟩, by simp [hsu, hsp]⟩
            · have HN : Hid (bareF s = u) := Lib.hid (by rw [hb, List.concat_eq_append, backF_stop h1, hu])
              rw [List.concat_eq_append, ← hu] at *
              clear hb hu hL hq hq2 h1
              go_wp2
              go_ret
              exact ⟨by rw [HN.out]; rfl, rfl⟩
set_option maxRecDepth 100000 in
set_option maxHeartbeats 1000000 in
theorem parse_any (s : List UInt8) (hs : s.length ≤ 100000) (w : World) : Calls Tryz.prog 52 #[S s] w fun e w' => e = .returned (parseV (parseF s)) ∧ Below w.heap.size w w' := by
  have hlenS := run_len_S (P := Tryz.prog) Tryz.underlying9 3 s
  obtain ⟨i23, hi23, hs23⟩ := infoFld
  obtain ⟨W1, hW1⟩ : ∃ W1, W1 = w.alloc (.cells #[.string ⟨#[]⟩, .string ⟨#[]⟩] 47) := ⟨_, rfl⟩
  obtain ⟨b, hb⟩ : ∃ b, b = w.heap.size := ⟨_, rfl⟩
  have hr1 : Row W1 b #[.string ⟨#[]⟩, .string ⟨#[]⟩] 47 := by rw [hW1, hb]; exact row_new w _ _
  have hb1 : Below b w W1 := by rw [hW1, hb]; exact (Below.refl _ w).alloc (Nat.le_refl _) _
  have H1 := Lib.hid (And.intro hr1 (And.intro hb1 hb))
  have r0 : W1.cell? ⟨b, 0, none⟩ = some (.string ⟨#[]⟩) := cell_of_row W1 _ 0 _ 47 (0, 0) hr1
  have r1 : W1.cell? ⟨b, 1, none⟩ = some (.string ⟨#[]⟩) := cell_of_row W1 _ 1 _ 47 (0, 0) hr1
  have f0 : W1.frozen? ⟨b, 0, none⟩ = false := Row.frozen hr1 0
  have f1 : W1.frozen? ⟨b, 1, none⟩ = false := Row.frozen hr1 1
  have HI := Lib.hid (And.intro hi23 hs23)
  have hnone : Hid (∀ tmps : Array Value, tmps.getD 2 undef = .pointer (some ⟨b, 0, none⟩) → tmps.getD 3 undef = .bool false → parseF s = ([], [], false) →
      bodyPost Tryz.prog Tryz.f52 (fun e w' => e = .returned (parseV (parseF s)) ∧ Below w.heap.size w w') .ret { tmps := tmps, defers := [] } ((W1.setCell ⟨b, 0, none⟩ (.string ⟨#[]⟩)).setCell ⟨b, 1, none⟩ (.string ⟨#[]⟩))) := Lib.hid fun tmps h2 h3 hp => by
    refine bodyPost_ret (struct_end HI.out.1 HI.out.2 rfl _ _ b _ h2 ((H1.out.1.set 0 (.string ⟨#[]⟩)).set 1 (.string ⟨#[]⟩)) rfl) rfl ?_
    rw [hp]
    refine ⟨by rw [h3]; rfl, ?_⟩
    have hbb := H1.out.2.2
    rw [← hbb]
    exact (H1.out.2.1.setCell (p := ⟨b, 0, none⟩) (Nat.le_refl _) _).setCell (p := ⟨b, 1, none⟩) (Nat.le_refl _) _
  clear hr1 hb1 hi23 hs23
  go_enter Tryz.func52, Tryz.ntmps52
  go_wp2
  rw [← hb, ← hW1]
  clear hb hW1
  go_loopw [4] (fun iv wr => ∃ i : Nat, i ≤ s.length ∧ iv = .int .i64 (i : Int) ∧ wr = W1 ∧ (s.take i).all tokB = true) (fun iv _ => s.length - (intOf iv).toNat)
  case atStart => exact ⟨0, by omega, rfl, rfl, rfl⟩
  case round =>
    obtain ⟨i, hi, rfl, hwr, hn⟩ := hrel
    subst hwr
    by_cases hlt : i < s.length
    · obtain ⟨c, hc⟩ : ∃ c, s[i]? = some c := ⟨s[i], List.getElem?_eq_getElem hlt⟩
      obtain ⟨x, hx⟩ : ∃ x : Nat, x = c.toNat := ⟨_, rfl⟩
      have hidx : ∀ w, (Instr.index 9 (S s) (.int .i64 (i : Int))).run Tryz.prog w = .ok (.int .u8 (x : Int)) w := fun w => by
        rw [hx]; exact index_S (P := Tryz.prog) Tryz.underlying9 s i c hc w
      have hcall : Calls Tryz.prog 89 #[.int .u8 (x : Int)] wr fun e w' => e = .returned (.bool (tokB c)) ∧ w' = wr := by
        rw [hx]; exact tokens_any c wr
      have hnx := all_take_next hc hn
      cases hb : tokB c with
      | true =>
        rw [hb] at hnx hcall
        have HN := Lib.hid hnx
        have HC := Lib.hid hcall
        clear hnx hb hn hc hx hcall
        go_wp2_with fail
        refine HC.out.mono ?_
        rintro e w1 ⟨rfl, hw1⟩
        obtain rfl := hw1.symm
        go_wp2
        exact ⟨⟨i + 1, by omega, by go_num, by trivial, HN.out⟩, by simp [intOf]; omega⟩
      | false =>
        rw [hb] at hcall
        have hN : nameLen s = i := nameLen_stop hn (by omega) (fun d hd => by rw [hc] at hd; cases hd; exact hb)
        have HC := Lib.hid hcall
        have hne : ((i : Int) == (s.length : Int)) = false := by rw [beq_eq_false_iff_ne]; omega
        have hne' : (i == s.length) = false := by rw [beq_eq_false_iff_ne]; omega
        by_cases h0 : i = 0
        · have HP : Hid (parseF s = ([], [], false)) := Lib.hid (by unfold parseF; rw [if_pos (.inl (by rw [hN, h0]))])
          have hz : ((i : Int) == 0) = true := by rw [beq_iff_eq]; omega
          have hz' : (i == 0) = true := by rw [beq_iff_eq]; exact h0
          clear hnx hb hn hc hx hcall hN h0
          go_wp2_with fail
          refine HC.out.mono ?_
          rintro e w1 ⟨rfl, hw1⟩
          obtain rfl := hw1.symm
          go_wp2
          exact hnone.out _ rfl rfl HP.out
        · have hz : ((i : Int) == 0) = false := by rw [beq_eq_false_iff_ne]; omega
          have hz' : (i == 0) = false := by rw [beq_eq_false_iff_ne]; exact h0
          have hz2 : decide (i = 0) = false := decide_eq_false h0
          have hcf := colon_facts c
          rw [← hx] at hcf
          rcases hcf with ⟨h58, hq, hq'⟩ | ⟨h58, hq, hq'⟩
          · have hw1 : IntKind.i64.wrap ((i : Int) + 1) = (i : Int) + 1 := by rw [IntKind.wrap_i64]; omega
            have HX := Lib.hid (And.intro hN (And.intro h0 (by rw [hN, hc, h58] : s[nameLen s]? = some 58)))
            clear hnx hb hn hc hx hcall hN h0 h58
            go_wp2_with fail
            refine HC.out.mono ?_
            rintro e w1 ⟨rfl, hw1⟩
            obtain rfl := hw1.symm
            clear hw1
            go_wp2
            go_loopw [5] (fun jv wx => ∃ j : Nat, i + 1 ≤ j ∧ j ≤ s.length ∧ jv = .int .i64 (j : Int) ∧ wx = wr ∧ ((s.drop (i + 1)).take (j - (i + 1))).any badB = false) (fun jv _ => s.length - (intOf jv).toNat)
            case atStart => exact ⟨i + 1, Nat.le_refl _, by omega, by go_num, rfl, by simp⟩
            case round =>
              obtain ⟨j, hj1, hj2, rfl, hwx, hbd⟩ := hrel
              subst hwx
              clear hidx hq hq' hz hz' hz2 hne hne' hlt
              by_cases hjl : j < s.length
              · obtain ⟨d, hd⟩ : ∃ d, s[j]? = some d := ⟨s[j], List.getElem?_eq_getElem hjl⟩
                obtain ⟨y, hy⟩ : ∃ y : Nat, y = d.toNat := ⟨_, rfl⟩
                have hidy : ∀ w, (Instr.index 9 (S s) (.int .i64 (j : Int))).run Tryz.prog w = .ok (.int .u8 (y : Int)) w := fun w => by
                  rw [hy]; exact index_S (P := Tryz.prog) Tryz.underlying9 s j d hd w
                have hnx := any_drop_next hd hj1 hbd
                have hbf := bad_facts d
                rw [← hy] at hbf
                clear hbd hd hy
                rcases hbf with ⟨h1, h2, h3⟩ | ⟨h1, h2, h3, h4, h5⟩ | ⟨h1, h2, h3, h4, h5, h6, h7⟩ | ⟨h1, h2, h3, h4, h5, h6, h7⟩
                · rw [h1] at hnx
                  have HN := Lib.hid hnx
                  clear hnx h1
                  go_wp2
                  exact ⟨⟨j + 1, by omega, by omega, by go_num, by trivial, HN.out⟩, by simp [intOf]; omega⟩
                · rw [h1] at hnx
                  have HP : Hid (parseF s = ([], [], false)) := Lib.hid (by unfold parseF; rw [if_pos (.inr (.inr (by rw [HX.out.1]; exact any_of_take hnx)))])
                  clear hnx h1
                  go_wp2
                  exact hnone.out _ rfl rfl HP.out
                · rw [h1] at hnx
                  have HP : Hid (parseF s = ([], [], false)) := Lib.hid (by unfold parseF; rw [if_pos (.inr (.inr (by rw [HX.out.1]; exact any_of_take hnx)))])
                  clear hnx h1
                  go_wp2
                  exact hnone.out _ rfl rfl HP.out
                · rw [h1] at hnx
                  have HN := Lib.hid hnx
                  clear hnx h1
                  go_wp2
                  exact ⟨⟨j + 1, by omega, by omega, by go_num, by trivial, HN.out⟩, by simp [intOf]; omega⟩
              · obtain rfl : j = s.length := by omega
                have HP : Hid (parseF s = (s.take i, bareF (s.drop (i + 1)), true)) := Lib.hid (by
                  rw [List.take_of_length_le (by rw [List.length_drop]; omega)] at hbd
                  unfold parseF
                  rw [HX.out.1, if_neg (by
                    rintro (h | h | h)
                    · exact HX.out.2.1 h
                    · have := HX.out.2.2; rw [HX.out.1] at this; exact h this
                    · rw [hbd] at h; cases h)])
                clear hbd
                have hw2 : IntKind.i64.wrap ((i : Int) + 1) = (i : Int) + 1 := by rw [IntKind.wrap_i64]; omega
                have hs1 : ∀ w, (Instr.slice 9 (S s) none (some (.int .i64 (i : Int))) none).run Tryz.prog w = .ok (S (s.take i)) w := fun w => slice_take (P := Tryz.prog) Tryz.underlying9 s i (by omega) w
                have hs2 : ∀ w, (Instr.slice 9 (S s) (some (.int .i64 ((i : Int) + 1))) none none).run Tryz.prog w = .ok (S (s.drop (i + 1))) w := fun w => slice_drop (P := Tryz.prog) Tryz.underlying9 s (i + 1) (by omega) w
                have HBA : Hid (∀ w, Calls Tryz.prog 90 #[S (s.drop (i + 1))] w fun e w' => e = .returned (S (bareF (s.drop (i + 1)))) ∧ w' = w) := Lib.hid fun w => bare_any _ (by rw [List.length_drop]; omega) w
                generalize bareF (s.drop (i + 1)) = V at *
                generalize s.drop (i + 1) = D at *
                generalize s.take i = N at *
                go_wp2
                refine wp_region_noPanic ?_
                refine wp_region_held_drew (S := fun _ => True) (by kernel_rfl) trivial (fun _ => ?_)
                refine take_at (i := 0) (d := some 58) (v := S s) rfl (by kernel_rfl) (by kernel_rfl) (by kernel_rfl) (fun _ _ _ h => h) (fun oi ho => ?_) trivial ?_
                · obtain rfl := Option.some.inj ho
                  exact Or.inl ⟨by rfl, fun wx hSw => by go_simp⟩
                simp only [Act.put, List.setIfInBounds_toArray, List.set_cons_zero, List.set_cons_succ]
                refine take_at (i := 1) (d := some 59) (v := .int .i64 (i : Int)) rfl (by kernel_rfl) (by kernel_rfl) (by kernel_rfl) (fun _ _ _ h => h) (fun oi ho => ?_) trivial ?_
                · obtain rfl := Option.some.inj ho
                  exact Or.inl ⟨by rfl, fun wx hSw => by go_simp⟩
                simp only [Act.put, List.setIfInBounds_toArray, List.set_cons_zero, List.set_cons_succ]
                refine take_at (i := 2) (d := some 60) (v := S N) rfl (by kernel_rfl) (by kernel_rfl) (by kernel_rfl) (fun _ _ _ h => h) (fun oi ho => ?_) trivial ?_
                · obtain rfl := Option.some.inj ho
                  exact Or.inl ⟨by rfl, fun wx hSw => by go_simp⟩
                simp only [Act.put, List.setIfInBounds_toArray, List.set_cons_zero, List.set_cons_succ]
                refine take_at (i := 3) (d := some 61) (v := S s) rfl (by kernel_rfl) (by kernel_rfl) (by kernel_rfl) (fun _ _ _ h => h) (fun oi ho => ?_) trivial ?_
                · obtain rfl := Option.some.inj ho
                  exact Or.inl ⟨by rfl, fun wx hSw => by go_simp⟩
                simp only [Act.put, List.setIfInBounds_toArray, List.set_cons_zero, List.set_cons_succ]
                refine take_at (i := 4) (d := some 62) (v := .int .i64 (i : Int)) rfl (by kernel_rfl) (by kernel_rfl) (by kernel_rfl) (fun _ _ _ h => h) (fun oi ho => ?_) trivial ?_
                · obtain rfl := Option.some.inj ho
                  exact Or.inl ⟨by rfl, fun wx hSw => by go_simp⟩
                simp only [Act.put, List.setIfInBounds_toArray, List.set_cons_zero, List.set_cons_succ]
                refine take_at (i := 5) (d := some 63) (v := .int .i64 ((i : Int) + 1)) rfl (by kernel_rfl) (by kernel_rfl) (by kernel_rfl) (fun _ _ _ h => h) (fun oi ho => ?_) trivial ?_
                · obtain rfl := Option.some.inj ho
                  exact Or.inl ⟨by rfl, fun wx hSw => by go_simp⟩
                simp only [Act.put, List.setIfInBounds_toArray, List.set_cons_zero, List.set_cons_succ]
                refine take_at (i := 6) (d := some 64) (v := S D) rfl (by kernel_rfl) (by kernel_rfl) (by kernel_rfl) (fun _ _ _ h => h) (fun oi ho => ?_) trivial ?_
                · obtain rfl := Option.some.inj ho
                  exact Or.inl ⟨by rfl, fun wx hSw => by go_simp⟩
                simp only [Act.put, List.setIfInBounds_toArray, List.set_cons_zero, List.set_cons_succ]
                refine ready_call (i := 7) (d := some 65) (f := 90) (args := #[S D]) rfl (by kernel_rfl) (fun oi ho => ?_) ?_
                · obtain rfl := Option.some.inj ho
                  exact ⟨by rfl, by go_simp⟩
                refine (HBA.out _).mono ?_
                rintro e w2 ⟨rfl, hw2⟩
                obtain rfl := hw2.symm
                refine ⟨_, rfl, trivial, ?_⟩
                simp only [Act.put, List.setIfInBounds_toArray, List.set_cons_zero, List.set_cons_succ]
                refine take_at (i := 8) (d := some 66) (v := .agg #[S N, S V]) rfl (by kernel_rfl) (by kernel_rfl) (by kernel_rfl) (fun _ _ _ h => h) (fun oi ho => ?_) trivial ?_
                · obtain rfl := Option.some.inj ho
                  exact Or.inl ⟨by rfl, fun wx hSw => by go_simp⟩
                simp only [Act.put, List.setIfInBounds_toArray, List.set_cons_zero, List.set_cons_succ]
                refine ready_skip (i := 9) (d := none) (w' := (wr.drew.setCell ⟨b, 0, none⟩ (S N)).setCell ⟨b, 1, none⟩ (S V)) rfl (by kernel_rfl) (fun oi ho => ?_) trivial ?_
                · obtain rfl := Option.some.inj ho
                  exact ⟨by rfl, by go_simp⟩
                refine take_at (i := 10) (d := some 3) (v := .bool true) rfl (by kernel_rfl) (by kernel_rfl) (by kernel_rfl) (fun _ _ _ h => h) (fun oi ho => ?_) trivial ?_
                · obtain rfl := Option.some.inj ho
                  exact Or.inl ⟨by rfl, fun wx hSw => by go_simp⟩
                simp only [Act.put, List.setIfInBounds_toArray, List.set_cons_zero, List.set_cons_succ]
                refine wpAnyH_done (by kernel_rfl) ?_ _
                refine NoPanic.normal ?_
                go_wp2
                refine bodyPost_ret (struct_end HI.out.1 HI.out.2 rfl _ _ b _ rfl (((H1.out.1.set 0 (S N)).set 1 (S V)).drew) rfl) rfl ?_
                rw [HP.out]
                refine ⟨rfl, ?_⟩
                have hbb := H1.out.2.2
                rw [← hbb]
                exact ((H1.out.2.1.setCell (p := ⟨b, 0, none⟩) (Nat.le_refl _) _).setCell (p := ⟨b, 1, none⟩) (Nat.le_refl _) _).trans ⟨rfl, rfl, rfl, Nat.le_refl _, fun _ _ => rfl⟩
          · have HP : Hid (parseF s = ([], [], false)) := Lib.hid (by unfold parseF; rw [if_pos (.inr (.inl (by rw [hN, hc]; intro e; exact h58 (Option.some.inj e))))])
            clear hnx hb hn hc hx hcall hN h0 h58
            go_wp2_with fail
            refine HC.out.mono ?_
            rintro e w1 ⟨rfl, hw1⟩
            obtain rfl := hw1.symm
            go_wp2
            exact hnone.out _ rfl rfl HP.out
    · obtain rfl : i = s.length := by omega
      have hN : nameLen s = s.length := nameLen_stop hn (Nat.le_refl _) (fun d hd => by simp at hd)
      have HP : Hid (parseF s = ([], [], false)) := Lib.hid (by unfold parseF; rw [if_pos (.inr (.inl (by rw [hN]; simp)))])
      clear hn hN
      have hq : ((s.length : Int) == (s.length : Int)) = true := by simp
      cases hz : ((s.length : Int) == 0) with
      | true =>
        have hz' : (s.length == 0) = true := by rw [beq_iff_eq] at hz ⊢; omega
        go_wp2
        exact hnone.out _ rfl rfl HP.out
      | false =>
        have hz' : (s.length == 0) = false := by rw [beq_eq_false_iff_ne] at hz ⊢; omega
        have hz2 : decide (s.length = 0) = false := decide_eq_false (by rw [beq_eq_false_iff_ne] at hz'; exact hz')
        go_wp2
        exact hnone.out _ rfl rfl HP.out
end Go.Proofs.YtplajlccnnbifaaGreatDoor
