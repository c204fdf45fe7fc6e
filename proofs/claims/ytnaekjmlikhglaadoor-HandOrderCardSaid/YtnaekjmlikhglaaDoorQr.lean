/- The document's Parse of a field's line walked. (mkref06.py writes it.) -/
import Derived.Test.YtnaekjmlikhglaaDoorQg
import Derived.Test.YtnaekjmlikhglaaDoorQp
namespace Go.Proofs.YtnaekjmlikhglaaDoor
open Go.RowKit
attribute [local go_sem] store_one S_match S_store

set_option maxRecDepth 100000 in
set_option maxHeartbeats 1000000 in
theorem bare_any (s : List UInt8) (hs : s.length ≤ 100000) (w : World) : Calls Tryd.prog 71 #[S s] w fun e w' => e = .returned (S (bareF s)) ∧ w' = w := by
  have HLS : Hid (∀ r w, (Builtin.len_ #[9] 3 #[S r]).run Tryd.prog w = .ok (.int .i64 (r.length : Int)) w) := Lib.hid fun r => run_len_S (P := Tryd.prog) Tryd.underlying9 3 r
  go_enter Tryd.func71, Tryd.ntmps71
  go_wp2
  go_loopw [0] (fun sv wr => ∃ r : List UInt8, r.length ≤ s.length ∧ sv = S r ∧ wr = w ∧ bareF s = bareF r) (fun sv _ => slen sv)
  case atStart => exact ⟨s, Nat.le_refl _, rfl, rfl, rfl⟩
  case round =>
    obtain ⟨r, hr, rfl, rfl, hb⟩ := hrel
    cases r with
    | nil =>
      have HB : Hid (bareF s = backF [] ∧ ([] : List UInt8).length ≤ s.length) := Lib.hid ⟨by rw [hb]; rfl, hr⟩
      have hl0 : ∀ w, (Builtin.len_ #[9] 3 #[S []]).run Tryd.prog w = .ok (.int .i64 0) w := HLS.out []
      clear hb hr
      go_wp2
      go_loopw [0] (fun sv wx => ∃ q : List UInt8, q.length ≤ s.length ∧ sv = S q ∧ wx = wr ∧ bareF s = backF q) (fun sv _ => slen sv)
      case atStart => exact ⟨_, HB.out.2, rfl, rfl, HB.out.1⟩
      case round =>
        obtain ⟨q, hq, rfl, rfl, hb⟩ := hrel
        rcases List.eq_nil_or_concat q with rfl | ⟨p, c, rfl⟩
        · have HN : Hid (bareF s = []) := Lib.hid (by rw [hb]; rfl)
          have hl0 : ∀ w, (Builtin.len_ #[9] 3 #[S []]).run Tryd.prog w = .ok (.int .i64 0) w := HLS.out []
          clear hb
          go_wp2
          go_ret
          exact ⟨by rw [HN.out]; rfl, rfl⟩
        · have hq2 : p.length + 1 ≤ s.length := by simpa using hq
          obtain ⟨u, hu⟩ : ∃ u, u = p ++ [c] := ⟨_, rfl⟩
          obtain ⟨L, hL⟩ : ∃ L, L = p.length := ⟨_, rfl⟩
          have hlu : ∀ w, (Builtin.len_ #[9] 3 #[S u]).run Tryd.prog w = .ok (.int .i64 ((L : Int) + 1)) w := fun w => by
            have := HLS.out u w
            rw [hu, List.length_append, List.length_singleton, ← hL] at this
            rw [hu]; exact this
          have hpos : decide ((0 : Int) < (L : Int) + 1) = true := decide_eq_true (by omega)
          have hpos' : decide (0 < L + 1) = true := decide_eq_true (by omega)
          have hw : wrap64 (L : Int) = (L : Int) := by
            unfold wrap64; omega
          obtain ⟨x, hx⟩ : ∃ x : Nat, x = c.toNat := ⟨_, rfl⟩
          have hidx : ∀ w, (Instr.index 9 (S u) (.int .i64 (L : Int))).run Tryd.prog w = .ok (.int .u8 (x : Int)) w := fun w => by
            rw [hx, hu, hL]
            exact index_S (P := Tryd.prog) Tryd.underlying9 _ p.length c (by simp) w
          have hsl : ∀ w, (Instr.slice 9 (S u) none (some (.int .i64 (L : Int))) none).run Tryd.prog w = .ok (S p) w := fun w => by
            have := slice_take (P := Tryd.prog) Tryd.underlying9 (p ++ [c]) p.length (by simp) w
            rw [List.take_left] at this
            rw [hu, hL]; exact this
          have hsu : slen (S u) = L + 1 := by rw [slen_S, hu, List.length_append, List.length_singleton, hL]
          have hsp : slen (S p) = L := by rw [slen_S, hL]
          have hbf := blank_facts c
          rw [← hx] at hbf
          clear hx
          rcases hbf with ⟨h1, h2, h3⟩ | ⟨h1, h2, h3, h4, h5⟩ | ⟨h1, h2, h3, h4, h5⟩
          · have HN : Hid (bareF s = backF p ∧ p.length ≤ s.length) := Lib.hid ⟨by rw [hb, List.concat_eq_append, backF_end h1], by omega⟩
            rw [List.concat_eq_append, ← hu] at *
            clear hb hu hL hq hq2 h1
            go_wp2
            exact ⟨⟨p, HN.out.2, by first | rfl | trivial, by first | rfl | trivial, HN.out.1⟩, by simp [hsu, hsp]⟩
          · have HN : Hid (bareF s = backF p ∧ p.length ≤ s.length) := Lib.hid ⟨by rw [hb, List.concat_eq_append, backF_end h1], by omega⟩
            rw [List.concat_eq_append, ← hu] at *
            clear hb hu hL hq hq2 h1
            go_wp2
            exact ⟨⟨p, HN.out.2, by first | rfl | trivial, by first | rfl | trivial, HN.out.1⟩, by simp [hsu, hsp]⟩
          · have HN : Hid (bareF s = u) := Lib.hid (by rw [hb, List.concat_eq_append, backF_stop h1, hu])
            rw [List.concat_eq_append, ← hu] at *
            clear hb hu hL hq hq2 h1
            go_wp2
            go_ret
            exact ⟨by rw [HN.out]; rfl, rfl⟩
    | cons c t =>
      obtain ⟨u, hu⟩ : ∃ u, u = c :: t := ⟨_, rfl⟩
      obtain ⟨L, hL⟩ : ∃ L, L = t.length := ⟨_, rfl⟩
      have hlu : ∀ w, (Builtin.len_ #[9] 3 #[S u]).run Tryd.prog w = .ok (.int .i64 ((L : Int) + 1)) w := fun w => by
        have := HLS.out u w
        rw [hu, List.length_cons, ← hL] at this
        rw [hu]; exact this
      have hpos : decide ((0 : Int) < (L : Int) + 1) = true := decide_eq_true (by omega)
      have hpos' : decide (0 < L + 1) = true := decide_eq_true (by omega)
      obtain ⟨x, hx⟩ : ∃ x : Nat, x = c.toNat := ⟨_, rfl⟩
      have hidx : ∀ w, (Instr.index 9 (S u) (.int .i64 0)).run Tryd.prog w = .ok (.int .u8 (x : Int)) w := fun w => by
        rw [hx, hu]
        exact index_S (P := Tryd.prog) Tryd.underlying9 (c :: t) 0 c rfl w
      have hsl : ∀ w, (Instr.slice 9 (S u) (some (.int .i64 1)) none none).run Tryd.prog w = .ok (S t) w := fun w => by
        rw [hu]
        exact slice_drop (P := Tryd.prog) Tryd.underlying9 (c :: t) 1 (by simp) w
      have hsu : slen (S u) = L + 1 := by rw [slen_S, hu, List.length_cons, hL]
      have hst : slen (S t) = L := by rw [slen_S, hL]
      have hbf := blank_facts c
      rw [← hx] at hbf
      clear hx
      rcases hbf with ⟨h1, h2, h3⟩ | ⟨h1, h2, h3, h4, h5⟩ | ⟨h1, h2, h3, h4, h5⟩
      · have HN : Hid (bareF s = bareF t ∧ t.length ≤ s.length) := Lib.hid ⟨by rw [hb, bareF_front h1], by rw [List.length_cons] at hr; omega⟩
        rw [← hu] at *
        clear hb hu hL hr h1
        go_wp2
        exact ⟨⟨t, HN.out.2, by first | rfl | trivial, by first | rfl | trivial, HN.out.1⟩, by simp [hsu, hst]⟩
      · have HN : Hid (bareF s = bareF t ∧ t.length ≤ s.length) := Lib.hid ⟨by rw [hb, bareF_front h1], by rw [List.length_cons] at hr; omega⟩
        rw [← hu] at *
        clear hb hu hL hr h1
        go_wp2
        exact ⟨⟨t, HN.out.2, by first | rfl | trivial, by first | rfl | trivial, HN.out.1⟩, by simp [hsu, hst]⟩
      · have HB : Hid (bareF s = backF u ∧ u.length ≤ s.length) := Lib.hid ⟨by rw [hb, bareF_stop h1, hu], by rw [hu]; exact hr⟩
        rw [← hu] at *
        clear hb hu hL hr h1 hsl hsu hst
        go_wp2
        clear hlu hidx hpos hpos' h2 h3 h4 h5
        go_loopw [0] (fun sv wx => ∃ q : List UInt8, q.length ≤ s.length ∧ sv = S q ∧ wx = wr ∧ bareF s = backF q) (fun sv _ => slen sv)
        case atStart => exact ⟨_, HB.out.2, rfl, rfl, HB.out.1⟩
        case round =>
          obtain ⟨q, hq, rfl, rfl, hb⟩ := hrel
          rcases List.eq_nil_or_concat q with rfl | ⟨p, c, rfl⟩
          · have HN : Hid (bareF s = []) := Lib.hid (by rw [hb]; rfl)
            have hl0 : ∀ w, (Builtin.len_ #[9] 3 #[S []]).run Tryd.prog w = .ok (.int .i64 0) w := HLS.out []
            clear hb
            go_wp2
            go_ret
            exact ⟨by rw [HN.out]; rfl, rfl⟩
          · have hq2 : p.length + 1 ≤ s.length := by simpa using hq
            obtain ⟨u, hu⟩ : ∃ u, u = p ++ [c] := ⟨_, rfl⟩
            obtain ⟨L, hL⟩ : ∃ L, L = p.length := ⟨_, rfl⟩
            have hlu : ∀ w, (Builtin.len_ #[9] 3 #[S u]).run Tryd.prog w = .ok (.int .i64 ((L : Int) + 1)) w := fun w => by
              have := HLS.out u w
              rw [hu, List.length_append, List.length_singleton, ← hL] at this
              rw [hu]; exact this
            have hpos : decide ((0 : Int) < (L : Int) + 1) = true := decide_eq_true (by omega)
            have hpos' : decide (0 < L + 1) = true := decide_eq_true (by omega)
            have hw : wrap64 (L : Int) = (L : Int) := by
              unfold wrap64; omega
            obtain ⟨x, hx⟩ : ∃ x : Nat, x = c.toNat := ⟨_, rfl⟩
            have hidx : ∀ w, (Instr.index 9 (S u) (.int .i64 (L : Int))).run Tryd.prog w = .ok (.int .u8 (x : Int)) w := fun w => by
              rw [hx, hu, hL]
              exact index_S (P := Tryd.prog) Tryd.underlying9 _ p.length c (by simp) w
            have hsl : ∀ w, (Instr.slice 9 (S u) none (some (.int .i64 (L : Int))) none).run Tryd.prog w = .ok (S p) w := fun w => by
              have := slice_take (P := Tryd.prog) Tryd.underlying9 (p ++ [c]) p.length (by simp) w
              rw [List.take_left] at this
              rw [hu, hL]; exact this
            have hsu : slen (S u) = L + 1 := by rw [slen_S, hu, List.length_append, List.length_singleton, hL]
            have hsp : slen (S p) = L := by rw [slen_S, hL]
            have hbf := blank_facts c
            rw [← hx] at hbf
            clear hx
            rcases hbf with ⟨h1, h2, h3⟩ | ⟨h1, h2, h3, h4, h5⟩ | ⟨h1, h2, h3, h4, h5⟩
            · have HN : Hid (bareF s = backF p ∧ p.length ≤ s.length) := Lib.hid ⟨by rw [hb, List.concat_eq_append, backF_end h1], by omega⟩
              rw [List.concat_eq_append, ← hu] at *
              clear hb hu hL hq hq2 h1
              go_wp2
              exact ⟨⟨p, HN.out.2, by first | rfl | trivial, by first | rfl | trivial, HN.out.1⟩, by simp [hsu, hsp]⟩
            · have HN : Hid (bareF s = backF p ∧ p.length ≤ s.length) := Lib.hid ⟨by rw [hb, List.concat_eq_append, backF_end h1], by omega⟩
              rw [List.concat_eq_append, ← hu] at *
              clear hb hu hL hq hq2 h1
              go_wp2
              exact ⟨⟨p, HN.out.2, by first | rfl | trivial, by first | rfl | trivial, HN.out.1⟩, by simp [hsu, hsp]⟩
            · have HN : Hid (bareF s = u) := Lib.hid (by rw [hb, List.concat_eq_append, backF_stop h1, hu])
              rw [List.concat_eq_append, ← hu] at *
              clear hb hu hL hq hq2 h1
              go_wp2
              go_ret
              exact ⟨by rw [HN.out]; rfl, rfl⟩
end Go.Proofs.YtnaekjmlikhglaaDoor
