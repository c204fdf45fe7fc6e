/- The reference's Token, bare and Alike walked. -/
import Derived.Test.YtccccpbaolegcaaDoorF1
namespace Go.Proofs.YtccccpbaolegcaaDoor
open Go.RowKit
attribute [local go_sem] store_one S_match S_store

def tokF (s : List UInt8) : Bool := s.all tokB && decide (0 < s.length)
theorem all_take_next {p : UInt8 → Bool} {s : List UInt8} {i : Nat} {c : UInt8} (hc : s[i]? = some c) (h : (s.take i).all p = true) : (s.take (i + 1)).all p = p c := by
  obtain ⟨hi, rfl⟩ := List.getElem?_eq_some_iff.1 hc
  rw [List.take_succ_eq_append_getElem hi, List.all_append, h]; simp
theorem all_of_take {p : UInt8 → Bool} {s : List UInt8} {i : Nat} (h : (s.take i).all p = false) : s.all p = false := by
  rw [← List.take_append_drop i s, List.all_append, h, Bool.false_and]
set_option maxRecDepth 100000 in
set_option maxHeartbeats 400000 in
theorem token_any (s : List UInt8) (hs : s.length ≤ 100000) (w : World) : Calls Tryd.prog 18 #[S s] w fun e w' => e = .returned (.bool (tokF s)) ∧ w' = w := by
  have hlenS := run_len_S (P := Tryd.prog) Tryd.underlying9 3 s
  go_enter Tryd.func18, Tryd.ntmps18
  go_wp2
  go_loopw [3] (fun iv wr => ∃ i : Nat, i ≤ s.length ∧ iv = .int .i64 (i : Int) ∧ wr = w ∧ (s.take i).all tokB = true) (fun iv _ => s.length - (intOf iv).toNat)
  case atStart => exact ⟨0, by omega, rfl, rfl, rfl⟩
  case round =>
    obtain ⟨i, hi, rfl, rfl, hn⟩ := hrel
    by_cases hlt : i < s.length
    · obtain ⟨c, hc⟩ : ∃ c, s[i]? = some c := ⟨s[i], List.getElem?_eq_getElem hlt⟩
      have hidx : ∀ w, (Instr.index 9 (S s) (.int .i64 (i : Int))).run Tryd.prog w = .ok (B c) w := fun w => index_S (P := Tryd.prog) Tryd.underlying9 s i c hc w
      have hnx := all_take_next hc hn
      clear hn hc
      have hcall := tokens_any c
      cases hb : tokB c with
      | true =>
        rw [hb] at hnx hcall
        have HN := Lib.hid hnx
        clear hnx hb
        go_wp2_with fail
        refine (hcall wr).mono ?_
        rintro e w1 ⟨rfl, hw1⟩
        obtain rfl := hw1.symm
        go_wp2
        exact ⟨⟨i + 1, by omega, by go_num, by trivial, HN.out⟩, by simp [intOf]; omega⟩
      | false =>
        rw [hb] at hnx hcall
        have HN : Hid (tokF s = false) := Lib.hid (by unfold tokF; rw [all_of_take hnx, Bool.false_and])
        clear hnx hb
        go_wp2_with fail
        refine (hcall wr).mono ?_
        rintro e w1 ⟨rfl, hw1⟩
        obtain rfl := hw1.symm
        go_wp2
        go_ret
        exact ⟨by rw [HN.out]; rfl, rfl⟩
    · obtain rfl : i = s.length := by omega
      rw [List.take_length] at hn
      have HN : Hid (tokF s = decide (0 < s.length)) := Lib.hid (by unfold tokF; rw [hn, Bool.true_and])
      clear hn
      by_cases h0 : 0 < s.length
      · have hb : decide ((0 : Int) < (s.length : Int)) = true := decide_eq_true (by omega)
        have hb' : decide (0 < s.length) = true := decide_eq_true h0
        go_wp2
        go_ret
        exact ⟨by rw [HN.out, hb']; rfl, rfl⟩
      · have hb : decide ((0 : Int) < (s.length : Int)) = false := decide_eq_false (by omega)
        have hb' : decide (0 < s.length) = false := decide_eq_false h0
        go_wp2
        go_ret
        exact ⟨by rw [HN.out, hb']; rfl, rfl⟩

def blankB (c : UInt8) : Bool := c.toNat == 9 || c.toNat == 32
def bareF (s : List UInt8) : List UInt8 := ((s.dropWhile blankB).reverse.dropWhile blankB).reverse
theorem bareF_front {c : UInt8} {r : List UInt8} (h : blankB c = true) : bareF (c :: r) = bareF r := by unfold bareF; rw [List.dropWhile_cons, if_pos h]
/-- From behind, where nothing is to be struck at the front. -/
def backF (s : List UInt8) : List UInt8 := (s.reverse.dropWhile blankB).reverse
theorem backF_end {s : List UInt8} {c : UInt8} (h : blankB c = true) : backF (s ++ [c]) = backF s := by unfold backF; rw [List.reverse_append, List.reverse_singleton, List.singleton_append, List.dropWhile_cons, if_pos h]
theorem backF_stop {s : List UInt8} {c : UInt8} (h : blankB c = false) : backF (s ++ [c]) = s ++ [c] := by
  unfold backF
  rw [List.reverse_append, List.reverse_singleton, List.singleton_append, List.dropWhile_cons, if_neg (by rw [h]; exact Bool.false_ne_true)]
  simp
theorem bareF_stop {c : UInt8} {r : List UInt8} (h : blankB c = false) : bareF (c :: r) = backF (c :: r) := by
  unfold bareF backF; rw [List.dropWhile_cons, if_neg (by rw [h]; exact Bool.false_ne_true)]
theorem blank_facts (c : UInt8) : (blankB c = true ∧ ((c.toNat : Int) == 9) = true ∧ (c.toNat == 9) = true) ∨ (blankB c = true ∧ ((c.toNat : Int) == 9) = false ∧ (c.toNat == 9) = false ∧ ((c.toNat : Int) == 32) = true ∧ (c.toNat == 32) = true) ∨
    (blankB c = false ∧ ((c.toNat : Int) == 9) = false ∧ (c.toNat == 9) = false ∧ ((c.toNat : Int) == 32) = false ∧ (c.toNat == 32) = false) := by
  unfold blankB
  have e9 : ((c.toNat : Int) == 9) = (c.toNat == 9) := by rw [Bool.eq_iff_iff, beq_iff_eq, beq_iff_eq]; omega
  have e32 : ((c.toNat : Int) == 32) = (c.toNat == 32) := by rw [Bool.eq_iff_iff, beq_iff_eq, beq_iff_eq]; omega
  rw [e9, e32]
  cases h9 : c.toNat == 9 <;> cases h32 : c.toNat == 32 <;> simp
set_option maxRecDepth 100000 in
set_option maxHeartbeats 1000000 in
theorem bare_any (s : List UInt8) (hs : s.length ≤ 100000) (w : World) : Calls Tryd.prog 32 #[S s] w fun e w' => e = .returned (S (bareF s)) ∧ w' = w := by
  have HLS : Hid (∀ r w, (Builtin.len_ #[9] 3 #[S r]).run Tryd.prog w = .ok (.int .i64 (r.length : Int)) w) := Lib.hid fun r => run_len_S (P := Tryd.prog) Tryd.underlying9 3 r
  go_enter Tryd.func32, Tryd.ntmps32
  go_wp2
  go_loopw [0] (fun sv wr => ∃ r : List UInt8, r.length ≤ s.length ∧ sv = S r ∧ wr = w ∧ bareF s = bareF r) (fun sv _ => slen sv)
  case atStart => exact ⟨s, Nat.le_refl _, rfl, rfl, rfl⟩
  case round =>
    obtain ⟨r, hr, rfl, rfl, hb⟩ := hrel
    cases r with
    | nil =>
      have HB : Hid (bareF s = backF [] ∧ ([] : List UInt8).length ≤ s.length) := Lib.hid ⟨by rw [hb]; rfl, hr⟩
      have hl0 : ∀ w, (Builtin.len_ #[9] 3 #[S []]).run Tryd.prog w = .ok (.int .i64 0) w := HLS.out []
      clear hb hr
      go_wp2
      go_loopw [0] (fun sv wx => ∃ q : List UInt8, q.length ≤ s.length ∧ sv = S q ∧ wx = wr ∧ bareF s = backF q) (fun sv _ => slen sv)
      case atStart => exact ⟨_, HB.out.2, rfl, rfl, HB.out.1⟩
      case round =>
        obtain ⟨q, hq, rfl, rfl, hb⟩ := hrel
        rcases List.eq_nil_or_concat q with rfl | ⟨p, c, rfl⟩
        · have HN : Hid (bareF s = []) := Lib.hid (by rw [hb]; rfl)
          have hl0 : ∀ w, (Builtin.len_ #[9] 3 #[S []]).run Tryd.prog w = .ok (.int .i64 0) w := HLS.out []
          clear hb
          go_wp2
          go_ret
          exact ⟨by rw [HN.out]; rfl, rfl⟩
        · have hq2 : p.length + 1 ≤ s.length := by simpa using hq
          obtain ⟨u, hu⟩ : ∃ u, u = p ++ [c] := ⟨_, rfl⟩
          obtain ⟨L, hL⟩ : ∃ L, L = p.length := ⟨_, rfl⟩
          have hlu : ∀ w, (Builtin.len_ #[9] 3 #[S u]).run Tryd.prog w = .ok (.int .i64 ((L : Int) + 1)) w := fun w => by
            have := HLS.out u w
            rw [hu, List.length_append, List.length_singleton, ← hL] at this
            rw [hu]; exact this
          have hpos : decide ((0 : Int) < (L : Int) + 1) = true := decide_eq_true (by omega)
          have hpos' : decide (0 < L + 1) = true := decide_eq_true (by omega)
          have hw : wrap64 (L : Int) = (L : Int) := by
            unfold wrap64; omega
          obtain ⟨x, hx⟩ : ∃ x : Nat, x = c.toNat := ⟨_, rfl⟩
          have hidx : ∀ w, (Instr.index 9 (S u) (.int .i64 (L : Int))).run Tryd.prog w = .ok (.int .u8 (x : Int)) w := fun w => by
            rw [hx, hu, hL]
            exact index_S (P := Tryd.prog) Tryd.underlying9 _ p.length c (by simp) w
          have hsl : ∀ w, (Instr.slice 9 (S u) none (some (.int .i64 (L : Int))) none).run Tryd.prog w = .ok (S p) w := fun w => by
            have := slice_take (P := Tryd.prog) Tryd.underlying9 (p ++ [c]) p.length (by simp) w
            rw [List.take_left] at this
            rw [hu, hL]; exact this
          have hsu : slen (S u) = L + 1 := by rw [slen_S, hu, List.length_append, List.length_singleton, hL]
          have hsp : slen (S p) = L := by rw [slen_S, hL]
          have hbf := blank_facts c
          rw [← hx] at hbf
          clear hx
          rcases hbf with ⟨h1, h2, h3⟩ | ⟨h1, h2, h3, h4, h5⟩ | ⟨h1, h2, h3, h4, h5⟩
          · have HN : Hid (bareF s = backF p ∧ p.length ≤ s.length) := Lib.hid ⟨by rw [hb, List.concat_eq_append, backF_end h1], by omega⟩
            rw [List.concat_eq_append, ← hu] at *
            clear hb hu hL hq hq2 h1
            go_wp2
            exact ⟨⟨p, HN.out.2, by first | rfl | trivial, by first | rfl | trivial, HN.out.1⟩, by simp [hsu, hsp]⟩
          · have HN : Hid (bareF s = backF p ∧ p.length ≤ s.length) := Lib.hid ⟨by rw [hb, List.concat_eq_append, backF_end h1], by omega⟩
            rw [List.concat_eq_append, ← hu] at *
            clear hb hu hL hq hq2 h1
            go_wp2
            exact ⟨⟨p, HN.out.2, by first | rfl | trivial, by first | rfl | trivial, HN.out.1⟩, by simp [hsu, hsp]⟩
          · have HN : Hid (bareF s = u) := Lib.hid (by rw [hb, List.concat_eq_append, backF_stop h1, hu])
            rw [List.concat_eq_append, ← hu] at *
            clear hb hu hL hq hq2 h1
            go_wp2
            go_ret
            exact ⟨by rw [HN.out]; rfl, rfl⟩
    | cons c t =>
      obtain ⟨u, hu⟩ : ∃ u, u = c :: t := ⟨_, rfl⟩
      obtain ⟨L, hL⟩ : ∃ L, L = t.length := ⟨_, rfl⟩
      have hlu : ∀ w, (Builtin.len_ #[9] 3 #[S u]).run Tryd.prog w = .ok (.int .i64 ((L : Int) + 1)) w := fun w => by
        have := HLS.out u w
        rw [hu, List.length_cons, ← hL] at this
        rw [hu]; exact this
      have hpos : decide ((0 : Int) < (L : Int) + 1) = true := decide_eq_true (by omega)
      have hpos' : decide (0 < L + 1) = true := decide_eq_true (by omega)
      obtain ⟨x, hx⟩ : ∃ x : Nat, x = c.toNat := ⟨_, rfl⟩
      have hidx : ∀ w, (Instr.index 9 (S u) (.int .i64 0)).run Tryd.prog w = .ok (.int .u8 (x : Int)) w := fun w => by
        rw [hx, hu]
        exact index_S (P := Tryd.prog) Tryd.underlying9 (c :: t) 0 c rfl w
      have hsl : ∀ w, (Instr.slice 9 (S u) (some (.int .i64 1)) none none).run Tryd.prog w = .ok (S t) w := fun w => by
        rw [hu]
        exact slice_drop (P := Tryd.prog) Tryd.underlying9 (c :: t) 1 (by simp) w
      have hsu : slen (S u) = L + 1 := by rw [slen_S, hu, List.length_cons, hL]
      have hst : slen (S t) = L := by rw [slen_S, hL]
      have hbf := blank_facts c
      rw [← hx] at hbf
      clear hx
      rcases hbf with ⟨h1, h2, h3⟩ | ⟨h1, h2, h3, h4, h5⟩ | ⟨h1, h2, h3, h4, h5⟩
      · have HN : Hid (bareF s = bareF t ∧ t.length ≤ s.length) := Lib.hid ⟨by rw [hb, bareF_front h1], by rw [List.length_cons] at hr; omega⟩
        rw [← hu] at *
        clear hb hu hL hr h1
        go_wp2
        exact ⟨⟨t, HN.out.2, by first | rfl | trivial, by first | rfl | trivial, HN.out.1⟩, by simp [hsu, hst]⟩
      · have HN : Hid (bareF s = bareF t ∧ t.length ≤ s.length) := Lib.hid ⟨by rw [hb, bareF_front h1], by rw [List.length_cons] at hr; omega⟩
        rw [← hu] at *
        clear hb hu hL hr h1
        go_wp2
        exact ⟨⟨t, HN.out.2, by first | rfl | trivial, by first | rfl | trivial, HN.out.1⟩, by simp [hsu, hst]⟩
      · have HB : Hid (bareF s = backF u ∧ u.length ≤ s.length) := Lib.hid ⟨by rw [hb, bareF_stop h1, hu], by rw [hu]; exact hr⟩
        rw [← hu] at *
        clear hb hu hL hr h1 hsl hsu hst
        go_wp2
        clear hlu hidx hpos hpos' h2 h3 h4 h5
        go_loopw [0] (fun sv wx => ∃ q : List UInt8, q.length ≤ s.length ∧ sv = S q ∧ wx = wr ∧ bareF s = backF q) (fun sv _ => slen sv)
        case atStart => exact ⟨_, HB.out.2, rfl, rfl, HB.out.1⟩
        case round =>
          obtain ⟨q, hq, rfl, rfl, hb⟩ := hrel
          rcases List.eq_nil_or_concat q with rfl | ⟨p, c, rfl⟩
          · have HN : Hid (bareF s = []) := Lib.hid (by rw [hb]; rfl)
            have hl0 : ∀ w, (Builtin.len_ #[9] 3 #[S []]).run Tryd.prog w = .ok (.int .i64 0) w := HLS.out []
            clear hb
            go_wp2
            go_ret
            exact ⟨by rw [HN.out]; rfl, rfl⟩
          · have hq2 : p.length + 1 ≤ s.length := by simpa using hq
            obtain ⟨u, hu⟩ : ∃ u, u = p ++ [c] := ⟨_, rfl⟩
            obtain ⟨L, hL⟩ : ∃ L, L = p.length := ⟨_, rfl⟩
            have hlu : ∀ w, (Builtin.len_ #[9] 3 #[S u]).run Tryd.prog w = .ok (.int .i64 ((L : Int) + 1)) w := fun w => by
              have := HLS.out u w
              rw [hu, List.length_append, List.length_singleton, ← hL] at this
              rw [hu]; exact this
            have hpos : decide ((0 : Int) < (L : Int) + 1) = true := decide_eq_true (by omega)
            have hpos' : decide (0 < L + 1) = true := decide_eq_true (by omega)
            have hw : wrap64 (L : Int) = (L : Int) := by
              unfold wrap64; omega
            obtain ⟨x, hx⟩ : ∃ x : Nat, x = c.toNat := ⟨_, rfl⟩
            have hidx : ∀ w, (Instr.index 9 (S u) (.int .i64 (L : Int))).run Tryd.prog w = .ok (.int .u8 (x : Int)) w := fun w => by
              rw [hx, hu, hL]
              exact index_S (P := Tryd.prog) Tryd.underlying9 _ p.length c (by simp) w
            have hsl : ∀ w, (Instr.slice 9 (S u) none (some (.int .i64 (L : Int))) none).run Tryd.prog w = .ok (S p) w := fun w => by
              have := slice_take (P := Tryd.prog) Tryd.underlying9 (p ++ [c]) p.length (by simp) w
              rw [List.take_left] at this
              rw [hu, hL]; exact this
            have hsu : slen (S u) = L + 1 := by rw [slen_S, hu, List.length_append, List.length_singleton, hL]
            have hsp : slen (S p) = L := by rw [slen_S, hL]
            have hbf := blank_facts c
            rw [← hx] at hbf
            clear hx
            rcases hbf with ⟨h1, h2, h3⟩ | ⟨h1, h2, h3, h4, h5⟩ | ⟨h1, h2, h3, h4, h5⟩
            · have HN : Hid (bareF s = backF p ∧ p.length ≤ s.length) := Lib.hid ⟨by rw [hb, List.concat_eq_append, backF_end h1], by omega⟩
              rw [List.concat_eq_append, ← hu] at *
              clear hb hu hL hq hq2 h1
              go_wp2
              exact ⟨⟨p, HN.out.2, by first | rfl | trivial, by first | rfl | trivial, HN.out.1⟩, by simp [hsu, hsp]⟩
            · have HN : Hid (bareF s = backF p ∧ p.length ≤ s.length) := Lib.hid ⟨by rw [hb, List.concat_eq_append, backF_end h1], by omega⟩
              rw [List.concat_eq_append, ← hu] at *
              clear hb hu hL hq hq2 h1
              go_wp2
              exact ⟨⟨p, HN.out.2, by first | rfl | trivial, by first | rfl | trivial, HN.out.1⟩, by simp [hsu, hsp]⟩
            · have HN : Hid (bareF s = u) := Lib.hid (by rw [hb, List.concat_eq_append, backF_stop h1, hu])
              rw [List.concat_eq_append, ← hu] at *
              clear hb hu hL hq hq2 h1
              go_wp2
              go_ret
              exact ⟨by rw [HN.out]; rfl, rfl⟩
end Go.Proofs.YtccccpbaolegcaaDoor
