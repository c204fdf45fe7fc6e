/- The calls at no buffer; the walk of BufNobody. -/
import Derived.Test.YtgkinbichiahjaaKn1
namespace Go.Proofs.Ytgkinbichiahjaa
open Go.RowKit
attribute [local go_sem] store_one S_match S_store

set_option maxRecDepth 100000 in
set_option maxHeartbeats 400000 in
theorem waiting_nil (w : World) : Calls Try.prog 22 #[.pointer none] w fun e w' => e = .returned (.slice none 0 0) ∧ w' = w := by
  go_enter Try.func22, Try.ntmps22
  go_wp2
  go_ret
  exact ⟨rfl, rfl⟩
theorem waitV_nil (w : World) : WaitV w (.slice none 0 0) [] := ⟨none, 0, rfl, Nat.le_refl _, fun _ => rfl, fun i hi => absurd hi (Nat.not_lt_zero _)⟩
set_option maxRecDepth 100000 in
set_option maxHeartbeats 400000 in
theorem len_nil (w : World) : Calls Try.prog 20 #[.pointer none] w fun e w' => e = .returned (.int .i64 0) ∧ w' = w := by
  have hl := (waitV_nil w).len 3
  go_enter Try.func20, Try.ntmps20
  go_wp2_with fail
  refine (waiting_nil w).mono ?_
  rintro e W1 ⟨rfl, rfl⟩
  go_wp2
  go_ret
  exact ⟨rfl, rfl⟩
set_option maxRecDepth 100000 in
set_option maxHeartbeats 400000 in
theorem room_nil (w : World) : Calls Try.prog 13 #[.pointer none] w fun e w' => e = .returned (.int .i64 0) ∧ w' = w := by
  go_enter Try.func13, Try.ntmps13
  go_wp2
  go_ret
  exact ⟨rfl, rfl⟩
set_option maxRecDepth 100000 in
set_option maxHeartbeats 400000 in
theorem find_nil (s : List UInt8) (w : World) : Calls Try.prog 10 #[.pointer none, S s] w fun e w' => e = .returned (.int .i64 (-1)) ∧ w' = w := by
  go_enter Try.func10, Try.ntmps10
  go_wp2
  go_ret
  exact ⟨rfl, rfl⟩
set_option maxRecDepth 100000 in
set_option maxHeartbeats 400000 in
theorem peek_nil (n : Int) (w : World) : Calls Try.prog 17 #[.pointer none, .int .i64 n] w fun e w' => e = .returned (.string ⟨#[]⟩) ∧ w' = w := by
  have hl := (waitV_nil w).len 3
  obtain ⟨r, hr⟩ : ∃ r, r = (if (0 : Int) < n then (0 : Int) else n) := ⟨_, rfl⟩
  have hmi : ∀ w, (Builtin.min_ #[3, 3] 3 #[.int .i64 n, .int .i64 0]).run Try.prog w = .ok (.int .i64 r) w := fun w => by
    rw [run_min_int2, hr]
  have hmx : ∀ w, (Builtin.max_ #[3, 3] 3 #[.int .i64 0, .int .i64 r]).run Try.prog w = .ok (.int .i64 0) w := fun w => by
    rw [run_max_int2, if_neg (by rw [hr]; split <;> omega)]
  obtain ⟨V', hs, hc⟩ := (waitV_nil w).take 0 (Nat.le_refl _)
  have hc1 : (convert 38 9 V').run Try.prog w = .ok (.string ⟨#[]⟩) w := hc w (Drawn.refl _)
  clear hc hr
  go_enter Try.func17, Try.ntmps17
  go_wp2_with fail
  refine (waiting_nil w).mono ?_
  rintro e W1 ⟨rfl, hw⟩
  have hw' := hw.symm
  subst hw'
  have hcn : ∀ w, (convert 38 9 (.slice none 0 0)).run Try.prog w = .ok (.string ⟨#[]⟩) w := fun w => run_convert_bytes_nil (w := w) 38 5 Try.underlying38 Try.underlying5 0 0 9 Try.underlying9
  go_wp2
  go_ret
  exact ⟨rfl, rfl⟩
set_option maxRecDepth 100000 in
set_option maxHeartbeats 400000 in
theorem read_nil (n : Int) (w : World) : Calls Try.prog 11 #[.pointer none, .int .i64 n] w fun e w' => e = .returned (.string ⟨#[]⟩) ∧ w' = w := by
  go_enter Try.func11, Try.ntmps11
  go_wp2_with fail
  refine (peek_nil n w).mono ?_
  rintro e W1 ⟨rfl, rfl⟩
  go_wp2
  go_ret
  exact ⟨rfl, rfl⟩
set_option maxRecDepth 100000 in
set_option maxHeartbeats 400000 in
theorem write_nil (s : List UInt8) (w : World) : Calls Try.prog 9 #[.pointer none, S s] w fun e w' => e = .returned (.int .i64 0) ∧ w' = w := by
  have hlenS := run_len_S (P := Try.prog) Try.underlying9 3 s
  have hmi : ∀ w, (Builtin.min_ #[3, 3] 3 #[.int .i64 (s.length : Int), .int .i64 0]).run Try.prog w = .ok (.int .i64 0) w := fun w => by
    rw [run_min_int2]
    congr 2
    split <;> omega
  go_enter Try.func9, Try.ntmps9
  go_wp2_with fail
  refine (room_nil w).mono ?_
  rintro e W1 ⟨rfl, rfl⟩
  go_wp2
  go_ret
  exact ⟨rfl, rfl⟩

/-- A buffer that New did not make. -/
theorem bare_buf (w : World) : BufAt (w.alloc (.cells #[.bool false, .int .i64 0, .slice none 0 0, .int .i64 0] 40)) w.heap.size (Under w.heap.size) false 0 [] :=
  ⟨⟨.slice none 0 0, [], ⟨row_new w _ _, World.ownsRow_nil _ 0 5 1⟩, fun k hk => (by cases hk), Nat.le_refl _⟩, Nat.le_refl _, Nat.zero_le _, fun k hk => by unfold Under at hk; simp; omega⟩
theorem peekF_nil (n : Int) : peekF [] n = [] := by unfold peekF; split <;> simp

set_option maxRecDepth 100000 in
set_option maxHeartbeats 2000000 in
theorem nobody_any (s : List UInt8) (n : Int) (w : World) (hm : MaxAt w) : Calls Try.prog 5 #[S s, .int .i64 n] w fun e w' => e = .returned (.bool true) ∧ Below w.heap.size w w' := by
  have hlenS := run_len_S (P := Try.prog) Try.underlying9 3 s
  go_enter Try.func5, Try.ntmps5
  go_wp2_with fail
  refine (awake_any w hm).mono ?_
  rintro e W1 ⟨rfl, hB⟩
  have HB := Lib.hid hB
  clear hB
  by_cases h1 : 2000 < s.length
  · have hb : decide ((2000 : Int) < (s.length : Int)) = true := decide_eq_true (by omega)
    go_wp2
    go_ret
    exact ⟨rfl, HB.out⟩
  have hb : decide ((2000 : Int) < (s.length : Int)) = false := decide_eq_false (by omega)
  have hb0 := bare_buf W1
  have HL : Hid (s.length ≤ maxLen) := Lib.hid (by simp only [maxLen]; omega)
  have H0 : Hid (BufAt (W1.alloc (.cells #[.bool false, .int .i64 0, .slice none 0 0, .int .i64 0] 40)) W1.heap.size (Under W1.heap.size) false 0 [] ∧ Below w.heap.size w (W1.alloc (.cells #[.bool false, .int .i64 0, .slice none 0 0, .int .i64 0] 40))) :=
    Lib.hid ⟨hb0, HB.out.alloc HB.out.size _⟩
  have HG : Hid (w.heap.size ≤ W1.heap.size) := Lib.hid HB.out.size
  clear hb0
  go_wp2_with fail
  generalize W1.alloc (.cells #[.bool false, .int .i64 0, .slice none 0 0, .int .i64 0] 40) = Wb at *
  generalize W1.heap.size = g at *
  refine (write_nil s _).mono ?_
  rintro e w' ⟨rfl, hw⟩
  have hw2 := hw.symm
  subst hw2
  clear hw
  go_wp2_with fail
  refine (read_nil n _).mono ?_
  rintro e w' ⟨rfl, hw⟩
  have hw2 := hw.symm
  subst hw2
  clear hw
  go_wp2_with fail
  refine (peek_nil n _).mono ?_
  rintro e w' ⟨rfl, hw⟩
  have hw2 := hw.symm
  subst hw2
  clear hw
  go_wp2_with fail
  refine (find_nil s _).mono ?_
  rintro e w' ⟨rfl, hw⟩
  have hw2 := hw.symm
  subst hw2
  clear hw
  go_wp2_with fail
  refine (len_nil _).mono ?_
  rintro e w' ⟨rfl, hw⟩
  have hw2 := hw.symm
  subst hw2
  clear hw
  go_wp2_with fail
  refine (room_nil _).mono ?_
  rintro e w' ⟨rfl, hw⟩
  have hw2 := hw.symm
  subst hw2
  clear hw
  go_wp2_with fail
  have h1 : Calls Try.prog 9 #[.pointer (some ⟨g, 0, none⟩), S s] Wb fun e w' => e = .returned (.int .i64 0) ∧ BufAt w' g (Under g) false 0 [] ∧ Spare g (Under g) Wb w' := by
    have := write_any g (Under g) false 0 [] s Wb H0.out.1 HL.out
    rw [show min s.length (0 - ([] : List UInt8).length) = 0 from Nat.min_zero _, show ([] : List UInt8) ++ s.take (0 - ([] : List UInt8).length) = [] by simp] at this
    exact this
  refine h1.mono ?_
  rintro e V1 ⟨rfl, b, s'⟩
  have K1 : Hid (BufAt V1 g (Under g) false 0 [] ∧ Below w.heap.size w V1) := Lib.hid ⟨b, H0.out.2.trans ((s'.below (Nat.le_refl _)).mono HG.out)⟩
  clear h1
  go_wp2_with fail
  have h2 : Calls Try.prog 11 #[.pointer (some ⟨g, 0, none⟩), .int .i64 n] V1 fun e w' => e = .returned (.string ⟨#[]⟩) ∧ BufAt w' g (Under g) false 0 [] ∧ Spare g (Under g) V1 w' := by
    have := read_any g (Under g) false 0 [] n V1 K1.out.1
    rw [peekF_nil] at this
    exact this
  refine h2.mono ?_
  rintro e V2 ⟨rfl, b, s'⟩
  have K2 : Hid (BufAt V2 g (Under g) false 0 [] ∧ Below w.heap.size w V2) := Lib.hid ⟨b, K1.out.2.trans ((s'.below (Nat.le_refl _)).mono HG.out)⟩
  clear h2
  go_wp2_with fail
  have h3 : Calls Try.prog 17 #[.pointer (some ⟨g, 0, none⟩), .int .i64 n] V2 fun e w' => e = .returned (.string ⟨#[]⟩) ∧ Drawn V2 w' := by
    have := peek_any g (Under g) false 0 [] n V2 K2.out.1
    rw [peekF_nil] at this
    exact this
  refine h3.mono ?_
  rintro e V3 ⟨rfl, s'⟩
  have K3 : Hid (BufAt V3 g (Under g) false 0 [] ∧ Below w.heap.size w V3) := Lib.hid ⟨K2.out.1.drawn s', K2.out.2.trans (((Spare.of_drawn (g := g) (A := Under g) s').below (Nat.le_refl _)).mono HG.out)⟩
  clear h3
  go_wp2_with fail
  have h4 : Calls Try.prog 10 #[.pointer (some ⟨g, 0, none⟩), S s] V3 fun e w' => e = .returned (.int .i64 (-1)) ∧ Drawn V3 w' := (find_bare g (Under g) 0 [] s V3 K3.out.1).mono fun e w' ⟨he, hw⟩ => ⟨he, 0, hw⟩
  refine h4.mono ?_
  rintro e V4 ⟨rfl, s'⟩
  have K4 : Hid (BufAt V4 g (Under g) false 0 [] ∧ Below w.heap.size w V4) := Lib.hid ⟨K3.out.1.drawn s', K3.out.2.trans (((Spare.of_drawn (g := g) (A := Under g) s').below (Nat.le_refl _)).mono HG.out)⟩
  clear h4
  go_wp2_with fail
  have h5 : Calls Try.prog 20 #[.pointer (some ⟨g, 0, none⟩)] V4 fun e w' => e = .returned (.int .i64 0) ∧ Drawn V4 w' := len_any g (Under g) false 0 [] V4 K4.out.1
  refine h5.mono ?_
  rintro e V5 ⟨rfl, s'⟩
  have K5 : Hid (BufAt V5 g (Under g) false 0 [] ∧ Below w.heap.size w V5) := Lib.hid ⟨K4.out.1.drawn s', K4.out.2.trans (((Spare.of_drawn (g := g) (A := Under g) s').below (Nat.le_refl _)).mono HG.out)⟩
  clear h5
  go_wp2_with fail
  have h6 : Calls Try.prog 13 #[.pointer (some ⟨g, 0, none⟩)] V5 fun e w' => e = .returned (.int .i64 0) ∧ Drawn V5 w' := room_any g (Under g) false 0 [] V5 K5.out.1
  refine h6.mono ?_
  rintro e V6 ⟨rfl, s'⟩
  have K6 : Hid (BufAt V6 g (Under g) false 0 [] ∧ Below w.heap.size w V6) := Lib.hid ⟨K5.out.1.drawn s', K5.out.2.trans (((Spare.of_drawn (g := g) (A := Under g) s').below (Nat.le_refl _)).mono HG.out)⟩
  clear h6
  go_wp2
  go_ret
  exact ⟨rfl, K6.out.2⟩
end Go.Proofs.Ytgkinbichiahjaa
