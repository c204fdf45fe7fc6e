/- The document's token and plain (stage 13) walked. (mkkn.py writes it.) -/
import Derived.Test.YtbnlkjoblngakaaDoorKl
import Derived.Test.YtbnlkjoblngakaaDoorQb
namespace Go.Proofs.YtbnlkjoblngakaaDoor
open Go.RowKit Go.Shelf
attribute [local go_sem] store_one S_match S_store eguard_BN nguard_BN

theorem all_bytes13 {p : UInt8 → Bool} (h : ∀ n : Fin 256, p (UInt8.ofNat n.1) = true) (c : UInt8) : p c = true := by
  have := h ⟨c.toNat, c.toNat_lt⟩
  simpa using this
theorem tok_iff (c : UInt8) : tokB c = (decide (97 ≤ c.toNat ∧ c.toNat ≤ 122) || decide (65 ≤ c.toNat ∧ c.toNat ≤ 90) || decide (48 ≤ c.toNat ∧ c.toNat ≤ 57) || [33, 35, 36, 37, 38, 39, 42, 43, 45, 46, 94, 95, 96, 124, 126].contains c.toNat) := by
  have := all_bytes13 (p := fun c => tokB c == (decide (97 ≤ c.toNat ∧ c.toNat ≤ 122) || decide (65 ≤ c.toNat ∧ c.toNat ≤ 90) || decide (48 ≤ c.toNat ∧ c.toNat ≤ 57) || [33, 35, 36, 37, 38, 39, 42, 43, 45, 46, 94, 95, 96, 124, 126].contains c.toNat)) (by decide +kernel) c
  exact beq_iff_eq.1 this
theorem nonempty_S (s : List UInt8) : binOp .neq 9 (S s) (.string ⟨#[]⟩) = pure (.bool (decide (0 < s.length))) := by
  rw [show Value.string ⟨#[]⟩ = S [] from rfl, neql_S]
  cases s <;> rfl
theorem empty_S (s : List UInt8) : binOp .eql 9 (S s) (.string ⟨#[]⟩) = pure (.bool (!decide (0 < s.length))) := by
  rw [show Value.string ⟨#[]⟩ = S [] from rfl, eql_S]
  cases s <;> rfl
theorem nguard_E (s : List UInt8) (x y : Operand) : eqGuard .neq 9 x y (S s) (.string ⟨#[]⟩) = pure () := rfl
theorem eguard_E (s : List UInt8) (x y : Operand) : eqGuard .eql 9 x y (S s) (.string ⟨#[]⟩) = pure () := rfl

set_option maxRecDepth 100000 in
set_option maxHeartbeats 4000000 in
theorem token13_any (s : List UInt8) (hs : s.length ≤ 100000) (w : World) : Calls Tryd.prog 27 #[S s] w fun e w' => e = .returned (.bool (tokF s)) ∧ w' = w := by
  have hlenS := run_len_S (P := Tryd.prog) Tryd.underlying9 3 s
  go_enter Tryd.func27, Tryd.ntmps27
  go_wp2
  go_loopw [3] (fun iv wr => ∃ i : Nat, i ≤ s.length ∧ iv = .int .i64 (i : Int) ∧ wr = w ∧ (s.take i).all tokB = true) (fun iv _ => s.length - (intOf iv).toNat)
  case atStart => exact ⟨0, by omega, rfl, rfl, rfl⟩
  case round =>
    obtain ⟨i, hi, rfl, rfl, hn⟩ := hrel
    by_cases hlt : i < s.length
    · obtain ⟨c, hc⟩ : ∃ c, s[i]? = some c := ⟨s[i], List.getElem?_eq_getElem hlt⟩
      have hidx : ∀ w, (Instr.index 9 (S s) (.int .i64 (i : Int))).run Tryd.prog w = .ok (B c) w := fun w => index_S (P := Tryd.prog) Tryd.underlying9 s i c hc w
      have hnx := all_take_next hc hn
      clear hn hc
      have hti := tok_iff c
      by_cases hA : 97 ≤ c.toNat ∧ c.toNat ≤ 122
      · obtain ⟨hA1, hA2⟩ := hA
        have h1 := B_geq 5 c 97
        rw [decide_eq_true (by omega)] at h1
        have h2 := B_leq 5 c 122
        rw [decide_eq_true (by omega)] at h2
        have HN : Hid ((s.take (i + 1)).all tokB = true) := Lib.hid (by rw [hnx, hti]; simp; omega)
        clear hnx hti hA1 hA2
        go_wp2
        exact ⟨⟨i + 1, by omega, by go_num, by trivial, HN.out⟩, by simp [intOf]; omega⟩
      by_cases hB : 65 ≤ c.toNat ∧ c.toNat ≤ 90
      · obtain ⟨hB1, hB2⟩ := hB
        have h1 := B_geq 5 c 97
        rw [decide_eq_false (by omega)] at h1
        have h3 := B_geq 5 c 65
        rw [decide_eq_true (by omega)] at h3
        have h4 := B_leq 5 c 90
        rw [decide_eq_true (by omega)] at h4
        have HN : Hid ((s.take (i + 1)).all tokB = true) := Lib.hid (by rw [hnx, hti]; simp; omega)
        clear hnx hti hA hB1 hB2
        go_wp2
        exact ⟨⟨i + 1, by omega, by go_num, by trivial, HN.out⟩, by simp [intOf]; omega⟩
      by_cases hD : 48 ≤ c.toNat ∧ c.toNat ≤ 57
      · obtain ⟨hD1, hD2⟩ := hD
        have h1 := B_geq 5 c 97
        rw [decide_eq_false (by omega)] at h1
        have h3 := B_geq 5 c 65
        rw [decide_eq_false (by omega)] at h3
        have h5 := B_geq 5 c 48
        rw [decide_eq_true (by omega)] at h5
        have h6 := B_leq 5 c 57
        rw [decide_eq_true (by omega)] at h6
        have HN : Hid ((s.take (i + 1)).all tokB = true) := Lib.hid (by rw [hnx, hti]; simp; omega)
        clear hnx hti hA hB hD1 hD2
        go_wp2
        exact ⟨⟨i + 1, by omega, by go_num, by trivial, HN.out⟩, by simp [intOf]; omega⟩
      by_cases hk33 : c.toNat = 33
      · clear hA hB hD
        have h1 := B_geq 5 c 97
        rw [decide_eq_false (by omega)] at h1
        have h3 := B_geq 5 c 65
        rw [decide_eq_false (by omega)] at h3
        have h5 := B_geq 5 c 48
        rw [decide_eq_false (by omega)] at h5
        have q33 := B_eqlN 5 c 33
        rw [beq_iff_eq.2 (by omega)] at q33
        have HN : Hid ((s.take (i + 1)).all tokB = true) := Lib.hid (by rw [hnx, hti, hk33]; rfl)
        clear hnx hti hk33
        go_wp2
        exact ⟨⟨i + 1, by omega, by go_num, by trivial, HN.out⟩, by simp [intOf]; omega⟩
      by_cases hk35 : c.toNat = 35
      · clear hA hB hD hk33
        have h1 := B_geq 5 c 97
        rw [decide_eq_false (by omega)] at h1
        have h3 := B_geq 5 c 65
        rw [decide_eq_false (by omega)] at h3
        have h5 := B_geq 5 c 48
        rw [decide_eq_false (by omega)] at h5
        have q33 := B_eqlN 5 c 33
        rw [beq_eq_false_iff_ne.2 (by omega)] at q33
        have q35 := B_eqlN 5 c 35
        rw [beq_iff_eq.2 (by omega)] at q35
        have HN : Hid ((s.take (i + 1)).all tokB = true) := Lib.hid (by rw [hnx, hti, hk35]; rfl)
        clear hnx hti hk35
        go_wp2
        exact ⟨⟨i + 1, by omega, by go_num, by trivial, HN.out⟩, by simp [intOf]; omega⟩
      by_cases hk36 : c.toNat = 36
      · clear hA hB hD hk33 hk35
        have h1 := B_geq 5 c 97
        rw [decide_eq_false (by omega)] at h1
        have h3 := B_geq 5 c 65
        rw [decide_eq_false (by omega)] at h3
        have h5 := B_geq 5 c 48
        rw [decide_eq_false (by omega)] at h5
        have q33 := B_eqlN 5 c 33
        rw [beq_eq_false_iff_ne.2 (by omega)] at q33
        have q35 := B_eqlN 5 c 35
        rw [beq_eq_false_iff_ne.2 (by omega)] at q35
        have q36 := B_eqlN 5 c 36
        rw [beq_iff_eq.2 (by omega)] at q36
        have HN : Hid ((s.take (i + 1)).all tokB = true) := Lib.hid (by rw [hnx, hti, hk36]; rfl)
        clear hnx hti hk36
        go_wp2
        exact ⟨⟨i + 1, by omega, by go_num, by trivial, HN.out⟩, by simp [intOf]; omega⟩
      by_cases hk37 : c.toNat = 37
      · clear hA hB hD hk33 hk35 hk36
        have h1 := B_geq 5 c 97
        rw [decide_eq_false (by omega)] at h1
        have h3 := B_geq 5 c 65
        rw [decide_eq_false (by omega)] at h3
        have h5 := B_geq 5 c 48
        rw [decide_eq_false (by omega)] at h5
        have q33 := B_eqlN 5 c 33
        rw [beq_eq_false_iff_ne.2 (by omega)] at q33
        have q35 := B_eqlN 5 c 35
        rw [beq_eq_false_iff_ne.2 (by omega)] at q35
        have q36 := B_eqlN 5 c 36
        rw [beq_eq_false_iff_ne.2 (by omega)] at q36
        have q37 := B_eqlN 5 c 37
        rw [beq_iff_eq.2 (by omega)] at q37
        have HN : Hid ((s.take (i + 1)).all tokB = true) := Lib.hid (by rw [hnx, hti, hk37]; rfl)
        clear hnx hti hk37
        go_wp2
        exact ⟨⟨i + 1, by omega, by go_num, by trivial, HN.out⟩, by simp [intOf]; omega⟩
      by_cases hk38 : c.toNat = 38
      · clear hA hB hD hk33 hk35 hk36 hk37
        have h1 := B_geq 5 c 97
        rw [decide_eq_false (by omega)] at h1
        have h3 := B_geq 5 c 65
        rw [decide_eq_false (by omega)] at h3
        have h5 := B_geq 5 c 48
        rw [decide_eq_false (by omega)] at h5
        have q33 := B_eqlN 5 c 33
        rw [beq_eq_false_iff_ne.2 (by omega)] at q33
        have q35 := B_eqlN 5 c 35
        rw [beq_eq_false_iff_ne.2 (by omega)] at q35
        have q36 := B_eqlN 5 c 36
        rw [beq_eq_false_iff_ne.2 (by omega)] at q36
        have q37 := B_eqlN 5 c 37
        rw [beq_eq_false_iff_ne.2 (by omega)] at q37
        have q38 := B_eqlN 5 c 38
        rw [beq_iff_eq.2 (by omega)] at q38
        have HN : Hid ((s.take (i + 1)).all tokB = true) := Lib.hid (by rw [hnx, hti, hk38]; rfl)
        clear hnx hti hk38
        go_wp2
        exact ⟨⟨i + 1, by omega, by go_num, by trivial, HN.out⟩, by simp [intOf]; omega⟩
      by_cases hk39 : c.toNat = 39
      · clear hA hB hD hk33 hk35 hk36 hk37 hk38
        have h1 := B_geq 5 c 97
        rw [decide_eq_false (by omega)] at h1
        have h3 := B_geq 5 c 65
        rw [decide_eq_false (by omega)] at h3
        have h5 := B_geq 5 c 48
        rw [decide_eq_false (by omega)] at h5
        have q33 := B_eqlN 5 c 33
        rw [beq_eq_false_iff_ne.2 (by omega)] at q33
        have q35 := B_eqlN 5 c 35
        rw [beq_eq_false_iff_ne.2 (by omega)] at q35
        have q36 := B_eqlN 5 c 36
        rw [beq_eq_false_iff_ne.2 (by omega)] at q36
        have q37 := B_eqlN 5 c 37
        rw [beq_eq_false_iff_ne.2 (by omega)] at q37
        have q38 := B_eqlN 5 c 38
        rw [beq_eq_false_iff_ne.2 (by omega)] at q38
        have q39 := B_eqlN 5 c 39
        rw [beq_iff_eq.2 (by omega)] at q39
        have HN : Hid ((s.take (i + 1)).all tokB = true) := Lib.hid (by rw [hnx, hti, hk39]; rfl)
        clear hnx hti hk39
        go_wp2
        exact ⟨⟨i + 1, by omega, by go_num, by trivial, HN.out⟩, by simp [intOf]; omega⟩
      by_cases hk42 : c.toNat = 42
      · clear hA hB hD hk33 hk35 hk36 hk37 hk38 hk39
        have h1 := B_geq 5 c 97
        rw [decide_eq_false (by omega)] at h1
        have h3 := B_geq 5 c 65
        rw [decide_eq_false (by omega)] at h3
        have h5 := B_geq 5 c 48
        rw [decide_eq_false (by omega)] at h5
        have q33 := B_eqlN 5 c 33
        rw [beq_eq_false_iff_ne.2 (by omega)] at q33
        have q35 := B_eqlN 5 c 35
        rw [beq_eq_false_iff_ne.2 (by omega)] at q35
        have q36 := B_eqlN 5 c 36
        rw [beq_eq_false_iff_ne.2 (by omega)] at q36
        have q37 := B_eqlN 5 c 37
        rw [beq_eq_false_iff_ne.2 (by omega)] at q37
        have q38 := B_eqlN 5 c 38
        rw [beq_eq_false_iff_ne.2 (by omega)] at q38
        have q39 := B_eqlN 5 c 39
        rw [beq_eq_false_iff_ne.2 (by omega)] at q39
        have q42 := B_eqlN 5 c 42
        rw [beq_iff_eq.2 (by omega)] at q42
        have HN : Hid ((s.take (i + 1)).all tokB = true) := Lib.hid (by rw [hnx, hti, hk42]; rfl)
        clear hnx hti hk42
        go_wp2
        exact ⟨⟨i + 1, by omega, by go_num, by trivial, HN.out⟩, by simp [intOf]; omega⟩
      by_cases hk43 : c.toNat = 43
      · clear hA hB hD hk33 hk35 hk36 hk37 hk38 hk39 hk42
        have h1 := B_geq 5 c 97
        rw [decide_eq_false (by omega)] at h1
        have h3 := B_geq 5 c 65
        rw [decide_eq_false (by omega)] at h3
        have h5 := B_geq 5 c 48
        rw [decide_eq_false (by omega)] at h5
        have q33 := B_eqlN 5 c 33
        rw [beq_eq_false_iff_ne.2 (by omega)] at q33
        have q35 := B_eqlN 5 c 35
        rw [beq_eq_false_iff_ne.2 (by omega)] at q35
        have q36 := B_eqlN 5 c 36
        rw [beq_eq_false_iff_ne.2 (by omega)] at q36
        have q37 := B_eqlN 5 c 37
        rw [beq_eq_false_iff_ne.2 (by omega)] at q37
        have q38 := B_eqlN 5 c 38
        rw [beq_eq_false_iff_ne.2 (by omega)] at q38
        have q39 := B_eqlN 5 c 39
        rw [beq_eq_false_iff_ne.2 (by omega)] at q39
        have q42 := B_eqlN 5 c 42
        rw [beq_eq_false_iff_ne.2 (by omega)] at q42
        have q43 := B_eqlN 5 c 43
        rw [beq_iff_eq.2 (by omega)] at q43
        have HN : Hid ((s.take (i + 1)).all tokB = true) := Lib.hid (by rw [hnx, hti, hk43]; rfl)
        clear hnx hti hk43
        go_wp2
        exact ⟨⟨i + 1, by omega, by go_num, by trivial, HN.out⟩, by simp [intOf]; omega⟩
      by_cases hk45 : c.toNat = 45
      · clear hA hB hD hk33 hk35 hk36 hk37 hk38 hk39 hk42 hk43
        have h1 := B_geq 5 c 97
        rw [decide_eq_false (by omega)] at h1
        have h3 := B_geq 5 c 65
        rw [decide_eq_false (by omega)] at h3
        have h5 := B_geq 5 c 48
        rw [decide_eq_false (by omega)] at h5
        have q33 := B_eqlN 5 c 33
        rw [beq_eq_false_iff_ne.2 (by omega)] at q33
        have q35 := B_eqlN 5 c 35
        rw [beq_eq_false_iff_ne.2 (by omega)] at q35
        have q36 := B_eqlN 5 c 36
        rw [beq_eq_false_iff_ne.2 (by omega)] at q36
        have q37 := B_eqlN 5 c 37
        rw [beq_eq_false_iff_ne.2 (by omega)] at q37
        have q38 := B_eqlN 5 c 38
        rw [beq_eq_false_iff_ne.2 (by omega)] at q38
        have q39 := B_eqlN 5 c 39
        rw [beq_eq_false_iff_ne.2 (by omega)] at q39
        have q42 := B_eqlN 5 c 42
        rw [beq_eq_false_iff_ne.2 (by omega)] at q42
        have q43 := B_eqlN 5 c 43
        rw [beq_eq_false_iff_ne.2 (by omega)] at q43
        have q45 := B_eqlN 5 c 45
        rw [beq_iff_eq.2 (by omega)] at q45
        have HN : Hid ((s.take (i + 1)).all tokB = true) := Lib.hid (by rw [hnx, hti, hk45]; rfl)
        clear hnx hti hk45
        go_wp2
        exact ⟨⟨i + 1, by omega, by go_num, by trivial, HN.out⟩, by simp [intOf]; omega⟩
      by_cases hk46 : c.toNat = 46
      · clear hA hB hD hk33 hk35 hk36 hk37 hk38 hk39 hk42 hk43 hk45
        have h1 := B_geq 5 c 97
        rw [decide_eq_false (by omega)] at h1
        have h3 := B_geq 5 c 65
        rw [decide_eq_false (by omega)] at h3
        have h5 := B_geq 5 c 48
        rw [decide_eq_false (by omega)] at h5
        have q33 := B_eqlN 5 c 33
        rw [beq_eq_false_iff_ne.2 (by omega)] at q33
        have q35 := B_eqlN 5 c 35
        rw [beq_eq_false_iff_ne.2 (by omega)] at q35
        have q36 := B_eqlN 5 c 36
        rw [beq_eq_false_iff_ne.2 (by omega)] at q36
        have q37 := B_eqlN 5 c 37
        rw [beq_eq_false_iff_ne.2 (by omega)] at q37
        have q38 := B_eqlN 5 c 38
        rw [beq_eq_false_iff_ne.2 (by omega)] at q38
        have q39 := B_eqlN 5 c 39
        rw [beq_eq_false_iff_ne.2 (by omega)] at q39
        have q42 := B_eqlN 5 c 42
        rw [beq_eq_false_iff_ne.2 (by omega)] at q42
        have q43 := B_eqlN 5 c 43
        rw [beq_eq_false_iff_ne.2 (by omega)] at q43
        have q45 := B_eqlN 5 c 45
        rw [beq_eq_false_iff_ne.2 (by omega)] at q45
        have q46 := B_eqlN 5 c 46
        rw [beq_iff_eq.2 (by omega)] at q46
        have HN : Hid ((s.take (i + 1)).all tokB = true) := Lib.hid (by rw [hnx, hti, hk46]; rfl)
        clear hnx hti hk46
        go_wp2
        exact ⟨⟨i + 1, by omega, by go_num, by trivial, HN.out⟩, by simp [intOf]; omega⟩
      by_cases hk94 : c.toNat = 94
      · clear hA hB hD hk33 hk35 hk36 hk37 hk38 hk39 hk42 hk43 hk45 hk46
        have h1 := B_geq 5 c 97
        rw [decide_eq_false (by omega)] at h1
        have h3 := B_geq 5 c 65
        rw [decide_eq_true (by omega)] at h3
        have h4 := B_leq 5 c 90
        rw [decide_eq_false (by omega)] at h4
        have h5 := B_geq 5 c 48
        rw [decide_eq_true (by omega)] at h5
        have h6 := B_leq 5 c 57
        rw [decide_eq_false (by omega)] at h6
        have q33 := B_eqlN 5 c 33
        rw [beq_eq_false_iff_ne.2 (by omega)] at q33
        have q35 := B_eqlN 5 c 35
        rw [beq_eq_false_iff_ne.2 (by omega)] at q35
        have q36 := B_eqlN 5 c 36
        rw [beq_eq_false_iff_ne.2 (by omega)] at q36
        have q37 := B_eqlN 5 c 37
        rw [beq_eq_false_iff_ne.2 (by omega)] at q37
        have q38 := B_eqlN 5 c 38
        rw [beq_eq_false_iff_ne.2 (by omega)] at q38
        have q39 := B_eqlN 5 c 39
        rw [beq_eq_false_iff_ne.2 (by omega)] at q39
        have q42 := B_eqlN 5 c 42
        rw [beq_eq_false_iff_ne.2 (by omega)] at q42
        have q43 := B_eqlN 5 c 43
        rw [beq_eq_false_iff_ne.2 (by omega)] at q43
        have q45 := B_eqlN 5 c 45
        rw [beq_eq_false_iff_ne.2 (by omega)] at q45
        have q46 := B_eqlN 5 c 46
        rw [beq_eq_false_iff_ne.2 (by omega)] at q46
        have q94 := B_eqlN 5 c 94
        rw [beq_iff_eq.2 (by omega)] at q94
        have HN : Hid ((s.take (i + 1)).all tokB = true) := Lib.hid (by rw [hnx, hti, hk94]; rfl)
        clear hnx hti hk94
        go_wp2
        exact ⟨⟨i + 1, by omega, by go_num, by trivial, HN.out⟩, by simp [intOf]; omega⟩
      by_cases hk95 : c.toNat = 95
      · clear hA hB hD hk33 hk35 hk36 hk37 hk38 hk39 hk42 hk43 hk45 hk46 hk94
        have h1 := B_geq 5 c 97
        rw [decide_eq_false (by omega)] at h1
        have h3 := B_geq 5 c 65
        rw [decide_eq_true (by omega)] at h3
        have h4 := B_leq 5 c 90
        rw [decide_eq_false (by omega)] at h4
        have h5 := B_geq 5 c 48
        rw [decide_eq_true (by omega)] at h5
        have h6 := B_leq 5 c 57
        rw [decide_eq_false (by omega)] at h6
        have q33 := B_eqlN 5 c 33
        rw [beq_eq_false_iff_ne.2 (by omega)] at q33
        have q35 := B_eqlN 5 c 35
        rw [beq_eq_false_iff_ne.2 (by omega)] at q35
        have q36 := B_eqlN 5 c 36
        rw [beq_eq_false_iff_ne.2 (by omega)] at q36
        have q37 := B_eqlN 5 c 37
        rw [beq_eq_false_iff_ne.2 (by omega)] at q37
        have q38 := B_eqlN 5 c 38
        rw [beq_eq_false_iff_ne.2 (by omega)] at q38
        have q39 := B_eqlN 5 c 39
        rw [beq_eq_false_iff_ne.2 (by omega)] at q39
        have q42 := B_eqlN 5 c 42
        rw [beq_eq_false_iff_ne.2 (by omega)] at q42
        have q43 := B_eqlN 5 c 43
        rw [beq_eq_false_iff_ne.2 (by omega)] at q43
        have q45 := B_eqlN 5 c 45
        rw [beq_eq_false_iff_ne.2 (by omega)] at q45
        have q46 := B_eqlN 5 c 46
        rw [beq_eq_false_iff_ne.2 (by omega)] at q46
        have q94 := B_eqlN 5 c 94
        rw [beq_eq_false_iff_ne.2 (by omega)] at q94
        have q95 := B_eqlN 5 c 95
        rw [beq_iff_eq.2 (by omega)] at q95
        have HN : Hid ((s.take (i + 1)).all tokB = true) := Lib.hid (by rw [hnx, hti, hk95]; rfl)
        clear hnx hti hk95
        go_wp2
        exact ⟨⟨i + 1, by omega, by go_num, by trivial, HN.out⟩, by simp [intOf]; omega⟩
      by_cases hk96 : c.toNat = 96
      · clear hA hB hD hk33 hk35 hk36 hk37 hk38 hk39 hk42 hk43 hk45 hk46 hk94 hk95
        have h1 := B_geq 5 c 97
        rw [decide_eq_false (by omega)] at h1
        have h3 := B_geq 5 c 65
        rw [decide_eq_true (by omega)] at h3
        have h4 := B_leq 5 c 90
        rw [decide_eq_false (by omega)] at h4
        have h5 := B_geq 5 c 48
        rw [decide_eq_true (by omega)] at h5
        have h6 := B_leq 5 c 57
        rw [decide_eq_false (by omega)] at h6
        have q33 := B_eqlN 5 c 33
        rw [beq_eq_false_iff_ne.2 (by omega)] at q33
        have q35 := B_eqlN 5 c 35
        rw [beq_eq_false_iff_ne.2 (by omega)] at q35
        have q36 := B_eqlN 5 c 36
        rw [beq_eq_false_iff_ne.2 (by omega)] at q36
        have q37 := B_eqlN 5 c 37
        rw [beq_eq_false_iff_ne.2 (by omega)] at q37
        have q38 := B_eqlN 5 c 38
        rw [beq_eq_false_iff_ne.2 (by omega)] at q38
        have q39 := B_eqlN 5 c 39
        rw [beq_eq_false_iff_ne.2 (by omega)] at q39
        have q42 := B_eqlN 5 c 42
        rw [beq_eq_false_iff_ne.2 (by omega)] at q42
        have q43 := B_eqlN 5 c 43
        rw [beq_eq_false_iff_ne.2 (by omega)] at q43
        have q45 := B_eqlN 5 c 45
        rw [beq_eq_false_iff_ne.2 (by omega)] at q45
        have q46 := B_eqlN 5 c 46
        rw [beq_eq_false_iff_ne.2 (by omega)] at q46
        have q94 := B_eqlN 5 c 94
        rw [beq_eq_false_iff_ne.2 (by omega)] at q94
        have q95 := B_eqlN 5 c 95
        rw [beq_eq_false_iff_ne.2 (by omega)] at q95
        have q96 := B_eqlN 5 c 96
        rw [beq_iff_eq.2 (by omega)] at q96
        have HN : Hid ((s.take (i + 1)).all tokB = true) := Lib.hid (by rw [hnx, hti, hk96]; rfl)
        clear hnx hti hk96
        go_wp2
        exact ⟨⟨i + 1, by omega, by go_num, by trivial, HN.out⟩, by simp [intOf]; omega⟩
      by_cases hk124 : c.toNat = 124
      · clear hA hB hD hk33 hk35 hk36 hk37 hk38 hk39 hk42 hk43 hk45 hk46 hk94 hk95 hk96
        have h1 := B_geq 5 c 97
        rw [decide_eq_true (by omega)] at h1
        have h2 := B_leq 5 c 122
        rw [decide_eq_false (by omega)] at h2
        have h3 := B_geq 5 c 65
        rw [decide_eq_true (by omega)] at h3
        have h4 := B_leq 5 c 90
        rw [decide_eq_false (by omega)] at h4
        have h5 := B_geq 5 c 48
        rw [decide_eq_true (by omega)] at h5
        have h6 := B_leq 5 c 57
        rw [decide_eq_false (by omega)] at h6
        have q33 := B_eqlN 5 c 33
        rw [beq_eq_false_iff_ne.2 (by omega)] at q33
        have q35 := B_eqlN 5 c 35
        rw [beq_eq_false_iff_ne.2 (by omega)] at q35
        have q36 := B_eqlN 5 c 36
        rw [beq_eq_false_iff_ne.2 (by omega)] at q36
        have q37 := B_eqlN 5 c 37
        rw [beq_eq_false_iff_ne.2 (by omega)] at q37
        have q38 := B_eqlN 5 c 38
        rw [beq_eq_false_iff_ne.2 (by omega)] at q38
        have q39 := B_eqlN 5 c 39
        rw [beq_eq_false_iff_ne.2 (by omega)] at q39
        have q42 := B_eqlN 5 c 42
        rw [beq_eq_false_iff_ne.2 (by omega)] at q42
        have q43 := B_eqlN 5 c 43
        rw [beq_eq_false_iff_ne.2 (by omega)] at q43
        have q45 := B_eqlN 5 c 45
        rw [beq_eq_false_iff_ne.2 (by omega)] at q45
        have q46 := B_eqlN 5 c 46
        rw [beq_eq_false_iff_ne.2 (by omega)] at q46
        have q94 := B_eqlN 5 c 94
        rw [beq_eq_false_iff_ne.2 (by omega)] at q94
        have q95 := B_eqlN 5 c 95
        rw [beq_eq_false_iff_ne.2 (by omega)] at q95
        have q96 := B_eqlN 5 c 96
        rw [beq_eq_false_iff_ne.2 (by omega)] at q96
        have q124 := B_eqlN 5 c 124
        rw [beq_iff_eq.2 (by omega)] at q124
        have HN : Hid ((s.take (i + 1)).all tokB = true) := Lib.hid (by rw [hnx, hti, hk124]; rfl)
        clear hnx hti hk124
        go_wp2
        exact ⟨⟨i + 1, by omega, by go_num, by trivial, HN.out⟩, by simp [intOf]; omega⟩
      by_cases hk126 : c.toNat = 126
      · clear hA hB hD hk33 hk35 hk36 hk37 hk38 hk39 hk42 hk43 hk45 hk46 hk94 hk95 hk96 hk124
        have h1 := B_geq 5 c 97
        rw [decide_eq_true (by omega)] at h1
        have h2 := B_leq 5 c 122
        rw [decide_eq_false (by omega)] at h2
        have h3 := B_geq 5 c 65
        rw [decide_eq_true (by omega)] at h3
        have h4 := B_leq 5 c 90
        rw [decide_eq_false (by omega)] at h4
        have h5 := B_geq 5 c 48
        rw [decide_eq_true (by omega)] at h5
        have h6 := B_leq 5 c 57
        rw [decide_eq_false (by omega)] at h6
        have q33 := B_eqlN 5 c 33
        rw [beq_eq_false_iff_ne.2 (by omega)] at q33
        have q35 := B_eqlN 5 c 35
        rw [beq_eq_false_iff_ne.2 (by omega)] at q35
        have q36 := B_eqlN 5 c 36
        rw [beq_eq_false_iff_ne.2 (by omega)] at q36
        have q37 := B_eqlN 5 c 37
        rw [beq_eq_false_iff_ne.2 (by omega)] at q37
        have q38 := B_eqlN 5 c 38
        rw [beq_eq_false_iff_ne.2 (by omega)] at q38
        have q39 := B_eqlN 5 c 39
        rw [beq_eq_false_iff_ne.2 (by omega)] at q39
        have q42 := B_eqlN 5 c 42
        rw [beq_eq_false_iff_ne.2 (by omega)] at q42
        have q43 := B_eqlN 5 c 43
        rw [beq_eq_false_iff_ne.2 (by omega)] at q43
        have q45 := B_eqlN 5 c 45
        rw [beq_eq_false_iff_ne.2 (by omega)] at q45
        have q46 := B_eqlN 5 c 46
        rw [beq_eq_false_iff_ne.2 (by omega)] at q46
        have q94 := B_eqlN 5 c 94
        rw [beq_eq_false_iff_ne.2 (by omega)] at q94
        have q95 := B_eqlN 5 c 95
        rw [beq_eq_false_iff_ne.2 (by omega)] at q95
        have q96 := B_eqlN 5 c 96
        rw [beq_eq_false_iff_ne.2 (by omega)] at q96
        have q124 := B_eqlN 5 c 124
        rw [beq_eq_false_iff_ne.2 (by omega)] at q124
        have q126 := B_eqlN 5 c 126
        rw [beq_iff_eq.2 (by omega)] at q126
        have HN : Hid ((s.take (i + 1)).all tokB = true) := Lib.hid (by rw [hnx, hti, hk126]; rfl)
        clear hnx hti hk126
        go_wp2
        exact ⟨⟨i + 1, by omega, by go_num, by trivial, HN.out⟩, by simp [intOf]; omega⟩
      have HN : Hid (tokF s = false) := Lib.hid (by
        have : (s.take (i + 1)).all tokB = false := by
          rw [hnx, hti, decide_eq_false hA, decide_eq_false hB, decide_eq_false hD]
          simp; omega
        unfold tokF; rw [all_of_take this, Bool.false_and])
      clear hnx hti
      have q33 := B_eqlN 5 c 33
      rw [beq_eq_false_iff_ne.2 (by omega)] at q33
      have q35 := B_eqlN 5 c 35
      rw [beq_eq_false_iff_ne.2 (by omega)] at q35
      have q36 := B_eqlN 5 c 36
      rw [beq_eq_false_iff_ne.2 (by omega)] at q36
      have q37 := B_eqlN 5 c 37
      rw [beq_eq_false_iff_ne.2 (by omega)] at q37
      have q38 := B_eqlN 5 c 38
      rw [beq_eq_false_iff_ne.2 (by omega)] at q38
      have q39 := B_eqlN 5 c 39
      rw [beq_eq_false_iff_ne.2 (by omega)] at q39
      have q42 := B_eqlN 5 c 42
      rw [beq_eq_false_iff_ne.2 (by omega)] at q42
      have q43 := B_eqlN 5 c 43
      rw [beq_eq_false_iff_ne.2 (by omega)] at q43
      have q45 := B_eqlN 5 c 45
      rw [beq_eq_false_iff_ne.2 (by omega)] at q45
      have q46 := B_eqlN 5 c 46
      rw [beq_eq_false_iff_ne.2 (by omega)] at q46
      have q94 := B_eqlN 5 c 94
      rw [beq_eq_false_iff_ne.2 (by omega)] at q94
      have q95 := B_eqlN 5 c 95
      rw [beq_eq_false_iff_ne.2 (by omega)] at q95
      have q96 := B_eqlN 5 c 96
      rw [beq_eq_false_iff_ne.2 (by omega)] at q96
      have q124 := B_eqlN 5 c 124
      rw [beq_eq_false_iff_ne.2 (by omega)] at q124
      have q126 := B_eqlN 5 c 126
      rw [beq_eq_false_iff_ne.2 (by omega)] at q126
      by_cases g1 : 122 < c.toNat
      · have := hlt
        have h1 := B_geq 5 c 97
        rw [decide_eq_true (by omega)] at h1
        have h2 := B_leq 5 c 122
        rw [decide_eq_false (by omega)] at h2
        have h3 := B_geq 5 c 65
        rw [decide_eq_true (by omega)] at h3
        have h4 := B_leq 5 c 90
        rw [decide_eq_false (by omega)] at h4
        have h5 := B_geq 5 c 48
        rw [decide_eq_true (by omega)] at h5
        have h6 := B_leq 5 c 57
        rw [decide_eq_false (by omega)] at h6
        clear hA hB hD hk33 hk35 hk36 hk37 hk38 hk39 hk42 hk43 hk45 hk46 hk94 hk95 hk96 hk124 hk126 g1
        go_wp2
        go_ret
        exact ⟨by rw [HN.out]; rfl, rfl⟩
      by_cases g2 : 90 < c.toNat
      · have := hlt
        have h1 := B_geq 5 c 97
        rw [decide_eq_false (by omega)] at h1
        have h3 := B_geq 5 c 65
        rw [decide_eq_true (by omega)] at h3
        have h4 := B_leq 5 c 90
        rw [decide_eq_false (by omega)] at h4
        have h5 := B_geq 5 c 48
        rw [decide_eq_true (by omega)] at h5
        have h6 := B_leq 5 c 57
        rw [decide_eq_false (by omega)] at h6
        clear hA hB hD hk33 hk35 hk36 hk37 hk38 hk39 hk42 hk43 hk45 hk46 hk94 hk95 hk96 hk124 hk126 g1 g2
        go_wp2
        go_ret
        exact ⟨by rw [HN.out]; rfl, rfl⟩
      by_cases g3 : 57 < c.toNat
      · have := hlt
        have h1 := B_geq 5 c 97
        rw [decide_eq_false (by omega)] at h1
        have h3 := B_geq 5 c 65
        rw [decide_eq_false (by omega)] at h3
        have h5 := B_geq 5 c 48
        rw [decide_eq_true (by omega)] at h5
        have h6 := B_leq 5 c 57
        rw [decide_eq_false (by omega)] at h6
        clear hA hB hD hk33 hk35 hk36 hk37 hk38 hk39 hk42 hk43 hk45 hk46 hk94 hk95 hk96 hk124 hk126 g1 g2 g3
        go_wp2
        go_ret
        exact ⟨by rw [HN.out]; rfl, rfl⟩
      have h1 := B_geq 5 c 97
      rw [decide_eq_false (by omega)] at h1
      have h3 := B_geq 5 c 65
      rw [decide_eq_false (by omega)] at h3
      have h5 := B_geq 5 c 48
      rw [decide_eq_false (by omega)] at h5
      clear hA hB hD hk33 hk35 hk36 hk37 hk38 hk39 hk42 hk43 hk45 hk46 hk94 hk95 hk96 hk124 hk126 g1 g2 g3
      go_wp2
      go_ret
      exact ⟨by rw [HN.out]; rfl, rfl⟩
    · obtain rfl : i = s.length := by omega
      rw [List.take_length] at hn
      have HN : Hid (tokF s = decide (0 < s.length)) := Lib.hid (by unfold tokF; rw [hn, Bool.true_and])
      clear hn
      have q := nonempty_S s
      have n := nguard_E s
      generalize hz : decide (0 < s.length) = z at *
      clear hz
      go_wp2
      go_ret
      exact ⟨by rw [HN.out]; rfl, rfl⟩
end Go.Proofs.YtbnlkjoblngakaaDoor
