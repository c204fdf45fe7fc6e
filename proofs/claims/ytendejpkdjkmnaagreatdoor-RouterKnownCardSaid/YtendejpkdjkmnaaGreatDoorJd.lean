/- Texts of this proof that several statements share, one behind the other. -/
import Derived.Test.YtendejpkdjkmnaaGreatDoorJc
import Derived.Test.YtendejpkdjkmnaaGreatDoorShelf
import Derived.Lib.SplitLaws
import Derived.Lib.CountLaws
import Derived.Lib.IndexMore
import Derived.Test.YtendejpkdjkmnaaGreatDoorJb
import Derived.Carry
/- The landed segments, literal, isName walked. (mktv.py writes it.) -/
namespace Go.Proofs.YtendejpkdjkmnaaGreatDoor
open Go.RowKit
attribute [local go_sem] store_one S_match S_store eguard_BN nguard_BN B_eqlN B_neqN B_geq B_leq

theorem cut_index : ∀ (s cur : Txt), (Lib.index s [47] = -1 → cutP cur s = [cur ++ s]) ∧ ∀ i : Nat, Lib.index s [47] = (i : Int) → cutP cur s = (cur ++ s.take i) :: cutP [] (s.drop (i + 1))
  | [], cur => ⟨fun _ => by rw [cutP, List.append_nil], fun i h => by
      have e : Lib.index [] [47] = -1 := rfl
      rw [e] at h; omega⟩
  | c :: r, cur => by
    obtain ⟨i1, i2⟩ := cut_index r (cur ++ [c])
    have hge := Lib.index_ge r [47]
    rw [Lib.index_one, Lib.indexByte]
    rw [Lib.index_one] at i1 i2 hge
    by_cases h : c = 47
    · subst h
      rw [if_pos (by simp)]
      refine ⟨fun e => absurd e (by decide), fun i e => ?_⟩
      obtain rfl : i = 0 := by omega
      rw [cutP, if_pos rfl]; simp
    · rw [if_neg (by simpa using h)]
      rw [cutP, if_neg h]
      by_cases hm : Lib.indexByte r 47 = -1
      · rw [if_pos (beq_iff_eq.2 hm)]
        exact ⟨fun _ => by rw [i1 hm, List.append_assoc]; rfl, fun i e => by omega⟩
      · rw [if_neg (fun e => hm (beq_iff_eq.1 e))]
        refine ⟨fun e => by omega, fun i e => ?_⟩
        obtain ⟨j, rfl⟩ : ∃ j, i = j + 1 := ⟨i - 1, by omega⟩
        rw [i2 j (by omega), List.append_assoc]
        rfl
theorem split_cut : ∀ (n : Nat) (s : Txt), s.length ≤ n → Lib.splitK [47] 0 (Lib.count s [47]) s = cutP [] s
  | n, s, hn => by
    have hge := Lib.index_ge s [47]
    obtain ⟨i1, i2⟩ := cut_index s []
    by_cases hm : Lib.index s [47] = -1
    · rw [Lib.count_miss hm, i1 hm]; rfl
    · obtain ⟨j, hj⟩ : ∃ j : Nat, Lib.index s [47] = j := ⟨(Lib.index s [47]).toNat, by omega⟩
      have hne : s ≠ [] := by rintro rfl; exact hm rfl
      have hpos : 0 < s.length := List.length_pos_iff.2 hne
      rw [Lib.count_hit (by simp) hj, Nat.add_comm, Lib.splitK, if_neg (fun e => hm (beq_iff_eq.1 e)), hj, i2 j hj]
      have hl : ([47] : List UInt8).length = 1 := rfl
      rw [hl, Int.toNat_natCast, Nat.add_zero, List.nil_append]
      obtain ⟨m, rfl⟩ : ∃ m, n = m + 1 := ⟨n - 1, by omega⟩
      rw [split_cut m (s.drop (j + 1)) (by rw [List.length_drop]; omega)]
theorem split_any (s : Txt) (hs : s.length ≤ 100000) (w : World) (hm : MaxAt w) : Calls Tryz.prog 47 #[S s, .string ⟨#[47]⟩] w fun e w' =>
    e = .returned (.slice (some ⟨w.heap.size, 0, none⟩) (cutP [] s).length (cutP [] s).length) ∧ w' = w.alloc (.cells ((cutP [] s).map S).toArray 9) := by
  obtain ⟨m, hm⟩ := hm
  have h := Tryz.strings_Split ⟨s.toArray⟩ ⟨#[47]⟩ m w (by have := S_size s; omega) hm (by decide)
  have e1 := Lib.splitB_data ⟨#[47]⟩ 0 (Lib.countB ⟨s.toArray⟩ ⟨#[47]⟩) ⟨s.toArray⟩
  have e2 : Lib.splitK [47] 0 (Lib.countB ⟨s.toArray⟩ ⟨#[47]⟩) s = cutP [] s := split_cut s.length s (Nat.le_refl _)
  have e3 := Lib.splitB_all ⟨#[47]⟩ (by decide) 0 _ ⟨s.toArray⟩ rfl
  have e4 : (Lib.splitB ⟨#[47]⟩ 0 (Lib.countB ⟨s.toArray⟩ ⟨#[47]⟩) ⟨s.toArray⟩).map (·.data.toList) = cutP [] s := e1.trans e2
  have e5 : (Lib.splitB ⟨#[47]⟩ 0 (Lib.countB ⟨s.toArray⟩ ⟨#[47]⟩) ⟨s.toArray⟩).map Value.string = (cutP [] s).map S := by
    rw [← e4, List.map_map]
    exact List.map_congr_left fun b _ => rfl
  have e6 : (cutP [] s).length = Lib.countB ⟨s.toArray⟩ ⟨#[47]⟩ + 1 := by rw [← e3, ← e4, List.length_map]
  rw [e6, ← e5]
  exact h
theorem row_below {w : World} (o : Obj) : Below w.heap.size w (w.alloc o) := (Below.refl _ w).alloc (Nat.le_refl _) _
set_option maxRecDepth 100000 in
set_option maxHeartbeats 1000000 in
theorem segments_any (s : Txt) (h0 : s ≠ []) (hs : s.length ≤ 100000) (w : World) (hm : MaxAt w) :
    Calls Tryz.prog 43 #[S s] w fun e w' => ∃ V b, e = .returned V ∧ TA w' V (cutS s) b 0 ∧ Below w.heap.size w w' ∧ (cutS s = [] ∨ w.heap.size ≤ b) := by
  have n1 : ∀ x y, eqGuard .eql 9 x y (S s) (.string ⟨#[47]⟩) = pure () := fun x y => guard_S 9 x y s [47]
  unfold cutS
  by_cases h : s = [47]
  · have q1 : binOp .eql 9 (S s) (.string ⟨#[47]⟩) = pure (.bool true) := by rw [h]; exact eql_S 9 [47] [47]
    rw [if_pos h]
    clear h hs h0
    go_enter Tryz.func43, Tryz.ntmps43
    go_wp2
    go_ret
    exact ⟨_, 0, rfl, ta_nil _ none 0, Below.refl _ _, .inl trivial⟩
  · have q1 : binOp .eql 9 (S s) (.string ⟨#[47]⟩) = pure (.bool false) := by
      have := eql_S 9 s [47]
      rw [beq_eq_false_iff_ne.2 h] at this
      exact this
    rw [if_neg h]
    have hsl : ∀ W, (Instr.slice 9 (S s) (some (.int .i64 1)) none none).run Tryz.prog W = .ok (S (s.drop 1)) W := fun W => slice_drop (P := Tryz.prog) Tryz.underlying9 s 1 (List.length_pos_iff.2 h0) W
    have HS := split_any (s.drop 1) (by rw [List.length_drop]; omega) w hm
    generalize s.drop 1 = D at *
    have HS := Lib.hid HS
    clear h hs h0
    go_enter Tryz.func43, Tryz.ntmps43
    go_wp2_with fail
    refine HS.out.mono ?_
    rintro e W ⟨rfl, rfl⟩
    go_wp2
    go_ret
    exact ⟨_, w.heap.size, rfl, ta_row (row_new w _ 9) rfl, row_below _, .inr (Nat.le_refl _)⟩
theorem kind_cases (c : UInt8) (r : Txt) : (c = 58 ∧ kindS (c :: r) = 1) ∨ (c ≠ 58 ∧ ((c.toNat : Int) == 58) = false ∧ ((c.toNat : Int) != 58) = true ∧ c = 42 ∧ kindS (c :: r) = 2) ∨
    (c ≠ 58 ∧ ((c.toNat : Int) == 58) = false ∧ ((c.toNat : Int) != 58) = true ∧ c ≠ 42 ∧ ((c.toNat : Int) == 42) = false ∧ ((c.toNat : Int) != 42) = true ∧ kindS (c :: r) = 0) := by
  rw [kind_head rfl]
  have no : ∀ d : UInt8, c ≠ d → ((c.toNat : Int) == (d.toNat : Int)) = false ∧ ((c.toNat : Int) != (d.toNat : Int)) = true := fun d h => by
    have h2 : c.toNat ≠ d.toNat := fun e => h (UInt8.toNat_inj.1 e)
    exact ⟨by rw [beq_eq_false_iff_ne]; omega, by rw [bne_iff_ne]; omega⟩
  by_cases h1 : c = 58
  · exact .inl ⟨h1, if_pos h1⟩
  · obtain ⟨a1, a2⟩ := no 58 h1
    rw [if_neg h1]
    by_cases h2 : c = 42
    · exact .inr (.inl ⟨h1, a1, a2, h2, if_pos h2⟩)
    · obtain ⟨b1, b2⟩ := no 42 h2
      exact .inr (.inr ⟨h1, a1, a2, h2, b1, b2, if_neg h2⟩)
set_option maxRecDepth 100000 in
set_option maxHeartbeats 1000000 in
theorem literal_any (s : Txt) (hs : s ≠ []) (w : World) : Calls Tryz.prog 44 #[S s] w fun e w' => e = .returned (.bool (kindS s == 0)) ∧ w' = w := by
  obtain ⟨c, r, rfl⟩ : ∃ c r, s = c :: r := by
    cases s with
    | nil => exact absurd rfl hs
    | cons c r => exact ⟨c, r, rfl⟩
  have hix : ∀ w, (Instr.index 9 (S (c :: r)) (.int .i64 0)).run Tryz.prog w = .ok (B c) w := fun w => index_S Tryz.underlying9 (c :: r) 0 c rfl w
  rcases kind_cases c r with ⟨h1, h2⟩ | ⟨_, _, g1, h1, h2⟩ | ⟨_, _, g1, _, _, g2, h2⟩
  · rw [h2]
    generalize S (c :: r) = V at *
    subst h1
    go_enter Tryz.func44, Tryz.ntmps44
    go_wp2
    go_ret
    exact ⟨rfl, rfl⟩
  · rw [h2]
    generalize S (c :: r) = V at *
    subst h1
    go_enter Tryz.func44, Tryz.ntmps44
    go_wp2
    go_ret
    exact ⟨rfl, rfl⟩
  · rw [h2]
    generalize S (c :: r) = V at *
    go_enter Tryz.func44, Tryz.ntmps44
    go_wp2
    go_ret
    exact ⟨rfl, rfl⟩
theorem name_is (c : UInt8) : nameB c = ((decide (65 ≤ c.toNat ∧ c.toNat ≤ 90) || decide (97 ≤ c.toNat ∧ c.toNat ≤ 122)) || (decide (48 ≤ c.toNat ∧ c.toNat ≤ 57) || decide (c.toNat = 95))) := by
  have e : (c == 95) = decide (c.toNat = 95) := by
    rw [Bool.eq_iff_iff, beq_iff_eq, decide_eq_true_eq]
    exact ⟨fun h => by rw [h]; rfl, fun h => UInt8.toNat_inj.1 (by rw [h]; rfl)⟩
  unfold nameB
  rw [e, Bool.eq_iff_iff]
  simp only [Bool.or_eq_true, Bool.and_eq_true, decide_eq_true_eq]
  omega
set_option maxRecDepth 100000 in
set_option maxHeartbeats 1000000 in
theorem inname_any (c : UInt8) (w : World) : Calls Tryz.prog 65 #[B c] w fun e w' => e = .returned (.bool (nameB c)) ∧ w' = w := by
  have hE := name_is c
  have hl := c.toNat_lt
  have h65 := B_geq 5 c 65
  have h90 := B_leq 5 c 90
  have h97 := B_geq 5 c 97
  have h122 := B_leq 5 c 122
  have h48 := B_geq 5 c 48
  have h57 := B_leq 5 c 57
  have h95 := B_eqlN 5 c 95
  rw [Bool.eq_iff_iff.2 (show (((c.toNat : Int) == 95) = true ↔ decide (c.toNat = 95) = true) by rw [beq_iff_eq, decide_eq_true_eq]; omega)] at h95
  have hcs : (0 ≤ c.toNat ∧ c.toNat ≤ 47) ∨ (48 ≤ c.toNat ∧ c.toNat ≤ 57) ∨ (58 ≤ c.toNat ∧ c.toNat ≤ 64) ∨ (65 ≤ c.toNat ∧ c.toNat ≤ 90) ∨ (91 ≤ c.toNat ∧ c.toNat ≤ 94) ∨ (95 ≤ c.toNat ∧ c.toNat ≤ 95) ∨ (96 ≤ c.toNat ∧ c.toNat ≤ 96) ∨ (97 ≤ c.toNat ∧ c.toNat ≤ 122) ∨ (123 ≤ c.toNat ∧ c.toNat ≤ 255) := by omega
  rcases hcs with ⟨a, a2⟩ | ⟨a, a2⟩ | ⟨a, a2⟩ | ⟨a, a2⟩ | ⟨a, a2⟩ | ⟨a, a2⟩ | ⟨a, a2⟩ | ⟨a, a2⟩ | ⟨a, a2⟩
  · have hP : nameB c = false := by
      rw [hE, Bool.eq_iff_iff]
      simp only [Bool.or_eq_true, decide_eq_true_eq, reduceCtorEq, iff_false]
      omega
    rw [hP]
    rw [decide_eq_false (by omega)] at h65
    rw [decide_eq_true (by omega)] at h90
    rw [decide_eq_false (by omega)] at h97
    rw [decide_eq_true (by omega)] at h122
    rw [decide_eq_false (by omega)] at h48
    rw [decide_eq_true (by omega)] at h57
    rw [decide_eq_false (by omega)] at h95
    clear a a2 hE hP hl
    go_enter Tryz.func65, Tryz.ntmps65
    go_wp2
    go_ret
    exact ⟨rfl, rfl⟩
  · have hP : nameB c = true := by
      rw [hE, Bool.eq_iff_iff]
      simp only [Bool.or_eq_true, decide_eq_true_eq, iff_true]
      omega
    rw [hP]
    rw [decide_eq_false (by omega)] at h65
    rw [decide_eq_true (by omega)] at h90
    rw [decide_eq_false (by omega)] at h97
    rw [decide_eq_true (by omega)] at h122
    rw [decide_eq_true (by omega)] at h48
    rw [decide_eq_true (by omega)] at h57
    rw [decide_eq_false (by omega)] at h95
    clear a a2 hE hP hl
    go_enter Tryz.func65, Tryz.ntmps65
    go_wp2
    go_ret
    exact ⟨rfl, rfl⟩
  · have hP : nameB c = false := by
      rw [hE, Bool.eq_iff_iff]
      simp only [Bool.or_eq_true, decide_eq_true_eq, reduceCtorEq, iff_false]
      omega
    rw [hP]
    rw [decide_eq_false (by omega)] at h65
    rw [decide_eq_true (by omega)] at h90
    rw [decide_eq_false (by omega)] at h97
    rw [decide_eq_true (by omega)] at h122
    rw [decide_eq_true (by omega)] at h48
    rw [decide_eq_false (by omega)] at h57
    rw [decide_eq_false (by omega)] at h95
    clear a a2 hE hP hl
    go_enter Tryz.func65, Tryz.ntmps65
    go_wp2
    go_ret
    exact ⟨rfl, rfl⟩
  · have hP : nameB c = true := by
      rw [hE, Bool.eq_iff_iff]
      simp only [Bool.or_eq_true, decide_eq_true_eq, iff_true]
      omega
    rw [hP]
    rw [decide_eq_true (by omega)] at h65
    rw [decide_eq_true (by omega)] at h90
    rw [decide_eq_false (by omega)] at h97
    rw [decide_eq_true (by omega)] at h122
    rw [decide_eq_true (by omega)] at h48
    rw [decide_eq_false (by omega)] at h57
    rw [decide_eq_false (by omega)] at h95
    clear a a2 hE hP hl
    go_enter Tryz.func65, Tryz.ntmps65
    go_wp2
    go_ret
    exact ⟨rfl, rfl⟩
  · have hP : nameB c = false := by
      rw [hE, Bool.eq_iff_iff]
      simp only [Bool.or_eq_true, decide_eq_true_eq, reduceCtorEq, iff_false]
      omega
    rw [hP]
    rw [decide_eq_true (by omega)] at h65
    rw [decide_eq_false (by omega)] at h90
    rw [decide_eq_false (by omega)] at h97
    rw [decide_eq_true (by omega)] at h122
    rw [decide_eq_true (by omega)] at h48
    rw [decide_eq_false (by omega)] at h57
    rw [decide_eq_false (by omega)] at h95
    clear a a2 hE hP hl
    go_enter Tryz.func65, Tryz.ntmps65
    go_wp2
    go_ret
    exact ⟨rfl, rfl⟩
  · have hP : nameB c = true := by
      rw [hE, Bool.eq_iff_iff]
      simp only [Bool.or_eq_true, decide_eq_true_eq, iff_true]
      omega
    rw [hP]
    rw [decide_eq_true (by omega)] at h65
    rw [decide_eq_false (by omega)] at h90
    rw [decide_eq_false (by omega)] at h97
    rw [decide_eq_true (by omega)] at h122
    rw [decide_eq_true (by omega)] at h48
    rw [decide_eq_false (by omega)] at h57
    rw [decide_eq_true (by omega)] at h95
    clear a a2 hE hP hl
    go_enter Tryz.func65, Tryz.ntmps65
    go_wp2
    go_ret
    exact ⟨rfl, rfl⟩
  · have hP : nameB c = false := by
      rw [hE, Bool.eq_iff_iff]
      simp only [Bool.or_eq_true, decide_eq_true_eq, reduceCtorEq, iff_false]
      omega
    rw [hP]
    rw [decide_eq_true (by omega)] at h65
    rw [decide_eq_false (by omega)] at h90
    rw [decide_eq_false (by omega)] at h97
    rw [decide_eq_true (by omega)] at h122
    rw [decide_eq_true (by omega)] at h48
    rw [decide_eq_false (by omega)] at h57
    rw [decide_eq_false (by omega)] at h95
    clear a a2 hE hP hl
    go_enter Tryz.func65, Tryz.ntmps65
    go_wp2
    go_ret
    exact ⟨rfl, rfl⟩
  · have hP : nameB c = true := by
      rw [hE, Bool.eq_iff_iff]
      simp only [Bool.or_eq_true, decide_eq_true_eq, iff_true]
      omega
    rw [hP]
    rw [decide_eq_true (by omega)] at h65
    rw [decide_eq_false (by omega)] at h90
    rw [decide_eq_true (by omega)] at h97
    rw [decide_eq_true (by omega)] at h122
    rw [decide_eq_true (by omega)] at h48
    rw [decide_eq_false (by omega)] at h57
    rw [decide_eq_false (by omega)] at h95
    clear a a2 hE hP hl
    go_enter Tryz.func65, Tryz.ntmps65
    go_wp2
    go_ret
    exact ⟨rfl, rfl⟩
  · have hP : nameB c = false := by
      rw [hE, Bool.eq_iff_iff]
      simp only [Bool.or_eq_true, decide_eq_true_eq, reduceCtorEq, iff_false]
      omega
    rw [hP]
    rw [decide_eq_true (by omega)] at h65
    rw [decide_eq_false (by omega)] at h90
    rw [decide_eq_true (by omega)] at h97
    rw [decide_eq_false (by omega)] at h122
    rw [decide_eq_true (by omega)] at h48
    rw [decide_eq_false (by omega)] at h57
    rw [decide_eq_false (by omega)] at h95
    clear a a2 hE hP hl
    go_enter Tryz.func65, Tryz.ntmps65
    go_wp2
    go_ret
    exact ⟨rfl, rfl⟩
set_option maxRecDepth 100000 in
set_option maxHeartbeats 1000000 in
theorem isname_any (s : Txt) (hs : s.length ≤ 100000) (w : World) : Calls Tryz.prog 45 #[S s] w fun e w' => e = .returned (.bool (nameS s)) ∧ w' = w := by
  have n1 : ∀ x y, eqGuard .eql 9 x y (S s) (.string ⟨#[]⟩) = pure () := fun x y => guard_S 9 x y s []
  have hlS := run_len_S (P := Tryz.prog) Tryz.underlying9 3 s
  by_cases h : s = []
  · subst h
    have q1 : binOp .eql 9 (S []) (.string ⟨#[]⟩) = pure (.bool true) := eql_S 9 [] []
    go_enter Tryz.func45, Tryz.ntmps45
    go_wp2
    go_ret
    exact ⟨rfl, rfl⟩
  · have q1 : binOp .eql 9 (S s) (.string ⟨#[]⟩) = pure (.bool false) := by
      have := eql_S 9 s []
      rw [beq_eq_false_iff_ne.2 h] at this
      exact this
    have hpos := List.length_pos_iff.2 h
    obtain ⟨N, hN⟩ : ∃ N, N = s.length := ⟨_, rfl⟩
    rw [← hN] at hlS hs hpos
    have HN := Lib.hid hN
    by_cases h32 : 32 < N
    · have hz : decide ((32 : Int) < (N : Int)) = true := decide_eq_true (by omega)
      have hP : nameS s = false := by
        unfold nameS
        rw [decide_eq_false (p := s.length ≤ 32) (by omega)]; simp
      rw [hP]
      clear h hN hP h32 hpos hs
      go_enter Tryz.func45, Tryz.ntmps45
      go_wp2
      go_ret
      exact ⟨rfl, rfl⟩
    · have hz : decide ((32 : Int) < (N : Int)) = false := decide_eq_false (by omega)
      have hP : nameS s = s.all nameB := by
        unfold nameS
        rw [decide_eq_true (p := s.length ≤ 32) (by omega), decide_eq_true (p := 1 ≤ s.length) (by omega)]; rfl
      rw [hP]
      obtain ⟨O, hO⟩ : ∃ O, O = s.all nameB := ⟨_, rfl⟩
      rw [← hO]
      have HO := Lib.hid hO
      clear h hN hP hO hpos
      have hN100 : N ≤ 32 := by omega
      clear h32 hs
      go_enter Tryz.func45, Tryz.ntmps45
      go_wp2
      go_loopw [13] (fun iv wr => ∃ i : Nat, i ≤ N ∧ iv = .int .i64 (i : Int) ∧ wr = w ∧ Hid (∀ x ∈ s.take i, nameB x = true)) (fun iv _ => N - (intOf iv).toNat)
      case atStart => exact ⟨0, Nat.zero_le _, rfl, rfl, Lib.hid (by simp)⟩
      case round =>
        obtain ⟨i, hi, rfl, rfl, HR⟩ := hrel
        by_cases hlt : i < N
        · have g1 : decide ((i : Int) < (N : Int)) = true := decide_eq_true (by omega)
          obtain ⟨c, hc⟩ : ∃ c, s[i]? = some c := ⟨s[i]'(by have := HN.out; omega), List.getElem?_eq_getElem _⟩
          have hix : ∀ w, (Instr.index 9 (S s) (.int .i64 (i : Int))).run Tryz.prog w = .ok (B c) w := fun w => index_S Tryz.underlying9 s i c hc w
          have HI := Lib.hid (inname_any c wr)
          have hw1 : IntKind.i64.wrap ((i : Int) + 1) = (i : Int) + 1 := by rw [IntKind.wrap_i64]; omega
          have HC := Lib.hid hc
          clear hc
          go_wp2_with fail
          refine HI.out.mono ?_
          rintro e w' ⟨rfl, rfl⟩
          cases hb : nameB c with
          | false =>
            have HP : Hid (O = false) := Lib.hid (by
              rw [HO.out, List.all_eq_false]
              exact ⟨c, List.mem_of_getElem? HC.out, by rw [hb]; exact Bool.false_ne_true⟩)
            clear hb
            go_wp2
            go_ret
            exact ⟨by rw [HP.out]; rfl, rfl⟩
          | true =>
            have HX : Hid (∀ x ∈ s.take (i + 1), nameB x = true) := Lib.hid (by
              intro x hx
              rw [List.take_add_one, HC.out] at hx
              rcases List.mem_append.1 hx with hx | hx
              · exact HR.out x hx
              · have : x = c := by simpa using hx
                rw [this]; exact hb)
            clear hb
            go_wp2
            exact ⟨⟨i + 1, by omega, by go_num, by trivial, HX⟩, by simp [intOf]; omega⟩
        · obtain rfl : i = N := by omega
          have g1 : decide ((i : Int) < (i : Int)) = false := decide_eq_false (by omega)
          have HP : Hid (O = true) := Lib.hid (by
            have h := HR.out
            rw [HN.out, List.take_length] at h
            rw [HO.out, List.all_eq_true]; exact h)
          go_wp2
          go_ret
          exact ⟨by rw [HP.out]; rfl, rfl⟩
end Go.Proofs.YtendejpkdjkmnaaGreatDoor
/- The landed twin of tries of crier/router.methodss walked. -/
namespace Go.Proofs.YtendejpkdjkmnaaGreatDoor
open Go.RowKit
attribute [local go_sem] store_one S_match S_store eguard_BN nguard_BN B_eqlN B_neqN

theorem nodes_prefixm {w : World} {g : Nat} {R : Nat → Option Role} {N M E : List Key → Option Nat} {C : Nat} {mx : Int} {av : Value} (h : Nodes w g R N M E C mx av) : ∀ (r k : List Key), N k = none → N (k ++ r) = none
  | [], k, hk => by rw [List.append_nil]; exact hk
  | c :: r, k, hk => by
    have : N (k ++ [c]) = none := by
      cases hx : N (k ++ [c]) with
      | none => rfl
      | some y => exact absurd hk (h.pre k c (by rw [hx]; exact Option.some_ne_none _))
    have h2 := nodes_prefixm h r (k ++ [c]) this
    rwa [List.append_assoc] at h2
set_option maxRecDepth 100000 in
set_option maxHeartbeats 1000000 in
theorem twinm_any {w : World} {g : Nat} {R : Nat → Option Role} {N M E : List Key → Option Nat} {C : Nat} {mx : Int} {av : Value} (h : Nodes w g R N M E C mx av) (p : Txt) (l : List Txt) (hp : segsF p = some l) (hl : p.length ≤ 200) (hm : MaxAt w) :
    Calls Tryz.prog 60 #[.pointer (some ⟨g, 0, none⟩), S p] w fun e w' => e = .returned (ptrO (E (keysF l))) ∧ Below w.heap.size w w' := by
  obtain ⟨h0, hcut, hok⟩ := segsF_head hp
  have hne : p ≠ [] := by rintro rfl; cases h0
  have hTI := tidy_ok l [] hok
  have HSG := Lib.hid (segments_any p hne (by omega) w hm)
  have heach := cutS_each p
  rw [← hcut] at HSG heach
  have hlen : l.length ≤ 201 := by rw [hcut]; have := cutS_len p; omega
  obtain ⟨L, hL⟩ : ∃ L, L = l.length := ⟨_, rfl⟩
  rw [← hL] at hlen
  have HL := Lib.hid hL
  have HTI := Lib.hid hTI
  have H := Lib.hid h
  have HE := Lib.hid (fun x hx => Nat.le_trans (heach x hx) hl)
  clear h0 hcut hok hne hTI hp hl hm hL h heach
  go_enter Tryz.func60, Tryz.ntmps60
  go_wp2_with fail
  refine HSG.out.mono ?_
  rintro e W ⟨V, b, rfl, hT, hB, -⟩
  have hlV := fun w' => hT.len 3 w'
  rw [← HL.out] at hlV
  have HT := Lib.hid hT
  have HB := Lib.hid hB
  have HN := Lib.hid (H.out.below hB)
  clear hT hB HSG
  go_wp2
  go_loopw [5, 14] (fun nv iv wr => ∃ (i b o : Nat), i ≤ L ∧ nv = .pointer (some ⟨b, o, none⟩) ∧ iv = .int .i64 (i : Int) ∧ wr = W ∧ Hid (N (keysF (l.take i)) = some b ∧ o = offK (keysF (l.take i)))) (fun _ iv _ => L - (intOf iv).toNat)
  case atStart => exact ⟨0, g, 1, Nat.zero_le _, rfl, rfl, rfl, Lib.hid ⟨by rw [List.take_zero]; exact HN.out.root, rfl⟩⟩
  case round =>
    obtain ⟨i, b2, o, hi, rfl, rfl, hwr, HR⟩ := hrel
    rw [hwr]
    clear hwr
    by_cases hlt : i < L
    case neg =>
      obtain rfl : i = L := by omega
      have g1 : decide ((i : Int) < (i : Int)) = false := decide_eq_false (by omega)
      have hn := HN.out.node _ b2 HR.out.1
      rw [← HR.out.2, HL.out, List.take_length] at hn
      have f1 := hn.fin.1
      clear hn
      go_wp2
      go_ret
      exact ⟨rfl, HB.out⟩
    case pos =>
      have g1 : decide ((i : Int) < (L : Int)) = true := decide_eq_true (by omega)
      have hw1 : IntKind.i64.wrap ((i : Int) + 1) = (i : Int) + 1 := by rw [IntKind.wrap_i64]; omega
      obtain ⟨x, hx⟩ : ∃ x, l[i]? = some x := ⟨l[i]'(by have := HL.out; omega), List.getElem?_eq_getElem _⟩
      have hix := fun w' => HT.out.index i (by have := HL.out; omega) w'
      have hcell : W.cell? ⟨b, 0 + i, none⟩ = some (S x) := HT.out.cell i x hx
      obtain ⟨q, hq⟩ : ∃ q, q = 0 + i := ⟨_, rfl⟩
      rw [← hq] at hix hcell
      have hxn := (tidy_at HTI.out hx).1
      have hn := HN.out.node _ b2 HR.out.1
      rw [← HR.out.2] at hn
      have HBL := belowm_any hn x hxn (by have := HE.out x (List.mem_of_getElem? hx); omega)
      have hkey : keysF (l.take i) ++ [keyS x] = keysF (l.take (i + 1)) := by
        rw [(drop_at hx).2]; unfold keysF; rw [List.map_append]; rfl
      rw [hkey] at HBL
      have HBL := Lib.hid HBL
      clear hn hx hxn hq hkey
      cases hv : N (keysF (l.take (i + 1))) with
      | none =>
        rw [hv] at HBL
        have HP : Hid (E (keysF l) = none) := Lib.hid (by
          have h1 : N (keysF l) = none := by
            have := nodes_prefixm HN.out (keysF (l.drop (i + 1))) _ hv
            unfold keysF at this ⊢
            rwa [← List.map_append, List.take_append_drop] at this
          cases hE : E (keysF l) with
          | none => rfl
          | some y => exact absurd h1 (HN.out.eR _ y hE).2)
        clear hv
        go_wp2_with fail
        refine HBL.out.mono ?_
        rintro e w' ⟨rfl, hw⟩
        rw [hw]
        clear hw w'
        unfold ptrO
        go_wp2
        go_ret
        exact ⟨by rw [HP.out]; rfl, HB.out⟩
      | some b3 =>
        rw [hv] at HBL
        have HX : Hid (N (keysF (l.take (i + 1))) = some b3 ∧ 0 = offK (keysF (l.take (i + 1)))) := Lib.hid ⟨hv, by
          cases hk : keysF (l.take (i + 1)) with
          | nil =>
            have h1 := congrArg List.length hk
            unfold keysF at h1
            rw [List.length_map, List.length_take] at h1
            have h2 : min (i + 1) l.length = 0 := h1
            have := HL.out
            omega
          | cons a r => rfl⟩
        clear hv
        go_wp2_with fail
        refine HBL.out.mono ?_
        rintro e w' ⟨rfl, hw⟩
        rw [hw]
        clear hw w'
        unfold ptrO
        go_wp2
        exact ⟨⟨i + 1, b3, 0, by omega, by trivial, by go_num, by trivial, HX⟩, by simp [intOf]; omega⟩
end Go.Proofs.YtendejpkdjkmnaaGreatDoor
/- Places that are open, as a row in memory; what a walk from node to node knows. (mktw.py writes it.) -/
namespace Go.Proofs.YtendejpkdjkmnaaGreatDoor
open Go.RowKit

/-- Where the node at these keys begins. -/
def adrV (N : List Key → Option Nat) (k : List Key) : Value := .pointer (some ⟨(N k).getD 0, offK k, none⟩)
theorem adrV_some {N : List Key → Option Nat} {k : List Key} {b : Nat} (h : N k = some b) : adrV N k = .pointer (some ⟨b, offK k, none⟩) := by unfold adrV; rw [h]; rfl
theorem adrV_snoc {N : List Key → Option Nat} {k : List Key} {c : Key} {b : Nat} (h : N (k ++ [c]) = some b) : adrV N (k ++ [c]) = .pointer (some ⟨b, 0, none⟩) := by rw [adrV_some h, offK_snoc]
def plcC (N : List Key → Option Nat) (q : Plc) : List Value := [adrV N q.1, .int .i64 (q.2 : Int)]
/-- The cells of places. -/
def pcells (N : List Key → Option Nat) (st : List Plc) : List Value := st.flatMap (plcC N)
theorem pcells_snoc (N : List Key → Option Nat) (st : List Plc) (q : Plc) : pcells N (st ++ [q]) = pcells N st ++ [adrV N q.1, .int .i64 (q.2 : Int)] := by
  unfold pcells; rw [List.flatMap_append]; simp [plcC]
theorem pcells_len (N : List Key → Option Nat) (st : List Plc) : (pcells N st).length = st.length * 2 := by
  unfold pcells
  induction st with
  | nil => rfl
  | cons q st ih => rw [List.flatMap_cons, List.length_append, ih, List.length_cons]; simp only [plcC, List.length_cons, List.length_nil]; omega
/-- What is left to look at, read off the cells. -/
def costL (m : Nat) : List Value → Nat
  | _ :: .int _ r :: l => costN (m - r.toNat) + costL m l
  | _ => 0
theorem costL_is (N : List Key → Option Nat) (m : Nat) : ∀ st : List Plc, costL m (pcells N st) = stCost m st
  | [] => rfl
  | q :: st => by
    show costN (m - ((q.2 : Int)).toNat) + costL m (pcells N st) = costN (m - q.2) + stCost m st
    rw [costL_is N m st, Int.toNat_natCast]
/-- What a slice has whose cells begin its block, two cells each. -/
def rowOf (v : Value) (w : World) : List Value := match v with
  | .slice (some ⟨g, 0, none⟩) n _ => (match w.heap[g]? with
    | some (.cells cur _ _) => cur.toList.take (n * 2)
    | _ => [])
  | _ => []
theorem rowOf_owns {w : World} {base : Nat} {e : TypeId} {v : Value} {n : Nat} {xs : List Value} (h : w.ownsRow base e 2 v n xs) : rowOf v w = xs := by
  rcases h.2 with ⟨rfl, h0⟩ | ⟨g, cap, cur, rfl, hb, hg, hn, hm, hs, ht⟩
  · have : xs = [] := by
      have := h.1
      rw [h0] at this
      exact List.length_eq_zero_iff.1 (by simpa using this)
    rw [this]; rfl
  · show (match w.heap[g]? with
      | some (.cells cur _ _) => cur.toList.take (n * 2)
      | _ => []) = xs
    rw [hg]; exact ht
/-- The first m of a row of one's own. -/
theorem own_first {w : World} {base : Nat} {e t : TypeId} {k n : Nat} {v : Value} {xs : List Value} (h : w.ownsRow base e k v n xs) (ht : Tryz.prog.underlying t = some (.slice e)) (hz : ∀ w, (sizeOf e).run Tryz.prog w = .ok k w) (m : Nat) (hm : m < n) :
    ∃ g c, v = .slice (some ⟨g, 0, none⟩) n c ∧ base ≤ g ∧ g < w.heap.size ∧ (∀ W, (Instr.slice t v none (some (.int .i64 (m : Int))) none).run Tryz.prog W = .ok (.slice (some ⟨g, 0, none⟩) m c) W) ∧ w.ownsRow base e k (.slice (some ⟨g, 0, none⟩) m c) m (xs.take (m * k)) ∧
      (∀ i, i < n → ∀ W, (Instr.indexAt t v (.int .i64 (i : Int))).run Tryz.prog W = .ok (.pointer (some ⟨g, i * k, none⟩)) W) ∧ ∀ j u, xs[j]? = some u → w.cell? ⟨g, j, none⟩ = some u := by
  rcases h.2 with ⟨rfl, h0⟩ | ⟨g, cap, cur, rfl, hb, hg, hn, hcm, hs, hx⟩
  · omega
  · refine ⟨g, cap, rfl, hb, (Array.getElem?_eq_some_iff.1 hg).1, fun W => ?_, ⟨?_, .inr ⟨g, cap, cur, rfl, hb, hg, by omega, hcm, hs, ?_⟩⟩, fun i hi W => ?_, fun j u hu => ?_⟩
    · have hmc : m ≤ cap := by omega
      simp [Instr.slice, run_underlying ht, Instr.sliceBounds, run_sliceBound, Result.andThen, hz, hmc, Addr.add]
    · rw [List.length_take, h.1]
      have : m * k ≤ n * k := Nat.mul_le_mul_right k (by omega)
      omega
    · rw [← hx, List.take_take]
      have : m * k ≤ n * k := Nat.mul_le_mul_right k (by omega)
      rw [Nat.min_eq_left this]
    · have := run_index_at (P := Tryz.prog) ht hz g 0 n cap i hi W
      rwa [Nat.zero_add] at this
    · rw [cell_of_row w g j cur e (0, 0) hg]
      rw [← hx, List.getElem?_take] at hu
      split at hu
      · simpa using hu
      · cases hu
/-- What places are open within a search: each is a node, none is read too far. -/
structure Opens (N : List Key → Option Nat) (m : Nat) (st : List Plc) : Prop where
  node : ∀ q ∈ st, ∃ b, N q.1 = some b
  read : ∀ q ∈ st, q.2 ≤ m
theorem Opens.app {N : List Key → Option Nat} {m : Nat} {st l : List Plc} (h : Opens N m st) (hl : Opens N m l) : Opens N m (st ++ l) :=
  ⟨fun q hq => (List.mem_append.1 hq).elim (h.node q) (hl.node q), fun q hq => (List.mem_append.1 hq).elim (h.read q) (hl.read q)⟩
theorem opens_nil (N : List Key → Option Nat) (m : Nat) : Opens N m [] := ⟨fun q hq => (by cases hq), fun q hq => (by cases hq)⟩
theorem opens_one {N : List Key → Option Nat} {m : Nat} {q : Plc} {b : Nat} (h : N q.1 = some b) (hr : q.2 ≤ m) : Opens N m [q] :=
  ⟨fun p hp => by rw [List.mem_singleton] at hp; rw [hp]; exact ⟨b, h⟩, fun p hp => by rw [List.mem_singleton] at hp; rw [hp]; exact hr⟩
theorem opens_if {N : List Key → Option Nat} {m : Nat} {q : Plc} {p : Prop} [Decidable p] (h : p → ∃ b, N q.1 = some b) (hr : q.2 ≤ m) : Opens N m (if p then [q] else []) := by
  split
  · rename_i hp
    obtain ⟨b, hb⟩ := h hp
    exact opens_one hb hr
  · exact opens_nil N m
/-- Where each place stands: no place has more than two beside it on each step of its way. -/
def Posd (st : List Plc) : Prop := ∀ (i : Nat) (q : Plc), st[i]? = some q → i ≤ 2 * q.1.length ∧ q.1.length ≤ q.2
theorem Posd.init {st : List Plc} {q : Plc} (h : Posd (st ++ [q])) : Posd st := fun i p hp => h i p (by rw [List.getElem?_append_left (List.getElem?_eq_some_iff.1 hp).1]; exact hp)
theorem Posd.last {st : List Plc} {q : Plc} (h : Posd (st ++ [q])) : st.length ≤ 2 * q.1.length ∧ q.1.length ≤ q.2 := h st.length q (by rw [List.getElem?_append_right (Nat.le_refl _), Nat.sub_self]; rfl)
theorem Posd.one {st : List Plc} (h : Posd st) {q : Plc} (h1 : st.length ≤ 2 * q.1.length) (h2 : q.1.length ≤ q.2) : Posd (st ++ [q]) := fun i p hp => by
  rcases Nat.lt_or_ge i st.length with hi | hi
  · rw [List.getElem?_append_left hi] at hp
    exact h i p hp
  · rw [List.getElem?_append_right hi] at hp
    cases hj : i - st.length with
    | zero =>
      rw [hj] at hp
      obtain rfl := Option.some.inj hp
      exact ⟨by omega, h2⟩
    | succ j => rw [hj] at hp; simp at hp
theorem Posd.may {st : List Plc} (h : Posd st) {q : Plc} (b : Prop) [Decidable b] (h1 : st.length ≤ 2 * q.1.length) (h2 : q.1.length ≤ q.2) : Posd (st ++ (if b then [q] else [])) ∧ (st ++ (if b then [q] else [])).length ≤ st.length + 1 := by
  split
  · exact ⟨h.one h1 h2, by simp⟩
  · rw [List.append_nil]; exact ⟨h, Nat.le_succ _⟩
theorem posd_first : Posd [([], 0)] := fun i p hp => by
  cases i with
  | zero => obtain rfl := Option.some.inj hp; exact ⟨Nat.le_refl _, Nat.le_refl _⟩
  | succ j => simp at hp
theorem Posd.on {dom : List Key → Bool} {path : List Txt} {st : List Plc} {q : Plc} (h : Posd (st ++ [q])) (x : Txt) (hq : q.2 < path.length) : Posd (((st ++ onR dom path q) ++ onP dom q x) ++ onL dom q x) := by
  obtain ⟨h1, h2⟩ := h.last
  have e : ∀ c : Key, (q.1 ++ [c]).length = q.1.length + 1 := fun c => by simp
  obtain ⟨a1, a2⟩ := h.init.may (q := (q.1 ++ [Key.rst], path.length)) (dom (q.1 ++ [Key.rst]) = true) (by show _ ≤ 2 * (q.1 ++ [Key.rst]).length; rw [e]; omega) (by show (q.1 ++ [Key.rst]).length ≤ path.length; rw [e]; omega)
  obtain ⟨b1, b2⟩ := a1.may (q := (q.1 ++ [Key.par], q.2 + 1)) (dom (q.1 ++ [Key.par]) = true ∧ x ≠ []) (by show _ ≤ 2 * (q.1 ++ [Key.par]).length; rw [e]; omega) (by show (q.1 ++ [Key.par]).length ≤ q.2 + 1; rw [e]; omega)
  exact (b1.may (q := (q.1 ++ [Key.lit x], q.2 + 1)) (dom (q.1 ++ [Key.lit x]) = true) (by show _ ≤ 2 * (q.1 ++ [Key.lit x]).length; rw [e]; omega) (by show (q.1 ++ [Key.lit x]).length ≤ q.2 + 1; rw [e]; omega)).1
def domN (N : List Key → Option Nat) (k : List Key) : Bool := (N k).isSome
theorem Opens.on {N : List Key → Option Nat} {path : List Txt} {st : List Plc} (h : Opens N path.length st) (q : Plc) (x : Txt) (hq : q.2 < path.length) : Opens N path.length (((st ++ onR (domN N) path q) ++ onP (domN N) q x) ++ onL (domN N) q x) := by
  have h1 : Opens N path.length (onR (domN N) path q) := opens_if (q := (q.1 ++ [.rst], path.length)) (fun h => Option.isSome_iff_exists.1 h) (Nat.le_refl _)
  have h2 : Opens N path.length (onP (domN N) q x) := opens_if (q := (q.1 ++ [.par], q.2 + 1)) (fun h => Option.isSome_iff_exists.1 h.1) hq
  have h3 : Opens N path.length (onL (domN N) q x) := opens_if (q := (q.1 ++ [.lit x], q.2 + 1)) (fun h => Option.isSome_iff_exists.1 h) hq
  exact ((h.app h1).app h2).app h3
/-- The cells of one more place. -/
def cO (o : Option Nat) (r : Nat) : List Value := match o with
  | none => []
  | some b => [.pointer (some ⟨b, 0, none⟩), .int .i64 (r : Int)]
theorem pcells_if (N : List Key → Option Nat) (st : List Plc) (k : List Key) (c : Key) (r : Nat) : pcells N (st ++ (if domN N (k ++ [c]) = true then [(k ++ [c], r)] else [])) = pcells N st ++ cO (N (k ++ [c])) r := by
  unfold domN
  cases h : N (k ++ [c]) with
  | none => rw [if_neg (by simp), List.append_nil]; exact (List.append_nil _).symm
  | some b => rw [if_pos (show (some b).isSome = true from rfl), pcells_snoc, adrV_snoc h]; rfl
theorem pcells_R (N : List Key → Option Nat) (st : List Plc) (path : List Txt) (q : Plc) : pcells N (st ++ onR (domN N) path q) = pcells N st ++ cO (N (q.1 ++ [.rst])) path.length := pcells_if N st q.1 .rst path.length
theorem pcells_P (N : List Key → Option Nat) (st : List Plc) (q : Plc) {x : Txt} (hx : x ≠ []) : pcells N (st ++ onP (domN N) q x) = pcells N st ++ cO (N (q.1 ++ [.par])) (q.2 + 1) := by
  rw [← pcells_if N st q.1 .par (q.2 + 1)]
  unfold onP
  simp only [hx, ne_eq, not_false_eq_true, and_true]
theorem pcells_P0 (N : List Key → Option Nat) (st : List Plc) (q : Plc) : pcells N (st ++ onP (domN N) q []) = pcells N st := by
  unfold onP
  rw [if_neg (fun h => h.2 rfl), List.append_nil]
theorem pcells_L (N : List Key → Option Nat) (st : List Plc) (q : Plc) (x : Txt) : pcells N (st ++ onL (domN N) q x) = pcells N st ++ cO (N (q.1 ++ [.lit x])) (q.2 + 1) := pcells_if N st q.1 (.lit x) (q.2 + 1)
end Go.Proofs.YtendejpkdjkmnaaGreatDoor
/- The landed further of tries of crier/router.methodss walked. -/
namespace Go.Proofs.YtendejpkdjkmnaaGreatDoor
open Go.RowKit
attribute [local go_sem] store_one S_match S_store

theorem elePm : EleK Tryz.prog 107 2 := eleK_of (z := .agg #[.pointer none, .int .i64 0]) (n := 16) (by kernel_rfl) (by omega) rfl
/-- The places so far, and the place that is gone on from, in block pb. -/
structure Furm (w0 : World) (pb : Nat) (pv : Value) (r : Nat) (Vo : Value) (n : Nat) (xs : List Value) (W : World) : Prop where
  own : W.ownsRow w0.heap.size 107 2 Vo n xs
  box : Row W pb #[pv, .int .i64 (r : Int)] 107
  nb : Vo.ownBlock ≠ some pb
  bel : Below w0.heap.size w0 W
theorem Furm.add {w0 : World} {pb : Nat} {pv : Value} {r : Nat} {Vo : Value} {n : Nat} {xs ys : List Value} {W w' : World} (h : Furm w0 pb pv r Vo n xs W) {g cap : Nat} (ho : w'.ownsRow w0.heap.size 107 2 (.slice (some ⟨g, 0, none⟩) (n + 1) cap) (n + 1) (xs ++ ys))
    (hg : W.grownBy w' Vo.ownBlock) (hb : Vo.ownBlock = some g ∨ W.heap.size ≤ g) : Furm w0 pb pv r (.slice (some ⟨g, 0, none⟩) (n + 1) cap) (n + 1) (xs ++ ys) w' :=
  ⟨ho, row_grown h.box hg (Ne.symm h.nb), fun e => by
    have e : g = pb := Option.some.inj e
    have := h.box.lt
    rcases hb with hb | hb
    · exact h.nb (by rw [hb, e])
    · omega, below_grown h.bel hg (fun k hk => (World.ownsRow.lt h.own k hk).1) h.bel.size⟩
/-- What is read at a world. -/
theorem Furm.at_ {w0 : World} {pb : Nat} {r : Nat} {Vo : Value} {n : Nat} {xs : List Value} {W : World} {g : Nat} {R : Nat → Option Role} {N M E : List Key → Option Nat} {C : Nat} {mx : Int} {av : Value} {k : List Key} {b o : Nat} (hN : Nodes w0 g R N M E C mx av) (hk : N k = some b) (ho : o = offK k)
    (h : Furm w0 pb (.pointer (some ⟨b, o, none⟩)) r Vo n xs W) {x : Txt} (hx : x.length ≤ 1000000) : W.cell? ⟨pb, 0, none⟩ = some (.pointer (some ⟨b, o, none⟩)) ∧ W.cell? ⟨pb, 1, none⟩ = some (.int .i64 (r : Int)) ∧
      W.cell? ⟨b, o + 2, none⟩ = some (ptrO (N (k ++ [.rst]))) ∧ W.cell? ⟨b, o + 1, none⟩ = some (ptrO (N (k ++ [.par]))) ∧ W.cell? ⟨b, o, none⟩ = some (mapV (M k)) ∧ (Instr.lookup 72 (mapV (M k)) (S x) false).run Tryz.prog W = .ok (ptrO (N (k ++ [.lit x]))) W := by
  subst ho
  have hn := (hN.below h.bel).node k b hk
  exact ⟨cell_of_row W pb 0 _ _ (0, 0) h.box, cell_of_row W pb 1 _ _ (0, 0) h.box, hn.rst.1, hn.par.1, hn.lits.1, hn.look Tryz.underlying72 zeroNm hx⟩
set_option maxRecDepth 100000 in
set_option maxHeartbeats 2000000 in
theorem furtherm_any {w0 : World} {g : Nat} {R : Nat → Option Role} {N M E : List Key → Option Nat} {C : Nat} {mx : Int} {av : Value} (hN : Nodes w0 g R N M E C mx av) (k : List Key) (b r : Nat) (hk : N k = some b) (st : List Plc) (a : Option Addr) (n c : Nat) (hn : n ≤ 900000)
    (path : List Txt) (Vp : Value) (bp op : Nat) (hT : TA w0 Vp path bp op) (x : Txt) (hx : path[r]? = some x) (hxl : x.length ≤ 1000000) (hpl : path.length ≤ 100000) (w : World) (hB : Below w0.heap.size w0 w) (hO : w.ownsRow w0.heap.size 107 2 (.slice a n c) n (pcells N st)) :
    Calls Tryz.prog 51 #[.agg #[.pointer (some ⟨b, offK k, none⟩), .int .i64 (r : Int)], .slice a n c, Vp] w fun e w' => ∃ a' n' c', e = .returned (.slice a' n' c') ∧
      w'.ownsRow w0.heap.size 107 2 (.slice a' n' c') n' (pcells N (((st ++ onR (domN N) path (k, r)) ++ onP (domN N) (k, r) x) ++ onL (domN N) (k, r) x)) ∧ Below w0.heap.size w0 w' := by
  have hrl : r < path.length := (List.getElem?_eq_some_iff.1 hx).1
  obtain ⟨o, ho⟩ : ∃ o, o = offK k := ⟨_, rfl⟩
  rw [← ho]
  have hF : Furm w0 w.heap.size (.pointer (some ⟨b, o, none⟩)) r (.slice a n c) n (pcells N st) (w.alloc (.cells #[.pointer (some ⟨b, o, none⟩), .int .i64 (r : Int)] 107)) :=
    ⟨own_below hO ((Below.refl _ w).alloc (Nat.le_refl _) _), row_new w _ _, fun e => by have := (World.ownsRow.lt hO _ e).2; omega, hB.trans (((Below.refl _ w).alloc (Nat.le_refl _) _).mono hB.size)⟩
  have hix := fun w' => hT.index r hrl w'
  have hTX : Hid (∀ W, Below w0.heap.size w0 W → W.cell? ⟨bp, op + r, none⟩ = some (S x)) := Lib.hid fun W h => (hT.below h).cell r x hx
  have hlp := fun w' => hT.len 3 w'
  obtain ⟨LP, hLP⟩ : ∃ L, L = path.length := ⟨_, rfl⟩
  rw [← hLP] at hlp
  obtain ⟨q, hq⟩ : ∃ q, q = op + r := ⟨_, rfl⟩
  rw [← hq] at hix hTX
  have HAT : Hid (∀ (Vo : Value) (n : Nat) (xs : List Value) (W : World), Furm w0 w.heap.size (.pointer (some ⟨b, o, none⟩)) r Vo n xs W → W.cell? ⟨w.heap.size, 0, none⟩ = some (.pointer (some ⟨b, o, none⟩)) ∧ W.cell? ⟨w.heap.size, 1, none⟩ = some (.int .i64 (r : Int)) ∧
      W.cell? ⟨b, o + 2, none⟩ = some (ptrO (N (k ++ [.rst]))) ∧ W.cell? ⟨b, o + 1, none⟩ = some (ptrO (N (k ++ [.par]))) ∧ W.cell? ⟨b, o, none⟩ = some (mapV (M k)) ∧ (Instr.lookup 72 (mapV (M k)) (S x) false).run Tryz.prog W = .ok (ptrO (N (k ++ [.lit x]))) W) :=
    Lib.hid fun Vo n xs W h => Furm.at_ hN hk ho h (by omega)
  have hRW : pcells N (((st ++ onR (domN N) path (k, r)) ++ onP (domN N) (k, r) x) ++ onL (domN N) (k, r) x) = ((pcells N st ++ cO (N (k ++ [.rst])) LP) ++ (if x = [] then [] else cO (N (k ++ [.par])) (r + 1))) ++ cO (N (k ++ [.lit x])) (r + 1) := by
    rw [pcells_L]
    by_cases h0 : x = []
    · subst h0
      rw [pcells_P0, pcells_R, if_pos rfl, List.append_nil, hLP]
    · rw [pcells_P _ _ _ h0, pcells_R, if_neg h0, hLP]
  rw [hRW]
  obtain ⟨PO, hPO⟩ : ∃ PO : Ending → World → Prop, PO = fun e w' => ∃ a' n' c', e = .returned (.slice a' n' c') ∧
      w'.ownsRow w0.heap.size 107 2 (.slice a' n' c') n' (((pcells N st ++ cO (N (k ++ [.rst])) LP) ++ (if x = [] then [] else cO (N (k ++ [.par])) (r + 1))) ++ cO (N (k ++ [.lit x])) (r + 1)) ∧ Below w0.heap.size w0 w' := ⟨_, rfl⟩
  rw [← hPO]
  have HPO : Hid (∀ a' n' c' w', w'.ownsRow w0.heap.size 107 2 (.slice a' n' c') n' (((pcells N st ++ cO (N (k ++ [.rst])) LP) ++ (if x = [] then [] else cO (N (k ++ [.par])) (r + 1))) ++ cO (N (k ++ [.lit x])) (r + 1)) → Below w0.heap.size w0 w' → PO (.returned (.slice a' n' c')) w') :=
    Lib.hid fun a' n' c' w' h1 h2 => by rw [hPO]; exact ⟨a', n', c', rfl, h1, h2⟩
  clear hPO
  generalize pcells N st = xs at *
  generalize N (k ++ [.rst]) = NR at *
  generalize N (k ++ [.par]) = NP at *
  generalize N (k ++ [.lit x]) = NL at *
  generalize mapV (M k) = mv at *
  have HF := Lib.hid hF
  have HN := Lib.hid hn
  have hwr : IntKind.i64.wrap ((r : Int) + 1) = ((r + 1 : Nat) : Int) := by rw [IntKind.wrap_i64]; omega
  have n1 : ∀ y z, eqGuard .neq 9 y z (S x) (.string ⟨#[]⟩) = pure () := fun y z => nguard_S 9 y z x []
  have q1 : binOp .neq 9 (S x) (.string ⟨#[]⟩) = pure (.bool (x != [])) := neql_S 9 x []
  obtain ⟨xe, hxe⟩ : ∃ xe : Bool, xe = (x != []) := ⟨_, rfl⟩
  rw [← hxe] at q1
  have HXE : Hid (x = [] ↔ xe = false) := Lib.hid (by rw [hxe, bne_eq_false_iff_eq])
  clear hN hk hT hx hB hO hF hrl hq hRW hxe hLP hn hpl ho hxl
  have f0 := hTX.out _ HF.out.bel
  obtain ⟨f1, f2, f3, f4, f5, f6⟩ := HAT.out _ _ _ _ HF.out
  generalize S x = X at *
  cases NR with
  | none =>
    cases NL with
    | none =>
      cases NP with
      | none =>
        unfold ptrO at *
        have HP2 := HPO.out
        rw [show (if x = [] then [] else cO none (r + 1)) = ([] : List Value) by split <;> rfl] at HP2
        have HP3 := Lib.hid HP2
        clear HP2
        go_enter Tryz.func51, Tryz.ntmps51
        go_wp2
        first
          | (go_ret2; exact HP3.out _ _ _ _ (by simpa [cO] using HF.out.own) HF.out.bel)
          | exact HP3.out _ _ _ _ (by simpa [cO] using HF.out.own) HF.out.bel
      | some np =>
        unfold ptrO at *
        cases xe with
        | false =>
          have HP2 := HPO.out
          rw [if_pos (HXE.out.2 rfl)] at HP2
          have HP3 := Lib.hid HP2
          clear HP2
          go_enter Tryz.func51, Tryz.ntmps51
          go_wp2
          first
            | (go_ret2; exact HP3.out _ _ _ _ (by simpa [cO] using HF.out.own) HF.out.bel)
            | exact HP3.out _ _ _ _ (by simpa [cO] using HF.out.own) HF.out.bel
        | true =>
          have HP2 := HPO.out
          rw [if_neg (fun e => by cases HXE.out.1 e)] at HP2
          have HP3 := Lib.hid HP2
          clear HP2
          go_enter Tryz.func51, Tryz.ntmps51
          go_wp2_with (first
            | (at_builtin; refine wpList_addL rfl 108 107 (.tmp 41) (.tmp 47) rfl Tryz.underlying108 elePm (by decide) w0.heap.size (w.alloc (.cells #[.pointer (some ⟨b, o, none⟩), .int .i64 (r : Int)] 107)) _ rfl n _ HF.out.own #[.pointer (some ⟨np, 0, none⟩), .int .i64 ((r + 1 : Nat) : Int)] rfl (by intro u hu; simp at hu; rcases hu with rfl | rfl <;> rfl) rfl (w.heap.size + 1) (alloc_size _ _) rfl (by have := HN.out; omega) HF.out.bel.size ?_; intro g1 c1 w1 h1 h2 h3 _; have H1 := Lib.hid (HF.out.add h1 h2 h3); obtain ⟨a11, a12, a13, a14, a15, a16⟩ := HAT.out _ _ _ w1 H1.out; clear h1 h2 h3)
            | fail)
          first
            | (go_ret2; exact HP3.out _ _ _ _ (by simpa [cO] using H1.out.own) H1.out.bel)
            | exact HP3.out _ _ _ _ (by simpa [cO] using H1.out.own) H1.out.bel
    | some nl =>
      cases NP with
      | none =>
        unfold ptrO at *
        have HP2 := HPO.out
        rw [show (if x = [] then [] else cO none (r + 1)) = ([] : List Value) by split <;> rfl] at HP2
        have HP3 := Lib.hid HP2
        clear HP2
        go_enter Tryz.func51, Tryz.ntmps51
        go_wp2_with (first
          | (at_builtin; refine wpList_addL rfl 108 107 (.tmp 58) (.tmp 64) rfl Tryz.underlying108 elePm (by decide) w0.heap.size (w.alloc (.cells #[.pointer (some ⟨b, o, none⟩), .int .i64 (r : Int)] 107)) _ rfl n _ HF.out.own #[.pointer (some ⟨nl, 0, none⟩), .int .i64 ((r + 1 : Nat) : Int)] rfl (by intro u hu; simp at hu; rcases hu with rfl | rfl <;> rfl) rfl (w.heap.size + 1) (alloc_size _ _) rfl (by have := HN.out; omega) HF.out.bel.size ?_; intro g1 c1 w1 h1 h2 h3 _; have H1 := Lib.hid (HF.out.add h1 h2 h3); obtain ⟨a11, a12, a13, a14, a15, a16⟩ := HAT.out _ _ _ w1 H1.out; clear h1 h2 h3)
          | fail)
        first
          | (go_ret2; exact HP3.out _ _ _ _ (by simpa [cO] using H1.out.own) H1.out.bel)
          | exact HP3.out _ _ _ _ (by simpa [cO] using H1.out.own) H1.out.bel
      | some np =>
        unfold ptrO at *
        cases xe with
        | false =>
          have HP2 := HPO.out
          rw [if_pos (HXE.out.2 rfl)] at HP2
          have HP3 := Lib.hid HP2
          clear HP2
          go_enter Tryz.func51, Tryz.ntmps51
          go_wp2_with (first
            | (at_builtin; refine wpList_addL rfl 108 107 (.tmp 58) (.tmp 64) rfl Tryz.underlying108 elePm (by decide) w0.heap.size (w.alloc (.cells #[.pointer (some ⟨b, o, none⟩), .int .i64 (r : Int)] 107)) _ rfl n _ HF.out.own #[.pointer (some ⟨nl, 0, none⟩), .int .i64 ((r + 1 : Nat) : Int)] rfl (by intro u hu; simp at hu; rcases hu with rfl | rfl <;> rfl) rfl (w.heap.size + 1) (alloc_size _ _) rfl (by have := HN.out; omega) HF.out.bel.size ?_; intro g1 c1 w1 h1 h2 h3 _; have H1 := Lib.hid (HF.out.add h1 h2 h3); obtain ⟨a11, a12, a13, a14, a15, a16⟩ := HAT.out _ _ _ w1 H1.out; clear h1 h2 h3)
            | fail)
          first
            | (go_ret2; exact HP3.out _ _ _ _ (by simpa [cO] using H1.out.own) H1.out.bel)
            | exact HP3.out _ _ _ _ (by simpa [cO] using H1.out.own) H1.out.bel
        | true =>
          have HP2 := HPO.out
          rw [if_neg (fun e => by cases HXE.out.1 e)] at HP2
          have HP3 := Lib.hid HP2
          clear HP2
          go_enter Tryz.func51, Tryz.ntmps51
          go_wp2_with (first
            | (at_builtin; refine wpList_addL rfl 108 107 (.tmp 41) (.tmp 47) rfl Tryz.underlying108 elePm (by decide) w0.heap.size (w.alloc (.cells #[.pointer (some ⟨b, o, none⟩), .int .i64 (r : Int)] 107)) _ rfl n _ HF.out.own #[.pointer (some ⟨np, 0, none⟩), .int .i64 ((r + 1 : Nat) : Int)] rfl (by intro u hu; simp at hu; rcases hu with rfl | rfl <;> rfl) rfl (w.heap.size + 1) (alloc_size _ _) rfl (by have := HN.out; omega) HF.out.bel.size ?_; intro g1 c1 w1 h1 h2 h3 _; have H1 := Lib.hid (HF.out.add h1 h2 h3); obtain ⟨a11, a12, a13, a14, a15, a16⟩ := HAT.out _ _ _ w1 H1.out; clear h1 h2 h3)
            | (at_builtin; refine wpList_addL rfl 108 107 (.tmp 58) (.tmp 64) rfl Tryz.underlying108 elePm (by decide) w0.heap.size w1 _ rfl (n + 1) _ H1.out.own #[.pointer (some ⟨nl, 0, none⟩), .int .i64 ((r + 1 : Nat) : Int)] rfl (by intro u hu; simp at hu; rcases hu with rfl | rfl <;> rfl) rfl _ rfl rfl (by have := HN.out; omega) H1.out.bel.size ?_; intro g2 c2 w2 h1 h2 h3 _; have H2 := Lib.hid (H1.out.add h1 h2 h3); obtain ⟨a21, a22, a23, a24, a25, a26⟩ := HAT.out _ _ _ w2 H2.out; clear h1 h2 h3)
            | fail)
          first
            | (go_ret2; exact HP3.out _ _ _ _ (by simpa [cO] using H2.out.own) H2.out.bel)
            | exact HP3.out _ _ _ _ (by simpa [cO] using H2.out.own) H2.out.bel
  | some nr =>
    cases NL with
    | none =>
      cases NP with
      | none =>
        unfold ptrO at *
        have HP2 := HPO.out
        rw [show (if x = [] then [] else cO none (r + 1)) = ([] : List Value) by split <;> rfl] at HP2
        have HP3 := Lib.hid HP2
        clear HP2
        go_enter Tryz.func51, Tryz.ntmps51
        go_wp2_with (first
          | (at_builtin; refine wpList_addL rfl 108 107 (.tmp 23) (.tmp 28) rfl Tryz.underlying108 elePm (by decide) w0.heap.size (w.alloc (.cells #[.pointer (some ⟨b, o, none⟩), .int .i64 (r : Int)] 107)) _ rfl n _ HF.out.own #[.pointer (some ⟨nr, 0, none⟩), .int .i64 (LP : Int)] rfl (by intro u hu; simp at hu; rcases hu with rfl | rfl <;> rfl) rfl (w.heap.size + 1) (alloc_size _ _) rfl (by have := HN.out; omega) HF.out.bel.size ?_; intro g1 c1 w1 h1 h2 h3 _; have H1 := Lib.hid (HF.out.add h1 h2 h3); obtain ⟨a11, a12, a13, a14, a15, a16⟩ := HAT.out _ _ _ w1 H1.out; clear h1 h2 h3)
          | fail)
        first
          | (go_ret2; exact HP3.out _ _ _ _ (by simpa [cO] using H1.out.own) H1.out.bel)
          | exact HP3.out _ _ _ _ (by simpa [cO] using H1.out.own) H1.out.bel
      | some np =>
        unfold ptrO at *
        cases xe with
        | false =>
          have HP2 := HPO.out
          rw [if_pos (HXE.out.2 rfl)] at HP2
          have HP3 := Lib.hid HP2
          clear HP2
          go_enter Tryz.func51, Tryz.ntmps51
          go_wp2_with (first
            | (at_builtin; refine wpList_addL rfl 108 107 (.tmp 23) (.tmp 28) rfl Tryz.underlying108 elePm (by decide) w0.heap.size (w.alloc (.cells #[.pointer (some ⟨b, o, none⟩), .int .i64 (r : Int)] 107)) _ rfl n _ HF.out.own #[.pointer (some ⟨nr, 0, none⟩), .int .i64 (LP : Int)] rfl (by intro u hu; simp at hu; rcases hu with rfl | rfl <;> rfl) rfl (w.heap.size + 1) (alloc_size _ _) rfl (by have := HN.out; omega) HF.out.bel.size ?_; intro g1 c1 w1 h1 h2 h3 _; have H1 := Lib.hid (HF.out.add h1 h2 h3); obtain ⟨a11, a12, a13, a14, a15, a16⟩ := HAT.out _ _ _ w1 H1.out; clear h1 h2 h3)
            | fail)
          first
            | (go_ret2; exact HP3.out _ _ _ _ (by simpa [cO] using H1.out.own) H1.out.bel)
            | exact HP3.out _ _ _ _ (by simpa [cO] using H1.out.own) H1.out.bel
        | true =>
          have HP2 := HPO.out
          rw [if_neg (fun e => by cases HXE.out.1 e)] at HP2
          have HP3 := Lib.hid HP2
          clear HP2
          go_enter Tryz.func51, Tryz.ntmps51
          go_wp2_with (first
            | (at_builtin; refine wpList_addL rfl 108 107 (.tmp 23) (.tmp 28) rfl Tryz.underlying108 elePm (by decide) w0.heap.size (w.alloc (.cells #[.pointer (some ⟨b, o, none⟩), .int .i64 (r : Int)] 107)) _ rfl n _ HF.out.own #[.pointer (some ⟨nr, 0, none⟩), .int .i64 (LP : Int)] rfl (by intro u hu; simp at hu; rcases hu with rfl | rfl <;> rfl) rfl (w.heap.size + 1) (alloc_size _ _) rfl (by have := HN.out; omega) HF.out.bel.size ?_; intro g1 c1 w1 h1 h2 h3 _; have H1 := Lib.hid (HF.out.add h1 h2 h3); obtain ⟨a11, a12, a13, a14, a15, a16⟩ := HAT.out _ _ _ w1 H1.out; clear h1 h2 h3)
            | (at_builtin; refine wpList_addL rfl 108 107 (.tmp 41) (.tmp 47) rfl Tryz.underlying108 elePm (by decide) w0.heap.size w1 _ rfl (n + 1) _ H1.out.own #[.pointer (some ⟨np, 0, none⟩), .int .i64 ((r + 1 : Nat) : Int)] rfl (by intro u hu; simp at hu; rcases hu with rfl | rfl <;> rfl) rfl _ rfl rfl (by have := HN.out; omega) H1.out.bel.size ?_; intro g2 c2 w2 h1 h2 h3 _; have H2 := Lib.hid (H1.out.add h1 h2 h3); obtain ⟨a21, a22, a23, a24, a25, a26⟩ := HAT.out _ _ _ w2 H2.out; clear h1 h2 h3)
            | fail)
          first
            | (go_ret2; exact HP3.out _ _ _ _ (by simpa [cO] using H2.out.own) H2.out.bel)
            | exact HP3.out _ _ _ _ (by simpa [cO] using H2.out.own) H2.out.bel
    | some nl =>
      cases NP with
      | none =>
        unfold ptrO at *
        have HP2 := HPO.out
        rw [show (if x = [] then [] else cO none (r + 1)) = ([] : List Value) by split <;> rfl] at HP2
        have HP3 := Lib.hid HP2
        clear HP2
        go_enter Tryz.func51, Tryz.ntmps51
        go_wp2_with (first
          | (at_builtin; refine wpList_addL rfl 108 107 (.tmp 23) (.tmp 28) rfl Tryz.underlying108 elePm (by decide) w0.heap.size (w.alloc (.cells #[.pointer (some ⟨b, o, none⟩), .int .i64 (r : Int)] 107)) _ rfl n _ HF.out.own #[.pointer (some ⟨nr, 0, none⟩), .int .i64 (LP : Int)] rfl (by intro u hu; simp at hu; rcases hu with rfl | rfl <;> rfl) rfl (w.heap.size + 1) (alloc_size _ _) rfl (by have := HN.out; omega) HF.out.bel.size ?_; intro g1 c1 w1 h1 h2 h3 _; have H1 := Lib.hid (HF.out.add h1 h2 h3); obtain ⟨a11, a12, a13, a14, a15, a16⟩ := HAT.out _ _ _ w1 H1.out; clear h1 h2 h3)
          | (at_builtin; refine wpList_addL rfl 108 107 (.tmp 58) (.tmp 64) rfl Tryz.underlying108 elePm (by decide) w0.heap.size w1 _ rfl (n + 1) _ H1.out.own #[.pointer (some ⟨nl, 0, none⟩), .int .i64 ((r + 1 : Nat) : Int)] rfl (by intro u hu; simp at hu; rcases hu with rfl | rfl <;> rfl) rfl _ rfl rfl (by have := HN.out; omega) H1.out.bel.size ?_; intro g2 c2 w2 h1 h2 h3 _; have H2 := Lib.hid (H1.out.add h1 h2 h3); obtain ⟨a21, a22, a23, a24, a25, a26⟩ := HAT.out _ _ _ w2 H2.out; clear h1 h2 h3)
          | fail)
        first
          | (go_ret2; exact HP3.out _ _ _ _ (by simpa [cO] using H2.out.own) H2.out.bel)
          | exact HP3.out _ _ _ _ (by simpa [cO] using H2.out.own) H2.out.bel
      | some np =>
        unfold ptrO at *
        cases xe with
        | false =>
          have HP2 := HPO.out
          rw [if_pos (HXE.out.2 rfl)] at HP2
          have HP3 := Lib.hid HP2
          clear HP2
          go_enter Tryz.func51, Tryz.ntmps51
          go_wp2_with (first
            | (at_builtin; refine wpList_addL rfl 108 107 (.tmp 23) (.tmp 28) rfl Tryz.underlying108 elePm (by decide) w0.heap.size (w.alloc (.cells #[.pointer (some ⟨b, o, none⟩), .int .i64 (r : Int)] 107)) _ rfl n _ HF.out.own #[.pointer (some ⟨nr, 0, none⟩), .int .i64 (LP : Int)] rfl (by intro u hu; simp at hu; rcases hu with rfl | rfl <;> rfl) rfl (w.heap.size + 1) (alloc_size _ _) rfl (by have := HN.out; omega) HF.out.bel.size ?_; intro g1 c1 w1 h1 h2 h3 _; have H1 := Lib.hid (HF.out.add h1 h2 h3); obtain ⟨a11, a12, a13, a14, a15, a16⟩ := HAT.out _ _ _ w1 H1.out; clear h1 h2 h3)
            | (at_builtin; refine wpList_addL rfl 108 107 (.tmp 58) (.tmp 64) rfl Tryz.underlying108 elePm (by decide) w0.heap.size w1 _ rfl (n + 1) _ H1.out.own #[.pointer (some ⟨nl, 0, none⟩), .int .i64 ((r + 1 : Nat) : Int)] rfl (by intro u hu; simp at hu; rcases hu with rfl | rfl <;> rfl) rfl _ rfl rfl (by have := HN.out; omega) H1.out.bel.size ?_; intro g2 c2 w2 h1 h2 h3 _; have H2 := Lib.hid (H1.out.add h1 h2 h3); obtain ⟨a21, a22, a23, a24, a25, a26⟩ := HAT.out _ _ _ w2 H2.out; clear h1 h2 h3)
            | fail)
          first
            | (go_ret2; exact HP3.out _ _ _ _ (by simpa [cO] using H2.out.own) H2.out.bel)
            | exact HP3.out _ _ _ _ (by simpa [cO] using H2.out.own) H2.out.bel
        | true =>
          have HP2 := HPO.out
          rw [if_neg (fun e => by cases HXE.out.1 e)] at HP2
          have HP3 := Lib.hid HP2
          clear HP2
          go_enter Tryz.func51, Tryz.ntmps51
          go_wp2_with (first
            | (at_builtin; refine wpList_addL rfl 108 107 (.tmp 23) (.tmp 28) rfl Tryz.underlying108 elePm (by decide) w0.heap.size (w.alloc (.cells #[.pointer (some ⟨b, o, none⟩), .int .i64 (r : Int)] 107)) _ rfl n _ HF.out.own #[.pointer (some ⟨nr, 0, none⟩), .int .i64 (LP : Int)] rfl (by intro u hu; simp at hu; rcases hu with rfl | rfl <;> rfl) rfl (w.heap.size + 1) (alloc_size _ _) rfl (by have := HN.out; omega) HF.out.bel.size ?_; intro g1 c1 w1 h1 h2 h3 _; have H1 := Lib.hid (HF.out.add h1 h2 h3); obtain ⟨a11, a12, a13, a14, a15, a16⟩ := HAT.out _ _ _ w1 H1.out; clear h1 h2 h3)
            | (at_builtin; refine wpList_addL rfl 108 107 (.tmp 41) (.tmp 47) rfl Tryz.underlying108 elePm (by decide) w0.heap.size w1 _ rfl (n + 1) _ H1.out.own #[.pointer (some ⟨np, 0, none⟩), .int .i64 ((r + 1 : Nat) : Int)] rfl (by intro u hu; simp at hu; rcases hu with rfl | rfl <;> rfl) rfl _ rfl rfl (by have := HN.out; omega) H1.out.bel.size ?_; intro g2 c2 w2 h1 h2 h3 _; have H2 := Lib.hid (H1.out.add h1 h2 h3); obtain ⟨a21, a22, a23, a24, a25, a26⟩ := HAT.out _ _ _ w2 H2.out; clear h1 h2 h3)
            | (at_builtin; refine wpList_addL rfl 108 107 (.tmp 58) (.tmp 64) rfl Tryz.underlying108 elePm (by decide) w0.heap.size w2 _ rfl ((n + 1) + 1) _ H2.out.own #[.pointer (some ⟨nl, 0, none⟩), .int .i64 ((r + 1 : Nat) : Int)] rfl (by intro u hu; simp at hu; rcases hu with rfl | rfl <;> rfl) rfl _ rfl rfl (by have := HN.out; omega) H2.out.bel.size ?_; intro g3 c3 w3 h1 h2 h3 _; have H3 := Lib.hid (H2.out.add h1 h2 h3); obtain ⟨a31, a32, a33, a34, a35, a36⟩ := HAT.out _ _ _ w3 H3.out; clear h1 h2 h3)
            | fail)
          first
            | (go_ret2; exact HP3.out _ _ _ _ (by simpa [cO] using H3.out.own) H3.out.bel)
            | exact HP3.out _ _ _ _ (by simpa [cO] using H3.out.own) H3.out.bel
end Go.Proofs.YtendejpkdjkmnaaGreatDoor
/- The landed best of tries of crier/router.methodss walked. -/
namespace Go.Proofs.YtendejpkdjkmnaaGreatDoor
open Go.RowKit
attribute [local go_sem] store_one S_match S_store

/-- A search so far. -/
structure BestAtm (w : World) (N E : List Key → Option Nat) (path : List Txt) (ANS : Option Nat) (ov : Value) (n : Nat) (wr : World) (st : List Plc) : Prop where
  own : wr.ownsRow w.heap.size 107 2 ov n (pcells N st)
  bel : Below w.heap.size w wr
  opens : Opens N path.length st
  pos : Posd st
  ok : srch (domN N) E path st = ANS
theorem BestAtm.len {w : World} {N E : List Key → Option Nat} {path : List Txt} {ANS : Option Nat} {ov : Value} {n : Nat} {wr : World} {st : List Plc} (h : BestAtm w N E path ANS ov n wr st) : n = st.length := by
  have h1 := h.own.1
  rw [pcells_len] at h1
  omega
set_option maxRecDepth 100000 in
set_option maxHeartbeats 2000000 in
theorem bestm_any {w : World} {g : Nat} {R : Nat → Option Role} {N M E : List Key → Option Nat} {C : Nat} {mx : Int} {av : Value} (hN : Nodes w g R N M E C mx av) (path : List Txt) (Vp : Value) (bp op : Nat) (hT : TA w Vp path bp op) (hP : path.length ≤ 100000 ∧ ∀ x ∈ path, x.length ≤ 1000000) :
    Calls Tryz.prog 30 #[.pointer (some ⟨g, 1, none⟩), Vp] w fun e w' => e = .returned (ptrO (findK (domN N) E [] path)) ∧ Below w.heap.size w w' := by
  obtain ⟨ANS, hANS⟩ : ∃ A, A = findK (domN N) E [] path := ⟨_, rfl⟩
  rw [← hANS]
  have hlp := fun w' => hT.len 3 w'
  obtain ⟨LP, hLP⟩ : ∃ L, L = path.length := ⟨_, rfl⟩
  rw [← hLP] at hlp
  have HLP := Lib.hid hLP
  have HN := Lib.hid hN
  have HT := Lib.hid hT
  have HP := Lib.hid hP
  have HI : Hid (BestAtm w N E path ANS (.slice (some ⟨w.heap.size, 0, none⟩) 1 1) 1 (w.alloc (.cells #[.pointer (some ⟨g, 1, none⟩), .int .i64 0] 107)) [([], 0)]) := Lib.hid (by
    have hc : pcells N [([], 0)] = [.pointer (some ⟨g, 1, none⟩), .int .i64 0] := by
      show [adrV N [], .int .i64 ((0 : Nat) : Int)] = _
      rw [adrV_some hN.root]; rfl
    refine ⟨?_, (Below.refl _ w).alloc (Nat.le_refl _) _, opens_one hN.root (Nat.zero_le _), posd_first, ?_⟩
    · rw [hc]
      exact ⟨rfl, .inr ⟨w.heap.size, 1, _, rfl, Nat.le_refl _, heap_alloc_new w _, Nat.le_refl _, by simp [maxLen], rfl, rfl⟩⟩
    · have := srch_snoc (dom := domN N) (here := E) (path := path) [] ([], 0)
      rw [List.nil_append] at this
      rw [this, srch_nil, Option.or_none, hANS]; rfl)
  clear hLP hN hT hP hANS
  go_enter Tryz.func30, Tryz.ntmps30
  go_wp2
  go_loopw [5] (fun ov wr => ∃ (a : Option Addr) (n c : Nat), ov = .slice a n c ∧ Hid (∃ st, BestAtm w N E path ANS (.slice a n c) n wr st)) (fun ov wr => costL path.length (rowOf ov wr))
  case atStart => exact ⟨some ⟨w.heap.size, 0, none⟩, 1, 1, rfl, Lib.hid ⟨_, HI.out⟩⟩
  case round =>
    obtain ⟨a, n, c, rfl, HR⟩ := hrel
    obtain ⟨st, hS⟩ := HR.out
    have hn := hS.len
    by_cases h0 : n = 0
    case pos =>
      subst h0
      have hst : st = [] := List.length_eq_zero_iff.1 hn.symm
      have HA : Hid (ANS = none) := Lib.hid (by have := hS.ok; rw [hst, srch_nil] at this; exact this.symm)
      have HB := Lib.hid hS.bel
      clear hS hn hst HR
      go_wp2
      go_ret
      exact ⟨by rw [HA.out]; rfl, HB.out⟩
    case neg =>
      have hz : decide (0 < n) = true := decide_eq_true (by omega)
      obtain ⟨m, hm⟩ : ∃ m, n = m + 1 := ⟨n - 1, by omega⟩
      obtain ⟨st', q, hsq⟩ : ∃ st' q, st = st' ++ [q] := by
        rcases List.eq_nil_or_concat st with h | ⟨st', q, h⟩
        · rw [h] at hn; simp at hn; omega
        · exact ⟨st', q, by rw [h, List.concat_eq_append]⟩
      subst hsq
      have hm' : st'.length = m := by rw [List.length_append, List.length_singleton] at hn; omega
      have hm9 : m ≤ 900000 := by
        have h1 := hS.pos.last
        have h2 := hS.opens.read q (by simp)
        have := HP.out.1
        omega
      have hw0 : IntKind.i64.wrap ((n : Int) - 1) = (m : Int) := by
        rw [IntKind.wrap_i64]; omega
      obtain ⟨gb, c1', hv, hbase, hgl, hsl, hown, hidx, hcell⟩ := own_first hS.own Tryz.underlying108 Tryz.sizeOf107 m (by omega)
      injection hv with e1 e2 e3
      subst e1 e3
      clear e2
      have hix := fun W => hidx m (by omega) W
      have hpc : pcells N (st' ++ [q]) = pcells N st' ++ [adrV N q.1, .int .i64 (q.2 : Int)] := pcells_snoc N st' q
      have hpl : (pcells N st').length = m * 2 := by rw [pcells_len, hm']
      obtain ⟨b, hb⟩ := hS.opens.node q (by simp)
      have hread := hS.opens.read q (by simp)
      have c0 : wr.cell? ⟨gb, m * 2, none⟩ = some (.pointer (some ⟨b, offK q.1, none⟩)) := hcell (m * 2) _ (by rw [hpc, List.getElem?_append_right (by omega), hpl, Nat.sub_self, adrV_some hb]; rfl)
      have c1 : wr.cell? ⟨gb, m * 2 + 1, none⟩ = some (.int .i64 (q.2 : Int)) := hcell (m * 2 + 1) _ (by rw [hpc, List.getElem?_append_right (by omega), hpl, show m * 2 + 1 - m * 2 = 1 by omega]; rfl)
      rw [hpc, List.take_left' hpl] at hown
      have hsrch := hS.ok
      rw [srch_snoc] at hsrch
      have HPS := Lib.hid hS.pos
      have hvar : costL path.length (rowOf (.slice (some ⟨gb, 0, none⟩) n c) wr) = stCost path.length (st' ++ [q]) := by rw [rowOf_owns hS.own, costL_is]
      have HOP : Hid (Opens N path.length st') := Lib.hid ⟨fun p hp => hS.opens.node p (List.mem_append_left _ hp), fun p hp => hS.opens.read p (List.mem_append_left _ hp)⟩
      obtain ⟨mm, hmm⟩ : ∃ mm, mm = m * 2 := ⟨_, rfl⟩
      rw [← hmm] at hix c0 c1
      obtain ⟨o, ho⟩ : ∃ o, o = offK q.1 := ⟨_, rfl⟩
      rw [← ho] at c0
      have hbox := (Below.refl _ wr).alloc (Nat.le_refl _) (.cells #[.pointer (some ⟨b, o, none⟩), .int .i64 (q.2 : Int)] 107)
      have hB2 := hS.bel.trans (hbox.mono hS.bel.size)
      have HB2 := Lib.hid hB2
      have hown2 := own_below hown hbox
      have HW2 := Lib.hid hown2
      obtain ⟨k, r⟩ := q
      by_cases hr : r < LP
      case pos =>
        have g1 : decide ((r : Int) < (LP : Int)) = true := decide_eq_true (by omega)
        obtain ⟨x, hx⟩ : ∃ x, path[r]? = some x := ⟨path[r]'(by have := HLP.out; omega), List.getElem?_eq_getElem _⟩
        have hfu := furtherm_any HN.out k b r hb st' (some ⟨gb, 0, none⟩) m c hm9 path Vp bp op HT.out x hx (by have := HP.out.2 x (List.mem_of_getElem? hx); omega) HP.out.1 _ hB2 hown2
        rw [← ho] at hfu
        have HFU := Lib.hid hfu
        clear hfu
        have HE : Hid (∀ (a' : Option Addr) (n' c' : Nat) (W' : World), W'.ownsRow w.heap.size 107 2 (.slice a' n' c') n' (pcells N (((st' ++ onR (domN N) path (k, r)) ++ onP (domN N) (k, r) x) ++ onL (domN N) (k, r) x)) → Below w.heap.size w W' →
            (∃ st, BestAtm w N E path ANS (.slice a' n' c') n' W' st) ∧ costL path.length (rowOf (.slice a' n' c') W') < costL path.length (rowOf (.slice (some ⟨gb, 0, none⟩) n c) wr)) := Lib.hid fun a' n' c' W' h1 h2 => by
          have h3 := stCost_on (dom := domN N) st' (k, r) x (by have := HLP.out; show r < path.length; omega)
          refine ⟨⟨_, h1, h2, HOP.out.on (k, r) x (by have := HLP.out; show r < path.length; omega), HPS.out.on x (by have := HLP.out; show r < path.length; omega), ?_⟩, ?_⟩
          · rw [srch_on _ _ x hx]; exact hsrch
          · rw [hvar, rowOf_owns h1, costL_is]; omega
        clear hS HR hn hm hm' hidx hcell hown hpc hpl hsrch hvar hmm ho hbox hB2 hown2 hb hread hx hm9 hbase hgl h0
        go_wp2_with fail
        refine HFU.out.mono ?_
        rintro e W' ⟨a', n', c', rfl, h1, h2⟩
        obtain ⟨h3, h4⟩ := HE.out a' n' c' W' h1 h2
        have H3 := Lib.hid h3
        have H4 := Lib.hid h4
        clear h1 h2 h3 h4
        go_wp2
        exact ⟨⟨a', n', c', rfl, H3⟩, H4.out⟩
      case neg =>
        have g1 : decide ((r : Int) < (LP : Int)) = false := decide_eq_false (by omega)
        have hend : plcF (domN N) E path (k, r) = E k := plc_end (k, r) (by have := HLP.out; show path.length ≤ r; omega)
        rw [hend] at hsrch
        have hnd := (HN.out.below hB2).node k b hb
        rw [← ho] at hnd
        have f3 := hnd.fin.1
        cases hE : E k with
        | some e =>
          rw [hE] at hsrch f3
          have HA : Hid (ANS = some e) := Lib.hid hsrch.symm
          unfold ptrO at f3
          clear hS HR hn hm hm' hidx hcell hown hpc hpl hsrch hvar hmm ho hbox hB2 hown2 hb hread hm9 hbase hgl h0 hnd hend hE
          go_wp2
          go_ret
          exact ⟨by rw [HA.out]; rfl, HB2.out⟩
        | none =>
          rw [hE, Option.none_or] at hsrch
          rw [hE] at f3
          have hadd : stCost path.length (st' ++ [(k, r)]) = stCost path.length st' + costN (path.length - r) := by rw [stCost_app, stCost_one]
          have hpos := cost_pos (path.length - r)
          have H3 : Hid (∃ st, BestAtm w N E path ANS (.slice (some ⟨gb, 0, none⟩) m c) m (wr.alloc (.cells #[.pointer (some ⟨b, o, none⟩), .int .i64 (r : Int)] 107)) st) := Lib.hid ⟨st', hown2, hB2, HOP.out, HPS.out.init, hsrch⟩
          have H4 : Hid (costL path.length (rowOf (.slice (some ⟨gb, 0, none⟩) m c) (wr.alloc (.cells #[.pointer (some ⟨b, o, none⟩), .int .i64 (r : Int)] 107))) < costL path.length (rowOf (.slice (some ⟨gb, 0, none⟩) n c) wr)) := Lib.hid (by
            rw [hvar, rowOf_owns hown2, costL_is]; omega)
          unfold ptrO at f3
          clear hS HR hn hm hm' hidx hcell hown hpc hpl hsrch hvar hmm ho hbox hB2 hown2 hb hread hm9 hbase hgl h0 hnd hend hE hadd hpos
          go_wp2
          exact ⟨⟨_, m, c, rfl, H3⟩, H4.out⟩
end Go.Proofs.YtendejpkdjkmnaaGreatDoor
/- What is asked of the package of tries, of any type; a trie and what lies beside it. -/
namespace Go.Proofs.YtendejpkdjkmnaaGreatDoor
open Go.RowKit

section
variable {β : Type}
def fdX (z : β) (o : Option (Txt × β)) : β := (o.map (·.2)).getD z
def fdP (o : Option (Txt × β)) : Txt := (o.map (·.1)).getD []
def fdF (o : Option (Txt × β)) (path : List Txt) : List (Txt × Txt) := match o with
  | none => []
  | some e => paramsF (segD e.1) path
/-- Paths that are asked for. -/
def PathOk (path : List Txt) : Prop := path.length ≤ 12 ∧ ∀ s ∈ path, s.length ≤ 40
/-- What is asked of tries of one type: a shape (the trie of block g may turn the blocks F; it has l, and may have max), and what each call does. -/
structure TrieI (val : β → Value) (zero : β) (nw ad fd : FuncId) (w0 : World) (RA : World → (Nat → Prop) → Nat → Int → Ents β → Prop) : Prop where
  lt : ∀ {w : World} {F : Nat → Prop} {g : Nat} {max : Int} {l : Ents β}, RA w F g max l → F g ∧ ∀ k, F k → k < w.heap.size
  same : ∀ {w w' : World} {F : Nat → Prop} {g : Nat} {max : Int} {l : Ents β}, RA w F g max l → w.heap.size ≤ w'.heap.size → (∀ k, F k → w'.heap[k]? = w.heap[k]?) → RA w' F g max l
  new : ∀ (max : Nat) (w : World), max ≤ 100 → Below w0.heap.size w0 w → Calls Tryz.prog nw #[.int .i64 (max : Int)] w fun e w' => ∃ g F, e = .returned (.pointer (some ⟨g, 0, none⟩)) ∧ RA w' F g max [] ∧ (∀ k, F k → w.heap.size ≤ k) ∧ Below w.heap.size w w'
  add : ∀ {w : World} {F : Nat → Prop} {g : Nat} {max : Int} {l : Ents β} (p : Txt) (x : β), RA w F g max l → Below w0.heap.size w0 w → p.length ≤ 200 →
    Calls Tryz.prog ad #[.pointer (some ⟨g, 0, none⟩), S p, val x] w fun e w' => e = .returned (.int .i64 ((addE max l p x).1 : Int)) ∧ ∃ F', RA w' F' g max (addE max l p x).2 ∧ Moves F F' w w'
  find : ∀ {w : World} {F : Nat → Prop} {g : Nat} {max : Int} {l : Ents β} (path : List Txt) (V : Value) (b o : Nat) (r : Option (Txt × β)), RA w F g max l → Below w0.heap.size w0 w → TA w V path b o → PathOk path → FindIs l path r →
    Calls Tryz.prog fd #[.pointer (some ⟨g, 0, none⟩), V] w fun e w' => ∃ VF gf o', e = .returned (.tuple #[val (fdX zero r), VF, S (fdP r), .bool r.isSome]) ∧ FA w' VF (fdF r path) gf o' ∧ (fdF r path = [] ∨ (w.heap.size ≤ gf ∧ gf < w'.heap.size)) ∧ Below w.heap.size w w'
/-- All: the patterns, as they were added. -/
structure AllI (al : FuncId) (w0 : World) (RA : World → (Nat → Prop) → Nat → Int → Ents β → Prop) : Prop where
  all : ∀ {w : World} {F : Nat → Prop} {g : Nat} {max : Int} {l : Ents β}, RA w F g max l → Below w0.heap.size w0 w →
    Calls Tryz.prog al #[.pointer (some ⟨g, 0, none⟩)] w fun e w' => ∃ V b o, e = .returned V ∧ TA w' V (l.map (·.1)) b o ∧ Below w.heap.size w w'
/-- A trie whose blocks are new. -/
structure OneT (RA : World → (Nat → Prop) → Nat → Int → Ents β → Prop) (w : World) (g : Nat) (max : Int) (l : Ents β) (W : World) : Prop where
  ex : ∃ F, RA W F g max l ∧ ∀ k, F k → w.heap.size ≤ k
  bel : Below w.heap.size w W
/-- A trie, and a row of fields that it does not turn. -/
structure RowT (RA : World → (Nat → Prop) → Nat → Int → Ents β → Prop) (w : World) (g : Nat) (max : Int) (l : Ents β) (V : Value) (fs : List (Txt × Txt)) (gf o : Nat) (W : World) : Prop where
  ex : ∃ F, RA W F g max l ∧ (∀ k, F k → w.heap.size ≤ k) ∧ (fs = [] ∨ (gf < W.heap.size ∧ ¬ F gf))
  row : FA W V fs gf o
  bel : Below w.heap.size w W
theorem FA.moves {F F' : Nat → Prop} {w w' : World} {V : Value} {fs : List (Txt × Txt)} {b o : Nat} (h : FA w V fs b o) (hm : Moves F F' w w') (ha : fs = [] ∨ (b < w.heap.size ∧ ¬ F b)) : FA w' V fs b o :=
  ⟨h.len, h.index, fun i f hf => by
    have h3 : b < w.heap.size ∧ ¬ F b := ha.resolve_left fun e => by rw [e] at hf; simp at hf
    obtain ⟨h1, h2⟩ := h.cell i f hf
    exact ⟨by rw [World.cell?_of_block (w := w) (hm.rest b h3.1 h3.2)]; exact h1, by rw [World.cell?_of_block (w := w) (hm.rest b h3.1 h3.2)]; exact h2⟩, h.form⟩
/-- Two of them, side by side. -/
structure TwoT (RA : World → (Nat → Prop) → Nat → Int → Ents β → Prop) (w : World) (g : Nat) (max : Int) (l : Ents β) (g' : Nat) (max' : Int) (l' : Ents β) (W : World) : Prop where
  ex : ∃ F F', RA W F g max l ∧ RA W F' g' max' l' ∧ (∀ k, F k → w.heap.size ≤ k ∧ ¬ F' k) ∧ ∀ k, F' k → w.heap.size ≤ k
  bel : Below w.heap.size w W
section
variable {val : β → Value} {zero : β} {nw ad fd al : FuncId} {RA : World → (Nat → Prop) → Nat → Int → Ents β → Prop} {w W W' : World} {g g' : Nat} {max max' : Int} {l l' : Ents β}
theorem TrieI.up (C : TrieI val zero nw ad fd w RA) (h : Below w.heap.size w W) : TrieI val zero nw ad fd W RA := { C with
  new := fun m a k b => C.new m a k (h.trans (b.mono h.size))
  add := fun p x a b => C.add p x a (h.trans (b.mono h.size))
  find := fun p V b o r a c => C.find p V b o r a (h.trans (c.mono h.size)) }
theorem AllI.up (C : AllI al w RA) (h : Below w.heap.size w W) : AllI al W RA := ⟨fun a b => C.all a (h.trans (b.mono h.size))⟩
theorem TrieI.below {F : Nat → Prop} (C : TrieI val zero nw ad fd w RA) (h : RA W F g max l) (hb : Below W.heap.size W W') : RA W' F g max l := C.same h hb.size (fun k hk => hb.block k ((C.lt h).2 k hk))
theorem OneT.below (C : TrieI val zero nw ad fd w RA) (h : OneT RA w g max l W) (hb : Below W.heap.size W W') : OneT RA w g max l W' := by
  obtain ⟨⟨F, h1, h2⟩, hB⟩ := h
  exact ⟨⟨F, C.below h1 hb, h2⟩, hB.trans (hb.mono hB.size)⟩
theorem OneT.make (C : TrieI val zero nw ad fd w RA) (m : Nat) (hm : m ≤ 100) (h : Below w.heap.size w W) : Calls Tryz.prog nw #[.int .i64 (m : Int)] W fun e W' => ∃ g, e = .returned (.pointer (some ⟨g, 0, none⟩)) ∧ OneT RA w g m [] W' := by
  refine (C.new m W hm h).mono ?_
  rintro e W' ⟨g, F, he, h1, h2, hB⟩
  exact ⟨g, he, ⟨F, h1, fun k hk => by have := h2 k hk; have := h.size; omega⟩, h.trans (hB.mono h.size)⟩
theorem OneT.add (C : TrieI val zero nw ad fd w RA) (h : OneT RA w g max l W) (p : Txt) (x : β) (hp : p.length ≤ 200) :
    Calls Tryz.prog ad #[.pointer (some ⟨g, 0, none⟩), S p, val x] W fun e W' => e = .returned (.int .i64 ((addE max l p x).1 : Int)) ∧ OneT RA w g max (addE max l p x).2 W' := by
  obtain ⟨⟨F, h1, h2⟩, hB⟩ := h
  refine (C.add p x h1 hB hp).mono ?_
  rintro e W' ⟨he, F', h1', hm⟩
  exact ⟨he, ⟨F', h1', hm.from h2 hB.size⟩, hB.trans (hm.below h2 hB.size)⟩
theorem OneT.find (C : TrieI val zero nw ad fd w RA) (h : OneT RA w g max l W) {path : List Txt} {V : Value} {b o : Nat} (hV : TA W V path b o) (hp : PathOk path) {r : Option (Txt × β)} (hr : FindIs l path r) :
    Calls Tryz.prog fd #[.pointer (some ⟨g, 0, none⟩), V] W fun e W' => ∃ VF gf o', e = .returned (.tuple #[val (fdX zero r), VF, S (fdP r), .bool r.isSome]) ∧ RowT RA w g max l VF (fdF r path) gf o' W' ∧ Below W.heap.size W W' := by
  obtain ⟨⟨F, h1, h2⟩, hB⟩ := h
  refine (C.find path V b o r h1 hB hV hp hr).mono ?_
  rintro e W' ⟨VF, gf, o', he, hf, ha, hb⟩
  exact ⟨VF, gf, o', he, ⟨⟨F, C.below h1 hb, h2, ha.imp id fun h => ⟨h.2, fun e => by have := (C.lt h1).2 gf e; omega⟩⟩, hf, hB.trans (hb.mono hB.size)⟩, hb⟩
theorem RowT.one {V : Value} {fs : List (Txt × Txt)} {gf o : Nat} (h : RowT RA w g max l V fs gf o W) : OneT RA w g max l W := by
  obtain ⟨⟨F, h1, h2, _⟩, _, hB⟩ := h
  exact ⟨⟨F, h1, h2⟩, hB⟩
theorem RowT.below {V : Value} {fs : List (Txt × Txt)} {gf o : Nat} (C : TrieI val zero nw ad fd w RA) (h : RowT RA w g max l V fs gf o W) (hb : Below W.heap.size W W') : RowT RA w g max l V fs gf o W' := by
  obtain ⟨⟨F, h1, h2, h3⟩, hf, hB⟩ := h
  exact ⟨⟨F, C.below h1 hb, h2, h3.imp id fun h => ⟨Nat.lt_of_lt_of_le h.1 hb.size, h.2⟩⟩, hf.below hb, hB.trans (hb.mono hB.size)⟩
theorem RowT.add {V : Value} {fs : List (Txt × Txt)} {gf o : Nat} (C : TrieI val zero nw ad fd w RA) (h : RowT RA w g max l V fs gf o W) (p : Txt) (x : β) (hp : p.length ≤ 200) :
    Calls Tryz.prog ad #[.pointer (some ⟨g, 0, none⟩), S p, val x] W fun e W' => e = .returned (.int .i64 ((addE max l p x).1 : Int)) ∧ RowT RA w g max (addE max l p x).2 V fs gf o W' := by
  obtain ⟨⟨F, h1, h2, h3⟩, hf, hB⟩ := h
  refine (C.add p x h1 hB hp).mono ?_
  rintro e W' ⟨he, F', h1', hm⟩
  exact ⟨he, ⟨F', h1', hm.from h2 hB.size, h3.imp id fun h => ⟨Nat.lt_of_lt_of_le h.1 hm.size, fun e => by
    rcases hm.foot gf e with k | k
    · exact h.2 k
    · have := h.1; omega⟩⟩, hf.moves hm h3, hB.trans (hm.below h2 hB.size)⟩
theorem OneT.all (C : TrieI val zero nw ad fd w RA) (D : AllI al w RA) (h : OneT RA w g max l W) :
    Calls Tryz.prog al #[.pointer (some ⟨g, 0, none⟩)] W fun e W' => ∃ V b o, e = .returned V ∧ TA W' V (l.map (·.1)) b o ∧ OneT RA w g max l W' := by
  have h0 := h
  obtain ⟨⟨F, h1, _⟩, hB⟩ := h
  refine (D.all h1 hB).mono ?_
  rintro e W' ⟨V, b, o, he, hf, hb⟩
  exact ⟨V, b, o, he, hf, h0.below C hb⟩
theorem OneT.two (C : TrieI val zero nw ad fd w RA) (h : OneT RA w g max l W) (m : Nat) (hm : m ≤ 100) : Calls Tryz.prog nw #[.int .i64 (m : Int)] W fun e W' => ∃ g', e = .returned (.pointer (some ⟨g', 0, none⟩)) ∧ TwoT RA w g max l g' m [] W' := by
  obtain ⟨⟨F, h1, h2⟩, hB⟩ := h
  refine (C.new m W hm hB).mono ?_
  rintro e W' ⟨g', F', he, h3, h4, hb⟩
  exact ⟨g', he, ⟨F, F', C.below h1 hb, h3, fun k hk => ⟨h2 k hk, fun e => by have := h4 k e; have := (C.lt h1).2 k hk; omega⟩, fun k hk => by have := h4 k hk; have := hB.size; omega⟩, hB.trans (hb.mono hB.size)⟩
theorem TwoT.below (C : TrieI val zero nw ad fd w RA) (h : TwoT RA w g max l g' max' l' W) (hb : Below W.heap.size W W') : TwoT RA w g max l g' max' l' W' := by
  obtain ⟨⟨F, F', h1, h2, h3⟩, hB⟩ := h
  exact ⟨⟨F, F', C.below h1 hb, C.below h2 hb, h3⟩, hB.trans (hb.mono hB.size)⟩
theorem TwoT.swap (h : TwoT RA w g max l g' max' l' W) : TwoT RA w g' max' l' g max l W := by
  obtain ⟨⟨F, F', h1, h2, h3, h4⟩, hB⟩ := h
  exact ⟨⟨F', F, h2, h1, fun k hk => ⟨h4 k hk, fun e => (h3 k e).2 hk⟩, fun k hk => (h3 k hk).1⟩, hB⟩
theorem TwoT.one (h : TwoT RA w g max l g' max' l' W) : OneT RA w g max l W := by
  obtain ⟨⟨F, F', h1, h2, h3, h4⟩, hB⟩ := h
  exact ⟨⟨F, h1, fun k hk => (h3 k hk).1⟩, hB⟩
theorem TwoT.add (C : TrieI val zero nw ad fd w RA) (h : TwoT RA w g max l g' max' l' W) (p : Txt) (x : β) (hp : p.length ≤ 200) :
    Calls Tryz.prog ad #[.pointer (some ⟨g, 0, none⟩), S p, val x] W fun e W' => e = .returned (.int .i64 ((addE max l p x).1 : Int)) ∧ TwoT RA w g max (addE max l p x).2 g' max' l' W' := by
  obtain ⟨⟨F, F', h1, h2, h3, h4⟩, hB⟩ := h
  refine (C.add p x h1 hB hp).mono ?_
  rintro e W' ⟨he, G, h1', hm⟩
  have ha := hm.apart (G := F') (fun k hk => ⟨(C.lt h2).2 k hk, fun e => (h3 k e).2 hk⟩)
  exact ⟨he, ⟨G, F', h1', C.same h2 hm.size ha.1, fun k hk => ⟨hm.from (fun k hk => (h3 k hk).1) hB.size k hk, fun e => (ha.2 k e).2 hk⟩, h4⟩, hB.trans (hm.below (fun k hk => (h3 k hk).1) hB.size)⟩
end
end
abbrev iV (n : Int) : Value := .int .i64 n
/-- Right: whether it is one. -/
def RightI (w0 : World) : Prop := ∀ (s : Txt) (w : World), s.length ≤ 200 → Below w0.heap.size w0 w → Calls Tryz.prog 27 #[S s] w fun e w' => e = .returned (.bool (segsF s).isSome) ∧ Below w.heap.size w w'
theorem RightI.up {w W : World} (C : RightI w) (h : Below w.heap.size w W) : RightI W := fun s a k b => C s a k (h.trans (b.mono h.size))
end Go.Proofs.YtendejpkdjkmnaaGreatDoor
/- A trie in memory: its nodes, its patterns and what they have, the row of what was added. -/
namespace Go.Proofs.YtendejpkdjkmnaaGreatDoor
open Go.RowKit

theorem OptRel.imp {α β : Type} {Q Q' : α → β → Prop} {a : Option α} {b : Option β} (h : OptRel Q a b) (hq : ∀ x y, a = some x → b = some y → Q x y → Q' x y) : OptRel Q' a b := by
  cases a <;> cases b
  · trivial
  · exact h.elim
  · exact h.elim
  · exact hq _ _ rfl rfl h
theorem results_four {fn : Func} {t u v x : Tmp} (h : fn.results = #[.tmp t, .tmp u, .tmp v, .tmp x]) (tmps : Array Value) (P : Program) (w : World) :
    (results fn tmps).run P w = .ok (.tuple #[tmps.getD t undef, tmps.getD u undef, tmps.getD v undef, tmps.getD x undef]) w := by
  simp [results, h]
abbrev ptV (b : Nat) : Value := .pointer (some ⟨b, 0, none⟩)
section
variable {w w' : World} {g : Nat} {R R' : Nat → Option Role} {N M E : List Key → Option Nat} {C : Nat} {mx : Int} {av : Value}
/-- More blocks are known. -/
theorem Nodes.more (h : Nodes w g R N M E C mx av) (hR : ∀ b r, R b = some r → R' b = some r) (hlt : ∀ b r, R' b = some r → b < w.heap.size) : Nodes w g R' N M E C mx av :=
  { h with nR := fun k b hk => hR _ _ (h.nR k b hk), mR := fun k b hk => ⟨hR _ _ (h.mR k b hk).1, (h.mR k b hk).2⟩, eR := fun k b hk => ⟨hR _ _ (h.eR k b hk).1, (h.eR k b hk).2⟩, lt := hlt }
/-- A pattern ends at a node now; what it has is in a block of its own. -/
theorem Nodes.setEnd (h : Nodes w g R N M E C mx av) {k : List Key} {b : Nat} (hk : N k = some b) (cs0 : Array Value) (t0 : TypeId) :
    Nodes ((w.alloc (.cells cs0 t0)).setCell ⟨b, offK k + 3, none⟩ (ptV w.heap.size)) g (fun x => if x = w.heap.size then some .en else R x) N M (fun k' => if k' = k then some w.heap.size else E k') C mx av := by
  obtain ⟨cs, ty, hr, h4, htop⟩ := h.rowOf hk
  have hb := hr.lt
  have hr2 := (hr.alloc (.cells cs0 t0)).set (offK k + 3) (ptV w.heap.size)
  have hkeep := Keeps.setCell (b := b) (w.alloc (.cells cs0 t0)) (offK k + 3) (ptV w.heap.size)
  have hks := hkeep.size
  rw [alloc_size] at hks
  have hrest : ∀ x, x < w.heap.size → x ≠ b → ((w.alloc (.cells cs0 t0)).setCell ⟨b, offK k + 3, none⟩ (ptV w.heap.size)).heap[x]? = w.heap[x]? := fun x hx hn =>
    (hkeep.block x (by rw [alloc_size]; omega) hn).trans (heap_alloc_old w _ hx)
  have hold : ∀ x r, R x = some r → (if x = w.heap.size then some Role.en else R x) = some r := fun x r hx => by
    have := h.lt x r hx
    rw [if_neg (by omega)]; exact hx
  refine ⟨?_, h.root, h.pre, fun k' b' hb' => hold _ _ (h.nR k' b' hb'), fun k' b' hb' => ⟨hold _ _ (h.mR k' b' hb').1, (h.mR k' b' hb').2⟩, ?_, ?_, ?_⟩
  · by_cases e : k = []
    · obtain ⟨rfl, h0, h5⟩ := htop e
      have ho : offK k = 1 := by rw [e]; rfl
      exact ⟨_, ty, hr2, set_far h0 (by omega), set_far h5 (by omega)⟩
    · obtain ⟨cs, t, hr, h1⟩ := h.top
      refine ⟨cs, t, ?_, h1⟩
      unfold Row
      rw [hrest g hr.lt (fun e' => e ?_)]
      · exact hr
      · have h2 := h.nR k b hk
        rw [← e', h.rootR] at h2
        injection h2 with h2; injection h2 with h2; exact h2.symm
  · intro k' b' hb'
    by_cases e : k' = k
    · rw [if_pos e] at hb'
      cases hb'
      rw [if_pos rfl, e]
      exact ⟨rfl, by rw [hk]; exact Option.some_ne_none _⟩
    · rw [if_neg e] at hb'
      exact ⟨hold _ _ (h.eR k' b' hb').1, (h.eR k' b' hb').2⟩
  · intro x r hx
    by_cases e : x = w.heap.size
    · omega
    · rw [if_neg e] at hx
      have := h.lt x r hx; omega
  · intro k' b' hb'
    have hn := h.node k' b' hb'
    have hmap : ∀ m, M k' = some m → ((w.alloc (.cells cs0 t0)).setCell ⟨b, offK k + 3, none⟩ (ptV w.heap.size)).heap[m]? = w.heap[m]? := fun m hm => by
      have hmm := (h.mR k' m hm).1
      refine hrest m (h.lt m _ hmm) fun e => ?_
      rw [e, h.nR k b hk] at hmm
      cases hmm
    by_cases e : k' = k
    · subst e
      have : b' = b := Option.some.inj (hb'.symm.trans hk)
      subst this
      rw [if_pos rfl]
      exact ⟨⟨_, ty, hr2, (set4 h4 (ptV w.heap.size)).2.2.2⟩, hn.map.same hmap (Nat.le_refl _) fun _ => rfl⟩
    · rw [if_neg e]
      refine hn.same (hrest b' hn.lt fun e' => e ?_) hmap
      have h2 := h.nR k' b' hb'
      rw [e', h.nR k b hk] at h2
      injection h2 with h2; injection h2 with h2; exact h2.symm
/-- The row of what was added is another one now. -/
theorem Nodes.setRow (h : Nodes w g R N M E C mx av) (v : Value) : Nodes (w.setCell ⟨g, 5, none⟩ v) g R N M E C mx v := by
  obtain ⟨cs, ty, hr, h4, htop⟩ := h.rowOf h.root
  obtain ⟨-, h0, h5⟩ := htop rfl
  have hr2 := hr.set 5 v
  have hkeep := Keeps.setCell (b := g) w 5 v
  refine ⟨⟨_, ty, hr2, set_far h0 (by omega), set_at h5⟩, h.root, h.pre, h.nR, h.mR, h.eR, fun b r hb => Nat.lt_of_lt_of_le (h.lt b r hb) hkeep.size, fun k b hk => ?_⟩
  have hn := h.node k b hk
  have hmap : ∀ m, M k = some m → (w.setCell ⟨g, 5, none⟩ v).heap[m]? = w.heap[m]? := fun m hm => by
    have hmm := (h.mR k m hm).1
    refine hkeep.block m (h.lt m _ hmm) fun e => ?_
    rw [e, h.rootR] at hmm
    cases hmm
  by_cases e : k = []
  · subst e
    have : b = g := Option.some.inj (hk.symm.trans h.root)
    subst this
    exact ⟨⟨_, ty, hr2, set_far h4.1 (by decide), set_far h4.2.1 (by decide), set_far h4.2.2.1 (by decide), set_far h4.2.2.2 (by decide)⟩, hn.map.same hmap (Nat.le_refl _) fun _ => rfl⟩
  · refine hn.same (hkeep.block b hn.lt fun e' => e ?_) hmap
    have h2 := h.nR k b hk
    rw [e', h.rootR] at h2
    injection h2 with h2; injection h2 with h2; exact h2.symm
end
/-- One more, laid in a block of its own. -/
theorem own_moreP {P : Program} {w : World} {v : Value} {xs : List Value} {t e : TypeId} (h : Own 0 v xs w) (ht : P.underlying t = some (.slice e)) (he : Elem P e) (ty : TypeId) (y : Value) (hy : y.oneCell' = true) (hl : xs.length < 1000000000000) :
    ∃ k c w', (Builtin.append_ #[t, t] ty #[v, .slice (some ⟨w.heap.size, 0, none⟩) 1 1]).run P (w.alloc (.cells #[y] e)) = .ok (.slice (some ⟨k, 0, none⟩) (xs.length + 1) c) w' ∧ Own 0 (.slice (some ⟨k, 0, none⟩) (xs.length + 1) c) (xs ++ [y]) w' ∧ w.grownBy w' v.ownBlock ∧ (v.ownBlock = some k ∨ w.heap.size ≤ k) ∧ k < w'.heap.size := by
  obtain ⟨i, z, hi, hz, hs, hby, hzs⟩ := he
  have hc : (w.alloc (.cells #[y] e)).cell? ⟨w.heap.size, 0, none⟩ = some y := by
    rw [cell_of_row _ _ 0 _ _ _ (row_new w #[y] e)]; rfl
  obtain ⟨v', w', hr, h2, h3, h4⟩ := run_push (P := P) (w.alloc (.cells #[y] e)) 0 t ty e i z ht hi hz hs hby hzs v xs (h.alloc _) ⟨w.heap.size, 0, none⟩ y hc hy hl (Nat.zero_le _)
  obtain ⟨k, c, rfl, _, hk, _⟩ := h2.form (by simp)
  rw [show (xs ++ [y]).length = xs.length + 1 by simp] at *
  refine ⟨k, c, w', hr, h2, ⟨h3.os, h3.tape, h3.output, Nat.le_trans (by simp) h3.size, fun j hj hn => (h3.block j (by rw [alloc_size]; omega) hn).trans (heap_alloc_old w _ hj)⟩, ?_, hk⟩
  rcases h4 with h | h
  · exact .inl h.symm
  · rw [alloc_size] at h; exact .inr (by have e : k = w.heap.size + 1 := Option.some.inj h; omega)
section
variable {β : Type}
/-- The trie of block g: its blocks F, its patterns l. -/
structure TrieAt (val : β → Value) (w : World) (F : Nat → Prop) (g : Nat) (max : Int) (l : Ents β) (R : Nat → Option Role) (N M E : List Key → Option Nat) (here : List Key → Option (Txt × β)) (bs : List Nat) (C : Nat) (av : Value) : Prop where
  nodes : Nodes w g R N M E C max av
  foot : ∀ k, F k ↔ ∃ r, R k = some r
  wf : Wf l
  keyd : Keyd l (domN N) here
  ents : ∀ k, OptRel (fun b (e : Txt × β) => ∃ t, Row w b #[S e.1, val e.2] t) (E k) (here k)
  own : Own 0 av (bs.map ptV) w
  ownR : ∀ k, av.ownBlock = some k → R k = some .ar
  bsl : bs.length = l.length
  bsE : ∀ (i b : Nat) (e : Txt × β), bs[i]? = some b → l[i]? = some e → E (keysF (segD e.1)) = some b
  few : C ≤ 300 * l.length ∧ l.length ≤ 100 ∧ max ≤ 100
  short : ∀ e ∈ l, e.1.length ≤ 200
def RTrie (val : β → Value) (w : World) (F : Nat → Prop) (g : Nat) (max : Int) (l : Ents β) : Prop := ∃ R N M E here bs C av, TrieAt val w F g max l R N M E here bs C av
variable {val : β → Value} {w w' : World} {F : Nat → Prop} {g : Nat} {max : Int} {l : Ents β} {R : Nat → Option Role} {N M E : List Key → Option Nat} {here : List Key → Option (Txt × β)} {bs : List Nat} {C : Nat} {av : Value}
theorem TrieAt.same (h : TrieAt val w F g max l R N M E here bs C av) (hs : w.heap.size ≤ w'.heap.size) (hb : ∀ k, F k → w'.heap[k]? = w.heap[k]?) : TrieAt val w' F g max l R N M E here bs C av :=
  { h with
    nodes := h.nodes.same hs fun b ⟨k, hr⟩ => hb b ((h.foot b).2 (hr.elim (fun e => ⟨_, e⟩) fun e => ⟨_, e⟩))
    ents := fun k => (h.ents k).imp fun b e hE _ ⟨t, hr⟩ => ⟨t, by unfold Row; rw [hb b ((h.foot b).2 ⟨_, (h.nodes.eR k b hE).1⟩)]; exact hr⟩
    own := h.own.of_block hs fun k hk => hb k ((h.foot k).2 ⟨_, h.ownR k hk⟩) }
theorem TrieAt.lt (h : TrieAt val w F g max l R N M E here bs C av) : F g ∧ ∀ k, F k → k < w.heap.size :=
  ⟨(h.foot g).2 ⟨_, h.nodes.rootR⟩, fun k hk => by obtain ⟨r, hr⟩ := (h.foot k).1 hk; exact h.nodes.lt k r hr⟩
theorem TrieAt.below (h : TrieAt val w F g max l R N M E here bs C av) (hb : Below w.heap.size w w') : TrieAt val w' F g max l R N M E here bs C av := h.same hb.size fun k hk => hb.block k (h.lt.2 k hk)
/-- Is a twin there? -/
theorem TrieAt.twin (h : TrieAt val w F g max l R N M E here bs C av) (s : List Txt) : (E (keysF s)).isSome = (l.any fun e => twinF s (segD e.1)) := by
  rw [twin_here h.keyd s]
  have := h.ents (keysF s)
  cases hE : E (keysF s) with
  | none => rw [this.none_iff.1 hE]; rfl
  | some b =>
    cases hh : here (keysF s) with
    | none => rw [this.none_iff.2 hh] at hE; cases hE
    | some e => rfl
/-- What has been grown so far for a pattern; w: where its segments were made. -/
structure GrowAt (w : World) (g : Nat) (R : Nat → Option Role) (N E : List Key → Option Nat) (C : Nat) (mx : Int) (av : Value) (l : List Txt) (i b : Nat) (wr : World) : Prop where
  ex : ∃ (R' : Nat → Option Role) (N' M' : List Key → Option Nat), Nodes wr g R' N' M' E (C + i) mx av ∧ N' (keysF (l.take i)) = some b ∧ Grew R R' w wr ∧ ∀ k, N k ≠ none → N' k ≠ none
theorem GrowAt.next {l : List Txt} {i : Nat} {wr : World} {mx : Int} {x : Txt} (hx : l[i]? = some x) {R' : Nat → Option Role} {N' : List Key → Option Nat} (hg : Grew R R' w wr) (hd : ∀ k, N k ≠ none → N' k ≠ none)
    {b' : Nat} (h : Grown wr g R' N' E (C + i) mx av (keysF (l.take i)) (keyS x) b' w') : GrowAt w g R N E C mx av l (i + 1) b' w' := by
  obtain ⟨R2, N2, M2, h1, h2, h3⟩ := h
  have hkey : keysF (l.take i) ++ [keyS x] = keysF (l.take (i + 1)) := by
    rw [(drop_at hx).2]; unfold keysF; rw [List.map_append]; rfl
  refine ⟨R2, N2, M2, h1, by rw [h2, ← hkey, if_pos rfl], hg.trans h3, fun k hn => ?_⟩
  rw [h2]
  split
  · exact Option.some_ne_none _
  · exact hd k hn
/-- A trie with one more pattern. -/
theorem TrieAt.push {W3 wr W7 : World} (h : TrieAt val W3 F g max l R N M E here bs C av) {p : Txt} {s : List Txt} (hs : segsF p = some s) (hpl : p.length ≤ 200) (x : β) (hE : E (keysF s) = none) (hmax : ¬ max ≤ (l.length : Int)) (hsl : s.length ≤ 201)
    {b : Nat} (hG : GrowAt W3 g R N E C max av s s.length b wr) (t : TypeId) {k cap : Nat}
    (hown : Own 0 (.slice (some ⟨k, 0, none⟩) (l.length + 1) cap) (bs.map ptV ++ [ptV wr.heap.size]) W7) (hgr : ((wr.alloc (.cells #[S p, val x] t)).setCell ⟨b, offK (keysF s) + 3, none⟩ (ptV wr.heap.size)).drew.grownBy W7 av.ownBlock)
    (hk : av.ownBlock = some k ∨ wr.heap.size + 1 ≤ k) (hkl : k < W7.heap.size) :
    ∃ F', RTrie val (W7.setCell ⟨g, 5, none⟩ (.slice (some ⟨k, 0, none⟩) (l.length + 1) cap)) F' g max (l ++ [(p, x)]) ∧ Moves F F' W3 (W7.setCell ⟨g, 5, none⟩ (.slice (some ⟨k, 0, none⟩) (l.length + 1) cap)) := by
  obtain ⟨R', N', M', hn, hNb, hgrew, hdom⟩ := hG.ex
  rw [List.take_length] at hNb
  have hsz3 := hgrew.size
  have hn6 := hn.setEnd hNb #[S p, val x] t
  have hkeep := Keeps.setCell (b := b) (wr.alloc (.cells #[S p, val x] t)) (offK (keysF s) + 3) (ptV wr.heap.size)
  have hks := hkeep.size
  rw [alloc_size] at hks
  have hrow6 : Row ((wr.alloc (.cells #[S p, val x] t)).setCell ⟨b, offK (keysF s) + 3, none⟩ (ptV wr.heap.size)) wr.heap.size #[S p, val x] t := (row_new wr _ t).keeps hkeep (by have := hn.lt b _ (hn.nR _ _ hNb); omega)
  have hsz6 : ((wr.alloc (.cells #[S p, val x] t)).setCell ⟨b, offK (keysF s) + 3, none⟩ (ptV wr.heap.size)).heap.size = wr.heap.size + 1 := by simp [World.setCell]
  obtain ⟨W6, hW6⟩ : ∃ W, W = (wr.alloc (.cells #[S p, val x] t)).setCell ⟨b, offK (keysF s) + 3, none⟩ (ptV wr.heap.size) := ⟨_, rfl⟩
  rw [← hW6] at hn6 hkeep hks hrow6 hsz6 hgr
  have hgs := hgr.size
  have hgs : W6.heap.size ≤ W7.heap.size := hgs
  -- what own block the row had
  have har : ∀ y, av.ownBlock = some y → R' y = some .ar := fun y hy => hgrew.keep _ _ (h.ownR y hy)
  have hblk : ∀ y, y < wr.heap.size → y ≠ b → R' y ≠ some .ar → W7.heap[y]? = wr.heap[y]? := fun y hy h1 h2 => by
    have e1 : W7.heap[y]? = W6.heap[y]? := hgr.block y (by show y < W6.heap.size; omega) fun e => h2 (har y e.symm)
    have e2 : W6.heap[y]? = (wr.alloc (.cells #[S p, val x] t)).heap[y]? := hkeep.block y (by rw [alloc_size]; omega) h1
    exact e1.trans (e2.trans (heap_alloc_old wr _ hy))
  have hbR := hn.nR _ _ hNb
  have hn7 := hn6.same hgs (w' := W7) fun y ⟨k', hr⟩ => hgr.block y (hr.elim (hn6.lt y _) (hn6.lt y _)) fun e => by
    have h1 := har y e.symm
    have h2 := hn.lt y _ h1
    rw [if_neg (by omega), h1] at hr
    rcases hr with hr | hr <;> cases hr
  obtain ⟨RR, hRR⟩ : ∃ RR : Nat → Option Role, RR = fun y => if y = k then some .ar else if y = wr.heap.size then some .en else R' y := ⟨_, rfl⟩
  have hkne : k ≠ wr.heap.size := by
    rcases hk with e | e
    · have := hn.lt k _ (har k e); omega
    · omega
  have hRkeep : ∀ y r, (if y = wr.heap.size then some Role.en else R' y) = some r → RR y = some r := fun y r hy => by
    rw [hRR]
    by_cases e : y = k
    · subst e
      rw [if_neg hkne] at hy
      rcases hk with e | e
      · rw [har y e] at hy
        dsimp only; rw [if_pos rfl]; exact hy
      · have := hn.lt y r hy; omega
    · dsimp only; rw [if_neg e]; exact hy
  have hRlt : ∀ y r, RR y = some r → y < W7.heap.size := fun y r hy => by
    rw [hRR] at hy
    dsimp only at hy
    by_cases e : y = k
    · rw [e]; exact hkl
    · rw [if_neg e] at hy
      have := hn6.lt y r hy
      omega
  have hn8 := (hn7.more hRkeep hRlt).setRow (.slice (some ⟨k, 0, none⟩) (l.length + 1) cap)
  obtain ⟨W8, hW8⟩ : ∃ W, W = W7.setCell ⟨g, 5, none⟩ (.slice (some ⟨k, 0, none⟩) (l.length + 1) cap) := ⟨_, rfl⟩
  have hkeep8 : Keeps g W7 W8 := by rw [hW8]; exact Keeps.setCell _ _ _
  rw [← hW8] at hn8 ⊢
  have hgR : R' g = some (.nd []) := hn.rootR
  have hgk : k ≠ g := fun e => by
    rcases hk with e' | e'
    · have := har k e'
      rw [e, hgR] at this; cases this
    · have := hn.lt g _ hgR; omega
  have hseg : segD p = s := by unfold segD; rw [hs]; rfl
  have hhere : here (keysF s) = none := (h.ents (keysF s)).none_iff.1 hE
  -- what was there and is no node, map or row stays
  have hen : ∀ y, R y = some .en → W8.heap[y]? = W3.heap[y]? := fun y hy => by
    have h0 := h.nodes.lt y _ hy
    have h1 := hgrew.keep y _ hy
    have e1 : W8.heap[y]? = W7.heap[y]? := hkeep8.block y (by omega) fun e => by rw [e, hgR] at h1; cases h1
    have e2 := hblk y (by omega) (fun e => by rw [e, hbR] at h1; cases h1) (fun e => by rw [h1] at e; cases e)
    exact (e1.trans e2).trans (hgrew.rest y h0 fun k' => ⟨fun e => (by rw [hy] at e; cases e), fun e => (by rw [hy] at e; cases e)⟩)
  have hrow8 : Row W8 wr.heap.size #[S p, val x] t := by
    have h1 : Row W7 wr.heap.size #[S p, val x] t := row_grown (w := W6.drew) hrow6 hgr fun e => by have := hn.lt _ _ (har _ e.symm); omega
    exact h1.keeps hkeep8 fun e => by have := hn.lt g _ hgR; omega
  refine ⟨fun y => ∃ r, RR y = some r, ⟨RR, N', M', _, fun k' => if k' = keysF (segD p) then some (p, x) else here k', bs ++ [wr.heap.size], C + s.length, _, hn8, fun _ => Iff.rfl, ?_, ?_, ?_, ?_, ?_, ?_, ?_, ?_, ?_⟩, ?_⟩
  · have := add_wf (max := max) h.wf p x
    unfold addE at this
    rw [hs] at this
    dsimp only at this
    rw [if_neg (by rw [← h.twin s, hE]; exact Bool.false_ne_true), if_neg hmax] at this
    exact this
  · refine (h.keyd.more (dom' := domN N') fun k' hk' => ?_).add p x (by rw [hseg]; exact hhere) fun k' r hkr => ?_
    · unfold domN at hk' ⊢
      have := hdom k' (fun e => by rw [e] at hk'; cases hk')
      cases hh : N' k' with
      | none => exact absurd hh this
      | some _ => rfl
    · rw [hseg] at hkr
      have hpre : ∀ (r k : List Key), N' k = none → N' (k ++ r) = none := by
        intro r
        induction r with
        | nil => intro k hk; rw [List.append_nil]; exact hk
        | cons c r ih =>
          intro k hk
          have : N' (k ++ [c]) = none := by
            cases hx : N' (k ++ [c]) with
            | none => rfl
            | some y => exact absurd hk (hn.pre k c (by rw [hx]; exact Option.some_ne_none _))
          have h2 := ih (k ++ [c]) this
          rwa [List.append_assoc] at h2
      unfold domN
      cases hh : N' k' with
      | none =>
        have := hpre r k' hh
        rw [← hkr, hNb] at this
        cases this
      | some _ => rfl
  · intro k'
    rw [hseg]
    by_cases e : k' = keysF s
    · rw [if_pos e, if_pos e]
      exact ⟨t, hrow8⟩
    · rw [if_neg e, if_neg e]
      exact (h.ents k').imp fun y e' hEy _ ⟨t', hr⟩ => ⟨t', by unfold Row; rw [hen y (h.nodes.eR k' y hEy).1]; exact hr⟩
  · rw [List.map_append]
    exact hown.of_block hkeep8.size fun y hy => hkeep8.block y (by have : k = y := Option.some.inj hy; omega) fun e => hgk (by have : k = y := Option.some.inj hy; omega)
  · intro y hy
    have : k = y := Option.some.inj hy
    rw [hRR]; dsimp only; rw [if_pos this.symm]
  · rw [List.length_append, List.length_append, h.bsl]; rfl
  · intro i b' e hb' he
    rcases Nat.lt_or_ge i l.length with hi | hi
    · rw [List.getElem?_append_left (by rw [h.bsl]; exact hi)] at hb'
      rw [List.getElem?_append_left hi] at he
      have h1 := h.bsE i b' e hb' he
      rw [if_neg (fun e' => by rw [e', hE] at h1; cases h1)]
      exact h1
    · rw [List.getElem?_append_right (by rw [h.bsl]; exact hi), h.bsl] at hb'
      rw [List.getElem?_append_right hi] at he
      cases hj : i - l.length with
      | zero =>
        rw [hj] at hb' he
        obtain rfl := Option.some.inj he
        obtain rfl := Option.some.inj hb'
        rw [hseg, if_pos rfl]
      | succ j => rw [hj] at he; simp at he
  · have := h.few
    rw [List.length_append, List.length_singleton]
    omega
  · intro e he
    rcases List.mem_append.1 he with he | he
    · exact h.short e he
    · rw [List.mem_singleton] at he
      rw [he]; exact hpl
  · refine ⟨?_, ?_, ?_, ?_, ?_, ?_⟩
    · exact hkeep8.os.trans (hgr.os.trans (hkeep.os.trans hgrew.os))
    · exact hkeep8.tape.trans (hgr.tape.trans (hkeep.tape.trans hgrew.tape))
    · exact hkeep8.output.trans (hgr.output.trans (hkeep.output.trans hgrew.output))
    · have := hkeep8.size; omega
    · rintro y ⟨r, hy⟩
      rcases Nat.lt_or_ge y W3.heap.size with hlt | hge
      · left
        rw [hRR] at hy
        dsimp only at hy
        by_cases e : y = k
        · rcases hk with e' | e'
          · rw [← e] at e'
            exact (h.foot y).2 ⟨_, h.ownR y e'⟩
          · omega
        · rw [if_neg e, if_neg (by omega)] at hy
          exact (h.foot y).2 ⟨r, (hgrew.new y r hy).resolve_right (by omega)⟩
      · exact .inr hge
    · intro y hy hF
      have hno : ∀ r, R y ≠ some r := fun r e => hF ((h.foot y).2 ⟨r, e⟩)
      have hno' : ∀ r, R' y ≠ some r := fun r e => hno r ((hgrew.new y r e).resolve_right (by omega))
      have e1 : W8.heap[y]? = W7.heap[y]? := hkeep8.block y (by omega) fun e => hno' _ (by rw [e]; exact hgR)
      exact (e1.trans (hblk y (by omega) (fun e => hno' _ (by rw [e]; exact hbR)) (hno' _))).trans (hgrew.rest y hy fun k' => ⟨hno _, hno _⟩)
theorem TrieAt.cells (h : TrieAt val w F g max l R N M E here bs C av) : w.cell? ⟨g, 0, none⟩ = some (.int .i64 max) ∧ w.cell? ⟨g, 5, none⟩ = some av ∧ w.frozen? ⟨g, 5, none⟩ = false := by
  obtain ⟨cs, t, hr, h0, h5⟩ := h.nodes.top
  exact ⟨by rw [cell_of_row w g 0 cs t (0, 0) hr]; exact h0, by rw [cell_of_row w g 5 cs t (0, 0) hr]; exact h5, hr.frozen 5⟩
/-- A trie that was made now. -/
theorem trie_new (val : β → Value) (w : World) (mx : Nat) (hm : mx ≤ 100) (t : TypeId) :
    RTrie val (w.alloc (.cells #[.int .i64 (mx : Int), .map none, .pointer none, .pointer none, .pointer none, .slice none 0 0] t)) (fun k => k = w.heap.size) w.heap.size mx [] := by
  have hr := row_new w #[.int .i64 (mx : Int), .map none, .pointer none, .pointer none, .pointer none, .slice none 0 0] t
  refine ⟨fun x => if x = w.heap.size then some (.nd []) else none, fun k => if k = [] then some w.heap.size else none, fun _ => none, fun _ => none, fun _ => none, [], 0, .slice none 0 0, ⟨⟨_, t, hr, rfl, rfl⟩, if_pos rfl, fun k c hk => ?_, fun k b hk => ?_, fun k b hk => (by cases hk), fun k b hk => (by cases hk), fun b r hb => ?_, fun k b hk => ?_⟩, fun k => ?_, wf_nil, keyd_nil _, fun _ => trivial, .inl ⟨rfl, rfl⟩, fun k hk => (by cases hk), rfl, fun i b e hb => (by simp at hb), by simp; omega, fun e he => (by cases he)⟩
  · rw [if_neg (snoc_ne_nil k c)] at hk; exact absurd rfl hk
  · by_cases e : k = []
    · rw [if_pos e] at hk
      cases hk
      rw [if_pos rfl, e]
    · rw [if_neg e] at hk; cases hk
  · by_cases e : b = w.heap.size
    · rw [alloc_size]; omega
    · rw [if_neg e] at hb; cases hb
  · by_cases e : k = []
    · rw [if_pos e] at hk
      cases hk
      subst e
      refine ⟨⟨_, t, hr, rfl, ?_, ?_, rfl⟩, fun s => ?_⟩
      · rw [if_neg (snoc_ne_nil _ _)]; rfl
      · rw [if_neg (snoc_ne_nil _ _)]; rfl
      · show (if [] ++ [Key.lit s] = [] then some w.heap.size else none) = none
        rw [if_neg (snoc_ne_nil _ _)]
    · rw [if_neg e] at hk; cases hk
  · constructor
    · intro e; exact ⟨_, if_pos e⟩
    · rintro ⟨r, hr⟩
      by_cases e : k = w.heap.size
      · exact e
      · rw [if_neg e] at hr; cases hr
end
end Go.Proofs.YtendejpkdjkmnaaGreatDoor
/- A map of texts to nothing, as a set of texts. Over any program. -/
namespace Go.Proofs.YtendejpkdjkmnaaGreatDoor
open Go.RowKit Go.ChangeMaps

def addF (f : List UInt8 → Bool) (s : List UInt8) : List UInt8 → Bool := fun x => if x = s then true else f x
/-- Block b is a set of at most n texts, f of them. -/
def SMap (P : Program) (k : TypeId) (w : World) (b n : Nat) (f : List UInt8 → Bool) : Prop :=
  ∃ D : DataW Unit, w.ownsMap P k unitElem b n D ∧ ∀ s : List UInt8, s.length ≤ 1000000 → Maps.has D (.string s) = f s
section
variable {P : Program} {k t e : TypeId} {w w' : World} {b n : Nat} {f : List UInt8 → Bool}
theorem SMap.lt (h : SMap P k w b n f) : b < w.heap.size := by
  obtain ⟨D, h1, _⟩ := h
  exact h1.lt
theorem SMap.mono (h : SMap P k w b n f) {m : Nat} (hm : n ≤ m) : SMap P k w b m f := by
  obtain ⟨D, h1, h2⟩ := h
  exact ⟨D, h1.mono hm, h2⟩
theorem SMap.same (h : SMap P k w b n f) (hb : w'.heap[b]? = w.heap[b]?) : SMap P k w' b n f := by
  obtain ⟨D, ⟨es, clock, h1, h2⟩, h3⟩ := h
  exact ⟨D, ⟨es, clock, hb.trans h1, h2⟩, h3⟩
theorem SMap.below (h : SMap P k w b n f) (hb : Below w.heap.size w w') : SMap P k w' b n f := h.same (hb.block b h.lt)
theorem SMap.to (h : SMap P k w b n f) {g : List UInt8 → Bool} (hg : ∀ s, g s = f s) : SMap P k w b n g := by
  obtain ⟨D, h1, h2⟩ := h
  exact ⟨D, h1, fun s hs => (h2 s hs).trans (hg s).symm⟩
theorem smap_made (w : World) : SMap P k (w.alloc (.map #[] 0)) w.heap.size 0 (fun _ => false) :=
  ⟨_, World.ownsMap_made w P k unitElem, fun _ _ => rfl⟩
variable (hk : P.underlying k = some .string) (ht : P.underlying t = some (.map k e)) (hz : ∀ w, (zeroValue e).run P w = .ok (.agg #[]) w)
variable {ops : Array Oper} {rest : List Oper} {o : Oper} {a : Act} {Q : Exit → Act → World → Prop}
include hk ht
include hz in
/-- _, is := m[s], at the operation. -/
theorem wpList_lookS (hg : o.guard = none) (m x : Operand) (hop : o.op = Op.lookup t m x true) (hm : a.eval m = .map (some b)) (h : SMap P k w b n f)
    (s : List UInt8) (hx : a.eval x = S s) (hs : s.length ≤ 1000000) (hK : wpList P ops Q rest (a.put o.dst (.tuple #[.agg #[], .bool (f s)])) w) : wpList P ops Q (o :: rest) a w := by
  obtain ⟨D, h1, h2⟩ := h
  refine wpList_lookup_own_unit w hg m x t hop k e (Go.Maps.string_keyed hk) ht (hz w) b n D hm h1 (S s) (.string s) hx (key_S hk hs) ?_
  rw [h2 s hs]; exact hK
/-- m[s] = struct{}{}, at the operation. -/
theorem wpList_putS (hg : o.guard = none) (m x v : Operand) (hop : o.op = Op.mapUpdate t m x v) (hm : a.eval m = .map (some b)) (h : SMap P k w b n f) (hn : n < 1000000)
    (s : List UInt8) (hx : a.eval x = S s) (hs : s.length ≤ 1000000) (hv : a.eval v = .agg #[])
    (hK : ∀ w', SMap P k w' b (n + 1) (addF f s) → w.grownBy w' (some b) → wpList P ops Q rest (a.put o.dst undef) w') : wpList P ops Q (o :: rest) a w := by
  obtain ⟨D, h1, h2⟩ := h
  refine wpList_mapUpdate_own w hg m x v t hop k e (Go.Maps.string_keyed hk) ht unitElem b n D hm h1 (by simp only [maxLen]; omega) (S s) (.agg #[]) (.string s) hx hv (key_S hk hs) (.agg []) [] unitElem_mk ?_
  intro w' h3 h4
  refine hK w' ⟨_, h3, fun x hx => ?_⟩ h4
  unfold addF
  by_cases he : x = s
  · subst he
    rw [if_pos rfl, Maps.has_put_same h1.isMap (k := .string x) trivial]
  · rw [if_neg he, Maps.has_put_other (fun e => he (by injection e))]
    exact h2 x hx
end
end Go.Proofs.YtendejpkdjkmnaaGreatDoor
/- The landed Right walked. (mktv.py writes it.) -/
namespace Go.Proofs.YtendejpkdjkmnaaGreatDoor
open Go.RowKit
attribute [local go_sem] store_one S_match S_store eguard_BN nguard_BN B_eqlN B_neqN

theorem prefix_any (s : Txt) (w : World) : Calls Tryz.prog 42 #[S s, .string ⟨#[47]⟩] w fun e w' => e = .returned (.bool (s[0]? == some 47)) ∧ w' = w := by
  refine (Tryz.strings_HasPrefix ⟨s.toArray⟩ ⟨#[47]⟩ w).mono ?_
  rintro e w' ⟨rfl, rfl⟩
  refine ⟨?_, rfl⟩
  have : Lib.hasPrefix s [47] = (s[0]? == some 47) := by
    cases s with
    | nil => rfl
    | cons c r =>
      rw [Bool.eq_iff_iff]
      simp [Lib.hasPrefix]
      exact eq_comm
  rw [← this]
/-- Names so far, in the map of block m; W: where the row of segments was made. -/
structure RtAt (W : World) (l : List Txt) (i : Nat) (wr : World) : Prop where
  set : SMap Tryz.prog 9 wr W.heap.size i (namedB (l.take i))
  bel : Below W.heap.size W wr
  ok : segsOk [] l = segsOk (l.take i) (l.drop i)
section
variable {W wr w' : World} {l : List Txt} {i : Nat}
theorem RtAt.lit {s : Txt} (h : RtAt W l i wr) (hl : l[i]? = some s) (hn : s ≠ []) (hk : kindS s = 0) : RtAt W l (i + 1) wr :=
  ⟨(h.set.mono (Nat.le_succ i)).to fun x => by rw [(drop_at hl).2, named_lit hk], h.bel, h.ok.trans (segs_lit hl hn hk)⟩
theorem RtAt.more {s : Txt} (h : RtAt W l i wr) (hl : l[i]? = some s) (hn : s ≠ []) (hk : kindS s ≠ 0) (h1 : nameS (s.drop 1) = true) (h2 : kindS s = 1 ∨ l.length ≤ i + 1) (h3 : namedB (l.take i) (s.drop 1) = false)
    (hs : SMap Tryz.prog 9 w' W.heap.size (i + 1) (addF (namedB (l.take i)) (s.drop 1))) (hb : Below W.heap.size W w') : RtAt W l (i + 1) w' := by
  refine ⟨hs.to fun x => by rw [(drop_at hl).2, named_name hk]; rfl, hb, h.ok.trans ?_⟩
  rw [segs_name hl hn hk, h1, h3]
  have : (kindS s == 1 || decide (l.length ≤ i + 1)) = true := by
    rw [Bool.or_eq_true, beq_iff_eq, decide_eq_true_eq]; exact h2
  rw [this]; rfl
theorem RtAt.no {s : Txt} (h : RtAt W l i wr) (hl : l[i]? = some s) (hn : s ≠ []) (hk : kindS s ≠ 0) (hb : nameS (s.drop 1) = false ∨ (kindS s ≠ 1 ∧ i + 1 < l.length) ∨ namedB (l.take i) (s.drop 1) = true) : segsOk [] l = false := by
  rw [h.ok, segs_name hl hn hk]
  rcases hb with e | ⟨e1, e2⟩ | e
  · rw [e]; rfl
  · have : (kindS s == 1 || decide (l.length ≤ i + 1)) = false := by
      rw [Bool.or_eq_false_iff]; exact ⟨beq_eq_false_iff_ne.2 e1, decide_eq_false (by omega)⟩
    rw [this, Bool.and_false]; rfl
  · rw [e]; simp
theorem RtAt.below (h : RtAt W l i wr) (hb : Below wr.heap.size wr w') : RtAt W l i w' := ⟨h.set.below hb, h.bel.trans (hb.mono h.bel.size), h.ok⟩
theorem below_put {b : Nat} {w w' : World} (hg : w.grownBy w' (some b)) (hb : b ≤ w.heap.size) : Below b w w' := below_grown (Below.refl _ _) hg (fun k h => by injection h with h; omega) hb
theorem RtAt.empty (h : RtAt W l i wr) (hl : l[i]? = some []) : segsOk [] l = false := by rw [h.ok, segs_empty hl]
theorem RtAt.all (h : RtAt W l l.length wr) : segsOk [] l = true := by rw [h.ok, List.drop_length]; rfl
end
theorem zeroU : ∀ w, (zeroValue 99).run Tryz.prog w = .ok (.agg #[]) w := (zero_of_info (n := 0) (by kernel_rfl)).1
set_option maxRecDepth 100000 in
set_option maxHeartbeats 2000000 in
theorem right_any (s : Txt) (hs : s.length ≤ 200) (w : World) (hm : MaxAt w) : Calls Tryz.prog 27 #[S s] w fun e w' => e = .returned (.bool (segsF s).isSome) ∧ Below w.heap.size w w' := by
  have HP := Lib.hid (prefix_any s w)
  by_cases h0 : s[0]? = some 47
  case neg =>
    have hn : segsF s = none := by
      cases hq : segsF s with
      | none => rfl
      | some l => exact absurd (segsF_head hq).1 h0
    rw [hn]
    have HP2 := HP.out
    rw [beq_eq_false_iff_ne.2 h0] at HP2
    have HP2 := Lib.hid HP2
    clear HP h0 hs hm hn
    go_enter Tryz.func27, Tryz.ntmps27
    go_wp2_with fail
    refine HP2.out.mono ?_
    rintro e W ⟨rfl, rfl⟩
    go_wp2
    go_ret
    exact ⟨rfl, Below.refl _ _⟩
  case pos =>
    rw [segsF_cut h0]
    have hsome : ((if segsOk [] (cutS s) = true then some (cutS s) else none : Option (List Txt)).isSome) = segsOk [] (cutS s) := by
      cases segsOk [] (cutS s) <;> rfl
    rw [hsome]
    have HP2 := HP.out
    rw [beq_iff_eq.2 h0] at HP2
    have HP2 := Lib.hid HP2
    have hne : s ≠ [] := by rintro rfl; cases h0
    have HSG := Lib.hid (segments_any s hne (by omega) w hm)
    have hlen : (cutS s).length ≤ 201 := by have := cutS_len s; omega
    have heach : ∀ x ∈ cutS s, x.length ≤ 200 := fun x hx => by have := cutS_each s x hx; omega
    generalize cutS s = l at *
    obtain ⟨PO, hPO⟩ : ∃ PO : Ending → World → Prop, PO = fun e w' => e = .returned (.bool (segsOk [] l)) ∧ Below w.heap.size w w' := ⟨_, rfl⟩
    rw [← hPO]
    have HNO : Hid (segsOk [] l = false → ∀ W, Below w.heap.size w W → PO (.returned (.bool false)) W) := Lib.hid fun h W hW => by rw [hPO, h]; exact ⟨rfl, hW⟩
    have HYES : Hid (segsOk [] l = true → ∀ W, Below w.heap.size w W → PO (.returned (.bool true)) W) := Lib.hid fun h W hW => by rw [hPO, h]; exact ⟨rfl, hW⟩
    have HE := Lib.hid heach
    obtain ⟨N, hN⟩ : ∃ N, N = l.length := ⟨_, rfl⟩
    rw [← hN] at hlen
    have HN := Lib.hid hN
    clear HP h0 hsome hne heach hs hm hPO hN
    go_enter Tryz.func27, Tryz.ntmps27
    go_wp2_with fail
    refine HP2.out.mono ?_
    rintro e w ⟨rfl, rfl⟩
    go_wp2_with fail
    refine HSG.out.mono ?_
    rintro e W ⟨V, b, rfl, hT, hB, -⟩
    have hlV := fun w' => hT.len 3 w'
    rw [← HN.out] at hlV
    have HT := Lib.hid hT
    have HB := Lib.hid hB
    have HI : Hid (RtAt W l 0 (W.alloc (.map #[] 0))) := Lib.hid ⟨smap_made W, row_below _, rfl⟩
    clear hT hB HP2 HSG
    have hmm := @run_makeMap Tryz.prog
    go_wp2
    obtain ⟨W1, hW1⟩ : ∃ W1, W1 = W.alloc (.map #[] 0) := ⟨_, rfl⟩
    rw [← hW1] at HI ⊢
    clear hW1
    go_loopw [18] (fun iv wr => ∃ i : Nat, i ≤ N ∧ iv = .int .i64 (i : Int) ∧ Hid (RtAt W l i wr)) (fun iv _ => N - (intOf iv).toNat)
    case atStart => exact ⟨0, Nat.zero_le _, rfl, HI⟩
    case round =>
      obtain ⟨i, hi, rfl, HR⟩ := hrel
      have HBW := Lib.hid (HB.out.trans (HR.out.bel.mono HB.out.size))
      by_cases hlt : i < N
      case neg =>
        obtain rfl : i = N := by omega
        have g1 : decide ((i : Int) < (i : Int)) = false := decide_eq_false (by omega)
        have HQ := Lib.hid (HYES.out (by have := HR.out; rw [HN.out] at this; exact this.all) wr HBW.out)
        go_wp2
        first | (go_ret2; exact HQ.out) | exact HQ.out
      case pos =>
        have g1 : decide ((i : Int) < (N : Int)) = true := decide_eq_true (by omega)
        obtain ⟨x, hx⟩ : ∃ x, l[i]? = some x := ⟨l[i]'(by have := HN.out; omega), List.getElem?_eq_getElem _⟩
        have hix := fun w' => HT.out.index i (by have := HN.out; omega) w'
        have hcell : wr.cell? ⟨b, 0 + i, none⟩ = some (S x) := (HT.out.below HR.out.bel).cell i x hx
        have hxl : x.length ≤ 200 := HE.out x (List.mem_of_getElem? hx)
        obtain ⟨q, hq⟩ : ∃ q, q = 0 + i := ⟨_, rfl⟩
        rw [← hq] at hix hcell
        have hw1 : IntKind.i64.wrap ((i : Int) + 1) = (i : Int) + 1 := by rw [IntKind.wrap_i64]; omega
        have n1 : ∀ y z, eqGuard .eql 9 y z (S x) (.string ⟨#[]⟩) = pure () := fun y z => guard_S 9 y z x []
        have HX := Lib.hid hx
        clear hq hx
        by_cases he : x = []
        case pos =>
          subst he
          have q1 : binOp .eql 9 (S []) (.string ⟨#[]⟩) = pure (.bool true) := eql_S 9 [] []
          have HQ := Lib.hid (HNO.out (HR.out.empty HX.out) wr HBW.out)
          go_wp2
          first | (go_ret2; exact HQ.out) | exact HQ.out
        case neg =>
          have q1 : binOp .eql 9 (S x) (.string ⟨#[]⟩) = pure (.bool false) := by
            have := eql_S 9 x []
            rw [beq_eq_false_iff_ne.2 he] at this
            exact this
          have HL := Lib.hid (literal_any x he wr)
          go_wp2_with fail
          refine HL.out.mono ?_
          rintro e w2 ⟨rfl, rfl⟩
          clear HL
          by_cases hk : kindS x = 0
          case pos =>
            have HNX : Hid (RtAt W l (i + 1) w2) := Lib.hid (HR.out.lit HX.out he hk)
            have gk : (kindS x == 0) = true := beq_iff_eq.2 hk
            clear he hk
            go_wp2
            exact ⟨⟨i + 1, by omega, by go_num, HNX⟩, by simp [intOf]; omega⟩
          case neg =>
            have gk : (kindS x == 0) = false := beq_eq_false_iff_ne.2 hk
            obtain ⟨c, r, hcr⟩ : ∃ c r, x = c :: r := by
              cases x with
              | nil => exact absurd rfl he
              | cons c r => exact ⟨c, r, rfl⟩
            have hi0 : ∀ w, (Instr.index 9 (S x) (.int .i64 0)).run Tryz.prog w = .ok (B c) w := fun w => index_S Tryz.underlying9 x 0 c (by rw [hcr]; rfl) w
            have hsl : ∀ W, (Instr.slice 9 (S x) (some (.int .i64 1)) none none).run Tryz.prog W = .ok (S (x.drop 1)) W := fun W => slice_drop (P := Tryz.prog) Tryz.underlying9 x 1 (by rw [hcr]; simp) W
            obtain ⟨D, hD⟩ : ∃ D, D = x.drop 1 := ⟨_, rfl⟩
            rw [← hD] at hsl
            have hDl : D.length ≤ 200 := by rw [hD, List.length_drop]; omega
            have HIN := Lib.hid (fun W => isname_any D (by omega) W)
            have HNB : Hid (nameS D = false ∨ (kindS x ≠ 1 ∧ i + 1 < l.length) ∨ namedB (l.take i) D = true → segsOk [] l = false) := Lib.hid fun h => HR.out.no HX.out he hk (by rw [← hD]; exact h)
            have HYB : Hid (nameS D = true → (kindS x = 1 ∨ l.length ≤ i + 1) → namedB (l.take i) D = false → ∀ w', SMap Tryz.prog 9 w' W.heap.size (i + 1) (addF (namedB (l.take i)) D) → Below W.heap.size W w' → RtAt W l (i + 1) w') :=
              Lib.hid fun a1 a2 a3 w' a4 a5 => HR.out.more HX.out he hk (by rw [← hD]; exact a1) a2 (by rw [← hD]; exact a3) (by rw [← hD]; exact a4) a5
            have HDL := Lib.hid hDl
            cases ht : namedB (l.take i) D with
            | true =>
              have HQ : Hid (∀ W, Below w.heap.size w W → PO (.returned (.bool false)) W) := Lib.hid (HNO.out (HNB.out (.inr (.inr ht))))
              have HT1 := Lib.hid ht
              clear ht he hk hcr hD
              go_wp2_with (first
                | (at_lookup; refine wpList_lookS Tryz.underlying9 Tryz.underlying98 zeroU rfl _ _ rfl rfl HR.out.set D rfl (by have := HDL.out; omega) ?_; rw [HT1.out])
                | fail)
              exact HQ.out _ (HBW.out.trans ((row_below _).mono HBW.out.size))
            | false =>
              have HR3 : Hid (RtAt W l i (w2.alloc (.cells #[] 99))) := Lib.hid (HR.out.below (row_below _))
              have HB3 := Lib.hid (HBW.out.trans ((row_below (.cells #[] 99)).mono HBW.out.size))
              have HT1 := Lib.hid ht
              have HQ : Hid (nameS D = false ∨ (kindS x ≠ 1 ∧ i + 1 < N) → ∀ W, Below w.heap.size w W → PO (.returned (.bool false)) W) := Lib.hid fun h => HNO.out (HNB.out (by
                rcases h with h | h
                · exact .inl h
                · exact .inr (.inl (by rw [← HN.out]; exact h))))
              have HY : Hid (nameS D = true → (kindS x = 1 ∨ N ≤ i + 1) → ∀ w', SMap Tryz.prog 9 w' W.heap.size (i + 1) (addF (namedB (l.take i)) D) → Below W.heap.size W w' → RtAt W l (i + 1) w') :=
                Lib.hid fun a1 a2 w' a4 a5 => HYB.out a1 (by rw [← HN.out]; exact a2) ht w' a4 a5
              have hw2 : IntKind.i64.wrap ((N : Int) - 1) = (N : Int) - 1 := by rw [IntKind.wrap_i64]; omega
              have kc := kind_cases c r
              rw [← hcr] at kc
              clear ht he hcr hD HNB HYB
              cases hnm : nameS D with
              | false =>
                have HQ2 := Lib.hid (HQ.out (.inl hnm))
                have HNM := Lib.hid hnm
                clear hnm hk kc
                go_wp2_with (first
                  | (at_lookup; refine wpList_lookS Tryz.underlying9 Tryz.underlying98 zeroU rfl _ _ rfl rfl HR.out.set D rfl (by have := HDL.out; omega) ?_; rw [HT1.out])
                  | (go_at_call 45; refine (HIN.out _).mono ?_; rintro e w' ⟨rfl, rfl⟩; rw [HNM.out])
                  | fail)
                exact HQ2.out _ HB3.out
              | true =>
                have HNM := Lib.hid hnm
                rcases kc with ⟨rfl, h2⟩ | ⟨_, _, g3, rfl, h2⟩ | ⟨_, _, _, _, _, _, h2⟩
                · have HY2 := Lib.hid (HY.out hnm (.inl h2))
                  clear hnm hk h2
                  go_wp2_with (first
                    | (at_lookup; refine wpList_lookS Tryz.underlying9 Tryz.underlying98 zeroU rfl _ _ rfl rfl HR.out.set D rfl (by have := HDL.out; omega) ?_; rw [HT1.out])
                    | (go_at_call 45; refine (HIN.out _).mono ?_; rintro e w' ⟨rfl, rfl⟩; rw [HNM.out])
                    | (at_mapUpdate; refine wpList_putS Tryz.underlying9 Tryz.underlying98 rfl _ _ _ rfl rfl HR3.out.set (by omega) D rfl (by have := HDL.out; omega) rfl ?_; intro w5 h5 h6; have H5 := Lib.hid (HY2.out w5 h5 (HR3.out.bel.trans (below_put h6 HR3.out.bel.size))); clear h5 h6)
                    | fail)
                  exact ⟨⟨i + 1, by omega, by go_num, H5⟩, by simp [intOf]; omega⟩
                · by_cases hlast : i + 1 < N
                  · have g2 : decide ((i : Int) < (N : Int) - 1) = true := decide_eq_true (by omega)
                    have HQ2 := Lib.hid (HQ.out (.inr ⟨by rw [h2]; decide, hlast⟩))
                    clear hnm hk h2
                    go_wp2_with (first
                      | (at_lookup; refine wpList_lookS Tryz.underlying9 Tryz.underlying98 zeroU rfl _ _ rfl rfl HR.out.set D rfl (by have := HDL.out; omega) ?_; rw [HT1.out])
                      | (go_at_call 45; refine (HIN.out _).mono ?_; rintro e w' ⟨rfl, rfl⟩; rw [HNM.out])
                      | fail)
                    exact HQ2.out _ HB3.out
                  · have g2 : decide ((i : Int) < (N : Int) - 1) = false := decide_eq_false (by omega)
                    have HY2 := Lib.hid (HY.out hnm (.inr (by omega)))
                    clear hnm hk h2
                    go_wp2_with (first
                      | (at_lookup; refine wpList_lookS Tryz.underlying9 Tryz.underlying98 zeroU rfl _ _ rfl rfl HR.out.set D rfl (by have := HDL.out; omega) ?_; rw [HT1.out])
                      | (go_at_call 45; refine (HIN.out _).mono ?_; rintro e w' ⟨rfl, rfl⟩; rw [HNM.out])
                      | (at_mapUpdate; refine wpList_putS Tryz.underlying9 Tryz.underlying98 rfl _ _ _ rfl rfl HR3.out.set (by omega) D rfl (by have := HDL.out; omega) rfl ?_; intro w5 h5 h6; have H5 := Lib.hid (HY2.out w5 h5 (HR3.out.bel.trans (below_put h6 HR3.out.bel.size))); clear h5 h6)
                      | fail)
                    exact ⟨⟨i + 1, by omega, by go_num, H5⟩, by simp [intOf]; omega⟩
                · exact absurd h2 hk
end Go.Proofs.YtendejpkdjkmnaaGreatDoor
