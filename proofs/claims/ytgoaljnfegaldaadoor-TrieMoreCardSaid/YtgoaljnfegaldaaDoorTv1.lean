/- The landed segments, literal, isName walked. (mktv.py writes it.) -/
import Derived.Test.YtgoaljnfegaldaaDoorTn2
import Derived.Test.YtgoaljnfegaldaaDoorTr
import Derived.Test.YtgoaljnfegaldaaDoorQb
import Derived.Test.YtgoaljnfegaldaaDoorShelf
import Derived.Lib.SplitLaws
import Derived.Lib.CountLaws
import Derived.Lib.IndexMore
namespace Go.Proofs.YtgoaljnfegaldaaDoor
open Go.RowKit
attribute [local go_sem] store_one S_match S_store eguard_BN nguard_BN B_eqlN B_neqN B_geq B_leq

theorem cut_index : ∀ (s cur : Txt), (Lib.index s [47] = -1 → cutP cur s = [cur ++ s]) ∧ ∀ i : Nat, Lib.index s [47] = (i : Int) → cutP cur s = (cur ++ s.take i) :: cutP [] (s.drop (i + 1))
  | [], cur => ⟨fun _ => by rw [cutP, List.append_nil], fun i h => by
      have e : Lib.index [] [47] = -1 := rfl
      rw [e] at h; omega⟩
  | c :: r, cur => by
    obtain ⟨i1, i2⟩ := cut_index r (cur ++ [c])
    have hge := Lib.index_ge r [47]
    rw [Lib.index_one, Lib.indexByte]
    rw [Lib.index_one] at i1 i2 hge
    by_cases h : c = 47
    · subst h
      rw [if_pos (by simp)]
      refine ⟨fun e => absurd e (by decide), fun i e => ?_⟩
      obtain rfl : i = 0 := by omega
      rw [cutP, if_pos rfl]; simp
    · rw [if_neg (by simpa using h)]
      rw [cutP, if_neg h]
      by_cases hm : Lib.indexByte r 47 = -1
      · rw [if_pos (beq_iff_eq.2 hm)]
        exact ⟨fun _ => by rw [i1 hm, List.append_assoc]; rfl, fun i e => by omega⟩
      · rw [if_neg (fun e => hm (beq_iff_eq.1 e))]
        refine ⟨fun e => by omega, fun i e => ?_⟩
        obtain ⟨j, rfl⟩ : ∃ j, i = j + 1 := ⟨i - 1, by omega⟩
        rw [i2 j (by omega), List.append_assoc]
        rfl
theorem split_cut : ∀ (n : Nat) (s : Txt), s.length ≤ n → Lib.splitK [47] 0 (Lib.count s [47]) s = cutP [] s
  | n, s, hn => by
    have hge := Lib.index_ge s [47]
    obtain ⟨i1, i2⟩ := cut_index s []
    by_cases hm : Lib.index s [47] = -1
    · rw [Lib.count_miss hm, i1 hm]; rfl
    · obtain ⟨j, hj⟩ : ∃ j : Nat, Lib.index s [47] = j := ⟨(Lib.index s [47]).toNat, by omega⟩
      have hne : s ≠ [] := by rintro rfl; exact hm rfl
      have hpos : 0 < s.length := List.length_pos_iff.2 hne
      rw [Lib.count_hit (by simp) hj, Nat.add_comm, Lib.splitK, if_neg (fun e => hm (beq_iff_eq.1 e)), hj, i2 j hj]
      have hl : ([47] : List UInt8).length = 1 := rfl
      rw [hl, Int.toNat_natCast, Nat.add_zero, List.nil_append]
      obtain ⟨m, rfl⟩ : ∃ m, n = m + 1 := ⟨n - 1, by omega⟩
      rw [split_cut m (s.drop (j + 1)) (by rw [List.length_drop]; omega)]
/-- The longest text that a search takes as it likes. -/
def MaxAt (w : World) : Prop := ∃ m, w.cell? ⟨Tryd.lays146_ren.g 1, 0, none⟩ = some (.int .i64 m)
theorem MaxAt.below {w w' : World} (h : MaxAt w) (hb : Below w.heap.size w w') : MaxAt w' := by
  obtain ⟨m, hm⟩ := h
  exact ⟨m, by rw [hb.cell (World.block_lt_of_cell? w _ hm)]; exact hm⟩
theorem max_of {W : World} (h : W.ShapedOpen Tryd.prog) : MaxAt W := Tryd.laysM146.s1_3 W h
theorem split_any (s : Txt) (hs : s.length ≤ 100000) (w : World) (hm : MaxAt w) : Calls Tryd.prog 35 #[S s, .string ⟨#[47]⟩] w fun e w' =>
    e = .returned (.slice (some ⟨w.heap.size, 0, none⟩) (cutP [] s).length (cutP [] s).length) ∧ w' = w.alloc (.cells ((cutP [] s).map S).toArray 9) := by
  obtain ⟨m, hm⟩ := hm
  have h := Tryd.strings_Split ⟨s.toArray⟩ ⟨#[47]⟩ m w (by have := S_size s; omega) hm (by decide)
  have e1 := Lib.splitB_data ⟨#[47]⟩ 0 (Lib.countB ⟨s.toArray⟩ ⟨#[47]⟩) ⟨s.toArray⟩
  have e2 : Lib.splitK [47] 0 (Lib.countB ⟨s.toArray⟩ ⟨#[47]⟩) s = cutP [] s := split_cut s.length s (Nat.le_refl _)
  have e3 := Lib.splitB_all ⟨#[47]⟩ (by decide) 0 _ ⟨s.toArray⟩ rfl
  have e4 : (Lib.splitB ⟨#[47]⟩ 0 (Lib.countB ⟨s.toArray⟩ ⟨#[47]⟩) ⟨s.toArray⟩).map (·.data.toList) = cutP [] s := e1.trans e2
  have e5 : (Lib.splitB ⟨#[47]⟩ 0 (Lib.countB ⟨s.toArray⟩ ⟨#[47]⟩) ⟨s.toArray⟩).map Value.string = (cutP [] s).map S := by
    rw [← e4, List.map_map]
    exact List.map_congr_left fun b _ => rfl
  have e6 : (cutP [] s).length = Lib.countB ⟨s.toArray⟩ ⟨#[47]⟩ + 1 := by rw [← e3, ← e4, List.length_map]
  rw [e6, ← e5]
  exact h
theorem row_below {w : World} (o : Obj) : Below w.heap.size w (w.alloc o) := (Below.refl _ w).alloc (Nat.le_refl _) _
set_option maxRecDepth 100000 in
set_option maxHeartbeats 1000000 in
theorem segments_any (s : Txt) (h0 : s ≠ []) (hs : s.length ≤ 100000) (w : World) (hm : MaxAt w) :
    Calls Tryd.prog 23 #[S s] w fun e w' => ∃ V b, e = .returned V ∧ TA w' V (cutS s) b 0 ∧ Below w.heap.size w w' ∧ (cutS s = [] ∨ w.heap.size ≤ b) := by
  have n1 : ∀ x y, eqGuard .eql 9 x y (S s) (.string ⟨#[47]⟩) = pure () := fun x y => guard_S 9 x y s [47]
  unfold cutS
  by_cases h : s = [47]
  · have q1 : binOp .eql 9 (S s) (.string ⟨#[47]⟩) = pure (.bool true) := by rw [h]; exact eql_S 9 [47] [47]
    rw [if_pos h]
    clear h hs h0
    go_enter Tryd.func23, Tryd.ntmps23
    go_wp2
    go_ret
    exact ⟨_, 0, rfl, ta_nil _ none 0, Below.refl _ _, .inl trivial⟩
  · have q1 : binOp .eql 9 (S s) (.string ⟨#[47]⟩) = pure (.bool false) := by
      have := eql_S 9 s [47]
      rw [beq_eq_false_iff_ne.2 h] at this
      exact this
    rw [if_neg h]
    have hsl : ∀ W, (Instr.slice 9 (S s) (some (.int .i64 1)) none none).run Tryd.prog W = .ok (S (s.drop 1)) W := fun W => slice_drop (P := Tryd.prog) Tryd.underlying9 s 1 (List.length_pos_iff.2 h0) W
    have HS := split_any (s.drop 1) (by rw [List.length_drop]; omega) w hm
    generalize s.drop 1 = D at *
    have HS := Lib.hid HS
    clear h hs h0
    go_enter Tryd.func23, Tryd.ntmps23
    go_wp2_with fail
    refine HS.out.mono ?_
    rintro e W ⟨rfl, rfl⟩
    go_wp2
    go_ret
    exact ⟨_, w.heap.size, rfl, ta_row (row_new w _ 9) rfl, row_below _, .inr (Nat.le_refl _)⟩
theorem kind_cases (c : UInt8) (r : Txt) : (c = 58 ∧ kindS (c :: r) = 1) ∨ (c ≠ 58 ∧ ((c.toNat : Int) == 58) = false ∧ ((c.toNat : Int) != 58) = true ∧ c = 42 ∧ kindS (c :: r) = 2) ∨
    (c ≠ 58 ∧ ((c.toNat : Int) == 58) = false ∧ ((c.toNat : Int) != 58) = true ∧ c ≠ 42 ∧ ((c.toNat : Int) == 42) = false ∧ ((c.toNat : Int) != 42) = true ∧ kindS (c :: r) = 0) := by
  rw [kind_head rfl]
  have no : ∀ d : UInt8, c ≠ d → ((c.toNat : Int) == (d.toNat : Int)) = false ∧ ((c.toNat : Int) != (d.toNat : Int)) = true := fun d h => by
    have h2 : c.toNat ≠ d.toNat := fun e => h (UInt8.toNat_inj.1 e)
    exact ⟨by rw [beq_eq_false_iff_ne]; omega, by rw [bne_iff_ne]; omega⟩
  by_cases h1 : c = 58
  · exact .inl ⟨h1, if_pos h1⟩
  · obtain ⟨a1, a2⟩ := no 58 h1
    rw [if_neg h1]
    by_cases h2 : c = 42
    · exact .inr (.inl ⟨h1, a1, a2, h2, if_pos h2⟩)
    · obtain ⟨b1, b2⟩ := no 42 h2
      exact .inr (.inr ⟨h1, a1, a2, h2, b1, b2, if_neg h2⟩)
set_option maxRecDepth 100000 in
set_option maxHeartbeats 1000000 in
theorem literal_any (s : Txt) (hs : s ≠ []) (w : World) : Calls Tryd.prog 31 #[S s] w fun e w' => e = .returned (.bool (kindS s == 0)) ∧ w' = w := by
  obtain ⟨c, r, rfl⟩ : ∃ c r, s = c :: r := by
    cases s with
    | nil => exact absurd rfl hs
    | cons c r => exact ⟨c, r, rfl⟩
  have hix : ∀ w, (Instr.index 9 (S (c :: r)) (.int .i64 0)).run Tryd.prog w = .ok (B c) w := fun w => index_S Tryd.underlying9 (c :: r) 0 c rfl w
  rcases kind_cases c r with ⟨h1, h2⟩ | ⟨_, _, g1, h1, h2⟩ | ⟨_, _, g1, _, _, g2, h2⟩
  · rw [h2]
    generalize S (c :: r) = V at *
    subst h1
    go_enter Tryd.func31, Tryd.ntmps31
    go_wp2
    go_ret
    exact ⟨rfl, rfl⟩
  · rw [h2]
    generalize S (c :: r) = V at *
    subst h1
    go_enter Tryd.func31, Tryd.ntmps31
    go_wp2
    go_ret
    exact ⟨rfl, rfl⟩
  · rw [h2]
    generalize S (c :: r) = V at *
    go_enter Tryd.func31, Tryd.ntmps31
    go_wp2
    go_ret
    exact ⟨rfl, rfl⟩
theorem name_is (c : UInt8) : nameB c = ((decide (65 ≤ c.toNat ∧ c.toNat ≤ 90) || decide (97 ≤ c.toNat ∧ c.toNat ≤ 122)) || (decide (48 ≤ c.toNat ∧ c.toNat ≤ 57) || decide (c.toNat = 95))) := by
  have e : (c == 95) = decide (c.toNat = 95) := by
    rw [Bool.eq_iff_iff, beq_iff_eq, decide_eq_true_eq]
    exact ⟨fun h => by rw [h]; rfl, fun h => UInt8.toNat_inj.1 (by rw [h]; rfl)⟩
  unfold nameB
  rw [e, Bool.eq_iff_iff]
  simp only [Bool.or_eq_true, Bool.and_eq_true, decide_eq_true_eq]
  omega
set_option maxRecDepth 100000 in
set_option maxHeartbeats 1000000 in
theorem inname_any (c : UInt8) (w : World) : Calls Tryd.prog 41 #[B c] w fun e w' => e = .returned (.bool (nameB c)) ∧ w' = w := by
  have hE := name_is c
  have hl := c.toNat_lt
  have h65 := B_geq 5 c 65
  have h90 := B_leq 5 c 90
  have h97 := B_geq 5 c 97
  have h122 := B_leq 5 c 122
  have h48 := B_geq 5 c 48
  have h57 := B_leq 5 c 57
  have h95 := B_eqlN 5 c 95
  rw [Bool.eq_iff_iff.2 (show (((c.toNat : Int) == 95) = true ↔ decide (c.toNat = 95) = true) by rw [beq_iff_eq, decide_eq_true_eq]; omega)] at h95
  have hcs : (0 ≤ c.toNat ∧ c.toNat ≤ 47) ∨ (48 ≤ c.toNat ∧ c.toNat ≤ 57) ∨ (58 ≤ c.toNat ∧ c.toNat ≤ 64) ∨ (65 ≤ c.toNat ∧ c.toNat ≤ 90) ∨ (91 ≤ c.toNat ∧ c.toNat ≤ 94) ∨ (95 ≤ c.toNat ∧ c.toNat ≤ 95) ∨ (96 ≤ c.toNat ∧ c.toNat ≤ 96) ∨ (97 ≤ c.toNat ∧ c.toNat ≤ 122) ∨ (123 ≤ c.toNat ∧ c.toNat ≤ 255) := by omega
  rcases hcs with ⟨a, a2⟩ | ⟨a, a2⟩ | ⟨a, a2⟩ | ⟨a, a2⟩ | ⟨a, a2⟩ | ⟨a, a2⟩ | ⟨a, a2⟩ | ⟨a, a2⟩ | ⟨a, a2⟩
  · have hP : nameB c = false := by
      rw [hE, Bool.eq_iff_iff]
      simp only [Bool.or_eq_true, decide_eq_true_eq, reduceCtorEq, iff_false]
      omega
    rw [hP]
    rw [decide_eq_false (by omega)] at h65
    rw [decide_eq_true (by omega)] at h90
    rw [decide_eq_false (by omega)] at h97
    rw [decide_eq_true (by omega)] at h122
    rw [decide_eq_false (by omega)] at h48
    rw [decide_eq_true (by omega)] at h57
    rw [decide_eq_false (by omega)] at h95
    clear a a2 hE hP hl
    go_enter Tryd.func41, Tryd.ntmps41
    go_wp2
    go_ret
    exact ⟨rfl, rfl⟩
  · have hP : nameB c = true := by
      rw [hE, Bool.eq_iff_iff]
      simp only [Bool.or_eq_true, decide_eq_true_eq, iff_true]
      omega
    rw [hP]
    rw [decide_eq_false (by omega)] at h65
    rw [decide_eq_true (by omega)] at h90
    rw [decide_eq_false (by omega)] at h97
    rw [decide_eq_true (by omega)] at h122
    rw [decide_eq_true (by omega)] at h48
    rw [decide_eq_true (by omega)] at h57
    rw [decide_eq_false (by omega)] at h95
    clear a a2 hE hP hl
    go_enter Tryd.func41, Tryd.ntmps41
    go_wp2
    go_ret
    exact ⟨rfl, rfl⟩
  · have hP : nameB c = false := by
      rw [hE, Bool.eq_iff_iff]
      simp only [Bool.or_eq_true, decide_eq_true_eq, reduceCtorEq, iff_false]
      omega
    rw [hP]
    rw [decide_eq_false (by omega)] at h65
    rw [decide_eq_true (by omega)] at h90
    rw [decide_eq_false (by omega)] at h97
    rw [decide_eq_true (by omega)] at h122
    rw [decide_eq_true (by omega)] at h48
    rw [decide_eq_false (by omega)] at h57
    rw [decide_eq_false (by omega)] at h95
    clear a a2 hE hP hl
    go_enter Tryd.func41, Tryd.ntmps41
    go_wp2
    go_ret
    exact ⟨rfl, rfl⟩
  · have hP : nameB c = true := by
      rw [hE, Bool.eq_iff_iff]
      simp only [Bool.or_eq_true, decide_eq_true_eq, iff_true]
      omega
    rw [hP]
    rw [decide_eq_true (by omega)] at h65
    rw [decide_eq_true (by omega)] at h90
    rw [decide_eq_false (by omega)] at h97
    rw [decide_eq_true (by omega)] at h122
    rw [decide_eq_true (by omega)] at h48
    rw [decide_eq_false (by omega)] at h57
    rw [decide_eq_false (by omega)] at h95
    clear a a2 hE hP hl
    go_enter Tryd.func41, Tryd.ntmps41
    go_wp2
    go_ret
    exact ⟨rfl, rfl⟩
  · have hP : nameB c = false := by
      rw [hE, Bool.eq_iff_iff]
      simp only [Bool.or_eq_true, decide_eq_true_eq, reduceCtorEq, iff_false]
      omega
    rw [hP]
    rw [decide_eq_true (by omega)] at h65
    rw [decide_eq_false (by omega)] at h90
    rw [decide_eq_false (by omega)] at h97
    rw [decide_eq_true (by omega)] at h122
    rw [decide_eq_true (by omega)] at h48
    rw [decide_eq_false (by omega)] at h57
    rw [decide_eq_false (by omega)] at h95
    clear a a2 hE hP hl
    go_enter Tryd.func41, Tryd.ntmps41
    go_wp2
    go_ret
    exact ⟨rfl, rfl⟩
  · have hP : nameB c = true := by
      rw [hE, Bool.eq_iff_iff]
      simp only [Bool.or_eq_true, decide_eq_true_eq, iff_true]
      omega
    rw [hP]
    rw [decide_eq_true (by omega)] at h65
    rw [decide_eq_false (by omega)] at h90
    rw [decide_eq_false (by omega)] at h97
    rw [decide_eq_true (by omega)] at h122
    rw [decide_eq_true (by omega)] at h48
    rw [decide_eq_false (by omega)] at h57
    rw [decide_eq_true (by omega)] at h95
    clear a a2 hE hP hl
    go_enter Tryd.func41, Tryd.ntmps41
    go_wp2
    go_ret
    exact ⟨rfl, rfl⟩
  · have hP : nameB c = false := by
      rw [hE, Bool.eq_iff_iff]
      simp only [Bool.or_eq_true, decide_eq_true_eq, reduceCtorEq, iff_false]
      omega
    rw [hP]
    rw [decide_eq_true (by omega)] at h65
    rw [decide_eq_false (by omega)] at h90
    rw [decide_eq_false (by omega)] at h97
    rw [decide_eq_true (by omega)] at h122
    rw [decide_eq_true (by omega)] at h48
    rw [decide_eq_false (by omega)] at h57
    rw [decide_eq_false (by omega)] at h95
    clear a a2 hE hP hl
    go_enter Tryd.func41, Tryd.ntmps41
    go_wp2
    go_ret
    exact ⟨rfl, rfl⟩
  · have hP : nameB c = true := by
      rw [hE, Bool.eq_iff_iff]
      simp only [Bool.or_eq_true, decide_eq_true_eq, iff_true]
      omega
    rw [hP]
    rw [decide_eq_true (by omega)] at h65
    rw [decide_eq_false (by omega)] at h90
    rw [decide_eq_true (by omega)] at h97
    rw [decide_eq_true (by omega)] at h122
    rw [decide_eq_true (by omega)] at h48
    rw [decide_eq_false (by omega)] at h57
    rw [decide_eq_false (by omega)] at h95
    clear a a2 hE hP hl
    go_enter Tryd.func41, Tryd.ntmps41
    go_wp2
    go_ret
    exact ⟨rfl, rfl⟩
  · have hP : nameB c = false := by
      rw [hE, Bool.eq_iff_iff]
      simp only [Bool.or_eq_true, decide_eq_true_eq, reduceCtorEq, iff_false]
      omega
    rw [hP]
    rw [decide_eq_true (by omega)] at h65
    rw [decide_eq_false (by omega)] at h90
    rw [decide_eq_true (by omega)] at h97
    rw [decide_eq_false (by omega)] at h122
    rw [decide_eq_true (by omega)] at h48
    rw [decide_eq_false (by omega)] at h57
    rw [decide_eq_false (by omega)] at h95
    clear a a2 hE hP hl
    go_enter Tryd.func41, Tryd.ntmps41
    go_wp2
    go_ret
    exact ⟨rfl, rfl⟩
set_option maxRecDepth 100000 in
set_option maxHeartbeats 1000000 in
theorem isname_any (s : Txt) (hs : s.length ≤ 100000) (w : World) : Calls Tryd.prog 32 #[S s] w fun e w' => e = .returned (.bool (nameS s)) ∧ w' = w := by
  have n1 : ∀ x y, eqGuard .eql 9 x y (S s) (.string ⟨#[]⟩) = pure () := fun x y => guard_S 9 x y s []
  have hlS := run_len_S (P := Tryd.prog) Tryd.underlying9 3 s
  by_cases h : s = []
  · subst h
    have q1 : binOp .eql 9 (S []) (.string ⟨#[]⟩) = pure (.bool true) := eql_S 9 [] []
    go_enter Tryd.func32, Tryd.ntmps32
    go_wp2
    go_ret
    exact ⟨rfl, rfl⟩
  · have q1 : binOp .eql 9 (S s) (.string ⟨#[]⟩) = pure (.bool false) := by
      have := eql_S 9 s []
      rw [beq_eq_false_iff_ne.2 h] at this
      exact this
    have hpos := List.length_pos_iff.2 h
    obtain ⟨N, hN⟩ : ∃ N, N = s.length := ⟨_, rfl⟩
    rw [← hN] at hlS hs hpos
    have HN := Lib.hid hN
    by_cases h32 : 32 < N
    · have hz : decide ((32 : Int) < (N : Int)) = true := decide_eq_true (by omega)
      have hP : nameS s = false := by
        unfold nameS
        rw [decide_eq_false (p := s.length ≤ 32) (by omega)]; simp
      rw [hP]
      clear h hN hP h32 hpos hs
      go_enter Tryd.func32, Tryd.ntmps32
      go_wp2
      go_ret
      exact ⟨rfl, rfl⟩
    · have hz : decide ((32 : Int) < (N : Int)) = false := decide_eq_false (by omega)
      have hP : nameS s = s.all nameB := by
        unfold nameS
        rw [decide_eq_true (p := s.length ≤ 32) (by omega), decide_eq_true (p := 1 ≤ s.length) (by omega)]; rfl
      rw [hP]
      obtain ⟨O, hO⟩ : ∃ O, O = s.all nameB := ⟨_, rfl⟩
      rw [← hO]
      have HO := Lib.hid hO
      clear h hN hP hO hpos
      have hN100 : N ≤ 32 := by omega
      clear h32 hs
      go_enter Tryd.func32, Tryd.ntmps32
      go_wp2
      go_loopw [13] (fun iv wr => ∃ i : Nat, i ≤ N ∧ iv = .int .i64 (i : Int) ∧ wr = w ∧ Hid (∀ x ∈ s.take i, nameB x = true)) (fun iv _ => N - (intOf iv).toNat)
      case atStart => exact ⟨0, Nat.zero_le _, rfl, rfl, Lib.hid (by simp)⟩
      case round =>
        obtain ⟨i, hi, rfl, rfl, HR⟩ := hrel
        by_cases hlt : i < N
        · have g1 : decide ((i : Int) < (N : Int)) = true := decide_eq_true (by omega)
          obtain ⟨c, hc⟩ : ∃ c, s[i]? = some c := ⟨s[i]'(by have := HN.out; omega), List.getElem?_eq_getElem _⟩
          have hix : ∀ w, (Instr.index 9 (S s) (.int .i64 (i : Int))).run Tryd.prog w = .ok (B c) w := fun w => index_S Tryd.underlying9 s i c hc w
          have HI := Lib.hid (inname_any c wr)
          have hw1 : IntKind.i64.wrap ((i : Int) + 1) = (i : Int) + 1 := by rw [IntKind.wrap_i64]; omega
          have HC := Lib.hid hc
          clear hc
          go_wp2_with fail
          refine HI.out.mono ?_
          rintro e w' ⟨rfl, rfl⟩
          cases hb : nameB c with
          | false =>
            have HP : Hid (O = false) := Lib.hid (by
              rw [HO.out, List.all_eq_false]
              exact ⟨c, List.mem_of_getElem? HC.out, by rw [hb]; exact Bool.false_ne_true⟩)
            clear hb
            go_wp2
            go_ret
            exact ⟨by rw [HP.out]; rfl, rfl⟩
          | true =>
            have HX : Hid (∀ x ∈ s.take (i + 1), nameB x = true) := Lib.hid (by
              intro x hx
              rw [List.take_add_one, HC.out] at hx
              rcases List.mem_append.1 hx with hx | hx
              · exact HR.out x hx
              · have : x = c := by simpa using hx
                rw [this]; exact hb)
            clear hb
            go_wp2
            exact ⟨⟨i + 1, by omega, by go_num, by trivial, HX⟩, by simp [intOf]; omega⟩
        · obtain rfl : i = N := by omega
          have g1 : decide ((i : Int) < (i : Int)) = false := decide_eq_false (by omega)
          have HP : Hid (O = true) := Lib.hid (by
            have h := HR.out
            rw [HN.out, List.take_length] at h
            rw [HO.out, List.all_eq_true]; exact h)
          go_wp2
          go_ret
          exact ⟨by rw [HP.out]; rfl, rfl⟩
end Go.Proofs.YtgoaljnfegaldaaDoor
