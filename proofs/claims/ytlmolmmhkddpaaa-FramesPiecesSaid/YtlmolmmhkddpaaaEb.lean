/- The document's Mask (stage 15) walked. (mkeb.py writes it.) -/
import Derived.Test.YtlmolmmhkddpaaaEa
import Derived.Deep.QuietTactic
namespace Go.Proofs.Ytlmolmmhkddpaaa
open Go.RowKit
attribute [local go_sem] store_one B_match B_store S_match S_store B_xor

theorem elemE : Elem Try.prog 5 := elem_of (z := .int .u8 0) (n := 1) (by kernel_rfl) (by omega) rfl
theorem idx_key (b i : Nat) (hi : i < 4) (w : World) : (Instr.indexAt 43 (.pointer (some ⟨b, 0, none⟩)) (.int .i64 (i : Int))).run Try.prog w = .ok (.pointer (some ⟨b, i, none⟩)) w := by
  have : i = 0 ∨ i = 1 ∨ i = 2 ∨ i = 3 := by omega
  rcases this with rfl | rfl | rfl | rfl <;> (go_simp)
set_option maxRecDepth 100000 in
set_option maxHeartbeats 1000000 in
theorem mask15_any (K : Key4) (a : Int) (s : List UInt8) (w : World) (hl : s.length ≤ 1000000) : Calls Try.prog 23 #[kV K, .int .i64 a, S s] w fun e w' => e = .returned (S (maskF K a s)) ∧ Below w.heap.size w w' := by
  have hlS := run_len_S (P := Try.prog) Try.underlying9 3 s
  obtain ⟨b, hb⟩ : ∃ b, b = w.heap.size := ⟨_, rfl⟩
  obtain ⟨W1, hW1⟩ : ∃ W, W = w.alloc (.cells (kC K) 43) := ⟨_, rfl⟩
  have H1 : Hid (Row W1 b (kC K) 43 ∧ Below w.heap.size w W1 ∧ W1.heap.size = b + 1) := Lib.hid (by rw [hW1, hb]; exact ⟨row_new _ _ _, (Below.refl _ _).alloc (Nat.le_refl _) _, by rw [alloc_size]⟩)
  obtain ⟨N, hN⟩ : ∃ N, N = s.length := ⟨_, rfl⟩
  rw [← hN] at hlS hl
  have HN := Lib.hid hN
  clear hN
  unfold kV
  unfold kC at hW1 ⊢
  by_cases ha : a < 0
  · have g1 : decide (a < 0) = true := decide_eq_true ha
    have HM : Hid (maskF K a s = s) := Lib.hid (by unfold maskF; rw [if_pos ha])
    go_enter Try.func23, Try.ntmps23
    go_wp2
    go_ret
    rw [← hW1]
    exact ⟨by rw [HM.out]; rfl, H1.out.2.1⟩
  have g1 : decide (a < 0) = false := decide_eq_false ha
  obtain ⟨n, rfl⟩ : ∃ n : Nat, a = (n : Int) := ⟨a.toNat, by omega⟩
  have HM : Hid (maskF K (n : Int) s = maskN K (n % 4) s) := Lib.hid (by unfold maskF; rw [if_neg ha, Int.toNat_natCast]; exact mask_cong K s n (n % 4) (by omega))
  obtain ⟨m, hm⟩ : ∃ m, m = n % 4 := ⟨_, rfl⟩
  have hr : IntKind.i64.wrap ((n : Int).tmod 4) = (m : Int) := by rw [IntKind.wrap_i64, Int.tmod_eq_emod_of_nonneg (by omega)]; omega
  have hr2 : (n : Int).tmod 4 = (m : Int) := by rw [Int.tmod_eq_emod_of_nonneg (by omega)]; omega
  have hr3 : (n : Int) % 4 = (m : Int) := by omega
  have hm4 : m < 4 := by omega
  rw [← hm] at HM
  clear hm ha
  go_enter Try.func23, Try.ntmps23
  go_wp2
  rw [← hW1]
  rw [← hb]
  have HB := Lib.hid hb
  clear hW1 hb
  go_loopw [1, 7, 8] (fun av vv iv wr => ∃ i : Nat, i ≤ N ∧ av = .int .i64 (((m + i) % 4 : Nat) : Int) ∧ iv = .int .i64 (i : Int) ∧ Hid (Own (b + 1) vv ((maskN K m (s.take i)).map B) wr ∧ Row wr b (kC K) 43 ∧ Below w.heap.size w wr ∧ b + 1 ≤ wr.heap.size)) (fun _ _ iv _ => N - (intOf iv).toNat)
  case atStart => exact ⟨0, Nat.zero_le _, by rw [Nat.add_zero, Nat.mod_eq_of_lt hm4], rfl, Lib.hid ⟨.inl ⟨rfl, rfl⟩, H1.out.1, H1.out.2.1, by rw [H1.out.2.2]; exact Nat.le_refl _⟩⟩
  case round =>
    obtain ⟨i, hi, rfl, rfl, HI⟩ := hrel
    by_cases hlt : i < N
    · have g2 : decide ((i : Int) < (N : Int)) = true := decide_eq_true (by omega)
      obtain ⟨c, hc⟩ : ∃ c, s[i]? = some c := ⟨s[i]'(by have := HN.out; omega), List.getElem?_eq_getElem _⟩
      have hix : ∀ w', (Instr.index 9 (S s) (.int .i64 (i : Int))).run Try.prog w' = .ok (B c) w' := fun w' => index_S Try.underlying9 s i c hc w'
      obtain ⟨q, hq⟩ : ∃ q, q = (m + i) % 4 := ⟨_, rfl⟩
      have hq4 : q < 4 := by omega
      have hkx := idx_key b q hq4
      have hkc : ∀ W, Row W b (kC K) 43 → W.cell? ⟨b, q, none⟩ = some (B (K.at q)) := fun W h => by rw [cell_of_row W b q _ _ (0, 0) h]; exact kC_get K q hq4
      have hms : maskN K m (s.take (i + 1)) = maskN K m (s.take i) ++ [c ^^^ K.at q] := by rw [mask_snoc hc, hq, at_mod]
      obtain ⟨y, hy⟩ : ∃ y, y = c ^^^ K.at q := ⟨_, rfl⟩
      have hxor : binOp .xor 5 (B c) (B (K.at q)) = pure (B y) := by rw [B_xor, hy]
      obtain ⟨k, hk⟩ : ∃ k, k = K.at q := ⟨_, rfl⟩
      rw [← hy] at hms
      rw [← hk] at hkc hxor
      obtain ⟨Wq, hWq⟩ : ∃ Wq, Wq = wr.drew := ⟨_, rfl⟩
      have hBq : Below wr.heap.size wr Wq := by rw [hWq]; exact ⟨rfl, rfl, rfl, Nat.le_refl _, fun _ _ => rfl⟩
      have hrq := HI.out.2.1.below hBq HI.out.2.1.lt
      have hoq := HI.out.1.below hBq (fun k e => (HI.out.1.lt k e).2)
      have hsq : b + 1 ≤ Wq.heap.size := Nat.le_trans HI.out.2.2.2 hBq.size
      obtain ⟨i0, z0, hi0, hz0, hs0, hby0, hzs0⟩ := elemE
      have hra := hrq.alloc (.cells #[B y] 5)
      obtain ⟨v', w', hr7, hown, hgr, hob⟩ := run_push (P := Try.prog) (Wq.alloc (.cells #[B y] 5)) (b + 1) 38 38 5 i0 z0 Try.underlying38 hi0 hz0 hs0 hby0 hzs0 u7 _ (hoq.alloc _) ⟨Wq.heap.size, 0, none⟩ (B y) (cell_of_row _ _ 0 _ _ (0, 0) (row_new Wq _ _)) rfl (by rw [List.length_map, mask_len, List.length_take]; omega) (by rw [alloc_size]; omega)
      have hr5 := row_grown hra hgr (fun e => by have := (hoq.lt b e.symm).1; omega)
      have HE : Hid (Own (b + 1) v' ((maskN K m (s.take (i + 1))).map B) w' ∧ Row w' b (kC K) 43 ∧ Below w.heap.size w w' ∧ b + 1 ≤ w'.heap.size) := Lib.hid ⟨by rw [hms, List.map_append]; exact hown, hr5, by
        have h1 := (HI.out.2.2.1.trans (hBq.mono HI.out.2.2.1.size)).alloc (by have := HI.out.2.2.1.size; have := hBq.size; omega) (.cells #[B y] 5)
        exact h1.grown hgr h1.size (fun k e => by have := (hoq.lt k e).1; have := HB.out; omega), by have := hgr.size; rw [alloc_size] at this; omega⟩
      have hkr := hkc wr HI.out.2.1
      have hkq := hkc Wq hrq
      have hka := hkc _ hra
      have hkw := hkc w' hr5
      have HR := Lib.hid hr7
      have HQ := Lib.hid (And.intro hq hq4)
      have hw1 : IntKind.i64.wrap ((i : Int) + 1) = (i : Int) + 1 := by rw [IntKind.wrap_i64]; omega
      have hw2 : IntKind.i64.wrap ((q : Int) + 1) = (q : Int) + 1 := by rw [IntKind.wrap_i64]; omega
      rw [← hq]
      clear hq hms hy hk hBq hrq hoq hsq hra hown hgr hob hr5 hr7 HI hc hi0 hz0 hs0 hby0 hzs0 hkc
      go_wp2
      refine wp_region_noPanic ?_
      refine wp_region_held_drew (S := fun wx => wx.cell? ⟨b, q, none⟩ = some (B k)) (by kernel_rfl) hkr (fun _ => ?_)
      rw [← hWq]
      clear hWq hkr
      refine take_at (i := 0) (d := some 20) (v := u7) rfl (by kernel_rfl) (by kernel_rfl) (by kernel_rfl) (fun _ _ _ h => h) (fun oi ho => ?_) hkq ?_
      · obtain rfl := Option.some.inj ho
        exact Or.inl ⟨by rfl, fun wx hSw => by go_simp⟩
      simp only [Act.put, List.setIfInBounds_toArray, List.set_cons_zero, List.set_cons_succ]
      refine take_at (i := 1) (d := some 21) (v := S s) rfl (by kernel_rfl) (by kernel_rfl) (by kernel_rfl) (fun _ _ _ h => h) (fun oi ho => ?_) hkq ?_
      · obtain rfl := Option.some.inj ho
        exact Or.inl ⟨by rfl, fun wx hSw => by go_simp⟩
      simp only [Act.put, List.setIfInBounds_toArray, List.set_cons_zero, List.set_cons_succ]
      refine take_at (i := 2) (d := some 22) (v := .int .i64 (i : Int)) rfl (by kernel_rfl) (by kernel_rfl) (by kernel_rfl) (fun _ _ _ h => h) (fun oi ho => ?_) hkq ?_
      · obtain rfl := Option.some.inj ho
        exact Or.inl ⟨by rfl, fun wx hSw => by go_simp⟩
      simp only [Act.put, List.setIfInBounds_toArray, List.set_cons_zero, List.set_cons_succ]
      refine take_at (i := 3) (d := some 23) (v := B c) rfl (by kernel_rfl) (by kernel_rfl) (by kernel_rfl) (fun _ _ _ h => h) (fun oi ho => ?_) hkq ?_
      · obtain rfl := Option.some.inj ho
        exact Or.inl ⟨by rfl, fun wx hSw => by go_simp⟩
      simp only [Act.put, List.setIfInBounds_toArray, List.set_cons_zero, List.set_cons_succ]
      refine take_at (i := 4) (d := some 24) (v := .int .i64 (q : Int)) rfl (by kernel_rfl) (by kernel_rfl) (by kernel_rfl) (fun _ _ _ h => h) (fun oi ho => ?_) hkq ?_
      · obtain rfl := Option.some.inj ho
        exact Or.inl ⟨by rfl, fun wx hSw => by go_simp⟩
      simp only [Act.put, List.setIfInBounds_toArray, List.set_cons_zero, List.set_cons_succ]
      refine take_at (i := 5) (d := some 25) (v := .pointer (some ⟨b, q, none⟩)) rfl (by kernel_rfl) (by kernel_rfl) (by kernel_rfl) (fun _ _ _ h => h) (fun oi ho => ?_) hkq ?_
      · obtain rfl := Option.some.inj ho
        exact Or.inl ⟨by rfl, fun wx hSw => by go_simp⟩
      simp only [Act.put, List.setIfInBounds_toArray, List.set_cons_zero, List.set_cons_succ]
      refine take_at (i := 6) (d := some 26) (v := B k) rfl (by kernel_rfl) (by kernel_rfl) (by kernel_rfl) (fun _ _ _ h => h) (fun oi ho => ?_) hkq ?_
      · obtain rfl := Option.some.inj ho
        exact Or.inl ⟨by rfl, fun wx hSw => by go_simp⟩
      simp only [Act.put, List.setIfInBounds_toArray, List.set_cons_zero, List.set_cons_succ]
      refine take_at (i := 7) (d := some 27) (v := B y) rfl (by kernel_rfl) (by kernel_rfl) (by kernel_rfl) (fun _ _ _ h => h) (fun oi ho => ?_) hkq ?_
      · obtain rfl := Option.some.inj ho
        exact Or.inl ⟨by rfl, fun wx hSw => by go_simp⟩
      simp only [Act.put, List.setIfInBounds_toArray, List.set_cons_zero, List.set_cons_succ]
      refine ready_value (i := 8) (d := some 28) (v := .slice (some ⟨Wq.heap.size, 0, none⟩) 1 1) (w' := Wq.alloc (.cells #[B y] 5)) rfl (by kernel_rfl) (fun oi ho => ?_) hka ?_
      · obtain rfl := Option.some.inj ho
        exact ⟨by rfl, by go_simp⟩
      simp only [Act.put, List.setIfInBounds_toArray, List.set_cons_zero, List.set_cons_succ]
      refine ready_value (i := 9) (d := some 29) (v := v') (w' := w') rfl (by kernel_rfl) (fun oi ho => ?_) hkw ?_
      · obtain rfl := Option.some.inj ho
        exact ⟨by rfl, exec_append 38 38 (.tmp 20) (.tmp 28) _ _ rfl rfl rfl HR.out⟩
      simp only [Act.put, List.setIfInBounds_toArray, List.set_cons_zero, List.set_cons_succ]
      refine take_at (i := 10) (d := some 7) (v := v') rfl (by kernel_rfl) (by kernel_rfl) (by kernel_rfl) (fun _ _ _ h => h) (fun oi ho => ?_) hkw ?_
      · obtain rfl := Option.some.inj ho
        exact Or.inl ⟨by rfl, fun wx hSw => by go_simp⟩
      simp only [Act.put, List.setIfInBounds_toArray, List.set_cons_zero, List.set_cons_succ]
      refine wpAnyH_done (by kernel_rfl) ?_ _
      refine NoPanic.normal ?_
      clear hkq hka hkw HR hix hkx hxor
      by_cases h3 : q = 3
      · have e1 : (((q : Int) + 1) == 4) = true := by rw [beq_iff_eq]; omega
        go_wp2
        exact ⟨⟨i + 1, by omega, by have h := HQ.out; rw [show (m + (i + 1)) % 4 = 0 by omega]; rfl, by go_num, HE⟩, by simp [intOf]; omega⟩
      · have e1 : (((q : Int) + 1) == 4) = false := by rw [beq_eq_false_iff_ne]; omega
        go_wp2
        exact ⟨⟨i + 1, by omega, by have h := HQ.out; rw [show (m + (i + 1)) % 4 = q + 1 by omega]; go_num, by go_num, HE⟩, by simp [intOf]; omega⟩
    · obtain rfl : i = N := by omega
      have g2 : decide ((i : Int) < (i : Int)) = false := decide_eq_false (by omega)
      have hcv := own_text (P := Try.prog) Try.underlying9 Try.underlying38 Try.underlying5 HI.out.1
      have HE : Hid (s.take i = s ∧ Below w.heap.size w wr) := Lib.hid ⟨by rw [HN.out, List.take_length], HI.out.2.2.1⟩
      rw [HE.out.1] at hcv
      clear HI
      go_wp2
      go_ret
      exact ⟨by rw [HM.out]; rfl, HE.out.2⟩
end Go.Proofs.Ytlmolmmhkddpaaa
