/- The contract of Runes: an iterator that ranges over another one. -/
import Derived.Test.YtmamklahnpmgjaaW6
import Derived.Test.YtmamklahnpmgjaaW7
namespace Go.Proofs.Ytmamklahnpmgjaa
open Go.RowKit Go.Shelf
attribute [local go_sem] store_one Oper.semAt_some

theorem chars_four : ∀ (r : List UInt8) (i f : Nat) (T : List (UInt8 × UInt8)), Same T → (T = [] → f = i) → (T ≠ [] → i - f + T.length ≤ 4) → f ≤ i → ∀ x ∈ charsF i f T r, x.2 - x.1 ≤ 4
  | [], i, f, T, hS, h0, h4, hf, x, hx => by simp [charsF] at hx
  | c :: r, i, f, T, hS, h0, h4, hf, x, hx => by
    cases hn : nextF T c with
    | none => rw [charsF_bad hn] at hx; cases hx
    | some T' =>
      obtain ⟨h1, h2, h3⟩ := next_same hS hn
      have hb : i + 1 - f + T'.length ≤ 4 := by
        by_cases he : T = []
        · have := h0 he; have := h2 he; omega
        · have h5 := h4 he
          rw [h3 he, List.length_tail]
          have : 0 < T.length := List.length_pos_iff.2 he
          omega
      cases hT : T'.isEmpty with
      | true =>
        rw [charsF_end hn hT] at hx
        rcases List.mem_cons.1 hx with rfl | hx
        · show i + 1 - f ≤ 4; omega
        · exact chars_four r (i + 1) (i + 1) [] (fun y hy => by cases hy) (fun _ => rfl) (fun h => absurd rfl h) (Nat.le_refl _) x hx
      | false =>
        rw [charsF_more hn hT] at hx
        exact chars_four r (i + 1) f T' h1 (fun h => by rw [h] at hT; cases hT) (fun _ => hb) (by omega) x hx
/-- A character's bytes: one at least, four at most. -/
theorem chars_bytes {s : List UInt8} {x : Nat × Nat} (hx : x ∈ chars s) : ∃ a t, (s.drop x.1).take (x.2 - x.1) = a :: t ∧ t.length ≤ 3 ∧ x.1 ≤ x.2 ∧ x.2 ≤ s.length := by
  have h1 := chars_le s 0 0 [] (Nat.le_refl _) x hx
  have h2 := chars_four s 0 0 [] (fun y hy => by cases hy) (fun _ => rfl) (fun h => absurd rfl h) (Nat.le_refl _) x hx
  have hl : ((s.drop x.1).take (x.2 - x.1)).length = x.2 - x.1 := by rw [List.length_take, List.length_drop]; omega
  cases h : (s.drop x.1).take (x.2 - x.1) with
  | nil => rw [h, List.length_nil] at hl; omega
  | cons a t => rw [h, List.length_cons] at hl; exact ⟨a, t, rfl, by omega, by omega, by omega⟩
/-- The number of a character. -/
def numAt (s : List UInt8) (x : Nat × Nat) : Nat := runeN ((s.drop x.1).take (x.2 - x.1))
def encR (s : List UInt8) (x : Nat × Nat) : Array Value := #[.int .i64 (x.1 : Int), .int .i32 (numAt s x : Int)]

set_option maxRecDepth 100000 in
set_option maxHeartbeats 400000 in
theorem runes_seq (s : List UInt8) (hs : s.length < 1000000000) (Bs : Nat) (n : Nat) :
    SeqL Try.prog n 24 #[.pointer (some ⟨Bs, 0, none⟩)] (encR s) 5 (fun r => r = Bs) (chars s) (fun W => Row W Bs #[S s] 9) := fun l J Jx W hOk hJ hJx hY h0 => by
  obtain ⟨b, hb⟩ : ∃ b, b = W.heap.size := ⟨_, rfl⟩
  have hBs := hOk.lt
  have cs := hOk.cell0
  have hBb : Bs < b := by omega
  rw [← hb] at hJ hJx hY
  refine callsIn_of_wp_marks Try.func24 rfl trivial ?_ rfl
  simp only [Try.ntmps24, List.size_toArray, List.length_cons, List.length_nil, Nat.reduceAdd, Nat.reduceSub, Array.replicate_succ, Array.replicate_zero, List.push_toArray, List.append_toArray, List.nil_append, List.cons_append]
  have HJ := Lib.hid (And.intro hJ hJx)
  have HY := Lib.hid hY
  have HB := Lib.hid hb
  have H0 := Lib.hid (And.intro hOk h0)
  clear hJ hJx hY hb hOk h0
  have hnf : ∀ w, (binOp .eql 50 (.func (.yield l) #[] #[]) .nilFunc).run Try.prog w = .ok (.bool false) w := eql_nilFunc Try.underlying50 _ _ _
  gi_wp2_with fail
  refine ⟨trivial, fun h => absurd h (by simp [Fence.wide]), (callsIn_wide.2 (characters_any s _)).mono ?_⟩
  rintro e W1 ⟨rfl, rfl⟩
  obtain ⟨W1, hW1⟩ : ∃ W1, W1 = (W.alloc (.cells #[.func (.yield l) #[] #[]] 50)).alloc (.cells #[S s] 9) := ⟨_, rfl⟩
  have hP : Row W1 b #[.func (.yield l) #[] #[]] 50 := by rw [hW1, HB.out]; exact (row_new _ _ _).alloc _
  have hT : Row W1 (b + 1) #[S s] 9 := by
    have := row_new (W.alloc (.cells #[.func (.yield l) #[] #[]] 50)) #[S s] 9
    rw [alloc_size] at this; rw [hW1, HB.out]; exact this
  have hS : Row W1 Bs #[S s] 9 := by rw [hW1]; exact (H0.out.1.alloc _).alloc _
  have hz : W1.heap.size = b + 2 := by rw [hW1, HB.out]; simp
  have hJ1 : J [] W1 := by rw [hW1]; exact HJ.out.1.alloc _ (HJ.out.1.alloc _ H0.out.2)
  rw [alloc_size, ← hW1, ← HB.out]
  have H1 := Lib.hid (And.intro hP (And.intro hT (And.intro hS hJ1)))
  clear hW1 hP hT hS hJ1
  gi_wp2
  refine wpIn_rangeFunc_L (gf := 27) (lb := #[.pointer (some ⟨b + 1, 0, none⟩)]) rfl (enters_of Try.func27 (by kernel_rfl) rfl)
    (fun m => chars_seq s hs (b + 1) m) (fun r e => by omega) (fun W hb => H1.out.2.1.below hb (by omega)) (fun _ => rfl)
    (fun pre W => J pre W ∧ Row W b #[.func (.yield l) #[] #[]] 50 ∧ Row W (b + 1) #[S s] 9 ∧ Row W Bs #[S s] 9)
    (fun c pre W => c = .ret ∧ Jx pre W)
    ((HJ.out.1.mono (by omega) (by omega)).and ((abidesIn_block (fun _ => _) (.inl (by omega))).and ((abidesIn_block (fun _ => _) (.inl (by omega))).and (abidesIn_block (fun _ => _) (.inl (by omega))))))
    (fun c => (abidesIn_pure (fun _ => c = .ret)).and (HJ.out.2.mono (by omega) (by omega)))
    ⟨H1.out.2.2.2, H1.out.1, H1.out.2.1, H1.out.2.2.1⟩
    (fun x => { tmps := #[.func (.yield l) #[] #[], .pointer (some ⟨Bs, 0, none⟩), .pointer (some ⟨b, 0, none⟩), .int .i64 x.1, .int .i64 x.2, .func (.yield l) #[] #[], .bool false, S s, .func (.func 27) #[] #[.pointer (some ⟨b + 1, 0, none⟩)], .int .i64 x.1, .int .i64 x.2, undef, undef, undef, undef, undef, undef, undef, undef, undef], defers := [] }) ?assign ?body ?done ?stop
  case assign =>
    intro l x W K hK
    unfold encP
    gi_wp2
    exact hK
  case body =>
    rintro l2 pre x W2 hpx ⟨hj, hP, hT, hS⟩ hsz
    have hmem : x ∈ chars s := hpx.subset (List.mem_append.2 (.inr (List.mem_singleton.2 rfl)))
    obtain ⟨a, t, hat, ht3, hx1, hx2⟩ := chars_bytes hmem
    have cP := hP.cell0
    have cS := hS.cell0
    have hsl : ∀ w, (Instr.slice 9 (S s) (some (.int .i64 (x.1 : Int))) (some (.int .i64 (x.2 : Int))) none).run Try.prog w = .ok (S (a :: t)) w := fun w => by
      have := slice_mid (P := Try.prog) Try.underlying9 s x.1 x.2 hx1 hx2 w
      rw [hat] at this; exact this
    have hmx : Try.prog.follows .mixedOrders = true := by kernel_rfl
    have H2 := Lib.hid (And.intro hj (And.intro hP (And.intro hT hS)))
    have HX := Lib.hid (And.intro hpx hat)
    clear hj hP hT hS hpx hmem hat
    have hyl : ∀ W3, Drawn W2 W3 → W3.cell? ⟨b, 0, none⟩ = some (.func (.yield l) #[] #[]) ∧ W3.cell? ⟨Bs, 0, none⟩ = some (S s) ∧ ∃ fn tmps assign body,
        (Instr.yield l #[.int .i64 (x.1 : Int), .int .i32 (runeN (a :: t) : Int)]).run Try.prog W3 = .ok (.round l fn tmps assign body) W3 ∧
        ∀ m, RoundIn Fence.wide m Try.prog l fn tmps assign body W3 fun e W' => ∃ okb, e = .returned (.bool okb) ∧ Kept (fun r => r = Bs ∨ b ≤ r ∧ r < b + 5) W3 W' ∧ (okb = true → J (pre ++ [x]) W') ∧ (okb = false → Jx (pre ++ [x]) W') := by
      intro W3 hD
      refine ⟨by rw [hD.cell]; exact H2.out.2.1.cell0, by rw [hD.cell]; exact H2.out.2.2.2.cell0, ?_⟩
      obtain ⟨fn, tmps, assign, body, hy, hR⟩ := HY.out pre x W3 HX.out.1 (HJ.out.1 pre W2 W3 none H2.out.1 (hD.grown none) (fun r e => by cases e)) (by rw [hD.heap]; omega)
      refine ⟨fn, tmps, assign, body, ?_, fun m => (roundIn_wide0 m hR).mono ?_⟩
      · rw [encR, numAt, HX.out.2] at hy; exact hy
      · rintro e W' (⟨rfl, hj, hk⟩ | ⟨rfl, hj, hk⟩)
        · exact ⟨true, rfl, hk, fun _ => hj, fun h => Bool.noConfusion h⟩
        · exact ⟨false, rfl, hk, fun h => Bool.noConfusion h, fun _ => hj⟩
    have HYL := Lib.hid hyl
    clear hyl
    have hend : ∀ W3 W4, Drawn W2 W3 → Kept (fun r => r = Bs ∨ b ≤ r ∧ r < b + 5) W3 W4 → Kept (fun r => r = b + 1 ∨ b + 2 ≤ r ∧ r < b + 2 + 3) W2 W4 ∧ Row W4 b #[.func (.yield l) #[] #[]] 50 ∧ Row W4 (b + 1) #[S s] 9 ∧ Row W4 Bs #[S s] 9 := by
      intro W3 W4 hD hk
      have hh := hD.heap
      have hs : ∀ r, (r = Bs ∨ b ≤ r ∧ r < b + 5) → W4.heap[r]? = W2.heap[r]? := fun r hr => by rw [hk.same r hr, hh]
      exact ⟨⟨by rw [← hh]; exact hk.size, fun r hr => hs r (by omega)⟩, (hs b (by omega)).trans H2.out.2.1, (hs (b + 1) (by omega)).trans H2.out.2.2.1, (hs Bs (.inl rfl)).trans H2.out.2.2.2⟩
    gi_wp2
    refine wpIn_region_inRound rfl hmx (by kernel_rfl) ?_
    refine wpAnyIn_take (i := 1) (v := .int .i64 (x.1 : Int)) rfl rfl (by kernel_rfl) (by kernel_rfl) (by kernel_rfl) (fun _ _ _ h => h) ⟨Or.inl ⟨by rfl, fun _ => rfl⟩, fun _ => rfl⟩ ?_
    simp only [Act.put, List.setIfInBounds_toArray, List.set_cons_zero, List.set_cons_succ]
    refine wpAnyIn_take (i := 3) (v := .int .i64 (x.1 : Int)) rfl rfl (by kernel_rfl) (by kernel_rfl) (by kernel_rfl) (fun _ _ _ h => h) ⟨Or.inl ⟨by rfl, fun _ => rfl⟩, fun _ => rfl⟩ ?_
    simp only [Act.put, List.setIfInBounds_toArray, List.set_cons_zero, List.set_cons_succ]
    refine wpAnyIn_take (i := 4) (v := .int .i64 (x.2 : Int)) rfl rfl (by kernel_rfl) (by kernel_rfl) (by kernel_rfl) (fun _ _ _ h => h) ⟨Or.inl ⟨by rfl, fun _ => rfl⟩, fun _ => rfl⟩ ?_
    simp only [Act.put, List.setIfInBounds_toArray, List.set_cons_zero, List.set_cons_succ]
    refine wpAnyIn_ready (rs := [0, 2]) (by kernel_rfl) (by simp) ?_
    refine AllReadyIn.cons rfl (fun K hK => ?_) ?_
    · go_simp
      refine hK _ _ ?_
      clear hK K
      try simp only [Act.put, List.setIfInBounds_toArray, List.set_cons_zero, List.set_cons_succ]
      refine wpAnyIn_ready (rs := [2]) (by kernel_rfl) (by simp) ?_
      refine AllReadyIn.cons rfl (fun K hK => ?_) AllReadyIn.nil
      go_simp
      refine hK _ _ ?_
      clear hK K
      try simp only [Act.put, List.setIfInBounds_toArray, List.set_cons_zero, List.set_cons_succ]
      refine wpAnyIn_take (i := 5) (v := S (a :: t)) rfl rfl (by kernel_rfl) (by kernel_rfl) (by kernel_rfl) (fun _ _ _ h => h) ⟨Or.inl ⟨by rfl, fun w => by go_simp⟩, fun _ => rfl⟩ ?_
      simp only [Act.put, List.setIfInBounds_toArray, List.set_cons_zero, List.set_cons_succ]
      refine wpAnyIn_ready (rs := [6]) (by kernel_rfl) (by simp) ?_
      refine AllReadyIn.cons rfl (fun K hK => ?_) AllReadyIn.nil
      go_simp
      refine ⟨trivial, fun h => absurd h (by simp [Fence.wide]), (callsIn_wide.2 (number_any a t ht3 W2.drew)).mono ?_⟩
      rintro e W3 ⟨rfl, hD3⟩
      refine hK _ _ ?_
      clear hK K
      try simp only [Act.put, List.setIfInBounds_toArray, List.set_cons_zero, List.set_cons_succ]
      obtain ⟨cP3, cS3, fn, tmps, assign, body, hy, hR⟩ := HYL.out W3 (Drawn.trans ⟨1, rfl⟩ hD3)
      refine wpAnyIn_ready (rs := [7]) (by kernel_rfl) (by simp) ?_
      refine AllReadyIn.cons rfl (fun K hK => ?_) AllReadyIn.nil
      go_simp
      refine ⟨fun h => absurd h (by simp [Fence.wide]), (hR _).mono ?_⟩
      rintro e W4 ⟨okb, rfl, hk4, hj4⟩
      refine hK _ _ ?_
      clear hK K
      try simp only [Act.put, List.setIfInBounds_toArray, List.set_cons_zero, List.set_cons_succ]
      refine wpAnyIn_ready (rs := [8]) (by kernel_rfl) (by simp) ?_
      refine AllReadyIn.cons rfl (fun K hK => ?_) AllReadyIn.nil
      go_simp
      refine hK _ _ ?_
      clear hK K
      try simp only [Act.put, List.setIfInBounds_toArray, List.set_cons_zero, List.set_cons_succ]
      refine wpAnyIn_done (by kernel_rfl) ?_ _
      have hk5 := hend W3 W4 (Drawn.trans ⟨1, rfl⟩ hD3) hk4
      clear hk4 hy hR hD3
      cases okb with
      | true => have hj := hj4.1 rfl; clear hj4; gi_wp2; exact ⟨hk5.1.mono (fun r hr => by omega), hj, hk5.2⟩
      | false => have hj := hj4.2 rfl; clear hj4; gi_wp2; exact ⟨hk5.1.mono (fun r hr => by omega), rfl, hj⟩
    refine AllReadyIn.cons rfl (fun K hK => ?_) AllReadyIn.nil
    go_simp
    refine hK _ _ ?_
    clear hK K
    try simp only [Act.put, List.setIfInBounds_toArray, List.set_cons_zero, List.set_cons_succ]
    refine wpAnyIn_take (i := 5) (v := S (a :: t)) rfl rfl (by kernel_rfl) (by kernel_rfl) (by kernel_rfl) (fun _ _ _ h => h) ⟨Or.inl ⟨by rfl, fun w => by go_simp⟩, fun _ => rfl⟩ ?_
    simp only [Act.put, List.setIfInBounds_toArray, List.set_cons_zero, List.set_cons_succ]
    refine wpAnyIn_ready (rs := [0, 6]) (by kernel_rfl) (by simp) ?_
    refine AllReadyIn.cons rfl (fun K hK => ?_) ?_
    · go_simp
      refine hK _ _ ?_
      clear hK K
      try simp only [Act.put, List.setIfInBounds_toArray, List.set_cons_zero, List.set_cons_succ]
      refine wpAnyIn_ready (rs := [6]) (by kernel_rfl) (by simp) ?_
      refine AllReadyIn.cons rfl (fun K hK => ?_) AllReadyIn.nil
      go_simp
      refine ⟨trivial, fun h => absurd h (by simp [Fence.wide]), (callsIn_wide.2 (number_any a t ht3 W2.drew)).mono ?_⟩
      rintro e W3 ⟨rfl, hD3⟩
      refine hK _ _ ?_
      clear hK K
      try simp only [Act.put, List.setIfInBounds_toArray, List.set_cons_zero, List.set_cons_succ]
      obtain ⟨cP3, cS3, fn, tmps, assign, body, hy, hR⟩ := HYL.out W3 (Drawn.trans ⟨1, rfl⟩ hD3)
      refine wpAnyIn_ready (rs := [7]) (by kernel_rfl) (by simp) ?_
      refine AllReadyIn.cons rfl (fun K hK => ?_) AllReadyIn.nil
      go_simp
      refine ⟨fun h => absurd h (by simp [Fence.wide]), (hR _).mono ?_⟩
      rintro e W4 ⟨okb, rfl, hk4, hj4⟩
      refine hK _ _ ?_
      clear hK K
      try simp only [Act.put, List.setIfInBounds_toArray, List.set_cons_zero, List.set_cons_succ]
      refine wpAnyIn_ready (rs := [8]) (by kernel_rfl) (by simp) ?_
      refine AllReadyIn.cons rfl (fun K hK => ?_) AllReadyIn.nil
      go_simp
      refine hK _ _ ?_
      clear hK K
      try simp only [Act.put, List.setIfInBounds_toArray, List.set_cons_zero, List.set_cons_succ]
      refine wpAnyIn_done (by kernel_rfl) ?_ _
      have hk5 := hend W3 W4 (Drawn.trans ⟨1, rfl⟩ hD3) hk4
      clear hk4 hy hR hD3
      cases okb with
      | true => have hj := hj4.1 rfl; clear hj4; gi_wp2; exact ⟨hk5.1.mono (fun r hr => by omega), hj, hk5.2⟩
      | false => have hj := hj4.2 rfl; clear hj4; gi_wp2; exact ⟨hk5.1.mono (fun r hr => by omega), rfl, hj⟩
    refine AllReadyIn.cons rfl (fun K hK => ?_) AllReadyIn.nil
    go_simp
    refine ⟨trivial, fun h => absurd h (by simp [Fence.wide]), (callsIn_wide.2 (number_any a t ht3 W2.drew)).mono ?_⟩
    rintro e W3 ⟨rfl, hD3⟩
    refine hK _ _ ?_
    clear hK K
    try simp only [Act.put, List.setIfInBounds_toArray, List.set_cons_zero, List.set_cons_succ]
    obtain ⟨cP3, cS3, fn, tmps, assign, body, hy, hR⟩ := HYL.out W3 (Drawn.trans ⟨1, rfl⟩ hD3)
    refine wpAnyIn_ready (rs := [0]) (by kernel_rfl) (by simp) ?_
    refine AllReadyIn.cons rfl (fun K hK => ?_) AllReadyIn.nil
    go_simp
    refine hK _ _ ?_
    clear hK K
    try simp only [Act.put, List.setIfInBounds_toArray, List.set_cons_zero, List.set_cons_succ]
    refine wpAnyIn_ready (rs := [7]) (by kernel_rfl) (by simp) ?_
    refine AllReadyIn.cons rfl (fun K hK => ?_) AllReadyIn.nil
    go_simp
    refine ⟨fun h => absurd h (by simp [Fence.wide]), (hR _).mono ?_⟩
    rintro e W4 ⟨okb, rfl, hk4, hj4⟩
    refine hK _ _ ?_
    clear hK K
    try simp only [Act.put, List.setIfInBounds_toArray, List.set_cons_zero, List.set_cons_succ]
    refine wpAnyIn_ready (rs := [8]) (by kernel_rfl) (by simp) ?_
    refine AllReadyIn.cons rfl (fun K hK => ?_) AllReadyIn.nil
    go_simp
    refine hK _ _ ?_
    clear hK K
    try simp only [Act.put, List.setIfInBounds_toArray, List.set_cons_zero, List.set_cons_succ]
    refine wpAnyIn_done (by kernel_rfl) ?_ _
    have hk5 := hend W3 W4 (Drawn.trans ⟨1, rfl⟩ hD3) hk4
    clear hk4 hy hR hD3
    cases okb with
    | true => have hj := hj4.1 rfl; clear hj4; gi_wp2; exact ⟨hk5.1.mono (fun r hr => by omega), hj, hk5.2⟩
    | false => have hj := hj4.2 rfl; clear hj4; gi_wp2; exact ⟨hk5.1.mono (fun r hr => by omega), rfl, hj⟩
  case done =>
    rintro W2 ⟨hj, hP, hT, hS⟩ hK
    gi_wp2
    refine ⟨by simp, .inl ⟨_, _, rfl, run_takeDeferred hK, ?_⟩⟩
    exact ⟨_, results_none rfl _ _ _, ⟨_, rfl⟩, .inl (HJ.out.1.put _ hj (by omega) (by omega))⟩
  case stop =>
    rintro c pre W2 hpre ⟨rfl, hjx⟩ hK
    gi_wp2
    refine ⟨by simp, .inl ⟨_, _, rfl, run_takeDeferred hK, ?_⟩⟩
    exact ⟨_, results_none rfl _ _ _, ⟨_, rfl⟩, .inr ⟨pre, hpre, HJ.out.2.put _ hjx (by omega) (by omega)⟩⟩
end Go.Proofs.Ytmamklahnpmgjaa
