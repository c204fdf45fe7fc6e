/- New, slices.Clone and drop walked. -/
import Derived.Test.YtgkinbichiahjaaK2
namespace Go.Proofs.Ytgkinbichiahjaa
open Go.RowKit
attribute [local go_sem] store_one S_match S_store

section
variable {P : Program} {md : Region.Mode} {ops : Array Oper} {Q : Exit → Act → World → Prop} {S : World → Prop} {fuel : Nat} {listed : Array Bool} {a : Act} {w : World} {i j : Nat} {di dj : Option Tmp} {vi vj : Value}
/-- Two that may come up next hand back their values: whichever comes first. -/
theorem ready_two (hdi : (ops[i]?).map (·.dst) = some di) (hdj : (ops[j]?).map (·.dst) = some dj) (hr : Region.ready md ops listed = [i, j])
    (hri : Region.ready md ops (listed.setIfInBounds i true) = [j]) (hrj : Region.ready md ops (listed.setIfInBounds j true) = [i]) (hij : i ≠ j) (hd : ∀ d, di = some d → dj ≠ some d)
    (hxi : ∀ oi, ops[i]? = some oi → ∀ a', (a' = a ∨ a' = a.put dj vj) → Region.wanted oi (yielded ops a'.tmps) = true ∧ (execOp a'.eval oi).run P w = .ok (.value vi) w)
    (hxj : ∀ oj, ops[j]? = some oj → ∀ a', (a' = a ∨ a' = a.put di vi) → Region.wanted oj (yielded ops a'.tmps) = true ∧ (execOp a'.eval oj).run P w = .ok (.value vj) w) (hS : S w)
    (h : wpAnyH P md ops Q S fuel ((listed.setIfInBounds i true).setIfInBounds j true) ((a.put di vi).put dj vj) w) : wpAnyH P md ops Q S (fuel + 2) listed a w := by
  have h1 : wpAnyH P md ops Q S (fuel + 1) (listed.setIfInBounds i true) (a.put di vi) w :=
    ready_value hdj hri (fun oj hj => hxj oj hj _ (.inr rfl)) hS h
  have h2 : wpAnyH P md ops Q S (fuel + 1) (listed.setIfInBounds j true) (a.put dj vj) w := by
    refine ready_value hdi hrj (fun oi hi => hxi oi hi _ (.inr rfl)) hS ?_
    rw [Array.setIfInBounds_comm _ _ (Ne.symm hij)]
    rw [← Act.put_comm a vi vj hd]
    exact h
  cases hi : ops[i]? with
  | none => simp [hi] at hdi
  | some oi =>
    cases hj : ops[j]? with
    | none => simp [hj] at hdj
    | some oj =>
      have e1 : oi.dst = di := by simpa [hi] using hdi
      have e2 : oj.dst = dj := by simpa [hj] using hdj
      subst e1 e2
      refine wpAnyH_ready hr (by simp) (AllReadyH.cons hi (fun K hK => ?_) (AllReadyH.cons hj (fun K hK => ?_) AllReadyH.nil))
      · obtain ⟨hw, hx⟩ := hxi oi hi a (.inl rfl)
        rw [if_pos hw]
        unfold Oper.wp
        rw [hx]
        exact hK.out _ _ hS (fun _ => h1)
      · obtain ⟨hw, hx⟩ := hxj oj hj a (.inl rfl)
        rw [if_pos hw]
        unfold Oper.wp
        rw [hx]
        exact hK.out _ _ hS (fun _ => h2)
end

/-- A buffer just made. -/
def FreshAt (w : World) (g m : Nat) : Prop := Row w g #[.bool true, .int .i64 (m : Int), .slice none 0 0, .int .i64 0] 40
theorem FreshAt.buf {w : World} {g m : Nat} (h : FreshAt w g m) (A : Nat → Prop) (hA : ∀ k, A k → k < w.heap.size) (hm : m ≤ 1073741824) : BufAt w g A true m [] :=
  ⟨⟨.slice none 0 0, [], ⟨h, World.ownsRow_nil w 0 5 1⟩, fun k hk => (by cases hk), Nat.le_refl _⟩, Nat.zero_le _, hm, hA⟩

set_option maxRecDepth 100000 in
set_option maxHeartbeats 400000 in
theorem new_bad (n : Int) (w : World) (h : n < 0 ∨ 1073741824 < n) :
    Calls Try.prog 8 #[.int .i64 n] w fun e w' => e = .returned (.tuple #[.pointer none, .int .i64 1]) ∧ w' = w := by
  rcases h with h | h
  · have hb : decide (n < 0) = true := decide_eq_true h
    go_enter Try.func8, Try.ntmps8
    go_wp2
    go_ret2
    exact ⟨rfl, rfl⟩
  · have hb : decide (n < 0) = false := decide_eq_false (by omega)
    have hb2 : decide (n > 1073741824) = true := decide_eq_true (by omega)
    have hb3 : decide (1073741824 < n) = true := decide_eq_true (by omega)
    go_enter Try.func8, Try.ntmps8
    go_wp2
    go_ret2
    exact ⟨rfl, rfl⟩

set_option maxRecDepth 100000 in
set_option maxHeartbeats 400000 in
theorem new_good (m : Nat) (w : World) (h : m ≤ 1073741824) :
    Calls Try.prog 8 #[.int .i64 (m : Int)] w fun e w' => e = .returned (.tuple #[.pointer (some ⟨w.heap.size, 0, none⟩), .int .i64 0]) ∧ FreshAt w' w.heap.size m ∧ w'.heap.size = w.heap.size + 1 ∧ Below w.heap.size w w' := by
  have hb : decide ((m : Int) < 0) = false := decide_eq_false (by omega)
  have hb2 : decide ((m : Int) > 1073741824) = false := decide_eq_false (by omega)
  have hb3 : decide ((1073741824 : Int) < (m : Int)) = false := decide_eq_false (by omega)
  go_enter Try.func8, Try.ntmps8
  go_wp2
  go_ret2
  exact ⟨rfl, row_new w _ _, by simp, (Below.refl _ w).alloc (Nat.le_refl _) _⟩

theorem info5 : (Try.prog.info? 5).map (fun i => (i.zero, i.size, i.bytes)) = some (some (Value.int .u8 0), 1, 1) := by kernel_rfl
set_option maxRecDepth 100000 in
set_option maxHeartbeats 1000000 in
theorem clone_any (V : Value) (x : List UInt8) (w : World) (hx : 0 < x.length) (hb : x.length ≤ 1073741824) (h : WaitV w V x) :
    Calls Try.prog 29 #[V] w fun e w' => ∃ v', e = .returned v' ∧ w'.ownsRow w.heap.size 5 1 v' x.length (x.map B) ∧ Below w.heap.size w w' := by
  obtain ⟨a, c, rfl, hc, _, hcell⟩ := h
  obtain ⟨k, o, rfl, _⟩ := hcell 0 hx
  obtain ⟨i0, hi, hz0, hz1, hz2⟩ : ∃ i0, Try.prog.info? 5 = some i0 ∧ i0.zero = some (Value.int .u8 0) ∧ i0.size = 1 ∧ i0.bytes = 1 := by
    have := info5
    cases hi : Try.prog.info? 5 with
    | none => rw [hi] at this; cases this
    | some i =>
      simp only [hi, Option.map_some, Option.some.injEq, Prod.mk.injEq] at this
      exact ⟨i, rfl, this.1, this.2.1, this.2.2⟩
  have q38 : ∀ (w : World) (a : Option Addr) (n c n' c' : Nat), (binOp .eql 38 (.slice a n c) (.slice none n' c')).run Try.prog w = .ok (.bool a.isNone) w := fun w a n c n' c' => Lib.run_eql_slice_nil w _ _ a n c n' c' Try.underlying38
  have A : Hid (∀ j u, (x.map B)[j]? = some u → w.cell? ⟨k, o + j, none⟩ = some u) := Lib.hid fun j u hu => by
    rw [List.getElem?_map] at hu
    cases hj : x[j]? with
    | none => rw [hj] at hu; cases hu
    | some y =>
      rw [hj] at hu
      obtain ⟨hlt, rfl⟩ := List.getElem?_eq_some_iff.1 hj
      obtain ⟨k', o', he, hcl⟩ := hcell j hlt
      cases he
      cases hu
      exact hcl
  clear hcell
  go_enter Try.func29, Try.ntmps29
  go_wp2_with (at_builtin; refine wpList_append_own _ rfl _ _ 38 rfl w.heap.size 5 i0 (.int .u8 0) 1 1 Try.underlying38 hi hz0 hz1 hz2 rfl (by omega) _ _ _ rfl (World.ownsRow_made w #[] 0 (Nat.le_refl _) (Nat.zero_le _) (by simp)) ⟨k, o, none⟩ x.length c (x.map B) rfl ?qc1 ?qc2 ?qc3 ?qc4 ?qc5 ?qc6 ?_)
  case qc1 => simp
  case qc2 =>
    intro j u hj
    rw [Addr.add_lit]
    exact Lib.cell?_alloc_some _ (A.out j u hj)
  case qc3 =>
    intro u hu
    obtain ⟨y, _, rfl⟩ := List.mem_map.1 hu
    rfl
  case qc4 => simp only [maxLen]; omega
  case qc5 => omega
  case qc6 => simp
  intro v' w1 hown hgrow hnil
  go_wp2
  go_ret
  exact ⟨v', rfl, by simpa using hown, ((Below.refl _ w).alloc (Nat.le_refl _) _).grown hgrow (by simp) (by intro k hk; simp [Value.ownBlock] at hk; omega)⟩
end Go.Proofs.Ytgkinbichiahjaa
