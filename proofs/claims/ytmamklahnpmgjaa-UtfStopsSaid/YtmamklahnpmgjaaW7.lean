/- The walk of Valid: where the last character ends. -/
import Derived.Test.YtmamklahnpmgjaaW5
namespace Go.Proofs.Ytmamklahnpmgjaa
open Go.RowKit Go.Shelf
attribute [local go_sem] store_one Oper.semAt_some

/-- Where the last one ends; d: there is none. -/
def lastTo (d : Nat) (l : List (Nat × Nat)) : Nat := (l.getLast?.map (·.2)).getD d
theorem lastTo_snoc (d : Nat) (l : List (Nat × Nat)) (x : Nat × Nat) : lastTo d (l ++ [x]) = x.2 := by simp [lastTo]
theorem lastTo_cons (d : Nat) (l : List (Nat × Nat)) (x : Nat × Nat) : lastTo d (x :: l) = lastTo x.2 l := by
  unfold lastTo
  rw [List.getLast?_cons]
  cases l.getLast? <;> rfl
theorem lastTo_whole : ∀ (r : List UInt8) (i f : Nat) (T : List (UInt8 × UInt8)), (T.isEmpty = true → f = i) → (T.isEmpty = false → f < i) →
    (lastTo f (charsF i f T r) = i + r.length ↔ (feed ⟨i, T, false⟩ r).whole = true)
  | [], i, f, T, h1, h2 => by
    show f = i + 0 ↔ (!false && T.isEmpty) = true
    cases hT : T.isEmpty with
    | true => have := h1 hT; simp; omega
    | false => have := h2 hT; simp; omega
  | c :: r, i, f, T, h1, h2 => by
    rw [feed_cons rfl]
    have hle : f ≤ i := by
      cases hT : T.isEmpty with
      | true => exact Nat.le_of_eq (h1 hT)
      | false => exact Nat.le_of_lt (h2 hT)
    cases hn : nextF T c with
    | none =>
      have e : Chk.read ⟨i, T, false⟩ c = ⟨i, T, true⟩ := by simp [Chk.read, hn]
      rw [charsF_bad hn, e, feed_bad rfl]
      show f = i + (r.length + 1) ↔ (!true && T.isEmpty) = true
      simp; omega
    | some T' =>
      have e : Chk.read ⟨i, T, false⟩ c = ⟨i + 1, T', false⟩ := by simp [Chk.read, hn]
      rw [e]
      cases hT : T'.isEmpty with
      | true =>
        obtain rfl : T' = [] := List.isEmpty_iff.1 hT
        rw [charsF_end hn hT, lastTo_cons, List.length_cons, show i + (r.length + 1) = i + 1 + r.length by omega]
        exact lastTo_whole r (i + 1) (i + 1) [] (fun _ => rfl) (fun h => by cases h)
      | false =>
        rw [charsF_more hn hT, List.length_cons, show i + (r.length + 1) = i + 1 + r.length by omega]
        exact lastTo_whole r (i + 1) f T' (fun h => by rw [hT] at h; cases h) (fun _ => by omega)
/-- Is it a text? -/
def textB (s : List UInt8) : Bool := (feed Chk.start s).whole
theorem lastTo_text (s : List UInt8) : lastTo 0 (chars s) = s.length ↔ textB s = true := by
  have := lastTo_whole s 0 0 [] (fun _ => rfl) (fun h => by cases h)
  rw [Nat.zero_add] at this
  exact this
theorem chars_le : ∀ (r : List UInt8) (i f : Nat) (T : List (UInt8 × UInt8)), f ≤ i → ∀ x ∈ charsF i f T r, f ≤ x.1 ∧ x.1 < x.2 ∧ x.2 ≤ i + r.length
  | [], i, f, T, hf, x, hx => by simp [charsF] at hx
  | c :: r, i, f, T, hf, x, hx => by
    rw [List.length_cons]
    cases hn : nextF T c with
    | none => rw [charsF_bad hn] at hx; cases hx
    | some T' =>
      cases hT : T'.isEmpty with
      | true =>
        rw [charsF_end hn hT] at hx
        rcases List.mem_cons.1 hx with rfl | hx
        · exact ⟨Nat.le_refl _, by show f < i + 1; omega, by show i + 1 ≤ _; omega⟩
        · have := chars_le r (i + 1) (i + 1) [] (Nat.le_refl _) x hx; omega
      | false =>
        rw [charsF_more hn hT] at hx
        have := chars_le r (i + 1) f T' (by omega) x hx; omega

theorem characters_any (s : List UInt8) (w : World) : Calls Try.prog 21 #[S s] w fun e w' => e = .returned (.func (.func 27) #[] #[.pointer (some ⟨w.heap.size, 0, none⟩)]) ∧ w' = w.alloc (.cells #[S s] 9) := by
  go_enter Try.func21, Try.ntmps21
  go_wp2
  go_ret
  exact ⟨rfl, rfl⟩

set_option maxRecDepth 100000 in
set_option maxHeartbeats 4000000 in
theorem valid_any (s : List UInt8) (hs : s.length < 1000000000) (w : World) : Calls Try.prog 15 #[S s] w fun e w' => e = .returned (.bool (textB s)) ∧ Below w.heap.size w w' := by
  have hlenS := run_len_S (P := Try.prog) Try.underlying9 3 s
  refine (callsIn_wide (n := 5)).1 (callsIn_of_wp_marks Try.func15 rfl trivial ?_ rfl)
  simp only [Try.ntmps15, List.size_toArray, List.length_cons, List.length_nil, Nat.reduceAdd, Nat.reduceSub, Array.replicate_succ, Array.replicate_zero, List.push_toArray, List.append_toArray, List.nil_append, List.cons_append]
  gi_wp2_with fail
  refine ⟨trivial, (callsIn_wide.2 (characters_any s _)).mono ?_⟩
  rintro e W1 ⟨rfl, rfl⟩
  have hE : Row ((w.alloc (.cells #[.int .i64 0] 3)).alloc (.cells #[S s] 9)) w.heap.size #[.int .i64 0] 3 := (row_new _ _ _).alloc _
  have hT : Row ((w.alloc (.cells #[.int .i64 0] 3)).alloc (.cells #[S s] 9)) (w.heap.size + 1) #[S s] 9 := by
    have := row_new (w.alloc (.cells #[.int .i64 0] 3)) #[S s] 9
    rw [alloc_size] at this; exact this
  have hB : Below w.heap.size w ((w.alloc (.cells #[.int .i64 0] 3)).alloc (.cells #[S s] 9)) := ((Below.refl _ w).alloc (Nat.le_refl _) _).alloc (by simp) _
  have hz : ((w.alloc (.cells #[.int .i64 0] 3)).alloc (.cells #[S s] 9)).heap.size = w.heap.size + 2 := by simp
  rw [alloc_size]
  obtain ⟨W1, hW1⟩ : ∃ W1, W1 = (w.alloc (.cells #[.int .i64 0] 3)).alloc (.cells #[S s] 9) := ⟨_, rfl⟩
  rw [← hW1] at hE hT hB hz ⊢
  clear hW1
  gi_wp2
  refine wpIn_rangeFunc_L (gf := 27) (lb := #[.pointer (some ⟨w.heap.size + 1, 0, none⟩)]) rfl (enters_of Try.func27 (by kernel_rfl) rfl)
    (fun m => chars_seq s hs (w.heap.size + 1) m) (fun r e => by omega) (fun W hb => hT.below hb (by omega)) (fun _ => rfl)
    (fun pre W => Row W w.heap.size #[.int .i64 (lastTo 0 pre)] 3 ∧ Below w.heap.size w W)
    (fun _ _ _ => False)
    ((abidesIn_block (fun pre => _) (.inl (by omega))).and (abidesIn_below (by omega)))
    (fun _ _ _ _ _ hs _ _ => hs)
    ⟨hE, hB⟩
    (fun x => { tmps := #[S s, undef, .bool false, .pointer (some ⟨w.heap.size, 0, none⟩), undef, .int .i64 x.2, S s, .func (.func 27) #[] #[.pointer (some ⟨w.heap.size + 1, 0, none⟩)], .int .i64 x.1, .int .i64 x.2, undef, undef, undef, undef, undef], defers := [] }) ?assign ?body ?done ?stop
  case assign =>
    intro l x W K hK
    unfold encP
    gi_wp2
    exact hK
  case body =>
    rintro l pre x W hpx ⟨hr, hb⟩ hsz
    have hx := hr.cell0
    have hf := hr.frozen 0
    gi_wp2
    refine ⟨⟨by simp [World.setCell], fun r h => ?_⟩, ?_, hb.setCell (p := ⟨w.heap.size, 0, none⟩) (Nat.le_refl _) _⟩
    · exact Below.heap_setCell _ _ _ _ (by show r ≠ w.heap.size; omega)
    · rw [lastTo_snoc]; exact hr.set 0 _
  case done =>
    rintro W ⟨hr, hb⟩ hK
    have hx := hr.cell0
    gi_wp2
    refine ⟨by simp, .inl ⟨_, _, rfl, run_takeDeferred hK, ?_⟩⟩
    refine ⟨_, results_tmp rfl _ _ _, ?_, hb.grown (grownBy_putObj' _ _ _) (by have := hb.size; omega) (fun k e => by cases e; omega)⟩
    have e : ((lastTo 0 (chars s) : Int) == (s.length : Int)) = textB s := by
      rw [Bool.eq_iff_iff, beq_iff_eq, ← lastTo_text]; omega
    rw [← e]; rfl
  case stop =>
    rintro c pre W _ h _
    exact h.elim
end Go.Proofs.Ytmamklahnpmgjaa
