/- The document's buffer: Peek, Read, Find and Write walked. -/
import Derived.Test.YtgkinbichiahjaaGen
import Derived.Test.YtgkinbichiahjaaGen3
import Derived.Test.YtgkinbichiahjaaRows
import Derived.Deep.QuietTactic
import Derived.BigQuiet
namespace Go.Proofs.Ytgkinbichiahjaa
open Go.RowKit
theorem S_match (x : List UInt8) : (@Value.cells.match_1 (fun _ => Array Value) (S x) (fun cs => cs) (fun v => #[v])) = #[S x] := rfl
theorem S_store (P : Program) (w : World) (a : Addr) (x : List UInt8) (m : Mode) (hc : (w.cell? a).isSome = true) (hf : w.frozen? a = false) : (store a (S x) m).run P w = .ok () (w.setCell a (S x)) :=
  run_store_ok P w a (S x) m rfl hc hf
attribute [local go_sem] store_one S_match S_store

/-- In block g lies the document's buffer: room for m bytes, x in it. -/
def RefAt (w : World) (g m : Nat) (x : List UInt8) : Prop := Row w g #[.int .i64 (m : Int), S x] 34
section
variable {w : World} {g m : Nat} {x : List UInt8}
theorem RefAt.c0 (h : RefAt w g m x) : w.cell? ⟨g, 0, none⟩ = some (.int .i64 (m : Int)) := cell_of_row w g 0 _ 34 (0, 0) h
theorem RefAt.c1 (h : RefAt w g m x) : w.cell? ⟨g, 1, none⟩ = some (S x) := cell_of_row w g 1 _ 34 (0, 0) h
theorem RefAt.f1 (h : RefAt w g m x) : w.frozen? ⟨g, 1, none⟩ = false := Row.frozen h 1
theorem RefAt.put (h : RefAt w g m x) (y : List UInt8) : RefAt (w.setCell ⟨g, 1, none⟩ (S y)) g m y := Row.set h 1 (S y)
end
/-- The first n of them. -/
def peekF (x : List UInt8) (n : Int) : List UInt8 := if n < 1 then [] else x.take n.toNat

set_option maxRecDepth 100000 in
set_option maxHeartbeats 400000 in
theorem refPeek_any (g m : Nat) (x : List UInt8) (hx : x.length < 2000000000) (n : Int) (w : World) (h : RefAt w g m x) : Calls Try.prog 18 #[.pointer (some ⟨g, 0, none⟩), .int .i64 n] w fun e w' => e = .returned (S (peekF x n)) ∧ w = w' := by
  have hlen := run_len_S (P := Try.prog) Try.underlying9 3 x
  have c1 := h.c1
  have hnil : Value.string ⟨#[]⟩ = S [] := rfl
  by_cases h1 : n < 1
  · have hb : decide (n < 1) = true := decide_eq_true h1
    have HP : Hid (peekF x n = []) := Lib.hid (if_pos h1)
    go_enter Try.func18, Try.ntmps18
    go_wp2
    go_ret
    exact ⟨by rw [HP.out]; rfl, rfl⟩
  · have hb : decide (n < 1) = false := decide_eq_false h1
    obtain ⟨k, rfl⟩ : ∃ k : Nat, n = (k : Int) := ⟨n.toNat, by omega⟩
    have HP : Hid (peekF x (k : Int) = x.take k) := Lib.hid (by rw [peekF, if_neg h1, Int.toNat_natCast])
    by_cases h2 : x.length < k
    · have hb2 : decide ((x.length : Int) < (k : Int)) = true := decide_eq_true (by omega)
      go_enter Try.func18, Try.ntmps18
      go_wp2
      go_ret
      exact ⟨by rw [HP.out, List.take_of_length_le (by omega)]; rfl, rfl⟩
    · have hb2 : decide ((x.length : Int) < (k : Int)) = false := decide_eq_false (by omega)
      have hsl : ∀ w, (Instr.slice 9 (S x) none (some (.int .i64 (k : Int))) none).run Try.prog w = .ok (S (x.take k)) w := fun w => slice_take (P := Try.prog) Try.underlying9 x k (by omega) w
      go_enter Try.func18, Try.ntmps18
      go_wp2
      go_ret
      exact ⟨by rw [HP.out]; rfl, rfl⟩

set_option maxRecDepth 100000 in
set_option maxHeartbeats 400000 in
theorem refRead_any (g m : Nat) (x : List UInt8) (hx : x.length < 2000000000) (n : Int) (w : World) (h : RefAt w g m x) : Calls Try.prog 16 #[.pointer (some ⟨g, 0, none⟩), .int .i64 n] w fun e w' => e = .returned (S (peekF x n)) ∧ RefAt w' g m (x.drop (peekF x n).length) ∧ Keeps g w w' := by
  have hle : (peekF x n).length ≤ x.length := by unfold peekF; split <;> simp [List.length_take]; omega
  have hlen := run_len_S (P := Try.prog) Try.underlying9 3 (peekF x n)
  have hsl : ∀ w, (Instr.slice 9 (S x) (some (.int .i64 ((peekF x n).length : Int))) none none).run Try.prog w = .ok (S (x.drop (peekF x n).length)) w := fun w => slice_drop (P := Try.prog) Try.underlying9 x _ hle w
  have c1 := h.c1
  have f1 := h.f1
  have HH := Lib.hid h
  clear h
  go_enter Try.func16, Try.ntmps16
  go_wp2_with fail
  refine (refPeek_any g m x hx n w HH.out).mono ?_
  rintro e W1 ⟨rfl, rfl⟩
  obtain ⟨y, hy⟩ : ∃ y, y = peekF x n := ⟨_, rfl⟩
  rw [← hy] at hlen hsl ⊢
  have HY := Lib.hid hy
  clear hy hle
  go_wp2
  go_ret
  exact ⟨by rw [← HY.out]; rfl, by rw [← HY.out]; exact HH.out.put _, Keeps.setCell w 1 _⟩

/-- Where s stands first in x, from place i on. -/
def findF (x s : List UInt8) (i : Nat) : Int :=
  if i + s.length ≤ x.length then (if (x.drop i).take s.length = s then (i : Int) else findF x s (i + 1)) else -1
termination_by x.length + 1 - i

set_option maxRecDepth 100000 in
set_option maxHeartbeats 400000 in
theorem refFind_any (g m : Nat) (x s : List UInt8) (hx : x.length < 2000000000) (hs : s.length < 2000000000) (w : World) (h : RefAt w g m x) : Calls Try.prog 19 #[.pointer (some ⟨g, 0, none⟩), S s] w fun e w' => e = .returned (.int .i64 (findF x s 0)) ∧ Drawn w w' := by
  have hlen := run_len_S (P := Try.prog) Try.underlying9 3 x
  have hlenS := run_len_S (P := Try.prog) Try.underlying9 3 s
  have HH := Lib.hid h
  go_enter Try.func19, Try.ntmps19
  go_wp2
  go_loopw [5] (fun iv wr => ∃ i : Nat, i ≤ x.length + 1 ∧ iv = .int .i64 i ∧ findF x s 0 = findF x s i ∧ Drawn w wr) (fun iv _ => x.length + 1 - (intOf iv).toNat)
  case atStart => exact ⟨0, Nat.zero_le _, rfl, rfl, ⟨0, rfl⟩⟩
  case round =>
    obtain ⟨i, hi, rfl, hf, hD⟩ := hrel
    have c1 : wr.cell? ⟨g, 1, none⟩ = some (S x) := by obtain ⟨k, rfl⟩ := hD; exact HH.out.c1
    have HF := Lib.hid (And.intro hf hD)
    clear hf hD
    by_cases hlt : i + s.length ≤ x.length
    · have hb : decide ((i : Int) + (s.length : Int) ≤ (x.length : Int)) = true := decide_eq_true (by omega)
      have hsl : ∀ w, (Instr.slice 9 (S x) (some (.int .i64 (i : Int))) (some (.int .i64 ((i : Int) + (s.length : Int)))) none).run Try.prog w = .ok (S ((x.drop i).take s.length)) w := fun w => by
        have := slice_mid (P := Try.prog) Try.underlying9 x i (i + s.length) (by omega) hlt w
        rw [Nat.add_sub_cancel_left, show ((i + s.length : Nat) : Int) = (i : Int) + (s.length : Int) by omega] at this
        exact this
      have heq := eql_S 9 ((x.drop i).take s.length) s
      have hgd := guard_S 9
      by_cases he : (x.drop i).take s.length = s
      · rw [show ((x.drop i).take s.length == s) = true by rw [beq_iff_eq]; exact he] at heq
        have HR : Hid (findF x s 0 = (i : Int)) := Lib.hid (by rw [HF.out.1, findF, if_pos hlt, if_pos he])
        clear he
        generalize (x.drop i).take s.length = u at *
        go_wp2
        go_ret
        exact ⟨by rw [HR.out]; rfl, HF.out.2⟩
      · rw [show ((x.drop i).take s.length == s) = false by rw [beq_eq_false_iff_ne]; exact he] at heq
        have HR : Hid (findF x s 0 = findF x s (i + 1)) := Lib.hid (by rw [HF.out.1, findF, if_pos hlt, if_neg he])
        clear he
        generalize (x.drop i).take s.length = u at *
        go_wp2
        exact ⟨⟨i + 1, by omega, by go_num, HR.out, HF.out.2⟩, by simp [intOf]; omega⟩
    · have hb : decide ((i : Int) + (s.length : Int) ≤ (x.length : Int)) = false := decide_eq_false (by omega)
      have HR : Hid (findF x s 0 = -1) := Lib.hid (by rw [HF.out.1, findF, if_neg hlt])
      go_wp2
      go_ret
      exact ⟨by rw [HR.out]; rfl, HF.out.2⟩

set_option maxRecDepth 100000 in
set_option maxHeartbeats 1000000 in
theorem refWrite_any (g m : Nat) (x s : List UInt8) (hx : x.length ≤ m) (hm : m < 2000000000) (hs : s.length < 2000000000) (w : World) (h : RefAt w g m x) :
    Calls Try.prog 15 #[.pointer (some ⟨g, 0, none⟩), S s] w fun e w' => e = .returned (.int .i64 (min s.length (m - x.length) : Nat)) ∧ RefAt w' g m (x ++ s.take (m - x.length)) ∧ Keeps g w w' := by
  have hlenS := run_len_S (P := Try.prog) Try.underlying9 3 s
  obtain ⟨k, hk⟩ : ∃ k, k = min s.length (m - x.length) := ⟨_, rfl⟩
  have htk : s.take (m - x.length) = s.take k := by
    rw [hk, Nat.min_def]
    split
    · rw [List.take_of_length_le (by omega), List.take_of_length_le (Nat.le_refl _)]
    · rfl
  rw [htk, ← hk]
  have HK := Lib.hid hk
  have hks : k ≤ s.length := by omega
  clear htk hk
  go_enter Try.func15, Try.ntmps15
  go_wp2
  go_loopw [5] (fun nv wr => ∃ n : Nat, n ≤ k ∧ nv = .int .i64 n ∧ RefAt wr g m (x ++ s.take n) ∧ Keeps g w wr) (fun nv _ => k - (intOf nv).toNat)
  case atStart => exact ⟨0, Nat.zero_le _, rfl, by rw [List.take_zero, List.append_nil]; exact h, Keeps.refl _ _⟩
  case round =>
    obtain ⟨n, hn, rfl, hR, hKp⟩ := hrel
    have hlen : ∀ w, (Builtin.len_ #[9] 3 #[S (x ++ s.take n)]).run Try.prog w = .ok (.int .i64 ((x.length : Int) + (n : Int))) w := fun w => by
      have := run_len_S (P := Try.prog) Try.underlying9 3 (x ++ s.take n) w
      rw [List.length_append, List.length_take, Nat.min_eq_left (by omega), show ((x.length + n : Nat) : Int) = (x.length : Int) + (n : Int) by omega] at this
      exact this
    have c0 := hR.c0
    have c1 := hR.c1
    have HR := Lib.hid (And.intro hR hKp)
    clear hR hKp
    have hkk := HK.out
    by_cases hlt : n < k
    · have hb1 : decide ((n : Int) < (s.length : Int)) = true := decide_eq_true (by omega)
      have hb1' : decide (n < s.length) = true := decide_eq_true (by omega)
      have hb2 : decide ((x.length : Int) + (n : Int) < (m : Int)) = true := decide_eq_true (by omega)
      obtain ⟨c, hc⟩ : ∃ c, s[n]? = some c := ⟨s[n]'(by omega), List.getElem?_eq_getElem (by omega)⟩
      have hsl : ∀ w, (Instr.slice 9 (S s) (some (.int .i64 (n : Int))) (some (.int .i64 ((n : Int) + 1))) none).run Try.prog w = .ok (S [c]) w := fun w => by
        have := slice_mid (P := Try.prog) Try.underlying9 s n (n + 1) (by omega) (by omega) w
        rw [Nat.add_sub_cancel_left, show ((n + 1 : Nat) : Int) = (n : Int) + 1 by omega, List.drop_eq_getElem_cons (by omega), List.take_succ_cons, List.take_zero, (List.getElem?_eq_some_iff.1 hc).2] at this
        exact this
      have hadd : binOp .add 9 (S (x ++ s.take n)) (S [c]) = pure (S (x ++ s.take (n + 1))) := by
        rw [S_add 9 _ _ (by rw [List.length_append, List.length_take, List.length_singleton]; omega), List.append_assoc, List.take_add_one, hc]; rfl
      have hwr : IntKind.i64.wrap ((n : Int) + 1) = (n : Int) + 1 := by rw [IntKind.wrap_i64]; omega
      clear hc
      clear hkk
      go_wp2
      go_quiet (fail)
      go_wp2
      have E3 : (wr.drewN nq).drew.cell? ⟨g, 1, none⟩ = some (S (x ++ s.take n)) := HR.out.1.c1
      have f1 : (wr.drewN nq).drew.frozen? ⟨g, 1, none⟩ = false := HR.out.1.f1
      have E4 : (wr.drewN (nq + 1)).cell? ⟨g, 1, none⟩ = some (S (x ++ s.take n)) := HR.out.1.c1
      have f4 : (wr.drewN (nq + 1)).frozen? ⟨g, 1, none⟩ = false := HR.out.1.f1
      refine wp_region_noPanic ?_
      refine wp_region_held_drew (S := fun _ => True) (by kernel_rfl) trivial (fun _ => ?_)
      refine take_at (i := 0) (d := some 22) (v := .pointer (some ⟨g, 0, none⟩)) rfl (by kernel_rfl) (by kernel_rfl) (by kernel_rfl) (fun _ _ _ h => h) (fun oi ho => ?_) trivial ?_
      · obtain rfl := Option.some.inj ho
        exact Or.inl ⟨by rfl, fun wx hSw => by go_simp⟩
      simp only [Act.put, List.setIfInBounds_toArray, List.set_cons_zero, List.set_cons_succ]
      refine take_at (i := 1) (d := some 23) (v := .pointer (some ⟨g, 0, none⟩)) rfl (by kernel_rfl) (by kernel_rfl) (by kernel_rfl) (fun _ _ _ h => h) (fun oi ho => ?_) trivial ?_
      · obtain rfl := Option.some.inj ho
        exact Or.inl ⟨by rfl, fun wx hSw => by go_simp⟩
      simp only [Act.put, List.setIfInBounds_toArray, List.set_cons_zero, List.set_cons_succ]
      refine take_at (i := 2) (d := some 24) (v := .pointer (some ⟨g, 0, none⟩)) rfl (by kernel_rfl) (by kernel_rfl) (by kernel_rfl) (fun _ _ _ h => h) (fun oi ho => ?_) trivial ?_
      · obtain rfl := Option.some.inj ho
        exact Or.inl ⟨by rfl, fun wx hSw => by go_simp⟩
      simp only [Act.put, List.setIfInBounds_toArray, List.set_cons_zero, List.set_cons_succ]
      refine take_at (i := 3) (d := some 25) (v := .pointer (some ⟨g, 1, none⟩)) rfl (by kernel_rfl) (by kernel_rfl) (by kernel_rfl) (fun _ _ _ h => h) (fun oi ho => ?_) trivial ?_
      · obtain rfl := Option.some.inj ho
        exact Or.inl ⟨by rfl, fun wx hSw => by go_simp⟩
      simp only [Act.put, List.setIfInBounds_toArray, List.set_cons_zero, List.set_cons_succ]
      refine take_at (i := 5) (d := some 27) (v := S s) rfl (by kernel_rfl) (by kernel_rfl) (by kernel_rfl) (fun _ _ _ h => h) (fun oi ho => ?_) trivial ?_
      · obtain rfl := Option.some.inj ho
        exact Or.inl ⟨by rfl, fun wx hSw => by go_simp⟩
      simp only [Act.put, List.setIfInBounds_toArray, List.set_cons_zero, List.set_cons_succ]
      refine take_at (i := 6) (d := some 28) (v := .int .i64 (n : Int)) rfl (by kernel_rfl) (by kernel_rfl) (by kernel_rfl) (fun _ _ _ h => h) (fun oi ho => ?_) trivial ?_
      · obtain rfl := Option.some.inj ho
        exact Or.inl ⟨by rfl, fun wx hSw => by go_simp⟩
      simp only [Act.put, List.setIfInBounds_toArray, List.set_cons_zero, List.set_cons_succ]
      refine take_at (i := 7) (d := some 29) (v := .int .i64 (n : Int)) rfl (by kernel_rfl) (by kernel_rfl) (by kernel_rfl) (fun _ _ _ h => h) (fun oi ho => ?_) trivial ?_
      · obtain rfl := Option.some.inj ho
        exact Or.inl ⟨by rfl, fun wx hSw => by go_simp⟩
      simp only [Act.put, List.setIfInBounds_toArray, List.set_cons_zero, List.set_cons_succ]
      refine take_at (i := 8) (d := some 30) (v := .int .i64 ((n : Int) + 1)) rfl (by kernel_rfl) (by kernel_rfl) (by kernel_rfl) (fun _ _ _ h => h) (fun oi ho => ?_) trivial ?_
      · obtain rfl := Option.some.inj ho
        exact Or.inl ⟨by rfl, fun wx hSw => by go_simp⟩
      simp only [Act.put, List.setIfInBounds_toArray, List.set_cons_zero, List.set_cons_succ]
      refine take_at (i := 9) (d := some 31) (v := S [c]) rfl (by kernel_rfl) (by kernel_rfl) (by kernel_rfl) (fun _ _ _ h => h) (fun oi ho => ?_) trivial ?_
      · obtain rfl := Option.some.inj ho
        exact Or.inl ⟨by rfl, fun wx hSw => by go_simp⟩
      simp only [Act.put, List.setIfInBounds_toArray, List.set_cons_zero, List.set_cons_succ]
      refine ready_value (i := 4) (d := some 26) (v := S (x ++ s.take n)) (w' := (wr.drewN nq).drew) rfl (by kernel_rfl) (fun oi ho => ?_) trivial ?_
      · obtain rfl := Option.some.inj ho
        exact ⟨by rfl, by go_simp⟩
      simp only [Act.put, List.setIfInBounds_toArray, List.set_cons_zero, List.set_cons_succ]
      refine take_at (i := 10) (d := some 32) (v := S (x ++ s.take (n + 1))) rfl (by kernel_rfl) (by kernel_rfl) (by kernel_rfl) (fun _ _ _ h => h) (fun oi ho => ?_) trivial ?_
      · obtain rfl := Option.some.inj ho
        exact Or.inl ⟨by rfl, fun wx hSw => by go_simp⟩
      simp only [Act.put, List.setIfInBounds_toArray, List.set_cons_zero, List.set_cons_succ]
      refine take_at (i := 11) (d := some 33) (v := .pointer (some ⟨g, 0, none⟩)) rfl (by kernel_rfl) (by kernel_rfl) (by kernel_rfl) (fun _ _ _ h => h) (fun oi ho => ?_) trivial ?_
      · obtain rfl := Option.some.inj ho
        exact Or.inl ⟨by rfl, fun wx hSw => by go_simp⟩
      simp only [Act.put, List.setIfInBounds_toArray, List.set_cons_zero, List.set_cons_succ]
      refine take_at (i := 12) (d := some 34) (v := .pointer (some ⟨g, 1, none⟩)) rfl (by kernel_rfl) (by kernel_rfl) (by kernel_rfl) (fun _ _ _ h => h) (fun oi ho => ?_) trivial ?_
      · obtain rfl := Option.some.inj ho
        exact Or.inl ⟨by rfl, fun wx hSw => by go_simp⟩
      simp only [Act.put, List.setIfInBounds_toArray, List.set_cons_zero, List.set_cons_succ]
      refine ready_skip (i := 13) (d := none) (w' := (wr.drewN nq).drew.setCell ⟨g, 1, none⟩ (S (x ++ s.take (n + 1)))) rfl (by kernel_rfl) (fun oi ho => ?_) trivial ?_
      · obtain rfl := Option.some.inj ho
        exact ⟨by rfl, by go_simp⟩
      refine wpAnyH_done (by kernel_rfl) ?_ _
      refine NoPanic.normal ?_
      go_wp2
      have hR' : RefAt ((wr.drewN nq).drew.setCell ⟨g, 1, none⟩ (S (x ++ s.take (n + 1)))) g m (x ++ s.take (n + 1)) := RefAt.put (w := (wr.drewN nq).drew) HR.out.1 _
      have hK' : Keeps g w ((wr.drewN nq).drew.setCell ⟨g, 1, none⟩ (S (x ++ s.take (n + 1)))) := (HR.out.2.trans (Keeps.of_below (below_drewN wr (nq + 1)))).trans (Keeps.setCell _ 1 _)
      exact ⟨⟨n + 1, by omega, by go_num, hR', hK'⟩, by simp [intOf]; omega⟩
    · obtain rfl : n = k := by omega
      by_cases hb : n < s.length
      · have hb1 : decide ((n : Int) < (s.length : Int)) = true := decide_eq_true (by omega)
        have hb2 : decide ((x.length : Int) + (n : Int) < (m : Int)) = false := decide_eq_false (by omega)
        clear hkk hlt
        go_wp2
        go_quiet (fail)
        go_wp2
        go_ret
        exact ⟨rfl, HR.out.1, HR.out.2.trans (Keeps.of_below (below_drewN wr nq))⟩
      · have hb1 : decide ((n : Int) < (s.length : Int)) = false := decide_eq_false (by omega)
        clear hkk hlt
        go_wp2
        go_quiet (fail)
        go_wp2
        go_ret
        exact ⟨rfl, HR.out.1, HR.out.2.trans (Keeps.of_below (below_drewN wr nq))⟩
end Go.Proofs.Ytgkinbichiahjaa
