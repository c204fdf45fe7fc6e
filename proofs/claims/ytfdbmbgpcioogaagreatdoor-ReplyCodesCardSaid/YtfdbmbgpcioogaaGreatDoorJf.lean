/- Texts of this proof that several statements share, one behind the other. -/
import Derived.Test.YtfdbmbgpcioogaaGreatDoorJe
import Derived.Test.YtfdbmbgpcioogaaGreatDoorJc
import Derived.Test.YtfdbmbgpcioogaaGreatDoorJd
import Derived.SizedLaws
import Derived.ChangeSame
import Derived.Test.YtfdbmbgpcioogaaGreatDoorJb
import Derived.Lib.SplitLaws
import Derived.Lib.SlTrimSet
import Derived.Lib.IndexMore
import Derived.Lib.Atoi
import Derived.Test.YtfdbmbgpcioogaaGreatDoorProg
import Derived.Lib.LaidU8
import Derived.Lib.AppendIntMem
import Derived.Shelf.Strconv.Itoa3
import Derived.Shelf.Strings.Cut
import Derived.Shelf.Strings.Builder1
import Derived.Shelf.Strconv.Atoi
import Derived.Lib.AtoiErrMem
/- The law's Great, ReplyWrites, ReplyReads (stage 10) walked. (mkpi.py writes it.) -/
namespace Go.Proofs.YtfdbmbgpcioogaaGreatDoor
open Go.RowKit
attribute [local go_sem] store_one S_match S_store eguard_BN nguard_BN

def grN (fs : List Fld) : Nat := (fs.map fun f => min f.1.length 70001 + min f.2.length 70001).sum
theorem grN_next {fs : List Fld} {i : Nat} {f : Fld} (h : fs[i]? = some f) : grN (fs.take (i + 1)) = grN (fs.take i) + min f.1.length 70001 + min f.2.length 70001 := by
  unfold grN
  rw [List.take_add_one, h]
  simp; omega
theorem grN_small : ∀ fs : List Fld, grN fs ≤ 70000 → fsLen fs = grN fs + 4 * fs.length
  | [], _ => rfl
  | f :: fs, h => by
    have e : grN (f :: fs) = min f.1.length 70001 + min f.2.length 70001 + grN fs := rfl
    have e2 : fsLen (f :: fs) = f.1.length + f.2.length + 4 + fsLen fs := rfl
    rw [e] at h
    rw [e2, grN_small fs (by omega), e, List.length_cons]; omega
theorem grN_le : ∀ fs : List Fld, grN fs ≤ 140002 * fs.length
  | [] => by simp [grN]
  | f :: fs => by
    have e : grN (f :: fs) = min f.1.length 70001 + min f.2.length 70001 + grN fs := rfl
    have := grN_le fs
    rw [e, List.length_cons]; omega
/-- What Great tells. -/
def GreatP (fs : List Fld) (body : List UInt8) (w : World) (e : Ending) (w' : World) : Prop := ∃ z, e = .returned (.bool z) ∧ (z = false → rpLen fs body ≤ 70500) ∧ Below w.heap.size w w'
set_option maxRecDepth 100000 in
set_option maxHeartbeats 2000000 in
theorem great_any (c : Int) (fs : List Fld) (body : List UInt8) (V : Value) (b o : Nat) (w : World) (hA : FA w V fs b o) (hb : body.length ≤ 281474976710656) :
    Calls Tryz.prog 6 #[.agg (rpC c V body)] w (GreatP fs body w) := by
  unfold rpC
  obtain ⟨b1, hb1⟩ : ∃ b, b = w.heap.size := ⟨_, rfl⟩
  obtain ⟨W1, hW1⟩ : ∃ W, W = w.alloc (.cells #[.int .i64 c, V, S body] 24) := ⟨_, rfl⟩
  have hB1 : Below w.heap.size w W1 := by rw [hW1]; exact (Below.refl _ w).alloc (Nat.le_refl _) _
  have hM1 : RtAt w b1 c V body fs b o W1 := ⟨by rw [hW1, hb1]; exact row_new _ _ _, hA.below hB1, hB1⟩
  have HM := Lib.hid hM1
  have c2 : W1.cell? ⟨b1, 2, none⟩ = some (S body) := cell_of_row W1 _ 2 _ _ (0, 0) hM1.row
  have hlB := run_len_S (P := Tryz.prog) Tryz.underlying9 3 body
  have hlV := hA.len 3
  obtain ⟨K, hK⟩ : ∃ K, K = body.length := ⟨_, rfl⟩
  obtain ⟨N, hN⟩ : ∃ N, N = fs.length := ⟨_, rfl⟩
  rw [← hK] at hlB hb
  rw [← hN] at hlV
  have HN := Lib.hid (And.intro hN hK)
  clear hM1 hB1 hA hK hN
  go_enter Tryz.func6, Tryz.ntmps6
  go_wp2_with fail
  all_goals try rw [← hW1, ← hb1]
  clear hW1 hb1 c2
  go_loopw [3, 4] (fun nv iv wr => ∃ (i n : Nat), i ≤ N ∧ i ≤ 101 ∧ nv = .int .i64 (n : Int) ∧ iv = .int .i64 (i : Int) ∧ Hid (Below W1.heap.size W1 wr ∧ n = K + grN (fs.take i))) (fun _ iv _ => N - (intOf iv).toNat)
  case atStart => exact ⟨0, K, Nat.zero_le _, Nat.zero_le _, rfl, rfl, Lib.hid ⟨Below.refl _ _, by simp [grN]⟩⟩
  case round =>
    obtain ⟨i, n, hi, hi1, rfl, rfl, HI⟩ := hrel
    have HR := Lib.hid (HM.out.below HI.out.1)
    have d1 : wr.cell? ⟨b1, 1, none⟩ = some V := cell_of_row wr _ 1 _ _ (0, 0) HR.out.row
    have hgl : grN (fs.take i) ≤ 140002 * 101 := by
      have h1 := grN_le (fs.take i)
      rw [List.length_take] at h1; omega
    have hn : n ≤ 281474976710656 + 140002 * 101 := by have := HI.out.2; omega
    clear hgl
    by_cases hlt : i < N
    case neg =>
      obtain rfl : i = N := by omega
      have g3 : decide ((i : Int) < (i : Int)) = false := decide_eq_false (by omega)
      by_cases h1 : 100 < i
      · have g4 : decide ((100 : Int) < (i : Int)) = true := decide_eq_true (by omega)
        go_wp2
        go_ret
        exact ⟨true, rfl, fun h => (by cases h), HR.out.bel⟩
      · have g4 : decide ((100 : Int) < (i : Int)) = false := decide_eq_false (by omega)
        have HS : Hid (¬ 70000 < n → rpLen fs body ≤ 70500) := Lib.hid fun h => by
          have h2 := HI.out.2
          rw [HN.out.1, List.take_length] at h2
          have h3 := grN_small fs (by omega)
          have h4 := HN.out.1
          have h5 := HN.out.2
          unfold rpLen; omega
        by_cases h2 : 70000 < n
        · have g5 : decide ((70000 : Int) < (n : Int)) = true := decide_eq_true (by omega)
          go_wp2
          go_ret
          exact ⟨true, rfl, fun h => (by cases h), HR.out.bel⟩
        · have g5 : decide ((70000 : Int) < (n : Int)) = false := decide_eq_false (by omega)
          have HT := Lib.hid (HS.out h2)
          go_wp2
          go_ret
          exact ⟨false, rfl, fun _ => HT.out, HR.out.bel⟩
    have g3 : decide ((i : Int) < (N : Int)) = true := decide_eq_true (by omega)
    by_cases h100 : i ≤ 100
    case neg =>
      have g4 : decide ((i : Int) ≤ 100) = false := decide_eq_false (by omega)
      have g5 : decide ((100 : Int) < (N : Int)) = true := decide_eq_true (by omega)
      have hN100 : 100 < N := by omega
      go_wp2
      go_ret
      exact ⟨true, rfl, fun h => (by cases h), HR.out.bel⟩
    have g4 : decide ((i : Int) ≤ 100) = true := decide_eq_true (by omega)
    obtain ⟨⟨p, t⟩, hf⟩ : ∃ f, fs[i]? = some f := ⟨fs[i]'(by have := HN.out.1; omega), List.getElem?_eq_getElem _⟩
    have hix := HR.out.fa.index i (by have := HN.out.1; omega)
    have hcl := HR.out.fa.cell i _ hf
    have hwi : IntKind.i64.wrap ((i : Int) + 1) = (i : Int) + 1 := by rw [IntKind.wrap_i64]; omega
    obtain ⟨kk, hkk⟩ : ∃ kk, kk = o + i * 2 := ⟨_, rfl⟩
    rw [← hkk] at hix hcl
    have hl1 := run_len_S (P := Tryz.prog) Tryz.underlying9 3 p
    have hl2 := run_len_S (P := Tryz.prog) Tryz.underlying9 3 t
    obtain ⟨lp, hlp⟩ : ∃ lp, lp = p.length := ⟨_, rfl⟩
    obtain ⟨lt, hlt'⟩ : ∃ lt, lt = t.length := ⟨_, rfl⟩
    rw [← hlp] at hl1
    rw [← hlt'] at hl2
    obtain ⟨m1, hm1⟩ : ∃ m, m = min lp 70001 := ⟨_, rfl⟩
    obtain ⟨m2, hm2⟩ : ∃ m, m = min lt 70001 := ⟨_, rfl⟩
    have e1 : min (lp : Int) 70001 = (m1 : Int) := by omega
    have e2 : min (lt : Int) 70001 = (m2 : Int) := by omega
    have HX : Hid (n + m1 + m2 = K + grN (fs.take (i + 1))) := Lib.hid (by rw [grN_next hf, hm1, hm2, hlp, hlt', HI.out.2]; dsimp only; omega)
    have w1 : IntKind.i64.wrap ((n : Int) + (m1 : Int)) = (n : Int) + (m1 : Int) := by rw [IntKind.wrap_i64]; omega
    have w2 : IntKind.i64.wrap ((n : Int) + (m1 : Int) + (m2 : Int)) = (n : Int) + (m1 : Int) + (m2 : Int) := by rw [IntKind.wrap_i64]; omega
    have HIN := Lib.hid (And.intro hlt h100)
    obtain ⟨Wq, hWq⟩ : ∃ Wq, Wq = wr.drew := ⟨_, rfl⟩
    have HB : Hid (Below W1.heap.size W1 Wq) := Lib.hid (HI.out.1.trans (by rw [hWq]; exact ⟨rfl, rfl, rfl, Nat.le_refl _, fun _ _ => rfl⟩))
    have hSQ : Wq.cell? ⟨b1, 1, none⟩ = some V ∧ Wq.cell? ⟨b, kk, none⟩ = some (S p) ∧ Wq.cell? ⟨b, kk + 1, none⟩ = some (S t) := by rw [hWq]; exact ⟨d1, hcl.1, hcl.2⟩
    clear hcl hf hkk hlp hlt' hm1 hm2
    go_wp2
    clear d1 h100 hlt
    refine wp_region_noPanic ?_
    refine wp_region_held_drew (S := fun W => W.cell? ⟨b1, 1, none⟩ = some V ∧ W.cell? ⟨b, kk, none⟩ = some (S p) ∧ W.cell? ⟨b, kk + 1, none⟩ = some (S t)) (by kernel_rfl) (by rw [← hWq]; exact hSQ) (fun _ => ?_)
    rw [← hWq]
    clear hWq
    refine take_at (i := 0) (d := some 19) (v := .int .i64 (n : Int)) rfl (by kernel_rfl) (by kernel_rfl) (by kernel_rfl) (fun _ _ _ h => h) (fun oi ho => ?_) hSQ ?_
    · obtain rfl := Option.some.inj ho
      exact Or.inl ⟨by rfl, fun wx hSw => by go_simp⟩
    simp only [Act.put, List.setIfInBounds_toArray, List.set_cons_zero, List.set_cons_succ]
    refine take_at (i := 1) (d := some 20) (v := .pointer (some ⟨b1, 1, none⟩)) rfl (by kernel_rfl) (by kernel_rfl) (by kernel_rfl) (fun _ _ _ h => h) (fun oi ho => ?_) hSQ ?_
    · obtain rfl := Option.some.inj ho
      exact Or.inl ⟨by rfl, fun wx hSw => by go_simp⟩
    simp only [Act.put, List.setIfInBounds_toArray, List.set_cons_zero, List.set_cons_succ]
    refine take_at (i := 2) (d := some 21) (v := V) rfl (by kernel_rfl) (by kernel_rfl) (by kernel_rfl) (fun _ _ _ h => h) (fun oi ho => ?_) hSQ ?_
    · obtain rfl := Option.some.inj ho
      exact Or.inl ⟨by rfl, fun wx hSw => by obtain ⟨x0, x1, x2⟩ := hSw; go_simp⟩
    simp only [Act.put, List.setIfInBounds_toArray, List.set_cons_zero, List.set_cons_succ]
    refine take_at (i := 3) (d := some 22) (v := .int .i64 (i : Int)) rfl (by kernel_rfl) (by kernel_rfl) (by kernel_rfl) (fun _ _ _ h => h) (fun oi ho => ?_) hSQ ?_
    · obtain rfl := Option.some.inj ho
      exact Or.inl ⟨by rfl, fun wx hSw => by go_simp⟩
    simp only [Act.put, List.setIfInBounds_toArray, List.set_cons_zero, List.set_cons_succ]
    refine take_at (i := 4) (d := some 23) (v := .pointer (some ⟨b, kk, none⟩)) rfl (by kernel_rfl) (by kernel_rfl) (by kernel_rfl) (fun _ _ _ h => h) (fun oi ho => ?_) hSQ ?_
    · obtain rfl := Option.some.inj ho
      exact Or.inl ⟨by rfl, fun wx hSw => by go_simp⟩
    simp only [Act.put, List.setIfInBounds_toArray, List.set_cons_zero, List.set_cons_succ]
    refine take_at (i := 5) (d := some 24) (v := .pointer (some ⟨b, kk, none⟩)) rfl (by kernel_rfl) (by kernel_rfl) (by kernel_rfl) (fun _ _ _ h => h) (fun oi ho => ?_) hSQ ?_
    · obtain rfl := Option.some.inj ho
      exact Or.inl ⟨by rfl, fun wx hSw => by go_simp⟩
    simp only [Act.put, List.setIfInBounds_toArray, List.set_cons_zero, List.set_cons_succ]
    refine take_at (i := 6) (d := some 25) (v := S p) rfl (by kernel_rfl) (by kernel_rfl) (by kernel_rfl) (fun _ _ _ h => h) (fun oi ho => ?_) hSQ ?_
    · obtain rfl := Option.some.inj ho
      exact Or.inl ⟨by rfl, fun wx hSw => by obtain ⟨x0, x1, x2⟩ := hSw; go_simp⟩
    simp only [Act.put, List.setIfInBounds_toArray, List.set_cons_zero, List.set_cons_succ]
    refine take_at (i := 7) (d := some 26) (v := .int .i64 (lp : Int)) rfl (by kernel_rfl) (by kernel_rfl) (by kernel_rfl) (fun _ _ _ h => h) (fun oi ho => ?_) hSQ ?_
    · obtain rfl := Option.some.inj ho
      exact Or.inl ⟨by rfl, fun wx hSw => by go_simp⟩
    simp only [Act.put, List.setIfInBounds_toArray, List.set_cons_zero, List.set_cons_succ]
    refine take_at (i := 8) (d := some 27) (v := .int .i64 (m1 : Int)) rfl (by kernel_rfl) (by kernel_rfl) (by kernel_rfl) (fun _ _ _ h => h) (fun oi ho => ?_) hSQ ?_
    · obtain rfl := Option.some.inj ho
      exact Or.inl ⟨by rfl, fun wx hSw => by go_simp⟩
    simp only [Act.put, List.setIfInBounds_toArray, List.set_cons_zero, List.set_cons_succ]
    refine take_at (i := 9) (d := some 28) (v := .int .i64 ((n : Int) + (m1 : Int))) rfl (by kernel_rfl) (by kernel_rfl) (by kernel_rfl) (fun _ _ _ h => h) (fun oi ho => ?_) hSQ ?_
    · obtain rfl := Option.some.inj ho
      exact Or.inl ⟨by rfl, fun wx hSw => by go_simp⟩
    simp only [Act.put, List.setIfInBounds_toArray, List.set_cons_zero, List.set_cons_succ]
    refine take_at (i := 10) (d := some 29) (v := .pointer (some ⟨b1, 1, none⟩)) rfl (by kernel_rfl) (by kernel_rfl) (by kernel_rfl) (fun _ _ _ h => h) (fun oi ho => ?_) hSQ ?_
    · obtain rfl := Option.some.inj ho
      exact Or.inl ⟨by rfl, fun wx hSw => by go_simp⟩
    simp only [Act.put, List.setIfInBounds_toArray, List.set_cons_zero, List.set_cons_succ]
    refine take_at (i := 11) (d := some 30) (v := V) rfl (by kernel_rfl) (by kernel_rfl) (by kernel_rfl) (fun _ _ _ h => h) (fun oi ho => ?_) hSQ ?_
    · obtain rfl := Option.some.inj ho
      exact Or.inl ⟨by rfl, fun wx hSw => by obtain ⟨x0, x1, x2⟩ := hSw; go_simp⟩
    simp only [Act.put, List.setIfInBounds_toArray, List.set_cons_zero, List.set_cons_succ]
    refine take_at (i := 12) (d := some 31) (v := .int .i64 (i : Int)) rfl (by kernel_rfl) (by kernel_rfl) (by kernel_rfl) (fun _ _ _ h => h) (fun oi ho => ?_) hSQ ?_
    · obtain rfl := Option.some.inj ho
      exact Or.inl ⟨by rfl, fun wx hSw => by go_simp⟩
    simp only [Act.put, List.setIfInBounds_toArray, List.set_cons_zero, List.set_cons_succ]
    refine take_at (i := 13) (d := some 32) (v := .pointer (some ⟨b, kk, none⟩)) rfl (by kernel_rfl) (by kernel_rfl) (by kernel_rfl) (fun _ _ _ h => h) (fun oi ho => ?_) hSQ ?_
    · obtain rfl := Option.some.inj ho
      exact Or.inl ⟨by rfl, fun wx hSw => by go_simp⟩
    simp only [Act.put, List.setIfInBounds_toArray, List.set_cons_zero, List.set_cons_succ]
    refine take_at (i := 14) (d := some 33) (v := .pointer (some ⟨b, kk + 1, none⟩)) rfl (by kernel_rfl) (by kernel_rfl) (by kernel_rfl) (fun _ _ _ h => h) (fun oi ho => ?_) hSQ ?_
    · obtain rfl := Option.some.inj ho
      exact Or.inl ⟨by rfl, fun wx hSw => by go_simp⟩
    simp only [Act.put, List.setIfInBounds_toArray, List.set_cons_zero, List.set_cons_succ]
    refine take_at (i := 15) (d := some 34) (v := S t) rfl (by kernel_rfl) (by kernel_rfl) (by kernel_rfl) (fun _ _ _ h => h) (fun oi ho => ?_) hSQ ?_
    · obtain rfl := Option.some.inj ho
      exact Or.inl ⟨by rfl, fun wx hSw => by obtain ⟨x0, x1, x2⟩ := hSw; go_simp⟩
    simp only [Act.put, List.setIfInBounds_toArray, List.set_cons_zero, List.set_cons_succ]
    refine take_at (i := 16) (d := some 35) (v := .int .i64 (lt : Int)) rfl (by kernel_rfl) (by kernel_rfl) (by kernel_rfl) (fun _ _ _ h => h) (fun oi ho => ?_) hSQ ?_
    · obtain rfl := Option.some.inj ho
      exact Or.inl ⟨by rfl, fun wx hSw => by go_simp⟩
    simp only [Act.put, List.setIfInBounds_toArray, List.set_cons_zero, List.set_cons_succ]
    refine take_at (i := 17) (d := some 36) (v := .int .i64 (m2 : Int)) rfl (by kernel_rfl) (by kernel_rfl) (by kernel_rfl) (fun _ _ _ h => h) (fun oi ho => ?_) hSQ ?_
    · obtain rfl := Option.some.inj ho
      exact Or.inl ⟨by rfl, fun wx hSw => by go_simp⟩
    simp only [Act.put, List.setIfInBounds_toArray, List.set_cons_zero, List.set_cons_succ]
    refine take_at (i := 18) (d := some 37) (v := .int .i64 ((n : Int) + (m1 : Int) + (m2 : Int))) rfl (by kernel_rfl) (by kernel_rfl) (by kernel_rfl) (fun _ _ _ h => h) (fun oi ho => ?_) hSQ ?_
    · obtain rfl := Option.some.inj ho
      exact Or.inl ⟨by rfl, fun wx hSw => by go_simp⟩
    simp only [Act.put, List.setIfInBounds_toArray, List.set_cons_zero, List.set_cons_succ]
    refine take_at (i := 19) (d := some 3) (v := .int .i64 ((n : Int) + (m1 : Int) + (m2 : Int))) rfl (by kernel_rfl) (by kernel_rfl) (by kernel_rfl) (fun _ _ _ h => h) (fun oi ho => ?_) hSQ ?_
    · obtain rfl := Option.some.inj ho
      exact Or.inl ⟨by rfl, fun wx hSw => by go_simp⟩
    simp only [Act.put, List.setIfInBounds_toArray, List.set_cons_zero, List.set_cons_succ]
    refine wpAnyH_done (by kernel_rfl) ?_ _
    refine NoPanic.normal ?_
    clear hSQ e1 e2 hix w1 w2
    go_wp2
    have h9 := HIN.out
    exact ⟨⟨i + 1, n + m1 + m2, by omega, by omega, by go_num, by go_num, Lib.hid ⟨HB.out, HX.out⟩⟩, by simp [intOf]; omega⟩
set_option maxRecDepth 100000 in
set_option maxHeartbeats 2000000 in
theorem writes_any {w : World} (C : ReplyI w) (c : Int) (fs : List Fld) (body : List UInt8) (head close : Bool) (V : Value) (b o : Nat) (hA : FA w V fs b o) (hb : body.length ≤ 281474976710656) :
    Calls Tryz.prog 3 #[.agg (rpC c V body), .bool head, .bool close] w fun e w' => e = .returned (.bool true) ∧ Below w.heap.size w w' := by
  have HC := Lib.hid C
  obtain ⟨fa, fc, rfl⟩ := hA.form
  obtain ⟨b1, hb1⟩ : ∃ b, b = w.heap.size := ⟨_, rfl⟩
  obtain ⟨W1, hW1⟩ : ∃ W, W = w.alloc (.cells (rpC c (.slice fa fs.length fc) body) 24) := ⟨_, rfl⟩
  have hB1 : Below w.heap.size w W1 := by rw [hW1]; exact (Below.refl _ w).alloc (Nat.le_refl _) _
  have hM1 : RtAt w b1 c (.slice fa fs.length fc) body fs b o W1 := ⟨by rw [hW1, hb1]; exact row_new _ _ _, hA.below hB1, hB1⟩
  have HM := Lib.hid hM1
  have HAW := Lib.hid (awake10_any (C.up hB1))
  have HBD := Lib.hid hb
  clear C hA hB1 hM1 hb
  unfold rpC
  rw [show rpC c (.slice fa fs.length fc) body = #[.int .i64 c, .slice fa fs.length fc, S body] from rfl] at hW1
  go_enter Tryz.func3, Tryz.ntmps3
  go_wp2_with fail
  all_goals try rw [← hW1, ← hb1]
  clear hW1 hb1
  refine HAW.out.mono ?_
  rintro e W2 ⟨rfl, hB⟩
  have H2 := Lib.hid (HM.out.below hB)
  have c0 : W2.cell? ⟨b1, 0, none⟩ = some (.int .i64 c) := cell_of_row W2 _ 0 _ _ (0, 0) H2.out.row
  have c1 : W2.cell? ⟨b1, 1, none⟩ = some (.slice fa fs.length fc) := cell_of_row W2 _ 1 _ _ (0, 0) H2.out.row
  have c2 : W2.cell? ⟨b1, 2, none⟩ = some (S body) := cell_of_row W2 _ 2 _ _ (0, 0) H2.out.row
  clear hB HAW
  go_wp2_with fail
  clear c0 c1 c2
  refine (great_any c fs body _ b o W2 H2.out.fa HBD.out).mono ?_
  rintro e W3 ⟨z, rfl, hz, hB⟩
  have H3 := Lib.hid (H2.out.below hB)
  have HZ := Lib.hid hz
  clear hB hz H2
  cases z with
  | true =>
    go_wp2
    go_ret
    exact ⟨rfl, H3.out.bel⟩
  | false =>
  have HL : Hid (rpLen fs body ≤ 80000) := Lib.hid (by have := HZ.out rfl; omega)
  have c0 : W3.cell? ⟨b1, 0, none⟩ = some (.int .i64 c) := cell_of_row W3 _ 0 _ _ (0, 0) H3.out.row
  have c1 : W3.cell? ⟨b1, 1, none⟩ = some (.slice fa fs.length fc) := cell_of_row W3 _ 1 _ _ (0, 0) H3.out.row
  have c2 : W3.cell? ⟨b1, 2, none⟩ = some (S body) := cell_of_row W3 _ 2 _ _ (0, 0) H3.out.row
  go_wp2_with fail
  clear c0 c1 c2
  refine (HC.out.bytes c fs body head close _ b o W3 H3.out.bel H3.out.fa HL.out).mono ?_
  rintro e W4 ⟨rfl, hB⟩
  have H4 := Lib.hid (H3.out.below hB)
  clear hB H3
  obtain ⟨⟨T, k, hbv⟩⟩ : Nonempty (∃ (T : List UInt8) (k : Int), bytesV (bytesO c fs body head close) = .tuple #[S T, .int .i64 k]) := ⟨by
    cases bytesO c fs body head close with
    | none => exact ⟨[], 1, rfl⟩
    | some s => exact ⟨s, 0, rfl⟩⟩
  have HBV := Lib.hid hbv
  rw [hbv]
  clear hbv
  have c0 : W4.cell? ⟨b1, 0, none⟩ = some (.int .i64 c) := cell_of_row W4 _ 0 _ _ (0, 0) H4.out.row
  have c1 : W4.cell? ⟨b1, 1, none⟩ = some (.slice fa fs.length fc) := cell_of_row W4 _ 1 _ _ (0, 0) H4.out.row
  have c2 : W4.cell? ⟨b1, 2, none⟩ = some (S body) := cell_of_row W4 _ 2 _ _ (0, 0) H4.out.row
  go_wp2_with fail
  clear c0 c1 c2
  refine (dbytes_any c fs body head close _ b o W4 H4.out.fa HL.out).mono ?_
  rintro e W5 ⟨rfl, hB⟩
  have H5 := Lib.hid (H4.out.below hB)
  clear hB H4
  rw [HBV.out]
  have e0 : binOp .eql 9 (S T) (S T) = pure (.bool true) := by rw [eql_S]; simp
  have g0 : ∀ x y, eqGuard .eql 9 x y (S T) (S T) = pure () := fun x y => guard_S 9 x y T T
  have k0 : (k == k) = true := by simp
  clear HBV
  go_wp2
  obtain ⟨rb, hrb⟩ : ∃ rb, rb = rightB c fs body := ⟨_, rfl⟩
  have HRB := Lib.hid hrb
  clear hrb
  have b0 : ∀ w, (binOp .eql 4 (.bool rb) (.bool rb)).run Tryz.prog w = .ok (.bool true) w := fun w => by cases rb <;> rfl
  have e1 : binOp .eql 9 (S (rsnF c)) (S (rsnF c)) = pure (.bool true) := by rw [eql_S]; simp
  have g1 : ∀ x y, eqGuard .eql 9 x y (S (rsnF c)) (S (rsnF c)) = pure () := fun x y => guard_S 9 x y _ _
  obtain ⟨Wq, hWq⟩ : ∃ Wq, Wq = W5.drew := ⟨_, rfl⟩
  have HQ : Hid (RtAt w b1 c (.slice fa fs.length fc) body fs b o Wq) := Lib.hid (H5.out.below (by rw [hWq]; exact ⟨rfl, rfl, rfl, Nat.le_refl _, fun _ _ => rfl⟩))
  have hSr : Hid (∀ W, RtAt w b1 c (.slice fa fs.length fc) body fs b o W → W.cell? ⟨b1, 0, none⟩ = some (.int .i64 c) ∧ W.cell? ⟨b1, 1, none⟩ = some (.slice fa fs.length fc) ∧ W.cell? ⟨b1, 2, none⟩ = some (S body)) := Lib.hid fun W hW =>
    ⟨cell_of_row W _ 0 _ _ (0, 0) hW.row, cell_of_row W _ 1 _ _ (0, 0) hW.row, cell_of_row W _ 2 _ _ (0, 0) hW.row⟩
  have hSQ := hSr.out Wq HQ.out
  refine wp_region_noPanic ?_
  refine wp_region_held_drew (S := fun W => W.cell? ⟨b1, 0, none⟩ = some (.int .i64 c) ∧ W.cell? ⟨b1, 1, none⟩ = some (.slice fa fs.length fc) ∧ W.cell? ⟨b1, 2, none⟩ = some (S body)) (by kernel_rfl) (by rw [← hWq]; exact hSQ) (fun _ => ?_)
  rw [← hWq]
  clear hWq H5
  refine take_at (i := 0) (d := some 29) (v := S T) rfl (by kernel_rfl) (by kernel_rfl) (by kernel_rfl) (fun _ _ _ h => h) (fun oi ho => ?_) hSQ ?_
  · obtain rfl := Option.some.inj ho
    exact Or.inl ⟨by rfl, fun wx hSw => by go_simp⟩
  simp only [Act.put, List.setIfInBounds_toArray, List.set_cons_zero, List.set_cons_succ]
  refine take_at (i := 1) (d := some 30) (v := S T) rfl (by kernel_rfl) (by kernel_rfl) (by kernel_rfl) (fun _ _ _ h => h) (fun oi ho => ?_) hSQ ?_
  · obtain rfl := Option.some.inj ho
    exact Or.inl ⟨by rfl, fun wx hSw => by go_simp⟩
  simp only [Act.put, List.setIfInBounds_toArray, List.set_cons_zero, List.set_cons_succ]
  refine take_at (i := 2) (d := some 31) (v := .bool true) rfl (by kernel_rfl) (by kernel_rfl) (by kernel_rfl) (fun _ _ _ h => h) (fun oi ho => ?_) hSQ ?_
  · obtain rfl := Option.some.inj ho
    exact Or.inl ⟨by rfl, fun wx hSw => by go_simp⟩
  simp only [Act.put, List.setIfInBounds_toArray, List.set_cons_zero, List.set_cons_succ]
  refine take_at (i := 3) (d := some 32) (v := .bool true) rfl (by kernel_rfl) (by kernel_rfl) (by kernel_rfl) (fun _ _ _ h => h) (fun oi ho => ?_) hSQ ?_
  · obtain rfl := Option.some.inj ho
    exact Or.inl ⟨by rfl, fun wx hSw => by go_simp⟩
  simp only [Act.put, List.setIfInBounds_toArray, List.set_cons_zero, List.set_cons_succ]
  refine take_at (i := 4) (d := some 33) (v := .int .i64 k) rfl (by kernel_rfl) (by kernel_rfl) (by kernel_rfl) (fun _ _ _ h => h) (fun oi ho => ?_) hSQ ?_
  · obtain rfl := Option.some.inj ho
    exact Or.inl ⟨by rfl, fun wx hSw => by go_simp⟩
  simp only [Act.put, List.setIfInBounds_toArray, List.set_cons_zero, List.set_cons_succ]
  refine take_at (i := 5) (d := some 34) (v := .int .i64 k) rfl (by kernel_rfl) (by kernel_rfl) (by kernel_rfl) (fun _ _ _ h => h) (fun oi ho => ?_) hSQ ?_
  · obtain rfl := Option.some.inj ho
    exact Or.inl ⟨by rfl, fun wx hSw => by go_simp⟩
  simp only [Act.put, List.setIfInBounds_toArray, List.set_cons_zero, List.set_cons_succ]
  refine take_at (i := 6) (d := some 35) (v := .bool true) rfl (by kernel_rfl) (by kernel_rfl) (by kernel_rfl) (fun _ _ _ h => h) (fun oi ho => ?_) hSQ ?_
  · obtain rfl := Option.some.inj ho
    exact Or.inl ⟨by rfl, fun wx hSw => by go_simp⟩
  simp only [Act.put, List.setIfInBounds_toArray, List.set_cons_zero, List.set_cons_succ]
  refine take_at (i := 7) (d := some 36) (v := .bool true) rfl (by kernel_rfl) (by kernel_rfl) (by kernel_rfl) (fun _ _ _ h => h) (fun oi ho => ?_) hSQ ?_
  · obtain rfl := Option.some.inj ho
    exact Or.inl ⟨by rfl, fun wx hSw => by go_simp⟩
  simp only [Act.put, List.setIfInBounds_toArray, List.set_cons_zero, List.set_cons_succ]
  refine take_at (i := 8) (d := some 37) (v := .bool true) rfl (by kernel_rfl) (by kernel_rfl) (by kernel_rfl) (fun _ _ _ h => h) (fun oi ho => ?_) hSQ ?_
  · obtain rfl := Option.some.inj ho
    exact Or.inl ⟨by rfl, fun wx hSw => by go_simp⟩
  simp only [Act.put, List.setIfInBounds_toArray, List.set_cons_zero, List.set_cons_succ]
  refine take_at (i := 9) (d := some 38) (v := .agg #[.int .i64 c, .slice fa fs.length fc, S body]) rfl (by kernel_rfl) (by kernel_rfl) (by kernel_rfl) (fun _ _ _ h => h) (fun oi ho => ?_) hSQ ?_
  · obtain rfl := Option.some.inj ho
    exact Or.inl ⟨by rfl, fun wx hSw => by obtain ⟨x0, x1, x2⟩ := hSw; go_simp⟩
  simp only [Act.put, List.setIfInBounds_toArray, List.set_cons_zero, List.set_cons_succ]
  refine take_at (i := 11) (d := some 40) (v := .agg #[.int .i64 c, .slice fa fs.length fc, S body]) rfl (by kernel_rfl) (by kernel_rfl) (by kernel_rfl) (fun _ _ _ h => h) (fun oi ho => ?_) hSQ ?_
  · obtain rfl := Option.some.inj ho
    exact Or.inl ⟨by rfl, fun wx hSw => by obtain ⟨x0, x1, x2⟩ := hSw; go_simp⟩
  simp only [Act.put, List.setIfInBounds_toArray, List.set_cons_zero, List.set_cons_succ]
  refine ready_call (i := 10) (d := some 39) (f := 9) (args := #[.agg #[.int .i64 c, .slice fa fs.length fc, S body]]) rfl (by kernel_rfl) (fun oi ho => ?_) ?_
  · obtain rfl := Option.some.inj ho
    exact ⟨by rfl, by go_simp⟩
  refine (HC.out.right c fs body _ b o Wq HQ.out.bel HQ.out.fa HL.out).mono ?_
  rintro e W6 ⟨rfl, hB⟩
  rw [← HRB.out]
  have H6 := Lib.hid (HQ.out.below hB)
  have hS6 := hSr.out W6 H6.out
  clear hB HQ hSQ
  refine ⟨_, rfl, hS6, ?_⟩
  simp only [Act.put, List.setIfInBounds_toArray, List.set_cons_zero, List.set_cons_succ]
  refine ready_call (i := 12) (d := some 41) (f := 10) (args := #[.agg #[.int .i64 c, .slice fa fs.length fc, S body]]) rfl (by kernel_rfl) (fun oi ho => ?_) ?_
  · obtain rfl := Option.some.inj ho
    exact ⟨by rfl, by go_simp⟩
  refine (dright_any c fs body _ b o W6 H6.out.fa HL.out).mono ?_
  rintro e W7 ⟨rfl, hB⟩
  rw [← HRB.out]
  have H7 := Lib.hid (H6.out.below hB)
  have hS7 := hSr.out W7 H7.out
  clear hB H6 hS6
  refine ⟨_, rfl, hS7, ?_⟩
  simp only [Act.put, List.setIfInBounds_toArray, List.set_cons_zero, List.set_cons_succ]
  refine take_at (i := 13) (d := some 42) (v := .bool true) rfl (by kernel_rfl) (by kernel_rfl) (by kernel_rfl) (fun _ _ _ h => h) (fun oi ho => ?_) hS7 ?_
  · obtain rfl := Option.some.inj ho
    exact Or.inl ⟨by rfl, fun wx hSw => by go_simp⟩
  simp only [Act.put, List.setIfInBounds_toArray, List.set_cons_zero, List.set_cons_succ]
  refine take_at (i := 14) (d := some 43) (v := .bool true) rfl (by kernel_rfl) (by kernel_rfl) (by kernel_rfl) (fun _ _ _ h => h) (fun oi ho => ?_) hS7 ?_
  · obtain rfl := Option.some.inj ho
    exact Or.inl ⟨by rfl, fun wx hSw => by go_simp⟩
  simp only [Act.put, List.setIfInBounds_toArray, List.set_cons_zero, List.set_cons_succ]
  refine take_at (i := 15) (d := some 44) (v := .bool true) rfl (by kernel_rfl) (by kernel_rfl) (by kernel_rfl) (fun _ _ _ h => h) (fun oi ho => ?_) hS7 ?_
  · obtain rfl := Option.some.inj ho
    exact Or.inl ⟨by rfl, fun wx hSw => by go_simp⟩
  simp only [Act.put, List.setIfInBounds_toArray, List.set_cons_zero, List.set_cons_succ]
  refine take_at (i := 16) (d := some 45) (v := .pointer (some ⟨b1, 0, none⟩)) rfl (by kernel_rfl) (by kernel_rfl) (by kernel_rfl) (fun _ _ _ h => h) (fun oi ho => ?_) hS7 ?_
  · obtain rfl := Option.some.inj ho
    exact Or.inl ⟨by rfl, fun wx hSw => by go_simp⟩
  simp only [Act.put, List.setIfInBounds_toArray, List.set_cons_zero, List.set_cons_succ]
  refine take_at (i := 17) (d := some 46) (v := .int .i64 c) rfl (by kernel_rfl) (by kernel_rfl) (by kernel_rfl) (fun _ _ _ h => h) (fun oi ho => ?_) hS7 ?_
  · obtain rfl := Option.some.inj ho
    exact Or.inl ⟨by rfl, fun wx hSw => by obtain ⟨x0, x1, x2⟩ := hSw; go_simp⟩
  simp only [Act.put, List.setIfInBounds_toArray, List.set_cons_zero, List.set_cons_succ]
  refine take_at (i := 19) (d := some 48) (v := .pointer (some ⟨b1, 0, none⟩)) rfl (by kernel_rfl) (by kernel_rfl) (by kernel_rfl) (fun _ _ _ h => h) (fun oi ho => ?_) hS7 ?_
  · obtain rfl := Option.some.inj ho
    exact Or.inl ⟨by rfl, fun wx hSw => by go_simp⟩
  simp only [Act.put, List.setIfInBounds_toArray, List.set_cons_zero, List.set_cons_succ]
  refine take_at (i := 20) (d := some 49) (v := .int .i64 c) rfl (by kernel_rfl) (by kernel_rfl) (by kernel_rfl) (fun _ _ _ h => h) (fun oi ho => ?_) hS7 ?_
  · obtain rfl := Option.some.inj ho
    exact Or.inl ⟨by rfl, fun wx hSw => by obtain ⟨x0, x1, x2⟩ := hSw; go_simp⟩
  simp only [Act.put, List.setIfInBounds_toArray, List.set_cons_zero, List.set_cons_succ]
  refine ready_call (i := 18) (d := some 47) (f := 11) (args := #[.int .i64 c]) rfl (by kernel_rfl) (fun oi ho => ?_) ?_
  · obtain rfl := Option.some.inj ho
    exact ⟨by rfl, by go_simp⟩
  refine (HC.out.reason c W7 H7.out.bel).mono ?_
  rintro e W8 ⟨rfl, hB⟩
  have H8 := Lib.hid (H7.out.below hB)
  have hS8 := hSr.out W8 H8.out
  clear hB H7 hS7
  refine ⟨_, rfl, hS8, ?_⟩
  simp only [Act.put, List.setIfInBounds_toArray, List.set_cons_zero, List.set_cons_succ]
  refine ready_call (i := 21) (d := some 50) (f := 12) (args := #[.int .i64 c]) rfl (by kernel_rfl) (fun oi ho => ?_) ?_
  · obtain rfl := Option.some.inj ho
    exact ⟨by rfl, by go_simp⟩
  refine (dreason_any c W8).mono ?_
  rintro e W9 ⟨rfl, hB⟩
  have H9 := Lib.hid (H8.out.below hB)
  have hS9 := hSr.out W9 H9.out
  clear hB H8 hS8
  refine ⟨_, rfl, hS9, ?_⟩
  simp only [Act.put, List.setIfInBounds_toArray, List.set_cons_zero, List.set_cons_succ]
  refine take_at (i := 22) (d := some 51) (v := .bool true) rfl (by kernel_rfl) (by kernel_rfl) (by kernel_rfl) (fun _ _ _ h => h) (fun oi ho => ?_) hS9 ?_
  · obtain rfl := Option.some.inj ho
    exact Or.inl ⟨by rfl, fun wx hSw => by go_simp⟩
  simp only [Act.put, List.setIfInBounds_toArray, List.set_cons_zero, List.set_cons_succ]
  refine take_at (i := 23) (d := some 52) (v := .bool true) rfl (by kernel_rfl) (by kernel_rfl) (by kernel_rfl) (fun _ _ _ h => h) (fun oi ho => ?_) hS9 ?_
  · obtain rfl := Option.some.inj ho
    exact Or.inl ⟨by rfl, fun wx hSw => by go_simp⟩
  simp only [Act.put, List.setIfInBounds_toArray, List.set_cons_zero, List.set_cons_succ]
  refine take_at (i := 24) (d := some 6) (v := .bool true) rfl (by kernel_rfl) (by kernel_rfl) (by kernel_rfl) (fun _ _ _ h => h) (fun oi ho => ?_) hS9 ?_
  · obtain rfl := Option.some.inj ho
    exact Or.inl ⟨by rfl, fun wx hSw => by go_simp⟩
  simp only [Act.put, List.setIfInBounds_toArray, List.set_cons_zero, List.set_cons_succ]
  refine wpAnyH_done (by kernel_rfl) ?_ _
  refine NoPanic.normal ?_
  clear hS9
  go_wp2
  go_ret
  exact ⟨rfl, H9.out.bel⟩
end Go.Proofs.YtfdbmbgpcioogaaGreatDoor
/- A reply, a field, that came in as an argument: opened, with the reach of their texts. -/
namespace Go.Proofs.YtfdbmbgpcioogaaGreatDoor
open Go.RowKit Go.ChangeShapes

theorem cellsQ9 : Tryz.prog.cellsOf 9 = 1 := by kernel_rfl
theorem cellsQ3 : Tryz.prog.cellsOf 3 = 1 := by kernel_rfl
theorem cellsQS : Tryz.prog.cellsOf 22 = 1 := by kernel_rfl
theorem cellsQF : Tryz.prog.cellsOf 35 = 2 := by kernel_rfl
theorem cellsQP : Tryz.prog.cellsOf 24 = 3 := by kernel_rfl
section
variable {H : Type} {enc : TypeId × Value → H} {W : World}
theorem weights_memQ {P : Program} {e : TypeId} : ∀ {ds : List (DataW H)} {d : DataW H}, d ∈ ds → ∀ n ∈ d.weights P e, n ∈ DataW.weightsAll P e ds
  | d0 :: ds, d, hd, n, hn => by
    simp only [DataW.weightsAll, List.mem_append]
    rcases List.mem_cons.1 hd with rfl | hd
    · exact .inl hn
    · exact .inr (weights_memQ hd n hn)
  | [], d, hd, n, hn => by simp at hd
/-- A text's cell, and its reach. -/
theorem text_reachQ {n : Nat} {v : Value} {y : DataW H × List MemPlace} {B : Nat} (h : DataW.trod enc Tryz.prog W 0 (fun _ => true) true n 9 [v] = some y) (hw : ∀ k ∈ y.1.weights Tryz.prog 9, k ≤ B) : ∃ s : List UInt8, v = S s ∧ s.length ≤ B := by
  obtain ⟨s, hs, hy, _⟩ := DataW.trod_string Tryz.underlying9 h
  subst hy
  exact ⟨s.data.toList, by rw [← S_of]; simpa using hs, hw _ (by simp [DataW.weights])⟩
set_option maxRecDepth 100000 in
/-- A row of fields. -/
theorem open_fldsQ {fuel : Nat} {v : Value} {y : DataW H × List MemPlace} {B : Nat} (hf : DataW.trod enc Tryz.prog W 0 (fun _ => true) true fuel 22 [v] = some y) (hw : ∀ k ∈ y.1.weights Tryz.prog 22, k ≤ B) :
    ∃ a fs c b o, v = .slice a (List.length fs) c ∧ FA W (.slice a (List.length fs) c) fs b o ∧ ∀ f ∈ fs, f.1.length ≤ B ∧ f.2.length ≤ B := by
  rcases DataW.trod_slice Tryz.underlying22 hf with ⟨hc, _⟩ | ⟨a, len, cap, elems, rest, n, rfl, hc, hy, _, _, _, hlen, hel, _, _⟩
  · exact ⟨none, [], 0, 0, 0, by simpa using hc, ⟨fun T w' => by simp [Builtin.len_, run_underlying Tryz.underlying22, Result.andThen, goInt], fun i hi => absurd hi (by simp), fun i f hf => (by simp at hf), ⟨_, _, rfl⟩⟩, by simp⟩
  subst hy
  have hv : v = .slice (some a) len cap := by simpa using hc
  subst hv
  have hone : ∀ i, i < len → ∃ f : List UInt8 × List UInt8, W.cell? ((a.add (i * 2)).add 0) = some (S f.1) ∧ W.cell? ((a.add (i * 2)).add 1) = some (S f.2) ∧ f.1.length ≤ B ∧ f.2.length ≤ B := fun i hi => by
    have h := hel i hi
    obtain ⟨ei, he⟩ : ∃ e, elems[i]? = some e := ⟨elems[i]'(by omega), List.getElem?_eq_getElem _⟩
    rw [he, cellsQF] at h
    cases hcs : W.cells? 0 (a.add (i * 2)) 2 with
    | none => rw [hcs] at h; simp at h
    | some cs' =>
      rw [hcs] at h
      have h' : DataW.trod enc Tryz.prog W 0 (fun _ => true) true n 35 cs' = some ei := by simpa using h
      obtain ⟨_, hl', hcell⟩ := World.cells?_some hcs
      obtain ⟨y0, y1, n', he2, _, h0, h1⟩ := trod_struct2 Tryz.underlying35 h'
      subst he2
      match cs', hl' with
      | [c0, c1], _ =>
        dsimp only at h0 h1
        rw [cellsQ9] at h0 h1
        have hmem := weights_memQ (P := Tryz.prog) (e := 35) (List.mem_map_of_mem (f := fun p : DataW H × List MemPlace => p.1) (List.mem_of_getElem? he))
        have hwi : ∀ j t d, ([9, 9] : List TypeId)[j]? = some t → [y0.1, y1.1][j]? = some d → ∀ k ∈ DataW.weights Tryz.prog t d, k ≤ B := fun j t d hj hd k hk => by
          refine hw k ?_
          have h2 := hmem k (by
            simp only [DataW.weights, Tryz.underlying35]
            exact DataW.weights_mem_each hj hd k hk)
          simp only [DataW.weights, Tryz.underlying22]
          exact List.mem_cons_of_mem _ (List.mem_append_left _ h2)
        obtain ⟨s0, hs0, hl0⟩ := text_reachQ (v := c0) h0 (hwi 0 9 y0.1 rfl rfl)
        obtain ⟨s1, hs1, hl1⟩ := text_reachQ (v := c1) h1 (hwi 1 9 y1.1 rfl rfl)
        refine ⟨(s0, s1), ?_, ?_, hl0, hl1⟩
        · rw [hcell 0 (by omega)]; simp [hs0]
        · rw [hcell 1 (by omega)]; simp [hs1]
  obtain ⟨F, hF⟩ := choose_lt' (α := List UInt8 × List UInt8) (p := fun i f => W.cell? ((a.add (i * 2)).add 0) = some (S f.1) ∧ W.cell? ((a.add (i * 2)).add 1) = some (S f.2) ∧ f.1.length ≤ B ∧ f.2.length ≤ B) hone
  have hfl : ((List.range len).map F).length = len := by simp
  have hget : ∀ i f, ((List.range len).map F)[i]? = some f → i < len ∧ f = F i := fun i f h => by
    rw [List.getElem?_map] at h
    rcases Nat.lt_or_ge i len with hi | hi
    · rw [List.getElem?_range hi] at h
      exact ⟨hi, (Option.some.inj h).symm⟩
    · rw [List.getElem?_eq_none (by simpa using hi)] at h
      cases h
  have hall : ∀ f ∈ (List.range len).map F, f.1.length ≤ B ∧ f.2.length ≤ B := fun f hf => by
    obtain ⟨i, hi⟩ := List.getElem?_of_mem hf
    obtain ⟨h1, rfl⟩ := hget i f hi
    exact (hF i h1).2.2
  rcases Nat.eq_zero_or_pos len with rfl | hpos
  · exact ⟨some a, [], cap, 0, 0, rfl, ⟨fun T w' => by simp [Builtin.len_, run_underlying Tryz.underlying22, Result.andThen, goInt], fun i hi => absurd hi (by simp), fun i f hf => (by simp at hf), ⟨_, _, rfl⟩⟩, by simp⟩
  obtain ⟨b, o, spot⟩ := a
  have hspot : spot = none := by
    have := World.cell?_spot (hF 0 hpos).1
    simpa [Addr.add] using this
  subst hspot
  refine ⟨_, (List.range len).map F, cap, b, o, by rw [hfl], ⟨fun T w' => by simp [Builtin.len_, run_underlying Tryz.underlying22, Result.andThen, goInt], fun i hi w' => ?_, fun i f hf => ?_, ⟨_, _, rfl⟩⟩, hall⟩
  · rw [hfl] at hi ⊢
    exact run_index_at (P := Tryz.prog) Tryz.underlying22 (fun w => Tryz.sizeOf35 w) b o len cap i hi w'
  · obtain ⟨h1, rfl⟩ := hget i f hf
    have h := hF i h1
    rw [Addr.add_mid, Addr.add_mid, Addr.add_mid] at h
    exact ⟨h.1, h.2.1⟩
set_option maxRecDepth 100000 in
/-- A reply. -/
theorem open_reply {fuel : Nat} {cs : List Value} {y : DataW H × List MemPlace} {B : Nat} (hf : DataW.trod enc Tryz.prog W 0 (fun _ => true) true fuel 24 cs = some y) (hw : ∀ k ∈ y.1.weights Tryz.prog 24, k ≤ B) :
    ∃ vi a fs c bd b o, cs = [.int .i64 vi, .slice a (List.length fs) c, S bd] ∧ bd.length ≤ B ∧ (∀ f ∈ fs, f.1.length ≤ B ∧ f.2.length ≤ B) ∧ FA W (.slice a (List.length fs) c) fs b o := by
  obtain ⟨xs, n, rfl, hy, hl, hlen, hfld⟩ := DataW.trod_struct Tryz.underlying24 hf
  subst hy
  rw [cellsQP] at hl
  match cs, hl, xs, hlen with
  | [c0, c1, c2], _, [x0, x1, x2], _ =>
    have hwi : ∀ j t d, ([3, 22, 9] : List TypeId)[j]? = some t → [x0.1, x1.1, x2.1][j]? = some d → ∀ k ∈ DataW.weights Tryz.prog t d, k ≤ B := fun j t d hj hd k hk => by
      refine hw k ?_
      simp only [DataW.weights, Tryz.underlying24]
      exact DataW.weights_mem_each hj hd k hk
    have h0 : DataW.trod enc Tryz.prog W 0 (fun _ => true) true n 3 (List.take (Tryz.prog.cellsOf 3) [c0, c1, c2]) = some x0 := hfld 0 _ rfl
    have h1 : DataW.trod enc Tryz.prog W 0 (fun _ => true) true n 22 (List.take (Tryz.prog.cellsOf 22) [c1, c2]) = some x1 := hfld 1 _ rfl
    have h2 : DataW.trod enc Tryz.prog W 0 (fun _ => true) true n 9 (List.take (Tryz.prog.cellsOf 9) [c2]) = some x2 := hfld 2 _ rfl
    rw [cellsQ9] at h2
    rw [cellsQ3] at h0
    rw [cellsQS] at h1
    obtain ⟨vi, rfl, _⟩ := field_num (v := c0) Tryz.underlying3 h0
    obtain ⟨a, fs, c, b, o, rfl, hA, hfs⟩ := open_fldsQ (v := c1) h1 (hwi 1 22 x1.1 rfl rfl)
    obtain ⟨bd, rfl, hbd⟩ := text_reachQ (v := c2) h2 (hwi 2 9 x2.1 rfl rfl)
    exact ⟨vi, a, fs, c, bd, b, o, rfl, hbd, hfs, hA⟩
set_option maxRecDepth 100000 in
/-- A field. -/
theorem open_field {fuel : Nat} {cs : List Value} {y : DataW H × List MemPlace} {B : Nat} (hf : DataW.trod enc Tryz.prog W 0 (fun _ => true) true fuel 35 cs = some y) (hw : ∀ k ∈ y.1.weights Tryz.prog 35, k ≤ B) :
    ∃ n u, cs = [S n, S u] := by
  obtain ⟨xs, n, rfl, hy, hl, hlen, hfld⟩ := DataW.trod_struct Tryz.underlying35 hf
  subst hy
  rw [cellsQF] at hl
  match cs, hl, xs, hlen with
  | [c0, c1], _, [x0, x1], _ =>
    have hwi : ∀ j t d, ([9, 9] : List TypeId)[j]? = some t → [x0.1, x1.1][j]? = some d → ∀ k ∈ DataW.weights Tryz.prog t d, k ≤ B := fun j t d hj hd k hk => by
      refine hw k ?_
      simp only [DataW.weights, Tryz.underlying35]
      exact DataW.weights_mem_each hj hd k hk
    have h0 : DataW.trod enc Tryz.prog W 0 (fun _ => true) true n 9 (List.take (Tryz.prog.cellsOf 9) [c0, c1]) = some x0 := hfld 0 _ rfl
    have h1 : DataW.trod enc Tryz.prog W 0 (fun _ => true) true n 9 (List.take (Tryz.prog.cellsOf 9) [c1]) = some x1 := hfld 1 _ rfl
    rw [cellsQ9] at h0 h1
    obtain ⟨a, rfl, _⟩ := text_reachQ (v := c0) h0 (hwi 0 9 x0.1 rfl rfl)
    obtain ⟨b, rfl, _⟩ := text_reachQ (v := c1) h1 (hwi 1 9 x1.1 rfl rfl)
    exact ⟨a, b, rfl⟩
end
end Go.Proofs.YtfdbmbgpcioogaaGreatDoor
/- Requests: the landed package's way as list functions; it tells the same. -/
namespace Go.Proofs.YtfdbmbgpcioogaaGreatDoor
open Go.RowKit

/-! A head's end, and its lines. -/
theorem index_cons (b : UInt8) (l sub : List UInt8) : Lib.index (b :: l) sub = if sub.isPrefixOf (b :: l) then 0 else if Lib.index l sub == -1 then -1 else Lib.index l sub + 1 := by rw [Lib.index]
theorem prefix_take {p l : List UInt8} (h : l.take p.length = p) : p.isPrefixOf l = true := by
  rw [List.isPrefixOf_iff_prefix, List.prefix_iff_eq_take]; exact h.symm
theorem prefix_no {p l : List UInt8} (h : l.take p.length ≠ p) : p.isPrefixOf l = false := by
  rw [Bool.eq_false_iff]
  intro e
  rw [List.isPrefixOf_iff_prefix, List.prefix_iff_eq_take] at e
  exact h e.symm
theorem endF_index : ∀ s : List UInt8, endF s = if Lib.index s [13, 10, 13, 10] = -1 then none else some ((Lib.index s [13, 10, 13, 10]).toNat + 4)
  | [] => by rfl
  | c :: r => by
    have ih := endF_index r
    have hge := Lib.index_ge r [13, 10, 13, 10]
    rw [endF, index_cons]
    by_cases h : (c :: r).take 4 = [13, 10, 13, 10]
    · rw [if_pos h, prefix_take (p := [13, 10, 13, 10]) h]; rfl
    · rw [if_neg h, prefix_no (p := [13, 10, 13, 10]) h, if_neg Bool.false_ne_true, ih]
      by_cases hm : Lib.index r [13, 10, 13, 10] = -1
      · rw [if_pos hm, if_pos (beq_iff_eq.2 hm), if_pos rfl]; rfl
      · rw [if_neg hm, if_neg (fun e => hm (beq_iff_eq.1 e)), if_neg (by omega : ¬ (Lib.index r [13, 10, 13, 10] + 1 = -1))]
        show some (_ + 1) = some _
        congr 1; omega
theorem lns_cut1 (cur r : List UInt8) : lnsF cur (13 :: 10 :: r) = cur :: lnsF [] r := by rw [lnsF, if_pos ⟨rfl, rfl⟩]
theorem lns_on1 {cur r : List UInt8} {c d : UInt8} (h : ¬ (c = 13 ∧ d = 10)) : lnsF cur (c :: d :: r) = lnsF (cur ++ [c]) (d :: r) := by rw [lnsF, if_neg h]
theorem lns_index : ∀ (s cur : List UInt8), (Lib.index s [13, 10] = -1 → lnsF cur s = [cur ++ s]) ∧ ∀ i : Nat, Lib.index s [13, 10] = (i : Int) → lnsF cur s = (cur ++ s.take i) :: lnsF [] (s.drop (i + 2))
  | [], cur => ⟨fun _ => by rw [lnsF, List.append_nil], fun i h => by
      have e : Lib.index [] [13, 10] = -1 := rfl
      rw [e] at h; omega⟩
  | [c], cur => ⟨fun _ => by rw [lnsF], fun i h => by
      have e : Lib.index [c] [13, 10] = -1 := by rw [index_cons, prefix_no (p := [13, 10]) (by simp)]; rfl
      rw [e] at h; omega⟩
  | c :: d :: r, cur => by
    by_cases hc : c = 13 ∧ d = 10
    · obtain ⟨rfl, rfl⟩ := hc
      have hx : Lib.index (13 :: 10 :: r) [13, 10] = 0 := by rw [index_cons, prefix_take (p := [13, 10]) rfl]; rfl
      refine ⟨fun h => absurd (hx.symm.trans h) (by decide), fun i h => ?_⟩
      rw [hx] at h
      obtain rfl : i = 0 := by omega
      rw [lns_cut1]; simp
    · have hp : ([13, 10] : List UInt8).isPrefixOf (c :: d :: r) = false := prefix_no (by
        intro e
        simp only [List.length_cons, List.length_nil, Nat.zero_add, List.take_succ_cons, List.take_zero, List.cons.injEq, and_true] at e
        exact hc e)
      have hx : Lib.index (c :: d :: r) [13, 10] = if Lib.index (d :: r) [13, 10] == -1 then -1 else Lib.index (d :: r) [13, 10] + 1 := by
        rw [index_cons, hp, if_neg Bool.false_ne_true]
      obtain ⟨i1, i2⟩ := lns_index (d :: r) (cur ++ [c])
      rw [lns_on1 hc]
      by_cases hm : Lib.index (d :: r) [13, 10] = -1
      · rw [if_pos (beq_iff_eq.2 hm)] at hx
        refine ⟨fun _ => by rw [i1 hm, List.append_assoc]; rfl, fun i h => ?_⟩
        rw [hx] at h; omega
      · rw [if_neg (fun e => hm (beq_iff_eq.1 e))] at hx
        have hge := Lib.index_ge (d :: r) [13, 10]
        refine ⟨fun h => by rw [hx] at h; omega, fun i h => ?_⟩
        rw [hx] at h
        obtain ⟨j, rfl⟩ : ∃ j, i = j + 1 := ⟨i - 1, by omega⟩
        rw [i2 j (by omega), List.append_assoc]
        rfl
theorem split_lns : ∀ (n : Nat) (s : List UInt8), s.length ≤ n → Lib.splitK [13, 10] 0 (Lib.count s [13, 10]) s = lnsF [] s
  | n, s, hn => by
    have hge := Lib.index_ge s [13, 10]
    obtain ⟨i1, i2⟩ := lns_index s []
    by_cases hm : Lib.index s [13, 10] = -1
    · rw [Lib.count_miss hm, i1 hm]; rfl
    · obtain ⟨j, hj⟩ : ∃ j : Nat, Lib.index s [13, 10] = j := ⟨(Lib.index s [13, 10]).toNat, by omega⟩
      have hne : s ≠ [] := by rintro rfl; exact hm rfl
      have hpos : 0 < s.length := List.length_pos_iff.2 hne
      rw [Lib.count_hit (by simp) hj, Nat.add_comm, Lib.splitK, if_neg (fun e => hm (beq_iff_eq.1 e)), hj, i2 j hj]
      have hl : ([13, 10] : List UInt8).length = 2 := rfl
      rw [hl, Int.toNat_natCast, Nat.add_zero, List.nil_append]
      obtain ⟨m, rfl⟩ : ∃ m, n = m + 1 := ⟨n - 1, by omega⟩
      rw [split_lns m (s.drop (j + 2)) (by rw [List.length_drop]; omega)]

/-! Digits. -/
def dgtB (c : UInt8) : Bool := decide (48 ≤ c.toNat) && decide (c.toNat ≤ 57)
def digL : List UInt8 := [48, 49, 50, 51, 52, 53, 54, 55, 56, 57]
theorem dig_in (c : UInt8) : digL.contains c = dgtB c := by
  have h : ∀ n : Fin 256, digL.contains (UInt8.ofNat n.1) = dgtB (UInt8.ofNat n.1) := by decide +kernel
  have := h ⟨c.toNat, c.toNat_lt⟩
  rwa [UInt8.ofNat_toNat] at this
theorem drop_every {p : UInt8 → Bool} : ∀ l : List UInt8, (∀ c ∈ l, p c = true) → l.dropWhile p = []
  | [], _ => rfl
  | c :: r, h => by rw [List.dropWhile_cons, if_pos (h c (List.mem_cons_self ..))]; exact drop_every r fun d hd => h d (List.mem_cons_of_mem _ hd)
theorem drop_none {p : UInt8 → Bool} : ∀ l : List UInt8, (∀ c ∈ l.dropWhile p, p c = true) → l.dropWhile p = []
  | [], _ => rfl
  | c :: r, h => by
    rw [List.dropWhile_cons] at h ⊢
    by_cases hc : p c = true
    · rw [if_pos hc] at h ⊢; exact drop_none r h
    · rw [if_neg hc] at h; exact absurd (h c (List.mem_cons_self ..)) hc
theorem trim_dig (s : List UInt8) : Lib.trimS s digL = [] ↔ s.all dgtB = true := by
  unfold Lib.trimS Lib.trimLeftS Lib.trimRightS
  have e : (fun c => digL.contains c) = dgtB := funext dig_in
  rw [e]
  constructor
  · intro h
    have h2 := dropWhile_nil h
    have h3 := drop_none s.reverse fun c hc => h2 c (List.mem_reverse.2 hc)
    have h4 := dropWhile_nil h3
    exact List.all_eq_true.2 fun c hc => h4 c (List.mem_reverse.2 hc)
  · intro h
    refine drop_every _ fun c hc => ?_
    have h2 := List.mem_reverse.1 hc
    exact List.all_eq_true.1 h c (List.mem_reverse.1 ((List.dropWhile_sublist (p := dgtB)).subset h2))
theorem numGo_dig : ∀ (s : List UInt8) (n : Nat), (numGo n s ≠ none ↔ s.all dgtB = true)
  | [], n => by simp [numGo]
  | c :: r, n => by
    rw [numGo, List.all_cons]
    by_cases h : 48 ≤ c.toNat ∧ c.toNat ≤ 57
    · rw [if_pos h, numGo_dig r, show dgtB c = true by unfold dgtB; simp; exact h, Bool.true_and]
    · rw [if_neg h, show dgtB c = false by unfold dgtB; rw [Bool.and_eq_false_iff, decide_eq_false_iff_not, decide_eq_false_iff_not]; omega, Bool.false_and]; simp
theorem numF_dig (s : List UInt8) : numF s ≠ none ↔ s ≠ [] ∧ s.all dgtB = true := by
  unfold numF
  by_cases h : s = []
  · rw [if_pos h]; simp [h]
  · rw [if_neg h, numGo_dig]; simp [h]
/-- As the landed package counts. -/
def cntS (n d : Nat) : Nat := min (n * 10 + d) 4097
def cntGo (n : Nat) (s : List UInt8) : Nat := s.foldl (fun n c => cntS n (c.toNat - 48)) n
theorem cntS_le (n d : Nat) : cntS n d ≤ 4097 := Nat.min_le_right _ _
theorem cntGo_nil (n : Nat) : cntGo n [] = n := by unfold cntGo; rw [List.foldl_nil]
theorem cntGo_cons (n : Nat) (c : UInt8) (r : List UInt8) : cntGo n (c :: r) = cntGo (cntS n (c.toNat - 48)) r := by unfold cntGo; rw [List.foldl_cons]
theorem cnt_le (s : List UInt8) : ∀ n : Nat, n ≤ 4097 → cntGo n s ≤ 4097 := by
  induction s with
  | nil => intro n h; rw [cntGo_nil]; exact h
  | cons c r ih => intro n h; rw [cntGo_cons]; exact ih _ (cntS_le _ _)
theorem cnt_step (n m d : Nat) (h : (n = m ∧ m ≤ 4096) ∨ (n = 4097 ∧ 4096 < m)) :
    (cntS n d = min (10 * m + d) 5000 ∧ min (10 * m + d) 5000 ≤ 4096) ∨ (cntS n d = 4097 ∧ 4096 < min (10 * m + d) 5000) := by
  unfold cntS; omega
theorem cnt_num (s : List UInt8) : ∀ n m M : Nat, ((n = m ∧ m ≤ 4096) ∨ (n = 4097 ∧ 4096 < m)) → numGo m s = some M → (cntGo n s = M ∧ M ≤ 4096) ∨ (cntGo n s = 4097 ∧ 4096 < M) := by
  induction s with
  | nil =>
    intro n m M h hm
    rw [numGo] at hm
    obtain rfl := Option.some.inj hm
    rw [cntGo_nil]
    exact h
  | cons c r ih =>
    intro n m M h hm
    rw [numGo] at hm
    by_cases hc : 48 ≤ c.toNat ∧ c.toNat ≤ 57
    · rw [if_pos hc] at hm
      rw [cntGo_cons]
      exact ih _ _ M (cnt_step n m (c.toNat - 48) h) hm
    · rw [if_neg hc] at hm; cases hm

/-! Fields. -/
def pfF (l : List UInt8) : List UInt8 × List UInt8 := ((parseF l).1, (parseF l).2.1)
def manyF (t : List UInt8) : List (List UInt8 × List UInt8) → Nat
  | [] => 0
  | f :: fs => (alikeF f.1 t).toNat + manyF t fs
def firstF (t : List UInt8) : List (List UInt8 × List UInt8) → List UInt8
  | [] => []
  | f :: fs => if alikeF f.1 t = true then f.2 else firstF t fs
theorem many_cons (t : List UInt8) (f : List UInt8 × List UInt8) (fs : List (List UInt8 × List UInt8)) : manyF t (f :: fs) = (alikeF f.1 t).toNat + manyF t fs := rfl
theorem many_zero {t : List UInt8} : ∀ {fs : List (List UInt8 × List UInt8)}, manyF t fs = 0 ↔ ∀ f ∈ fs, alikeF f.1 t = false
  | [] => ⟨fun _ f hf => (by cases hf), fun _ => rfl⟩
  | g :: fs => by
    rw [many_cons]
    cases hg : alikeF g.1 t
    · simp only [Bool.toNat_false, Nat.zero_add, List.mem_cons, forall_eq_or_imp, hg, true_and]
      exact many_zero
    · simp [hg]
theorem first_none {t : List UInt8} : ∀ {fs : List (List UInt8 × List UInt8)}, manyF t fs = 0 → firstF t fs = []
  | [], _ => rfl
  | g :: fs, h => by
    rw [many_cons] at h
    rw [firstF]
    cases hg : alikeF g.1 t
    · rw [if_neg Bool.false_ne_true]; exact first_none (by omega)
    · rw [hg] at h; simp at h
/-- The first one is one. -/
theorem first_some {t : List UInt8} : ∀ {fs : List (List UInt8 × List UInt8)}, manyF t fs ≠ 0 → ∃ f ∈ fs, alikeF f.1 t = true ∧ firstF t fs = f.2
  | [], h => absurd rfl h
  | g :: fs, h => by
    rw [many_cons] at h
    rw [firstF]
    cases hg : alikeF g.1 t
    · rw [if_neg Bool.false_ne_true]
      obtain ⟨f, h1, h2, h3⟩ := first_some (t := t) (fs := fs) (by rw [hg] at h; simpa using h)
      exact ⟨f, List.mem_cons_of_mem _ h1, h2, h3⟩
    · rw [if_pos rfl]
      exact ⟨g, List.mem_cons_self .., hg, rfl⟩
/-- The only one is the first one. -/
theorem first_only {t : List UInt8} : ∀ {fs : List (List UInt8 × List UInt8)}, manyF t fs = 1 → ∀ f ∈ fs, alikeF f.1 t = true → f.2 = firstF t fs
  | g :: fs, h, f, hf, ha => by
    rw [many_cons] at h
    rw [firstF]
    cases hg : alikeF g.1 t
    · rw [hg] at h
      rw [if_neg Bool.false_ne_true]
      rcases List.mem_cons.1 hf with rfl | hm
      · rw [hg] at ha; cases ha
      · exact first_only (by simpa using h) f hm ha
    · rw [hg] at h
      have hz : manyF t fs = 0 := by simpa using h
      rw [if_pos rfl]
      rcases List.mem_cons.1 hf with rfl | hm
      · rfl
      · rw [many_zero.1 hz f hm] at ha; cases ha
/-- What the lines say, all of it may be. -/
def GoodH (h : Hs) (ls : List (List UInt8)) : Prop :=
  (∀ l ∈ ls, (parseF l).2.2 = true) ∧ (∀ l ∈ ls, alikeF (parseF l).1 teL = true → alikeF (parseF l).2.1 chL = true) ∧
  ∃ v, ∀ l ∈ ls, alikeF (parseF l).1 clL = true → (parseF l).2.1 = v ∧ numF v ≠ none ∧ (h.len ≠ none → v = h.text)
def nextH (h : Hs) (l : List UInt8) : Hs := {
    fs := h.fs ++ [((parseF l).1, (parseF l).2.1)]
    hosts := h.hosts + (alikeF (parseF l).1 hostL).toNat
    coded := h.coded + (alikeF (parseF l).1 teL).toNat
    len := if alikeF (parseF l).1 clL = true then numF (parseF l).2.1 else h.len
    text := if alikeF (parseF l).1 clL = true then (parseF l).2.1 else h.text
    cl := h.cl || (alikeF (parseF l).1 coL && hasF (parseF l).2.1 closeL) }
theorem lineH_some {h h' : Hs} {l : List UInt8} (e : lineH h l = some h') : h' = nextH h l ∧ (parseF l).2.2 = true ∧ (alikeF (parseF l).1 teL = true → alikeF (parseF l).2.1 chL = true) ∧
    (alikeF (parseF l).1 clL = true → numF (parseF l).2.1 ≠ none ∧ (h.len ≠ none → (parseF l).2.1 = h.text)) := by
  unfold lineH at e
  split at e
  · cases e
  · rename_i h1
    split at e
    · cases e
    · rename_i h2
      split at e
      · cases e
      · rename_i h3
        cases e
        refine ⟨rfl, by simpa using h1, fun ha => ?_, fun ha => ⟨fun hn => h3 ⟨ha, .inl hn⟩, fun hl => ?_⟩⟩
        · cases hc : alikeF (parseF l).2.1 chL
          · exact absurd ⟨ha, hc⟩ h2
          · rfl
        · exact Classical.byContradiction fun hne => h3 ⟨ha, .inr ⟨hl, hne⟩⟩
theorem lineH_good {h : Hs} {l : List UInt8} (h1 : (parseF l).2.2 = true) (h2 : alikeF (parseF l).1 teL = true → alikeF (parseF l).2.1 chL = true)
    (h3 : alikeF (parseF l).1 clL = true → numF (parseF l).2.1 ≠ none ∧ (h.len ≠ none → (parseF l).2.1 = h.text)) : lineH h l = some (nextH h l) := by
  unfold lineH
  rw [if_neg (by rw [h1]; simp), if_neg (fun e => by rw [h2 e.1] at e; cases e.2), if_neg (fun e => by
    obtain ⟨a, b⟩ := h3 e.1
    rcases e.2 with c | ⟨c, d⟩
    · exact a c
    · exact d (b c))]
  rfl
/-- What the lines said. -/
structure SaidH (h h' : Hs) (ls : List (List UInt8)) : Prop where
  fs : h'.fs = h.fs ++ ls.map pfF
  hosts : h'.hosts = h.hosts + manyF hostL (ls.map pfF)
  coded : h'.coded = h.coded + manyF teL (ls.map pfF)
  len : (manyF clL (ls.map pfF) = 0 ∧ h'.len = h.len ∧ h'.text = h.text) ∨ (manyF clL (ls.map pfF) ≠ 0 ∧ h'.len = numF (firstF clL (ls.map pfF)))
  cl : h'.cl = (h.cl || (ls.map pfF).any fun f => alikeF f.1 coL && hasF f.2 closeL)
theorem linesH_some : ∀ (ls : List (List UInt8)) (h h' : Hs), linesH h ls = some h' → GoodH h ls ∧ SaidH h h' ls
  | [], h, h', e => by
    rw [linesH] at e
    cases e
    exact ⟨⟨by simp, by simp, [], by simp⟩, ⟨by simp, rfl, rfl, .inl ⟨rfl, rfl, rfl⟩, by simp⟩⟩
  | l :: r, h, h', e => by
    rw [linesH] at e
    cases hl : lineH h l with
    | none => rw [hl] at e; cases e
    | some h1 =>
      rw [hl] at e
      dsimp only at e
      obtain ⟨rfl, a1, a2, a3⟩ := lineH_some hl
      obtain ⟨⟨g1, g2, v, g3⟩, s⟩ := linesH_some r _ h' e
      have hmc : ∀ t, manyF t ((l :: r).map pfF) = (alikeF (parseF l).1 t).toNat + manyF t (r.map pfF) := fun t => by rw [List.map_cons, many_cons]; rfl
      refine ⟨⟨?_, ?_, ?_⟩, ?_⟩
      · intro x hx
        rcases List.mem_cons.1 hx with rfl | hx
        · exact a1
        · exact g1 x hx
      · intro x hx
        rcases List.mem_cons.1 hx with rfl | hx
        · exact a2
        · exact g2 x hx
      · cases hc : alikeF (parseF l).1 clL
        · refine ⟨v, fun x hx hxa => ?_⟩
          rcases List.mem_cons.1 hx with rfl | hx
          · rw [hc] at hxa; cases hxa
          · have := g3 x hx hxa
            have e1 : (nextH h l).len = h.len := by unfold nextH; dsimp only; rw [if_neg (by rw [hc]; exact Bool.false_ne_true)]
            have e2 : (nextH h l).text = h.text := by unfold nextH; dsimp only; rw [if_neg (by rw [hc]; exact Bool.false_ne_true)]
            rw [e1, e2] at this
            exact this
        · have e1 : (nextH h l).len = numF (parseF l).2.1 := by unfold nextH; dsimp only; rw [if_pos hc]
          have e2 : (nextH h l).text = (parseF l).2.1 := by unfold nextH; dsimp only; rw [if_pos hc]
          obtain ⟨b1, b2⟩ := a3 hc
          refine ⟨(parseF l).2.1, fun x hx hxa => ?_⟩
          rcases List.mem_cons.1 hx with rfl | hx
          · exact ⟨rfl, b1, b2⟩
          · have := g3 x hx hxa
            rw [e1, e2] at this
            have hv := this.2.2 b1
            exact ⟨by rw [this.1, hv], b1, b2⟩
      · refine ⟨?_, ?_, ?_, ?_, ?_⟩
        · rw [s.fs]; unfold nextH; dsimp only; rw [List.map_cons, List.append_assoc]; rfl
        · rw [s.hosts, hmc]; unfold nextH; dsimp only; omega
        · rw [s.coded, hmc]; unfold nextH; dsimp only; omega
        · rw [hmc]
          cases hc : alikeF (parseF l).1 clL
          · have e1 : (nextH h l).len = h.len := by unfold nextH; dsimp only; rw [if_neg (by rw [hc]; exact Bool.false_ne_true)]
            have e2 : (nextH h l).text = h.text := by unfold nextH; dsimp only; rw [if_neg (by rw [hc]; exact Bool.false_ne_true)]
            have e3 : firstF clL ((l :: r).map pfF) = firstF clL (r.map pfF) := by
              rw [List.map_cons, firstF]
              exact if_neg (by show ¬ alikeF (parseF l).1 clL = true; rw [hc]; exact Bool.false_ne_true)
            rw [e3]
            rcases s.len with ⟨m1, m2, m3⟩ | ⟨m1, m2⟩
            · exact .inl ⟨by rw [m1]; rfl, by rw [m2, e1], by rw [m3, e2]⟩
            · exact .inr ⟨by simpa using m1, m2⟩
          · have e1 : (nextH h l).len = numF (parseF l).2.1 := by unfold nextH; dsimp only; rw [if_pos hc]
            have e2 : (nextH h l).text = (parseF l).2.1 := by unfold nextH; dsimp only; rw [if_pos hc]
            have e3 : firstF clL ((l :: r).map pfF) = (parseF l).2.1 := by
              rw [List.map_cons, firstF]
              exact if_pos hc
            obtain ⟨b1, _⟩ := a3 hc
            rw [e3]
            refine .inr ⟨by simp, ?_⟩
            rcases s.len with ⟨m1, m2, m3⟩ | ⟨m1, m2⟩
            · rw [m2, e1]
            · obtain ⟨f, hf, hfa, hff⟩ := first_some m1
              obtain ⟨x, hx, rfl⟩ := List.mem_map.1 hf
              have := g3 x hx hfa
              rw [e1, e2] at this
              have hv := this.2.2 b1
              rw [m2, hff, ← hv, ← this.1]; rfl
        · rw [s.cl]; unfold nextH; dsimp only; rw [List.map_cons, List.any_cons, Bool.or_assoc]; rfl
theorem linesH_good : ∀ (ls : List (List UInt8)) (h : Hs), GoodH h ls → ∃ h', linesH h ls = some h'
  | [], h, _ => ⟨h, rfl⟩
  | l :: r, h, ⟨g1, g2, v, g3⟩ => by
    have h1 := lineH_good (h := h) (g1 l (List.mem_cons_self ..)) (g2 l (List.mem_cons_self ..)) (fun ha => by
      have := g3 l (List.mem_cons_self ..) ha
      exact ⟨by rw [this.1]; exact this.2.1, fun hl => by rw [this.1]; exact this.2.2 hl⟩)
    rw [linesH, h1]
    refine linesH_good r _ ⟨fun x hx => g1 x (List.mem_cons_of_mem _ hx), fun x hx => g2 x (List.mem_cons_of_mem _ hx), v, fun x hx hxa => ?_⟩
    have hx3 := g3 x (List.mem_cons_of_mem _ hx) hxa
    refine ⟨hx3.1, hx3.2.1, fun hl => ?_⟩
    unfold nextH at hl ⊢
    dsimp only at hl ⊢
    cases hc : alikeF (parseF l).1 clL
    · rw [hc, if_neg Bool.false_ne_true] at hl
      rw [if_neg Bool.false_ne_true]
      exact hx3.2.2 hl
    · rw [if_pos rfl]
      exact (g3 l (List.mem_cons_self ..) hc).1.symm

/-! A head, as the landed package reads it. -/
def reqF (l0 : List UInt8) (ls : List (List UInt8)) : Rq :=
  ⟨(lineF l0).1, (targetF (lineF l0).2.1).1, (targetF (lineF l0).2.1).2.1, (lineF l0).2.2.1, ls.map pfF, [], ((ls.map pfF).any fun f => alikeF f.1 coL && hasF f.2 closeL) || (lineF l0).2.2.1 == 10⟩
def reqOk (l0 : List UInt8) (ls : List (List UInt8)) : Prop := (lineF l0).2.2.2 = true ∧ (targetF (lineF l0).2.1).2.2 = true ∧ ∀ l ∈ ls, (parseF l).2.2 = true
def hostOk (v : Nat) (fs : List (List UInt8 × List UInt8)) : Prop := v ≠ 11 ∨ manyF hostL fs = 1
def encOk (v : Nat) (fs : List (List UInt8 × List UInt8)) : Prop := manyF teL fs = 0 ∨ (manyF teL fs = 1 ∧ manyF clL fs = 0 ∧ v ≠ 10 ∧ alikeF (firstF teL fs) chL = true)
def lenOk (fs : List (List UInt8 × List UInt8)) : Prop := (∀ f ∈ fs, alikeF f.1 clL = true → f.2 = firstF clL fs) ∧ (manyF clL fs = 0 ∨ (firstF clL fs ≠ [] ∧ (firstF clL fs).all dgtB = true))
/-- What the document's way says of a head, by the landed one's tests. -/
theorem head_landed (l0 : List UInt8) (ls : List (List UInt8)) :
    (32 < ls.length → headL (l0 :: ls) = .bad 431) ∧
    (ls.length ≤ 32 → ¬ (reqOk l0 ls ∧ hostOk (lineF l0).2.2.1 (ls.map pfF) ∧ encOk (lineF l0).2.2.1 (ls.map pfF) ∧ lenOk (ls.map pfF)) → headL (l0 :: ls) = .bad 400) ∧
    (ls.length ≤ 32 → reqOk l0 ls → hostOk (lineF l0).2.2.1 (ls.map pfF) → encOk (lineF l0).2.2.1 (ls.map pfF) → lenOk (ls.map pfF) →
      (4096 < cntGo 0 (firstF clL (ls.map pfF)) → headL (l0 :: ls) = .bad 413) ∧
      (cntGo 0 (firstF clL (ls.map pfF)) ≤ 4096 → headL (l0 :: ls) = .ok (reqF l0 ls) (if 0 < manyF teL (ls.map pfF) then none else some (cntGo 0 (firstF clL (ls.map pfF)))) ∧ (0 < manyF teL (ls.map pfF) → cntGo 0 (firstF clL (ls.map pfF)) = 0))) := by
  have hone : ∀ a : Nat, ¬ (a = 0) → ¬ 1 < a → a = 1 := fun a _ _ => by omega
  refine ⟨fun h => ?_, fun hl hn => ?_, fun hl hr hh he hlen => ?_⟩
  · unfold headL; dsimp only; rw [if_pos (by simp only [List.length_cons]; omega)]
  · unfold headL; dsimp only
    rw [if_neg (by simp only [List.length_cons]; omega)]
    by_cases hlt : (lineF l0).2.2.2 = false ∨ (targetF (lineF l0).2.1).2.2 = false
    · rw [if_pos hlt]
    · rw [if_neg hlt]
      cases hx : linesH ⟨[], 0, 0, none, [], (lineF l0).2.2.1 == 10⟩ ls with
      | none => rfl
      | some h =>
        obtain ⟨⟨g1, g2, v, g3⟩, s⟩ := linesH_some _ _ _ hx
        dsimp only
        by_cases hc : ((lineF l0).2.2.1 = 11 ∧ h.hosts ≠ 1) ∨ 1 < h.coded ∨ (h.coded = 1 ∧ ((lineF l0).2.2.1 = 10 ∨ h.len ≠ none))
        · rw [if_pos hc]
        · exfalso
          have hs := s.hosts
          have hcd := s.coded
          dsimp only at hs hcd
          rw [Nat.zero_add] at hs hcd
          refine hn ⟨⟨?_, ?_, g1⟩, ?_, ?_, ?_, ?_⟩
          · cases e : (lineF l0).2.2.2
            · exact absurd (.inl e) hlt
            · rfl
          · cases e : (targetF (lineF l0).2.1).2.2
            · exact absurd (.inr e) hlt
            · rfl
          · unfold hostOk
            by_cases h11 : (lineF l0).2.2.1 = 11
            · refine .inr ?_
              rw [← hs]
              exact Classical.byContradiction fun e => hc (.inl ⟨h11, e⟩)
            · exact .inl h11
          · unfold encOk
            by_cases h0 : manyF teL (ls.map pfF) = 0
            · exact .inl h0
            · have h1 : manyF teL (ls.map pfF) = 1 := by
                rw [← hcd] at h0 ⊢
                exact hone _ h0 (fun e => hc (.inr (.inl e)))
              refine .inr ⟨h1, ?_, ?_, ?_⟩
              · rcases s.len with ⟨m, _⟩ | ⟨m1, m2⟩
                · exact m
                · exfalso
                  obtain ⟨f, hf, hfa, hff⟩ := first_some m1
                  obtain ⟨x, hx, rfl⟩ := List.mem_map.1 hf
                  have hgx := g3 x hx hfa
                  refine hc (.inr (.inr ⟨by rw [hcd, h1], .inr ?_⟩))
                  rw [m2, hff]
                  show numF (parseF x).2.1 ≠ none
                  rw [hgx.1]; exact hgx.2.1
              · exact fun e => hc (.inr (.inr ⟨by rw [hcd, h1], .inl e⟩))
              · obtain ⟨f, hf, hfa, hff⟩ := first_some (t := teL) (fs := ls.map pfF) (by omega)
                obtain ⟨x, hx, rfl⟩ := List.mem_map.1 hf
                rw [hff]
                exact g2 x hx hfa
          · intro f hf hfa
            obtain ⟨x, hx, rfl⟩ := List.mem_map.1 hf
            have hne : manyF clL (ls.map pfF) ≠ 0 := fun e => by rw [many_zero.1 e _ hf] at hfa; cases hfa
            obtain ⟨f2, hf2, hfa2, hff2⟩ := first_some hne
            obtain ⟨x2, hx2, rfl⟩ := List.mem_map.1 hf2
            rw [hff2]
            exact (g3 x hx hfa).1.trans (g3 x2 hx2 hfa2).1.symm
          · by_cases hne : manyF clL (ls.map pfF) = 0
            · exact .inl hne
            · obtain ⟨f2, hf2, hfa2, hff2⟩ := first_some hne
              obtain ⟨x2, hx2, rfl⟩ := List.mem_map.1 hf2
              refine .inr ?_
              rw [hff2]
              have := g3 x2 hx2 hfa2
              exact (numF_dig _).1 (by show numF (parseF x2).2.1 ≠ none; rw [this.1]; exact this.2.1)
  · obtain ⟨r1, r2, r3⟩ := hr
    have hg : GoodH ⟨[], 0, 0, none, [], (lineF l0).2.2.1 == 10⟩ ls := by
      refine ⟨r3, fun l hm ha => ?_, firstF clL (ls.map pfF), fun l hm ha => ⟨?_, ?_, fun hne => absurd rfl hne⟩⟩
      · rcases he with h0 | ⟨h1, _, _, h4⟩
        · have := many_zero.1 h0 (pfF l) (List.mem_map.2 ⟨l, hm, rfl⟩)
          rw [show (pfF l).1 = (parseF l).1 from rfl, ha] at this; cases this
        · have := first_only h1 (pfF l) (List.mem_map.2 ⟨l, hm, rfl⟩) ha
          rw [show (parseF l).2.1 = (pfF l).2 from rfl, this]; exact h4
      · exact hlen.1 (pfF l) (List.mem_map.2 ⟨l, hm, rfl⟩) ha
      · rcases hlen.2 with h0 | h1
        · have := many_zero.1 h0 (pfF l) (List.mem_map.2 ⟨l, hm, rfl⟩)
          rw [show (pfF l).1 = (parseF l).1 from rfl, ha] at this; cases this
        · exact (numF_dig _).2 h1
    obtain ⟨h, hx⟩ := linesH_good _ _ hg
    obtain ⟨_, s⟩ := linesH_some _ _ _ hx
    have hs := s.hosts
    have hcd := s.coded
    have hfs := s.fs
    have hcl := s.cl
    have hsl := s.len
    dsimp only at hs hcd hfs hcl hsl
    rw [Nat.zero_add] at hs hcd
    rw [List.nil_append] at hfs
    have hb : ¬ (((lineF l0).2.2.1 = 11 ∧ h.hosts ≠ 1) ∨ 1 < h.coded ∨ (h.coded = 1 ∧ ((lineF l0).2.2.1 = 10 ∨ h.len ≠ none))) := by
      rintro (⟨h1, h2⟩ | h1 | ⟨h1, h2⟩)
      · rw [hs] at h2
        rcases hh with h3 | h3
        · exact h3 h1
        · exact h2 h3
      · rw [hcd] at h1
        rcases he with h3 | ⟨h3, _⟩ <;> omega
      · rw [hcd] at h1
        rcases he with h3 | ⟨_, h3, h4, _⟩
        · omega
        · rcases h2 with h2 | h2
          · exact h4 h2
          · rcases hsl with ⟨_, m, _⟩ | ⟨m, _⟩
            · exact h2 m
            · exact m h3
    have hnum : (cntGo 0 (firstF clL (ls.map pfF)) = h.len.getD 0 ∧ h.len.getD 0 ≤ 4096) ∨ (cntGo 0 (firstF clL (ls.map pfF)) = 4097 ∧ 4096 < h.len.getD 0) := by
      rcases hsl with ⟨m1, m2, _⟩ | ⟨m1, m2⟩
      · rw [first_none m1, m2, cntGo_nil]; exact .inl ⟨rfl, by simp⟩
      · rcases hlen.2 with h0 | h1
        · exact absurd h0 m1
        · obtain ⟨M, hM⟩ := Option.ne_none_iff_exists'.1 ((numF_dig _).2 h1)
          rw [m2, hM]
          unfold numF at hM
          rw [if_neg h1.1] at hM
          exact cnt_num _ 0 0 M (.inl ⟨rfl, by omega⟩) hM
    have hrq : (⟨(lineF l0).1, (targetF (lineF l0).2.1).1, (targetF (lineF l0).2.1).2.1, (lineF l0).2.2.1, h.fs, [], h.cl⟩ : Rq) = reqF l0 ls := by
      unfold reqF
      rw [hfs, hcl, Bool.or_comm]
    have hte : 0 < manyF teL (ls.map pfF) → cntGo 0 (firstF clL (ls.map pfF)) = 0 := fun hp => by
      rcases he with h3 | ⟨_, h3, _⟩
      · omega
      · rw [first_none h3, cntGo_nil]
    unfold headL
    dsimp only
    rw [if_neg (by simp only [List.length_cons]; omega), if_neg (by rw [r1, r2]; simp), hx]
    dsimp only
    rw [if_neg hb]
    by_cases hc1 : h.coded = 1
    · rw [if_pos hc1]
      rw [hcd] at hc1
      have h0 := hte (by omega)
      refine ⟨fun h4 => by omega, fun _ => ⟨?_, hte⟩⟩
      rw [if_pos (by omega), hrq]
    · rw [if_neg hc1]
      rw [hcd] at hc1
      have hz : ¬ 0 < manyF teL (ls.map pfF) := by rcases he with h3 | ⟨h3, _⟩ <;> omega
      refine ⟨fun h4 => ?_, fun h4 => ⟨?_, hte⟩⟩
      · rw [if_pos (by omega)]
      · rw [if_neg (by omega), if_neg hz, hrq]
        rcases hnum with ⟨n1, _⟩ | ⟨n1, _⟩
        · rw [n1]
        · omega
end Go.Proofs.YtfdbmbgpcioogaaGreatDoor
/- Replies: the landed package's way as list functions; it tells the same. -/
namespace Go.Proofs.YtfdbmbgpcioogaaGreatDoor
open Go.RowKit

def teU : List UInt8 := [84, 114, 97, 110, 115, 102, 101, 114, 45, 69, 110, 99, 111, 100, 105, 110, 103]
def clU : List UInt8 := [67, 111, 110, 116, 101, 110, 116, 45, 76, 101, 110, 103, 116, 104]
def coU : List UInt8 := [67, 111, 110, 110, 101, 99, 116, 105, 111, 110]
theorem alike_to {a b : List UInt8} (h : a.map lowB = b.map lowB) (x : List UInt8) : alikeF x a = alikeF x b := by unfold alikeF; rw [h]
theorem te_low (x : List UInt8) : alikeF x teU = alikeF x teL := alike_to (by decide) x
theorem cl_low (x : List UInt8) : alikeF x clU = alikeF x clL := alike_to (by decide) x
theorem co_low (x : List UInt8) : alikeF x coU = alikeF x coL := alike_to (by decide) x
theorem many_low {a b : List UInt8} (h : ∀ x, alikeF x a = alikeF x b) : ∀ fs, manyF a fs = manyF b fs
  | [] => rfl
  | f :: fs => by rw [many_cons, many_cons, h, many_low h fs]
theorem first_low {a b : List UInt8} (h : ∀ x, alikeF x a = alikeF x b) : ∀ fs, firstF a fs = firstF b fs
  | [] => rfl
  | f :: fs => by rw [firstF, firstF, h, first_low h fs]
theorem not_both {x a b : List UInt8} (h : a.map lowB ≠ b.map lowB) (ha : alikeF x a = true) : alikeF x b = false := by
  unfold alikeF at ha ⊢
  rw [beq_iff_eq] at ha
  rw [beq_eq_false_iff_ne]
  intro e
  exact h (ha.symm.trans e)

/-! The parts of the landed package. -/
def ownB (name : List UInt8) (c : Int) : Bool := alikeF name clU || (alikeF name teU || (!(c == 101) && alikeF name coU))
theorem fld_own (c : Int) (f : Fld) : fldOk c f = ((parseF (f.1 ++ 58 :: f.2) == (f.1, f.2, true)) && !ownB f.1 c) := by
  unfold fldOk ownB
  rw [te_low, cl_low, co_low]
  cases alikeF f.1 clL <;> cases alikeF f.1 teL <;> cases alikeF f.1 coL <;> cases (c == 101) <;> simp
def headOfL (l : List (List UInt8)) : Nat × List Fld × Bool := match l with
  | [] => (0, [], false)
  | l0 :: ls => if (statusF l0).2.2 = true ∧ (∀ l ∈ ls, (parseF l).2.2 = true) then ((statusF l0).1, ls.map pfF, true) else (0, [], false)
def decN (s : List UInt8) : Nat := (szGo 0 s).getD 0
def sizeOfL (c : Nat) (fs : List Fld) : Nat × Bool :=
  if 0 < manyF teU fs then (0, false)
  else if nobB (c : Int) = true then (0, decide (manyF clU fs = 0))
  else if manyF clU fs ≠ 1 ∨ firstF clU fs = [] ∨ 6 < (firstF clU fs).length ∨ (firstF clU fs).all dgtB = false then (0, false)
  else (decN (firstF clU fs), true)
def closesL (c : Nat) (fs : List Fld) : Bool × Bool :=
  if manyF coU fs = 0 ∨ c = 101 then (false, true)
  else if 1 < manyF coU fs ∨ firstF coU fs ≠ closeL then (false, false)
  else (true, true)
def othersL (c : Nat) (fs : List Fld) : List Fld := fs.filter fun f => !ownB f.1 (c : Int)
def endL (rest : List UInt8) (e : Nat) (c : Nat) (fs : List Fld) (n : Nat) (close : Bool) : Rd :=
  if rest.length < n then .short else .ok c (othersL c fs) (rest.take n) close (e + n)
def readL (s : List UInt8) (head : Bool) : Rd := match endF s with
  | none => if s.length < 65536 then .short else .form
  | some e => match headOfL (lnsF [] (s.take (e - 4))) with
    | (c, fs, ok) => if (ok && (sizeOfL c fs).2 && (closesL c fs).2) = true then endL (s.drop e) e c fs (if head = true then 0 else (sizeOfL c fs).1) (closesL c fs).1 else .form

/-! They tell the same. -/
theorem sz_dig (s : List UInt8) : szF s ≠ none ↔ s ≠ [] ∧ s.length ≤ 6 ∧ s.all dgtB = true := by
  have hgo : ∀ (s : List UInt8) (n : Nat), (szGo n s ≠ none ↔ s.all dgtB = true) := by
    intro s
    induction s with
    | nil => intro n; simp [szGo]
    | cons c r ih =>
      intro n
      rw [szGo, List.all_cons]
      by_cases h : 48 ≤ c.toNat ∧ c.toNat ≤ 57
      · rw [if_pos h, ih, show dgtB c = true by unfold dgtB; simp; exact h, Bool.true_and]
      · rw [if_neg h, show dgtB c = false by unfold dgtB; rw [Bool.and_eq_false_iff, decide_eq_false_iff_not, decide_eq_false_iff_not]; omega, Bool.false_and]; simp
  unfold szF
  by_cases h : s.length = 0 ∨ 6 < s.length
  · rw [if_pos h]
    constructor
    · intro e; exact absurd rfl e
    · rintro ⟨h1, h2, _⟩
      exact absurd h (by have := List.length_pos_iff.2 h1; omega)
  · rw [if_neg h, hgo]
    constructor
    · intro e; exact ⟨fun e' => h (.inl (by rw [e']; rfl)), by omega, e⟩
    · exact fun e => e.2.2
theorem sz_val {s : List UInt8} (h : szF s ≠ none) : szF s = some (decN s) := by
  obtain ⟨h1, h2, h3⟩ := (sz_dig s).1 h
  have hp := List.length_pos_iff.2 h1
  unfold szF at h ⊢
  rw [if_neg (by omega)] at h ⊢
  unfold decN
  cases hg : szGo 0 s with
  | none => exact absurd hg h
  | some k => rfl
def goodL (c : Nat) (f : Fld) : Prop := alikeF f.1 teL = false ∧ (alikeF f.1 clL = true → szF f.2 ≠ none) ∧ (c ≠ 101 → alikeF f.1 coL = true → f.2 = closeL)
def lastN : Nat → List Fld → Nat
  | n, [] => n
  | n, f :: fs => lastN (if alikeF f.1 clL = true then decN f.2 else n) fs
def clsN (c : Nat) (fs : List Fld) : Nat := if c = 101 then 0 else manyF coL fs
theorem own_low (x : List UInt8) (c : Nat) : ownB x (c : Int) = (alikeF x clL || (alikeF x teL || (!(decide (c = 101)) && alikeF x coL))) := by
  unfold ownB
  rw [te_low, cl_low, co_low]
  have : ((c : Int) == 101) = decide (c = 101) := by
    by_cases h : c = 101
    · rw [h]; rfl
    · rw [decide_eq_false h, beq_eq_false_iff_ne]; omega
  rw [this]
theorem step_good {c : Nat} {p q : Ps} {l : List UInt8} (h : stepP c p l = some q) : (parseF l).2.2 = true ∧ goodL c (pfF l) := by
  unfold stepP at h
  unfold goodL pfF
  dsimp only
  split at h
  · cases h
  · rename_i h1
    refine ⟨by cases hx : (parseF l).2.2 with | true => rfl | false => exact absurd (.inl hx) h1, by cases hx : alikeF (parseF l).1 teL with | false => rfl | true => exact absurd (.inr hx) h1, fun hc => ?_, fun h101 hc => ?_⟩
    · rw [if_pos hc] at h
      intro e
      rw [e] at h
      cases h
    · rw [if_neg (by rw [not_both (by decide) hc]; exact Bool.false_ne_true), if_pos ⟨h101, hc⟩] at h
      split at h
      · assumption
      · cases h
theorem step_of {c : Nat} {l : List UInt8} (p : Ps) (h1 : (parseF l).2.2 = true) (h2 : goodL c (pfF l)) : stepP c p l = some ⟨p.fs ++ othersL c [pfF l], p.lens + (alikeF (pfF l).1 clL).toNat, p.cls + clsN c [pfF l], if alikeF (pfF l).1 clL = true then decN (pfF l).2 else p.n⟩ := by
  obtain ⟨a1, a2, a3⟩ := h2
  have hx1 : (pfF l).1 = (parseF l).1 := rfl
  have hx2 : (pfF l).2 = (parseF l).2.1 := rfl
  have hm : clsN c [pfF l] = if c = 101 then 0 else (alikeF (pfF l).1 coL).toNat := by unfold clsN; rw [many_cons]; rfl
  have hf : othersL c [pfF l] = if ownB (pfF l).1 (c : Int) = true then [] else [pfF l] := by
    unfold othersL
    cases ho : ownB (pfF l).1 (c : Int) <;> simp [ho]
  rw [hm, hf, own_low]
  unfold stepP
  rw [← hx1, ← hx2, if_neg (by rw [h1, a1]; simp)]
  by_cases hc : alikeF (pfF l).1 clL = true
  · rw [if_pos hc, if_pos hc, sz_val (a2 hc), hc]
    have := not_both (b := coL) (by decide) hc
    rw [this]; simp
  · rw [if_neg hc, if_neg hc]
    rw [Bool.not_eq_true] at hc
    rw [hc, a1]
    by_cases h101 : c = 101
    · rw [if_neg (fun e => e.1 h101)]; simp [h101]
    · by_cases ho : alikeF (pfF l).1 coL = true
      · rw [if_pos ⟨h101, ho⟩, if_pos (a3 h101 ho), ho]; simp [h101]
      · rw [if_neg (fun e => ho e.2)]
        rw [Bool.not_eq_true] at ho
        rw [ho]; simp [h101]
theorem goP_good2 {c : Nat} : ∀ (ls : List (List UInt8)) (p q : Ps), goP c p ls = some q → ∀ l ∈ ls, (parseF l).2.2 = true ∧ goodL c (pfF l)
  | [], _, _, _, l, hl => by cases hl
  | l0 :: r, p, q, h, l, hl => by
    rw [goP] at h
    cases hs : stepP c p l0 with
    | none => rw [hs] at h; cases h
    | some p1 =>
      rw [hs] at h
      rcases List.mem_cons.1 hl with rfl | hl
      · exact step_good hs
      · exact goP_good2 r p1 q h l hl
theorem cls_cons (c : Nat) (f : Fld) (fs : List Fld) : clsN c (f :: fs) = clsN c [f] + clsN c fs := by
  unfold clsN
  by_cases h : c = 101
  · rw [if_pos h, if_pos h, if_pos h]
  · rw [if_neg h, if_neg h, if_neg h, many_cons, many_cons]; rfl
theorem goP_of {c : Nat} : ∀ (ls : List (List UInt8)) (p : Ps), (∀ l ∈ ls, (parseF l).2.2 = true ∧ goodL c (pfF l)) →
    goP c p ls = some ⟨p.fs ++ othersL c (ls.map pfF), p.lens + manyF clL (ls.map pfF), p.cls + clsN c (ls.map pfF), lastN p.n (ls.map pfF)⟩
  | [], p, _ => by
    show some p = _
    unfold clsN
    simp [othersL, manyF, lastN]
  | l :: r, p, h => by
    obtain ⟨h1, h2⟩ := h l List.mem_cons_self
    rw [goP, step_of p h1 h2]
    dsimp only
    rw [goP_of r _ fun k hk => h k (List.mem_cons_of_mem _ hk), List.map_cons, cls_cons c (pfF l) (r.map pfF), many_cons, lastN]
    have : othersL c (pfF l :: r.map pfF) = othersL c [pfF l] ++ othersL c (r.map pfF) := by
      unfold othersL
      rw [← List.filter_append]; rfl
    rw [this, List.append_assoc, Nat.add_assoc, Nat.add_assoc]
theorem last_many : ∀ (fs : List Fld) (n : Nat), (manyF clL fs = 0 → lastN n fs = n) ∧ (manyF clL fs = 1 → lastN n fs = decN (firstF clL fs))
  | [], n => ⟨fun _ => rfl, fun h => by cases h⟩
  | f :: fs, n => by
    obtain ⟨i1, i2⟩ := last_many fs (if alikeF f.1 clL = true then decN f.2 else n)
    rw [many_cons, lastN, firstF]
    cases hc : alikeF f.1 clL with
    | true =>
      rw [hc, if_pos rfl] at i1
      exact ⟨fun h => by simp at h, fun h => by rw [if_pos rfl, if_pos rfl]; exact i1 (by simpa using h)⟩
    | false =>
      rw [hc, if_neg Bool.false_ne_true] at i1 i2
      refine ⟨fun h => ?_, fun h => ?_⟩
      · rw [if_neg Bool.false_ne_true]; exact i1 (by simpa using h)
      · rw [if_neg Bool.false_ne_true, if_neg Bool.false_ne_true]; exact i2 (by simpa using h)
theorem head_same (ls : List (List UInt8)) (c : Nat) (fs : List Fld) (ok : Bool) (h : headOfL ls = (c, fs, ok)) :
    headP ls = if (ok && (sizeOfL c fs).2 && (closesL c fs).2) = true then some (c, ⟨othersL c fs, manyF clL fs, clsN c fs, (sizeOfL c fs).1⟩) else none := by
  cases ls with
  | nil =>
    cases h
    rfl
  | cons l0 r =>
    unfold headOfL at h
    unfold headP
    dsimp only at h ⊢
    by_cases hA : (statusF l0).2.2 = true ∧ (∀ l ∈ r, (parseF l).2.2 = true)
    · rw [if_pos hA] at h
      cases h
      obtain ⟨hA1, hA2⟩ := hA
      rw [if_neg (by rw [hA1]; simp), Bool.true_and]
      obtain ⟨c, hc⟩ : ∃ c, c = (statusF l0).1 := ⟨_, rfl⟩
      rw [← hc]
      have hmem : ∀ f ∈ r.map pfF, ∃ l ∈ r, f = pfF l := fun f hf => by
        obtain ⟨l, hl, rfl⟩ := List.mem_map.1 hf
        exact ⟨l, hl, rfl⟩
      have hte := many_low te_low (r.map pfF)
      have hcl := many_low cl_low (r.map pfF)
      have hco := many_low co_low (r.map pfF)
      have hclf := first_low cl_low (r.map pfF)
      have hcof := first_low co_low (r.map pfF)
      by_cases hG : ∀ l ∈ r, (parseF l).2.2 = true ∧ goodL c (pfF l)
      · rw [goP_of r _ hG]
        dsimp only
        rw [List.nil_append, Nat.zero_add, Nat.zero_add]
        obtain ⟨l1, l2⟩ := last_many (r.map pfF) 0
        have t0 : manyF teL (r.map pfF) = 0 := many_zero.2 fun f hf => by
          obtain ⟨l, hl, rfl⟩ := hmem f hf
          exact (hG l hl).2.1
        have hfirst : manyF clL (r.map pfF) ≠ 0 → szF (firstF clL (r.map pfF)) ≠ none := fun h => by
          obtain ⟨f, hf, ha, he⟩ := first_some h
          obtain ⟨l, hl, rfl⟩ := hmem f hf
          rw [he]
          exact (hG l hl).2.2.1 ha
        have hcfirst : c ≠ 101 → manyF coL (r.map pfF) ≠ 0 → firstF coL (r.map pfF) = closeL := fun h1 h => by
          obtain ⟨f, hf, ha, he⟩ := first_some h
          obtain ⟨l, hl, rfl⟩ := hmem f hf
          rw [he]
          exact (hG l hl).2.2.2 h1 ha
        have hS : sizeOfL c (r.map pfF) = if nobB (c : Int) = true then (0, decide (manyF clL (r.map pfF) = 0)) else if manyF clL (r.map pfF) ≠ 1 then (0, false) else (lastN 0 (r.map pfF), true) := by
          unfold sizeOfL
          rw [hte, hcl, hclf, t0, if_neg (by omega)]
          split
          · rfl
          · by_cases h1 : manyF clL (r.map pfF) = 1
            · obtain ⟨d1, d2, d3⟩ := (sz_dig _).1 (hfirst (by omega))
              rw [if_neg (by rintro (e | e | e | e); · exact e h1
                             · exact d1 e
                             · omega
                             · rw [d3] at e; cases e), if_neg (fun e => e h1), l2 h1]
            · rw [if_pos (.inl h1), if_pos h1]
        have hC : (closesL c (r.map pfF)).2 = decide (clsN c (r.map pfF) ≤ 1) := by
          unfold closesL clsN
          rw [hco, hcof]
          by_cases h0 : manyF coL (r.map pfF) = 0 ∨ c = 101
          · rw [if_pos h0]
            rcases h0 with h0 | h0
            · rw [h0]; simp
            · rw [if_pos h0]; simp
          · rw [if_neg h0, if_neg (fun e => h0 (.inr e))]
            by_cases h1 : 1 < manyF coL (r.map pfF)
            · rw [if_pos (.inl h1), decide_eq_false (by omega)]
            · rw [if_neg (by rintro (e | e); · exact h1 e
                             · exact e (hcfirst (fun e => h0 (.inr e)) (fun e => h0 (.inl e)))), decide_eq_true (by omega)]
        rw [hS, hC]
        cases hn : nobB (c : Int) with
        | true =>
          rw [if_pos rfl]
          dsimp only
          by_cases h0 : manyF clL (r.map pfF) = 0
          · rw [l1 h0, h0]
            by_cases h1 : clsN c (r.map pfF) ≤ 1
            · rw [if_neg (by simp; omega), if_pos (by simp [h1])]
            · rw [if_pos (by omega), if_neg (by simp [h1])]
          · rw [if_pos (by simp [h0]), if_neg (by simp [h0])]
        | false =>
          rw [if_neg Bool.false_ne_true]
          by_cases h1 : manyF clL (r.map pfF) = 1
          · have hS2 : (if manyF clL (r.map pfF) ≠ 1 then ((0 : Nat), false) else (lastN 0 (r.map pfF), true)) = (lastN 0 (r.map pfF), true) := if_neg fun e => e h1
            rw [hS2, h1]
            dsimp only
            by_cases h2 : clsN c (r.map pfF) ≤ 1
            · rw [if_neg (by simp; omega), if_pos (by simp [h2])]
            · rw [if_pos (by omega), if_neg (by simp [h2])]
          · have hS2 : (if manyF clL (r.map pfF) ≠ 1 then ((0 : Nat), false) else (lastN 0 (r.map pfF), true)) = (0, false) := if_pos h1
            rw [hS2]
            dsimp only
            have hR : (true && false && decide (clsN c (r.map pfF) ≤ 1)) = false := rfl
            first | rw [if_pos, if_neg (by simp)] | rw [if_pos]
            by_cases h0 : manyF clL (r.map pfF) = 0
            · right; right; simp [h0]
            · left; omega
      · have hgo : goP c ⟨[], 0, 0, 0⟩ r = none := by
          cases hg : goP c ⟨[], 0, 0, 0⟩ r with
          | none => rfl
          | some q => exact absurd (goP_good2 r _ q hg) hG
        rw [hgo]
        dsimp only
        rw [if_neg]
        intro e
        rw [Bool.and_eq_true] at e
        obtain ⟨e1, e2⟩ := e
        apply hG
        intro l hl
        refine ⟨hA2 l hl, ?_⟩
        have hf : pfF l ∈ r.map pfF := List.mem_map.2 ⟨l, hl, rfl⟩
        unfold sizeOfL at e1
        unfold closesL at e2
        rw [hte, hcl, hclf] at e1
        rw [hco, hcof] at e2
        have t0 : manyF teL (r.map pfF) = 0 := by
          rcases Nat.eq_zero_or_pos (manyF teL (r.map pfF)) with h | h
          · exact h
          · rw [if_pos h] at e1; cases e1
        rw [if_neg (by omega)] at e1
        refine ⟨many_zero.1 t0 _ hf, fun ha => ?_, fun h101 ha => ?_⟩
        · split at e1
          · dsimp only at e1
            rw [decide_eq_true_eq] at e1
            rw [many_zero.1 e1 _ hf] at ha; cases ha
          · split at e1
            · cases e1
            · rename_i h3
              have hm1 : manyF clL (r.map pfF) = 1 := Classical.not_not.1 fun e => h3 (.inl e)
              rw [first_only hm1 _ hf ha, sz_dig]
              refine ⟨fun e => h3 (.inr (.inl e)), Nat.not_lt.1 fun e => h3 (.inr (.inr (.inl e))), ?_⟩
              cases hx : (firstF clL (r.map pfF)).all dgtB with
              | true => rfl
              | false => exact absurd (.inr (.inr (.inr hx))) h3
        · have hm0 : manyF coL (r.map pfF) ≠ 0 := fun e => by rw [many_zero.1 e _ hf] at ha; cases ha
          rw [if_neg (by rintro (e | e); · exact hm0 e
                         · exact h101 e)] at e2
          split at e2
          · cases e2
          · rename_i h3
            have hm1 : manyF coL (r.map pfF) = 1 := by
              have : ¬ 1 < manyF coL (r.map pfF) := fun e => h3 (.inl e)
              omega
            rw [first_only hm1 _ hf ha]
            exact Classical.not_not.1 fun e => h3 (.inr e)
    · rw [if_neg hA] at h
      cases h
      rw [Bool.false_and, Bool.false_and, if_neg Bool.false_ne_true]
      by_cases h1 : (statusF l0).2.2 = false
      · rw [if_pos h1]
      · rw [if_neg h1]
        have : goP (statusF l0).1 ⟨[], 0, 0, 0⟩ r = none := by
          cases hg : goP (statusF l0).1 ⟨[], 0, 0, 0⟩ r with
          | none => rfl
          | some q => exact absurd ⟨by simpa using h1, fun l hl => (goP_good2 r _ q hg l hl).1⟩ hA
        rw [this]
theorem read_same (s : List UInt8) (head : Bool) : readL s head = readF s head := by
  unfold readL readF
  cases he : endF s with
  | none => rfl
  | some e =>
    dsimp only
    have hle := endF_le _ _ he
    obtain ⟨c, fs, ok, hh⟩ : ∃ c fs ok, headOfL (lnsF [] (s.take (e - 4))) = (c, fs, ok) := ⟨_, _, _, rfl⟩
    have hp := head_same _ c fs ok hh
    rw [hp, hh]
    dsimp only
    split
    · rename_i h1
      dsimp only
      unfold endL restP
      dsimp only
      obtain ⟨k, hk⟩ : ∃ k, k = (if head = true then 0 else (sizeOfL c fs).1) := ⟨_, rfl⟩
      rw [← hk, List.length_drop]
      have hcl : (closesL c fs).1 = decide (clsN c fs = 1) := by
        have h2 : (closesL c fs).2 = true := by
          simp only [Bool.and_eq_true] at h1; exact h1.2
        unfold closesL at h2 ⊢
        unfold clsN
        rw [many_low co_low, first_low co_low] at h2 ⊢
        by_cases h0 : manyF coL fs = 0 ∨ c = 101
        · rw [if_pos h0]
          rcases h0 with h0 | h0
          · rw [h0]; simp
          · rw [if_pos h0]; simp
        · rw [if_neg h0] at h2 ⊢
          rw [if_neg (fun e => h0 (.inr e))]
          split at h2
          · cases h2
          · rename_i h3
            rw [if_neg h3]
            have : ¬ 1 < manyF coL fs := fun e => h3 (.inl e)
            rw [decide_eq_true (by omega)]
      rw [hcl]
      by_cases hs : s.length - e < k
      · rw [if_pos hs, if_pos (by omega)]
      · rw [if_neg hs, if_neg (by omega)]
    · rfl
end Go.Proofs.YtfdbmbgpcioogaaGreatDoor
/- What is asked of the package of lines; awake walked over it. -/
namespace Go.Proofs.YtfdbmbgpcioogaaGreatDoor
open Go.RowKit
attribute [local go_sem] store_one S_match S_store

end Go.Proofs.YtfdbmbgpcioogaaGreatDoor
/- What the statements ask of the packages beside that of lines. T: what a world is asked to hold (the table that the numerals are written by). -/
namespace Go.Proofs.YtfdbmbgpcioogaaGreatDoor
open Go.RowKit

structure OutI (T : World → Prop) : Prop where
  token : ∀ (s : List UInt8) (w : World), s.length ≤ 100000 → Calls Tryz.prog 51 #[S s] w fun e w' => e = .returned (.bool (tokF s)) ∧ Below w.heap.size w w'
  fparse : ∀ (s : List UInt8) (w : World), s.length ≤ 100000 → Calls Tryz.prog 37 #[S s] w fun e w' => e = .returned (parseV (parseF s)) ∧ Below w.heap.size w w'
  itoa : ∀ (n : Int) (w : World), -9223372036854775808 ≤ n → n ≤ 9223372036854775807 → T w → Calls Tryz.prog 18 #[.int .i64 n] w fun e w' => e = .returned (S (Lib.itoa n)) ∧ Below w.heap.size w w'
  small : ∀ (n : Nat) (w : World), n < 10 → Calls Tryz.prog 18 #[.int .i64 (n : Int)] w fun e w' => e = .returned (S [UInt8.ofNat (48 + n)]) ∧ Below w.heap.size w w'
  keep : ∀ w w' : World, T w → Below w.heap.size w w' → T w'
theorem digits_len : ∀ (f u : Nat), u < 10 ^ f → (Lib.decDigits u).length ≤ f + 1
  | 0, u, h => by
    obtain rfl : u = 0 := by omega
    rw [Lib.decDigits, dif_pos (by omega)]; simp
  | f + 1, u, h => by
    rw [Lib.decDigits]
    split
    · simp
    · rw [List.length_append]
      have h2 : u / 10 < 10 ^ f := by
        rw [Nat.pow_succ] at h
        omega
      have := digits_len f (u / 10) h2
      simp; omega
theorem itoa_len {n : Int} (h0 : -9223372036854775808 ≤ n) (h1 : n ≤ 9223372036854775807) : (Lib.itoa n).length ≤ 100 := by
  unfold Lib.itoa
  split
  · have := digits_len 20 n.natAbs (by omega)
    rw [List.length_cons]; omega
  · have := digits_len 20 n.toNat (by omega)
    omega
end Go.Proofs.YtfdbmbgpcioogaaGreatDoor
/- The packages beside that of lines do what is asked of them. -/
namespace Go.Proofs.YtfdbmbgpcioogaaGreatDoor
open Go.RowKit

/-- The table that numerals are written by. -/
def PowAt (w : World) : Prop := Lib.TabIs Tryz.prog w "internal/strconv.uint64pow10" .u64 Lib.pow10Tab
theorem outI : OutI PowAt where
  token := fun s w hs => (token15_any s hs w).mono (by rintro e w' ⟨h, rfl⟩; exact ⟨h, Below.refl _ _⟩)
  fparse := fun s w hs => parse10_any s hs w
  itoa := fun n w h0 h1 hT => (Any.strconv_Itoa Tryz.laysM171 n h0 h1 w hT).mono (by rintro e w' ⟨h, k, os, rfl⟩; exact ⟨h, Lib.below_grow _ _ (Nat.le_refl _) k os⟩)
  small := fun n w hn => (Any.strconv_Itoa_small Tryz.lays171 n (by omega) w).mono (by rintro e w' ⟨h, rfl⟩; exact ⟨by rw [h, Lib.decDigits_one hn]; rfl, Below.refl _ _⟩)
  keep := fun w w' h hb => Lib.tabBelow_of_tabIs h w' hb
end Go.Proofs.YtfdbmbgpcioogaaGreatDoor
/- What the landed replies call of the standard library: a text that is built, a text cut, a number out of digits. -/
namespace Go.Proofs.YtfdbmbgpcioogaaGreatDoor
open Go.RowKit Go.Shelf
attribute [local go_sem] store_one S_match S_store eguard_BN nguard_BN

/-- The longest text that a search takes as it likes. -/
def MaxAt (w : World) : Prop := ∃ m, w.cell? ⟨Tryz.lays145_ren.g 1, 0, none⟩ = some (.int .i64 m)
theorem MaxAt.below {w w' : World} (h : MaxAt w) (hb : Below w.heap.size w w') : MaxAt w' := by
  obtain ⟨m, hm⟩ := h
  exact ⟨m, by rw [hb.cell (World.block_lt_of_cell? w _ hm)]; exact hm⟩
theorem max_of {W : World} (h : W.ShapedOpen Tryz.prog) : MaxAt W := Tryz.laysM145.s1_3 W h
/-- A text cut at another one. -/
def cutF (s sep : List UInt8) : List UInt8 × List UInt8 × Bool := Lib.cut s sep
def cutV (c : List UInt8 × List UInt8 × Bool) : Value := .tuple #[S c.1, S c.2.1, .bool c.2.2]
theorem cut_any (s sep : List UInt8) (hs : s.length ≤ 100000) (w : World) (hm : MaxAt w) : Calls Tryz.prog 29 #[S s, S sep] w fun e w' => e = .returned (cutV (cutF s sep)) ∧ Below w.heap.size w w' := by
  obtain ⟨m, hm⟩ := hm
  refine (Tryz.strings_Cut ⟨s.toArray⟩ ⟨sep.toArray⟩ m w (by have := S_size s; omega) hm).mono ?_
  rintro e w' ⟨rfl, n, rfl⟩
  exact ⟨rfl, ⟨rfl, rfl, rfl, Nat.le_refl _, fun _ _ => rfl⟩⟩
theorem cut_end (s : List UInt8) : cutF s [13, 10, 13, 10] = match endF s with
    | none => (s, [], false)
    | some e => (s.take (e - 4), s.drop e, true) := by
  have hge := Lib.index_ge s [13, 10, 13, 10]
  rw [endF_index]
  unfold cutF Lib.cut
  by_cases h : Lib.index s [13, 10, 13, 10] = -1
  · rw [if_pos h, if_neg (by omega)]
  · rw [if_neg h, if_pos (by omega)]
    rfl
theorem cut_line (s : List UInt8) : (∃ l r, cutF s [13, 10] = (l, r, true) ∧ (∀ cur, lnsF cur s = (cur ++ l) :: lnsF [] r) ∧ l.length + r.length + 2 = s.length) ∨ (cutF s [13, 10] = (s, [], false) ∧ ∀ cur, lnsF cur s = [cur ++ s]) := by
  have hge := Lib.index_ge s [13, 10]
  by_cases h : Lib.index s [13, 10] = -1
  · right
    refine ⟨?_, fun cur => (lns_index s cur).1 h⟩
    unfold cutF Lib.cut
    rw [if_neg (by omega)]
  · left
    obtain ⟨i, hi⟩ : ∃ i : Nat, Lib.index s [13, 10] = i := ⟨(Lib.index s [13, 10]).toNat, by omega⟩
    have hle : i + 2 ≤ s.length := by
      have := Lib.index_room s [13, 10] (by omega)
      have h2 : ([13, 10] : List UInt8).length = 2 := rfl
      rw [h2] at this
      omega
    refine ⟨s.take i, s.drop (i + 2), ?_, fun cur => (lns_index s cur).2 i hi, by rw [List.length_take, List.length_drop]; omega⟩
    unfold cutF Lib.cut
    rw [hi, if_pos (by omega)]
    rfl
/-- Few digits: a number. -/
theorem dec_from : ∀ (s : List UInt8) (n : Nat), s.all dgtB = true → Lib.decFrom n s = szGo n s
  | [], n, _ => rfl
  | c :: r, n, h => by
    rw [List.all_cons, Bool.and_eq_true] at h
    obtain ⟨h1, h2⟩ := h
    unfold dgtB at h1
    rw [Bool.and_eq_true, decide_eq_true_eq, decide_eq_true_eq] at h1
    have hd : Lib.digitVal c = some (c.toNat - 48) := by unfold Lib.digitVal; rw [if_pos h1]
    rw [Lib.decFrom, hd, szGo, if_pos h1, Nat.mul_comm]
    exact dec_from r _ h2
theorem atoi_dig {s : List UInt8} (h0 : s ≠ []) (hd : s.all dgtB = true) : Lib.atoi s = some (decN s : Int) := by
  obtain ⟨c, r, rfl⟩ : ∃ c r, s = c :: r := by
    cases s with
    | nil => exact absurd rfl h0
    | cons c r => exact ⟨c, r, rfl⟩
  have hg : ∃ k, szGo 0 (c :: r) = some k := by
    have := (numGo_dig (c :: r) 0).2 hd
    cases hk : szGo 0 (c :: r) with
    | some k => exact ⟨k, rfl⟩
    | none =>
      exfalso
      have hz : ∀ (s : List UInt8) (n : Nat), s.all dgtB = true → szGo n s ≠ none := by
        intro s
        induction s with
        | nil => intro n _ e; cases e
        | cons c r ih =>
          intro n h
          rw [List.all_cons, Bool.and_eq_true] at h
          obtain ⟨h1, h2⟩ := h
          unfold dgtB at h1
          rw [Bool.and_eq_true, decide_eq_true_eq, decide_eq_true_eq] at h1
          rw [szGo, if_pos h1]
          exact ih _ h2
      exact hz _ _ hd hk
  obtain ⟨k, hk⟩ := hg
  have hdf := dec_from (c :: r) 0 hd
  rw [hk] at hdf
  have hc : 48 ≤ c.toNat ∧ c.toNat ≤ 57 := by
    rw [List.all_cons, Bool.and_eq_true] at hd
    have h1 := hd.1
    unfold dgtB at h1
    rw [Bool.and_eq_true, decide_eq_true_eq, decide_eq_true_eq] at h1
    exact h1
  have h43 : c ≠ 43 := by rintro rfl; exact absurd hc.1 (by decide)
  have h45 : c ≠ 45 := by rintro rfl; exact absurd hc.1 (by decide)
  unfold decN
  rw [hk]
  have hdn : Lib.decNat (c :: r) = some k := by unfold Lib.decNat; simpa using hdf
  unfold Lib.atoi
  simp [h43, h45, hdn]
theorem atoi_any (s : List UInt8) (h0 : s ≠ []) (h6 : s.length ≤ 6) (hd : s.all dgtB = true) (w : World) : Calls Tryz.prog 48 #[S s] w fun e w' => e = .returned (.tuple #[.int .i64 (decN s : Int), .nilIface]) ∧ Below w.heap.size w w' := by
  refine (Tryz.strconv_Atoi ⟨s.toArray⟩ (decN s : Int) (by have := S_size s; omega) (atoi_dig h0 hd) w).mono ?_
  rintro e w' ⟨rfl, t, rfl⟩
  exact ⟨rfl, Lib.bytesWorld_below _ _ _⟩
/-- Writing to a builder, laid by hand: one of its types is named in no body, so no list tells its number. -/
def lays166_ren : Go.Shelf.Ren := ⟨fun | 166 => 17 | 240 => 35 | 276 => 49 | n => n, fun | 0 => 0 | 3 => 3 | 4 => 4 | 9 => 9 | 20 => 20 | 37 => 43 | 70 => 42 | 72 => 45 | 75 => 47 | 164 => 81 | 5 => 5 | 80 => 52 | n => n, fun n => n⟩
theorem lays166 : Go.Proofs.Lays.n166 Tryz.prog lays166_ren := {
  mixed := by kernel_rfl
  f166 := Tryz.func17.trans (congrArg some (by kernel_rfl))
  f240 := Tryz.func35.trans (congrArg some (by kernel_rfl))
  f276 := Tryz.func49.trans (congrArg some (by kernel_rfl))
  t0 := Tryz.underlying0
  a0 := Tryz.isAgg0
  z0 := Tryz.sizeOf0
  v0 := Tryz.zeroValue0
  t3 := Tryz.underlying3
  a3 := Tryz.isAgg3
  z3 := Tryz.sizeOf3
  v3 := Tryz.zeroValue3
  t4 := Tryz.underlying4
  a4 := Tryz.isAgg4
  z4 := Tryz.sizeOf4
  v4 := Tryz.zeroValue4
  t9 := Tryz.underlying9
  a9 := Tryz.isAgg9
  z9 := Tryz.sizeOf9
  v9 := Tryz.zeroValue9
  t20 := Tryz.underlying20
  a20 := Tryz.isAgg20
  z20 := Tryz.sizeOf20
  v20 := Tryz.zeroValue20
  t37 := Tryz.underlying43
  a37 := Tryz.isAgg43
  z37 := Tryz.sizeOf43
  v37 := Tryz.zeroValue43
  t70 := Tryz.underlying42
  a70 := Tryz.isAgg42
  z70 := Tryz.sizeOf42
  v70 := Tryz.zeroValue42
  t72 := Tryz.underlying45
  a72 := Tryz.isAgg45
  z72 := Tryz.sizeOf45
  v72 := Tryz.zeroValue45
  t75 := Tryz.underlying47
  a75 := Tryz.isAgg47
  z75 := Tryz.sizeOf47
  v75 := Tryz.zeroValue47
  t164 := Tryz.underlying81
  a164 := Tryz.isAgg81
  z164 := Tryz.sizeOf81
  v164 := Tryz.zeroValue81 }
theorem extra166 : Builder.Extra Tryz.prog lays166_ren := {
  sizeBuilder := by kernel_rfl
  liesBuilder := by kernel_rfl
  t5 := Tryz.underlying5
  a5 := Tryz.isAgg5
  z5 := Tryz.sizeOf5
  v5 := Tryz.zeroValue5
  infoByte := by kernel_rfl
  cellsByte := by kernel_rfl
  sizeByte := by kernel_rfl
  neB5 := by decide }
/-- A text that is built: in block g there is a builder with x in it. -/
def Bld (g : Nat) (x : List UInt8) (w : World) : Prop := Lib.IsBuilder 45 5 g g (Lib.byteCells x) w
theorem bld_new (w : World) : Bld w.heap.size [] (w.alloc (.cells #[.pointer none, .slice none 0 0] 45)) := Lib.fresh_isBuilder _ _ w
theorem Bld.lt {g : Nat} {x : List UInt8} {w : World} (h : Bld g x w) : g < w.heap.size := by
  rcases h with h | h
  · exact h.lt
  · exact h.lt
theorem Bld.below {g : Nat} {x : List UInt8} {w w' : World} (h : Bld g x w) (hb : Below w.heap.size w w') : Bld g x w' := by
  have one : ∀ p, Lib.BuilderAt 45 5 g g p (Lib.byteCells x) w → Lib.BuilderAt 45 5 g g p (Lib.byteCells x) w' := by
    rintro p ⟨h1, v, h2, h3, h4⟩
    exact ⟨h1, v, by rw [hb.block g (Array.getElem?_eq_some_iff.1 h2).1]; exact h2, own_below h3 hb, h4⟩
  rcases h with h | h
  · exact .inl (one _ h)
  · exact .inr (one _ h)
theorem wstr_any (g : Nat) (x s : List UInt8) (hl : x.length + s.length ≤ 1000000) (w : World) (h : Bld g x w) : Calls Tryz.prog 17 #[.pointer (some ⟨g, 0, none⟩), S s] w fun e w' => e = .returned (.tuple #[.int .i64 (s.length : Int), .nilIface]) ∧ Bld g (x ++ s) w' ∧ Below g w w' := by
  have hz := S_size s
  refine (Any.Builder_WriteString lays166 extra166 g g (Lib.byteCells x) ⟨s.toArray⟩ w h (by rw [Lib.byteCells_length]; omega) (Nat.le_of_lt h.lt)).mono ?_
  rintro e w' ⟨rfl, h1, h2⟩
  refine ⟨by rw [hz], .inr ?_, h2⟩
  rw [Lib.byteCells_append]
  exact h1
theorem bstr_any (g : Nat) (x : List UInt8) (w : World) (h : Bld g x w) : Calls Tryz.prog 21 #[.pointer (some ⟨g, 0, none⟩)] w fun e w' => e = .returned (S x) ∧ Below g w w' :=
  Tryz.Builder_String_any g g x w h (Nat.le_of_lt h.lt)
end Go.Proofs.YtfdbmbgpcioogaaGreatDoor
/- The landed field.Alike walked. (mkrw3.py writes it.) -/
namespace Go.Proofs.YtfdbmbgpcioogaaGreatDoor
open Go.RowKit
attribute [local go_sem] store_one S_match S_store eguard_BN nguard_BN

set_option maxRecDepth 100000 in
set_option maxHeartbeats 400000 in
theorem small_any (c : UInt8) (w : World) : Calls Tryz.prog 54 #[B c] w fun e w' => e = .returned (B (lowB c)) ∧ w' = w := by
  have h1 := B_geq 5 c 65
  have h2 := B_leq 5 c 90
  by_cases ha : 65 ≤ c.toNat
  · by_cases hb : c.toNat ≤ 90
    · have hl : lowB c = c + 32 := by unfold lowB; rw [if_pos ⟨ha, hb⟩]
      have h3 := B_sub65 5 c ha
      have h4 := add97 5 c ha hb
      rw [decide_eq_true (by omega)] at h1 h2
      rw [hl]
      generalize hz : (c.toNat : Int) - 65 = z at h3 h4
      clear hl ha hb hz
      go_enter Tryz.func54, Tryz.ntmps54
      go_wp2
      go_ret
      exact ⟨rfl, rfl⟩
    · have hl : lowB c = c := by unfold lowB; rw [if_neg (fun h => hb h.2)]
      rw [decide_eq_true (by omega)] at h1
      rw [decide_eq_false (by omega)] at h2
      rw [hl]
      clear hl ha hb
      go_enter Tryz.func54, Tryz.ntmps54
      go_wp2
      go_ret
      exact ⟨rfl, rfl⟩
  · have hl : lowB c = c := by unfold lowB; rw [if_neg (fun h => ha h.1)]
    rw [decide_eq_false (by omega)] at h1
    rw [hl]
    clear hl ha h2
    go_enter Tryz.func54, Tryz.ntmps54
    go_wp2
    go_ret
    exact ⟨rfl, rfl⟩
set_option maxRecDepth 100000 in
set_option maxHeartbeats 400000 in
theorem alike16_any (a b : List UInt8) (ha : a.length ≤ 100000) (_hb : b.length ≤ 100000) (w : World) : Calls Tryz.prog 38 #[S a, S b] w fun e w' => e = .returned (.bool (alikeF a b)) ∧ Drawn w w' := by
  have hla := run_len_S (P := Tryz.prog) Tryz.underlying9 3 a
  have hlb := run_len_S (P := Tryz.prog) Tryz.underlying9 3 b
  have HC : Hid (∀ z w, Calls Tryz.prog 54 #[B z] w fun e w' => e = .returned (.int .u8 ((lowB z).toNat : Int)) ∧ Drawn w w') := Lib.hid fun z w => (small_any z w).mono (by rintro e w' ⟨he, rfl⟩; exact ⟨he, Drawn.refl _⟩)
  by_cases hne : a.length = b.length
  · have hq : ((a.length : Int) != (b.length : Int)) = false := by rw [hne]; simp
    have hq' : (a.length != b.length) = false := by rw [hne]; simp
    obtain ⟨L, hL⟩ : ∃ L, L = a.length := ⟨_, rfl⟩
    rw [← hne, ← hL] at hlb
    rw [← hL] at hla
    have HL := Lib.hid (And.intro hL hne)
    rw [← hL] at ha
    clear hq hq' hL hne
    have hq : ((L : Int) != (L : Int)) = false := by simp
    go_enter Tryz.func38, Tryz.ntmps38
    go_wp2
    go_loopw [13] (fun iv wr => ∃ i : Nat, i ≤ L ∧ iv = .int .i64 (i : Int) ∧ Drawn w wr ∧ (a.take i).map lowB = (b.take i).map lowB) (fun iv _ => L - (intOf iv).toNat)
    case atStart => exact ⟨0, Nat.zero_le _, rfl, Drawn.refl _, rfl⟩
    case round =>
      obtain ⟨i, hi, rfl, hD, hm⟩ := hrel
      by_cases hlt : i < L
      · obtain ⟨x, hx⟩ : ∃ x, a[i]? = some x := ⟨a[i]'(by have := HL.out.1; omega), List.getElem?_eq_getElem _⟩
        obtain ⟨y, hy⟩ : ∃ y, b[i]? = some y := ⟨b[i]'(by have := HL.out; omega), List.getElem?_eq_getElem _⟩
        have hix : ∀ w, (Instr.index 9 (S a) (.int .i64 (i : Int))).run Tryz.prog w = .ok (B x) w := fun w => index_S (P := Tryz.prog) Tryz.underlying9 a i x hx w
        have hiy : ∀ w, (Instr.index 9 (S b) (.int .i64 (i : Int))).run Tryz.prog w = .ok (B y) w := fun w => index_S (P := Tryz.prog) Tryz.underlying9 b i y hy w
        have hn := neqN (lowB x) (lowB y)
        by_cases he : lowB x = lowB y
        · have HN := Lib.hid (And.intro hD (map_take_next hx hy hm he))
          rw [beq_iff_eq.2 he, Bool.not_true] at hn
          clear hD hm hx hy he
          go_wp2
          go_quiet (first | (go_at_call 54; exact Calls.quiet_of (HC.out _ _)))
          go_wp2
          exact ⟨⟨i + 1, by omega, by go_num, HN.out.1.trans ⟨_, rfl⟩, HN.out.2⟩, by simp [intOf]; omega⟩
        · have HN := Lib.hid (And.intro hD (alike_stop hx hy he))
          rw [beq_eq_false_iff_ne.2 he, Bool.not_false] at hn
          clear hD hm hx hy he
          go_wp2
          go_quiet (first | (go_at_call 54; exact Calls.quiet_of (HC.out _ _)))
          go_wp2
          go_ret
          exact ⟨by rw [HN.out.2]; rfl, HN.out.1.trans ⟨_, rfl⟩⟩
      · obtain rfl : i = L := by omega
        have HN : Hid (Drawn w wr ∧ alikeF a b = true) := Lib.hid ⟨hD, by
          rw [List.take_of_length_le (by have := HL.out.1; omega), List.take_of_length_le (by have := HL.out; omega)] at hm
          unfold alikeF; rw [hm]; simp⟩
        clear hm hD
        go_wp2
        go_ret
        exact ⟨by rw [HN.out.2]; rfl, HN.out.1⟩
  · have hq : ((a.length : Int) != (b.length : Int)) = true := by rw [bne_iff_ne]; omega
    have hq' : (a.length != b.length) = true := by rw [bne_iff_ne]; exact hne
    have HN := Lib.hid (alike_len hne)
    clear hne
    go_enter Tryz.func38, Tryz.ntmps38
    go_wp2
    go_ret
    exact ⟨by rw [HN.out]; rfl, Drawn.refl _⟩
end Go.Proofs.YtfdbmbgpcioogaaGreatDoor
/- The landed Reason, bare, isOwn, isField, Right walked. (mkpx3.py writes it.) -/
namespace Go.Proofs.YtfdbmbgpcioogaaGreatDoor
open Go.RowKit
attribute [local go_sem] store_one S_match S_store eguard_BN nguard_BN

set_option maxRecDepth 100000 in
set_option maxHeartbeats 1000000 in
theorem reason_any (c : Int) (w : World) : Calls Tryz.prog 11 #[.int .i64 c] w fun e w' => e = .returned (S (rsnF c)) ∧ w' = w := by
  by_cases h : c = 101
  case pos =>
    have g0 : (c == 101) = true := beq_iff_eq.2 h
    have HP : Hid (rsnF c = [83, 119, 105, 116, 99, 104, 105, 110, 103, 32, 80, 114, 111, 116, 111, 99, 111, 108, 115]) := Lib.hid (by unfold rsnF; rw [if_pos h])
    clear h
    go_enter Tryz.func11, Tryz.ntmps11
    go_wp2
    go_ret
    exact ⟨by rw [HP.out]; rfl, rfl⟩
  have H0 := Lib.hid h
  have g0 : (c == 101) = false := beq_eq_false_iff_ne.2 h
  clear h
  by_cases h : c = 200
  case pos =>
    have g1 : (c == 200) = true := beq_iff_eq.2 h
    have HP : Hid (rsnF c = [79, 75]) := Lib.hid (by unfold rsnF; rw [if_neg H0.out, if_pos h])
    clear h
    go_enter Tryz.func11, Tryz.ntmps11
    go_wp2
    go_ret
    exact ⟨by rw [HP.out]; rfl, rfl⟩
  have H1 := Lib.hid h
  have g1 : (c == 200) = false := beq_eq_false_iff_ne.2 h
  clear h
  by_cases h : c = 400
  case pos =>
    have g2 : (c == 400) = true := beq_iff_eq.2 h
    have HP : Hid (rsnF c = [66, 97, 100, 32, 82, 101, 113, 117, 101, 115, 116]) := Lib.hid (by unfold rsnF; rw [if_neg H0.out, if_neg H1.out, if_pos h])
    clear h
    go_enter Tryz.func11, Tryz.ntmps11
    go_wp2
    go_ret
    exact ⟨by rw [HP.out]; rfl, rfl⟩
  have H2 := Lib.hid h
  have g2 : (c == 400) = false := beq_eq_false_iff_ne.2 h
  clear h
  by_cases h : c = 403
  case pos =>
    have g3 : (c == 403) = true := beq_iff_eq.2 h
    have HP : Hid (rsnF c = [70, 111, 114, 98, 105, 100, 100, 101, 110]) := Lib.hid (by unfold rsnF; rw [if_neg H0.out, if_neg H1.out, if_neg H2.out, if_pos h])
    clear h
    go_enter Tryz.func11, Tryz.ntmps11
    go_wp2
    go_ret
    exact ⟨by rw [HP.out]; rfl, rfl⟩
  have H3 := Lib.hid h
  have g3 : (c == 403) = false := beq_eq_false_iff_ne.2 h
  clear h
  by_cases h : c = 404
  case pos =>
    have g4 : (c == 404) = true := beq_iff_eq.2 h
    have HP : Hid (rsnF c = [78, 111, 116, 32, 70, 111, 117, 110, 100]) := Lib.hid (by unfold rsnF; rw [if_neg H0.out, if_neg H1.out, if_neg H2.out, if_neg H3.out, if_pos h])
    clear h
    go_enter Tryz.func11, Tryz.ntmps11
    go_wp2
    go_ret
    exact ⟨by rw [HP.out]; rfl, rfl⟩
  have H4 := Lib.hid h
  have g4 : (c == 404) = false := beq_eq_false_iff_ne.2 h
  clear h
  by_cases h : c = 405
  case pos =>
    have g5 : (c == 405) = true := beq_iff_eq.2 h
    have HP : Hid (rsnF c = [77, 101, 116, 104, 111, 100, 32, 78, 111, 116, 32, 65, 108, 108, 111, 119, 101, 100]) := Lib.hid (by unfold rsnF; rw [if_neg H0.out, if_neg H1.out, if_neg H2.out, if_neg H3.out, if_neg H4.out, if_pos h])
    clear h
    go_enter Tryz.func11, Tryz.ntmps11
    go_wp2
    go_ret
    exact ⟨by rw [HP.out]; rfl, rfl⟩
  have H5 := Lib.hid h
  have g5 : (c == 405) = false := beq_eq_false_iff_ne.2 h
  clear h
  by_cases h : c = 413
  case pos =>
    have g6 : (c == 413) = true := beq_iff_eq.2 h
    have HP : Hid (rsnF c = [67, 111, 110, 116, 101, 110, 116, 32, 84, 111, 111, 32, 76, 97, 114, 103, 101]) := Lib.hid (by unfold rsnF; rw [if_neg H0.out, if_neg H1.out, if_neg H2.out, if_neg H3.out, if_neg H4.out, if_neg H5.out, if_pos h])
    clear h
    go_enter Tryz.func11, Tryz.ntmps11
    go_wp2
    go_ret
    exact ⟨by rw [HP.out]; rfl, rfl⟩
  have H6 := Lib.hid h
  have g6 : (c == 413) = false := beq_eq_false_iff_ne.2 h
  clear h
  by_cases h : c = 426
  case pos =>
    have g7 : (c == 426) = true := beq_iff_eq.2 h
    have HP : Hid (rsnF c = [85, 112, 103, 114, 97, 100, 101, 32, 82, 101, 113, 117, 105, 114, 101, 100]) := Lib.hid (by unfold rsnF; rw [if_neg H0.out, if_neg H1.out, if_neg H2.out, if_neg H3.out, if_neg H4.out, if_neg H5.out, if_neg H6.out, if_pos h])
    clear h
    go_enter Tryz.func11, Tryz.ntmps11
    go_wp2
    go_ret
    exact ⟨by rw [HP.out]; rfl, rfl⟩
  have H7 := Lib.hid h
  have g7 : (c == 426) = false := beq_eq_false_iff_ne.2 h
  clear h
  by_cases h : c = 431
  case pos =>
    have g8 : (c == 431) = true := beq_iff_eq.2 h
    have HP : Hid (rsnF c = [82, 101, 113, 117, 101, 115, 116, 32, 72, 101, 97, 100, 101, 114, 32, 70, 105, 101, 108, 100, 115, 32, 84, 111, 111, 32, 76, 97, 114, 103, 101]) := Lib.hid (by unfold rsnF; rw [if_neg H0.out, if_neg H1.out, if_neg H2.out, if_neg H3.out, if_neg H4.out, if_neg H5.out, if_neg H6.out, if_neg H7.out, if_pos h])
    clear h
    go_enter Tryz.func11, Tryz.ntmps11
    go_wp2
    go_ret
    exact ⟨by rw [HP.out]; rfl, rfl⟩
  have H8 := Lib.hid h
  have g8 : (c == 431) = false := beq_eq_false_iff_ne.2 h
  clear h
  have HP : Hid (rsnF c = [83, 116, 97, 116, 117, 115]) := Lib.hid (by unfold rsnF; rw [if_neg H0.out, if_neg H1.out, if_neg H2.out, if_neg H3.out, if_neg H4.out, if_neg H5.out, if_neg H6.out, if_neg H7.out, if_neg H8.out])
  go_enter Tryz.func11, Tryz.ntmps11
  go_wp2
  go_ret
  exact ⟨by rw [HP.out]; rfl, rfl⟩
set_option maxRecDepth 100000 in
set_option maxHeartbeats 400000 in
theorem bare10_any (c : Int) (w : World) : Calls Tryz.prog 20 #[.int .i64 c] w fun e w' => e = .returned (.bool (nobB c)) ∧ w' = w := by
  by_cases h0 : c < 200
  · have g0 : decide (c < 200) = true := decide_eq_true h0
    have HP : Hid (nobB c = true) := Lib.hid (by unfold nobB; rw [g0]; rfl)
    clear h0
    go_enter Tryz.func20, Tryz.ntmps20
    go_wp2
    go_ret
    exact ⟨by rw [HP.out]; rfl, rfl⟩
  · have g0 : decide (c < 200) = false := decide_eq_false h0
    have HG := Lib.hid g0
    clear h0
    by_cases h1 : c = 204
    · have g1 : (c == 204) = true := beq_iff_eq.2 h1
      have HP : Hid (nobB c = true) := Lib.hid (by unfold nobB; rw [g1]; simp)
      clear h1
      go_enter Tryz.func20, Tryz.ntmps20
      go_wp2
      go_ret
      exact ⟨by rw [HP.out]; rfl, rfl⟩
    · have g1 : (c == 204) = false := beq_eq_false_iff_ne.2 h1
      have HG1 := Lib.hid g1
      clear h1
      have HP : Hid (nobB c = (c == 304)) := Lib.hid (by unfold nobB; rw [HG.out, HG1.out]; rfl)
      go_enter Tryz.func20, Tryz.ntmps20
      go_wp2
      go_ret
      exact ⟨by rw [HP.out]; rfl, rfl⟩
set_option maxRecDepth 100000 in
set_option maxHeartbeats 400000 in
theorem unended_any (s : List UInt8) (hs : s.length ≤ 1000000) (w : World) : Calls Tryz.prog 30 #[S s] w fun e w' => e = .returned (.int .i64 (if s.length < 65536 then 7 else 8)) ∧ w' = w := by
  have hlen := run_len_S (P := Tryz.prog) Tryz.underlying9 3 s
  obtain ⟨L, hL⟩ : ∃ L, L = s.length := ⟨_, rfl⟩
  rw [← hL] at hlen hs ⊢
  clear hL
  by_cases h : L < 65536
  · have g : decide ((L : Int) < 65536) = true := decide_eq_true (by omega)
    have HP : Hid ((if L < 65536 then (7 : Int) else 8) = 7) := Lib.hid (if_pos h)
    rw [HP.out]
    clear h
    go_enter Tryz.func30, Tryz.ntmps30
    go_wp2
    go_ret
    exact ⟨rfl, rfl⟩
  · have g : decide ((L : Int) < 65536) = false := decide_eq_false (by omega)
    have HP : Hid ((if L < 65536 then (7 : Int) else 8) = 8) := Lib.hid (if_neg h)
    rw [HP.out]
    clear h
    go_enter Tryz.func30, Tryz.ntmps30
    go_wp2
    go_ret
    exact ⟨rfl, rfl⟩
theorem drawn_below2 {w w' : World} (h : Drawn w w') : Below w.heap.size w w' := by obtain ⟨m, rfl⟩ := h; exact ⟨rfl, rfl, rfl, Nat.le_refl _, fun _ _ => rfl⟩
theorem alike_bel2 (a b : List UInt8) (ha : a.length ≤ 100000) (hb : b.length ≤ 100000) (w : World) : Calls Tryz.prog 38 #[S a, S b] w fun e w' => e = .returned (.bool (alikeF a b)) ∧ Below w.heap.size w w' :=
  (alike16_any a b ha hb w).mono (by rintro e w' ⟨he, hd⟩; exact ⟨he, drawn_below2 hd⟩)
set_option maxRecDepth 100000 in
set_option maxHeartbeats 1000000 in
theorem isown_any (n : List UInt8) (c : Int) (hn : n.length ≤ 100000) (w : World) : Calls Tryz.prog 25 #[S n, .int .i64 c] w fun e w' => e = .returned (.bool (ownB n c)) ∧ Below w.heap.size w w' := by
  have HA1 := Lib.hid fun w => alike_bel2 n clU hn (by decide) w
  have HA2 := Lib.hid fun w => alike_bel2 n teU hn (by decide) w
  have HA3 := Lib.hid fun w => alike_bel2 n coU hn (by decide) w
  have HO : Hid (ownB n c = (alikeF n clU || (alikeF n teU || (!(c == 101) && alikeF n coU)))) := Lib.hid rfl
  rw [HO.out]
  obtain ⟨x1, hx1⟩ : ∃ x, x = alikeF n clU := ⟨_, rfl⟩
  obtain ⟨x2, hx2⟩ : ∃ x, x = alikeF n teU := ⟨_, rfl⟩
  obtain ⟨x3, hx3⟩ : ∃ x, x = alikeF n coU := ⟨_, rfl⟩
  rw [← hx1, ← hx2, ← hx3]
  rw [← hx1] at HA1
  rw [← hx2] at HA2
  rw [← hx3] at HA3
  clear hx1 hx2 hx3 HO hn
  go_enter Tryz.func25, Tryz.ntmps25
  cases x1 with
  | true =>
    go_wp2_with fail
    refine (HA1.out _).mono ?_
    rintro e W1 ⟨rfl, hB1⟩
    go_wp2
    go_ret
    exact ⟨rfl, hB1⟩
  | false =>
  cases x2 with
  | true =>
    go_wp2_with fail
    refine (HA1.out _).mono ?_
    rintro e W1 ⟨rfl, hB1⟩
    go_wp2_with fail
    refine (HA2.out _).mono ?_
    rintro e W2 ⟨rfl, hB2⟩
    have HB := Lib.hid (hB1.trans (hB2.mono hB1.size))
    clear hB1 hB2
    go_wp2
    go_ret
    exact ⟨rfl, HB.out⟩
  | false =>
  by_cases h : c = 101
  · have g : (c == 101) = true := beq_iff_eq.2 h
    have g' : (c != 101) = false := by rw [bne, g]; rfl
    clear h
    go_wp2_with fail
    refine (HA1.out _).mono ?_
    rintro e W1 ⟨rfl, hB1⟩
    go_wp2_with fail
    refine (HA2.out _).mono ?_
    rintro e W2 ⟨rfl, hB2⟩
    have HB := Lib.hid (hB1.trans (hB2.mono hB1.size))
    clear hB1 hB2
    go_wp2
    go_ret
    exact ⟨by rw [g]; rfl, HB.out⟩
  · have g : (c == 101) = false := beq_eq_false_iff_ne.2 h
    have g' : (c != 101) = true := by rw [bne, g]; rfl
    clear h
    go_wp2_with fail
    refine (HA1.out _).mono ?_
    rintro e W1 ⟨rfl, hB1⟩
    go_wp2_with fail
    refine (HA2.out _).mono ?_
    rintro e W2 ⟨rfl, hB2⟩
    have HB := Lib.hid (hB1.trans (hB2.mono hB1.size))
    clear hB1 hB2
    go_wp2_with fail
    refine (HA3.out _).mono ?_
    rintro e W3 ⟨rfl, hB3⟩
    have HB3 := Lib.hid (HB.out.trans (hB3.mono HB.out.size))
    clear hB3 HB
    go_wp2
    go_ret
    exact ⟨by rw [g]; rfl, HB3.out⟩
theorem eq_text11 (p q : List UInt8) (w : World) : (Op.equalIn 9999 9 (S p) (S q)).run Tryz.prog w = .ok (p == q) w := by
  have e : ((⟨p.toArray⟩ : ByteArray).toList == (⟨q.toArray⟩ : ByteArray).toList) = (p == q) := by simp
  unfold S
  rw [run_equalIn_string w 9998 9 _ _ Tryz.underlying9]
  first | rw [e] | (congr 1)
set_option maxRecDepth 100000 in
set_option maxHeartbeats 1000000 in
theorem isfield_any (n u : List UInt8) (hn : n.length + u.length ≤ 99999) (w : World) : Calls Tryz.prog 24 #[.agg #[S n, S u]] w fun e w' => e = .returned (.bool (parseF (n ++ 58 :: u) == (n, u, true))) ∧ Below w.heap.size w w' := by
  obtain ⟨b1, hb1⟩ : ∃ b, b = w.heap.size := ⟨_, rfl⟩
  obtain ⟨W1, hW1⟩ : ∃ W, W = w.alloc (.cells #[S n, S u] 35) := ⟨_, rfl⟩
  have hB1 : Below w.heap.size w W1 := by rw [hW1]; exact (Below.refl _ w).alloc (Nat.le_refl _) _
  have hr1 : Row W1 b1 #[S n, S u] 35 := by rw [hW1, hb1]; exact row_new _ _ _
  have HH := Lib.hid (And.intro hB1 hr1)
  have c0 : W1.cell? ⟨b1, 0, none⟩ = some (S n) := cell_of_row W1 _ 0 _ _ (0, 0) hr1
  have c1 : W1.cell? ⟨b1, 1, none⟩ = some (S u) := cell_of_row W1 _ 1 _ _ (0, 0) hr1
  have z1 : binOp .add 9 (S n) (.string ⟨#[58]⟩) = pure (S (n ++ [58])) := S_add 9 n [58] (by simp; omega)
  obtain ⟨Z1, hZ1⟩ : ∃ X, X = n ++ [58] := ⟨_, rfl⟩
  rw [← hZ1] at z1
  have z2 : binOp .add 9 (S Z1) (S u) = pure (S (Z1 ++ u)) := S_add 9 Z1 u (by rw [hZ1, List.length_append]; simp; omega)
  obtain ⟨Z2, hZ2⟩ : ∃ X, X = Z1 ++ u := ⟨_, rfl⟩
  rw [← hZ2] at z2
  have hZ : n ++ 58 :: u = Z2 := by rw [hZ2, hZ1]; simp
  rw [hZ]
  have hps := fun w => parse10_any Z2 (by rw [hZ2, hZ1, List.length_append, List.length_append]; simp; omega) w
  obtain ⟨⟨pn, pv, fine⟩, hP⟩ : ∃ x, x = parseF Z2 := ⟨_, rfl⟩
  rw [← hP] at hps ⊢
  unfold parseV at hps
  dsimp only at hps
  have HPS := Lib.hid hps
  have q1 := eq_text11 pn n
  have q2 := eq_text11 pv u
  clear hps hP hZ hZ1 hZ2 hB1 hr1 hn
  have hR : ((pn, pv, fine) == (n, u, true)) = (fine && ((pn == n) && (pv == u))) := by
    rw [Bool.eq_iff_iff]
    simp only [beq_iff_eq, Prod.mk.injEq, Bool.and_eq_true]
    exact ⟨fun ⟨a, b, c⟩ => ⟨c, a, b⟩, fun ⟨c, a, b⟩ => ⟨a, b, c⟩⟩
  rw [hR]
  obtain ⟨O, hO⟩ : ∃ O, O = (fine && ((pn == n) && (pv == u))) := ⟨_, rfl⟩
  rw [← hO]
  have HO := Lib.hid hO
  clear hO hR
  go_enter Tryz.func24, Tryz.ntmps24
  go_wp2_with fail
  all_goals try rw [← hW1, ← hb1]
  clear hW1 hb1
  refine (HPS.out _).mono ?_
  rintro e W2 ⟨rfl, hB⟩
  have hB3 : Below W1.heap.size W1 (W2.alloc (.cells #[S pn, S pv] 35)) := hB.alloc hB.size _
  have hr3 : Row (W2.alloc (.cells #[S pn, S pv] 35)) W2.heap.size #[S pn, S pv] 35 := row_new _ _ _
  have hr1 := HH.out.2.below hB3 HH.out.2.lt
  have e0 : (W2.alloc (.cells #[S pn, S pv] 35)).cell? ⟨b1, 0, none⟩ = some (S n) := cell_of_row _ _ 0 _ _ (0, 0) hr1
  have e1 : (W2.alloc (.cells #[S pn, S pv] 35)).cell? ⟨b1, 1, none⟩ = some (S u) := cell_of_row _ _ 1 _ _ (0, 0) hr1
  have f0 : (W2.alloc (.cells #[S pn, S pv] 35)).cell? ⟨W2.heap.size, 0, none⟩ = some (S pn) := cell_of_row _ _ 0 _ _ (0, 0) hr3
  have f1 : (W2.alloc (.cells #[S pn, S pv] 35)).cell? ⟨W2.heap.size, 1, none⟩ = some (S pv) := cell_of_row _ _ 1 _ _ (0, 0) hr3
  have HB := Lib.hid (HH.out.1.trans (hB3.mono HH.out.1.size))
  clear hB hB3 hr3 hr1 c0 c1
  cases fine with
  | false =>
    go_wp2
    go_ret
    exact ⟨by rw [HO.out]; rfl, HB.out⟩
  | true =>
    obtain ⟨x1, hx1⟩ : ∃ x, x = (pn == n) := ⟨_, rfl⟩
    obtain ⟨x2, hx2⟩ : ∃ x, x = (pv == u) := ⟨_, rfl⟩
    have HO2 : Hid (O = (true && (x1 && x2))) := Lib.hid (by rw [HO.out, hx1, hx2])
    rw [← hx1] at q1
    rw [← hx2] at q2
    clear hx1 hx2 HO
    cases x1 with
    | false =>
      go_wp2
      go_ret
      exact ⟨by rw [HO2.out]; rfl, HB.out⟩
    | true =>
      cases x2 with
      | false =>
        go_wp2
        go_ret
        exact ⟨by rw [HO2.out]; rfl, HB.out⟩
      | true =>
        go_wp2
        go_ret
        exact ⟨by rw [HO2.out]; rfl, HB.out⟩
end Go.Proofs.YtfdbmbgpcioogaaGreatDoor
/- The landed Right walked. (mkpx4.py writes it.) -/
namespace Go.Proofs.YtfdbmbgpcioogaaGreatDoor
open Go.RowKit
attribute [local go_sem] store_one S_match S_store eguard_BN nguard_BN

set_option maxRecDepth 100000 in
set_option maxHeartbeats 2000000 in
theorem right_any (c : Int) (fs : List Fld) (body : List UInt8) (V : Value) (b o : Nat) (w : World) (hA : FA w V fs b o) (hl : rpLen fs body ≤ 80000) :
    Calls Tryz.prog 9 #[.agg (rpC c V body)] w fun e w' => e = .returned (.bool (rightB c fs body)) ∧ Below w.heap.size w w' := by
  unfold rpC
  obtain ⟨O, hO⟩ : ∃ O, O = rightB c fs body := ⟨_, rfl⟩
  rw [← hO]
  obtain ⟨b1, hb1⟩ : ∃ b, b = w.heap.size := ⟨_, rfl⟩
  obtain ⟨W1, hW1⟩ : ∃ W, W = w.alloc (.cells #[.int .i64 c, V, S body] 24) := ⟨_, rfl⟩
  have hB1 : Below w.heap.size w W1 := by rw [hW1]; exact (Below.refl _ w).alloc (Nat.le_refl _) _
  have hM1 : RtAt w b1 c V body fs b o W1 := ⟨by rw [hW1, hb1]; exact row_new _ _ _, hA.below hB1, hB1⟩
  have HM := Lib.hid hM1
  have c0 : W1.cell? ⟨b1, 0, none⟩ = some (.int .i64 c) := cell_of_row W1 _ 0 _ _ (0, 0) hM1.row
  have c1 : W1.cell? ⟨b1, 1, none⟩ = some V := cell_of_row W1 _ 1 _ _ (0, 0) hM1.row
  have c2 : W1.cell? ⟨b1, 2, none⟩ = some (S body) := cell_of_row W1 _ 2 _ _ (0, 0) hM1.row
  have hlB := run_len_S (P := Tryz.prog) Tryz.underlying9 3 body
  have hlV := hA.len 3
  obtain ⟨K, hK⟩ : ∃ K, K = body.length := ⟨_, rfl⟩
  obtain ⟨N, hN⟩ : ∃ N, N = fs.length := ⟨_, rfl⟩
  rw [← hK] at hlB
  rw [← hN] at hlV
  have hO2 : O = ((decide (100 ≤ c) && decide (c ≤ 599) && decide (K ≤ 65536)) && ((!(nobB c) || decide (K = 0)) && fs.all (fldOk c))) := by rw [hO, hK]; rfl
  have HO := Lib.hid (And.intro hO2 hO)
  have hcnt := fsLen_count fs
  unfold rpLen at hl
  have HN := Lib.hid (And.intro hN (And.intro hl (show N ≤ 20000 by omega)))
  have hN5 : N ≤ 20000 := by omega
  have HB := Lib.hid fun W => bare10_any c W
  have g4 : binOp .neq 9 (S body) (.string ⟨#[]⟩) = pure (.bool (body != [])) := neql_S 9 body []
  have gg : ∀ x y, eqGuard .neq 9 x y (S body) (.string ⟨#[]⟩) = pure () := fun x y => nguard_S 9 x y body []
  have hg4 : (body != []) = decide (0 < K) := by
    rw [hK]
    cases body with
    | nil => rfl
    | cons x r => simp
  rw [hg4] at g4
  clear hM1 hB1 hA hK hN hO hO2 hl hcnt hg4
  by_cases h0 : c < 100
  case pos =>
    have g0 : decide (c < 100) = true := decide_eq_true h0
    have HP : Hid (O = false) := Lib.hid (by rw [HO.out.1]; rw [decide_eq_false (show ¬ 100 ≤ c by omega)]; simp)
    go_enter Tryz.func9, Tryz.ntmps9
    go_wp2
    all_goals try rw [← hW1]
    go_ret
    exact ⟨by rw [HP.out]; rfl, HM.out.bel⟩
  have g0 : decide (c < 100) = false := decide_eq_false h0
  by_cases h1 : 599 < c
  case pos =>
    have g1 : decide (599 < c) = true := decide_eq_true h1
    have HP : Hid (O = false) := Lib.hid (by rw [HO.out.1]; rw [decide_eq_false (show ¬ c ≤ 599 by omega)]; simp)
    go_enter Tryz.func9, Tryz.ntmps9
    go_wp2
    all_goals try rw [← hW1]
    go_ret
    exact ⟨by rw [HP.out]; rfl, HM.out.bel⟩
  have g1 : decide (599 < c) = false := decide_eq_false h1
  by_cases h2 : 65536 < K
  case pos =>
    have g2 : decide ((65536 : Int) < (K : Int)) = true := decide_eq_true (by omega)
    have HP : Hid (O = false) := Lib.hid (by rw [HO.out.1]; rw [decide_eq_false (show ¬ K ≤ 65536 by omega)]; simp)
    go_enter Tryz.func9, Tryz.ntmps9
    go_wp2
    all_goals try rw [← hW1]
    go_ret
    exact ⟨by rw [HP.out]; rfl, HM.out.bel⟩
  have g2 : decide ((65536 : Int) < (K : Int)) = false := decide_eq_false (by omega)
  have HO3 : Hid (O = ((!(nobB c) || decide (K = 0)) && fs.all (fldOk c))) := Lib.hid (by rw [HO.out.1, decide_eq_true (show 100 ≤ c by omega), decide_eq_true (show c ≤ 599 by omega), decide_eq_true (show K ≤ 65536 by omega)]; rfl)
  obtain ⟨nb, hnb⟩ : ∃ nb, nb = nobB c := ⟨_, rfl⟩
  rw [← hnb] at HB HO3
  clear hnb h0 h1 h2
  cases nb with
  | true =>
    by_cases hk0 : 0 < K
    case pos =>
      have g5 : decide (0 < K) = true := decide_eq_true hk0
      have HP : Hid (O = false) := Lib.hid (by rw [HO3.out, decide_eq_false (show ¬ K = 0 by omega)]; rfl)
      rw [g5] at g4
      clear hk0
      go_enter Tryz.func9, Tryz.ntmps9
      go_wp2_with fail
      all_goals try rw [← hW1, ← hb1]
      clear hW1 hb1
      refine (HB.out _).mono ?_
      rintro e W' ⟨rfl, rfl⟩
      go_wp2
      go_ret
      exact ⟨by rw [HP.out]; rfl, HM.out.bel⟩
    have g5 : decide (0 < K) = false := decide_eq_false hk0
    rw [g5] at g4
    have HOA : Hid (O = fs.all (fldOk c)) := Lib.hid (by rw [HO3.out, decide_eq_true (show K = 0 by omega)]; rfl)
    clear hk0
    go_enter Tryz.func9, Tryz.ntmps9
    go_wp2_with fail
    all_goals try rw [← hW1, ← hb1]
    clear hW1 hb1
    refine (HB.out _).mono ?_
    rintro e W' ⟨rfl, rfl⟩
    go_wp2_with fail
    go_loopw [32] (fun iv wr => ∃ i : Nat, i ≤ N ∧ iv = .int .i64 (i : Int) ∧ Hid (RtAt w b1 c V body fs b o wr ∧ (fs.take i).all (fldOk c) = true)) (fun iv _ => N - (intOf iv).toNat)
    case atStart => exact ⟨0, Nat.zero_le _, rfl, Lib.hid ⟨HM.out, by rw [List.take_zero]; rfl⟩⟩
    case round =>
      obtain ⟨i, hi, rfl, HR⟩ := hrel
      by_cases hlt : i < N
      case neg =>
        obtain rfl : i = N := by omega
        have g3 : decide ((i : Int) < (i : Int)) = false := decide_eq_false (by omega)
        have HP : Hid (O = true) := Lib.hid (by rw [HOA.out]; have h := HR.out.2; rw [HN.out.1, List.take_length] at h; exact h)
        go_wp2
        go_ret
        exact ⟨by rw [HP.out]; rfl, HR.out.1.bel⟩
      have g3 : decide ((i : Int) < (N : Int)) = true := decide_eq_true (by omega)
      obtain ⟨⟨n, u⟩, hf⟩ : ∃ f, fs[i]? = some f := ⟨fs[i]'(by have := HN.out.1; omega), List.getElem?_eq_getElem _⟩
      have hix := HR.out.1.fa.index i (by have := HN.out.1; omega)
      have hcl := HR.out.1.fa.cell i _ hf
      have hfl := fsLen_mem (List.mem_of_getElem? hf)
      have hN2 := HN.out.2.1
      dsimp only at hfl
      have hwi : IntKind.i64.wrap ((i : Int) + 1) = (i : Int) + 1 := by rw [IntKind.wrap_i64]; omega
      obtain ⟨kk, hkk⟩ : ∃ kk, kk = o + i * 2 := ⟨_, rfl⟩
      rw [← hkk] at hix hcl
      have k0 : wr.cell? ⟨b, kk, none⟩ = some (S n) := hcl.1
      have k1 : wr.cell? ⟨b, kk + 1, none⟩ = some (S u) := hcl.2
      have HPS := Lib.hid fun W => isfield_any n u (by omega) W
      have HOW := Lib.hid fun W => isown_any n c (by omega) W
      have HBAD : Hid (fldOk c (n, u) = false → O = false) := Lib.hid fun h => by rw [HO.out.2]; exact right_bad hf h
      have HFO : Hid (fldOk c (n, u) = ((parseF (n ++ 58 :: u) == (n, u, true)) && !ownB n c)) := Lib.hid (fld_own c (n, u))
      have HNX : Hid (fldOk c (n, u) = true → (fs.take (i + 1)).all (fldOk c) = true) := Lib.hid fun h => by
        rw [List.take_add_one, hf, List.all_append, HR.out.2]
        show (true && (fldOk c (n, u) && true)) = true
        rw [h]; rfl
      have HRR := Lib.hid HR.out.1
      obtain ⟨x1, hx1⟩ : ∃ x, x = (parseF (n ++ 58 :: u) == (n, u, true)) := ⟨_, rfl⟩
      obtain ⟨x2, hx2⟩ : ∃ x, x = ownB n c := ⟨_, rfl⟩
      rw [← hx1] at HPS HFO
      rw [← hx2] at HOW HFO
      clear hf hkk hcl HR hx1 hx2 hfl hN2
      obtain ⟨W4, hW4⟩ : ∃ W, W = wr.alloc (.cells #[S n, S u] 35) := ⟨_, rfl⟩
      obtain ⟨b4, hb4⟩ : ∃ b, b = wr.heap.size := ⟨_, rfl⟩
      have hB4 : Below wr.heap.size wr W4 := by rw [hW4]; exact (Below.refl _ wr).alloc (Nat.le_refl _) _
      have hr4 : Row W4 b4 #[S n, S u] 35 := by rw [hW4, hb4]; exact row_new _ _ _
      have H4 := Lib.hid (And.intro (HRR.out.below hB4) hr4)
      have e0 : W4.cell? ⟨b4, 0, none⟩ = some (S n) := cell_of_row _ _ 0 _ _ (0, 0) hr4
      have e1 : W4.cell? ⟨b4, 1, none⟩ = some (S u) := cell_of_row _ _ 1 _ _ (0, 0) hr4
      clear hB4 hr4
      cases x1 with
      | false =>
        go_wp2_with fail
        all_goals try rw [← hW4, ← hb4]
        all_goals try go_wp2_with fail
        clear hW4 hb4 k0 k1 e0 e1
        refine (HPS.out _).mono ?_
        rintro e W5 ⟨rfl, hB⟩
        have HP : Hid (O = false) := Lib.hid (HBAD.out (by rw [HFO.out]; rfl))
        have H5 := Lib.hid (H4.out.1.below hB)
        clear hB
        go_wp2
        go_ret
        exact ⟨by rw [HP.out]; rfl, H5.out.bel⟩
      | true =>
        go_wp2_with fail
        all_goals try rw [← hW4, ← hb4]
        all_goals try go_wp2_with fail
        clear hW4 hb4 k0 k1 e0 e1
        refine (HPS.out _).mono ?_
        rintro e W5 ⟨rfl, hB⟩
        have hr5 := H4.out.2.below hB H4.out.2.lt
        have e0 : W5.cell? ⟨b4, 0, none⟩ = some (S n) := cell_of_row _ _ 0 _ _ (0, 0) hr5
        have H5 := Lib.hid (H4.out.1.below hB)
        have d0 : W5.cell? ⟨b1, 0, none⟩ = some (.int .i64 c) := cell_of_row _ _ 0 _ _ (0, 0) H5.out.row
        clear hB hr5
        go_wp2_with fail
        clear e0 d0
        refine (HOW.out _).mono ?_
        rintro e W6 ⟨rfl, hB⟩
        have H6 := Lib.hid (H5.out.below hB)
        clear hB
        cases x2 with
        | true =>
          have HP : Hid (O = false) := Lib.hid (HBAD.out (by rw [HFO.out]; rfl))
          go_wp2
          go_ret
          exact ⟨by rw [HP.out]; rfl, H6.out.bel⟩
        | false =>
          have HX := Lib.hid (HNX.out (by rw [HFO.out]; rfl))
          go_wp2
          exact ⟨⟨i + 1, by omega, by go_num, Lib.hid ⟨H6.out, HX.out⟩⟩, by simp [intOf]; omega⟩
  | false =>
    have HOA : Hid (O = fs.all (fldOk c)) := Lib.hid (by rw [HO3.out]; rfl)
    go_enter Tryz.func9, Tryz.ntmps9
    go_wp2_with fail
    all_goals try rw [← hW1, ← hb1]
    clear hW1 hb1
    refine (HB.out _).mono ?_
    rintro e W' ⟨rfl, rfl⟩
    go_wp2_with fail
    go_loopw [32] (fun iv wr => ∃ i : Nat, i ≤ N ∧ iv = .int .i64 (i : Int) ∧ Hid (RtAt w b1 c V body fs b o wr ∧ (fs.take i).all (fldOk c) = true)) (fun iv _ => N - (intOf iv).toNat)
    case atStart => exact ⟨0, Nat.zero_le _, rfl, Lib.hid ⟨HM.out, by rw [List.take_zero]; rfl⟩⟩
    case round =>
      obtain ⟨i, hi, rfl, HR⟩ := hrel
      by_cases hlt : i < N
      case neg =>
        obtain rfl : i = N := by omega
        have g3 : decide ((i : Int) < (i : Int)) = false := decide_eq_false (by omega)
        have HP : Hid (O = true) := Lib.hid (by rw [HOA.out]; have h := HR.out.2; rw [HN.out.1, List.take_length] at h; exact h)
        go_wp2
        go_ret
        exact ⟨by rw [HP.out]; rfl, HR.out.1.bel⟩
      have g3 : decide ((i : Int) < (N : Int)) = true := decide_eq_true (by omega)
      obtain ⟨⟨n, u⟩, hf⟩ : ∃ f, fs[i]? = some f := ⟨fs[i]'(by have := HN.out.1; omega), List.getElem?_eq_getElem _⟩
      have hix := HR.out.1.fa.index i (by have := HN.out.1; omega)
      have hcl := HR.out.1.fa.cell i _ hf
      have hfl := fsLen_mem (List.mem_of_getElem? hf)
      have hN2 := HN.out.2.1
      dsimp only at hfl
      have hwi : IntKind.i64.wrap ((i : Int) + 1) = (i : Int) + 1 := by rw [IntKind.wrap_i64]; omega
      obtain ⟨kk, hkk⟩ : ∃ kk, kk = o + i * 2 := ⟨_, rfl⟩
      rw [← hkk] at hix hcl
      have k0 : wr.cell? ⟨b, kk, none⟩ = some (S n) := hcl.1
      have k1 : wr.cell? ⟨b, kk + 1, none⟩ = some (S u) := hcl.2
      have HPS := Lib.hid fun W => isfield_any n u (by omega) W
      have HOW := Lib.hid fun W => isown_any n c (by omega) W
      have HBAD : Hid (fldOk c (n, u) = false → O = false) := Lib.hid fun h => by rw [HO.out.2]; exact right_bad hf h
      have HFO : Hid (fldOk c (n, u) = ((parseF (n ++ 58 :: u) == (n, u, true)) && !ownB n c)) := Lib.hid (fld_own c (n, u))
      have HNX : Hid (fldOk c (n, u) = true → (fs.take (i + 1)).all (fldOk c) = true) := Lib.hid fun h => by
        rw [List.take_add_one, hf, List.all_append, HR.out.2]
        show (true && (fldOk c (n, u) && true)) = true
        rw [h]; rfl
      have HRR := Lib.hid HR.out.1
      obtain ⟨x1, hx1⟩ : ∃ x, x = (parseF (n ++ 58 :: u) == (n, u, true)) := ⟨_, rfl⟩
      obtain ⟨x2, hx2⟩ : ∃ x, x = ownB n c := ⟨_, rfl⟩
      rw [← hx1] at HPS HFO
      rw [← hx2] at HOW HFO
      clear hf hkk hcl HR hx1 hx2 hfl hN2
      obtain ⟨W4, hW4⟩ : ∃ W, W = wr.alloc (.cells #[S n, S u] 35) := ⟨_, rfl⟩
      obtain ⟨b4, hb4⟩ : ∃ b, b = wr.heap.size := ⟨_, rfl⟩
      have hB4 : Below wr.heap.size wr W4 := by rw [hW4]; exact (Below.refl _ wr).alloc (Nat.le_refl _) _
      have hr4 : Row W4 b4 #[S n, S u] 35 := by rw [hW4, hb4]; exact row_new _ _ _
      have H4 := Lib.hid (And.intro (HRR.out.below hB4) hr4)
      have e0 : W4.cell? ⟨b4, 0, none⟩ = some (S n) := cell_of_row _ _ 0 _ _ (0, 0) hr4
      have e1 : W4.cell? ⟨b4, 1, none⟩ = some (S u) := cell_of_row _ _ 1 _ _ (0, 0) hr4
      clear hB4 hr4
      cases x1 with
      | false =>
        go_wp2_with fail
        all_goals try rw [← hW4, ← hb4]
        all_goals try go_wp2_with fail
        clear hW4 hb4 k0 k1 e0 e1
        refine (HPS.out _).mono ?_
        rintro e W5 ⟨rfl, hB⟩
        have HP : Hid (O = false) := Lib.hid (HBAD.out (by rw [HFO.out]; rfl))
        have H5 := Lib.hid (H4.out.1.below hB)
        clear hB
        go_wp2
        go_ret
        exact ⟨by rw [HP.out]; rfl, H5.out.bel⟩
      | true =>
        go_wp2_with fail
        all_goals try rw [← hW4, ← hb4]
        all_goals try go_wp2_with fail
        clear hW4 hb4 k0 k1 e0 e1
        refine (HPS.out _).mono ?_
        rintro e W5 ⟨rfl, hB⟩
        have hr5 := H4.out.2.below hB H4.out.2.lt
        have e0 : W5.cell? ⟨b4, 0, none⟩ = some (S n) := cell_of_row _ _ 0 _ _ (0, 0) hr5
        have H5 := Lib.hid (H4.out.1.below hB)
        have d0 : W5.cell? ⟨b1, 0, none⟩ = some (.int .i64 c) := cell_of_row _ _ 0 _ _ (0, 0) H5.out.row
        clear hB hr5
        go_wp2_with fail
        clear e0 d0
        refine (HOW.out _).mono ?_
        rintro e W6 ⟨rfl, hB⟩
        have H6 := Lib.hid (H5.out.below hB)
        clear hB
        cases x2 with
        | true =>
          have HP : Hid (O = false) := Lib.hid (HBAD.out (by rw [HFO.out]; rfl))
          go_wp2
          go_ret
          exact ⟨by rw [HP.out]; rfl, H6.out.bel⟩
        | false =>
          have HX := Lib.hid (HNX.out (by rw [HFO.out]; rfl))
          go_wp2
          exact ⟨⟨i + 1, by omega, by go_num, Lib.hid ⟨H6.out, HX.out⟩⟩, by simp [intOf]; omega⟩
end Go.Proofs.YtfdbmbgpcioogaaGreatDoor
