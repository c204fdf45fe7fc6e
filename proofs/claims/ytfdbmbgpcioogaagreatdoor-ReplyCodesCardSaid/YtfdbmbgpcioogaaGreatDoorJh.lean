/- Texts of this proof that several statements share, one behind the other. -/
import Derived.Test.YtfdbmbgpcioogaaGreatDoorJg
import Derived.Test.YtfdbmbgpcioogaaGreatDoorJd
import Derived.Test.YtfdbmbgpcioogaaGreatDoorRows
import Derived.Lib.LaidTab
import Derived.Test.YtfdbmbgpcioogaaGreatDoorJc
import Derived.Test.YtfdbmbgpcioogaaGreatDoorProg
import Derived.ProofKit
import Derived.Handed
import Derived.OpenShut
import Derived.SizedLaws
/- The landed writeField and Bytes walked. (mkpx8.py writes it.) -/
namespace Go.Proofs.YtfdbmbgpcioogaaGreatDoor
open Go.RowKit Go.Shelf
attribute [local go_sem] store_one S_match S_store eguard_BN nguard_BN

set_option maxRecDepth 100000 in
set_option maxHeartbeats 1000000 in
theorem wfield_any (g : Nat) (x n v : List UInt8) (hl : x.length + n.length + v.length ≤ 900000) (w : World) (h : Bld g x w) :
    Calls Tryz.prog 19 #[.pointer (some ⟨g, 0, none⟩), S n, S v] w fun e w' => e = .returned (.tuple #[]) ∧ Bld g (x ++ (fieldL (n, v) ++ [13, 10])) w' ∧ Below g w w' := by
  have z1 : binOp .add 9 (S n) (.string ⟨#[58, 32]⟩) = pure (S (n ++ [58, 32])) := S_add 9 n [58, 32] (by show _ + 2 ≤ _; omega)
  obtain ⟨Z1, hZ1⟩ : ∃ X, X = n ++ [58, 32] := ⟨_, rfl⟩
  rw [← hZ1] at z1
  have l1 : Z1.length = n.length + 2 := by rw [hZ1, List.length_append]; rfl
  have z2 : binOp .add 9 (S Z1) (S v) = pure (S (Z1 ++ v)) := S_add 9 Z1 v (by omega)
  obtain ⟨Z2, hZ2⟩ : ∃ X, X = Z1 ++ v := ⟨_, rfl⟩
  rw [← hZ2] at z2
  have l2 : Z2.length = Z1.length + v.length := by rw [hZ2, List.length_append]
  have z3 : binOp .add 9 (S Z2) (.string ⟨#[13, 10]⟩) = pure (S (Z2 ++ [13, 10])) := S_add 9 Z2 [13, 10] (by show _ + 2 ≤ _; omega)
  obtain ⟨Z3, hZ3⟩ : ∃ X, X = Z2 ++ [13, 10] := ⟨_, rfl⟩
  rw [← hZ3] at z3
  have l3 : Z3.length = Z2.length + 2 := by rw [hZ3, List.length_append]; rfl
  have hZ : fieldL (n, v) ++ [13, 10] = Z3 := by rw [hZ3, hZ2, hZ1]; unfold fieldL; simp
  rw [hZ]
  have HW := Lib.hid (wstr_any g x Z3 (by omega) w h)
  clear hZ hZ1 hZ2 hZ3 l1 l2 l3 hl h
  go_enter Tryz.func19, Tryz.ntmps19
  go_wp2_with fail
  refine HW.out.mono ?_
  rintro e W1 ⟨rfl, hB⟩
  have H1 := Lib.hid hB
  clear hB
  go_wp2
  refine bodyPost_end (results_none rfl _ _ _) rfl ?_
  exact ⟨rfl, H1.out⟩
/-- A text that is built since W2. -/
structure BtAt (W2 : World) (g : Nat) (x : List UInt8) (W : World) : Prop where
  bel : Below g W2 W
  bld : Bld g x W
theorem BtAt.keep {W2 W W' : World} {g : Nat} {x : List UInt8} (h : BtAt W2 g x W) (hb : Below W.heap.size W W') : BtAt W2 g x W' :=
  ⟨h.bel.trans (hb.mono (Nat.le_of_lt h.bld.lt)), Bld.below h.bld hb⟩
theorem BtAt.put {W2 W W' : World} {g : Nat} {x y : List UInt8} (h : BtAt W2 g x W) (hn : Bld g y W') (hb : Below g W W') : BtAt W2 g y W' := ⟨h.bel.trans hb, hn⟩
theorem joinE_one (a : List (List UInt8)) (l : List UInt8) : joinE (a ++ [l]) = joinE a ++ (l ++ [13, 10]) := by rw [joinE_app]; simp [joinE]
theorem stL_join (c : Int) : joinE [stL c] = stL c ++ [13, 10] := rfl
/-- Lines so far, of those that are to come: there is room. -/
theorem join_room {a t LS : List (List UInt8)} {l : List UInt8} (h : (a ++ [l]) ++ t = LS) : (joinE a).length + l.length + 2 ≤ (joinE LS).length := by
  rw [← h, joinE_app, joinE_one, List.length_append, List.length_append, List.length_append]
  show _ ≤ _ + (_ + 2) + _
  omega
def oneB (b : Bool) (l : List UInt8) : List (List UInt8) := if b = true then [l] else []
theorem lines_are (c : Int) (fs : List Fld) (n : Nat) (close : Bool) : ((stL c :: fs.map fieldL) ++ oneB (!nobB c) (fieldL (lenF n))) ++ oneB close (fieldL clsF) = stL c :: lnsR c fs n close := by
  unfold lnsR moreL oneB
  cases nobB c <;> cases close <;> simp
theorem take_lines {c : Int} {fs : List Fld} {i : Nat} {f : Fld} (hf : fs[i]? = some f) : stL c :: (fs.take (i + 1)).map fieldL = (stL c :: (fs.take i).map fieldL) ++ [fieldL f] := by
  rw [List.take_add_one, hf, List.map_append]; rfl
theorem rest_lines {c : Int} {fs : List Fld} {i : Nat} {f : Fld} (hf : fs[i]? = some f) : ((stL c :: (fs.take i).map fieldL) ++ [fieldL f]) ++ (fs.drop (i + 1)).map fieldL = stL c :: fs.map fieldL := by
  rw [← take_lines hf, List.cons_append, ← List.map_append, List.take_append_drop]
set_option maxRecDepth 100000 in
set_option maxHeartbeats 4000000 in
theorem bytes10l_any (c : Int) (fs : List Fld) (body : List UInt8) (head close : Bool) (V : Value) (b o : Nat) (w : World) (hA : FA w V fs b o) (hl : rpLen fs body ≤ 80000) (hT : PowAt w) :
    Calls Tryz.prog 7 #[.agg (rpC c V body), .bool head, .bool close] w fun e w' => e = .returned (bytesV (bytesO c fs body head close)) ∧ Below w.heap.size w w' := by
  have hrg := fun W h => right_any c fs body V b o W h hl
  unfold rpC at hrg ⊢
  obtain ⟨O, hO⟩ : ∃ O, O = bytesO c fs body head close := ⟨_, rfl⟩
  rw [← hO]
  obtain ⟨b1, hb1⟩ : ∃ b, b = w.heap.size := ⟨_, rfl⟩
  obtain ⟨W1, hW1⟩ : ∃ W, W = w.alloc (.cells #[.int .i64 c, V, S body] 24) := ⟨_, rfl⟩
  have hB1 : Below w.heap.size w W1 := by rw [hW1]; exact (Below.refl _ w).alloc (Nat.le_refl _) _
  have hM1 : RtAt w b1 c V body fs b o W1 := ⟨by rw [hW1, hb1]; exact row_new _ _ _, hA.below hB1, hB1⟩
  have HM := Lib.hid hM1
  have c0 : W1.cell? ⟨b1, 0, none⟩ = some (.int .i64 c) := cell_of_row W1 _ 0 _ _ (0, 0) hM1.row
  have c1 : W1.cell? ⟨b1, 1, none⟩ = some V := cell_of_row W1 _ 1 _ _ (0, 0) hM1.row
  have c2 : W1.cell? ⟨b1, 2, none⟩ = some (S body) := cell_of_row W1 _ 2 _ _ (0, 0) hM1.row
  have HT := Lib.hid fun W (h : Below w.heap.size w W) => outI.keep w W hT h
  have HRG := Lib.hid (hrg W1 hM1.fa)
  unfold bytesO at hO
  have hOr : mayB c fs body close = (rightB c fs body && !(close && c == 101)) := rfl
  rw [hOr] at hO
  obtain ⟨R, hR⟩ : ∃ R, R = rightB c fs body := ⟨_, rfl⟩
  rw [← hR] at hO HRG
  have HO := Lib.hid (And.intro hO hR)
  have HL := Lib.hid hl
  clear hO hR hOr hM1 hB1 hA hrg hl hT
  cases R with
  | false =>
    have HP : Hid (O = none) := Lib.hid (by rw [HO.out.1]; rfl)
    go_enter Tryz.func7, Tryz.ntmps7
    go_wp2_with fail
    all_goals try rw [← hW1, ← hb1]
    all_goals try go_wp2_with fail
    clear hW1 hb1 c0 c1 c2
    refine HRG.out.mono ?_
    rintro e W2 ⟨rfl, hB⟩
    have H2 := Lib.hid (HM.out.below hB)
    clear hB
    go_wp2
    go_ret2
    exact ⟨by rw [HP.out]; rfl, H2.out.bel⟩
  | true =>
  have HRP : Hid (RightP c fs body) := Lib.hid (right_iff.1 HO.out.2.symm)
  obtain ⟨u, rfl⟩ : ∃ u : Nat, c = (u : Int) := ⟨c.toNat, by have := HRP.out.lo; omega⟩
  by_cases h101 : close = true ∧ u = 101
  case pos =>
    obtain ⟨rfl, hu⟩ := h101
    have g1 : ((u : Int) == 101) = true := by rw [beq_iff_eq]; omega
    have HP : Hid (O = none) := Lib.hid (by rw [HO.out.1, g1]; rfl)
    clear hu
    go_enter Tryz.func7, Tryz.ntmps7
    go_wp2_with fail
    all_goals try rw [← hW1, ← hb1]
    all_goals try go_wp2_with fail
    clear hW1 hb1 c0 c1 c2
    refine HRG.out.mono ?_
    rintro e W2 ⟨rfl, hB⟩
    have H2 := Lib.hid (HM.out.below hB)
    clear hB
    have d0 : W2.cell? ⟨b1, 0, none⟩ = some (.int .i64 (u : Int)) := cell_of_row W2 _ 0 _ _ (0, 0) H2.out.row
    go_wp2
    go_ret2
    exact ⟨by rw [HP.out]; rfl, H2.out.bel⟩
  have HOK : Hid (O = some (bytesB (u : Int) fs body head close)) := Lib.hid (by
    rw [HO.out.1, if_pos]
    cases hcl : close with
    | false => rfl
    | true =>
      have : u ≠ 101 := fun e => h101 ⟨hcl, e⟩
      simp; omega)
  have g101 : close = true → (((u : Int) == 101) = false) := fun h => by
    rw [beq_eq_false_iff_ne]
    intro e
    exact h101 ⟨h, by omega⟩
  have HG101 := Lib.hid g101
  clear g101 h101 HO
  -- the lines
  obtain ⟨LS, hLS⟩ : ∃ LS, LS = stL (u : Int) :: lnsR (u : Int) fs body.length close := ⟨_, rfl⟩
  have HLS : Hid (((stL (u : Int) :: fs.map fieldL) ++ oneB (!nobB (u : Int)) (fieldL (lenF body.length))) ++ oneB close (fieldL clsF) = LS) := Lib.hid (by rw [hLS]; exact lines_are _ _ _ _)
  have HLL : Hid ((joinE LS).length ≤ 80200 ∧ body.length ≤ 65536) := Lib.hid (by
    have h1 := lines_len (u : Int) fs body.length close HRP.out.lo HRP.out.hi HRP.out.len
    have h2 := HL.out
    unfold rpLen at h2
    rw [hLS]
    exact ⟨by omega, HRP.out.len⟩)
  have HBY : Hid (bytesB (u : Int) fs body head close = (joinE LS ++ [13, 10]) ++ (if head = true then [] else body)) := Lib.hid (by unfold bytesB headB; rw [← hLS])
  clear hLS
  have HU : Hid (100 ≤ u ∧ u ≤ 599) := Lib.hid (by have h1 := HRP.out.lo; have h2 := HRP.out.hi; omega)
  have hdl := dec_len 3 u (by have := HU.out; omega)
  obtain ⟨D, hD⟩ : ∃ D, D = Lib.decDigits u := ⟨_, rfl⟩
  have HIT := Lib.hid fun W hP => outI.itoa (u : Int) W (by omega) (by have := HU.out; omega) hP
  rw [itoa_nat, ← hD] at HIT
  have HRS := Lib.hid fun W => reason_any (u : Int) W
  have hrl := (rsn_ok (u : Int)).2
  obtain ⟨Rs, hRs⟩ : ∃ Rs, Rs = rsnF (u : Int) := ⟨_, rfl⟩
  rw [← hRs] at HRS hrl
  rw [← hD] at hdl
  have z1 : binOp .add 9 (.string ⟨#[72, 84, 84, 80, 47, 49, 46, 49, 32]⟩) (S D) = pure (S (httpS ++ D)) := S_add 9 httpS D (by show 9 + _ ≤ _; omega)
  obtain ⟨Z1, hZ1⟩ : ∃ X, X = httpS ++ D := ⟨_, rfl⟩
  rw [← hZ1] at z1
  have l1 : Z1.length = 9 + D.length := by rw [hZ1, List.length_append]; rfl
  have z2 : binOp .add 9 (S Z1) (.string ⟨#[32]⟩) = pure (S (Z1 ++ [32])) := S_add 9 Z1 [32] (by show _ + 1 ≤ _; omega)
  obtain ⟨Z2, hZ2⟩ : ∃ X, X = Z1 ++ [32] := ⟨_, rfl⟩
  rw [← hZ2] at z2
  have l2 : Z2.length = Z1.length + 1 := by rw [hZ2, List.length_append]; rfl
  have z3 : binOp .add 9 (S Z2) (S Rs) = pure (S (Z2 ++ Rs)) := S_add 9 Z2 Rs (by omega)
  obtain ⟨Z3, hZ3⟩ : ∃ X, X = Z2 ++ Rs := ⟨_, rfl⟩
  rw [← hZ3] at z3
  have l3 : Z3.length = Z2.length + Rs.length := by rw [hZ3, List.length_append]
  have z4 : binOp .add 9 (S Z3) (.string ⟨#[13, 10]⟩) = pure (S (Z3 ++ [13, 10])) := S_add 9 Z3 [13, 10] (by show _ + 2 ≤ _; omega)
  obtain ⟨Z4, hZ4⟩ : ∃ X, X = Z3 ++ [13, 10] := ⟨_, rfl⟩
  rw [← hZ4] at z4
  have HZ : Hid (Z4 = joinE (stL (u : Int) :: (fs.take 0).map fieldL) ∧ Z4.length ≤ 1000) := Lib.hid (by
    refine ⟨?_, by rw [hZ4, List.length_append]; show _ + 2 ≤ _; omega⟩
    rw [List.take_zero, List.map_nil, stL_join, hZ4, hZ3, hZ2, hZ1]
    unfold stL
    rw [Int.toNat_natCast, ← hD, ← hRs]; simp)
  have hlV := HM.out.fa.len 3
  obtain ⟨N, hN⟩ : ∃ N, N = fs.length := ⟨_, rfl⟩
  rw [← hN] at hlV
  have hN5 : N ≤ 20000 := by
    have h1 := fsLen_count fs
    have h2 := HL.out
    unfold rpLen at h2
    omega
  have HN := Lib.hid hN
  clear hN hD hRs hZ1 hZ2 hZ3 hZ4 l1 l2 l3 hdl hrl
  have HBR := Lib.hid fun W => bare10_any (u : Int) W
  obtain ⟨nb, hnb⟩ : ∃ nb, nb = nobB (u : Int) := ⟨_, rfl⟩
  rw [← hnb] at HBR HLS
  clear hnb
  cases close with
  | true =>
    have g1 := HG101.out rfl
    go_enter Tryz.func7, Tryz.ntmps7
    go_wp2_with fail
    all_goals try rw [← hW1, ← hb1]
    all_goals try go_wp2_with fail
    clear hW1 hb1 c0 c1 c2
    refine HRG.out.mono ?_
    rintro e W2 ⟨rfl, hB⟩
    have H2 := Lib.hid (HM.out.below hB)
    clear hB
    have d0 : W2.cell? ⟨b1, 0, none⟩ = some (.int .i64 (u : Int)) := cell_of_row W2 _ 0 _ _ (0, 0) H2.out.row
    obtain ⟨g, hg⟩ : ∃ g, g = W2.heap.size := ⟨_, rfl⟩
    have HGE : Hid (W2.heap.size ≤ g) := Lib.hid (by omega)
    obtain ⟨W3, hW3⟩ : ∃ W, W = W2.alloc (.cells #[.pointer none, .slice none 0 0] 45) := ⟨_, rfl⟩
    obtain ⟨Wq, hWq⟩ : ∃ Wq, Wq = W3.drew := ⟨_, rfl⟩
    have HQ : Hid (BtAt W2 g [] Wq) := Lib.hid (by
      have h1 : BtAt W2 g [] W3 := ⟨by rw [hg, hW3]; exact (Below.refl _ W2).alloc (Nat.le_refl _) _, by rw [hg, hW3]; exact bld_new W2⟩
      exact h1.keep (by rw [hWq]; exact ⟨rfl, rfl, rfl, Nat.le_refl _, fun _ _ => rfl⟩))
    have HS : Hid (∀ x W, BtAt W2 g x W → RtAt w b1 (u : Int) V body fs b o W) := Lib.hid fun x W h => H2.out.below (by have := h.bel; rwa [hg] at this)
    have hSr : Hid (∀ x W, BtAt W2 g x W → W.cell? ⟨b1, 0, none⟩ = some (.int .i64 (u : Int))) := Lib.hid fun x W h => cell_of_row W _ 0 _ _ (0, 0) (HS.out x W h).row
    have hSQ := hSr.out _ Wq HQ.out
    go_wp2
    all_goals try rw [← hW3, ← hg]
    clear hW3 hg d0
    refine wp_region_noPanic ?_
    refine wp_region_held_drew (S := fun W => W.cell? ⟨b1, 0, none⟩ = some (.int .i64 (u : Int))) (by kernel_rfl) (by rw [← hWq]; exact hSQ) (fun _ => ?_)
    rw [← hWq]
    clear hWq
    refine take_at (i := 0) (d := some 22) (v := .pointer (some ⟨b1, 0, none⟩)) rfl (by kernel_rfl) (by kernel_rfl) (by kernel_rfl) (fun _ _ _ h => h) (fun oi ho => ?_) hSQ ?_
    · obtain rfl := Option.some.inj ho
      exact Or.inl ⟨by rfl, fun wx hSw => by go_simp⟩
    simp only [Act.put, List.setIfInBounds_toArray, List.set_cons_zero, List.set_cons_succ]
    refine take_at (i := 1) (d := some 23) (v := .int .i64 (u : Int)) rfl (by kernel_rfl) (by kernel_rfl) (by kernel_rfl) (fun _ _ _ h => h) (fun oi ho => ?_) hSQ ?_
    · obtain rfl := Option.some.inj ho
      exact Or.inl ⟨by rfl, fun wx hSw => by go_simp⟩
    simp only [Act.put, List.setIfInBounds_toArray, List.set_cons_zero, List.set_cons_succ]
    refine take_at (i := 5) (d := some 27) (v := .pointer (some ⟨b1, 0, none⟩)) rfl (by kernel_rfl) (by kernel_rfl) (by kernel_rfl) (fun _ _ _ h => h) (fun oi ho => ?_) hSQ ?_
    · obtain rfl := Option.some.inj ho
      exact Or.inl ⟨by rfl, fun wx hSw => by go_simp⟩
    simp only [Act.put, List.setIfInBounds_toArray, List.set_cons_zero, List.set_cons_succ]
    refine take_at (i := 6) (d := some 28) (v := .int .i64 (u : Int)) rfl (by kernel_rfl) (by kernel_rfl) (by kernel_rfl) (fun _ _ _ h => h) (fun oi ho => ?_) hSQ ?_
    · obtain rfl := Option.some.inj ho
      exact Or.inl ⟨by rfl, fun wx hSw => by go_simp⟩
    simp only [Act.put, List.setIfInBounds_toArray, List.set_cons_zero, List.set_cons_succ]
    refine ready_call (i := 2) (d := some 24) (f := 18) (args := #[.int .i64 (u : Int)]) rfl (by kernel_rfl) (fun oi ho => ?_) ?_
    · obtain rfl := Option.some.inj ho
      exact ⟨by rfl, by go_simp⟩
    refine (HIT.out Wq (HT.out Wq (HS.out _ _ HQ.out).bel)).mono ?_
    rintro e W4 ⟨rfl, hB⟩
    have H4 := Lib.hid (HQ.out.keep hB)
    have hS4 := hSr.out _ W4 H4.out
    clear hB hSQ
    refine ⟨_, rfl, hS4, ?_⟩
    simp only [Act.put, List.setIfInBounds_toArray, List.set_cons_zero, List.set_cons_succ]
    refine take_at (i := 3) (d := some 25) (v := S Z1) rfl (by kernel_rfl) (by kernel_rfl) (by kernel_rfl) (fun _ _ _ h => h) (fun oi ho => ?_) hS4 ?_
    · obtain rfl := Option.some.inj ho
      exact Or.inl ⟨by rfl, fun wx hSw => by go_simp⟩
    simp only [Act.put, List.setIfInBounds_toArray, List.set_cons_zero, List.set_cons_succ]
    refine take_at (i := 4) (d := some 26) (v := S Z2) rfl (by kernel_rfl) (by kernel_rfl) (by kernel_rfl) (fun _ _ _ h => h) (fun oi ho => ?_) hS4 ?_
    · obtain rfl := Option.some.inj ho
      exact Or.inl ⟨by rfl, fun wx hSw => by go_simp⟩
    simp only [Act.put, List.setIfInBounds_toArray, List.set_cons_zero, List.set_cons_succ]
    refine ready_call (i := 7) (d := some 29) (f := 11) (args := #[.int .i64 (u : Int)]) rfl (by kernel_rfl) (fun oi ho => ?_) ?_
    · obtain rfl := Option.some.inj ho
      exact ⟨by rfl, by go_simp⟩
    refine (HRS.out W4).mono ?_
    rintro e W5 ⟨rfl, h5⟩
    subst h5
    refine ⟨_, rfl, hS4, ?_⟩
    simp only [Act.put, List.setIfInBounds_toArray, List.set_cons_zero, List.set_cons_succ]
    refine take_at (i := 8) (d := some 30) (v := S Z3) rfl (by kernel_rfl) (by kernel_rfl) (by kernel_rfl) (fun _ _ _ h => h) (fun oi ho => ?_) hS4 ?_
    · obtain rfl := Option.some.inj ho
      exact Or.inl ⟨by rfl, fun wx hSw => by go_simp⟩
    simp only [Act.put, List.setIfInBounds_toArray, List.set_cons_zero, List.set_cons_succ]
    refine take_at (i := 9) (d := some 31) (v := S Z4) rfl (by kernel_rfl) (by kernel_rfl) (by kernel_rfl) (fun _ _ _ h => h) (fun oi ho => ?_) hS4 ?_
    · obtain rfl := Option.some.inj ho
      exact Or.inl ⟨by rfl, fun wx hSw => by go_simp⟩
    simp only [Act.put, List.setIfInBounds_toArray, List.set_cons_zero, List.set_cons_succ]
    refine ready_call (i := 10) (d := some 32) (f := 17) (args := #[.pointer (some ⟨g, 0, none⟩), S Z4]) rfl (by kernel_rfl) (fun oi ho => ?_) ?_
    · obtain rfl := Option.some.inj ho
      exact ⟨by rfl, by go_simp⟩
    refine (wstr_any g [] Z4 (by have := HZ.out.2; simp; omega) W5 H4.out.bld).mono ?_
    rintro e W6 ⟨rfl, hbl, hB⟩
    have H6 := Lib.hid (H4.out.put hbl hB)
    have hS6 := hSr.out _ W6 H6.out
    clear hbl hB hS4
    refine ⟨_, rfl, hS6, ?_⟩
    simp only [Act.put, List.setIfInBounds_toArray, List.set_cons_zero, List.set_cons_succ]
    refine wpAnyH_done (by kernel_rfl) ?_ _
    refine NoPanic.normal ?_
    clear hS6
    rw [List.nil_append] at H6
    have d1 : W6.cell? ⟨b1, 1, none⟩ = some V := cell_of_row W6 _ 1 _ _ (0, 0) (HS.out _ _ H6.out).row
    go_wp2_with fail
    clear d1
    go_loopw [36] (fun iv wr => ∃ i : Nat, i ≤ N ∧ iv = .int .i64 (i : Int) ∧ Hid (BtAt W2 g (joinE (stL (u : Int) :: (fs.take i).map fieldL)) wr)) (fun iv _ => N - (intOf iv).toNat)
    case atStart => exact ⟨0, Nat.zero_le _, rfl, Lib.hid (by rw [← HZ.out.1]; exact H6.out)⟩
    case round =>
      obtain ⟨i, hi, rfl, HR⟩ := hrel
      by_cases hlt : i < N
      case pos =>
        have g3 : decide ((i : Int) < (N : Int)) = true := decide_eq_true (by omega)
        obtain ⟨⟨n, v⟩, hf⟩ : ∃ f, fs[i]? = some f := ⟨fs[i]'(by have := HN.out; omega), List.getElem?_eq_getElem _⟩
        have hfa := (HS.out _ _ HR.out).fa
        have hix := hfa.index i (by have := HN.out; omega)
        have hcl := hfa.cell i _ hf
        have hwi : IntKind.i64.wrap ((i : Int) + 1) = (i : Int) + 1 := by rw [IntKind.wrap_i64]; omega
        obtain ⟨kk, hkk⟩ : ∃ kk, kk = o + i * 2 := ⟨_, rfl⟩
        rw [← hkk] at hix hcl
        have k0 : wr.cell? ⟨b, kk, none⟩ = some (S n) := hcl.1
        have k1 : wr.cell? ⟨b, kk + 1, none⟩ = some (S v) := hcl.2
        have HJ : Hid (joinE (stL (u : Int) :: (fs.take (i + 1)).map fieldL) = joinE (stL (u : Int) :: (fs.take i).map fieldL) ++ (fieldL (n, v) ++ [13, 10]) ∧ (joinE (stL (u : Int) :: (fs.take i).map fieldL)).length + n.length + v.length ≤ 900000) := Lib.hid (by
          refine ⟨by rw [take_lines hf, joinE_one], ?_⟩
          have h1 := join_room (LS := LS) (show ((stL (u : Int) :: (fs.take i).map fieldL) ++ [fieldL (n, v)]) ++ ((fs.drop (i + 1)).map fieldL ++ (oneB (!nb) (fieldL (lenF body.length)) ++ oneB true (fieldL clsF))) = LS by
            rw [← List.append_assoc, rest_lines hf, ← List.append_assoc]; exact HLS.out)
          have h2 := HLL.out.1
          have h3 : (fieldL (n, v)).length = n.length + v.length + 2 := by unfold fieldL; rw [List.length_append, List.length_cons, List.length_cons]; dsimp only; omega
          omega)
        obtain ⟨W8, hW8⟩ : ∃ W, W = wr.alloc (.cells #[S n, S v] 35) := ⟨_, rfl⟩
        obtain ⟨b8, hb8⟩ : ∃ b, b = wr.heap.size := ⟨_, rfl⟩
        have hr8 : Row W8 b8 #[S n, S v] 35 := by rw [hW8, hb8]; exact row_new _ _ _
        have H8 : Hid (BtAt W2 g (joinE (stL (u : Int) :: (fs.take i).map fieldL)) W8) := Lib.hid (HR.out.keep (by rw [hW8]; exact (Below.refl _ wr).alloc (Nat.le_refl _) _))
        have e0 : W8.cell? ⟨b8, 0, none⟩ = some (S n) := cell_of_row _ _ 0 _ _ (0, 0) hr8
        have e1 : W8.cell? ⟨b8, 1, none⟩ = some (S v) := cell_of_row _ _ 1 _ _ (0, 0) hr8
        have HWF := Lib.hid (wfield_any g _ n v HJ.out.2 W8 H8.out.bld)
        clear hfa hcl hf hkk hr8
        go_wp2_with fail
        all_goals try rw [← hW8, ← hb8]
        all_goals try go_wp2_with fail
        clear hW8 hb8 k0 k1 e0 e1
        refine HWF.out.mono ?_
        rintro e W9 ⟨rfl, hbl, hB⟩
        have H9 : Hid (BtAt W2 g (joinE (stL (u : Int) :: (fs.take (i + 1)).map fieldL)) W9) := Lib.hid (H8.out.put (by rw [HJ.out.1]; exact hbl) hB)
        clear hbl hB
        go_wp2
        exact ⟨⟨i + 1, by omega, by go_num, H9⟩, by simp [intOf]; omega⟩
      case neg =>
        obtain rfl : i = N := by omega
        have g3 : decide ((i : Int) < (i : Int)) = false := decide_eq_false (by omega)
        obtain ⟨x0, hx0⟩ : ∃ x, x = joinE (stL (u : Int) :: fs.map fieldL) := ⟨_, rfl⟩
        have HX0 := Lib.hid hx0
        have HE : Hid (BtAt W2 g x0 wr) := Lib.hid (by have h := HR.out; rw [HN.out, List.take_length, ← hx0] at h; exact h)
        clear hx0 HR
        have d0 := hSr.out _ wr HE.out
        go_wp2_with fail
        clear d0
        refine (HBR.out _).mono ?_
        rintro e W' ⟨rfl, h5⟩
        subst h5
        have HGW : Hid (w.heap.size ≤ g) := Lib.hid (by
          have h1 := H2.out.bel.size
          have h2 := HGE.out
          omega)
        cases nb with
        | false =>
          have d2 : W'.cell? ⟨b1, 2, none⟩ = some (S body) := cell_of_row W' _ 2 _ _ (0, 0) (HS.out _ _ HE.out).row
          have hlB := run_len_S (P := Tryz.prog) Tryz.underlying9 3 body
          obtain ⟨K, hK⟩ : ∃ K, K = body.length := ⟨_, rfl⟩
          rw [← hK] at hlB
          have HK := Lib.hid hK
          have HIK := Lib.hid fun W hP => outI.itoa (K : Int) W (by omega) (by have := HLL.out.2; omega) hP
          rw [itoa_nat] at HIK
          clear hK
          go_wp2_with fail
          clear d2
          refine (HIK.out _ (HT.out _ (HS.out _ _ HE.out).bel)).mono ?_
          rintro e W10 ⟨rfl, hB⟩
          have H10 := Lib.hid (HE.out.keep hB)
          clear hB
          have HLE : Hid ((stL (u : Int) :: fs.map fieldL) ++ [fieldL (lenF body.length)] ++ oneB true (fieldL clsF) = LS) := Lib.hid HLS.out
          have HWF := Lib.hid (wfield_any g x0 [67, 111, 110, 116, 101, 110, 116, 45, 76, 101, 110, 103, 116, 104] (Lib.decDigits K) (by
            have h1 := join_room HLE.out
            have h2 := HLL.out.1
            have h3 : (fieldL (lenF body.length)).length = (Lib.decDigits body.length).length + 16 := by
              have e : fieldL (lenF body.length) = [67, 111, 110, 116, 101, 110, 116, 45, 76, 101, 110, 103, 116, 104, 58, 32] ++ Lib.decDigits body.length := rfl
              rw [e, List.length_append]
              show 16 + _ = _
              omega
            rw [← HX0.out] at h1
            rw [← HK.out] at h3
            show _ + 14 + _ ≤ _
            rw [HK.out]
            rw [HK.out] at h3
            omega) W10 H10.out.bld)
          go_wp2_with fail
          refine HWF.out.mono ?_
          rintro e W11 ⟨rfl, hbl, hB⟩
          obtain ⟨x1, hx1⟩ : ∃ x, x = joinE ((stL (u : Int) :: fs.map fieldL) ++ [fieldL (lenF body.length)]) := ⟨_, rfl⟩
          have HX1 := Lib.hid hx1
          have HE1 : Hid (BtAt W2 g x1 W11) := Lib.hid (H10.out.put (by
            rw [hx1, joinE_one, ← HX0.out]
            have e : fieldL ([67, 111, 110, 116, 101, 110, 116, 45, 76, 101, 110, 103, 116, 104], Lib.decDigits K) = fieldL (lenF body.length) := by rw [HK.out]; rfl
            rw [← e]; exact hbl) hB)
          clear hbl hB hx1
          have HWC := Lib.hid (wfield_any g x1 [67, 111, 110, 110, 101, 99, 116, 105, 111, 110] [99, 108, 111, 115, 101] (by
            have h1 := join_room (t := []) (show (((stL (u : Int) :: fs.map fieldL) ++ [fieldL (lenF body.length)]) ++ [fieldL clsF]) ++ [] = LS by rw [List.append_nil]; exact HLE.out)
            have h2 := HLL.out.1
            rw [← HX1.out] at h1
            show _ + 10 + 5 ≤ _
            omega) W11 HE1.out.bld)
          go_wp2_with fail
          refine HWC.out.mono ?_
          rintro e W12 ⟨rfl, hbl, hB⟩
          have HE2 : Hid (BtAt W2 g (joinE LS) W12) := Lib.hid (HE1.out.put (by
            have e : ((stL (u : Int) :: fs.map fieldL) ++ [fieldL (lenF body.length)]) ++ [fieldL clsF] = LS := HLE.out
            rw [← e, joinE_one, ← HX1.out]; exact hbl) hB)
          clear hbl hB
          cases head with
          | true =>
            have HWE := Lib.hid (wstr_any g (joinE LS) [13, 10] (by have := HLL.out.1; show _ + 2 ≤ _; omega) W12 HE2.out.bld)
            go_wp2_with fail
            refine HWE.out.mono ?_
            rintro e W13 ⟨rfl, hbl, hB⟩
            have HE3 := Lib.hid (HE2.out.put hbl hB)
            clear hbl hB
            have HST := Lib.hid (bstr_any g _ W13 HE3.out.bld)
            go_wp2_with fail
            refine HST.out.mono ?_
            rintro e W15 ⟨rfl, hB⟩
            have HB15 := Lib.hid ((HS.out _ _ HE3.out).bel.trans (hB.mono HGW.out))
            clear hB
            have HP : Hid (O = some (joinE LS ++ [13, 10])) := Lib.hid (by rw [HOK.out, HBY.out]; simp)
            go_wp2
            go_ret2
            exact ⟨by rw [HP.out]; rfl, HB15.out⟩
          | false =>
            have HWE := Lib.hid (wstr_any g (joinE LS) [13, 10] (by have := HLL.out.1; show _ + 2 ≤ _; omega) W12 HE2.out.bld)
            go_wp2_with fail
            refine HWE.out.mono ?_
            rintro e W13 ⟨rfl, hbl, hB⟩
            have HE3 := Lib.hid (HE2.out.put hbl hB)
            clear hbl hB
            have d3 : W13.cell? ⟨b1, 2, none⟩ = some (S body) := cell_of_row W13 _ 2 _ _ (0, 0) (HS.out _ _ HE3.out).row
            have HWB := Lib.hid (wstr_any g (joinE LS ++ [13, 10]) body (by have h1 := HLL.out.1; have h2 := HLL.out.2; rw [List.length_append]; show _ + 2 + _ ≤ _; omega) W13 HE3.out.bld)
            go_wp2_with fail
            clear d3
            refine HWB.out.mono ?_
            rintro e W14 ⟨rfl, hbl, hB⟩
            have HE4 := Lib.hid (HE3.out.put hbl hB)
            clear hbl hB
            have HST := Lib.hid (bstr_any g _ W14 HE4.out.bld)
            go_wp2_with fail
            refine HST.out.mono ?_
            rintro e W15 ⟨rfl, hB⟩
            have HB15 := Lib.hid ((HS.out _ _ HE4.out).bel.trans (hB.mono HGW.out))
            clear hB
            have HP : Hid (O = some (joinE LS ++ 13 :: 10 :: body)) := Lib.hid (by rw [HOK.out, HBY.out]; simp)
            go_wp2
            go_ret2
            exact ⟨by rw [HP.out]; rfl, HB15.out⟩
        | true =>
          have HWC := Lib.hid (wfield_any g x0 [67, 111, 110, 110, 101, 99, 116, 105, 111, 110] [99, 108, 111, 115, 101] (by
            have h1 := join_room (t := []) (show ((stL (u : Int) :: fs.map fieldL) ++ [fieldL clsF]) ++ [] = LS by rw [List.append_nil]; exact (by have := HLS.out; simpa [oneB] using this))
            have h2 := HLL.out.1
            rw [← HX0.out] at h1
            show _ + 10 + 5 ≤ _
            omega) W' HE.out.bld)
          go_wp2_with fail
          refine HWC.out.mono ?_
          rintro e W12 ⟨rfl, hbl, hB⟩
          have HE2 : Hid (BtAt W2 g (joinE LS) W12) := Lib.hid (HE.out.put (by
            have e : (stL (u : Int) :: fs.map fieldL) ++ [fieldL clsF] = LS := (by have := HLS.out; simpa [oneB] using this)
            rw [← e, joinE_one, ← HX0.out]; exact hbl) hB)
          clear hbl hB
          cases head with
          | true =>
            have HWE := Lib.hid (wstr_any g (joinE LS) [13, 10] (by have := HLL.out.1; show _ + 2 ≤ _; omega) W12 HE2.out.bld)
            go_wp2_with fail
            refine HWE.out.mono ?_
            rintro e W13 ⟨rfl, hbl, hB⟩
            have HE3 := Lib.hid (HE2.out.put hbl hB)
            clear hbl hB
            have HST := Lib.hid (bstr_any g _ W13 HE3.out.bld)
            go_wp2_with fail
            refine HST.out.mono ?_
            rintro e W15 ⟨rfl, hB⟩
            have HB15 := Lib.hid ((HS.out _ _ HE3.out).bel.trans (hB.mono HGW.out))
            clear hB
            have HP : Hid (O = some (joinE LS ++ [13, 10])) := Lib.hid (by rw [HOK.out, HBY.out]; simp)
            go_wp2
            go_ret2
            exact ⟨by rw [HP.out]; rfl, HB15.out⟩
          | false =>
            have HWE := Lib.hid (wstr_any g (joinE LS) [13, 10] (by have := HLL.out.1; show _ + 2 ≤ _; omega) W12 HE2.out.bld)
            go_wp2_with fail
            refine HWE.out.mono ?_
            rintro e W13 ⟨rfl, hbl, hB⟩
            have HE3 := Lib.hid (HE2.out.put hbl hB)
            clear hbl hB
            have d3 : W13.cell? ⟨b1, 2, none⟩ = some (S body) := cell_of_row W13 _ 2 _ _ (0, 0) (HS.out _ _ HE3.out).row
            have HWB := Lib.hid (wstr_any g (joinE LS ++ [13, 10]) body (by have h1 := HLL.out.1; have h2 := HLL.out.2; rw [List.length_append]; show _ + 2 + _ ≤ _; omega) W13 HE3.out.bld)
            go_wp2_with fail
            clear d3
            refine HWB.out.mono ?_
            rintro e W14 ⟨rfl, hbl, hB⟩
            have HE4 := Lib.hid (HE3.out.put hbl hB)
            clear hbl hB
            have HST := Lib.hid (bstr_any g _ W14 HE4.out.bld)
            go_wp2_with fail
            refine HST.out.mono ?_
            rintro e W15 ⟨rfl, hB⟩
            have HB15 := Lib.hid ((HS.out _ _ HE4.out).bel.trans (hB.mono HGW.out))
            clear hB
            have HP : Hid (O = some (joinE LS ++ 13 :: 10 :: body)) := Lib.hid (by rw [HOK.out, HBY.out]; simp)
            go_wp2
            go_ret2
            exact ⟨by rw [HP.out]; rfl, HB15.out⟩
  | false =>
    go_enter Tryz.func7, Tryz.ntmps7
    go_wp2_with fail
    all_goals try rw [← hW1, ← hb1]
    all_goals try go_wp2_with fail
    clear hW1 hb1 c0 c1 c2
    refine HRG.out.mono ?_
    rintro e W2 ⟨rfl, hB⟩
    have H2 := Lib.hid (HM.out.below hB)
    clear hB
    have d0 : W2.cell? ⟨b1, 0, none⟩ = some (.int .i64 (u : Int)) := cell_of_row W2 _ 0 _ _ (0, 0) H2.out.row
    obtain ⟨g, hg⟩ : ∃ g, g = W2.heap.size := ⟨_, rfl⟩
    have HGE : Hid (W2.heap.size ≤ g) := Lib.hid (by omega)
    obtain ⟨W3, hW3⟩ : ∃ W, W = W2.alloc (.cells #[.pointer none, .slice none 0 0] 45) := ⟨_, rfl⟩
    obtain ⟨Wq, hWq⟩ : ∃ Wq, Wq = W3.drew := ⟨_, rfl⟩
    have HQ : Hid (BtAt W2 g [] Wq) := Lib.hid (by
      have h1 : BtAt W2 g [] W3 := ⟨by rw [hg, hW3]; exact (Below.refl _ W2).alloc (Nat.le_refl _) _, by rw [hg, hW3]; exact bld_new W2⟩
      exact h1.keep (by rw [hWq]; exact ⟨rfl, rfl, rfl, Nat.le_refl _, fun _ _ => rfl⟩))
    have HS : Hid (∀ x W, BtAt W2 g x W → RtAt w b1 (u : Int) V body fs b o W) := Lib.hid fun x W h => H2.out.below (by have := h.bel; rwa [hg] at this)
    have hSr : Hid (∀ x W, BtAt W2 g x W → W.cell? ⟨b1, 0, none⟩ = some (.int .i64 (u : Int))) := Lib.hid fun x W h => cell_of_row W _ 0 _ _ (0, 0) (HS.out x W h).row
    have hSQ := hSr.out _ Wq HQ.out
    go_wp2
    all_goals try rw [← hW3, ← hg]
    clear hW3 hg d0
    refine wp_region_noPanic ?_
    refine wp_region_held_drew (S := fun W => W.cell? ⟨b1, 0, none⟩ = some (.int .i64 (u : Int))) (by kernel_rfl) (by rw [← hWq]; exact hSQ) (fun _ => ?_)
    rw [← hWq]
    clear hWq
    refine take_at (i := 0) (d := some 22) (v := .pointer (some ⟨b1, 0, none⟩)) rfl (by kernel_rfl) (by kernel_rfl) (by kernel_rfl) (fun _ _ _ h => h) (fun oi ho => ?_) hSQ ?_
    · obtain rfl := Option.some.inj ho
      exact Or.inl ⟨by rfl, fun wx hSw => by go_simp⟩
    simp only [Act.put, List.setIfInBounds_toArray, List.set_cons_zero, List.set_cons_succ]
    refine take_at (i := 1) (d := some 23) (v := .int .i64 (u : Int)) rfl (by kernel_rfl) (by kernel_rfl) (by kernel_rfl) (fun _ _ _ h => h) (fun oi ho => ?_) hSQ ?_
    · obtain rfl := Option.some.inj ho
      exact Or.inl ⟨by rfl, fun wx hSw => by go_simp⟩
    simp only [Act.put, List.setIfInBounds_toArray, List.set_cons_zero, List.set_cons_succ]
    refine take_at (i := 5) (d := some 27) (v := .pointer (some ⟨b1, 0, none⟩)) rfl (by kernel_rfl) (by kernel_rfl) (by kernel_rfl) (fun _ _ _ h => h) (fun oi ho => ?_) hSQ ?_
    · obtain rfl := Option.some.inj ho
      exact Or.inl ⟨by rfl, fun wx hSw => by go_simp⟩
    simp only [Act.put, List.setIfInBounds_toArray, List.set_cons_zero, List.set_cons_succ]
    refine take_at (i := 6) (d := some 28) (v := .int .i64 (u : Int)) rfl (by kernel_rfl) (by kernel_rfl) (by kernel_rfl) (fun _ _ _ h => h) (fun oi ho => ?_) hSQ ?_
    · obtain rfl := Option.some.inj ho
      exact Or.inl ⟨by rfl, fun wx hSw => by go_simp⟩
    simp only [Act.put, List.setIfInBounds_toArray, List.set_cons_zero, List.set_cons_succ]
    refine ready_call (i := 2) (d := some 24) (f := 18) (args := #[.int .i64 (u : Int)]) rfl (by kernel_rfl) (fun oi ho => ?_) ?_
    · obtain rfl := Option.some.inj ho
      exact ⟨by rfl, by go_simp⟩
    refine (HIT.out Wq (HT.out Wq (HS.out _ _ HQ.out).bel)).mono ?_
    rintro e W4 ⟨rfl, hB⟩
    have H4 := Lib.hid (HQ.out.keep hB)
    have hS4 := hSr.out _ W4 H4.out
    clear hB hSQ
    refine ⟨_, rfl, hS4, ?_⟩
    simp only [Act.put, List.setIfInBounds_toArray, List.set_cons_zero, List.set_cons_succ]
    refine take_at (i := 3) (d := some 25) (v := S Z1) rfl (by kernel_rfl) (by kernel_rfl) (by kernel_rfl) (fun _ _ _ h => h) (fun oi ho => ?_) hS4 ?_
    · obtain rfl := Option.some.inj ho
      exact Or.inl ⟨by rfl, fun wx hSw => by go_simp⟩
    simp only [Act.put, List.setIfInBounds_toArray, List.set_cons_zero, List.set_cons_succ]
    refine take_at (i := 4) (d := some 26) (v := S Z2) rfl (by kernel_rfl) (by kernel_rfl) (by kernel_rfl) (fun _ _ _ h => h) (fun oi ho => ?_) hS4 ?_
    · obtain rfl := Option.some.inj ho
      exact Or.inl ⟨by rfl, fun wx hSw => by go_simp⟩
    simp only [Act.put, List.setIfInBounds_toArray, List.set_cons_zero, List.set_cons_succ]
    refine ready_call (i := 7) (d := some 29) (f := 11) (args := #[.int .i64 (u : Int)]) rfl (by kernel_rfl) (fun oi ho => ?_) ?_
    · obtain rfl := Option.some.inj ho
      exact ⟨by rfl, by go_simp⟩
    refine (HRS.out W4).mono ?_
    rintro e W5 ⟨rfl, h5⟩
    subst h5
    refine ⟨_, rfl, hS4, ?_⟩
    simp only [Act.put, List.setIfInBounds_toArray, List.set_cons_zero, List.set_cons_succ]
    refine take_at (i := 8) (d := some 30) (v := S Z3) rfl (by kernel_rfl) (by kernel_rfl) (by kernel_rfl) (fun _ _ _ h => h) (fun oi ho => ?_) hS4 ?_
    · obtain rfl := Option.some.inj ho
      exact Or.inl ⟨by rfl, fun wx hSw => by go_simp⟩
    simp only [Act.put, List.setIfInBounds_toArray, List.set_cons_zero, List.set_cons_succ]
    refine take_at (i := 9) (d := some 31) (v := S Z4) rfl (by kernel_rfl) (by kernel_rfl) (by kernel_rfl) (fun _ _ _ h => h) (fun oi ho => ?_) hS4 ?_
    · obtain rfl := Option.some.inj ho
      exact Or.inl ⟨by rfl, fun wx hSw => by go_simp⟩
    simp only [Act.put, List.setIfInBounds_toArray, List.set_cons_zero, List.set_cons_succ]
    refine ready_call (i := 10) (d := some 32) (f := 17) (args := #[.pointer (some ⟨g, 0, none⟩), S Z4]) rfl (by kernel_rfl) (fun oi ho => ?_) ?_
    · obtain rfl := Option.some.inj ho
      exact ⟨by rfl, by go_simp⟩
    refine (wstr_any g [] Z4 (by have := HZ.out.2; simp; omega) W5 H4.out.bld).mono ?_
    rintro e W6 ⟨rfl, hbl, hB⟩
    have H6 := Lib.hid (H4.out.put hbl hB)
    have hS6 := hSr.out _ W6 H6.out
    clear hbl hB hS4
    refine ⟨_, rfl, hS6, ?_⟩
    simp only [Act.put, List.setIfInBounds_toArray, List.set_cons_zero, List.set_cons_succ]
    refine wpAnyH_done (by kernel_rfl) ?_ _
    refine NoPanic.normal ?_
    clear hS6
    rw [List.nil_append] at H6
    have d1 : W6.cell? ⟨b1, 1, none⟩ = some V := cell_of_row W6 _ 1 _ _ (0, 0) (HS.out _ _ H6.out).row
    go_wp2_with fail
    clear d1
    go_loopw [36] (fun iv wr => ∃ i : Nat, i ≤ N ∧ iv = .int .i64 (i : Int) ∧ Hid (BtAt W2 g (joinE (stL (u : Int) :: (fs.take i).map fieldL)) wr)) (fun iv _ => N - (intOf iv).toNat)
    case atStart => exact ⟨0, Nat.zero_le _, rfl, Lib.hid (by rw [← HZ.out.1]; exact H6.out)⟩
    case round =>
      obtain ⟨i, hi, rfl, HR⟩ := hrel
      by_cases hlt : i < N
      case pos =>
        have g3 : decide ((i : Int) < (N : Int)) = true := decide_eq_true (by omega)
        obtain ⟨⟨n, v⟩, hf⟩ : ∃ f, fs[i]? = some f := ⟨fs[i]'(by have := HN.out; omega), List.getElem?_eq_getElem _⟩
        have hfa := (HS.out _ _ HR.out).fa
        have hix := hfa.index i (by have := HN.out; omega)
        have hcl := hfa.cell i _ hf
        have hwi : IntKind.i64.wrap ((i : Int) + 1) = (i : Int) + 1 := by rw [IntKind.wrap_i64]; omega
        obtain ⟨kk, hkk⟩ : ∃ kk, kk = o + i * 2 := ⟨_, rfl⟩
        rw [← hkk] at hix hcl
        have k0 : wr.cell? ⟨b, kk, none⟩ = some (S n) := hcl.1
        have k1 : wr.cell? ⟨b, kk + 1, none⟩ = some (S v) := hcl.2
        have HJ : Hid (joinE (stL (u : Int) :: (fs.take (i + 1)).map fieldL) = joinE (stL (u : Int) :: (fs.take i).map fieldL) ++ (fieldL (n, v) ++ [13, 10]) ∧ (joinE (stL (u : Int) :: (fs.take i).map fieldL)).length + n.length + v.length ≤ 900000) := Lib.hid (by
          refine ⟨by rw [take_lines hf, joinE_one], ?_⟩
          have h1 := join_room (LS := LS) (show ((stL (u : Int) :: (fs.take i).map fieldL) ++ [fieldL (n, v)]) ++ ((fs.drop (i + 1)).map fieldL ++ (oneB (!nb) (fieldL (lenF body.length)) ++ oneB false (fieldL clsF))) = LS by
            rw [← List.append_assoc, rest_lines hf, ← List.append_assoc]; exact HLS.out)
          have h2 := HLL.out.1
          have h3 : (fieldL (n, v)).length = n.length + v.length + 2 := by unfold fieldL; rw [List.length_append, List.length_cons, List.length_cons]; dsimp only; omega
          omega)
        obtain ⟨W8, hW8⟩ : ∃ W, W = wr.alloc (.cells #[S n, S v] 35) := ⟨_, rfl⟩
        obtain ⟨b8, hb8⟩ : ∃ b, b = wr.heap.size := ⟨_, rfl⟩
        have hr8 : Row W8 b8 #[S n, S v] 35 := by rw [hW8, hb8]; exact row_new _ _ _
        have H8 : Hid (BtAt W2 g (joinE (stL (u : Int) :: (fs.take i).map fieldL)) W8) := Lib.hid (HR.out.keep (by rw [hW8]; exact (Below.refl _ wr).alloc (Nat.le_refl _) _))
        have e0 : W8.cell? ⟨b8, 0, none⟩ = some (S n) := cell_of_row _ _ 0 _ _ (0, 0) hr8
        have e1 : W8.cell? ⟨b8, 1, none⟩ = some (S v) := cell_of_row _ _ 1 _ _ (0, 0) hr8
        have HWF := Lib.hid (wfield_any g _ n v HJ.out.2 W8 H8.out.bld)
        clear hfa hcl hf hkk hr8
        go_wp2_with fail
        all_goals try rw [← hW8, ← hb8]
        all_goals try go_wp2_with fail
        clear hW8 hb8 k0 k1 e0 e1
        refine HWF.out.mono ?_
        rintro e W9 ⟨rfl, hbl, hB⟩
        have H9 : Hid (BtAt W2 g (joinE (stL (u : Int) :: (fs.take (i + 1)).map fieldL)) W9) := Lib.hid (H8.out.put (by rw [HJ.out.1]; exact hbl) hB)
        clear hbl hB
        go_wp2
        exact ⟨⟨i + 1, by omega, by go_num, H9⟩, by simp [intOf]; omega⟩
      case neg =>
        obtain rfl : i = N := by omega
        have g3 : decide ((i : Int) < (i : Int)) = false := decide_eq_false (by omega)
        obtain ⟨x0, hx0⟩ : ∃ x, x = joinE (stL (u : Int) :: fs.map fieldL) := ⟨_, rfl⟩
        have HX0 := Lib.hid hx0
        have HE : Hid (BtAt W2 g x0 wr) := Lib.hid (by have h := HR.out; rw [HN.out, List.take_length, ← hx0] at h; exact h)
        clear hx0 HR
        have d0 := hSr.out _ wr HE.out
        go_wp2_with fail
        clear d0
        refine (HBR.out _).mono ?_
        rintro e W' ⟨rfl, h5⟩
        subst h5
        have HGW : Hid (w.heap.size ≤ g) := Lib.hid (by
          have h1 := H2.out.bel.size
          have h2 := HGE.out
          omega)
        cases nb with
        | false =>
          have d2 : W'.cell? ⟨b1, 2, none⟩ = some (S body) := cell_of_row W' _ 2 _ _ (0, 0) (HS.out _ _ HE.out).row
          have hlB := run_len_S (P := Tryz.prog) Tryz.underlying9 3 body
          obtain ⟨K, hK⟩ : ∃ K, K = body.length := ⟨_, rfl⟩
          rw [← hK] at hlB
          have HK := Lib.hid hK
          have HIK := Lib.hid fun W hP => outI.itoa (K : Int) W (by omega) (by have := HLL.out.2; omega) hP
          rw [itoa_nat] at HIK
          clear hK
          go_wp2_with fail
          clear d2
          refine (HIK.out _ (HT.out _ (HS.out _ _ HE.out).bel)).mono ?_
          rintro e W10 ⟨rfl, hB⟩
          have H10 := Lib.hid (HE.out.keep hB)
          clear hB
          have HLE : Hid ((stL (u : Int) :: fs.map fieldL) ++ [fieldL (lenF body.length)] ++ oneB false (fieldL clsF) = LS) := Lib.hid HLS.out
          have HWF := Lib.hid (wfield_any g x0 [67, 111, 110, 116, 101, 110, 116, 45, 76, 101, 110, 103, 116, 104] (Lib.decDigits K) (by
            have h1 := join_room HLE.out
            have h2 := HLL.out.1
            have h3 : (fieldL (lenF body.length)).length = (Lib.decDigits body.length).length + 16 := by
              have e : fieldL (lenF body.length) = [67, 111, 110, 116, 101, 110, 116, 45, 76, 101, 110, 103, 116, 104, 58, 32] ++ Lib.decDigits body.length := rfl
              rw [e, List.length_append]
              show 16 + _ = _
              omega
            rw [← HX0.out] at h1
            rw [← HK.out] at h3
            show _ + 14 + _ ≤ _
            rw [HK.out]
            rw [HK.out] at h3
            omega) W10 H10.out.bld)
          go_wp2_with fail
          refine HWF.out.mono ?_
          rintro e W11 ⟨rfl, hbl, hB⟩
          obtain ⟨x1, hx1⟩ : ∃ x, x = joinE ((stL (u : Int) :: fs.map fieldL) ++ [fieldL (lenF body.length)]) := ⟨_, rfl⟩
          have HX1 := Lib.hid hx1
          have HE1 : Hid (BtAt W2 g x1 W11) := Lib.hid (H10.out.put (by
            rw [hx1, joinE_one, ← HX0.out]
            have e : fieldL ([67, 111, 110, 116, 101, 110, 116, 45, 76, 101, 110, 103, 116, 104], Lib.decDigits K) = fieldL (lenF body.length) := by rw [HK.out]; rfl
            rw [← e]; exact hbl) hB)
          clear hbl hB hx1
          have HE2 : Hid (BtAt W2 g (joinE LS) W11) := Lib.hid (by
            have e : ((stL (u : Int) :: fs.map fieldL) ++ [fieldL (lenF body.length)]) = LS := by have := HLE.out; simpa [oneB] using this
            rw [← e, ← HX1.out]; exact HE1.out)
          cases head with
          | true =>
            have HWE := Lib.hid (wstr_any g (joinE LS) [13, 10] (by have := HLL.out.1; show _ + 2 ≤ _; omega) W11 HE2.out.bld)
            go_wp2_with fail
            refine HWE.out.mono ?_
            rintro e W13 ⟨rfl, hbl, hB⟩
            have HE3 := Lib.hid (HE2.out.put hbl hB)
            clear hbl hB
            have HST := Lib.hid (bstr_any g _ W13 HE3.out.bld)
            go_wp2_with fail
            refine HST.out.mono ?_
            rintro e W15 ⟨rfl, hB⟩
            have HB15 := Lib.hid ((HS.out _ _ HE3.out).bel.trans (hB.mono HGW.out))
            clear hB
            have HP : Hid (O = some (joinE LS ++ [13, 10])) := Lib.hid (by rw [HOK.out, HBY.out]; simp)
            go_wp2
            go_ret2
            exact ⟨by rw [HP.out]; rfl, HB15.out⟩
          | false =>
            have HWE := Lib.hid (wstr_any g (joinE LS) [13, 10] (by have := HLL.out.1; show _ + 2 ≤ _; omega) W11 HE2.out.bld)
            go_wp2_with fail
            refine HWE.out.mono ?_
            rintro e W13 ⟨rfl, hbl, hB⟩
            have HE3 := Lib.hid (HE2.out.put hbl hB)
            clear hbl hB
            have d3 : W13.cell? ⟨b1, 2, none⟩ = some (S body) := cell_of_row W13 _ 2 _ _ (0, 0) (HS.out _ _ HE3.out).row
            have HWB := Lib.hid (wstr_any g (joinE LS ++ [13, 10]) body (by have h1 := HLL.out.1; have h2 := HLL.out.2; rw [List.length_append]; show _ + 2 + _ ≤ _; omega) W13 HE3.out.bld)
            go_wp2_with fail
            clear d3
            refine HWB.out.mono ?_
            rintro e W14 ⟨rfl, hbl, hB⟩
            have HE4 := Lib.hid (HE3.out.put hbl hB)
            clear hbl hB
            have HST := Lib.hid (bstr_any g _ W14 HE4.out.bld)
            go_wp2_with fail
            refine HST.out.mono ?_
            rintro e W15 ⟨rfl, hB⟩
            have HB15 := Lib.hid ((HS.out _ _ HE4.out).bel.trans (hB.mono HGW.out))
            clear hB
            have HP : Hid (O = some (joinE LS ++ 13 :: 10 :: body)) := Lib.hid (by rw [HOK.out, HBY.out]; simp)
            go_wp2
            go_ret2
            exact ⟨by rw [HP.out]; rfl, HB15.out⟩
        | true =>
          have HE2 : Hid (BtAt W2 g (joinE LS) W') := Lib.hid (by
            have e : (stL (u : Int) :: fs.map fieldL) = LS := by have := HLS.out; simpa [oneB] using this
            rw [← e, ← HX0.out]; exact HE.out)
          cases head with
          | true =>
            have HWE := Lib.hid (wstr_any g (joinE LS) [13, 10] (by have := HLL.out.1; show _ + 2 ≤ _; omega) W' HE2.out.bld)
            go_wp2_with fail
            refine HWE.out.mono ?_
            rintro e W13 ⟨rfl, hbl, hB⟩
            have HE3 := Lib.hid (HE2.out.put hbl hB)
            clear hbl hB
            have HST := Lib.hid (bstr_any g _ W13 HE3.out.bld)
            go_wp2_with fail
            refine HST.out.mono ?_
            rintro e W15 ⟨rfl, hB⟩
            have HB15 := Lib.hid ((HS.out _ _ HE3.out).bel.trans (hB.mono HGW.out))
            clear hB
            have HP : Hid (O = some (joinE LS ++ [13, 10])) := Lib.hid (by rw [HOK.out, HBY.out]; simp)
            go_wp2
            go_ret2
            exact ⟨by rw [HP.out]; rfl, HB15.out⟩
          | false =>
            have HWE := Lib.hid (wstr_any g (joinE LS) [13, 10] (by have := HLL.out.1; show _ + 2 ≤ _; omega) W' HE2.out.bld)
            go_wp2_with fail
            refine HWE.out.mono ?_
            rintro e W13 ⟨rfl, hbl, hB⟩
            have HE3 := Lib.hid (HE2.out.put hbl hB)
            clear hbl hB
            have d3 : W13.cell? ⟨b1, 2, none⟩ = some (S body) := cell_of_row W13 _ 2 _ _ (0, 0) (HS.out _ _ HE3.out).row
            have HWB := Lib.hid (wstr_any g (joinE LS ++ [13, 10]) body (by have h1 := HLL.out.1; have h2 := HLL.out.2; rw [List.length_append]; show _ + 2 + _ ≤ _; omega) W13 HE3.out.bld)
            go_wp2_with fail
            clear d3
            refine HWB.out.mono ?_
            rintro e W14 ⟨rfl, hbl, hB⟩
            have HE4 := Lib.hid (HE3.out.put hbl hB)
            clear hbl hB
            have HST := Lib.hid (bstr_any g _ W14 HE4.out.bld)
            go_wp2_with fail
            refine HST.out.mono ?_
            rintro e W15 ⟨rfl, hB⟩
            have HB15 := Lib.hid ((HS.out _ _ HE4.out).bel.trans (hB.mono HGW.out))
            clear hB
            have HP : Hid (O = some (joinE LS ++ 13 :: 10 :: body)) := Lib.hid (by rw [HOK.out, HBY.out]; simp)
            go_wp2
            go_ret2
            exact ⟨by rw [HP.out]; rfl, HB15.out⟩
end Go.Proofs.YtfdbmbgpcioogaaGreatDoor
/- The landed package does what is asked of it. -/
namespace Go.Proofs.YtfdbmbgpcioogaaGreatDoor
open Go.RowKit

theorem replyI {w : World} (h : w.ShapedOpen Tryz.prog) (hT : PowAt w) : ReplyI w where
  reason := fun c w' _ => (reason_any c w').mono (by rintro e W ⟨h, rfl⟩; exact ⟨h, Below.refl _ _⟩)
  right := fun c fs body V b o w' _ hA hl => right_any c fs body V b o w' hA hl
  bytes := fun c fs body head close V b o w' hb hA hl => bytes10l_any c fs body head close V b o w' hA hl (outI.keep w w' hT hb)
  read := fun s head w' hb hs => read10l_any s head hs w' ((max_of h).below hb)
/-- What a row says of the numerals' table. -/
theorem pow_of {l : List (String × DataW Unit)} (hm : ("internal/strconv.uint64pow10", Rows.laid_internal_strconv_uint64pow10) ∈ l) {W : World} (h : laidMet Tryz.prog l W) : PowAt W := by
  obtain ⟨g', t', cs, fuel, p, hg', ht', hvar, hd⟩ := Lib.laidMet.reads h (n := "internal/strconv.uint64pow10") (d := Rows.laid_internal_strconv_uint64pow10) hm
  obtain rfl := Option.some.inj (hg'.symm.trans (show Tryz.prog.globalNamed "internal/strconv.uint64pow10" = some 1 by kernel_rfl))
  obtain rfl := Option.some.inj ((show (Tryz.prog.globals[1]?).map (·.type) = some 114 by kernel_rfl).symm.trans ht')
  unfold PowAt Lib.TabIs
  have hc := Lib.cells_of_tab (k := .u64) (n := 20) (zs := Lib.pow10Tab) Tryz.underlying114 Tryz.underlying96 (by kernel_rfl) (by kernel_rfl) (show DataW.trod _ Tryz.prog W 0 _ false fuel 114 cs.toList = some (Lib.tabData .u64 Lib.pow10Tab, p) from hd)
  rw [hvar, ← hc]
end Go.Proofs.YtfdbmbgpcioogaaGreatDoor
/- Two facts of the program. -/
namespace Go.Proofs.YtfdbmbgpcioogaaGreatDoor
open Go.ChangeShapes Go.WideShapes Go.ChangeAt Go.RowKit
theorem Tryz.own : ownKnob Tryz.prog.godebug = none := by kernel_rfl
theorem Tryz.laidOut : laidOutB Tryz.prog = true := by kernel_rfl
end Go.Proofs.YtfdbmbgpcioogaaGreatDoor
/- A lifted proof that is handed both: what is listed lies as it was laid, and the first world's shape. -/
namespace Go.Proofs.YtfdbmbgpcioogaaGreatDoor
open Go
variable {H : Type} {enc : TypeId × Value → H}
theorem returns_both {a : Assume} {C : Checked} {os : Os} {f : FuncId} {fn : Func} {s : ChangeSpec} {conds : List PathCond} {apart fresh handsOn again : Bool} {X : World → Array Value → Prop}
    (hX : ∀ (w w' : World) (args : Array Value), w.heap = w'.heap → X w args → X w' args)
    (own : ownKnob C.prog.godebug = none) (started : os.Started) (noInit : C.prog.inits.idxOf? f = none) (hfn : C.prog.funcs[f]? = some fn)
    (witness : ∃ (w : World) (tape : Tape) (i : Input), w.os = os ∧ (w.forCall tape i).Shaped C.prog ∧ i.vars = [] ∧ Input.okWide C.prog (w.forCall tape i) .any w.heap.size f i ∧
      ((s.pre enc C.prog fn conds apart (w.forCall tape i).memory i.args ∧ X (w.forCall tape i).memory i.args) ∧ sizedMet enc C.prog fn (OpenSpec.ofChange s) apart (w.forCall tape i).memory i.args) ∧ a.holds C.prog (lone (Frame.enter C.prog f i.args .normal) [] (w.forCall tape i)))
    (contract : ∀ (W : World) (base : Nat) (args : Array Value) (ds gs : List (DataW H)) (before : List MemPlace),
      (∀ (j : Nat) t v, fn.params[j]? = some t → args[j]? = some v → Value.okWide C.prog W .any base t v) →
      DataW.Whole enc C.prog fn.params.toList s.vars apart W args.toList ds gs before →
      conds.all (PathCond.test C.prog ⟨fn.params.toList, ds, s.plain.varTypes C.prog, gs⟩) = true →
      (DataW.weightsEach C.prog (fn.params.toList ++ s.plain.varTypes C.prog) (ds ++ gs)).all (· ≤ reachBytes) = true → X W args →
      W.ShapedOpen C.prog →
      a.holds C.prog (lone (Frame.enter C.prog f args .normal) [] W) →
      Calls C.prog f args W fun e W' => ∃ v, e = .returned v ∧ s.post enc C.prog fn apart fresh handsOn again W args v W') :
    ReturnsInHanded a C os f .any (fun w args => (s.pre enc C.prog fn conds apart w args ∧ X w args) ∧ sizedMet enc C.prog fn (OpenSpec.ofChange s) apart w args) (s.post enc C.prog fn apart fresh handsOn again) := by
  refine returnsInHanded_of_calls own started noInit witness ?_
  intro w tape i _ hsh _ hok hpre hholds
  obtain ⟨_, _, _, fn', hfn', _, _, _, _, hval⟩ := hok
  have e : fn' = fn := Option.some.inj (hfn'.symm.trans hfn)
  subst e
  obtain ⟨⟨⟨ds, gs, before, hw, hc⟩, hx⟩, hz⟩ := hpre
  have hw' := DataW.Whole.of_heap (w' := w.forCall tape i) (by rfl) hw
  refine (contract (w.forCall tape i) w.heap.size i.args ds gs before hval hw' hc (hz.weights hw) (hX _ _ _ (by rfl) hx) hsh hholds).mono fun e W' ⟨v, he, hp⟩ => ?_
  subst he
  exact ChangeSpec.post_blind hp
end Go.Proofs.YtfdbmbgpcioogaaGreatDoor
