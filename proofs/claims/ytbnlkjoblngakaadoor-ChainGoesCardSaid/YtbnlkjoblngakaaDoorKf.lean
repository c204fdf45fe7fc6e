/- ChainOnce (stage 13) walked, over any package of chains. -/
import Derived.Test.YtbnlkjoblngakaaDoorKe
namespace Go.Proofs.YtbnlkjoblngakaaDoor
open Go.RowKit Go.Shelf
attribute [local go_sem] store_one S_match S_store

theorem StA.lt {w : World} {V : Value} {l : List Stp} {b o : Nat} (h : StA w V l b o) (hne : l ≠ []) : b < w.heap.size := by
  cases l with
  | nil => exact absurd rfl hne
  | cons s r => exact World.block_lt_of_cell? w _ (h.cell 0 s rfl 1 _ rfl)
theorem Rest.cell {N : Nat → Prop} {w w' : World} (h : Rest N w w') {b q : Nat} {v : Value} (hb : ¬ N b) (hc : w.cell? ⟨b, q, none⟩ = some v) : w'.cell? ⟨b, q, none⟩ = some v := by
  rw [World.cell?_of_block (w := w) (h.rest b (World.block_lt_of_cell? w _ hc) hb)]; exact hc
set_option maxRecDepth 100000 in
set_option maxHeartbeats 2000000 in
theorem once13_any {w : World} (C : ChainI w) (l : List Stp) (V : Value) (bs os : Nat) (hS : StA w V l bs os) (r : Rq) (Vr : Value) (b o : Nat) (hA : FA w Vr r.fs b o) :
    Calls Tryd.prog 7 #[V, rqV r Vr] w fun e w' => e = .returned (.bool true) ∧ Below w.heap.size w w' := by
  unfold rqV
  obtain ⟨W1, hW1⟩ : ∃ W, W = w.alloc (.cells (rqC r Vr) 25) := ⟨_, rfl⟩
  have hM : RqAt w w.heap.size r Vr b o W1 := by rw [hW1]; exact rqAt_new hA
  have hS1 : StA W1 V l bs os := hS.below hM.bel
  obtain ⟨b1, hb1⟩ : ∃ b, b = w.heap.size := ⟨_, rfl⟩
  rw [← hb1] at hM
  have c0 : W1.cell? ⟨b1, 0, none⟩ = some (S r.m) := hM.cell 0 _ rfl
  have c1 : W1.cell? ⟨b1, 1, none⟩ = some (S r.p) := hM.cell 1 _ rfl
  have c2 : W1.cell? ⟨b1, 2, none⟩ = some (S r.q) := hM.cell 2 _ rfl
  have c3 : W1.cell? ⟨b1, 3, none⟩ = some (.int .i64 r.v) := hM.cell 3 _ rfl
  have c4 : W1.cell? ⟨b1, 4, none⟩ = some (Vr) := hM.cell 4 _ rfl
  have c5 : W1.cell? ⟨b1, 5, none⟩ = some (S r.body) := hM.cell 5 _ rfl
  have c6 : W1.cell? ⟨b1, 6, none⟩ = some (.bool r.cl) := hM.cell 6 _ rfl
  have hbw : r.fs ≠ [] → b < w.heap.size := fun h => hA.lt h
  have HBS := Lib.hid (fun h : l ≠ [] => hS.lt h)
  have HB := Lib.hid hbw
  have HC := Lib.hid C
  have HM := Lib.hid hM
  have HS := Lib.hid hS1
  have hg := great13_any l V bs os r Vr b o W1 hS1 hM.fa
  have HG := Lib.hid hg
  clear hg C hM hS1 hS hA hbw
  unfold rqV at HG
  rw [hW1] at HG c0 c1 c2 c3 c4 c5 c6
  rw [hb1] at c0 c1 c2 c3 c4 c5 c6
  have hrc : rqC r Vr = #[S r.m, S r.p, S r.q, .int .i64 r.v, Vr, S r.body, .bool r.cl] := rfl
  rw [hrc] at HG hW1 ⊢
  simp only [hrc] at c0 c1 c2 c3 c4 c5 c6
  clear hrc
  go_enter Tryd.func7, Tryd.ntmps7
  go_wp2_with fail
  refine HG.out.mono ?_
  rintro e W2 ⟨x, rfl, hx, hB⟩
  rw [← hW1] at hB
  have H2 := Lib.hid (HM.out.below hB)
  have HS2 := Lib.hid (HS.out.below hB)
  clear hB HG c0 c1 c2 c3 c4 c5 c6 HM HS
  cases x with
  | true =>
    have HW := Lib.hid (wakes13_any (HC.out.up H2.out.bel))
    clear hx
    go_wp2_with fail
    refine HW.out.mono ?_
    rintro e W3 ⟨rfl, hB⟩
    have HE := Lib.hid (H2.out.bel.trans (hB.mono H2.out.bel.size))
    clear hB
    go_wp2
    go_ret
    exact ⟨rfl, HE.out⟩
  | false =>
    obtain ⟨hsl, hsr⟩ := hx rfl
    have HSL := Lib.hid hsl
    have HSR := Lib.hid hsr
    clear hx hsl hsr
    obtain ⟨bn, hbn⟩ : ∃ b, b = W2.heap.size := ⟨_, rfl⟩
    obtain ⟨W3, hW3⟩ : ∃ W, W = W2.alloc (.cells #[.int .i64 0] 3) := ⟨_, rfl⟩
    have hB3 : Below W2.heap.size W2 W3 := by rw [hW3]; exact (Below.refl _ _).alloc (Nat.le_refl _) _
    have hn3 : Row W3 bn #[.int .i64 0] 3 := by rw [hW3, hbn]; exact row_new _ _ _
    have H3 := Lib.hid (H2.out.below hB3)
    have HS3 := Lib.hid (HS2.out.below hB3)
    have HN3 := Lib.hid hn3
    have HLT : Hid (w.heap.size < bn) := Lib.hid (by rw [hbn, ← hb1]; exact H2.out.row.lt)
    have hwr := HC.out.wrap l V bs os 22 #[.pointer (some ⟨bn, 0, none⟩)] W3 H3.out.bel HS3.out HSL.out (enters_of Tryd.func22 (by kernel_rfl) rfl)
    have HW := Lib.hid hwr
    rw [hbn, hW3] at HW
    unfold hV at HW
    clear hwr hB3 hn3 H2 HS2
    go_wp2_with fail
    refine HW.out.mono ?_
    rintro e W4 ⟨hB4, h4⟩
    rw [← hW3] at hB4 h4
    rw [← hbn] at h4 ⊢
    clear HW hbn hW3
    have H4 := Lib.hid (H3.out.below hB4)
    have HS4 := Lib.hid (HS3.out.below hB4)
    have HN4 := Lib.hid (HN3.out.below hB4 HN3.out.lt)
    rcases h4 with ⟨h4, rfl⟩ | ⟨_, g, lb, rfl, hen, hd⟩
    · have HW := Lib.hid (wakes13_any (HC.out.up H4.out.bel))
      have heq : ∀ w, (binOp .eql 40 .nilFunc .nilFunc).run Tryd.prog w = .ok (.bool true) w := eql_nilnil Tryd.underlying40
      obtain ⟨wc, hwc⟩ : ∃ c, c = wrapC l := ⟨_, rfl⟩
      rw [← hwc] at h4 ⊢
      have hne : ((wc : Int) != 0) = true := by rw [bne_iff_ne]; omega
      clear hwc hB4
      go_wp2_with fail
      refine HW.out.mono ?_
      rintro e W5 ⟨rfl, hB⟩
      have HE := Lib.hid (H4.out.bel.trans (hB.mono H4.out.bel.size))
      clear hB
      go_wp2
      go_ret
      exact ⟨rfl, HE.out⟩
    · have hen' : ∀ args w, (callFunc g args).run Tryd.prog w = .ok (.enter g args) w := hen
      have heq : ∀ w, (binOp .eql 40 (.func (.func g) #[] lb) .nilFunc).run Tryd.prog w = .ok (.bool false) w := eql_nilFunc Tryd.underlying40 (.func g) #[] lb
      have hdo := once_does hd HN3.out.lt (W := W4) (Nat.le_refl _) hB4.size (fun k _ _ => rfl) r Vr b o H4.out.fa HSR.out (fun h => ⟨by have := HB.out h; have := H4.out.bel.size; omega, by have := HB.out h; have := HLT.out; omega⟩) HN4.out
      have HDO := Lib.hid hdo
      unfold rqV at HDO
      have c0 : W4.cell? ⟨b1, 0, none⟩ = some (S r.m) := H4.out.cell 0 _ rfl
      have c1 : W4.cell? ⟨b1, 1, none⟩ = some (S r.p) := H4.out.cell 1 _ rfl
      have c2 : W4.cell? ⟨b1, 2, none⟩ = some (S r.q) := H4.out.cell 2 _ rfl
      have c3 : W4.cell? ⟨b1, 3, none⟩ = some (.int .i64 r.v) := H4.out.cell 3 _ rfl
      have c4 : W4.cell? ⟨b1, 4, none⟩ = some (Vr) := H4.out.cell 4 _ rfl
      have c5 : W4.cell? ⟨b1, 5, none⟩ = some (S r.body) := H4.out.cell 5 _ rfl
      have c6 : W4.cell? ⟨b1, 6, none⟩ = some (.bool r.cl) := H4.out.cell 6 _ rfl
      have hrc : rqC r Vr = #[S r.m, S r.p, S r.q, .int .i64 r.v, Vr, S r.body, .bool r.cl] := rfl
      rw [hrc] at HDO
      rw [hb1] at c0 c1 c2 c3 c4 c5 c6
      clear hrc hd hB4 hdo
      go_wp2_with fail
      refine HDO.out.mono ?_
      rintro e W5 ⟨c, n, V5, body5, fs5, rfl, hF5, hn5, hR5, hcase⟩
      obtain ⟨g5, hA5, -⟩ := FO.fa hF5
      obtain ⟨a5, q5, hv5⟩ := hA5.form
      subst hv5
      have hS5 : StA W5 V l bs os := HS4.out.same (fun h => hR5.rest bs (by have := HBS.out h; have := H4.out.bel.size; omega) (by have := HBS.out h; have := HLT.out; omega))
      have hB5 : Below w.heap.size w W5 := H4.out.bel.trans (hR5.below (fun k hk e => by have := HLT.out; omega) H4.out.bel.size)
      obtain ⟨K, hK⟩ : ∃ K, K = fs5.length := ⟨_, rfl⟩
      rw [← hK] at hcase ⊢
      obtain ⟨W6, hW6⟩ : ∃ W, W = W5.alloc (.cells #[.int .i64 c, .slice a5 K q5, S body5] 27) := ⟨_, rfl⟩
      obtain ⟨b6, hb6⟩ : ∃ b, b = W5.heap.size := ⟨_, rfl⟩
      have hB6 : Below W5.heap.size W5 W6 := by rw [hW6]; exact (Below.refl _ _).alloc (Nat.le_refl _) _
      have hr6 : Row W6 b6 #[.int .i64 c, .slice a5 K q5, S body5] 27 := by rw [hW6, hb6]; exact row_new _ _ _
      have HS6 := Lib.hid (hS5.below hB6)
      have HB6 := Lib.hid (hB5.trans (hB6.mono hB5.size))
      have hn6 := hn5.below hB6 hn5.lt
      have c0 : W6.cell? ⟨b6, 0, none⟩ = some (.int .i64 c) := cell_of_row W6 b6 0 _ _ (0, 0) hr6
      have c1 : W6.cell? ⟨b6, 1, none⟩ = some (.slice a5 K q5) := cell_of_row W6 b6 1 _ _ (0, 0) hr6
      have c2 : W6.cell? ⟨b6, 2, none⟩ = some (S body5) := cell_of_row W6 b6 2 _ _ (0, 0) hr6
      have cn : W6.cell? ⟨bn, 0, none⟩ = some (.int .i64 (n : Int)) := cell_of_row W6 bn 0 _ _ (0, 0) hn6
      have hlS := HS6.out.len 3
      obtain ⟨N, hN⟩ : ∃ N, N = l.length := ⟨_, rfl⟩
      rw [← hN] at hlS
      have HN := Lib.hid hN
      have HCASE := Lib.hid hcase
      have hlK : ∀ w', (Builtin.len_ #[23] 3 #[.slice a5 K q5]).run Tryd.prog w' = .ok (.int .i64 (K : Int)) w' := fun w' => by simp [Builtin.len_, run_underlying Tryd.underlying23, Result.andThen, goInt]
      clear hF5 hA5 hS5 hB5 hcase hK hB6 hr6 hn6 hn5 hR5 hN HDO HN4 HN3 H4 HS4 H3 HS3
      unfold rpV rpC
      dsimp only
      go_wp2
      rw [← hW6, ← hb6]
      clear hW6 hb6
      have hN12 : N ≤ 12 := by have := HSL.out.1; have := HN.out; omega
      go_loopw [9, 10] (fun av iv wz => ∃ i : Nat, i ≤ N ∧ av = .int .i64 ((cntS (l.take i) : Nat) : Int) ∧ iv = .int .i64 (i : Int) ∧ wz = W6) (fun _ iv _ => N - (intOf iv).toNat)
      case atStart => exact ⟨0, Nat.zero_le _, rfl, rfl, rfl⟩
      case round =>
        obtain ⟨i, hi, rfl, rfl, hwz⟩ := hrel
        subst hwz
        have hw1 : IntKind.i64.wrap ((i : Int) + 1) = (i : Int) + 1 := by rw [IntKind.wrap_i64]; omega
        have hcl : cntS (l.take i) ≤ 12 := by
          have h1 : cntS (l.take i) ≤ (l.take i).length := List.length_filter_le _ _
          rw [List.length_take] at h1; omega
        by_cases hlt : i < N
        case pos =>
          have g1 : decide ((i : Int) < (N : Int)) = true := decide_eq_true (by omega)
          obtain ⟨s, hs⟩ : ∃ s, l[i]? = some s := ⟨l[i]'(by have := HN.out; omega), List.getElem?_eq_getElem _⟩
          have hix := HS6.out.index i (by have := HN.out; omega)
          obtain ⟨kk, hkk⟩ : ∃ k, k = os + i * 4 := ⟨_, rfl⟩
          have d0 : wr.cell? ⟨bs, kk, none⟩ = some (.int .i64 s.kind) := by rw [hkk]; exact HS6.out.cell i s hs 0 _ rfl
          rw [← hkk] at hix
          have HX := Lib.hid (cnt_next hs)
          obtain ⟨A, hA⟩ : ∃ A, A = cntS (l.take i) := ⟨_, rfl⟩
          rw [← hA] at hcl HX ⊢
          have hwa : IntKind.i64.wrap ((A : Int) + 1) = (A : Int) + 1 := by rw [IntKind.wrap_i64]; omega
          generalize s.kind = kd at *
          clear hs hkk hA
          by_cases k1 : kd = 1
          · have e1 : (kd == 1) = true := beq_iff_eq.2 k1
            have HX2 : Hid (cntS (l.take (i + 1)) = A + 1) := Lib.hid (by rw [HX.out, if_pos (.inl k1)])
            clear k1
            go_wp2
            exact ⟨⟨i + 1, by omega, by rw [HX2.out]; go_num, by go_num, by trivial⟩, by simp [intOf]; omega⟩
          · have e1 : (kd == 1) = false := beq_eq_false_iff_ne.2 k1
            by_cases k5 : kd = 5
            · have e5 : (kd == 5) = true := beq_iff_eq.2 k5
              have HX2 : Hid (cntS (l.take (i + 1)) = A + 1) := Lib.hid (by rw [HX.out, if_pos (.inr k5)])
              clear k1 k5
              go_wp2
              exact ⟨⟨i + 1, by omega, by rw [HX2.out]; go_num, by go_num, by trivial⟩, by simp [intOf]; omega⟩
            · have e5 : (kd == 5) = false := beq_eq_false_iff_ne.2 k5
              have HX2 : Hid (cntS (l.take (i + 1)) = A) := Lib.hid (by rw [HX.out, if_neg (fun h => h.elim k1 k5), Nat.add_zero])
              clear k1 k5
              go_wp2
              exact ⟨⟨i + 1, by omega, by rw [HX2.out], by go_num, by trivial⟩, by simp [intOf]; omega⟩
        case neg =>
          have g1 : decide ((i : Int) < (N : Int)) = false := decide_eq_false (by omega)
          have HA : Hid (cntS (l.take i) = cntS l) := Lib.hid (by rw [show i = l.length by have := HN.out; omega, List.take_length])
          rw [HA.out] at hcl ⊢
          generalize cntS l = A at *
          have HW := Lib.hid (wakes13_any (HC.out.up HB6.out))
          clear hw1 HA
          rcases HCASE.out with ⟨rfl, rfl, rfl⟩ | ⟨rfl, hle, h3⟩
          · have e1 : ((K : Int) == (K : Int)) = true := by simp
            go_wp2_with fail
            refine HW.out.mono ?_
            rintro e W7 ⟨rfl, hB⟩
            have HE := Lib.hid (HB6.out.trans (hB.mono HB6.out.size))
            clear hB
            go_wp2
            go_ret
            exact ⟨rfl, HE.out⟩
          · have e1 : decide ((K : Int) ≤ (A : Int)) = true := decide_eq_true (by omega)
            have e1' : decide (K ≤ A) = true := decide_eq_true hle
            clear hle HCASE
            have qa : binOp .eql 9 (S [102, 111, 114, 98, 105, 100, 100, 101, 110]) (.string ⟨#[102, 111, 114, 98, 105, 100, 100, 101, 110]⟩) = pure (.bool true) := by rw [show Value.string ⟨#[102, 111, 114, 98, 105, 100, 100, 101, 110]⟩ = S [102, 111, 114, 98, 105, 100, 100, 101, 110] from rfl, eql_S]; rfl
            have na : ∀ x y, eqGuard .eql 9 x y (S [102, 111, 114, 98, 105, 100, 100, 101, 110]) (.string ⟨#[102, 111, 114, 98, 105, 100, 100, 101, 110]⟩) = pure () := fun x y => guard_S 9 x y [102, 111, 114, 98, 105, 100, 100, 101, 110] [102, 111, 114, 98, 105, 100, 100, 101, 110]
            have qb : binOp .eql 9 (S [116, 111, 111, 32, 108, 111, 110, 103]) (.string ⟨#[116, 111, 111, 32, 108, 111, 110, 103]⟩) = pure (.bool true) := by rw [show Value.string ⟨#[116, 111, 111, 32, 108, 111, 110, 103]⟩ = S [116, 111, 111, 32, 108, 111, 110, 103] from rfl, eql_S]; rfl
            have nb : ∀ x y, eqGuard .eql 9 x y (S [116, 111, 111, 32, 108, 111, 110, 103]) (.string ⟨#[116, 111, 111, 32, 108, 111, 110, 103]⟩) = pure () := fun x y => guard_S 9 x y [116, 111, 111, 32, 108, 111, 110, 103] [116, 111, 111, 32, 108, 111, 110, 103]
            have qc : binOp .eql 9 (S [110, 111, 116, 32, 102, 111, 117, 110, 100]) (.string ⟨#[110, 111, 116, 32, 102, 111, 117, 110, 100]⟩) = pure (.bool true) := by rw [show Value.string ⟨#[110, 111, 116, 32, 102, 111, 117, 110, 100]⟩ = S [110, 111, 116, 32, 102, 111, 117, 110, 100] from rfl, eql_S]; rfl
            have nc : ∀ x y, eqGuard .eql 9 x y (S [110, 111, 116, 32, 102, 111, 117, 110, 100]) (.string ⟨#[110, 111, 116, 32, 102, 111, 117, 110, 100]⟩) = pure () := fun x y => guard_S 9 x y [110, 111, 116, 32, 102, 111, 117, 110, 100] [110, 111, 116, 32, 102, 111, 117, 110, 100]
            rcases h3 with ⟨rfl, rfl⟩ | ⟨rfl, rfl⟩ | ⟨rfl, rfl⟩
            all_goals
              go_wp2_with fail
              refine HW.out.mono ?_
              rintro e W7 ⟨rfl, hB⟩
              have HE := Lib.hid (HB6.out.trans (hB.mono HB6.out.size))
              clear hB
              go_wp2
              go_ret
              exact ⟨rfl, HE.out⟩
end Go.Proofs.YtbnlkjoblngakaaDoor
