/- The law's Great and ChainNobody (stage 13) walked. -/
import Derived.Test.YtbnlkjoblngakaaDoorKc
namespace Go.Proofs.YtbnlkjoblngakaaDoor
open Go.RowKit Go.Shelf
attribute [local go_sem] store_one S_match S_store

/-- A request in its box, its fields beside it. -/
structure RqAt (w : World) (b1 : Nat) (r : Rq) (V : Value) (b o : Nat) (W : World) : Prop where
  row : Row W b1 (rqC r V) 25
  fa : FA W V r.fs b o
  bel : Below w.heap.size w W
theorem RqAt.below {w W W' : World} {b1 : Nat} {r : Rq} {V : Value} {b o : Nat} (h : RqAt w b1 r V b o W) (hb : Below W.heap.size W W') : RqAt w b1 r V b o W' :=
  ⟨h.row.below hb h.row.lt, h.fa.below hb, h.bel.trans (hb.mono h.bel.size)⟩
theorem rqAt_new {w : World} {r : Rq} {V : Value} {b o : Nat} (hA : FA w V r.fs b o) : RqAt w w.heap.size r V b o (w.alloc (.cells (rqC r V) 25)) :=
  ⟨row_new _ _ _, hA.below ((Below.refl _ _).alloc (Nat.le_refl _) _), (Below.refl _ _).alloc (Nat.le_refl _) _⟩
theorem RqAt.cell {w W : World} {b1 : Nat} {r : Rq} {V : Value} {b o : Nat} (h : RqAt w b1 r V b o W) (j : Nat) (v : Value) (hv : (rqC r V)[j]? = some v) : W.cell? ⟨b1, j, none⟩ = some v := by
  rw [cell_of_row W b1 j _ _ (0, 0) h.row]; exact hv
set_option maxRecDepth 100000 in
set_option maxHeartbeats 2000000 in
theorem great13_any (l : List Stp) (V : Value) (bs os : Nat) (r : Rq) (Vr : Value) (b o : Nat) (w : World) (hS : StA w V l bs os) (hA : FA w Vr r.fs b o) :
    Calls Tryd.prog 9 #[V, rqV r Vr] w fun e w' => ∃ x, e = .returned (.bool x) ∧ (x = false → SmallS l ∧ SmallR r) ∧ Below w.heap.size w w' := by
  unfold rqV
  obtain ⟨W1, hW1⟩ : ∃ W, W = w.alloc (.cells (rqC r Vr) 25) := ⟨_, rfl⟩
  have hM : RqAt w w.heap.size r Vr b o W1 := by rw [hW1]; exact rqAt_new hA
  obtain ⟨b1, hb1⟩ : ∃ b, b = w.heap.size := ⟨_, rfl⟩
  have hS1 : StA W1 V l bs os := by rw [hW1]; exact hS.below ((Below.refl _ _).alloc (Nat.le_refl _) _)
  have HM := Lib.hid (And.intro hM hS1)
  rw [← hb1] at HM
  have hlS := hS.len 3
  have hlF := hA.len 3
  have hlP := run_len_S (P := Tryd.prog) Tryd.underlying9 3 r.p
  have hlB := run_len_S (P := Tryd.prog) Tryd.underlying9 3 r.body
  obtain ⟨N, hN⟩ : ∃ N, N = l.length := ⟨_, rfl⟩
  obtain ⟨K, hK⟩ : ∃ N, N = r.fs.length := ⟨_, rfl⟩
  obtain ⟨LP, hLP⟩ : ∃ N, N = r.p.length := ⟨_, rfl⟩
  obtain ⟨LB, hLB⟩ : ∃ N, N = r.body.length := ⟨_, rfl⟩
  rw [← hN] at hlS
  rw [← hK] at hlF
  rw [← hLP] at hlP
  rw [← hLB] at hlB
  have c1 : W1.cell? ⟨b1, 1, none⟩ = some (S r.p) := HM.out.1.cell 1 _ rfl
  have c4 : W1.cell? ⟨b1, 4, none⟩ = some Vr := HM.out.1.cell 4 _ rfl
  have c5 : W1.cell? ⟨b1, 5, none⟩ = some (S r.body) := HM.out.1.cell 5 _ rfl
  have HQ := Lib.hid (And.intro hN (And.intro hK (And.intro hLP hLB)))
  rw [hW1] at c1 c4 c5
  unfold rqC at c1 c4 c5 hW1 ⊢
  clear hM hS1 hN hK hLP hLB hS hA
  obtain ⟨m, p, q, v, fs, body, cl⟩ := r
  dsimp only at *
  have HQ2 : Hid (K = fs.length ∧ LP = p.length ∧ LB = body.length) := Lib.hid ⟨HQ.out.2.1, HQ.out.2.2.1, HQ.out.2.2.2⟩
  have HA2 : Hid (FA W1 Vr fs b o) := Lib.hid HM.out.1.fa
  have HE : Hid (Below w.heap.size w (w.alloc (.cells #[S m, S p, S q, .int .i64 v, Vr, S body, .bool cl] 25))) := Lib.hid ((Below.refl _ _).alloc (Nat.le_refl _) _)
  by_cases h1 : 12 < N
  · have g1 : decide ((12 : Int) < (N : Int)) = true := decide_eq_true (by omega)
    rw [hb1] at c1 c4 c5
    go_enter Tryd.func9, Tryd.ntmps9
    go_wp2
    go_ret
    exact ⟨true, rfl, fun h => (by cases h), HE.out⟩
  have g1 : decide ((12 : Int) < (N : Int)) = false := decide_eq_false (by omega)
  by_cases h2 : 40 < K
  · have g2 : decide ((40 : Int) < (K : Int)) = true := decide_eq_true (by omega)
    rw [hb1] at c1 c4 c5
    go_enter Tryd.func9, Tryd.ntmps9
    go_wp2
    go_ret
    exact ⟨true, rfl, fun h => (by cases h), HE.out⟩
  have g2 : decide ((40 : Int) < (K : Int)) = false := decide_eq_false (by omega)
  by_cases h3 : 300 < LP
  · have g3 : decide ((300 : Int) < (LP : Int)) = true := decide_eq_true (by omega)
    rw [hb1] at c1 c4 c5
    go_enter Tryd.func9, Tryd.ntmps9
    go_wp2
    go_ret
    exact ⟨true, rfl, fun h => (by cases h), HE.out⟩
  have g3 : decide ((300 : Int) < (LP : Int)) = false := decide_eq_false (by omega)
  by_cases h4 : 3000 < LB
  · have g4 : decide ((3000 : Int) < (LB : Int)) = true := decide_eq_true (by omega)
    rw [hb1] at c1 c4 c5
    go_enter Tryd.func9, Tryd.ntmps9
    go_wp2
    go_ret
    exact ⟨true, rfl, fun h => (by cases h), HE.out⟩
  have g4 : decide ((3000 : Int) < (LB : Int)) = false := decide_eq_false (by omega)
  rw [hb1] at c1 c4 c5
  go_enter Tryd.func9, Tryd.ntmps9
  go_wp2
  rw [← hW1] at c1 c4 c5 HE ⊢
  rw [← hb1] at c1 c4 c5 ⊢
  clear hW1 hb1
  go_loopw [5] (fun iv wr => ∃ i : Nat, i ≤ N ∧ iv = .int .i64 (i : Int) ∧ wr = W1 ∧ Hid (∀ s ∈ l.take i, s.name.length ≤ 100 ∧ s.val.length ≤ 100)) (fun iv _ => N - (intOf iv).toNat)
  case atStart => exact ⟨0, Nat.zero_le _, rfl, rfl, Lib.hid (by simp)⟩
  case round =>
    obtain ⟨i, hi, rfl, hwr, HR⟩ := hrel
    subst hwr
    have hw1 : IntKind.i64.wrap ((i : Int) + 1) = (i : Int) + 1 := by rw [IntKind.wrap_i64]; omega
    by_cases hlt : i < N
    · have g5 : decide ((i : Int) < (N : Int)) = true := decide_eq_true (by omega)
      obtain ⟨s, hs⟩ : ∃ s, l[i]? = some s := ⟨l[i]'(by have := HQ.out.1; omega), List.getElem?_eq_getElem _⟩
      have hix := HM.out.2.index i (by have := HQ.out.1; omega)
      obtain ⟨kk, hkk⟩ : ∃ k, k = os + i * 4 := ⟨_, rfl⟩
      have d1 : wr.cell? ⟨bs, kk + 1, none⟩ = some (S s.name) := by rw [hkk]; exact HM.out.2.cell i s hs 1 _ rfl
      have d2 : wr.cell? ⟨bs, kk + 2, none⟩ = some (S s.val) := by rw [hkk]; exact HM.out.2.cell i s hs 2 _ rfl
      rw [← hkk] at hix
      have hl1 := run_len_S (P := Tryd.prog) Tryd.underlying9 3 s.name
      have hl2 := run_len_S (P := Tryd.prog) Tryd.underlying9 3 s.val
      obtain ⟨n1, hn1⟩ : ∃ n, n = s.name.length := ⟨_, rfl⟩
      obtain ⟨n2, hn2⟩ : ∃ n, n = s.val.length := ⟨_, rfl⟩
      rw [← hn1] at hl1
      rw [← hn2] at hl2
      by_cases k1 : 100 < n1
      · have g6 : decide ((100 : Int) < (n1 : Int)) = true := decide_eq_true (by omega)
        clear hs hkk hn1 hn2
        go_wp2
        go_ret
        exact ⟨true, rfl, fun h => (by cases h), HE.out⟩
      have g6 : decide ((100 : Int) < (n1 : Int)) = false := decide_eq_false (by omega)
      by_cases k2 : 100 < n2
      · have g7 : decide ((100 : Int) < (n2 : Int)) = true := decide_eq_true (by omega)
        clear hs hkk hn1 hn2
        go_wp2
        go_ret
        exact ⟨true, rfl, fun h => (by cases h), HE.out⟩
      have g7 : decide ((100 : Int) < (n2 : Int)) = false := decide_eq_false (by omega)
      have HX : Hid (∀ s ∈ l.take (i + 1), s.name.length ≤ 100 ∧ s.val.length ≤ 100) := Lib.hid (by
        intro t ht
        rw [List.take_add_one, hs] at ht
        rcases List.mem_append.1 ht with ht | ht
        · exact HR.out t ht
        · have : t = s := by simpa using ht
          rw [this]; omega)
      clear hs hkk hn1 hn2
      go_wp2
      exact ⟨⟨i + 1, by omega, by go_num, by trivial, HX⟩, by simp [intOf]; omega⟩
    · have g5 : decide ((i : Int) < (N : Int)) = false := decide_eq_false (by omega)
      have HS : Hid (SmallS l) := Lib.hid ⟨by have := HQ.out.1; omega, by
        have h := HR.out
        rwa [show i = l.length by have := HQ.out.1; omega, List.take_length] at h⟩
      clear hw1 HR
      go_wp2
      go_loopw [6] (fun iv wz => ∃ j : Nat, j ≤ K ∧ iv = .int .i64 (j : Int) ∧ wz = wr ∧ Hid (∀ f ∈ fs.take j, f.1.length ≤ 200 ∧ f.2.length ≤ 200)) (fun iv _ => K - (intOf iv).toNat)
      case atStart => exact ⟨0, Nat.zero_le _, rfl, rfl, Lib.hid (by simp)⟩
      case round =>
        obtain ⟨j, hj, rfl, hwz, HR⟩ := hrel
        subst hwz
        have hw1 : IntKind.i64.wrap ((j : Int) + 1) = (j : Int) + 1 := by rw [IntKind.wrap_i64]; omega
        by_cases hlt2 : j < K
        · have g6 : decide ((j : Int) < (K : Int)) = true := decide_eq_true (by omega)
          obtain ⟨⟨fn, fv⟩, hf⟩ : ∃ f, fs[j]? = some f := ⟨fs[j]'(by have := HQ2.out.1; omega), List.getElem?_eq_getElem _⟩
          have hix := HA2.out.index j (by have := HQ2.out.1; omega)
          have hc := HA2.out.cell j (fn, fv) hf
          obtain ⟨kk, hkk⟩ : ∃ k, k = o + j * 2 := ⟨_, rfl⟩
          rw [← hkk] at hix hc
          have d1 : wr.cell? ⟨b, kk, none⟩ = some (S fn) := hc.1
          have d2 : wr.cell? ⟨b, kk + 1, none⟩ = some (S fv) := hc.2
          have hl1 := run_len_S (P := Tryd.prog) Tryd.underlying9 3 fn
          have hl2 := run_len_S (P := Tryd.prog) Tryd.underlying9 3 fv
          obtain ⟨n1, hn1⟩ : ∃ n, n = fn.length := ⟨_, rfl⟩
          obtain ⟨n2, hn2⟩ : ∃ n, n = fv.length := ⟨_, rfl⟩
          rw [← hn1] at hl1
          rw [← hn2] at hl2
          by_cases k1 : 200 < n1
          · have g7 : decide ((200 : Int) < (n1 : Int)) = true := decide_eq_true (by omega)
            clear hf hkk hn1 hn2 hc
            go_wp2
            go_ret
            exact ⟨true, rfl, fun h => (by cases h), HE.out⟩
          have g7 : decide ((200 : Int) < (n1 : Int)) = false := decide_eq_false (by omega)
          by_cases k2 : 200 < n2
          · have g8 : decide ((200 : Int) < (n2 : Int)) = true := decide_eq_true (by omega)
            clear hf hkk hn1 hn2 hc
            go_wp2
            go_ret
            exact ⟨true, rfl, fun h => (by cases h), HE.out⟩
          have g8 : decide ((200 : Int) < (n2 : Int)) = false := decide_eq_false (by omega)
          have HX : Hid (∀ f ∈ fs.take (j + 1), f.1.length ≤ 200 ∧ f.2.length ≤ 200) := Lib.hid (by
            intro t ht
            rw [List.take_add_one, hf] at ht
            rcases List.mem_append.1 ht with ht | ht
            · exact HR.out t ht
            · have : t = (fn, fv) := by simpa using ht
              rw [this]; exact ⟨by show fn.length ≤ 200; omega, by show fv.length ≤ 200; omega⟩)
          clear hf hkk hn1 hn2 hc
          go_wp2
          exact ⟨⟨j + 1, by omega, by go_num, by trivial, HX⟩, by simp [intOf]; omega⟩
        · have g6 : decide ((j : Int) < (K : Int)) = false := decide_eq_false (by omega)
          have HF : Hid (SmallR ⟨m, p, q, v, fs, body, cl⟩) := Lib.hid ⟨by have := HQ2.out.1; show fs.length ≤ 40; omega, by have := HQ2.out.2.1; show p.length ≤ 300; omega, by have := HQ2.out.2.2; show body.length ≤ 3000; omega, by
            have h := HR.out
            rwa [show j = fs.length by have := HQ2.out.1; omega, List.take_length] at h⟩
          go_wp2
          go_ret
          exact ⟨false, rfl, fun _ => ⟨HS.out, HF.out⟩, HE.out⟩
theorem eql_nilnil {t : TypeId} {ps rs : Array TypeId} {v : Bool} (hu : Tryd.prog.underlying t = some (.func ps rs v)) (w : World) : (binOp .eql t .nilFunc .nilFunc).run Tryd.prog w = .ok (.bool true) w := by
  have e : (Op.equal t .nilFunc .nilFunc).run Tryd.prog w = .ok true w := by
    unfold Op.equal
    rw [show Op.maxDepth = 9999 + 1 from rfl]
    unfold Op.equalIn
    simp [Sem.run_bind, run_underlying hu, Result.andThen]
  simp [binOp, e, Result.andThen]
theorem rq0_fa (w : World) : FA w (.slice none 0 0) (⟨[], [], [], 0, [], [], false⟩ : Rq).fs 0 0 := fa_nil w none 0
set_option maxRecDepth 100000 in
set_option maxHeartbeats 1000000 in
theorem nobody13_any {w : World} (C : ChainI w) (l : List Stp) (V : Value) (b o : Nat) (hS : StA w V l b o) :
    Calls Tryd.prog 4 #[V] w fun e w' => e = .returned (.bool true) ∧ Below w.heap.size w w' := by
  have hg := great13_any l V b o ⟨[], [], [], 0, [], [], false⟩ (.slice none 0 0) 0 0 w hS (rq0_fa w)
  unfold rqV rqC at hg
  dsimp only at hg
  have HG := Lib.hid hg
  have HC := Lib.hid C
  have HS := Lib.hid hS
  clear hg C hS
  go_enter Tryd.func4, Tryd.ntmps4
  go_wp2_with fail
  refine HG.out.mono ?_
  rintro e W1 ⟨x, rfl, hx, hB⟩
  have H1 := Lib.hid hB
  clear hB HG
  cases x with
  | true =>
    have HW := Lib.hid (wakes13_any (HC.out.up H1.out))
    clear hx
    go_wp2_with fail
    refine HW.out.mono ?_
    rintro e W2 ⟨rfl, hB⟩
    have HE := Lib.hid (H1.out.trans (hB.mono H1.out.size))
    clear hB
    go_wp2
    go_ret
    exact ⟨rfl, HE.out⟩
  | false =>
    have HN := Lib.hid (HC.out.none l V b o W1 H1.out (HS.out.below H1.out) (hx rfl).1)
    clear hx
    go_wp2_with fail
    refine HN.out.mono ?_
    rintro e W2 ⟨rfl, hB⟩
    have H2 := Lib.hid (H1.out.trans (hB.mono H1.out.size))
    clear hB
    have HW := Lib.hid (wakes13_any (HC.out.up H2.out))
    have heq : ∀ w, (binOp .eql 40 .nilFunc .nilFunc).run Tryd.prog w = .ok (.bool true) w := eql_nilnil Tryd.underlying40
    go_wp2_with fail
    refine HW.out.mono ?_
    rintro e W3 ⟨rfl, hB⟩
    have HE := Lib.hid (H2.out.trans (hB.mono H2.out.size))
    clear hB
    go_wp2
    go_ret
    exact ⟨rfl, HE.out⟩
end Go.Proofs.YtbnlkjoblngakaaDoor
