/- May walked. (mkrx2.py writes it.) -/
import Derived.Test.YtplajlccnnbifaaGreatDoorRx1
namespace Go.Proofs.YtplajlccnnbifaaGreatDoor
open Go.RowKit
attribute [local go_sem] store_one S_match S_store

/-- A call, and what changes the world, that may come up next: each may be the first. -/
theorem ready_call_or_made {P : Program} {md : Region.Mode} {ops : Array Oper} {Q : Exit → Act → World → Prop} {S : World → Prop} {fuel : Nat} {listed : Array Bool} {a : Act} {w w1 : World} {i j : Nat} {di dj : Option Tmp} {vj : Value} {f : FuncId} {args : Array Value} (hdi : (ops[i]?).map (·.dst) = some di) (hdj : (ops[j]?).map (·.dst) = some dj) (hr : Region.ready md ops listed = [i, j])
    (hxi : ∀ oi, ops[i]? = some oi → Region.wanted oi (yielded ops a.tmps) = true ∧ (execOp a.eval oi).run P w = .ok (.enter f args) w)
    (hxj : ∀ oj, ops[j]? = some oj → Region.wanted oj (yielded ops a.tmps) = true ∧ (execOp a.eval oj).run P w = .ok (.value vj) w1) (hS : S w1)
    (hc : Calls P f args w fun e w' => ∃ v, e = .returned v ∧ S w' ∧ wpAnyH P md ops Q S fuel (listed.setIfInBounds i true) (a.put di v) w')
    (hv : wpAnyH P md ops Q S fuel (listed.setIfInBounds j true) (a.put dj vj) w1) : wpAnyH P md ops Q S (fuel + 1) listed a w := by
  cases hi : ops[i]? with
  | none => simp [hi] at hdi
  | some oi =>
    cases hj : ops[j]? with
    | none => simp [hj] at hdj
    | some oj =>
      have e1 : oi.dst = di := by simpa [hi] using hdi
      have e2 : oj.dst = dj := by simpa [hj] using hdj
      subst e1 e2
      refine wpAnyH_ready hr (by simp) (AllReadyH.cons hi (fun K hK => ?_) (AllReadyH.cons hj (fun K hK => ?_) AllReadyH.nil))
      · obtain ⟨hw, hx⟩ := hxi oi hi
        rw [if_pos hw]
        unfold Oper.wp
        rw [hx]
        refine hc.mono ?_
        rintro e w' ⟨v, rfl, hS', h⟩
        exact hK.out _ _ hS' (fun _ => h)
      · obtain ⟨hw, hx⟩ := hxj oj hj
        rw [if_pos hw]
        unfold Oper.wp
        rw [hx]
        exact hK.out _ _ hS (fun _ => hv)
/-- The names of the fields that say something of a request. -/
def nmR : Nat → List UInt8
  | 0 => hostL
  | 1 => clL
  | 2 => teL
  | _ => coL
theorem nm_len (k : Nat) : (nmR k).length ≤ 100 := by
  unfold nmR
  split <;> decide
/-- What stands while the fields are looked at. -/
structure MayAt (w : World) (b1 : Nat) (m p q : List UInt8) (vi : Int) (a : Option Addr) (c : Nat) (fs : List (List UInt8 × List UInt8)) (bd : List UInt8) (cl : Bool) (b o : Nat) (W : World) : Prop where
  row : Row W b1 (argC m p q vi (.slice a fs.length c) bd cl) 27
  arg : ArgF W a c fs b o
  bel : Below w.heap.size w W
theorem MayAt.below {w W W' : World} {b1 : Nat} {m p q : List UInt8} {vi : Int} {a : Option Addr} {c : Nat} {fs : List (List UInt8 × List UInt8)} {bd : List UInt8} {cl : Bool} {b o : Nat} (h : MayAt w b1 m p q vi a c fs bd cl b o W) (hb : Below W.heap.size W W') : MayAt w b1 m p q vi a c fs bd cl b o W' :=
  ⟨h.row.below hb h.row.lt, h.arg.below hb, h.bel.trans (hb.mono h.bel.size)⟩
theorem eq_text (p q : List UInt8) (w : World) : (Op.equalIn 9999 9 (S p) (S q)).run Tryz.prog w = .ok (p == q) w := by
  have e : ((⟨p.toArray⟩ : ByteArray).toList == (⟨q.toArray⟩ : ByteArray).toList) = (p == q) := by simp
  unfold S
  rw [run_equalIn_string w 9998 9 _ _ Tryz.underlying9]
  first | rw [e] | (congr 1)
theorem infoF2 : (Tryz.prog.info? 47).map (·.size) = some 2 := by kernel_rfl
theorem store_field {W : World} {b10 : Nat} {x y : Value} (h : Row W b10 #[x, y] 47) (n u : List UInt8) : ∃ WS, (storeVar 47 ⟨b10, 0, none⟩ (.agg #[S n, S u])).run Tryz.prog W = .ok () WS ∧ Row WS b10 #[S n, S u] 47 ∧ Keeps b10 W WS := by
  have hr := run_storeVar_at (P := Tryz.prog) W b10 0 47 47 #[S n, S u] #[x, y] h infoF2 (by simp) (by intro v hv; simp at hv; rcases hv with rfl | rfl <;> rfl)
  refine ⟨_, hr, ?_, Keeps.setRow _ _⟩
  exact setRow_heap W b10 _ _ 47 _ h
/-- Three cells. -/
def ThreeAt (W : World) (b1 b kk : Nat) (v x y : Value) : Prop := W.cell? ⟨b1, 4, none⟩ = some v ∧ W.cell? ⟨b, kk, none⟩ = some x ∧ W.cell? ⟨b, kk + 1, none⟩ = some y
theorem ThreeAt.below {W W' : World} {b1 b kk : Nat} {v x y : Value} (h : ThreeAt W b1 b kk v x y) (hb : Below W.heap.size W W') : ThreeAt W' b1 b kk v x y := by
  obtain ⟨h0, h1, h2⟩ := h
  have k : ∀ b o u, W.cell? ⟨b, o, none⟩ = some u → W'.cell? ⟨b, o, none⟩ = some u := fun b o u h => by rw [hb.cell (World.block_lt_of_cell? W _ h)]; exact h
  exact ⟨k _ _ _ h0, k _ _ _ h1, k _ _ _ h2⟩
theorem ThreeAt.keeps {W W' : World} {b1 b kk g : Nat} {v x y : Value} (h : ThreeAt W b1 b kk v x y) (hk : Keeps g W W') (h1 : b1 ≠ g) (h2 : b ≠ g) : ThreeAt W' b1 b kk v x y := by
  obtain ⟨a0, a1, a2⟩ := h
  have k : ∀ b o u, b ≠ g → W.cell? ⟨b, o, none⟩ = some u → W'.cell? ⟨b, o, none⟩ = some u := fun b o u hb h => by
    rw [World.cell?_of_block (w := W) (hk.block b (World.block_lt_of_cell? W _ h) hb)]; exact h
  exact ⟨k _ _ _ h1 a0, k _ _ _ h2 a1, k _ _ _ h2 a2⟩
set_option maxRecDepth 100000 in
set_option maxHeartbeats 4000000 in
theorem may_any (I : BackI) (r : Rq) (vi : Int) (a : Option Addr) (c b o : Nat) (cl : Bool) (w : World) (hm : r.m.length ≤ 2000) (hp : r.p.length ≤ 2000) (hq : r.q.length ≤ 2000) (hfl : r.fs.length ≤ 30 → ∀ f ∈ r.fs, f.1.length ≤ 2000 ∧ f.2.length ≤ 2000) (hA : ArgF w a c r.fs b o) :
    Calls Tryz.prog 19 #[.agg (argC r.m r.p r.q vi (.slice a r.fs.length c) r.body cl)] w fun e w' => ∃ z, e = .returned (.bool z) ∧ (z = true → MayR r) ∧ Below w.heap.size w w' := by
  have hMay : tokF r.m = true → (∃ q, targetF r.p = (r.p, q, true)) → (targetF ((r.p ++ [63]) ++ r.q)).2.2 = true → r.body.length ≤ 4096 → r.fs.length ≤ 30 → (∀ f ∈ r.fs, Plain f) → MayR r := fun h1 h2 h3 h4 h5 h6 => ⟨h1, h2, h3, h4, h5, h6⟩
  have HM := Lib.hid hMay
  obtain ⟨R, hR⟩ : ∃ R, R = MayR r := ⟨_, rfl⟩
  rw [← hR] at HM
  rw [← hR]
  clear hMay hR
  obtain ⟨m, p, q, v, fs, bd, cl0⟩ := r
  dsimp only at hm hp hq hfl hA HM
  unfold argC
  dsimp only
  obtain ⟨N, hN⟩ : ∃ N, N = fs.length := ⟨_, rfl⟩
  obtain ⟨W1, hW1⟩ : ∃ W1, W1 = w.alloc (.cells (argC m p q vi (.slice a fs.length c) bd cl) 27) := ⟨_, rfl⟩
  have hB1 : Below w.heap.size w W1 := by rw [hW1]; exact (Below.refl _ w).alloc (Nat.le_refl _) _
  have hM1 : MayAt w w.heap.size m p q vi a c fs bd cl b o W1 := ⟨by rw [hW1]; exact row_new _ _ _, hA.below hB1, hB1⟩
  obtain ⟨b1, hb1⟩ : ∃ b, b = w.heap.size := ⟨_, rfl⟩
  rw [← hb1] at hM1
  have HWX : Hid (w.alloc (.cells #[S m, S p, S q, .int .i64 vi, .slice a N c, S bd, .bool cl] 27) = W1 ∧ b1 = w.heap.size) := Lib.hid ⟨by rw [hW1, hN]; rfl, hb1⟩
  have HM1 := Lib.hid hM1
  have HN := Lib.hid hN
  have HFL := Lib.hid hfl
  have HI := Lib.hid I
  have y1 : binOp .add 9 (S p) (.string ⟨#[63]⟩) = pure (S (p ++ [63])) := S_add 9 p [63] (by simp; omega)
  obtain ⟨X1, hX1⟩ : ∃ X, X = p ++ [63] := ⟨_, rfl⟩
  rw [← hX1] at y1 HM
  have y2 : binOp .add 9 (S X1) (S q) = pure (S (X1 ++ q)) := S_add 9 X1 q (by rw [hX1, List.length_append]; simp; omega)
  obtain ⟨X2, hX2⟩ : ∃ X, X = X1 ++ q := ⟨_, rfl⟩
  rw [← hX2] at y2 HM
  have ht1 := fun w => I.target X2 w (show X2.length ≤ 100000 by rw [hX2, hX1, List.length_append, List.length_append]; simp; omega)
  have ht2 := fun w => I.target p w (by omega)
  have htk := fun w => I.token m w (by omega)
  obtain ⟨⟨A1, A2, o1⟩, hT1⟩ : ∃ x, x = targetF X2 := ⟨_, rfl⟩
  obtain ⟨⟨B1, B2, o2⟩, hT2⟩ : ∃ x, x = targetF p := ⟨_, rfl⟩
  rw [← hT1] at ht1 HM
  rw [← hT2] at ht2 HM
  unfold targetV at ht1 ht2
  dsimp only at ht1 ht2 HM
  have HT1 := Lib.hid ht1
  have HT2 := Lib.hid ht2
  obtain ⟨tk, htk0⟩ : ∃ tk, tk = tokF m := ⟨_, rfl⟩
  rw [← htk0] at htk HM
  have HTK := Lib.hid htk
  have qn : binOp .neq 9 (S B1) (S p) = pure (.bool (B1 != p)) := neql_S 9 B1 p
  have qg := nguard_S 9
  have hlB := run_len_S (P := Tryz.prog) Tryz.underlying9 3 bd
  obtain ⟨K, hK⟩ : ∃ K, K = bd.length := ⟨_, rfl⟩
  rw [← hK] at hlB
  rw [← hK, ← hN] at HM
  have c0 : W1.cell? ⟨b1, 0, none⟩ = some (S m) := cell_of_row W1 _ 0 _ _ (0, 0) hM1.row
  have c1 : W1.cell? ⟨b1, 1, none⟩ = some (S p) := cell_of_row W1 _ 1 _ _ (0, 0) hM1.row
  have c2 : W1.cell? ⟨b1, 2, none⟩ = some (S q) := cell_of_row W1 _ 2 _ _ (0, 0) hM1.row
  have hlV := arg_len a N c
  clear hm hp hq hfl hA hW1 hB1 hM1 hb1 hX1 hX2 ht1 ht2 htk hT1 hT2 htk0 hK I hN
  cases o1 with
  | false =>
    go_enter Tryz.func19, Tryz.ntmps19
    go_wp2_with fail
    all_goals try rw [show fs.length = N from HN.out.symm]
    all_goals try rw [HWX.out.1]
    all_goals try rw [← HWX.out.2]
    refine (HT1.out _).mono ?_
    rintro e W2 ⟨rfl, hB⟩
    try rw [HWX.out.1] at hB
    have H2 := Lib.hid (HM1.out.below hB)
    have c1 : W2.cell? ⟨b1, 1, none⟩ = some (S p) := cell_of_row W2 _ 1 _ _ (0, 0) H2.out.row
    clear hB
    go_wp2_with fail
    all_goals try rw [← HWX.out.2]
    refine (HT2.out _).mono ?_
    rintro e W3 ⟨rfl, hB⟩
    have H3 := Lib.hid (H2.out.below hB)
    have d0 : W3.cell? ⟨b1, 0, none⟩ = some (S m) := cell_of_row W3 _ 0 _ _ (0, 0) H3.out.row
    have d1 : W3.cell? ⟨b1, 1, none⟩ = some (S p) := cell_of_row W3 _ 1 _ _ (0, 0) H3.out.row
    clear hB H2

    go_wp2
    go_ret
    exact ⟨false, rfl, (fun h => by cases h), H3.out.bel⟩
  | true =>
  cases o2 with
  | false =>
    go_enter Tryz.func19, Tryz.ntmps19
    go_wp2_with fail
    all_goals try rw [show fs.length = N from HN.out.symm]
    all_goals try rw [HWX.out.1]
    all_goals try rw [← HWX.out.2]
    refine (HT1.out _).mono ?_
    rintro e W2 ⟨rfl, hB⟩
    try rw [HWX.out.1] at hB
    have H2 := Lib.hid (HM1.out.below hB)
    have c1 : W2.cell? ⟨b1, 1, none⟩ = some (S p) := cell_of_row W2 _ 1 _ _ (0, 0) H2.out.row
    clear hB
    go_wp2_with fail
    all_goals try rw [← HWX.out.2]
    refine (HT2.out _).mono ?_
    rintro e W3 ⟨rfl, hB⟩
    have H3 := Lib.hid (H2.out.below hB)
    have d0 : W3.cell? ⟨b1, 0, none⟩ = some (S m) := cell_of_row W3 _ 0 _ _ (0, 0) H3.out.row
    have d1 : W3.cell? ⟨b1, 1, none⟩ = some (S p) := cell_of_row W3 _ 1 _ _ (0, 0) H3.out.row
    clear hB H2

    go_wp2
    go_ret
    exact ⟨false, rfl, (fun h => by cases h), H3.out.bel⟩
  | true =>
  by_cases hBp : B1 = p
  case neg =>
    rw [show (B1 != p) = true from bne_iff_ne.2 hBp] at qn
    go_enter Tryz.func19, Tryz.ntmps19
    go_wp2_with fail
    all_goals try rw [show fs.length = N from HN.out.symm]
    all_goals try rw [HWX.out.1]
    all_goals try rw [← HWX.out.2]
    refine (HT1.out _).mono ?_
    rintro e W2 ⟨rfl, hB⟩
    try rw [HWX.out.1] at hB
    have H2 := Lib.hid (HM1.out.below hB)
    have c1 : W2.cell? ⟨b1, 1, none⟩ = some (S p) := cell_of_row W2 _ 1 _ _ (0, 0) H2.out.row
    clear hB
    go_wp2_with fail
    all_goals try rw [← HWX.out.2]
    refine (HT2.out _).mono ?_
    rintro e W3 ⟨rfl, hB⟩
    have H3 := Lib.hid (H2.out.below hB)
    have d0 : W3.cell? ⟨b1, 0, none⟩ = some (S m) := cell_of_row W3 _ 0 _ _ (0, 0) H3.out.row
    have d1 : W3.cell? ⟨b1, 1, none⟩ = some (S p) := cell_of_row W3 _ 1 _ _ (0, 0) H3.out.row
    clear hB H2

    go_wp2
    go_ret
    exact ⟨false, rfl, (fun h => by cases h), H3.out.bel⟩
  rw [show (B1 != p) = false by rw [hBp]; simp] at qn
  have HBp := Lib.hid hBp
  clear hBp
  cases tk with
  | false =>
    go_enter Tryz.func19, Tryz.ntmps19
    go_wp2_with fail
    all_goals try rw [show fs.length = N from HN.out.symm]
    all_goals try rw [HWX.out.1]
    all_goals try rw [← HWX.out.2]
    refine (HT1.out _).mono ?_
    rintro e W2 ⟨rfl, hB⟩
    try rw [HWX.out.1] at hB
    have H2 := Lib.hid (HM1.out.below hB)
    have c1 : W2.cell? ⟨b1, 1, none⟩ = some (S p) := cell_of_row W2 _ 1 _ _ (0, 0) H2.out.row
    clear hB
    go_wp2_with fail
    all_goals try rw [← HWX.out.2]
    refine (HT2.out _).mono ?_
    rintro e W3 ⟨rfl, hB⟩
    have H3 := Lib.hid (H2.out.below hB)
    have d0 : W3.cell? ⟨b1, 0, none⟩ = some (S m) := cell_of_row W3 _ 0 _ _ (0, 0) H3.out.row
    have d1 : W3.cell? ⟨b1, 1, none⟩ = some (S p) := cell_of_row W3 _ 1 _ _ (0, 0) H3.out.row
    clear hB H2

    go_wp2_with fail
    refine (HTK.out _).mono ?_
    rintro e W4 ⟨rfl, hB⟩
    have H4 := Lib.hid (H3.out.below hB)
    have e5 : W4.cell? ⟨b1, 5, none⟩ = some (S bd) := cell_of_row W4 _ 5 _ _ (0, 0) H4.out.row
    have e4 : W4.cell? ⟨b1, 4, none⟩ = some (.slice a N c) := by rw [HN.out]; exact cell_of_row W4 _ 4 _ _ (0, 0) H4.out.row
    clear hB H3 d0 d1

    go_wp2
    go_ret
    exact ⟨false, rfl, (fun h => by cases h), H4.out.bel⟩
  | true =>
  by_cases hK : 4096 < K
  case pos =>
    have g1 : decide ((K : Int) > 4096) = true := decide_eq_true (by omega)
    have g1' : decide ((4096 : Int) < (K : Int)) = true := decide_eq_true (by omega)
    go_enter Tryz.func19, Tryz.ntmps19
    go_wp2_with fail
    all_goals try rw [show fs.length = N from HN.out.symm]
    all_goals try rw [HWX.out.1]
    all_goals try rw [← HWX.out.2]
    refine (HT1.out _).mono ?_
    rintro e W2 ⟨rfl, hB⟩
    try rw [HWX.out.1] at hB
    have H2 := Lib.hid (HM1.out.below hB)
    have c1 : W2.cell? ⟨b1, 1, none⟩ = some (S p) := cell_of_row W2 _ 1 _ _ (0, 0) H2.out.row
    clear hB
    go_wp2_with fail
    all_goals try rw [← HWX.out.2]
    refine (HT2.out _).mono ?_
    rintro e W3 ⟨rfl, hB⟩
    have H3 := Lib.hid (H2.out.below hB)
    have d0 : W3.cell? ⟨b1, 0, none⟩ = some (S m) := cell_of_row W3 _ 0 _ _ (0, 0) H3.out.row
    have d1 : W3.cell? ⟨b1, 1, none⟩ = some (S p) := cell_of_row W3 _ 1 _ _ (0, 0) H3.out.row
    clear hB H2

    go_wp2_with fail
    refine (HTK.out _).mono ?_
    rintro e W4 ⟨rfl, hB⟩
    have H4 := Lib.hid (H3.out.below hB)
    have e5 : W4.cell? ⟨b1, 5, none⟩ = some (S bd) := cell_of_row W4 _ 5 _ _ (0, 0) H4.out.row
    have e4 : W4.cell? ⟨b1, 4, none⟩ = some (.slice a N c) := by rw [HN.out]; exact cell_of_row W4 _ 4 _ _ (0, 0) H4.out.row
    clear hB H3 d0 d1

    go_wp2
    go_ret
    exact ⟨false, rfl, (fun h => by cases h), H4.out.bel⟩
  have g1 : decide ((K : Int) > 4096) = false := decide_eq_false (by omega)
  have g1' : decide ((4096 : Int) < (K : Int)) = false := decide_eq_false (by omega)
  by_cases hN3 : 30 < N
  case pos =>
    have g2 : decide ((N : Int) > 30) = true := decide_eq_true (by omega)
    have g2' : decide ((30 : Int) < (N : Int)) = true := decide_eq_true (by omega)
    go_enter Tryz.func19, Tryz.ntmps19
    go_wp2_with fail
    all_goals try rw [show fs.length = N from HN.out.symm]
    all_goals try rw [HWX.out.1]
    all_goals try rw [← HWX.out.2]
    refine (HT1.out _).mono ?_
    rintro e W2 ⟨rfl, hB⟩
    try rw [HWX.out.1] at hB
    have H2 := Lib.hid (HM1.out.below hB)
    have c1 : W2.cell? ⟨b1, 1, none⟩ = some (S p) := cell_of_row W2 _ 1 _ _ (0, 0) H2.out.row
    clear hB
    go_wp2_with fail
    all_goals try rw [← HWX.out.2]
    refine (HT2.out _).mono ?_
    rintro e W3 ⟨rfl, hB⟩
    have H3 := Lib.hid (H2.out.below hB)
    have d0 : W3.cell? ⟨b1, 0, none⟩ = some (S m) := cell_of_row W3 _ 0 _ _ (0, 0) H3.out.row
    have d1 : W3.cell? ⟨b1, 1, none⟩ = some (S p) := cell_of_row W3 _ 1 _ _ (0, 0) H3.out.row
    clear hB H2

    go_wp2_with fail
    refine (HTK.out _).mono ?_
    rintro e W4 ⟨rfl, hB⟩
    have H4 := Lib.hid (H3.out.below hB)
    have e5 : W4.cell? ⟨b1, 5, none⟩ = some (S bd) := cell_of_row W4 _ 5 _ _ (0, 0) H4.out.row
    have e4 : W4.cell? ⟨b1, 4, none⟩ = some (.slice a N c) := by rw [HN.out]; exact cell_of_row W4 _ 4 _ _ (0, 0) H4.out.row
    clear hB H3 d0 d1

    go_wp2
    go_ret
    exact ⟨false, rfl, (fun h => by cases h), H4.out.bel⟩
  have g2 : decide ((N : Int) > 30) = false := decide_eq_false (by omega)
  have g2' : decide ((30 : Int) < (N : Int)) = false := decide_eq_false (by omega)
  have HKN := Lib.hid (show K ≤ 4096 ∧ N ≤ 30 by omega)
  have hN30 : N ≤ 30 := by omega
  clear hK hN3
  go_enter Tryz.func19, Tryz.ntmps19
  go_wp2_with fail
  all_goals try rw [show fs.length = N from HN.out.symm]
  all_goals try rw [HWX.out.1]
  all_goals try rw [← HWX.out.2]
  refine (HT1.out _).mono ?_
  rintro e W2 ⟨rfl, hB⟩
  try rw [HWX.out.1] at hB
  have H2 := Lib.hid (HM1.out.below hB)
  have c1 : W2.cell? ⟨b1, 1, none⟩ = some (S p) := cell_of_row W2 _ 1 _ _ (0, 0) H2.out.row
  clear hB
  go_wp2_with fail
  all_goals try rw [← HWX.out.2]
  refine (HT2.out _).mono ?_
  rintro e W3 ⟨rfl, hB⟩
  have H3 := Lib.hid (H2.out.below hB)
  have d0 : W3.cell? ⟨b1, 0, none⟩ = some (S m) := cell_of_row W3 _ 0 _ _ (0, 0) H3.out.row
  have d1 : W3.cell? ⟨b1, 1, none⟩ = some (S p) := cell_of_row W3 _ 1 _ _ (0, 0) H3.out.row
  clear hB H2

  go_wp2_with fail
  refine (HTK.out _).mono ?_
  rintro e W4 ⟨rfl, hB⟩
  have H4 := Lib.hid (H3.out.below hB)
  have e5 : W4.cell? ⟨b1, 5, none⟩ = some (S bd) := cell_of_row W4 _ 5 _ _ (0, 0) H4.out.row
  have e4 : W4.cell? ⟨b1, 4, none⟩ = some (.slice a N c) := by rw [HN.out]; exact cell_of_row W4 _ 4 _ _ (0, 0) H4.out.row
  clear hB H3 d0 d1
  go_wp2
  go_loopw [9] (fun iv wr => ∃ i : Nat, i ≤ N ∧ iv = .int .i64 (i : Int) ∧ Hid (MayAt w b1 m p q vi a c fs bd cl b o wr ∧ ∀ f ∈ fs.take i, Plain f)) (fun iv _ => N - (intOf iv).toNat)
  case atStart => exact ⟨0, Nat.zero_le _, rfl, Lib.hid ⟨H4.out, fun f h => by rw [List.take_zero] at h; cases h⟩⟩
  case round =>
    obtain ⟨i, hi, rfl, HR⟩ := hrel
    have d4 : wr.cell? ⟨b1, 4, none⟩ = some (.slice a N c) := by rw [HN.out]; exact cell_of_row wr _ 4 _ _ (0, 0) HR.out.1.row
    by_cases hlt : i < N
    case neg =>
      obtain rfl : i = N := by omega
      have g3 : decide ((i : Int) < (i : Int)) = false := decide_eq_false (by omega)
      have HRR : Hid R := Lib.hid (HM.out (by trivial) ⟨B2, by rw [HBp.out]⟩ (by trivial) HKN.out.1 HKN.out.2 (by have h := HR.out.2; rw [HN.out, List.take_length] at h; exact h))
      go_wp2
      go_ret
      exact ⟨true, rfl, fun _ => HRR.out, HR.out.1.bel⟩
    have g3 : decide ((i : Int) < (N : Int)) = true := decide_eq_true (by omega)
    obtain ⟨⟨n, u⟩, hf⟩ : ∃ f, fs[i]? = some f := ⟨fs[i]'(by have := HN.out; omega), List.getElem?_eq_getElem _⟩
    have hix : ∀ w', (Instr.indexAt 25 (.slice a N c) (.int .i64 (i : Int))).run Tryz.prog w' = .ok (.pointer (some ⟨b, o + i * 2, none⟩)) w' := by
      have := HR.out.1.arg.index i (by have := HN.out; omega)
      rw [← HN.out] at this
      exact this
    have hcl := HR.out.1.arg.cell i _ hf
    dsimp only at hcl
    obtain ⟨hnl, hul⟩ := HFL.out (by have := HN.out; have := HKN.out; omega) (n, u) (List.mem_of_getElem? hf)
    dsimp only at hnl hul
    have hwi : IntKind.i64.wrap ((i : Int) + 1) = (i : Int) + 1 := by have := HKN.out; rw [IntKind.wrap_i64]; omega
    obtain ⟨kk, hkk⟩ : ∃ kk, kk = o + i * 2 := ⟨_, rfl⟩
    rw [← hkk] at hix hcl
    have z1 : binOp .add 9 (S n) (.string ⟨#[58]⟩) = pure (S (n ++ [58])) := S_add 9 n [58] (by simp; omega)
    obtain ⟨Z1, hZ1⟩ : ∃ X, X = n ++ [58] := ⟨_, rfl⟩
    rw [← hZ1] at z1
    have z2 : binOp .add 9 (S Z1) (S u) = pure (S (Z1 ++ u)) := S_add 9 Z1 u (by rw [hZ1, List.length_append]; simp; omega)
    obtain ⟨Z2, hZ2⟩ : ∃ X, X = Z1 ++ u := ⟨_, rfl⟩
    rw [← hZ2] at z2
    have hps := fun w => HI.out.parse Z2 w (by rw [hZ2, hZ1, List.length_append, List.length_append]; simp; omega)
    obtain ⟨⟨pn, pv, fine⟩, hP⟩ : ∃ x, x = parseF Z2 := ⟨_, rfl⟩
    rw [← hP] at hps
    unfold parseV at hps
    dsimp only at hps
    have HPS := Lib.hid hps
    have HPL : Hid (fine = true → pn = n → pv = u → (∀ k, k < 4 → alikeF n (nmR k) = false) → ∀ f ∈ fs.take (i + 1), Plain f) := Lib.hid (by
      intro h1 h2 h3 h4 f hfm
      rw [List.take_add_one, hf] at hfm
      rcases List.mem_append.1 hfm with h | h
      · exact HR.out.2 f h
      · have e : f = (n, u) := by simpa using h
        subst e
        have hZ : Z2 = n ++ 58 :: u := by rw [hZ2, hZ1]; simp
        rw [hZ, h1, h2, h3] at hP
        exact ⟨hP.symm, h4 0 (by omega), h4 1 (by omega), h4 2 (by omega), h4 3 (by omega)⟩)
    have HNL := Lib.hid hnl
    have HR1 := Lib.hid HR.out.1
    have HCL := Lib.hid hcl
    clear hps hP hZ1 hZ2 hnl hul hf hkk hcl HR
    obtain ⟨Wq, hWq⟩ : ∃ Wq, Wq = wr.drew := ⟨_, rfl⟩
    have hBq : Below wr.heap.size wr Wq := by rw [hWq]; exact ⟨rfl, rfl, rfl, Nat.le_refl _, fun _ _ => rfl⟩
    have HQ := Lib.hid (HR1.out.below hBq)
    have hSq : Wq.cell? ⟨b1, 4, none⟩ = some (.slice a N c) ∧ Wq.cell? ⟨b, kk, none⟩ = some (S n) ∧ Wq.cell? ⟨b, kk + 1, none⟩ = some (S u) := by rw [hWq]; exact ⟨d4, HCL.out.1, HCL.out.2⟩
    have HSQ := Lib.hid hSq
    have HCQ := Lib.hid hSq.2.1
    clear hBq
    go_wp2
    refine wp_region_noPanic ?_
    refine wp_region_held_drew (S := fun wx => wx.cell? ⟨b1, 4, none⟩ = some (.slice a N c) ∧ wx.cell? ⟨b, kk, none⟩ = some (S n) ∧ wx.cell? ⟨b, kk + 1, none⟩ = some (S u)) (by kernel_rfl) (by rw [hWq] at hSq; exact hSq) (fun _ => ?_)
    rw [← hWq]
    clear hWq hSq d4
    refine take_at (i := 0) (d := some 70) (v := .pointer (some ⟨b1, 4, none⟩)) rfl (by kernel_rfl) (by kernel_rfl) (by kernel_rfl) (fun _ _ _ h => h) (fun oi ho => ?_) HSQ.out ?_
    · obtain rfl := Option.some.inj ho
      exact Or.inl ⟨by rfl, fun wx hSw => by go_simp⟩
    simp only [Act.put, List.setIfInBounds_toArray, List.set_cons_zero, List.set_cons_succ]
    refine take_at (i := 1) (d := some 71) (v := .slice a N c) rfl (by kernel_rfl) (by kernel_rfl) (by kernel_rfl) (fun _ _ _ h => h) (fun oi ho => ?_) HSQ.out ?_
    · obtain rfl := Option.some.inj ho
      exact Or.inl ⟨by rfl, fun wx hSw => by obtain ⟨x0, x1, x2⟩ := hSw; go_simp⟩
    simp only [Act.put, List.setIfInBounds_toArray, List.set_cons_zero, List.set_cons_succ]
    refine take_at (i := 2) (d := some 72) (v := .int .i64 (i : Int)) rfl (by kernel_rfl) (by kernel_rfl) (by kernel_rfl) (fun _ _ _ h => h) (fun oi ho => ?_) HSQ.out ?_
    · obtain rfl := Option.some.inj ho
      exact Or.inl ⟨by rfl, fun wx hSw => by go_simp⟩
    simp only [Act.put, List.setIfInBounds_toArray, List.set_cons_zero, List.set_cons_succ]
    refine take_at (i := 3) (d := some 73) (v := .pointer (some ⟨b, kk, none⟩)) rfl (by kernel_rfl) (by kernel_rfl) (by kernel_rfl) (fun _ _ _ h => h) (fun oi ho => ?_) HSQ.out ?_
    · obtain rfl := Option.some.inj ho
      exact Or.inl ⟨by rfl, fun wx hSw => by go_simp⟩
    simp only [Act.put, List.setIfInBounds_toArray, List.set_cons_zero, List.set_cons_succ]
    refine take_at (i := 4) (d := some 74) (v := .pointer (some ⟨b, kk, none⟩)) rfl (by kernel_rfl) (by kernel_rfl) (by kernel_rfl) (fun _ _ _ h => h) (fun oi ho => ?_) HSQ.out ?_
    · obtain rfl := Option.some.inj ho
      exact Or.inl ⟨by rfl, fun wx hSw => by go_simp⟩
    simp only [Act.put, List.setIfInBounds_toArray, List.set_cons_zero, List.set_cons_succ]
    refine take_at (i := 5) (d := some 75) (v := S n) rfl (by kernel_rfl) (by kernel_rfl) (by kernel_rfl) (fun _ _ _ h => h) (fun oi ho => ?_) HSQ.out ?_
    · obtain rfl := Option.some.inj ho
      exact Or.inl ⟨by rfl, fun wx hSw => by obtain ⟨x0, x1, x2⟩ := hSw; go_simp⟩
    simp only [Act.put, List.setIfInBounds_toArray, List.set_cons_zero, List.set_cons_succ]
    refine take_at (i := 6) (d := some 76) (v := S Z1) rfl (by kernel_rfl) (by kernel_rfl) (by kernel_rfl) (fun _ _ _ h => h) (fun oi ho => ?_) HSQ.out ?_
    · obtain rfl := Option.some.inj ho
      exact Or.inl ⟨by rfl, fun wx hSw => by go_simp⟩
    simp only [Act.put, List.setIfInBounds_toArray, List.set_cons_zero, List.set_cons_succ]
    refine take_at (i := 7) (d := some 77) (v := .pointer (some ⟨b1, 4, none⟩)) rfl (by kernel_rfl) (by kernel_rfl) (by kernel_rfl) (fun _ _ _ h => h) (fun oi ho => ?_) HSQ.out ?_
    · obtain rfl := Option.some.inj ho
      exact Or.inl ⟨by rfl, fun wx hSw => by go_simp⟩
    simp only [Act.put, List.setIfInBounds_toArray, List.set_cons_zero, List.set_cons_succ]
    refine take_at (i := 8) (d := some 78) (v := .slice a N c) rfl (by kernel_rfl) (by kernel_rfl) (by kernel_rfl) (fun _ _ _ h => h) (fun oi ho => ?_) HSQ.out ?_
    · obtain rfl := Option.some.inj ho
      exact Or.inl ⟨by rfl, fun wx hSw => by obtain ⟨x0, x1, x2⟩ := hSw; go_simp⟩
    simp only [Act.put, List.setIfInBounds_toArray, List.set_cons_zero, List.set_cons_succ]
    refine take_at (i := 9) (d := some 79) (v := .int .i64 (i : Int)) rfl (by kernel_rfl) (by kernel_rfl) (by kernel_rfl) (fun _ _ _ h => h) (fun oi ho => ?_) HSQ.out ?_
    · obtain rfl := Option.some.inj ho
      exact Or.inl ⟨by rfl, fun wx hSw => by go_simp⟩
    simp only [Act.put, List.setIfInBounds_toArray, List.set_cons_zero, List.set_cons_succ]
    refine take_at (i := 10) (d := some 80) (v := .pointer (some ⟨b, kk, none⟩)) rfl (by kernel_rfl) (by kernel_rfl) (by kernel_rfl) (fun _ _ _ h => h) (fun oi ho => ?_) HSQ.out ?_
    · obtain rfl := Option.some.inj ho
      exact Or.inl ⟨by rfl, fun wx hSw => by go_simp⟩
    simp only [Act.put, List.setIfInBounds_toArray, List.set_cons_zero, List.set_cons_succ]
    refine take_at (i := 11) (d := some 81) (v := .pointer (some ⟨b, kk + 1, none⟩)) rfl (by kernel_rfl) (by kernel_rfl) (by kernel_rfl) (fun _ _ _ h => h) (fun oi ho => ?_) HSQ.out ?_
    · obtain rfl := Option.some.inj ho
      exact Or.inl ⟨by rfl, fun wx hSw => by go_simp⟩
    simp only [Act.put, List.setIfInBounds_toArray, List.set_cons_zero, List.set_cons_succ]
    refine take_at (i := 12) (d := some 82) (v := S u) rfl (by kernel_rfl) (by kernel_rfl) (by kernel_rfl) (fun _ _ _ h => h) (fun oi ho => ?_) HSQ.out ?_
    · obtain rfl := Option.some.inj ho
      exact Or.inl ⟨by rfl, fun wx hSw => by obtain ⟨x0, x1, x2⟩ := hSw; go_simp⟩
    simp only [Act.put, List.setIfInBounds_toArray, List.set_cons_zero, List.set_cons_succ]
    refine take_at (i := 13) (d := some 83) (v := S Z2) rfl (by kernel_rfl) (by kernel_rfl) (by kernel_rfl) (fun _ _ _ h => h) (fun oi ho => ?_) HSQ.out ?_
    · obtain rfl := Option.some.inj ho
      exact Or.inl ⟨by rfl, fun wx hSw => by go_simp⟩
    simp only [Act.put, List.setIfInBounds_toArray, List.set_cons_zero, List.set_cons_succ]
    refine ready_call_or_made (i := 14) (j := 18) (di := some 84) (dj := some 10) (vj := .pointer (some ⟨Wq.heap.size, 0, none⟩)) (w1 := Wq.alloc (.cells #[.string ⟨#[]⟩, .string ⟨#[]⟩] 47)) (f := 36) (args := #[S Z2]) rfl rfl (by kernel_rfl) (fun oi ho => ?_) (fun oi ho => ?_) ?_ ?_ ?_
    · obtain rfl := Option.some.inj ho
      exact ⟨by rfl, by go_simp⟩
    · obtain rfl := Option.some.inj ho
      exact ⟨by rfl, by go_simp⟩
    · exact ThreeAt.below HSQ.out ((Below.refl _ Wq).alloc (Nat.le_refl _) _)
    · refine (HPS.out Wq).mono ?_
      rintro e W5 ⟨rfl, hB5⟩
      have HSQ5 := ThreeAt.below HSQ.out hB5
      clear HSQ
      have HSQ := Lib.hid HSQ5
      clear HSQ5
      refine ⟨_, rfl, HSQ.out, ?_⟩
      simp only [Act.put, List.setIfInBounds_toArray, List.set_cons_zero, List.set_cons_succ]
      refine take_at (i := 15) (d := some 69) (v := .tuple #[.agg #[S pn, S pv], .bool fine]) rfl (by kernel_rfl) (by kernel_rfl) (by kernel_rfl) (fun _ _ _ h => h) (fun oi ho => ?_) HSQ.out ?_
      · obtain rfl := Option.some.inj ho
        exact Or.inl ⟨by rfl, fun wx hSw => by go_simp⟩
      simp only [Act.put, List.setIfInBounds_toArray, List.set_cons_zero, List.set_cons_succ]
      refine take_at (i := 16) (d := some 85) (v := .agg #[S pn, S pv]) rfl (by kernel_rfl) (by kernel_rfl) (by kernel_rfl) (fun _ _ _ h => h) (fun oi ho => ?_) HSQ.out ?_
      · obtain rfl := Option.some.inj ho
        exact Or.inl ⟨by rfl, fun wx hSw => by go_simp⟩
      simp only [Act.put, List.setIfInBounds_toArray, List.set_cons_zero, List.set_cons_succ]
      refine take_at (i := 17) (d := some 86) (v := .bool fine) rfl (by kernel_rfl) (by kernel_rfl) (by kernel_rfl) (fun _ _ _ h => h) (fun oi ho => ?_) HSQ.out ?_
      · obtain rfl := Option.some.inj ho
        exact Or.inl ⟨by rfl, fun wx hSw => by go_simp⟩
      simp only [Act.put, List.setIfInBounds_toArray, List.set_cons_zero, List.set_cons_succ]
      have hB6 : Below Wq.heap.size Wq (W5.alloc (.cells #[.string ⟨#[]⟩, .string ⟨#[]⟩] 47)) := hB5.alloc hB5.size _
      have hS6 := ThreeAt.below HSQ.out ((Below.refl _ W5).alloc (Nat.le_refl _) (.cells #[.string ⟨#[]⟩, .string ⟨#[]⟩] 47))
      refine ready_value (i := 18) (d := some 10) (v := .pointer (some ⟨W5.heap.size, 0, none⟩)) (w' := W5.alloc (.cells #[.string ⟨#[]⟩, .string ⟨#[]⟩] 47)) rfl (by kernel_rfl) (fun oi ho => ?_) hS6 ?_
      · obtain rfl := Option.some.inj ho
        exact ⟨by rfl, by go_simp⟩
      simp only [Act.put, List.setIfInBounds_toArray, List.set_cons_zero, List.set_cons_succ]
      have hr6 : Row (W5.alloc (.cells #[.string ⟨#[]⟩, .string ⟨#[]⟩] 47)) W5.heap.size #[.string ⟨#[]⟩, .string ⟨#[]⟩] 47 := row_new _ _ _
      have hge : Wq.heap.size ≤ W5.heap.size := hB5.size
      generalize (W5.alloc (.cells #[.string ⟨#[]⟩, .string ⟨#[]⟩] 47)) = W6 at *
      generalize W5.heap.size = b10 at *
      clear HSQ hB5
      obtain ⟨WS, hst, hrS, hkS⟩ := store_field hr6 pn pv
      have hlt1 : b1 < Wq.heap.size := HQ.out.row.lt
      have hlt2 : b < Wq.heap.size := World.block_lt_of_cell? Wq _ HCQ.out
      have hSS := ThreeAt.keeps hS6 hkS (by omega) (by omega)
      refine ready_skip (i := 19) (d := none) (w' := WS) rfl (by kernel_rfl) (fun oi ho => ?_) hSS ?_
      · obtain rfl := Option.some.inj ho
        exact ⟨by rfl, exec_store_by _ _ _ rfl _ rfl rfl hst⟩
      refine ready_value (i := 20) (d := some 11) (v := .bool fine) (w' := WS) rfl (by kernel_rfl) (fun oi ho => ?_) hSS ?_
      · obtain rfl := Option.some.inj ho
        exact ⟨by rfl, by go_simp⟩
      simp only [Act.put, List.setIfInBounds_toArray, List.set_cons_zero, List.set_cons_succ]
      refine wpAnyH_done (by kernel_rfl) ?_ _
      refine NoPanic.normal ?_
      have hBS : Below Wq.heap.size Wq WS := hB6.trans (hkS.below hB6.size hge)
      have HS := Lib.hid (And.intro (HQ.out.below hBS) (And.intro hrS hSS))
      have x0 : WS.cell? ⟨b10, 0, none⟩ = some (S pn) := cell_of_row WS _ 0 _ _ (0, 0) hrS
      have x1 : WS.cell? ⟨b10, 1, none⟩ = some (S pv) := cell_of_row WS _ 1 _ _ (0, 0) hrS
      have y0 : WS.cell? ⟨b1, 4, none⟩ = some (.slice a N c) := hSS.1
      have y1 : WS.cell? ⟨b, kk, none⟩ = some (S n) := hSS.2.1
      have y2 : WS.cell? ⟨b, kk + 1, none⟩ = some (S u) := hSS.2.2
      clear hst hrS hkS hlt1 hlt2 hSS hBS hB6 hr6 hge hS6
      cases fine with
      | false =>
        go_wp2
        go_quiet (fail)
        go_wp2
        go_ret
        exact ⟨false, rfl, (fun h => by cases h), HS.out.1.bel.trans ⟨rfl, rfl, rfl, Nat.le_refl _, fun _ _ => rfl⟩⟩
      | true =>
        have e1 := eq_text pn n
        have e2 := eq_text pv u
        have hmx : Tryz.prog.follows .mixedOrders = true := by kernel_rfl
        by_cases hpn : pn = n
        case neg =>
          rw [show (pn == n) = false from beq_eq_false_iff_ne.2 hpn] at e1
          clear hpn
          go_wp2
          go_quiet (fail)
          go_wp2
          go_ret
          exact ⟨false, rfl, (fun h => by cases h), HS.out.1.bel.trans ⟨rfl, rfl, rfl, Nat.le_refl _, fun _ _ => rfl⟩⟩
        rw [show (pn == n) = true by rw [hpn]; simp] at e1
        by_cases hpv : pv = u
        case neg =>
          rw [show (pv == u) = false from beq_eq_false_iff_ne.2 hpv] at e2
          clear hpv hpn
          go_wp2
          go_quiet (fail)
          go_wp2
          go_ret
          exact ⟨false, rfl, (fun h => by cases h), HS.out.1.bel.trans ⟨rfl, rfl, rfl, Nat.le_refl _, fun _ _ => rfl⟩⟩
        rw [show (pv == u) = true by rw [hpv]; simp] at e2
        have HPP := Lib.hid (HPL.out (by trivial) hpn hpv)
        have HPN := Lib.hid hpn
        clear hpv hpn
        go_wp2
        go_quiet (fail)
        go_wp2
        obtain ⟨Wd, hWd⟩ : ∃ Wd, Wd = WS.drewN nq := ⟨_, rfl⟩
        rw [← hWd]
        have hBd : Below WS.heap.size WS Wd := by rw [hWd]; exact ⟨rfl, rfl, rfl, Nat.le_refl _, fun _ _ => rfl⟩
        have hsz : Wd.heap.size = WS.heap.size := by rw [hWd]; rfl
        obtain ⟨WN, hWN⟩ : ∃ WN, WN = Wd.alloc (.cells #[.string ⟨#[104, 111, 115, 116]⟩, .string ⟨#[99, 111, 110, 116, 101, 110, 116, 45, 108, 101, 110, 103, 116, 104]⟩, .string ⟨#[116, 114, 97, 110, 115, 102, 101, 114, 45, 101, 110, 99, 111, 100, 105, 110, 103]⟩, .string ⟨#[99, 111, 110, 110, 101, 99, 116, 105, 111, 110]⟩] 9) := ⟨_, rfl⟩
        have hBN : Below WS.heap.size WS WN := by rw [hWN]; exact hBd.alloc hBd.size _
        have hrn : Row WN WS.heap.size #[S hostL, S clL, S teL, S coL] 9 := by
          have := row_new Wd #[.string ⟨#[104, 111, 115, 116]⟩, .string ⟨#[99, 111, 110, 116, 101, 110, 116, 45, 108, 101, 110, 103, 116, 104]⟩, .string ⟨#[116, 114, 97, 110, 115, 102, 101, 114, 45, 101, 110, 99, 111, 100, 105, 110, 103]⟩, .string ⟨#[99, 111, 110, 110, 101, 99, 116, 105, 111, 110]⟩] 9
          rw [hsz] at this
          rw [hWN]; exact this
        obtain ⟨bn, hbn⟩ : ∃ x, x = WS.heap.size := ⟨_, rfl⟩
        have hMN := HS.out.1.below hBN
        have hr10 := HS.out.2.1.below hBN HS.out.2.1.lt
        rw [← hbn] at hrn
        rw [← hbn, ← hWN]
        have HG := Lib.hid (And.intro hMN (And.intro hr10 hrn))
        clear hWd hBd hsz hWN hBN hrn hbn hMN hr10 x0 x1 y0 y1 y2 e1 e2 HS
        go_loopw [13] (fun kv wk => ∃ k : Nat, k ≤ 4 ∧ kv = .int .i64 (k : Int) ∧ Hid (Below WN.heap.size WN wk ∧ ∀ j, j < k → alikeF n (nmR j) = false)) (fun kv _ => 4 - (intOf kv).toNat)
        case atStart => exact ⟨0, Nat.zero_le _, rfl, Lib.hid ⟨Below.refl _ _, fun j h => by omega⟩⟩
        case round =>
          obtain ⟨k, hk, rfl, HK⟩ := hrel
          by_cases hk4 : k < 4
          · have g4 : decide ((k : Int) < 4) = true := decide_eq_true (by omega)
            have hixn : ∀ W, (Instr.indexAt 78 (.slice (some ⟨bn, 0, none⟩) 4 4) (.int .i64 (k : Int))).run Tryz.prog W = .ok (.pointer (some ⟨bn, k, none⟩)) W := fun W => by
              have := run_index_at (P := Tryz.prog) Tryz.underlying78 (fun w => Tryz.sizeOf9 w) bn 0 4 4 k hk4 W
              rwa [Nat.zero_add, Nat.mul_one] at this
            have hwk : IntKind.i64.wrap ((k : Int) + 1) = (k : Int) + 1 := by rw [IntKind.wrap_i64]; omega
            have hck : WN.cell? ⟨bn, k, none⟩ = some (S (nmR k)) := by
              rw [cell_of_row WN bn k _ 9 (0, 0) HG.out.2.2]
              rcases (by omega : k = 0 ∨ k = 1 ∨ k = 2 ∨ k = 3) with rfl | rfl | rfl | rfl <;> rfl
            obtain ⟨Wq2, hWq2⟩ : ∃ Wq, Wq = wr.drew := ⟨_, rfl⟩
            have hBq2 : Below WN.heap.size WN Wq2 := by rw [hWq2]; exact HK.out.1.trans ⟨rfl, rfl, rfl, Nat.le_refl _, fun _ _ => rfl⟩
            have hSq2 : Wq2.cell? ⟨b10, 0, none⟩ = some (S pn) ∧ Wq2.cell? ⟨bn, k, none⟩ = some (S (nmR k)) :=
              ⟨cell_of_row Wq2 b10 0 _ _ (0, 0) (HG.out.2.1.below hBq2 HG.out.2.1.lt), by rw [hBq2.cell (World.block_lt_of_cell? WN _ hck)]; exact hck⟩
            have HSQ := Lib.hid hSq2
            have HB2 := Lib.hid hBq2
            have HAL : Hid (∀ W, Calls Tryz.prog 37 #[S pn, S (nmR k)] W fun e w' => e = .returned (.bool (alikeF n (nmR k))) ∧ Below W.heap.size W w') := Lib.hid fun W => by
              rw [HPN.out]; exact HI.out.alike n (nmR k) W (by have := HNL.out; omega) (by have := nm_len k; omega)
            clear hBq2 hck
            go_wp2
            refine wp_region_noPanic ?_
            refine wp_region_held_drew (S := fun wx => wx.cell? ⟨b10, 0, none⟩ = some (S pn) ∧ wx.cell? ⟨bn, k, none⟩ = some (S (nmR k))) (by kernel_rfl) (by rw [hWq2] at hSq2; exact hSq2) (fun _ => ?_)
            rw [← hWq2]
            clear hWq2 hSq2
            refine take_at (i := 0) (d := some 105) (v := .pointer (some ⟨b10, 0, none⟩)) rfl (by kernel_rfl) (by kernel_rfl) (by kernel_rfl) (fun _ _ _ h => h) (fun oi ho => ?_) HSQ.out ?_
            · obtain rfl := Option.some.inj ho
              exact Or.inl ⟨by rfl, fun wx hSw => by go_simp⟩
            simp only [Act.put, List.setIfInBounds_toArray, List.set_cons_zero, List.set_cons_succ]
            refine take_at (i := 1) (d := some 106) (v := S pn) rfl (by kernel_rfl) (by kernel_rfl) (by kernel_rfl) (fun _ _ _ h => h) (fun oi ho => ?_) HSQ.out ?_
            · obtain rfl := Option.some.inj ho
              exact Or.inl ⟨by rfl, fun wx hSw => by obtain ⟨q0, q1⟩ := hSw; go_simp⟩
            simp only [Act.put, List.setIfInBounds_toArray, List.set_cons_zero, List.set_cons_succ]
            refine take_at (i := 2) (d := some 107) (v := .slice (some ⟨bn, 0, none⟩) 4 4) rfl (by kernel_rfl) (by kernel_rfl) (by kernel_rfl) (fun _ _ _ h => h) (fun oi ho => ?_) HSQ.out ?_
            · obtain rfl := Option.some.inj ho
              exact Or.inl ⟨by rfl, fun wx hSw => by go_simp⟩
            simp only [Act.put, List.setIfInBounds_toArray, List.set_cons_zero, List.set_cons_succ]
            refine take_at (i := 3) (d := some 108) (v := .int .i64 (k : Int)) rfl (by kernel_rfl) (by kernel_rfl) (by kernel_rfl) (fun _ _ _ h => h) (fun oi ho => ?_) HSQ.out ?_
            · obtain rfl := Option.some.inj ho
              exact Or.inl ⟨by rfl, fun wx hSw => by go_simp⟩
            simp only [Act.put, List.setIfInBounds_toArray, List.set_cons_zero, List.set_cons_succ]
            refine take_at (i := 4) (d := some 109) (v := .pointer (some ⟨bn, k, none⟩)) rfl (by kernel_rfl) (by kernel_rfl) (by kernel_rfl) (fun _ _ _ h => h) (fun oi ho => ?_) HSQ.out ?_
            · obtain rfl := Option.some.inj ho
              exact Or.inl ⟨by rfl, fun wx hSw => by go_simp⟩
            simp only [Act.put, List.setIfInBounds_toArray, List.set_cons_zero, List.set_cons_succ]
            refine take_at (i := 5) (d := some 110) (v := S (nmR k)) rfl (by kernel_rfl) (by kernel_rfl) (by kernel_rfl) (fun _ _ _ h => h) (fun oi ho => ?_) HSQ.out ?_
            · obtain rfl := Option.some.inj ho
              exact Or.inl ⟨by rfl, fun wx hSw => by obtain ⟨q0, q1⟩ := hSw; go_simp⟩
            simp only [Act.put, List.setIfInBounds_toArray, List.set_cons_zero, List.set_cons_succ]
            refine ready_call (i := 6) (d := some 111) (f := 37) (args := #[S pn, S (nmR k)]) rfl (by kernel_rfl) (fun oi ho => ?_) ?_
            · obtain rfl := Option.some.inj ho
              exact ⟨by rfl, by go_simp⟩
            refine (HAL.out Wq2).mono ?_
            rintro e W9 ⟨rfl, hB9⟩
            have HB9 := Lib.hid (HB2.out.trans (hB9.mono HB2.out.size))
            have hS9 : W9.cell? ⟨b10, 0, none⟩ = some (S pn) ∧ W9.cell? ⟨bn, k, none⟩ = some (S (nmR k)) :=
              ⟨by rw [hB9.cell (World.block_lt_of_cell? Wq2 _ HSQ.out.1)]; exact HSQ.out.1, by rw [hB9.cell (World.block_lt_of_cell? Wq2 _ HSQ.out.2)]; exact HSQ.out.2⟩
            clear hB9 HB2
            refine ⟨_, rfl, hS9, ?_⟩
            clear hS9
            simp only [Act.put, List.setIfInBounds_toArray, List.set_cons_zero, List.set_cons_succ]
            refine wpAnyH_done (by kernel_rfl) ?_ _
            refine NoPanic.normal ?_
            obtain ⟨al, hal⟩ : ∃ al, al = alikeF n (nmR k) := ⟨_, rfl⟩
            rw [← hal]
            have HLL := Lib.hid hal
            clear hal HAL
            cases al with
            | true =>
              go_wp2
              go_ret
              exact ⟨false, rfl, (fun h => by cases h), HG.out.1.bel.trans (HB9.out.mono HG.out.1.bel.size)⟩
            | false =>
              go_wp2
              exact ⟨⟨k + 1, by omega, by go_num, Lib.hid ⟨HB9.out, fun j hj => by
                by_cases h : j < k
                · exact HK.out.2 j h
                · obtain rfl : j = k := by omega
                  exact HLL.out.symm⟩⟩, by simp [intOf]; omega⟩
          · obtain rfl : k = 4 := by omega
            have HME := Lib.hid (And.intro (HG.out.1.below HK.out.1) (HPP.out HK.out.2))
            go_wp2
            exact ⟨⟨i + 1, by omega, by go_num, Lib.hid ⟨HME.out.1, HME.out.2⟩⟩, by simp [intOf]; omega⟩
    · have hS6 := ThreeAt.below HSQ.out ((Below.refl _ Wq).alloc (Nat.le_refl _) (.cells #[.string ⟨#[]⟩, .string ⟨#[]⟩] 47))
      simp only [Act.put, List.setIfInBounds_toArray, List.set_cons_zero, List.set_cons_succ]
      have hr5 : Row (Wq.alloc (.cells #[.string ⟨#[]⟩, .string ⟨#[]⟩] 47)) Wq.heap.size #[.string ⟨#[]⟩, .string ⟨#[]⟩] 47 := row_new _ _ _
      have hB5 : Below Wq.heap.size Wq (Wq.alloc (.cells #[.string ⟨#[]⟩, .string ⟨#[]⟩] 47)) := (Below.refl _ Wq).alloc (Nat.le_refl _) _
      refine ready_call (i := 14) (d := some 84) (f := 36) (args := #[S Z2]) rfl (by kernel_rfl) (fun oi ho => ?_) ?_
      · obtain rfl := Option.some.inj ho
        exact ⟨by rfl, by go_simp⟩
      refine (HPS.out _).mono ?_
      rintro e W6 ⟨rfl, hB56⟩
      have hS7 := ThreeAt.below hS6 hB56
      have hr6 := hr5.below hB56 hr5.lt
      have hB6 := hB5.trans (hB56.mono hB5.size)
      clear hS6 HSQ
      have hS6 := hS7
      have HSQ := Lib.hid hS7
      clear hS7
      refine ⟨_, rfl, hS6, ?_⟩
      simp only [Act.put, List.setIfInBounds_toArray, List.set_cons_zero, List.set_cons_succ]
      refine take_at (i := 15) (d := some 69) (v := .tuple #[.agg #[S pn, S pv], .bool fine]) rfl (by kernel_rfl) (by kernel_rfl) (by kernel_rfl) (fun _ _ _ h => h) (fun oi ho => ?_) HSQ.out ?_
      · obtain rfl := Option.some.inj ho
        exact Or.inl ⟨by rfl, fun wx hSw => by go_simp⟩
      simp only [Act.put, List.setIfInBounds_toArray, List.set_cons_zero, List.set_cons_succ]
      refine take_at (i := 16) (d := some 85) (v := .agg #[S pn, S pv]) rfl (by kernel_rfl) (by kernel_rfl) (by kernel_rfl) (fun _ _ _ h => h) (fun oi ho => ?_) HSQ.out ?_
      · obtain rfl := Option.some.inj ho
        exact Or.inl ⟨by rfl, fun wx hSw => by go_simp⟩
      simp only [Act.put, List.setIfInBounds_toArray, List.set_cons_zero, List.set_cons_succ]
      refine take_at (i := 17) (d := some 86) (v := .bool fine) rfl (by kernel_rfl) (by kernel_rfl) (by kernel_rfl) (fun _ _ _ h => h) (fun oi ho => ?_) HSQ.out ?_
      · obtain rfl := Option.some.inj ho
        exact Or.inl ⟨by rfl, fun wx hSw => by go_simp⟩
      simp only [Act.put, List.setIfInBounds_toArray, List.set_cons_zero, List.set_cons_succ]
      have hge : Wq.heap.size ≤ Wq.heap.size := Nat.le_refl _
      obtain ⟨b10, hb10⟩ : ∃ x, x = Wq.heap.size := ⟨_, rfl⟩
      have hge2 : Wq.heap.size ≤ b10 := by omega
      rw [← hb10] at hr6
      rw [← hb10]
      clear hb10 hge HSQ hr5 hB5 hB56
      have hge := hge2
      clear hge2
      obtain ⟨WS, hst, hrS, hkS⟩ := store_field hr6 pn pv
      have hlt1 : b1 < Wq.heap.size := HQ.out.row.lt
      have hlt2 : b < Wq.heap.size := World.block_lt_of_cell? Wq _ HCQ.out
      have hSS := ThreeAt.keeps hS6 hkS (by omega) (by omega)
      refine ready_skip (i := 19) (d := none) (w' := WS) rfl (by kernel_rfl) (fun oi ho => ?_) hSS ?_
      · obtain rfl := Option.some.inj ho
        exact ⟨by rfl, exec_store_by _ _ _ rfl _ rfl rfl hst⟩
      refine ready_value (i := 20) (d := some 11) (v := .bool fine) (w' := WS) rfl (by kernel_rfl) (fun oi ho => ?_) hSS ?_
      · obtain rfl := Option.some.inj ho
        exact ⟨by rfl, by go_simp⟩
      simp only [Act.put, List.setIfInBounds_toArray, List.set_cons_zero, List.set_cons_succ]
      refine wpAnyH_done (by kernel_rfl) ?_ _
      refine NoPanic.normal ?_
      have hBS : Below Wq.heap.size Wq WS := hB6.trans (hkS.below hB6.size hge)
      have HS := Lib.hid (And.intro (HQ.out.below hBS) (And.intro hrS hSS))
      have x0 : WS.cell? ⟨b10, 0, none⟩ = some (S pn) := cell_of_row WS _ 0 _ _ (0, 0) hrS
      have x1 : WS.cell? ⟨b10, 1, none⟩ = some (S pv) := cell_of_row WS _ 1 _ _ (0, 0) hrS
      have y0 : WS.cell? ⟨b1, 4, none⟩ = some (.slice a N c) := hSS.1
      have y1 : WS.cell? ⟨b, kk, none⟩ = some (S n) := hSS.2.1
      have y2 : WS.cell? ⟨b, kk + 1, none⟩ = some (S u) := hSS.2.2
      clear hst hrS hkS hlt1 hlt2 hSS hBS hB6 hr6 hge hS6
      cases fine with
      | false =>
        go_wp2
        go_quiet (fail)
        go_wp2
        go_ret
        exact ⟨false, rfl, (fun h => by cases h), HS.out.1.bel.trans ⟨rfl, rfl, rfl, Nat.le_refl _, fun _ _ => rfl⟩⟩
      | true =>
        have e1 := eq_text pn n
        have e2 := eq_text pv u
        have hmx : Tryz.prog.follows .mixedOrders = true := by kernel_rfl
        by_cases hpn : pn = n
        case neg =>
          rw [show (pn == n) = false from beq_eq_false_iff_ne.2 hpn] at e1
          clear hpn
          go_wp2
          go_quiet (fail)
          go_wp2
          go_ret
          exact ⟨false, rfl, (fun h => by cases h), HS.out.1.bel.trans ⟨rfl, rfl, rfl, Nat.le_refl _, fun _ _ => rfl⟩⟩
        rw [show (pn == n) = true by rw [hpn]; simp] at e1
        by_cases hpv : pv = u
        case neg =>
          rw [show (pv == u) = false from beq_eq_false_iff_ne.2 hpv] at e2
          clear hpv hpn
          go_wp2
          go_quiet (fail)
          go_wp2
          go_ret
          exact ⟨false, rfl, (fun h => by cases h), HS.out.1.bel.trans ⟨rfl, rfl, rfl, Nat.le_refl _, fun _ _ => rfl⟩⟩
        rw [show (pv == u) = true by rw [hpv]; simp] at e2
        have HPP := Lib.hid (HPL.out (by trivial) hpn hpv)
        have HPN := Lib.hid hpn
        clear hpv hpn
        go_wp2
        go_quiet (fail)
        go_wp2
        obtain ⟨Wd, hWd⟩ : ∃ Wd, Wd = WS.drewN nq := ⟨_, rfl⟩
        rw [← hWd]
        have hBd : Below WS.heap.size WS Wd := by rw [hWd]; exact ⟨rfl, rfl, rfl, Nat.le_refl _, fun _ _ => rfl⟩
        have hsz : Wd.heap.size = WS.heap.size := by rw [hWd]; rfl
        obtain ⟨WN, hWN⟩ : ∃ WN, WN = Wd.alloc (.cells #[.string ⟨#[104, 111, 115, 116]⟩, .string ⟨#[99, 111, 110, 116, 101, 110, 116, 45, 108, 101, 110, 103, 116, 104]⟩, .string ⟨#[116, 114, 97, 110, 115, 102, 101, 114, 45, 101, 110, 99, 111, 100, 105, 110, 103]⟩, .string ⟨#[99, 111, 110, 110, 101, 99, 116, 105, 111, 110]⟩] 9) := ⟨_, rfl⟩
        have hBN : Below WS.heap.size WS WN := by rw [hWN]; exact hBd.alloc hBd.size _
        have hrn : Row WN WS.heap.size #[S hostL, S clL, S teL, S coL] 9 := by
          have := row_new Wd #[.string ⟨#[104, 111, 115, 116]⟩, .string ⟨#[99, 111, 110, 116, 101, 110, 116, 45, 108, 101, 110, 103, 116, 104]⟩, .string ⟨#[116, 114, 97, 110, 115, 102, 101, 114, 45, 101, 110, 99, 111, 100, 105, 110, 103]⟩, .string ⟨#[99, 111, 110, 110, 101, 99, 116, 105, 111, 110]⟩] 9
          rw [hsz] at this
          rw [hWN]; exact this
        obtain ⟨bn, hbn⟩ : ∃ x, x = WS.heap.size := ⟨_, rfl⟩
        have hMN := HS.out.1.below hBN
        have hr10 := HS.out.2.1.below hBN HS.out.2.1.lt
        rw [← hbn] at hrn
        rw [← hbn, ← hWN]
        have HG := Lib.hid (And.intro hMN (And.intro hr10 hrn))
        clear hWd hBd hsz hWN hBN hrn hbn hMN hr10 x0 x1 y0 y1 y2 e1 e2 HS
        go_loopw [13] (fun kv wk => ∃ k : Nat, k ≤ 4 ∧ kv = .int .i64 (k : Int) ∧ Hid (Below WN.heap.size WN wk ∧ ∀ j, j < k → alikeF n (nmR j) = false)) (fun kv _ => 4 - (intOf kv).toNat)
        case atStart => exact ⟨0, Nat.zero_le _, rfl, Lib.hid ⟨Below.refl _ _, fun j h => by omega⟩⟩
        case round =>
          obtain ⟨k, hk, rfl, HK⟩ := hrel
          by_cases hk4 : k < 4
          · have g4 : decide ((k : Int) < 4) = true := decide_eq_true (by omega)
            have hixn : ∀ W, (Instr.indexAt 78 (.slice (some ⟨bn, 0, none⟩) 4 4) (.int .i64 (k : Int))).run Tryz.prog W = .ok (.pointer (some ⟨bn, k, none⟩)) W := fun W => by
              have := run_index_at (P := Tryz.prog) Tryz.underlying78 (fun w => Tryz.sizeOf9 w) bn 0 4 4 k hk4 W
              rwa [Nat.zero_add, Nat.mul_one] at this
            have hwk : IntKind.i64.wrap ((k : Int) + 1) = (k : Int) + 1 := by rw [IntKind.wrap_i64]; omega
            have hck : WN.cell? ⟨bn, k, none⟩ = some (S (nmR k)) := by
              rw [cell_of_row WN bn k _ 9 (0, 0) HG.out.2.2]
              rcases (by omega : k = 0 ∨ k = 1 ∨ k = 2 ∨ k = 3) with rfl | rfl | rfl | rfl <;> rfl
            obtain ⟨Wq2, hWq2⟩ : ∃ Wq, Wq = wr.drew := ⟨_, rfl⟩
            have hBq2 : Below WN.heap.size WN Wq2 := by rw [hWq2]; exact HK.out.1.trans ⟨rfl, rfl, rfl, Nat.le_refl _, fun _ _ => rfl⟩
            have hSq2 : Wq2.cell? ⟨b10, 0, none⟩ = some (S pn) ∧ Wq2.cell? ⟨bn, k, none⟩ = some (S (nmR k)) :=
              ⟨cell_of_row Wq2 b10 0 _ _ (0, 0) (HG.out.2.1.below hBq2 HG.out.2.1.lt), by rw [hBq2.cell (World.block_lt_of_cell? WN _ hck)]; exact hck⟩
            have HSQ := Lib.hid hSq2
            have HB2 := Lib.hid hBq2
            have HAL : Hid (∀ W, Calls Tryz.prog 37 #[S pn, S (nmR k)] W fun e w' => e = .returned (.bool (alikeF n (nmR k))) ∧ Below W.heap.size W w') := Lib.hid fun W => by
              rw [HPN.out]; exact HI.out.alike n (nmR k) W (by have := HNL.out; omega) (by have := nm_len k; omega)
            clear hBq2 hck
            go_wp2
            refine wp_region_noPanic ?_
            refine wp_region_held_drew (S := fun wx => wx.cell? ⟨b10, 0, none⟩ = some (S pn) ∧ wx.cell? ⟨bn, k, none⟩ = some (S (nmR k))) (by kernel_rfl) (by rw [hWq2] at hSq2; exact hSq2) (fun _ => ?_)
            rw [← hWq2]
            clear hWq2 hSq2
            refine take_at (i := 0) (d := some 105) (v := .pointer (some ⟨b10, 0, none⟩)) rfl (by kernel_rfl) (by kernel_rfl) (by kernel_rfl) (fun _ _ _ h => h) (fun oi ho => ?_) HSQ.out ?_
            · obtain rfl := Option.some.inj ho
              exact Or.inl ⟨by rfl, fun wx hSw => by go_simp⟩
            simp only [Act.put, List.setIfInBounds_toArray, List.set_cons_zero, List.set_cons_succ]
            refine take_at (i := 1) (d := some 106) (v := S pn) rfl (by kernel_rfl) (by kernel_rfl) (by kernel_rfl) (fun _ _ _ h => h) (fun oi ho => ?_) HSQ.out ?_
            · obtain rfl := Option.some.inj ho
              exact Or.inl ⟨by rfl, fun wx hSw => by obtain ⟨q0, q1⟩ := hSw; go_simp⟩
            simp only [Act.put, List.setIfInBounds_toArray, List.set_cons_zero, List.set_cons_succ]
            refine take_at (i := 2) (d := some 107) (v := .slice (some ⟨bn, 0, none⟩) 4 4) rfl (by kernel_rfl) (by kernel_rfl) (by kernel_rfl) (fun _ _ _ h => h) (fun oi ho => ?_) HSQ.out ?_
            · obtain rfl := Option.some.inj ho
              exact Or.inl ⟨by rfl, fun wx hSw => by go_simp⟩
            simp only [Act.put, List.setIfInBounds_toArray, List.set_cons_zero, List.set_cons_succ]
            refine take_at (i := 3) (d := some 108) (v := .int .i64 (k : Int)) rfl (by kernel_rfl) (by kernel_rfl) (by kernel_rfl) (fun _ _ _ h => h) (fun oi ho => ?_) HSQ.out ?_
            · obtain rfl := Option.some.inj ho
              exact Or.inl ⟨by rfl, fun wx hSw => by go_simp⟩
            simp only [Act.put, List.setIfInBounds_toArray, List.set_cons_zero, List.set_cons_succ]
            refine take_at (i := 4) (d := some 109) (v := .pointer (some ⟨bn, k, none⟩)) rfl (by kernel_rfl) (by kernel_rfl) (by kernel_rfl) (fun _ _ _ h => h) (fun oi ho => ?_) HSQ.out ?_
            · obtain rfl := Option.some.inj ho
              exact Or.inl ⟨by rfl, fun wx hSw => by go_simp⟩
            simp only [Act.put, List.setIfInBounds_toArray, List.set_cons_zero, List.set_cons_succ]
            refine take_at (i := 5) (d := some 110) (v := S (nmR k)) rfl (by kernel_rfl) (by kernel_rfl) (by kernel_rfl) (fun _ _ _ h => h) (fun oi ho => ?_) HSQ.out ?_
            · obtain rfl := Option.some.inj ho
              exact Or.inl ⟨by rfl, fun wx hSw => by obtain ⟨q0, q1⟩ := hSw; go_simp⟩
            simp only [Act.put, List.setIfInBounds_toArray, List.set_cons_zero, List.set_cons_succ]
            refine ready_call (i := 6) (d := some 111) (f := 37) (args := #[S pn, S (nmR k)]) rfl (by kernel_rfl) (fun oi ho => ?_) ?_
            · obtain rfl := Option.some.inj ho
              exact ⟨by rfl, by go_simp⟩
            refine (HAL.out Wq2).mono ?_
            rintro e W9 ⟨rfl, hB9⟩
            have HB9 := Lib.hid (HB2.out.trans (hB9.mono HB2.out.size))
            have hS9 : W9.cell? ⟨b10, 0, none⟩ = some (S pn) ∧ W9.cell? ⟨bn, k, none⟩ = some (S (nmR k)) :=
              ⟨by rw [hB9.cell (World.block_lt_of_cell? Wq2 _ HSQ.out.1)]; exact HSQ.out.1, by rw [hB9.cell (World.block_lt_of_cell? Wq2 _ HSQ.out.2)]; exact HSQ.out.2⟩
            clear hB9 HB2
            refine ⟨_, rfl, hS9, ?_⟩
            clear hS9
            simp only [Act.put, List.setIfInBounds_toArray, List.set_cons_zero, List.set_cons_succ]
            refine wpAnyH_done (by kernel_rfl) ?_ _
            refine NoPanic.normal ?_
            obtain ⟨al, hal⟩ : ∃ al, al = alikeF n (nmR k) := ⟨_, rfl⟩
            rw [← hal]
            have HLL := Lib.hid hal
            clear hal HAL
            cases al with
            | true =>
              go_wp2
              go_ret
              exact ⟨false, rfl, (fun h => by cases h), HG.out.1.bel.trans (HB9.out.mono HG.out.1.bel.size)⟩
            | false =>
              go_wp2
              exact ⟨⟨k + 1, by omega, by go_num, Lib.hid ⟨HB9.out, fun j hj => by
                by_cases h : j < k
                · exact HK.out.2 j h
                · obtain rfl : j = k := by omega
                  exact HLL.out.symm⟩⟩, by simp [intOf]; omega⟩
          · obtain rfl : k = 4 := by omega
            have HME := Lib.hid (And.intro (HG.out.1.below HK.out.1) (HPP.out HK.out.2))
            go_wp2
            exact ⟨⟨i + 1, by omega, by go_num, Lib.hid ⟨HME.out.1, HME.out.2⟩⟩, by simp [intOf]; omega⟩
end Go.Proofs.YtplajlccnnbifaaGreatDoor
