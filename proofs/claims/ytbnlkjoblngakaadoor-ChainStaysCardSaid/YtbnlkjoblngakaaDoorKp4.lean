/- The landed package of chains: steps that refuse a request, or let it by. -/
import Derived.Test.YtbnlkjoblngakaaDoorKp3
namespace Go.Proofs.YtbnlkjoblngakaaDoor
open Go.RowKit Go.Shelf
attribute [local go_sem] store_one S_match S_store

theorem next_of {K1 K2 : Nat → Prop} {w1 w2 W Wc : World} {g gh : Nat} {lb lbh : Array Value} {l : List Stp} {s : Stp} {r : Rq} {V : Value} {b o : Nat} {q : Tx} {Q : Ending → World → Prop} (hsz : w1.heap.size ≤ w2.heap.size) (hb : ∀ k, K1 k → w2.heap[k]? = w1.heap[k]?) (h12 : ∀ k, K1 k → K2 k) (h2 : ∀ k, K2 k → k < w2.heap.size) (hd : DoesB K1 w1 g lb l gh lbh) (hl : l.length ≤ 100)
    (hs : w2.heap.size ≤ W.heap.size) (hk : ∀ k, K2 k → W.heap[k]? = w2.heap[k]?) (hA : FA W V r.fs b o) (hQ : GoneB K2 gh lbh W r r.p b (s :: l) Q) (hC : Below W.heap.size W Wc)
    (hr : SmallR { r with p := q }) (hS : stepS r.fs r.body s r.p = .inl q) : Calls Tryd.prog g (#[rqV { r with p := q } V] ++ lb) Wc (BackB K2 W Wc (addS r.fs s) Q) :=
  hd Wc (Nat.le_trans hsz (Nat.le_trans hs hC.size)) (fun k h1 => (hC.block k (Nat.lt_of_lt_of_le (h2 k (h12 k h1)) hs)).trans ((hk k (h12 k h1)).trans (hb k h1))) { r with p := q } V b o (hA.below hC) hr _ (back_of hS hQ hC h12 (fun k h => Nat.lt_of_lt_of_le (h2 k h) hs) hl)
/-- A step that only let the request by. -/
theorem BackB.pass {K : Nat → Prop} {W Wc W3 : World} {Q : Ending → World → Prop} {e : Ending} {b1 : Nat} (h : BackB K W Wc [] Q e W3) (hrow : Row Wc b1 #[.int .i64 0, .slice none 0 0, .string ⟨#[]⟩] 27) (hb1 : W.heap.size ≤ b1) :
    ∃ c a n cp body, e = .returned (rpV c (.slice a n cp) body) ∧ Row W3 b1 #[.int .i64 0, .slice none 0 0, .string ⟨#[]⟩] 27 ∧ Q (.returned (rpV c (.slice a n cp) body)) (put3k W3 b1 (.int .i64 c) (.slice a n cp) (S body)) := by
  obtain ⟨B, c, V3, fs, body, rfl, h1, h2, h3, h4, h5, h6⟩ := h
  obtain ⟨a, cp, rfl⟩ := fo_form h3
  have hlt := hrow.lt
  have hR := ((set_rest W3 b1 0 (.int .i64 c)).trans (set_rest _ b1 1 (.slice a fs.length cp))).trans (set_rest _ b1 2 (S body))
  refine ⟨c, a, fs.length, cp, body, rfl, row_heap (h5 b1 (.inr ⟨hb1, hlt⟩)) hrow, h6 _ _ (hR.mono fun k hk h => ?_) ?_⟩
  · right; omega
  · rw [List.append_nil]
    exact own_same h3 fun j hj => hR.rest j (World.ownsRow.lt h3 j hj).2 (fun h => by have := (World.ownsRow.lt h3 j hj).1; omega)
set_option maxRecDepth 100000 in
set_option maxHeartbeats 1000000 in
theorem limit_does {K1 K2 : Nat → Prop} {w1 w2 : World} {g gh : Nat} {lb lbh : Array Value} {l : List Stp} {s : Stp} {b1 b2 : Nat} (hsz : w1.heap.size ≤ w2.heap.size) (hb : ∀ k, K1 k → w2.heap[k]? = w1.heap[k]?) (h12 : ∀ k, K1 k → K2 k) (h2 : ∀ k, K2 k → k < w2.heap.size) (hen : Entering g) (hd : DoesB K1 w1 g lb l gh lbh) (hl : l.length ≤ 100) (hsk : s.kind = 3) (_hsn : s.name.length ≤ 100) (_hsv : s.val.length ≤ 100)
    (hg1 : K2 b1) (hr1 : Row w2 b1 #[.int .i64 s.n] 3) (hg2 : K2 b2) (hr2 : Row w2 b2 #[hV g lb] 40) :
    DoesB K2 w2 62 #[.pointer (some ⟨b1, 0, none⟩), .pointer (some ⟨b2, 0, none⟩)] (s :: l) gh lbh := by
  intro W hs hk r V b o hA hr Q hQ
  have hrW1 := row_heap (hk b1 hg1) hr1
  have hrW2 := row_heap (hk b2 hg2) hr2
  obtain ⟨W1, hW1⟩ : ∃ W1, W1 = (W.alloc (.cells (rqC r V) 25)).alloc (.cells #[.int .i64 0, .slice none 0 0, .string ⟨#[]⟩] 27) := ⟨_, rfl⟩
  have hs1 : W1.heap.size = W.heap.size + 2 := by rw [hW1]; simp
  have hB1 : Below W.heap.size W W1 := by rw [hW1]; exact ((Below.refl _ W).alloc (Nat.le_refl _) _).alloc (by rw [alloc_size]; omega) _
  have hr0 : Row W1 W.heap.size (rqC r V) 25 := by rw [hW1]; exact (row_new W _ _).alloc _
  have hrr : Row W1 (W.heap.size + 1) #[.int .i64 0, .slice none 0 0, .string ⟨#[]⟩] 27 := by
    have h := row_new (W.alloc (.cells (rqC r V) 25)) #[.int .i64 0, .slice none 0 0, .string ⟨#[]⟩] 27
    rw [alloc_size] at h
    rw [hW1]; exact h
  have hrV1 : Row W1 b1 #[.int .i64 s.n] 3 := hrW1.below hB1 hrW1.lt
  have k1 : W1.cell? ⟨b1, 0, none⟩ = some (.int .i64 s.n) := cell_of_row W1 b1 0 _ _ (0, 0) hrV1
  have hrV2 : Row W1 b2 #[hV g lb] 40 := hrW2.below hB1 hrW2.lt
  have k2 : W1.cell? ⟨b2, 0, none⟩ = some (hV g lb) := cell_of_row W1 b2 0 _ _ (0, 0) hrV2
  have hen' : ∀ args w, (callFunc g args).run Tryd.prog w = .ok (.enter g args) w := hen
  have hadd : addS r.fs s = [] := by unfold addS; rw [if_neg (by omega), if_neg (by omega)]
  have hlB := run_len_S (P := Tryd.prog) Tryd.underlying9 3 r.body
  have H1 := Lib.hid (And.intro hrr hB1)
  have hpo := @next_of K1 K2 w1 w2 W W1 g gh lb lbh l s r V b o r.p Q hsz hb h12 h2 hd hl hs hk hA hQ hB1 hr
  rw [hadd] at hpo
  have HG := Lib.hid (fun x (h : stepS r.fs r.body s r.p = .inr x) => gone_no h hQ)
  have HS : Hid (stepS r.fs r.body s r.p = if s.n < (r.body.length : Int) then .inr (413, [116, 111, 111, 32, 108, 111, 110, 103]) else .inl r.p) := Lib.hid (by unfold stepS; rw [if_neg (by omega), if_pos hsk])
  obtain ⟨N, hN⟩ : ∃ N, N = s.n := ⟨_, rfl⟩
  rw [← hN] at k1 HS
  obtain ⟨LB, hLB⟩ : ∃ L, L = r.body.length := ⟨_, rfl⟩
  rw [← hLB] at hlB HS
  have HP := Lib.hid hpo
  clear hpo hN hLB hadd hB1 hr0 hrr hrW1 hrW2 hrV1 hrV2 hk hA hQ hr1 hr2 hg1 hg2 hen hd hb hsz h12 h2 hl hr hsk
  unfold rqV rqC at HP ⊢
  unfold rqC at hW1
  unfold hV at k2
  rw [hW1] at k1 k2 HP
  by_cases hlt : N < (LB : Int)
  · have g1 : decide (N < (LB : Int)) = true := decide_eq_true hlt
    have g2 : decide ((LB : Int) > N) = true := decide_eq_true hlt
    have HE := Lib.hid (HG.out _ (by rw [HS.out, if_pos hlt]))
    clear HP HG HS hlt
    go_enter Tryd.func62, Tryd.ntmps62
    go_wp2_with fail
    rw [← hW1]
    refine (refused_any 413 [116, 111, 111, 32, 108, 111, 110, 103] W1).mono ?_
    rintro e Wz ⟨rfl, hBz⟩
    have hrz := H1.out.1.below hBz H1.out.1.lt
    have e0 : Wz.cell? ⟨W.heap.size + 1, 0, none⟩ = some (.int .i64 0) := cell_of_row Wz _ 0 _ _ (0, 0) hrz
    have e1 : Wz.cell? ⟨W.heap.size + 1, 1, none⟩ = some (.slice none 0 0) := cell_of_row Wz _ 1 _ _ (0, 0) hrz
    have e2 : Wz.cell? ⟨W.heap.size + 1, 2, none⟩ = some (.string ⟨#[]⟩) := cell_of_row Wz _ 2 _ _ (0, 0) hrz
    have y0 := hrz.frozen 0
    have y1 := hrz.frozen 1
    have y2 := hrz.frozen 2
    have HZ := Lib.hid (And.intro hrz (H1.out.2.trans (hBz.mono H1.out.2.size)))
    clear hBz hrz
    unfold rpV rpC
    go_wp2
    refine bodyPost_ret (results_row_one rfl _ _ (W.heap.size + 1) 27 #[.int .i64 413, .slice none 0 0, S [116, 111, 111, 32, 108, 111, 110, 103]] (0, 0) _ rfl (put3k_row HZ.out.1 _ _ _) Tryd.underlying27 rfl infoRp) rfl ?_
    exact HE.out _ (put3k_below HZ.out.2 (by omega) _ _ _)
  · have g1 : decide (N < (LB : Int)) = false := decide_eq_false hlt
    have g2 : decide ((LB : Int) > N) = false := decide_eq_false hlt
    have HE := Lib.hid (HP.out (by rw [HS.out, if_neg hlt]))
    clear HP HG HS hlt
    go_enter Tryd.func62, Tryd.ntmps62
    go_wp2_with fail
    refine HE.out.mono ?_
    rintro e Wz hBk
    rw [← hW1] at hBk
    obtain ⟨c, a, n, cp, body, rfl, hrz, hq⟩ := hBk.pass H1.out.1 (by omega)
    have e0 : Wz.cell? ⟨W.heap.size + 1, 0, none⟩ = some (.int .i64 0) := cell_of_row Wz _ 0 _ _ (0, 0) hrz
    have e1 : Wz.cell? ⟨W.heap.size + 1, 1, none⟩ = some (.slice none 0 0) := cell_of_row Wz _ 1 _ _ (0, 0) hrz
    have e2 : Wz.cell? ⟨W.heap.size + 1, 2, none⟩ = some (.string ⟨#[]⟩) := cell_of_row Wz _ 2 _ _ (0, 0) hrz
    have y0 := hrz.frozen 0
    have y1 := hrz.frozen 1
    have y2 := hrz.frozen 2
    have HZ := Lib.hid (And.intro hrz hq)
    clear hrz hq hBk
    unfold rpV rpC
    go_wp2
    refine bodyPost_ret (results_row_one rfl _ _ (W.heap.size + 1) 27 #[.int .i64 c, .slice a n cp, S body] (0, 0) _ rfl (put3k_row HZ.out.1 _ _ _) Tryd.underlying27 rfl infoRp) rfl ?_
    exact HZ.out.2
set_option maxRecDepth 100000 in
set_option maxHeartbeats 1000000 in
theorem need_does {K1 K2 : Nat → Prop} {w1 w2 : World} {g gh : Nat} {lb lbh : Array Value} {l : List Stp} {s : Stp} {b1 b2 b3 : Nat} (hsz : w1.heap.size ≤ w2.heap.size) (hb : ∀ k, K1 k → w2.heap[k]? = w1.heap[k]?) (h12 : ∀ k, K1 k → K2 k) (h2 : ∀ k, K2 k → k < w2.heap.size) (hen : Entering g) (hd : DoesB K1 w1 g lb l gh lbh) (hl : l.length ≤ 100) (hsk : s.kind = 2) (hsn : s.name.length ≤ 100) (_hsv : s.val.length ≤ 100)
    (hg1 : K2 b1) (hr1 : Row w2 b1 #[S s.name] 9) (hg2 : K2 b2) (hr2 : Row w2 b2 #[S s.val] 9) (hg3 : K2 b3) (hr3 : Row w2 b3 #[hV g lb] 40) :
    DoesB K2 w2 59 #[.pointer (some ⟨b1, 0, none⟩), .pointer (some ⟨b2, 0, none⟩), .pointer (some ⟨b3, 0, none⟩)] (s :: l) gh lbh := by
  intro W hs hk r V b o hA hr Q hQ
  have hrW1 := row_heap (hk b1 hg1) hr1
  have hrW2 := row_heap (hk b2 hg2) hr2
  have hrW3 := row_heap (hk b3 hg3) hr3
  obtain ⟨W1, hW1⟩ : ∃ W1, W1 = (W.alloc (.cells (rqC r V) 25)).alloc (.cells #[.int .i64 0, .slice none 0 0, .string ⟨#[]⟩] 27) := ⟨_, rfl⟩
  have hs1 : W1.heap.size = W.heap.size + 2 := by rw [hW1]; simp
  have hB1 : Below W.heap.size W W1 := by rw [hW1]; exact ((Below.refl _ W).alloc (Nat.le_refl _) _).alloc (by rw [alloc_size]; omega) _
  have hr0 : Row W1 W.heap.size (rqC r V) 25 := by rw [hW1]; exact (row_new W _ _).alloc _
  have hrr : Row W1 (W.heap.size + 1) #[.int .i64 0, .slice none 0 0, .string ⟨#[]⟩] 27 := by
    have h := row_new (W.alloc (.cells (rqC r V) 25)) #[.int .i64 0, .slice none 0 0, .string ⟨#[]⟩] 27
    rw [alloc_size] at h
    rw [hW1]; exact h
  have hrV1 : Row W1 b1 #[S s.name] 9 := hrW1.below hB1 hrW1.lt
  have k1 : W1.cell? ⟨b1, 0, none⟩ = some (S s.name) := cell_of_row W1 b1 0 _ _ (0, 0) hrV1
  have hrV2 : Row W1 b2 #[S s.val] 9 := hrW2.below hB1 hrW2.lt
  have k2 : W1.cell? ⟨b2, 0, none⟩ = some (S s.val) := cell_of_row W1 b2 0 _ _ (0, 0) hrV2
  have hrV3 : Row W1 b3 #[hV g lb] 40 := hrW3.below hB1 hrW3.lt
  have k3 : W1.cell? ⟨b3, 0, none⟩ = some (hV g lb) := cell_of_row W1 b3 0 _ _ (0, 0) hrV3
  have hen' : ∀ args w, (callFunc g args).run Tryd.prog w = .ok (.enter g args) w := hen
  have hadd : addS r.fs s = [] := by unfold addS; rw [if_neg (by omega), if_neg (by omega)]
  have HG := Lib.hid (fun x (h : stepS r.fs r.body s r.p = .inr x) => gone_no h hQ)
  have HS : Hid (stepS r.fs r.body s r.p = match firstF r.fs s.name with
    | none => .inr (403, [102, 111, 114, 98, 105, 100, 100, 101, 110])
    | some v => if s.val ≠ [] ∧ v ≠ s.val then .inr (403, [102, 111, 114, 98, 105, 100, 100, 101, 110]) else .inl r.p) := Lib.hid (by unfold stepS; rw [if_pos hsk]; cases firstF r.fs s.name <;> rfl)
  have HC := Lib.hid (get13L_any V r.fs b o s.name (by omega) (by have := hr.few; omega) (fun f hf => by have := (hr.each f hf).1; omega) W1 (hA.below hB1))
  have HN : Hid (∀ Wc, Below W1.heap.size W1 Wc → stepS r.fs r.body s r.p = .inl r.p → Calls Tryd.prog g (#[rqV r V] ++ lb) Wc (BackB K2 W Wc [] Q)) := Lib.hid fun Wc hC h => by
    have := @next_of K1 K2 w1 w2 W Wc g gh lb lbh l s r V b o r.p Q hsz hb h12 h2 hd hl hs hk hA hQ (hB1.trans (hC.mono hB1.size)) hr h
    rwa [hadd] at this
  have c4 : W1.cell? ⟨W.heap.size, 4, none⟩ = some V := cell_of_row W1 _ 4 _ _ (0, 0) hr0
  have H1 := Lib.hid (And.intro hr0 (And.intro hrr (And.intro hrV1 (And.intro hrV2 (And.intro hrV3 hB1)))))
  have HF := Lib.hid (cntL_first s.name r.fs)
  obtain ⟨nm, hnm⟩ : ∃ x, x = s.name := ⟨_, rfl⟩
  obtain ⟨vl, hvl⟩ : ∃ x, x = s.val := ⟨_, rfl⟩
  rw [← hnm] at k1 HS HC HF H1
  rw [← hvl] at k2 HS H1
  obtain ⟨CN, hCN⟩ : ∃ x, x = cntF nm r.fs := ⟨_, rfl⟩
  obtain ⟨FV, hFV⟩ : ∃ x, x = valF nm r.fs := ⟨_, rfl⟩
  rw [← hCN] at HC HF
  rw [← hFV] at HC HF
  clear hCN hFV hnm hvl hadd hB1 hr0 hrr hrW1 hrW2 hrW3 hrV1 hrV2 hrV3 hk hA hQ hr1 hr2 hr3 hg1 hg2 hg3 hen hd hb hsz h12 h2 hl hr hsk hsn k2 k3
  unfold rqV rqC at HN ⊢
  unfold rqC at hW1
  rw [hW1] at k1 HC c4
  go_enter Tryd.func59, Tryd.ntmps59
  go_wp2_with fail
  refine HC.out.mono ?_
  rintro e W2 ⟨rfl, hB2⟩
  rw [← hW1] at hB2
  clear HC k1 c4 hW1
  have hr0 := H1.out.1.below hB2 H1.out.1.lt
  have hrr := H1.out.2.1.below hB2 H1.out.2.1.lt
  have hrV2 := H1.out.2.2.2.1.below hB2 H1.out.2.2.2.1.lt
  have hrV3 := H1.out.2.2.2.2.1.below hB2 H1.out.2.2.2.2.1.lt
  have k2 : W2.cell? ⟨b2, 0, none⟩ = some (S vl) := cell_of_row W2 b2 0 _ _ (0, 0) hrV2
  have k3 : W2.cell? ⟨b3, 0, none⟩ = some (hV g lb) := cell_of_row W2 b3 0 _ _ (0, 0) hrV3
  unfold hV at k3
  have d0 : W2.cell? ⟨W.heap.size, 0, none⟩ = some (S r.m) := cell_of_row W2 _ 0 _ _ (0, 0) hr0
  have d1 : W2.cell? ⟨W.heap.size, 1, none⟩ = some (S r.p) := cell_of_row W2 _ 1 _ _ (0, 0) hr0
  have d2 : W2.cell? ⟨W.heap.size, 2, none⟩ = some (S r.q) := cell_of_row W2 _ 2 _ _ (0, 0) hr0
  have d3 : W2.cell? ⟨W.heap.size, 3, none⟩ = some (.int .i64 r.v) := cell_of_row W2 _ 3 _ _ (0, 0) hr0
  have d4 : W2.cell? ⟨W.heap.size, 4, none⟩ = some (V) := cell_of_row W2 _ 4 _ _ (0, 0) hr0
  have d5 : W2.cell? ⟨W.heap.size, 5, none⟩ = some (S r.body) := cell_of_row W2 _ 5 _ _ (0, 0) hr0
  have d6 : W2.cell? ⟨W.heap.size, 6, none⟩ = some (.bool r.cl) := cell_of_row W2 _ 6 _ _ (0, 0) hr0
  have H2 : Hid (Row W2 (W.heap.size + 1) #[.int .i64 0, .slice none 0 0, .string ⟨#[]⟩] 27 ∧ Below W.heap.size W W2) := Lib.hid ⟨hrr, H1.out.2.2.2.2.2.trans (hB2.mono H1.out.2.2.2.2.2.size)⟩
  have HNX := Lib.hid (HN.out W2 hB2)
  clear hB2 hr0 hrr hrV2 hrV3 H1 HN
  have hfst : (CN = 0 ∧ stepS r.fs r.body s r.p = .inr (403, [102, 111, 114, 98, 105, 100, 100, 101, 110])) ∨ (0 < CN ∧ stepS r.fs r.body s r.p = if vl ≠ [] ∧ FV ≠ vl then .inr (403, [102, 111, 114, 98, 105, 100, 100, 101, 110]) else .inl r.p) := by
    rw [HS.out]
    cases h : firstF r.fs nm with
    | none => exact .inl ⟨(HF.out.1 h).1, rfl⟩
    | some v => obtain ⟨h1, h2⟩ := HF.out.2 v h; exact .inr ⟨h1, by rw [h2]⟩
  clear HS HF
  have n1 : ∀ x y, eqGuard .neq 9 x y (S vl) (.string ⟨#[]⟩) = pure () := fun _ _ => rfl
  have n2 : ∀ x y, eqGuard .neq 9 x y (S FV) (S vl) = pure () := fun _ _ => rfl
  rcases hfst with ⟨h0, hst⟩ | ⟨h0, hst⟩
  · have hz : ((CN : Int) == 0) = true := by rw [beq_iff_eq]; omega
    have hz' : (CN == 0) = true := by rw [beq_iff_eq]; omega
    have hz2 : decide (CN = 0) = true := decide_eq_true h0
    have HE := Lib.hid (HG.out _ hst)
    clear hst HG HNX h0
    go_wp2_with fail
    refine (refused_any 403 [102, 111, 114, 98, 105, 100, 100, 101, 110] W2).mono ?_
    rintro e Wz ⟨rfl, hBz⟩
    have hrz := H2.out.1.below hBz H2.out.1.lt
    have e0 : Wz.cell? ⟨W.heap.size + 1, 0, none⟩ = some (.int .i64 0) := cell_of_row Wz _ 0 _ _ (0, 0) hrz
    have e1 : Wz.cell? ⟨W.heap.size + 1, 1, none⟩ = some (.slice none 0 0) := cell_of_row Wz _ 1 _ _ (0, 0) hrz
    have e2 : Wz.cell? ⟨W.heap.size + 1, 2, none⟩ = some (.string ⟨#[]⟩) := cell_of_row Wz _ 2 _ _ (0, 0) hrz
    have y0 := hrz.frozen 0
    have y1 := hrz.frozen 1
    have y2 := hrz.frozen 2
    have HZ := Lib.hid (And.intro hrz (H2.out.2.trans (hBz.mono H2.out.2.size)))
    clear hBz hrz
    unfold rpV rpC
    go_wp2
    refine bodyPost_ret (results_row_one rfl _ _ (W.heap.size + 1) 27 #[.int .i64 403, .slice none 0 0, S [102, 111, 114, 98, 105, 100, 100, 101, 110]] (0, 0) _ rfl (put3k_row HZ.out.1 _ _ _) Tryd.underlying27 rfl infoRp) rfl ?_
    exact HE.out _ (put3k_below HZ.out.2 (by omega) _ _ _)
  · have hz : ((CN : Int) == 0) = false := by rw [beq_eq_false_iff_ne]; omega
    have hz' : (CN == 0) = false := by rw [beq_eq_false_iff_ne]; omega
    have hz2 : decide (CN = 0) = false := decide_eq_false (by omega)
    by_cases h1 : vl = []
    · have q1 : binOp .neq 9 (S vl) (.string ⟨#[]⟩) = pure (.bool false) := by have := neql_S 9 vl []; rw [h1] at this ⊢; exact this
      have HE := Lib.hid (HNX.out (by rw [hst, if_neg (fun h => h.1 h1)]))
      clear hst HG HNX h0 h1
      go_wp2_with fail
      refine HE.out.mono ?_
      rintro e Wz hBk
      obtain ⟨c, a, n, cp, body, rfl, hrz, hq⟩ := hBk.pass H2.out.1 (by omega)
      have e0 : Wz.cell? ⟨W.heap.size + 1, 0, none⟩ = some (.int .i64 0) := cell_of_row Wz _ 0 _ _ (0, 0) hrz
      have e1 : Wz.cell? ⟨W.heap.size + 1, 1, none⟩ = some (.slice none 0 0) := cell_of_row Wz _ 1 _ _ (0, 0) hrz
      have e2 : Wz.cell? ⟨W.heap.size + 1, 2, none⟩ = some (.string ⟨#[]⟩) := cell_of_row Wz _ 2 _ _ (0, 0) hrz
      have y0 := hrz.frozen 0
      have y1 := hrz.frozen 1
      have y2 := hrz.frozen 2
      have HZ := Lib.hid (And.intro hrz hq)
      clear hrz hq hBk
      unfold rpV rpC
      go_wp2
      refine bodyPost_ret (results_row_one rfl _ _ (W.heap.size + 1) 27 #[.int .i64 c, .slice a n cp, S body] (0, 0) _ rfl (put3k_row HZ.out.1 _ _ _) Tryd.underlying27 rfl infoRp) rfl ?_
      exact HZ.out.2
    have q1 : binOp .neq 9 (S vl) (.string ⟨#[]⟩) = pure (.bool true) := by have := neql_S 9 vl []; rw [show (vl != []) = true by rw [bne_iff_ne]; exact h1] at this; exact this
    by_cases h2 : FV = vl
    · have q2 : binOp .neq 9 (S FV) (S vl) = pure (.bool false) := by rw [neql_S, h2]; simp
      have HE := Lib.hid (HNX.out (by rw [hst, if_neg (fun h => h.2 h2)]))
      clear hst HG HNX h0 h1 h2
      go_wp2_with fail
      refine HE.out.mono ?_
      rintro e Wz hBk
      obtain ⟨c, a, n, cp, body, rfl, hrz, hq⟩ := hBk.pass H2.out.1 (by omega)
      have e0 : Wz.cell? ⟨W.heap.size + 1, 0, none⟩ = some (.int .i64 0) := cell_of_row Wz _ 0 _ _ (0, 0) hrz
      have e1 : Wz.cell? ⟨W.heap.size + 1, 1, none⟩ = some (.slice none 0 0) := cell_of_row Wz _ 1 _ _ (0, 0) hrz
      have e2 : Wz.cell? ⟨W.heap.size + 1, 2, none⟩ = some (.string ⟨#[]⟩) := cell_of_row Wz _ 2 _ _ (0, 0) hrz
      have y0 := hrz.frozen 0
      have y1 := hrz.frozen 1
      have y2 := hrz.frozen 2
      have HZ := Lib.hid (And.intro hrz hq)
      clear hrz hq hBk
      unfold rpV rpC
      go_wp2
      refine bodyPost_ret (results_row_one rfl _ _ (W.heap.size + 1) 27 #[.int .i64 c, .slice a n cp, S body] (0, 0) _ rfl (put3k_row HZ.out.1 _ _ _) Tryd.underlying27 rfl infoRp) rfl ?_
      exact HZ.out.2
    have q2 : binOp .neq 9 (S FV) (S vl) = pure (.bool true) := by rw [neql_S, show (FV != vl) = true by rw [bne_iff_ne]; exact h2]
    have HE := Lib.hid (HG.out _ (by rw [hst, if_pos ⟨h1, h2⟩]))
    clear hst HG HNX h0 h1 h2
    go_wp2_with fail
    refine (refused_any 403 [102, 111, 114, 98, 105, 100, 100, 101, 110] W2).mono ?_
    rintro e Wz ⟨rfl, hBz⟩
    have hrz := H2.out.1.below hBz H2.out.1.lt
    have e0 : Wz.cell? ⟨W.heap.size + 1, 0, none⟩ = some (.int .i64 0) := cell_of_row Wz _ 0 _ _ (0, 0) hrz
    have e1 : Wz.cell? ⟨W.heap.size + 1, 1, none⟩ = some (.slice none 0 0) := cell_of_row Wz _ 1 _ _ (0, 0) hrz
    have e2 : Wz.cell? ⟨W.heap.size + 1, 2, none⟩ = some (.string ⟨#[]⟩) := cell_of_row Wz _ 2 _ _ (0, 0) hrz
    have y0 := hrz.frozen 0
    have y1 := hrz.frozen 1
    have y2 := hrz.frozen 2
    have HZ := Lib.hid (And.intro hrz (H2.out.2.trans (hBz.mono H2.out.2.size)))
    clear hBz hrz
    unfold rpV rpC
    go_wp2
    refine bodyPost_ret (results_row_one rfl _ _ (W.heap.size + 1) 27 #[.int .i64 403, .slice none 0 0, S [102, 111, 114, 98, 105, 100, 100, 101, 110]] (0, 0) _ rfl (put3k_row HZ.out.1 _ _ _) Tryd.underlying27 rfl infoRp) rfl ?_
    exact HE.out _ (put3k_below HZ.out.2 (by omega) _ _ _)
theorem take_step {fs : Fds} {body : Tx} {s : Stp} {p : Tx} (h4 : s.kind = 4) : stepS fs body s p = if Lib.hasPrefix p s.val = true ∧ Lib.hasPrefix (if Lib.trimPrefix p s.val = [] then [47] else Lib.trimPrefix p s.val) [47] = true then
    .inl (if Lib.trimPrefix p s.val = [] then [47] else Lib.trimPrefix p s.val) else .inr (404, [110, 111, 116, 32, 102, 111, 117, 110, 100]) := by
  have e : Lib.hasPrefix p s.val = true ↔ s.val.length ≤ p.length ∧ p.take s.val.length = s.val := by
    rw [← Lib.hasPrefix_of_take]; simp
  unfold stepS
  rw [if_neg (by omega), if_neg (by omega), if_pos h4]
  by_cases hp : p = s.val
  · rw [if_pos hp]
    have h1 : Lib.hasPrefix p s.val = true := e.2 ⟨by rw [hp]; exact Nat.le_refl _, by rw [hp, List.take_length]⟩
    have h2 : Lib.trimPrefix p s.val = [] := by unfold Lib.trimPrefix; rw [if_pos h1, hp, List.drop_length]
    rw [if_pos h2, if_pos ⟨h1, by decide⟩]
  · rw [if_neg hp]
    by_cases h1 : Lib.hasPrefix p s.val = true
    · have h2 : Lib.trimPrefix p s.val = p.drop s.val.length := by unfold Lib.trimPrefix; rw [if_pos h1]
      obtain ⟨h3, h5⟩ := e.1 h1
      have hlt : s.val.length < p.length := by
        rcases Nat.lt_or_ge s.val.length p.length with h | h
        · exact h
        · exact absurd (by rw [List.take_of_length_le h] at h5; exact h5) hp
      have hne : p.drop s.val.length ≠ [] := fun h => by
        have := congrArg List.length h
        rw [List.length_drop, List.length_nil] at this; omega
      rw [h2, if_neg hne]
      have h6 : Lib.hasPrefix (p.drop s.val.length) [47] = true ↔ p[s.val.length]? = some 47 := by
        cases hd : p.drop s.val.length with
        | nil => exact absurd hd hne
        | cons c t =>
          have : p[s.val.length]? = some c := by
            have := congrArg (fun l => l[0]?) hd
            simpa [List.getElem?_drop] using this
          rw [this]
          show ((47 : UInt8) == c && true) = true ↔ some c = some 47
          rw [Bool.and_true, beq_iff_eq]
          exact ⟨fun h => by rw [h], fun h => (Option.some.inj h).symm⟩
      by_cases h7 : p[s.val.length]? = some 47
      · rw [if_pos ⟨hlt, h5, h7⟩, if_pos ⟨h1, h6.2 h7⟩]
      · rw [if_neg (fun h => h7 h.2.2), if_neg (fun h => h7 (h6.1 h.2))]
    · rw [if_neg (fun h => h1 (e.2 ⟨Nat.le_of_lt h.1, h.2.1⟩)), if_neg (fun h => h1 h.1)]
theorem left_short (p v : Tx) (h : p.length ≤ 300) : (if Lib.trimPrefix p v = [] then [47] else Lib.trimPrefix p v).length ≤ 300 := by
  have := Lib.trimPrefix_le p v
  split
  · simp
  · omega
theorem cutp_any (s v : Tx) (w : World) : Calls Tryd.prog 64 #[S s, S v] w fun e w' => e = .returned (.tuple #[S (Lib.trimPrefix s v), .bool (Lib.hasPrefix s v)]) ∧ w' = w :=
  Any.strings_CutPrefix Tryd.lays103 ⟨s.toArray⟩ ⟨v.toArray⟩ w
theorem hasp_any (s : Tx) (w : World) : Calls Tryd.prog 40 #[S s, .string ⟨#[47]⟩] w fun e w' => e = .returned (.bool (Lib.hasPrefix s [47])) ∧ w' = w :=
  Any.strings_HasPrefix Tryd.lays99 ⟨s.toArray⟩ ⟨#[47]⟩ w
set_option maxRecDepth 100000 in
set_option maxHeartbeats 1000000 in
theorem take_does {K1 K2 : Nat → Prop} {w1 w2 : World} {g gh : Nat} {lb lbh : Array Value} {l : List Stp} {s : Stp} {b1 b2 : Nat} (hsz : w1.heap.size ≤ w2.heap.size) (hb : ∀ k, K1 k → w2.heap[k]? = w1.heap[k]?) (h12 : ∀ k, K1 k → K2 k) (h2 : ∀ k, K2 k → k < w2.heap.size) (hen : Entering g) (hd : DoesB K1 w1 g lb l gh lbh) (hl : l.length ≤ 100) (hsk : s.kind = 4) (_hsn : s.name.length ≤ 100) (_hsv : s.val.length ≤ 100)
    (hg1 : K2 b1) (hr1 : Row w2 b1 #[S s.val] 9) (hg2 : K2 b2) (hr2 : Row w2 b2 #[hV g lb] 40) :
    DoesB K2 w2 63 #[.pointer (some ⟨b1, 0, none⟩), .pointer (some ⟨b2, 0, none⟩)] (s :: l) gh lbh := by
  intro W hs hk r V b o hA hr Q hQ
  have hrW1 := row_heap (hk b1 hg1) hr1
  have hrW2 := row_heap (hk b2 hg2) hr2
  obtain ⟨W1, hW1⟩ : ∃ W1, W1 = (W.alloc (.cells (rqC r V) 25)).alloc (.cells #[.int .i64 0, .slice none 0 0, .string ⟨#[]⟩] 27) := ⟨_, rfl⟩
  have hs1 : W1.heap.size = W.heap.size + 2 := by rw [hW1]; simp
  have hB1 : Below W.heap.size W W1 := by rw [hW1]; exact ((Below.refl _ W).alloc (Nat.le_refl _) _).alloc (by rw [alloc_size]; omega) _
  have hr0 : Row W1 W.heap.size (rqC r V) 25 := by rw [hW1]; exact (row_new W _ _).alloc _
  have hrr : Row W1 (W.heap.size + 1) #[.int .i64 0, .slice none 0 0, .string ⟨#[]⟩] 27 := by
    have h := row_new (W.alloc (.cells (rqC r V) 25)) #[.int .i64 0, .slice none 0 0, .string ⟨#[]⟩] 27
    rw [alloc_size] at h
    rw [hW1]; exact h
  have hrV1 : Row W1 b1 #[S s.val] 9 := hrW1.below hB1 hrW1.lt
  have k1 : W1.cell? ⟨b1, 0, none⟩ = some (S s.val) := cell_of_row W1 b1 0 _ _ (0, 0) hrV1
  have hrV2 : Row W1 b2 #[hV g lb] 40 := hrW2.below hB1 hrW2.lt
  have k2 : W1.cell? ⟨b2, 0, none⟩ = some (hV g lb) := cell_of_row W1 b2 0 _ _ (0, 0) hrV2
  have hen' : ∀ args w, (callFunc g args).run Tryd.prog w = .ok (.enter g args) w := hen
  have hadd : addS r.fs s = [] := by unfold addS; rw [if_neg (by omega), if_neg (by omega)]
  have HG := Lib.hid (fun x (h : stepS r.fs r.body s r.p = .inr x) => gone_no h hQ)
  have hst := take_step (fs := r.fs) (body := r.body) (p := r.p) hsk
  have hsh := left_short r.p s.val hr.path
  obtain ⟨TR, hTR⟩ : ∃ x, x = Lib.trimPrefix r.p s.val := ⟨_, rfl⟩
  obtain ⟨HP, hHP⟩ : ∃ x, x = Lib.hasPrefix r.p s.val := ⟨_, rfl⟩
  have HC : Hid (Calls Tryd.prog 64 #[S r.p, S s.val] W1 fun e w' => e = .returned (.tuple #[S TR, .bool HP]) ∧ w' = W1) := Lib.hid (by rw [hTR, hHP]; exact cutp_any r.p s.val W1)
  rw [← hTR, ← hHP] at hst
  rw [← hTR] at hsh
  clear hTR hHP
  obtain ⟨q, hq⟩ : ∃ x, x = if TR = [] then [47] else TR := ⟨_, rfl⟩
  rw [← hq] at hst hsh
  have hr' : SmallR { r with p := q } := ⟨hr.few, hsh, hr.body, hr.each⟩
  have HN : Hid (∀ Wc, Below W.heap.size W Wc → stepS r.fs r.body s r.p = .inl q → Calls Tryd.prog g (#[rqV { r with p := q } V] ++ lb) Wc (BackB K2 W Wc [] Q)) := Lib.hid fun Wc hC h => by
    have := @next_of K1 K2 w1 w2 W Wc g gh lb lbh l s r V b o q Q hsz hb h12 h2 hd hl hs hk hA hQ hC hr' h
    rwa [hadd] at this
  have H1 := Lib.hid (And.intro hr0 (And.intro hrr hB1))
  have HST := Lib.hid hst
  have HQ := Lib.hid hq
  have HH := Lib.hid (hasp_any q W1)
  obtain ⟨W3, hW3⟩ : ∃ W3, W3 = (W.alloc (.cells (rqC { r with p := q } V) 25)).alloc (.cells #[.int .i64 0, .slice none 0 0, .string ⟨#[]⟩] 27) := ⟨_, rfl⟩
  have hB3 : Below W.heap.size W W3 := by rw [hW3]; exact ((Below.refl _ W).alloc (Nat.le_refl _) _).alloc (by rw [alloc_size]; omega) _
  have hrr3 : Row W3 (W.heap.size + 1) #[.int .i64 0, .slice none 0 0, .string ⟨#[]⟩] 27 := by
    have h := row_new (W.alloc (.cells (rqC { r with p := q } V) 25)) #[.int .i64 0, .slice none 0 0, .string ⟨#[]⟩] 27
    rw [alloc_size] at h
    rw [hW3]; exact h
  have hrV3 := hrW2.below hB3 hrW2.lt
  have H3 := Lib.hid (And.intro hrr3 hB3)
  have HNX := Lib.hid (HN.out W3 H3.out.2)
  have k3 : W3.cell? ⟨b2, 0, none⟩ = some (hV g lb) := cell_of_row W3 b2 0 _ _ (0, 0) hrV3
  clear hst hq hsh hr' hadd hB1 hr0 hrr hrW1 hrW2 hrV1 hrV2 hk hA hQ hr1 hr2 hg1 hg2 hen hd hb hsz h12 h2 hl hr hsk hrr3 hrV3 hB3 HN
  unfold rqV rqC at HNX ⊢
  unfold rqC at hW1 hW3
  unfold hV at k2 k3
  rw [hW3] at HNX k3
  rw [hW1] at k1 k2 HC HH
  dsimp only at HNX hW3 k3
  have w1e : ∀ x y, eqGuard .eql 9 x y (S TR) (.string ⟨#[]⟩) = pure () := fun _ _ => rfl
  cases HP with
  | false =>
    have HE := Lib.hid (HG.out _ (by rw [HST.out, if_neg (fun h => by simp at h)]))
    have q1 : binOp .eql 9 (S TR) (.string ⟨#[]⟩) = pure (.bool (TR == [])) := eql_S 9 TR []
    clear HNX HST HG HH
    by_cases ht : TR = []
    · have q2 : (TR == []) = true := by rw [ht]; rfl
      rw [q2] at q1
      clear ht q2
      go_enter Tryd.func63, Tryd.ntmps63
      go_wp2_with fail
      refine HC.out.mono ?_
      rintro e w' ⟨rfl, hw⟩
      rw [hw]
      clear hw w'
      go_wp2_with fail
      rw [← hW1]
      refine (refused_any 404 [110, 111, 116, 32, 102, 111, 117, 110, 100] W1).mono ?_
      rintro e Wz ⟨rfl, hBz⟩
      have hrz := H1.out.2.1.below hBz H1.out.2.1.lt
      have e0 : Wz.cell? ⟨W.heap.size + 1, 0, none⟩ = some (.int .i64 0) := cell_of_row Wz _ 0 _ _ (0, 0) hrz
      have e1 : Wz.cell? ⟨W.heap.size + 1, 1, none⟩ = some (.slice none 0 0) := cell_of_row Wz _ 1 _ _ (0, 0) hrz
      have e2 : Wz.cell? ⟨W.heap.size + 1, 2, none⟩ = some (.string ⟨#[]⟩) := cell_of_row Wz _ 2 _ _ (0, 0) hrz
      have y0 := hrz.frozen 0
      have y1 := hrz.frozen 1
      have y2 := hrz.frozen 2
      have HZ := Lib.hid (And.intro hrz (H1.out.2.2.trans (hBz.mono H1.out.2.2.size)))
      clear hBz hrz
      unfold rpV rpC
      go_wp2
      refine bodyPost_ret (results_row_one rfl _ _ (W.heap.size + 1) 27 #[.int .i64 404, .slice none 0 0, S [110, 111, 116, 32, 102, 111, 117, 110, 100]] (0, 0) _ rfl (put3k_row HZ.out.1 _ _ _) Tryd.underlying27 rfl infoRp) rfl ?_
      exact HE.out _ (put3k_below HZ.out.2 (by omega) _ _ _)
    · have q2 : (TR == []) = false := by rw [beq_eq_false_iff_ne]; exact ht
      rw [q2] at q1
      clear ht q2
      go_enter Tryd.func63, Tryd.ntmps63
      go_wp2_with fail
      refine HC.out.mono ?_
      rintro e w' ⟨rfl, hw⟩
      rw [hw]
      clear hw w'
      go_wp2_with fail
      rw [← hW1]
      refine (refused_any 404 [110, 111, 116, 32, 102, 111, 117, 110, 100] W1).mono ?_
      rintro e Wz ⟨rfl, hBz⟩
      have hrz := H1.out.2.1.below hBz H1.out.2.1.lt
      have e0 : Wz.cell? ⟨W.heap.size + 1, 0, none⟩ = some (.int .i64 0) := cell_of_row Wz _ 0 _ _ (0, 0) hrz
      have e1 : Wz.cell? ⟨W.heap.size + 1, 1, none⟩ = some (.slice none 0 0) := cell_of_row Wz _ 1 _ _ (0, 0) hrz
      have e2 : Wz.cell? ⟨W.heap.size + 1, 2, none⟩ = some (.string ⟨#[]⟩) := cell_of_row Wz _ 2 _ _ (0, 0) hrz
      have y0 := hrz.frozen 0
      have y1 := hrz.frozen 1
      have y2 := hrz.frozen 2
      have HZ := Lib.hid (And.intro hrz (H1.out.2.2.trans (hBz.mono H1.out.2.2.size)))
      clear hBz hrz
      unfold rpV rpC
      go_wp2
      refine bodyPost_ret (results_row_one rfl _ _ (W.heap.size + 1) 27 #[.int .i64 404, .slice none 0 0, S [110, 111, 116, 32, 102, 111, 117, 110, 100]] (0, 0) _ rfl (put3k_row HZ.out.1 _ _ _) Tryd.underlying27 rfl infoRp) rfl ?_
      exact HE.out _ (put3k_below HZ.out.2 (by omega) _ _ _)
  | true =>
    have q1 : binOp .eql 9 (S TR) (.string ⟨#[]⟩) = pure (.bool (TR == [])) := eql_S 9 TR []
    by_cases ht : TR = []
    · have q2 : (TR == []) = true := by rw [ht]; rfl
      rw [q2] at q1
      have hq : q = [47] := by rw [HQ.out, if_pos ht]
      subst hq
      have HST2 : Hid (stepS r.fs r.body s r.p = .inl [47]) := Lib.hid (by rw [HST.out, if_pos ⟨rfl, by decide⟩])
      clear HST HG
      have HE := Lib.hid (HNX.out HST2.out)
      have e47 : S [47] = .string ⟨#[47]⟩ := rfl
      rw [e47] at k3 HE hW3
      clear ht q2 HNX HQ HST2 e47
      go_enter Tryd.func63, Tryd.ntmps63
      go_wp2_with fail
      refine HC.out.mono ?_
      rintro e w' ⟨rfl, hw⟩
      rw [hw]
      clear hw w' HC
      go_wp2_with fail
      refine HH.out.mono ?_
      rintro e w' ⟨rfl, hw⟩
      rw [hw]
      clear hw w' HH
      have g47 : Lib.hasPrefix [47] [47] = true := by decide
      rw [g47]
      go_wp2_with fail
      refine HE.out.mono ?_
      rintro e Wz hBk
      rw [← hW3] at hBk
      obtain ⟨c, a, n, cp, body, rfl, hrz, hq⟩ := hBk.pass H3.out.1 (by omega)
      have e0 : Wz.cell? ⟨W.heap.size + 1, 0, none⟩ = some (.int .i64 0) := cell_of_row Wz _ 0 _ _ (0, 0) hrz
      have e1 : Wz.cell? ⟨W.heap.size + 1, 1, none⟩ = some (.slice none 0 0) := cell_of_row Wz _ 1 _ _ (0, 0) hrz
      have e2 : Wz.cell? ⟨W.heap.size + 1, 2, none⟩ = some (.string ⟨#[]⟩) := cell_of_row Wz _ 2 _ _ (0, 0) hrz
      have y0 := hrz.frozen 0
      have y1 := hrz.frozen 1
      have y2 := hrz.frozen 2
      have HZ := Lib.hid (And.intro hrz hq)
      clear hrz hq hBk
      unfold rpV rpC
      go_wp2
      refine bodyPost_ret (results_row_one rfl _ _ (W.heap.size + 1) 27 #[.int .i64 c, .slice a n cp, S body] (0, 0) _ rfl (put3k_row HZ.out.1 _ _ _) Tryd.underlying27 rfl infoRp) rfl ?_
      exact HZ.out.2
    · have q2 : (TR == []) = false := by rw [beq_eq_false_iff_ne]; exact ht
      rw [q2] at q1
      have hq : q = TR := by rw [HQ.out, if_neg ht]
      subst hq
      clear ht q2 HQ
      go_enter Tryd.func63, Tryd.ntmps63
      go_wp2_with fail
      refine HC.out.mono ?_
      rintro e w' ⟨rfl, hw⟩
      rw [hw]
      clear hw w' HC
      go_wp2_with fail
      refine HH.out.mono ?_
      rintro e w' ⟨rfl, hw⟩
      rw [hw]
      clear hw w' HH
      cases hp : Lib.hasPrefix q [47] with
      | true =>
        have HE := Lib.hid (HNX.out (by rw [HST.out, if_pos ⟨by trivial, hp⟩]))
        clear HNX HST HG hp
        go_wp2_with fail
        refine HE.out.mono ?_
        rintro e Wz hBk
        rw [← hW3] at hBk
        obtain ⟨c, a, n, cp, body, rfl, hrz, hq⟩ := hBk.pass H3.out.1 (by omega)
        have e0 : Wz.cell? ⟨W.heap.size + 1, 0, none⟩ = some (.int .i64 0) := cell_of_row Wz _ 0 _ _ (0, 0) hrz
        have e1 : Wz.cell? ⟨W.heap.size + 1, 1, none⟩ = some (.slice none 0 0) := cell_of_row Wz _ 1 _ _ (0, 0) hrz
        have e2 : Wz.cell? ⟨W.heap.size + 1, 2, none⟩ = some (.string ⟨#[]⟩) := cell_of_row Wz _ 2 _ _ (0, 0) hrz
        have y0 := hrz.frozen 0
        have y1 := hrz.frozen 1
        have y2 := hrz.frozen 2
        have HZ := Lib.hid (And.intro hrz hq)
        clear hrz hq hBk
        unfold rpV rpC
        go_wp2
        refine bodyPost_ret (results_row_one rfl _ _ (W.heap.size + 1) 27 #[.int .i64 c, .slice a n cp, S body] (0, 0) _ rfl (put3k_row HZ.out.1 _ _ _) Tryd.underlying27 rfl infoRp) rfl ?_
        exact HZ.out.2
      | false =>
        have HE := Lib.hid (HG.out _ (by rw [HST.out, if_neg (fun h => by rw [hp] at h; simp at h)]))
        clear HNX HST HG hp
        go_wp2_with fail
        rw [← hW1]
        refine (refused_any 404 [110, 111, 116, 32, 102, 111, 117, 110, 100] W1).mono ?_
        rintro e Wz ⟨rfl, hBz⟩
        have hrz := H1.out.2.1.below hBz H1.out.2.1.lt
        have e0 : Wz.cell? ⟨W.heap.size + 1, 0, none⟩ = some (.int .i64 0) := cell_of_row Wz _ 0 _ _ (0, 0) hrz
        have e1 : Wz.cell? ⟨W.heap.size + 1, 1, none⟩ = some (.slice none 0 0) := cell_of_row Wz _ 1 _ _ (0, 0) hrz
        have e2 : Wz.cell? ⟨W.heap.size + 1, 2, none⟩ = some (.string ⟨#[]⟩) := cell_of_row Wz _ 2 _ _ (0, 0) hrz
        have y0 := hrz.frozen 0
        have y1 := hrz.frozen 1
        have y2 := hrz.frozen 2
        have HZ := Lib.hid (And.intro hrz (H1.out.2.2.trans (hBz.mono H1.out.2.2.size)))
        clear hBz hrz
        unfold rpV rpC
        go_wp2
        refine bodyPost_ret (results_row_one rfl _ _ (W.heap.size + 1) 27 #[.int .i64 404, .slice none 0 0, S [110, 111, 116, 32, 102, 111, 117, 110, 100]] (0, 0) _ rfl (put3k_row HZ.out.1 _ _ _) Tryd.underlying27 rfl infoRp) rfl ?_
        exact HE.out _ (put3k_below HZ.out.2 (by omega) _ _ _)
end Go.Proofs.YtbnlkjoblngakaaDoor
