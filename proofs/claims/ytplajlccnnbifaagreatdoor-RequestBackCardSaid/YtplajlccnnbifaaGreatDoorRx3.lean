/- RequestBack walked, over any packages that do what is asked of them. (mkrx3.py writes it.) -/
import Derived.Test.YtplajlccnnbifaaGreatDoorRx2
import Derived.Test.YtplajlccnnbifaaGreatDoorJc
import Derived.Deep.Upon
import Derived.Laws.OwnMore
namespace Go.Proofs.YtplajlccnnbifaaGreatDoor
open Go.RowKit
attribute [local go_sem] store_one S_match S_store

theorem fsLen_next {fs : List (List UInt8 × List UInt8)} {i : Nat} {f : List UInt8 × List UInt8} (hf : fs[i]? = some f) : fsLen (fs.take (i + 1)) = fsLen (fs.take i) + f.1.length + f.2.length + 4 := by
  rw [List.take_add_one, hf]
  unfold fsLen
  simp
  omega
theorem fsLen_big {fs : List (List UInt8 × List UInt8)} {B : Nat} (h : ∀ f ∈ fs, f.1.length + f.2.length + 4 ≤ B) (i : Nat) : fsLen (fs.take i) ≤ i * B := by
  induction i with
  | zero => simp [fsLen]
  | succ i ih =>
    rw [Nat.succ_mul]
    cases hf : fs[i]? with
    | none => rw [List.take_add_one, hf]; simp only [Option.toList_none, List.append_nil]; omega
    | some f =>
      rw [fsLen_next hf]
      have := h f (List.mem_of_getElem? hf)
      omega
theorem fcells_inv : ∀ (fs : List (List UInt8 × List UInt8)) (j : Nat) (u : Value), (fcells fs)[j]? = some u → ∃ i f, fs[i]? = some f ∧ ((j = i * 2 ∧ u = S f.1) ∨ (j = i * 2 + 1 ∧ u = S f.2))
  | [], j, u, h => by simp [fcells] at h
  | g :: fs, 0, u, h => ⟨0, g, rfl, .inl ⟨rfl, (Option.some.inj h).symm⟩⟩
  | g :: fs, 1, u, h => ⟨0, g, rfl, .inr ⟨rfl, (Option.some.inj h).symm⟩⟩
  | g :: fs, j + 2, u, h => by
    have e : fcells (g :: fs) = S g.1 :: S g.2 :: fcells fs := rfl
    rw [e, List.getElem?_cons_succ, List.getElem?_cons_succ] at h
    obtain ⟨i, f, hf, hc⟩ := fcells_inv fs j u h
    refine ⟨i + 1, f, by rw [List.getElem?_cons_succ]; exact hf, ?_⟩
    rcases hc with ⟨rfl, hu⟩ | ⟨rfl, hu⟩
    · exact .inl ⟨by omega, hu⟩
    · exact .inr ⟨by omega, hu⟩
theorem fcells_size : ∀ fs : List (List UInt8 × List UInt8), (fcells fs).length = fs.length * 2
  | [] => rfl
  | f :: fs => by
    have e : fcells (f :: fs) = S f.1 :: S f.2 :: fcells fs := rfl
    rw [e, List.length_cons, List.length_cons, fcells_size fs, List.length_cons]; omega
theorem fcells_ones (fs : List (List UInt8 × List UInt8)) : ∀ u ∈ fcells fs, u.oneCell' = true := fun u hu => by
  obtain ⟨j, hj⟩ := List.getElem?_of_mem hu
  obtain ⟨i, f, _, hc⟩ := fcells_inv fs j u hj
  rcases hc with ⟨_, rfl⟩ | ⟨_, rfl⟩ <;> rfl
theorem fcells_app (xs ys : List (List UInt8 × List UInt8)) : fcells (xs ++ ys) = fcells xs ++ fcells ys := by unfold fcells; rw [List.flatMap_append]
/-- Fields appended to a row of one's own. -/
theorem run_addF {w : World} {base cap0 g0 : Nat} {L : List (List UInt8 × List UInt8)} (hown : w.ownsRow base 47 2 (.slice (some ⟨g0, 0, none⟩) L.length cap0) L.length (fcells L)) {a : Option Addr} {c : Nat} {fs : List (List UInt8 × List UInt8)} {b o : Nat} (hA : ArgF w a c fs b o) (ty : TypeId) (hn : L.length ≤ 1000) (hf : fs.length ≤ 1000) (hbase : base ≤ w.heap.size) :
    ∃ g cap w', (Builtin.append_ #[25, 25] ty #[.slice (some ⟨g0, 0, none⟩) L.length cap0, .slice a fs.length c]).run Tryz.prog w = .ok (.slice (some ⟨g, 0, none⟩) (L ++ fs).length cap) w' ∧
      w'.ownsRow base 47 2 (.slice (some ⟨g, 0, none⟩) (L ++ fs).length cap) (L ++ fs).length (fcells (L ++ fs)) ∧ w.grownBy w' (some g0) := by
  obtain ⟨i, z, hi, hz, hsz, hby, hzs⟩ := eleF
  by_cases hne : fs = []
  · subst hne
    rw [List.append_nil]
    have hle : L.length ≤ cap0 := by
      rcases hown.2 with ⟨hv, _⟩ | ⟨g, cap, cur, hv, _, _, hn', _⟩
      · cases hv
      · injection hv with _ _ h3
        rw [h3]; exact hn'
    have hs : Src Tryz.prog i.size 25 (.slice a 0 c) 0 [] w := by
      cases a with
      | none => exact Src.ofNil w Tryz.underlying25 c
      | some a => exact Src.ofSlice w Tryz.underlying25 a 0 c [] (by simp) (by simp) (by simp)
    exact ⟨g0, cap0, w, run_append_nothing w 25 25 ty 47 i Tryz.underlying25 hi (some ⟨g0, 0, none⟩) L.length cap0 hle _ hs, hown, ⟨rfl, rfl, rfl, Nat.le_refl _, fun _ _ _ => rfl⟩⟩
  · have ha := hA.at0 hne
    subst ha
    have h0 : 0 < fs.length := List.length_pos_iff.2 hne
    have hbb : (L.length + fs.length) * i.bytes ≤ 140737488355328 := by
      have : (L.length + fs.length) * i.bytes ≤ 2000 * 4096 := Nat.mul_le_mul (by omega) hby
      omega
    obtain ⟨g, cap, w', hr, h2, h3, _, _⟩ := run_append_lies (P := Tryz.prog) w 25 ty base 47 i z 2 i.bytes Tryz.underlying25 hi hz hsz rfl hzs (by omega) _ L.length (fcells L) hown ⟨b, o, none⟩ fs.length c (fcells fs) (fcells_size fs) (fun j u hu => by
      obtain ⟨k, f, hf, hc⟩ := fcells_inv fs j u hu
      obtain ⟨h1, h2⟩ := hA.cell k f hf
      rw [Addr.add_mid]
      rcases hc with ⟨rfl, rfl⟩ | ⟨rfl, rfl⟩
      · exact h1
      · exact h2) (fcells_ones fs) h0 (by simp only [maxLen]; omega) hbb hbase _ rfl
    rw [← fcells_app, ← List.length_append] at h2
    rw [← List.length_append] at hr
    exact ⟨g, cap, w', hr, h2, h3⟩
/-- A row that is laid now. -/
theorem ownF_new (W : World) (f : List UInt8 × List UInt8) : (W.alloc (.cells #[S f.1, S f.2] 47)).ownsRow W.heap.size 47 2 (.slice (some ⟨W.heap.size, 0, none⟩) [f].length 1) [f].length (fcells [f]) :=
  ⟨rfl, .inr ⟨W.heap.size, 1, #[S f.1, S f.2], rfl, Nat.le_refl _, row_new W _ _, Nat.le_refl _, by simp [maxLen], rfl, rfl⟩⟩
theorem argf_new (W : World) (f : List UInt8 × List UInt8) : ArgF (W.alloc (.cells #[S f.1, S f.2] 47)) (some ⟨W.heap.size, 0, none⟩) 1 [f] W.heap.size 0 := by
  have h := flds_row (c := 1) (row_new W (fcells [f]).toArray 47)
  refine ⟨fun _ => rfl, fun i hi w' => ?_, fun i f' hf => ?_⟩
  · have := h.index i hi w'
    rw [Nat.zero_add]; exact this
  · have := h.cell i f' hf
    rw [Nat.zero_add]; exact this
/-- What is owned from a block on, where those blocks are as they were. -/
theorem owns_same {w w' : World} {base : Nat} {e : TypeId} {k n : Nat} {v : Value} {xs : List Value} (h : w.ownsRow base e k v n xs) (hb : ∀ j, base ≤ j → j < w.heap.size → w'.heap[j]? = w.heap[j]?) : w'.ownsRow base e k v n xs := by
  obtain ⟨h1, h2⟩ := h
  refine ⟨h1, ?_⟩
  rcases h2 with h2 | ⟨g, cap, cur, hv, hbg, hg, hr⟩
  · exact .inl h2
  · refine .inr ⟨g, cap, cur, hv, hbg, ?_, hr⟩
    rw [hb g hbg ?_]
    · exact hg
    · rcases Nat.lt_or_ge g w.heap.size with hlt | hge
      · exact hlt
      · rw [Array.getElem?_eq_none hge] at hg; cases hg
theorem flds_own {w : World} {base g c : Nat} {fs : List (List UInt8 × List UInt8)} (h : w.ownsRow base 47 2 (.slice (some ⟨g, 0, none⟩) fs.length c) fs.length (fcells fs)) : FldsAt w (.slice (some ⟨g, 0, none⟩) fs.length c) fs g := by
  refine ⟨fun T w' => by simp [Builtin.len_, run_underlying Tryz.underlying25, Result.andThen, goInt], fun i hi w' => ?_, fun i f hf => ?_, ⟨_, _, rfl⟩⟩
  · have := run_index_at (P := Tryz.prog) Tryz.underlying25 (fun w => Tryz.sizeOf47 w) g 0 fs.length c i hi w'
    rwa [Nat.zero_add] at this
  · obtain ⟨h1, h2⟩ := fcells_get fs i f hf
    have hi := (List.getElem?_eq_some_iff.1 hf).1
    exact ⟨by rw [h.cellAt _ (by omega)]; exact h1, by rw [h.cellAt _ (by omega)]; exact h2⟩
/-- A value and a call that may come up next: each may be the first. -/
theorem ready_value_or_call {P : Program} {md : Region.Mode} {ops : Array Oper} {Q : Exit → Act → World → Prop} {S : World → Prop} {fuel : Nat} {listed : Array Bool} {a : Act} {w : World} {i j : Nat} {di dj : Option Tmp} {vi : Value} {f : FuncId} {args : Array Value} (hdi : (ops[i]?).map (·.dst) = some di) (hdj : (ops[j]?).map (·.dst) = some dj) (hr : Region.ready md ops listed = [i, j])
    (hxi : ∀ oi, ops[i]? = some oi → Region.wanted oi (yielded ops a.tmps) = true ∧ (execOp a.eval oi).run P w = .ok (.value vi) w)
    (hxj : ∀ oj, ops[j]? = some oj → Region.wanted oj (yielded ops a.tmps) = true ∧ (execOp a.eval oj).run P w = .ok (.enter f args) w) (hS : S w)
    (hv : wpAnyH P md ops Q S fuel (listed.setIfInBounds i true) (a.put di vi) w)
    (hc : Calls P f args w fun e w' => ∃ v, e = .returned v ∧ S w' ∧ wpAnyH P md ops Q S fuel (listed.setIfInBounds j true) (a.put dj v) w') : wpAnyH P md ops Q S (fuel + 1) listed a w := by
  cases hi : ops[i]? with
  | none => simp [hi] at hdi
  | some oi =>
    cases hj : ops[j]? with
    | none => simp [hj] at hdj
    | some oj =>
      have e1 : oi.dst = di := by simpa [hi] using hdi
      have e2 : oj.dst = dj := by simpa [hj] using hdj
      subst e1 e2
      refine wpAnyH_ready hr (by simp) (AllReadyH.cons hi (fun K hK => ?_) (AllReadyH.cons hj (fun K hK => ?_) AllReadyH.nil))
      · obtain ⟨hw, hx⟩ := hxi oi hi
        rw [if_pos hw]
        unfold Oper.wp
        rw [hx]
        exact hK.out _ _ hS (fun _ => hv)
      · obtain ⟨hw, hx⟩ := hxj oj hj
        rw [if_pos hw]
        unfold Oper.wp
        rw [hx]
        refine hc.mono ?_
        rintro e w' ⟨v, rfl, hS', h⟩
        exact hK.out _ _ hS' (fun _ => h)
set_option maxRecDepth 100000 in
set_option maxHeartbeats 4000000 in
theorem rback_any {RA : World → (Nat → Prop) → Nat → PSt → Prop} {T : World → Prop} {w : World} (C : RequestI w RA) (I : BackI) (O : ItoaI T) (r : Rq) (vi : Int) (behind : List UInt8) (a : Option Addr) (c b o : Nat) (cl : Bool) (hT : T w)
    (hm : r.m.length ≤ 281474976710656) (hp : r.p.length ≤ 281474976710656) (hq : r.q.length ≤ 281474976710656) (hfl : ∀ f ∈ r.fs, f.1.length ≤ 281474976710656 ∧ f.2.length ≤ 281474976710656) (hA : ArgF w a c r.fs b o) :
    Calls Tryz.prog 6 #[.agg (argC r.m r.p r.q vi (.slice a r.fs.length c) r.body cl), S behind] w fun e w' => e = .returned (.bool true) ∧ Below w.heap.size w w' := by
  have HC := Lib.hid C
  have HK : Hid (∀ W, Below w.heap.size w W → T W) := Lib.hid fun W h => O.keep hT h
  have HIT : Hid (∀ (k : Nat) W, k ≤ 4096 → Below w.heap.size w W → Calls Tryz.prog 21 #[.int .i64 (k : Int)] W fun e w' => e = .returned (S (Lib.decDigits k)) ∧ Below W.heap.size W w') := Lib.hid fun k W hk h => O.itoa k W hk (O.keep hT h)
  have HAW := Lib.hid fun W (hW : Below w.heap.size w W) => awake_request (C.up hW)
  have hMay := fun cl W hm hp hq hfl hA => may_any I r vi a c b o cl W hm hp hq hfl hA
  have hBytes := fun cl W hT hn hb hA => bytes_any O r vi a c b o cl W hT hn hb hA
  have hNext := fun (h : MayR r) hn x => next_may h hn x
  obtain ⟨R, hR⟩ : ∃ R, R = MayR r := ⟨_, rfl⟩
  have hR2 : R → r.body.length ≤ 4096 ∧ r.fs.length ≤ 30 := by rw [hR]; exact fun h => ⟨h.body, h.most⟩
  obtain ⟨X, hX⟩ : ∃ X, X = bytesR r := ⟨_, rfl⟩
  rw [← hR] at hMay hNext
  rw [← hX] at hBytes hNext
  have hXl : R → r.m.length + r.p.length + r.q.length + fsLen r.fs ≤ 1900 → X.length ≤ 6200 := by
    rw [hR, hX]; intro h hn
    have := head_len h hn
    have := h.body
    unfold bytesR
    simp only [List.length_append, List.length_cons]; omega
  have hWant : wantR r = ⟨r.m, r.p, r.q, 11, hereF :: (r.fs ++ [lenF r.body.length]), r.body, false⟩ := rfl
  clear C I O hR hX
  have HMay := Lib.hid hMay
  have HBytes := Lib.hid hBytes
  have HNext := Lib.hid (And.intro hNext (And.intro hR2 hXl))
  clear hMay hBytes hNext hR2 hXl
  obtain ⟨m, p, q, v, fs, bd, cl0⟩ := r
  dsimp only at hm hp hq hfl hA HMay HBytes HNext hWant
  have HWant := Lib.hid hWant
  clear hWant
  unfold argC at HMay HBytes ⊢
  dsimp only at HMay HBytes ⊢
  obtain ⟨N, hN⟩ : ∃ N, N = fs.length := ⟨_, rfl⟩
  obtain ⟨U, hU⟩ : ∃ U : Nat → Nat, U = fun i => m.length + p.length + q.length + fsLen (fs.take i) := ⟨_, rfl⟩
  have HU : Hid (U 0 = m.length + p.length + q.length ∧ (∀ i f, fs[i]? = some f → U (i + 1) = U i + f.1.length + f.2.length + 4) ∧ (∀ i, i ≤ 31 → U i ≤ 34 * 562949953421316) ∧ ∀ i, (i = N ∨ i = 31) → U i ≤ 1900 → m.length + p.length + q.length + fsLen (fs.take 31) ≤ 1900) := Lib.hid (by
    rw [hU]
    refine ⟨by simp [fsLen], fun i f hf => ?_, fun i hi => ?_, fun i hi h => ?_⟩
    · dsimp only; rw [fsLen_next hf]; omega
    · dsimp only; have := fsLen_big (B := 562949953421316) (fun f hf => by have := hfl f hf; omega) i; have : i * 562949953421316 ≤ 31 * 562949953421316 := Nat.mul_le_mul_right _ hi; omega
    · dsimp only at h
      rcases hi with rfl | rfl
      · rw [hN, List.take_length] at h
        have := fsLen_take fs 31
        omega
      · exact h)
  obtain ⟨W1, hW1⟩ : ∃ W1, W1 = w.alloc (.cells (argC m p q vi (.slice a fs.length c) bd cl) 27) := ⟨_, rfl⟩
  have hB1 : Below w.heap.size w W1 := by rw [hW1]; exact (Below.refl _ w).alloc (Nat.le_refl _) _
  have hM1 : MayAt w w.heap.size m p q vi a c fs bd cl b o W1 := ⟨by rw [hW1]; exact row_new _ _ _, hA.below hB1, hB1⟩
  obtain ⟨b1, hb1⟩ : ∃ b, b = w.heap.size := ⟨_, rfl⟩
  rw [← hb1] at hM1
  have HWX : Hid (w.alloc (.cells #[S m, S p, S q, .int .i64 vi, .slice a N c, S bd, .bool cl] 27) = W1 ∧ b1 = w.heap.size) := Lib.hid ⟨by rw [hW1, hN]; rfl, hb1⟩
  have HM1 := Lib.hid hM1
  have HN := Lib.hid hN
  have hlV := arg_len a N c
  have hlm := run_len_S (P := Tryz.prog) Tryz.underlying9 3 m
  have hlp := run_len_S (P := Tryz.prog) Tryz.underlying9 3 p
  have hlq := run_len_S (P := Tryz.prog) Tryz.underlying9 3 q
  have hw1 : IntKind.i64.wrap ((m.length : Int) + (p.length : Int)) = (m.length : Int) + (p.length : Int) := by rw [IntKind.wrap_i64]; omega
  have hw2 : IntKind.i64.wrap ((m.length : Int) + (p.length : Int) + (q.length : Int)) = (U 0 : Int) := by rw [IntKind.wrap_i64, HU.out.1]; omega
  have HFL := Lib.hid hfl
  clear hm hp hq hfl hA hN hU hW1 hB1 hM1 hb1 hT
  go_enter Tryz.func6, Tryz.ntmps6
  go_wp2_with fail
  all_goals try rw [show fs.length = N from HN.out.symm]
  all_goals try rw [HWX.out.1]
  all_goals try rw [← HWX.out.2]
  refine (HAW.out _ HM1.out.bel).mono ?_
  rintro e W2 ⟨rfl, hB⟩
  try rw [HWX.out.1] at hB
  have H2 := Lib.hid (HM1.out.below hB)
  have c0 : W2.cell? ⟨b1, 0, none⟩ = some (S m) := cell_of_row W2 _ 0 _ _ (0, 0) H2.out.row
  have c1 : W2.cell? ⟨b1, 1, none⟩ = some (S p) := cell_of_row W2 _ 1 _ _ (0, 0) H2.out.row
  have c2 : W2.cell? ⟨b1, 2, none⟩ = some (S q) := cell_of_row W2 _ 2 _ _ (0, 0) H2.out.row
  clear hB
  go_wp2_with fail
  all_goals try rw [← HWX.out.2]
  clear hw1 hw2 hlm hlp hlq c0 c1 c2
  go_loopw [5, 6] (fun nv iv wr => ∃ i : Nat, i ≤ N ∧ i ≤ 31 ∧ nv = .int .i64 (U i : Int) ∧ iv = .int .i64 (i : Int) ∧ Drawn W2 wr) (fun _ iv _ => N - (intOf iv).toNat)
  case atStart => exact ⟨0, Nat.zero_le _, by omega, rfl, rfl, Drawn.refl _⟩
  case round =>
    obtain ⟨i, hi, hi31, rfl, rfl, hD⟩ := hrel
    have H3 := Lib.hid (H2.out.below hD.below)
    have d4 : wr.cell? ⟨b1, 4, none⟩ = some (.slice a N c) := by rw [HN.out]; exact cell_of_row wr _ 4 _ _ (0, 0) H3.out.row
    have HD := Lib.hid hD
    clear hD
    by_cases hgo : i < N ∧ i ≤ 30
    · have g1 : decide ((i : Int) < (N : Int)) = true := decide_eq_true (by omega)
      have g2 : decide ((i : Int) ≤ 30) = true := decide_eq_true (by omega)
      obtain ⟨⟨n, u⟩, hf⟩ : ∃ f, fs[i]? = some f := ⟨fs[i]'(by have := HN.out; omega), List.getElem?_eq_getElem _⟩
      have hix : ∀ w', (Instr.indexAt 25 (.slice a N c) (.int .i64 (i : Int))).run Tryz.prog w' = .ok (.pointer (some ⟨b, o + i * 2, none⟩)) w' := by
        have := H3.out.arg.index i (by have := HN.out; omega)
        rw [← HN.out] at this
        exact this
      have hcl := H3.out.arg.cell i _ hf
      have e0 : wr.cell? ⟨b, o + i * 2, none⟩ = some (S n) := hcl.1
      have e1 : wr.cell? ⟨b, o + i * 2 + 1, none⟩ = some (S u) := hcl.2
      have hln := run_len_S (P := Tryz.prog) Tryz.underlying9 3 n
      have hlu := run_len_S (P := Tryz.prog) Tryz.underlying9 3 u
      have hnu := HFL.out _ (List.mem_of_getElem? hf)
      dsimp only at hnu
      have hUi := HU.out.2.2.1 i hi31
      have hUn := HU.out.2.1 i _ hf
      dsimp only at hUn
      have k1 : IntKind.i64.wrap ((U i : Int) + (n.length : Int)) = (U i : Int) + (n.length : Int) := by rw [IntKind.wrap_i64]; omega
      have k2 : IntKind.i64.wrap ((U i : Int) + (n.length : Int) + (u.length : Int)) = (U i : Int) + (n.length : Int) + (u.length : Int) := by rw [IntKind.wrap_i64]; omega
      have k3 : IntKind.i64.wrap ((U i : Int) + (n.length : Int) + (u.length : Int) + 4) = (U (i + 1) : Int) := by rw [IntKind.wrap_i64, hUn]; omega
      have k4 : IntKind.i64.wrap ((i : Int) + 1) = (i : Int) + 1 := by rw [IntKind.wrap_i64]; omega
      clear hnu hUi hUn hcl hf
      go_wp2
      go_quiet (fail)
      go_wp2
      exact ⟨⟨i + 1, by omega, by omega, rfl, by go_num, HD.out.trans ⟨_, rfl⟩⟩, by simp [intOf]; omega⟩
    · have hex : i = N ∨ i = 31 := by omega
      have hUe := HU.out.2.2.2 i hex
      obtain ⟨K, hK⟩ : ∃ K, K = U i := ⟨_, rfl⟩
      rw [← hK]
      rw [← hK] at hUe
      have HE := Lib.hid hUe
      have HBD : Hid (Below w.heap.size w wr) := Lib.hid H3.out.bel
      have hg : (decide ((i : Int) < (N : Int)) = false ∧ ¬ i < N) ∨ (decide ((i : Int) < (N : Int)) = true ∧ decide ((i : Int) ≤ 30) = false ∧ i < N) := by
        rcases Nat.lt_or_ge i N with h | h
        · exact .inr ⟨decide_eq_true (by omega), decide_eq_false (by omega), h⟩
        · exact .inl ⟨decide_eq_false (by omega), by omega⟩
      clear hUe hK hi hi31 hgo hex
      have d0 : wr.cell? ⟨b1, 0, none⟩ = some (S m) := cell_of_row wr _ 0 _ _ (0, 0) H3.out.row
      have d1 : wr.cell? ⟨b1, 1, none⟩ = some (S p) := cell_of_row wr _ 1 _ _ (0, 0) H3.out.row
      have d2 : wr.cell? ⟨b1, 2, none⟩ = some (S q) := cell_of_row wr _ 2 _ _ (0, 0) H3.out.row
      have d3 : wr.cell? ⟨b1, 3, none⟩ = some (.int .i64 vi) := cell_of_row wr _ 3 _ _ (0, 0) H3.out.row
      have d5 : wr.cell? ⟨b1, 5, none⟩ = some (S bd) := cell_of_row wr _ 5 _ _ (0, 0) H3.out.row
      have d6 : wr.cell? ⟨b1, 6, none⟩ = some (.bool cl) := cell_of_row wr _ 6 _ _ (0, 0) H3.out.row
      by_cases hK : 1900 < K
      · have g3 : decide ((1900 : Int) < (K : Int)) = true := decide_eq_true (by omega)
        have g3' : decide ((K : Int) > 1900) = true := decide_eq_true (by omega)
        rcases hg with ⟨g1, hlt⟩ | ⟨g1, g2, hlt⟩
        · go_wp2
          go_ret
          exact ⟨rfl, HBD.out⟩
        · go_wp2
          go_ret
          exact ⟨rfl, HBD.out⟩
      have g3 : decide ((1900 : Int) < (K : Int)) = false := decide_eq_false (by omega)
      have g3' : decide ((K : Int) > 1900) = false := decide_eq_false (by omega)
      have hE := HE.out (by omega)
      have hMayR := HMay.out cl wr (by omega) (by omega) (by omega) (fun h30 f hf => by
        rw [List.take_of_length_le (by omega)] at hE
        obtain ⟨j, hj⟩ := List.getElem?_of_mem hf
        have := fsLen_get fs j f hj
        omega) H3.out.arg
      rw [← HN.out] at hMayR
      have HMR := Lib.hid hMayR
      have HE2 := Lib.hid hE
      clear hMayR hE hK
      have hcut : (Hid (∀ Q : Prop, Q → Q)) := Lib.hid fun _ h => h
      rcases hg with ⟨g1, hlt⟩ | ⟨g1, g2, hlt⟩
      · go_wp2_with fail
        refine HMR.out.mono ?_
        rintro e W3 ⟨z, rfl, hz, hB⟩
        have H4 := Lib.hid (H3.out.below hB)
        have HZ := Lib.hid hz
        clear hB hz d0 d1 d2 d3 d4 d5 d6 H3 HMR HD HBD HE HU
        cases z with
        | false =>
          go_wp2
          go_ret
          exact ⟨rfl, H4.out.bel⟩
        | true =>
        have hlb := run_len_S (P := Tryz.prog) Tryz.underlying9 3 behind
        by_cases hb3 : 300 < behind.length
        · have g5 : decide ((300 : Int) < (behind.length : Int)) = true := decide_eq_true (by omega)
          have g5' : decide ((behind.length : Int) > 300) = true := decide_eq_true (by omega)
          go_wp2
          go_ret
          exact ⟨rfl, H4.out.bel⟩
        have g5 : decide ((300 : Int) < (behind.length : Int)) = false := decide_eq_false (by omega)
        have g5' : decide ((behind.length : Int) > 300) = false := decide_eq_false (by omega)
        have hR : R := HZ.out rfl
        have HBL : Hid (behind.length ≤ 300) := Lib.hid (by omega)
        have h30 := HNext.out.2.1 hR
        have hE3 : m.length + p.length + q.length + fsLen fs ≤ 1900 := by
          have := HE2.out
          rw [List.take_of_length_le (by omega)] at this
          exact this
        have hX2 := HNext.out.2.2 hR hE3
        have hby := HBytes.out cl W3 (HK.out W3 H4.out.bel) hE3 h30.1 H4.out.arg
        rw [← HN.out] at hby
        have HBY := Lib.hid hby
        have HNX := Lib.hid (HNext.out.1 hR hE3)
        have H30 : Hid (bd.length ≤ 4096 ∧ N ≤ 30 ∧ X.length ≤ 6200) := Lib.hid ⟨h30.1, by rw [HN.out]; exact h30.2, hX2⟩
        clear hby h30 hE3 hX2 hR hb3 HZ HE2 HNext HBytes HMay HFL
        have e0 : W3.cell? ⟨b1, 0, none⟩ = some (S m) := cell_of_row W3 _ 0 _ _ (0, 0) H4.out.row
        have e1 : W3.cell? ⟨b1, 1, none⟩ = some (S p) := cell_of_row W3 _ 1 _ _ (0, 0) H4.out.row
        have e2 : W3.cell? ⟨b1, 2, none⟩ = some (S q) := cell_of_row W3 _ 2 _ _ (0, 0) H4.out.row
        have e3 : W3.cell? ⟨b1, 3, none⟩ = some (.int .i64 vi) := cell_of_row W3 _ 3 _ _ (0, 0) H4.out.row
        have e4 : W3.cell? ⟨b1, 4, none⟩ = some (.slice a N c) := by rw [HN.out]; exact cell_of_row W3 _ 4 _ _ (0, 0) H4.out.row
        have e5 : W3.cell? ⟨b1, 5, none⟩ = some (S bd) := cell_of_row W3 _ 5 _ _ (0, 0) H4.out.row
        have e6 : W3.cell? ⟨b1, 6, none⟩ = some (.bool cl) := cell_of_row W3 _ 6 _ _ (0, 0) H4.out.row

        go_wp2_with fail
        refine HBY.out.mono ?_
        rintro e W4 ⟨rfl, hB⟩
        have H5 := Lib.hid (H4.out.below hB)
        clear hB HBY H4 e0 e1 e2 e3 e4 e5 e6
        have e0 : W4.cell? ⟨b1, 0, none⟩ = some (S m) := cell_of_row W4 _ 0 _ _ (0, 0) H5.out.row
        have e1 : W4.cell? ⟨b1, 1, none⟩ = some (S p) := cell_of_row W4 _ 1 _ _ (0, 0) H5.out.row
        have e2 : W4.cell? ⟨b1, 2, none⟩ = some (S q) := cell_of_row W4 _ 2 _ _ (0, 0) H5.out.row
        have e3 : W4.cell? ⟨b1, 3, none⟩ = some (.int .i64 vi) := cell_of_row W4 _ 3 _ _ (0, 0) H5.out.row
        have e4 : W4.cell? ⟨b1, 4, none⟩ = some (.slice a N c) := by rw [HN.out]; exact cell_of_row W4 _ 4 _ _ (0, 0) H5.out.row
        have e5 : W4.cell? ⟨b1, 5, none⟩ = some (S bd) := cell_of_row W4 _ 5 _ _ (0, 0) H5.out.row
        have e6 : W4.cell? ⟨b1, 6, none⟩ = some (.bool cl) := cell_of_row W4 _ 6 _ _ (0, 0) H5.out.row

        obtain ⟨WA, hWA⟩ : ∃ W, W = (W4.alloc (.cells #[S m, S p, S q, .int .i64 11, .slice a N c, S bd, .bool false] 27)).alloc (.cells #[.string ⟨#[72, 111, 115, 116]⟩, .string ⟨#[104, 101, 114, 101]⟩] 47) := ⟨_, rfl⟩
        have hBA : Below W4.heap.size W4 WA := by rw [hWA]; exact ((Below.refl _ W4).alloc (Nat.le_refl _) _).alloc (by simp) _
        have hszA : WA.heap.size = W4.heap.size + 2 := by rw [hWA]; simp
        have hown : WA.ownsRow (W4.heap.size + 1) 47 2 (.slice (some ⟨W4.heap.size + 1, 0, none⟩) [hereF].length 1) [hereF].length (fcells [hereF]) := by
          have h := ownF_new (W4.alloc (.cells #[S m, S p, S q, .int .i64 11, .slice a N c, S bd, .bool false] 27)) hereF
          rw [alloc_size] at h
          rw [hWA]; exact h
        have hr8 : Row WA W4.heap.size #[S m, S p, S q, .int .i64 11, .slice a N c, S bd, .bool false] 27 := by rw [hWA]; exact (row_new W4 _ _).alloc _
        obtain ⟨g1, cp1, W6, hr6, ho6, hg6⟩ := run_addF hown (H5.out.arg.below hBA) 25 (by decide) (by have := H30.out.2.1; rw [HN.out] at this; omega) (by omega)
        rw [← HN.out] at hr6
        have hr68 := row_grown hr8 hg6 (fun e => by injection e with e; omega)
        have c64 := cell_of_row W6 _ 4 _ _ (0, 0) hr68
        have f64 := hr68.frozen 4
        have k4 : WA.cell? ⟨b1, 4, none⟩ = some (.slice a N c) := by rw [HN.out]; exact cell_of_row WA _ 4 _ _ (0, 0) (H5.out.below hBA).row
        have hsz6 := hg6.size
        have hB6 : Below W4.heap.size W4 (W6.setCell ⟨W4.heap.size, 4, none⟩ (.slice (some ⟨g1, 0, none⟩) ([hereF] ++ fs).length cp1)) := (hBA.trans ⟨hg6.os, hg6.tape, hg6.output, hg6.size, fun k hk => hg6.block k (by omega) (fun e => by injection e with e; omega)⟩).setCell (p := ⟨W4.heap.size, 4, none⟩) (Nat.le_refl _) _
        have hr7 : Row (W6.setCell ⟨W4.heap.size, 4, none⟩ (.slice (some ⟨g1, 0, none⟩) ([hereF] ++ fs).length cp1)) W4.heap.size #[S m, S p, S q, .int .i64 11, .slice (some ⟨g1, 0, none⟩) ([hereF] ++ fs).length cp1, S bd, .bool false] 27 := hr68.set 4 _
        have ho7 : (W6.setCell ⟨W4.heap.size, 4, none⟩ (.slice (some ⟨g1, 0, none⟩) ([hereF] ++ fs).length cp1)).ownsRow (W4.heap.size + 1) 47 2 (.slice (some ⟨g1, 0, none⟩) ([hereF] ++ fs).length cp1) ([hereF] ++ fs).length (fcells ([hereF] ++ fs)) := owns_same ho6 (fun j hj _ => Below.heap_setCell _ _ _ _ (fun e => by have e2 : j = W4.heap.size := e; omega))
        have hsz7 : (W6.setCell ⟨W4.heap.size, 4, none⟩ (.slice (some ⟨g1, 0, none⟩) ([hereF] ++ fs).length cp1)).heap.size = W6.heap.size := by simp [World.setCell]
        have hlen1 : ([hereF] ++ fs).length ≤ 32 := by have := H30.out.2.1; rw [HN.out] at this; simp; omega
        obtain ⟨n1, hn1⟩ : ∃ n, n = ([hereF] ++ fs).length := ⟨_, rfl⟩
        rw [← hn1] at hr6 hB6 hr7 ho7 hsz7
        have HH7 := Lib.hid (And.intro hB6 (And.intro hr7 (And.intro ho7 (And.intro hn1 (And.intro hlen1 (show W4.heap.size + 2 ≤ W6.heap.size by omega))))))
        have HWA := Lib.hid hWA
        rw [hWA] at hr6 k4
        clear hBA hszA hown hr8 ho6 hg6 hr68 hsz6 hB6 hr7 ho7 hsz7 hlen1 hn1 hWA
        go_wp2_with (at_builtin; refine wpList_append_by rfl 25 25 (.tmp 74) (.tmp 76) rfl (.slice (some ⟨W4.heap.size + 1, 0, none⟩) [hereF].length 1) (.slice a N c) rfl rfl (.slice (some ⟨g1, 0, none⟩) n1 cp1) W6 hr6 ?_)
        clear c64 f64 k4 hr6 HWA e0 e1 e2 e3 e4 e5 e6
        obtain ⟨b8, hb8⟩ : ∃ b, b = W4.heap.size := ⟨_, rfl⟩
        rw [← hb8] at HH7 ⊢
        obtain ⟨W7, hW7⟩ : ∃ W, W = W6.setCell ⟨b8, 4, none⟩ (.slice (some ⟨g1, 0, none⟩) n1 cp1) := ⟨_, rfl⟩
        have hs67 : W7.heap.size = W6.heap.size := by rw [hW7]; simp [World.setCell]
        rw [← hW7] at HH7 ⊢
        obtain ⟨hB7, hr7, ho7, hn1, hlen1, hs6⟩ := HH7.out
        obtain ⟨Wq, hWq⟩ : ∃ W, W = W7.drew := ⟨_, rfl⟩
        have hq5 : W7.drew.cell? ⟨b1, 5, none⟩ = some (S bd) := cell_of_row W7.drew _ 5 _ _ (0, 0) (H5.out.below (show Below W4.heap.size W4 W7.drew by rw [hb8] at hB7; exact ⟨hB7.os, hB7.tape, hB7.output, hB7.size, hB7.block⟩)).row
        have HSQ : Hid (Wq.cell? ⟨b1, 5, none⟩ = some (S bd)) := Lib.hid (by rw [hWq]; exact hq5)
        have hBq : Below W4.heap.size W4 Wq := by rw [hWq]; rw [hb8] at hB7; exact ⟨hB7.os, hB7.tape, hB7.output, hB7.size, hB7.block⟩
        have hMq := H5.out.below hBq
        have hr8q : Row Wq b8 #[S m, S p, S q, .int .i64 11, .slice (some ⟨g1, 0, none⟩) n1 cp1, S bd, .bool false] 27 := by rw [hWq]; exact hr7
        have hoq : Wq.ownsRow (b8 + 1) 47 2 (.slice (some ⟨g1, 0, none⟩) n1 cp1) n1 (fcells ([hereF] ++ fs)) := by rw [hWq]; exact ho7.drew
        have hsq : Wq.heap.size = W6.heap.size := by rw [hWq]; exact hs67
        have hb18 : b1 < b8 := by rw [hb8]; exact H5.out.row.lt
        have HQ := Lib.hid (And.intro hMq (And.intro hr8q (And.intro hoq (And.intro hn1 (And.intro hlen1 (And.intro hb18 (show b8 + 2 ≤ Wq.heap.size by omega)))))))
        have hlB := run_len_S (P := Tryz.prog) Tryz.underlying9 3 bd
        obtain ⟨D, hDd⟩ : ∃ D, D = Lib.decDigits bd.length := ⟨_, rfl⟩
        have hit := fun (W : World) (h : Below w.heap.size w W) => HIT.out bd.length W H30.out.1 h
        rw [← hDd] at hit
        obtain ⟨KB, hKB⟩ : ∃ K, K = bd.length := ⟨_, rfl⟩
        have HLF : Hid (lenF bd.length = ([67, 111, 110, 116, 101, 110, 116, 45, 76, 101, 110, 103, 116, 104], D)) := Lib.hid (by rw [hDd]; rfl)
        rw [← hKB] at hlB hit
        have HIT2 := Lib.hid hit
        have hcV : Wq.cell? ⟨b8, 4, none⟩ = some (.slice (some ⟨g1, 0, none⟩) n1 cp1) := cell_of_row Wq _ 4 _ _ (0, 0) hr8q
        have hAFT : ∀ W9, Below Wq.heap.size Wq W9 → ∃ g2 cp2 n2 W11, n2 = (([hereF] ++ fs) ++ [lenF bd.length]).length ∧ (Builtin.append_ #[25, 25] 25 #[.slice (some ⟨g1, 0, none⟩) n1 cp1, .slice (some ⟨W9.heap.size, 0, none⟩) 1 1]).run Tryz.prog (W9.alloc (.cells #[.string ⟨#[67, 111, 110, 116, 101, 110, 116, 45, 76, 101, 110, 103, 116, 104]⟩, S D] 47)) = .ok (.slice (some ⟨g2, 0, none⟩) n2 cp2) W11 ∧
            W9.cell? ⟨b1, 5, none⟩ = some (S bd) ∧ W9.cell? ⟨b8, 4, none⟩ = some (.slice (some ⟨g1, 0, none⟩) n1 cp1) ∧ (W9.alloc (.cells #[.string ⟨#[67, 111, 110, 116, 101, 110, 116, 45, 76, 101, 110, 103, 116, 104]⟩, S D] 47)).cell? ⟨b1, 5, none⟩ = some (S bd) ∧ (W9.alloc (.cells #[.string ⟨#[67, 111, 110, 116, 101, 110, 116, 45, 76, 101, 110, 103, 116, 104]⟩, S D] 47)).cell? ⟨b8, 4, none⟩ = some (.slice (some ⟨g1, 0, none⟩) n1 cp1) ∧ W11.cell? ⟨b1, 5, none⟩ = some (S bd) ∧ W11.cell? ⟨b8, 4, none⟩ = some (.slice (some ⟨g1, 0, none⟩) n1 cp1) ∧ W11.frozen? ⟨b8, 4, none⟩ = false ∧
            (W11.setCell ⟨b8, 4, none⟩ (.slice (some ⟨g2, 0, none⟩) n2 cp2)).cell? ⟨b1, 5, none⟩ = some (S bd) ∧ Row (W11.setCell ⟨b8, 4, none⟩ (.slice (some ⟨g2, 0, none⟩) n2 cp2)) b8 #[S m, S p, S q, .int .i64 11, .slice (some ⟨g2, 0, none⟩) n2 cp2, S bd, .bool false] 27 ∧
            FldsAt (W11.setCell ⟨b8, 4, none⟩ (.slice (some ⟨g2, 0, none⟩) n2 cp2)) (.slice (some ⟨g2, 0, none⟩) n2 cp2) (([hereF] ++ fs) ++ [lenF bd.length]) g2 ∧ g2 < (W11.setCell ⟨b8, 4, none⟩ (.slice (some ⟨g2, 0, none⟩) n2 cp2)).heap.size ∧ Below w.heap.size w (W11.setCell ⟨b8, 4, none⟩ (.slice (some ⟨g2, 0, none⟩) n2 cp2)) := fun W9 hB9 => by
          have hsz9 := hB9.size
          have hM9 := hMq.below hB9
          have hr89 : Row W9 b8 _ 27 := hr8q.below hB9 hr8q.lt
          have ho9 : W9.ownsRow (b8 + 1) 47 2 (.slice (some ⟨g1, 0, none⟩) n1 cp1) n1 (fcells ([hereF] ++ fs)) := owns_same hoq (fun j _ hj => hB9.block j hj)
          have hBa : Below W9.heap.size W9 (W9.alloc (.cells #[.string ⟨#[67, 111, 110, 116, 101, 110, 116, 45, 76, 101, 110, 103, 116, 104]⟩, S D] 47)) := (Below.refl _ W9).alloc (Nat.le_refl _) _
          have hMa := hM9.below hBa
          have hr8a := hr89.below hBa hr89.lt
          have hoa := ho9.alloc (.cells #[.string ⟨#[67, 111, 110, 116, 101, 110, 116, 45, 76, 101, 110, 103, 116, 104]⟩, S D] 47)
          rw [hn1] at hoa
          have hAn := argf_new W9 (lenF bd.length)
          rw [HLF.out] at hAn
          obtain ⟨g2, cp2, W11, hr, ho, hg⟩ := run_addF hoa hAn 25 (by omega) (by simp) (by rw [alloc_size]; omega)
          rw [← HLF.out] at ho hr
          rw [← hn1] at hr
          have hg1 := (hoq.lt g1 rfl).1
          have hr811 := row_grown hr8a hg (fun e => by injection e with e; omega)
          have hr111 := row_grown hMa.row hg (fun e => by injection e with e; omega)
          have hg2 := (ho.lt g2 rfl)
          have hr12 : Row (W11.setCell ⟨b8, 4, none⟩ (.slice (some ⟨g2, 0, none⟩) (([hereF] ++ fs) ++ [lenF bd.length]).length cp2)) b8 _ 27 := hr811.set 4 _
          have ho12 : (W11.setCell ⟨b8, 4, none⟩ (.slice (some ⟨g2, 0, none⟩) (([hereF] ++ fs) ++ [lenF bd.length]).length cp2)).ownsRow (b8 + 1) 47 2 _ _ _ := owns_same ho (fun j hj _ => Below.heap_setCell _ _ _ _ (fun e => by have e2 : j = b8 := e; omega))
          have hr112 : Row (W11.setCell ⟨b8, 4, none⟩ (.slice (some ⟨g2, 0, none⟩) (([hereF] ++ fs) ++ [lenF bd.length]).length cp2)) b1 _ 27 := hr111.other (by first | exact Nat.ne_of_lt hb18 | exact Nat.ne_of_gt hb18)
          have hww : w.heap.size ≤ b1 := by rw [← HWX.out.2]; exact Nat.le_refl _
          refine ⟨g2, cp2, _, W11, rfl, hr, cell_of_row W9 _ 5 _ _ (0, 0) hM9.row, cell_of_row W9 _ 4 _ _ (0, 0) hr89, cell_of_row _ _ 5 _ _ (0, 0) hMa.row, cell_of_row _ _ 4 _ _ (0, 0) hr8a, cell_of_row _ _ 5 _ _ (0, 0) hr111, cell_of_row _ _ 4 _ _ (0, 0) hr811, hr811.frozen 4, cell_of_row _ _ 5 _ _ (0, 0) hr112, hr12, ?_, by rw [show (W11.setCell ⟨b8, 4, none⟩ (.slice (some ⟨g2, 0, none⟩) (([hereF] ++ fs) ++ [lenF bd.length]).length cp2)).heap.size = W11.heap.size by simp [World.setCell]]; exact hg2.2, ?_⟩
          · exact flds_own ho12
          · exact (hMa.bel.trans ⟨hg.os, hg.tape, hg.output, hg.size, fun k hk => hg.block k (by have := hMa.bel.size; omega) (fun e => by injection e with e; omega)⟩).setCell (p := ⟨b8, 4, none⟩) (by show w.heap.size ≤ b8; omega) _
        have HAFT := Lib.hid hAFT
        have HBQ := Lib.hid (hMq.bel)
        have HB8 := Lib.hid hb8
        clear hb8 hAFT hB7 hr7 ho7 hn1 hlen1 hs6 hs67 hBq hMq hr8q hoq hsq hb18 hDd hit hKB HH7 HIT
        refine wp_region_noPanic ?_
        refine wp_region_held_drew (S := fun wx => wx.cell? ⟨b1, 5, none⟩ = some (S bd)) (by kernel_rfl) hq5 (fun _ => ?_)
        rw [← hWq]
        clear hWq hq5 hW7
        refine take_at (i := 0) (d := some 79) (v := .pointer (some ⟨b8, 4, none⟩)) rfl (by kernel_rfl) (by kernel_rfl) (by kernel_rfl) (fun _ _ _ h => h) (fun oi ho => ?_) HSQ.out ?_
        · obtain rfl := Option.some.inj ho
          exact Or.inl ⟨by rfl, fun wx hSw => by go_simp⟩
        simp only [Act.put, List.setIfInBounds_toArray, List.set_cons_zero, List.set_cons_succ]
        refine take_at (i := 2) (d := some 81) (v := .pointer (some ⟨b1, 5, none⟩)) rfl (by kernel_rfl) (by kernel_rfl) (by kernel_rfl) (fun _ _ _ h => h) (fun oi ho => ?_) HSQ.out ?_
        · obtain rfl := Option.some.inj ho
          exact Or.inl ⟨by rfl, fun wx hSw => by go_simp⟩
        simp only [Act.put, List.setIfInBounds_toArray, List.set_cons_zero, List.set_cons_succ]
        refine take_at (i := 3) (d := some 82) (v := S bd) rfl (by kernel_rfl) (by kernel_rfl) (by kernel_rfl) (fun _ _ _ h => h) (fun oi ho => ?_) HSQ.out ?_
        · obtain rfl := Option.some.inj ho
          exact Or.inl ⟨by rfl, fun wx hSw => by go_simp⟩
        simp only [Act.put, List.setIfInBounds_toArray, List.set_cons_zero, List.set_cons_succ]
        refine take_at (i := 4) (d := some 83) (v := .int .i64 (KB : Int)) rfl (by kernel_rfl) (by kernel_rfl) (by kernel_rfl) (fun _ _ _ h => h) (fun oi ho => ?_) HSQ.out ?_
        · obtain rfl := Option.some.inj ho
          exact Or.inl ⟨by rfl, fun wx hSw => by go_simp⟩
        simp only [Act.put, List.setIfInBounds_toArray, List.set_cons_zero, List.set_cons_succ]
        refine ready_value_or_call (i := 1) (j := 5) (di := some 80) (dj := some 84) (vi := .slice (some ⟨g1, 0, none⟩) n1 cp1) (f := 21) (args := #[.int .i64 (KB : Int)]) rfl rfl (by kernel_rfl) (fun oi ho => ?_) (fun oi ho => ?_) HSQ.out ?_ ?_
        · obtain rfl := Option.some.inj ho
          exact ⟨by rfl, by go_simp⟩
        · obtain rfl := Option.some.inj ho
          exact ⟨by rfl, by go_simp⟩
        · simp only [Act.put, List.setIfInBounds_toArray, List.set_cons_zero, List.set_cons_succ]
          refine ready_call (i := 5) (d := some 84) (f := 21) (args := #[.int .i64 (KB : Int)]) rfl (by kernel_rfl) (fun oi ho => ?_) ?_
          · obtain rfl := Option.some.inj ho
            exact ⟨by rfl, by go_simp⟩
          refine (HIT2.out Wq HBQ.out).mono ?_
          rintro e W9 ⟨rfl, hB⟩
          obtain ⟨g2, cp2, n2, W11, hn2, hr11, s9, v9, sa, va, s11, v11, f11, s12, hr12, hF12, hg12, hB12⟩ := HAFT.out W9 hB
          have H12 := Lib.hid (And.intro hn2 (And.intro hr12 (And.intro hF12 (And.intro hg12 hB12))))
          have HR11 := Lib.hid hr11
          clear hB hn2 hr12 hF12 hg12 hB12 hr11 hcV
          refine ⟨_, rfl, s9, ?_⟩
          simp only [Act.put, List.setIfInBounds_toArray, List.set_cons_zero, List.set_cons_succ]
          refine take_at (i := 6) (d := some 85) (v := .agg #[.string ⟨#[67, 111, 110, 116, 101, 110, 116, 45, 76, 101, 110, 103, 116, 104]⟩, S D]) rfl (by kernel_rfl) (by kernel_rfl) (by kernel_rfl) (fun _ _ _ h => h) (fun oi ho => ?_) s9 ?_
          · obtain rfl := Option.some.inj ho
            exact Or.inl ⟨by rfl, fun wx hSw => by go_simp⟩
          simp only [Act.put, List.setIfInBounds_toArray, List.set_cons_zero, List.set_cons_succ]
          refine ready_value (i := 7) (d := some 86) (v := .slice (some ⟨W9.heap.size, 0, none⟩) 1 1) (w' := W9.alloc (.cells #[.string ⟨#[67, 111, 110, 116, 101, 110, 116, 45, 76, 101, 110, 103, 116, 104]⟩, S D] 47)) rfl (by kernel_rfl) (fun oi ho => ?_) sa ?_
          · obtain rfl := Option.some.inj ho
            exact ⟨by rfl, by go_simp⟩
          simp only [Act.put, List.setIfInBounds_toArray, List.set_cons_zero, List.set_cons_succ]
          refine ready_value (i := 8) (d := some 87) (v := .slice (some ⟨g2, 0, none⟩) n2 cp2) (w' := W11) rfl (by kernel_rfl) (fun oi ho => ?_) s11 ?_
          · obtain rfl := Option.some.inj ho
            exact ⟨by rfl, exec_append 25 25 (.tmp 80) (.tmp 86) (.slice (some ⟨g1, 0, none⟩) n1 cp1) (.slice (some ⟨W9.heap.size, 0, none⟩) 1 1) rfl rfl rfl HR11.out⟩
          simp only [Act.put, List.setIfInBounds_toArray, List.set_cons_zero, List.set_cons_succ]
          refine take_at (i := 9) (d := some 88) (v := .pointer (some ⟨b8, 4, none⟩)) rfl (by kernel_rfl) (by kernel_rfl) (by kernel_rfl) (fun _ _ _ h => h) (fun oi ho => ?_) s11 ?_
          · obtain rfl := Option.some.inj ho
            exact Or.inl ⟨by rfl, fun wx hSw => by go_simp⟩
          simp only [Act.put, List.setIfInBounds_toArray, List.set_cons_zero, List.set_cons_succ]
          refine ready_skip (i := 10) (d := none) (w' := W11.setCell ⟨b8, 4, none⟩ (.slice (some ⟨g2, 0, none⟩) n2 cp2)) rfl (by kernel_rfl) (fun oi ho => ?_) s12 ?_
          · obtain rfl := Option.some.inj ho
            exact ⟨by rfl, by go_simp⟩
          refine wpAnyH_done (by kernel_rfl) ?_ _
          refine NoPanic.normal ?_
          clear s9 v9 sa va s11 v11 f11 s12 HR11
          generalize W11.setCell ⟨b8, 4, none⟩ (.slice (some ⟨g2, 0, none⟩) n2 cp2) = W12 at *
          obtain ⟨F2, hF2⟩ : ∃ F, F = ([hereF] ++ fs) ++ [lenF bd.length] := ⟨_, rfl⟩
          have hF2l : F2.length ≤ 1000 := by rw [hF2]; have := H30.out.2.1; rw [HN.out] at this; simp; omega
          have h12 := H12.out
          rw [← hF2] at h12
          obtain ⟨-, hr12, hf12, hg12, hB12⟩ := h12
          have hnx : ∀ x, PSt.next ⟨X ++ x, 0⟩ = (some ⟨m, p, q, 11, F2, bd, false⟩, ⟨x, 0⟩) := fun x => by
            rw [hF2]
            exact (HNX.out x).trans (by rw [HWant.out]; rfl)
          obtain ⟨X2, hX2⟩ : ∃ Z, Z = X ++ X := ⟨_, rfl⟩
          obtain ⟨Y, hY⟩ : ∃ Z, Z = X2 ++ behind := ⟨_, rfl⟩
          have hYl : Y.length ≤ 20000 := by rw [hY, hX2, List.length_append, List.length_append]; have := H30.out.2.2; have := HBL.out; omega
          have y1 : binOp .add 9 (S X) (S X) = pure (S X2) := by rw [hX2]; exact S_add 9 X X (by have := H30.out.2.2; omega)
          have y2 : binOp .add 9 (S X2) (S behind) = pure (S Y) := by rw [hY]; exact S_add 9 X2 behind (by rw [hX2, List.length_append]; have := H30.out.2.2; have := HBL.out; omega)
          have hn1 : PSt.next ⟨Y, 0⟩ = (some ⟨m, p, q, 11, F2, bd, false⟩, ⟨X ++ behind, 0⟩) := by rw [hY, hX2, List.append_assoc]; exact hnx _
          have hn2 := hnx behind
          have hZl : (X ++ behind).length ≤ 20000 := by rw [List.length_append]; have := H30.out.2.2; have := HBL.out; omega
          have HP := Lib.hid (And.intro hYl (And.intro hn1 (And.intro hn2 (And.intro hZl hF2l))))
          have HL12 := Lib.hid (And.intro hr12 (And.intro hf12 (And.intro hg12 hB12)))
          clear hF2 hF2l hr12 hf12 hg12 hB12 hnx hX2 hY hYl hn1 hn2 hZl H12 HWant HNX H30 HBL HAFT HBQ HQ HLF HIT2 HB8 HSQ
          go_wp2_with fail
          refine (OneK.make HC.out HL12.out.2.2.2).mono ?_
          rintro e W13 ⟨g, rfl, h, hB⟩
          have H13 := Lib.hid (And.intro h (And.intro (HL12.out.1.below hB HL12.out.1.lt) (HL12.out.2.1.below hB)))
          clear h hB
          go_wp2_with fail
          refine (H13.out.1.feed HC.out Y (by have := HP.out.1; show 0 + _ ≤ _; omega)).mono ?_
          rintro e W14 ⟨rfl, h, hs⟩
          have h14 : OneK RA w g ⟨Y, 0⟩ (fun k => k < W12.heap.size) W14 := h
          have hr14 := hs.row H13.out.2.1 HL12.out.1.lt
          have hf14 := hs.flds H13.out.2.2 (fun k hk => by rw [hk.2]; exact HL12.out.2.2.1)
          have H14 := Lib.hid (And.intro h14 (And.intro hr14 hf14))
          clear h h14 hr14 hf14 hs H13
          go_wp2_with fail
          refine (H14.out.1.nextSome HC.out (by have := HP.out.1; show Y.length ≤ _; omega) HP.out.2.1).mono ?_
          rintro e W15 ⟨a1, c1, gf1, rfl, hfa, h, hs, _⟩
          have hr15 := hs.row H14.out.2.1 HL12.out.1.lt
          have hf15 := hs.flds H14.out.2.2 (fun k hk => by rw [hk.2]; exact HL12.out.2.2.1)
          unfold rqCells
          dsimp only
          have hB16 : Below W15.heap.size W15 (W15.alloc (.cells (rqCells m p q 11 (.slice a1 F2.length c1) bd false) 27)) := (Below.refl _ W15).alloc (Nat.le_refl _) _
          have hra16 := row_new W15 (rqCells m p q 11 (.slice a1 F2.length c1) bd false) 27
          have H16 := Lib.hid (And.intro (h.grow HC.out hB16) (And.intro (hr15.below hB16 hr15.lt) (And.intro (hf15.below hB16) (And.intro (hfa.below hB16) hra16))))
          clear h hs hr15 hf15 hfa hB16 hra16 H14
          go_wp2_with fail
          have h16 := H16.out.1
          refine (h16.nextSome HC.out (by have := HP.out.2.2.2.1; show (X ++ behind).length ≤ _; omega) HP.out.2.2.1).mono ?_
          rintro e W17 ⟨a2, c2, gf2, rfl, hfb, h, hs, _⟩
          have hr17 := hs.row H16.out.2.1 (.inl (.inl HL12.out.1.lt))
          have hf17 := hs.flds H16.out.2.2.1 (fun k hk => .inl (.inl (by rw [hk.2]; exact HL12.out.2.2.1)))
          have hfa17 := hs.flds H16.out.2.2.2.1 (fun k hk => .inl (.inr hk))
          have hra17 := hs.row H16.out.2.2.2.2 (.inr ⟨Nat.le_refl _, H16.out.2.2.2.2.lt⟩)
          clear h16 hs
          unfold rqCells
          dsimp only
          obtain ⟨b10, hb10⟩ : ∃ b, b = W15.heap.size := ⟨_, rfl⟩
          rw [← hb10] at hra17 ⊢
          obtain ⟨b12, hb12⟩ : ∃ b, b = W17.heap.size := ⟨_, rfl⟩
          obtain ⟨W18, hW18⟩ : ∃ W, W = W17.alloc (.cells #[S m, S p, S q, .int .i64 11, .slice a2 F2.length c2, S bd, .bool false] 27) := ⟨_, rfl⟩
          have hB18 : Below W17.heap.size W17 W18 := by rw [hW18]; exact (Below.refl _ W17).alloc (Nat.le_refl _) _
          have hrb18 : Row W18 b12 #[S m, S p, S q, .int .i64 11, .slice a2 F2.length c2, S bd, .bool false] 27 := by rw [hW18, hb12]; exact row_new _ _ _
          have hr18 : Row W18 b8 #[S m, S p, S q, .int .i64 11, .slice (some ⟨g2, 0, none⟩) n2 cp2, S bd, .bool false] 27 := hr17.below hB18 hr17.lt
          have hra18 : Row W18 b10 #[S m, S p, S q, .int .i64 11, .slice a1 F2.length c1, S bd, .bool false] 27 := hra17.below hB18 hra17.lt
          have h18 := h.below HC.out hB18
          have hsm1 := dsame_true m p q bd 11 false F2 (.slice a1 F2.length c1) (.slice (some ⟨g2, 0, none⟩) n2 cp2) gf1 g2 (by have := HP.out.2.2.2.2; omega) W18 (hfa17.below hB18) (hf17.below hB18)
          have H18 := Lib.hid (And.intro h18 (And.intro hr18 (And.intro hrb18 (And.intro (hf17.below hB18) (hfb.below hB18)))))
          have HS1 := Lib.hid hsm1
          have k0 : W18.cell? ⟨b8, 0, none⟩ = some (S m) := cell_of_row W18 _ 0 _ _ (0, 0) hr18
          have k1 : W18.cell? ⟨b8, 1, none⟩ = some (S p) := cell_of_row W18 _ 1 _ _ (0, 0) hr18
          have k2 : W18.cell? ⟨b8, 2, none⟩ = some (S q) := cell_of_row W18 _ 2 _ _ (0, 0) hr18
          have k3 : W18.cell? ⟨b8, 3, none⟩ = some (.int .i64 11) := cell_of_row W18 _ 3 _ _ (0, 0) hr18
          have k4 : W18.cell? ⟨b8, 4, none⟩ = some (.slice (some ⟨g2, 0, none⟩) n2 cp2) := cell_of_row W18 _ 4 _ _ (0, 0) hr18
          have k5 : W18.cell? ⟨b8, 5, none⟩ = some (S bd) := cell_of_row W18 _ 5 _ _ (0, 0) hr18
          have k6 : W18.cell? ⟨b8, 6, none⟩ = some (.bool false) := cell_of_row W18 _ 6 _ _ (0, 0) hr18
          have l0 : W18.cell? ⟨b10, 0, none⟩ = some (S m) := cell_of_row W18 _ 0 _ _ (0, 0) hra18
          have l1 : W18.cell? ⟨b10, 1, none⟩ = some (S p) := cell_of_row W18 _ 1 _ _ (0, 0) hra18
          have l2 : W18.cell? ⟨b10, 2, none⟩ = some (S q) := cell_of_row W18 _ 2 _ _ (0, 0) hra18
          have l3 : W18.cell? ⟨b10, 3, none⟩ = some (.int .i64 11) := cell_of_row W18 _ 3 _ _ (0, 0) hra18
          have l4 : W18.cell? ⟨b10, 4, none⟩ = some (.slice a1 F2.length c1) := cell_of_row W18 _ 4 _ _ (0, 0) hra18
          have l5 : W18.cell? ⟨b10, 5, none⟩ = some (S bd) := cell_of_row W18 _ 5 _ _ (0, 0) hra18
          have l6 : W18.cell? ⟨b10, 6, none⟩ = some (.bool false) := cell_of_row W18 _ 6 _ _ (0, 0) hra18
          have HW18 := Lib.hid (And.intro hW18 hb12)
          rw [hW18] at k0 k1 k2 k3 k4 k5 k6 l0 l1 l2 l3 l4 l5 l6
          clear hW18 hb12 hb10 hB18 hrb18 hr18 hra18 h18 hsm1 hr17 hf17 hfa17 hra17 hfb h H16
          go_wp2_with fail
          clear k0 k1 k2 k3 k4 k5 k6 l0 l1 l2 l3 l4 l5 l6
          rw [← HW18.out.1]
          try rw [← HW18.out.2]
          refine HS1.out.mono ?_
          rintro e W19 ⟨rfl, hB⟩
          have hr19 := H18.out.2.1.below hB H18.out.2.1.lt
          have hrb19 := H18.out.2.2.1.below hB H18.out.2.2.1.lt
          have h19 := H18.out.1.below HC.out hB
          have hsm2 := dsame_true m p q bd 11 false F2 (.slice a2 F2.length c2) (.slice (some ⟨g2, 0, none⟩) n2 cp2) gf2 g2 (by have := HP.out.2.2.2.2; omega) W19 (H18.out.2.2.2.2.below hB) (H18.out.2.2.2.1.below hB)
          have H19 := Lib.hid h19
          have HS2 := Lib.hid hsm2
          have k0 : W19.cell? ⟨b8, 0, none⟩ = some (S m) := cell_of_row W19 _ 0 _ _ (0, 0) hr19
          have k1 : W19.cell? ⟨b8, 1, none⟩ = some (S p) := cell_of_row W19 _ 1 _ _ (0, 0) hr19
          have k2 : W19.cell? ⟨b8, 2, none⟩ = some (S q) := cell_of_row W19 _ 2 _ _ (0, 0) hr19
          have k3 : W19.cell? ⟨b8, 3, none⟩ = some (.int .i64 11) := cell_of_row W19 _ 3 _ _ (0, 0) hr19
          have k4 : W19.cell? ⟨b8, 4, none⟩ = some (.slice (some ⟨g2, 0, none⟩) n2 cp2) := cell_of_row W19 _ 4 _ _ (0, 0) hr19
          have k5 : W19.cell? ⟨b8, 5, none⟩ = some (S bd) := cell_of_row W19 _ 5 _ _ (0, 0) hr19
          have k6 : W19.cell? ⟨b8, 6, none⟩ = some (.bool false) := cell_of_row W19 _ 6 _ _ (0, 0) hr19
          have l0 : W19.cell? ⟨b12, 0, none⟩ = some (S m) := cell_of_row W19 _ 0 _ _ (0, 0) hrb19
          have l1 : W19.cell? ⟨b12, 1, none⟩ = some (S p) := cell_of_row W19 _ 1 _ _ (0, 0) hrb19
          have l2 : W19.cell? ⟨b12, 2, none⟩ = some (S q) := cell_of_row W19 _ 2 _ _ (0, 0) hrb19
          have l3 : W19.cell? ⟨b12, 3, none⟩ = some (.int .i64 11) := cell_of_row W19 _ 3 _ _ (0, 0) hrb19
          have l4 : W19.cell? ⟨b12, 4, none⟩ = some (.slice a2 F2.length c2) := cell_of_row W19 _ 4 _ _ (0, 0) hrb19
          have l5 : W19.cell? ⟨b12, 5, none⟩ = some (S bd) := cell_of_row W19 _ 5 _ _ (0, 0) hrb19
          have l6 : W19.cell? ⟨b12, 6, none⟩ = some (.bool false) := cell_of_row W19 _ 6 _ _ (0, 0) hrb19
          clear hr19 hrb19 h19 hsm2 hB H18 HS1 HW18
          go_wp2_with fail
          clear k0 k1 k2 k3 k4 k5 k6 l0 l1 l2 l3 l4 l5 l6
          refine HS2.out.mono ?_
          rintro e W20 ⟨rfl, hB⟩
          have H20 := Lib.hid (H19.out.below HC.out hB)
          clear hB H19 HS2
          go_wp2_with fail
          refine (H20.out.rest HC.out).mono ?_
          rintro e W21 ⟨rfl, h, _⟩
          have H21 := Lib.hid h.bel
          clear h H20
          dsimp only
          have qn : binOp .eql 9 (S behind) (S behind) = pure (.bool (behind == behind)) := eql_S 9 behind behind
          have qg := guard_S 9
          rw [beq_self_eq_true] at qn
          go_wp2
          go_ret
          exact ⟨rfl, H21.out⟩
        · refine (HIT2.out Wq HBQ.out).mono ?_
          rintro e W9 ⟨rfl, hB⟩
          obtain ⟨g2, cp2, n2, W11, hn2, hr11, s9, v9, sa, va, s11, v11, f11, s12, hr12, hF12, hg12, hB12⟩ := HAFT.out W9 hB
          have H12 := Lib.hid (And.intro hn2 (And.intro hr12 (And.intro hF12 (And.intro hg12 hB12))))
          have HR11 := Lib.hid hr11
          clear hB hn2 hr12 hF12 hg12 hB12 hr11 hcV
          refine ⟨_, rfl, s9, ?_⟩
          simp only [Act.put, List.setIfInBounds_toArray, List.set_cons_zero, List.set_cons_succ]
          refine take_at (i := 6) (d := some 85) (v := .agg #[.string ⟨#[67, 111, 110, 116, 101, 110, 116, 45, 76, 101, 110, 103, 116, 104]⟩, S D]) rfl (by kernel_rfl) (by kernel_rfl) (by kernel_rfl) (fun _ _ _ h => h) (fun oi ho => ?_) s9 ?_
          · obtain rfl := Option.some.inj ho
            exact Or.inl ⟨by rfl, fun wx hSw => by go_simp⟩
          simp only [Act.put, List.setIfInBounds_toArray, List.set_cons_zero, List.set_cons_succ]
          refine ready_load_make (i := 1) (j := 7) (di := some 80) (dj := some 86) (vi := .slice (some ⟨g1, 0, none⟩) n1 cp1) (vj := .slice (some ⟨W9.heap.size, 0, none⟩) 1 1) (w1 := W9.alloc (.cells #[.string ⟨#[67, 111, 110, 116, 101, 110, 116, 45, 76, 101, 110, 103, 116, 104]⟩, S D] 47)) rfl rfl (by kernel_rfl) (by kernel_rfl) (by kernel_rfl) (by decide) (fun d h e => by cases h; cases e) (fun oi ho => ?_) (fun oi ho a' ha => ?_) s9 sa ?_
          · obtain rfl := Option.some.inj ho
            exact ⟨⟨by rfl, by go_simp⟩, ⟨by rfl, by simp only [Act.put, List.setIfInBounds_toArray, List.set_cons_zero, List.set_cons_succ]; go_simp⟩⟩
          · obtain rfl := Option.some.inj ho
            rcases ha with rfl | rfl
            · exact ⟨by rfl, by go_simp⟩
            · exact ⟨by rfl, by simp only [Act.put, List.setIfInBounds_toArray, List.set_cons_zero, List.set_cons_succ]; go_simp⟩
          simp only [Act.put, List.setIfInBounds_toArray, List.set_cons_zero, List.set_cons_succ]
          refine ready_value (i := 8) (d := some 87) (v := .slice (some ⟨g2, 0, none⟩) n2 cp2) (w' := W11) rfl (by kernel_rfl) (fun oi ho => ?_) s11 ?_
          · obtain rfl := Option.some.inj ho
            exact ⟨by rfl, exec_append 25 25 (.tmp 80) (.tmp 86) (.slice (some ⟨g1, 0, none⟩) n1 cp1) (.slice (some ⟨W9.heap.size, 0, none⟩) 1 1) rfl rfl rfl HR11.out⟩
          simp only [Act.put, List.setIfInBounds_toArray, List.set_cons_zero, List.set_cons_succ]
          refine take_at (i := 9) (d := some 88) (v := .pointer (some ⟨b8, 4, none⟩)) rfl (by kernel_rfl) (by kernel_rfl) (by kernel_rfl) (fun _ _ _ h => h) (fun oi ho => ?_) s11 ?_
          · obtain rfl := Option.some.inj ho
            exact Or.inl ⟨by rfl, fun wx hSw => by go_simp⟩
          simp only [Act.put, List.setIfInBounds_toArray, List.set_cons_zero, List.set_cons_succ]
          refine ready_skip (i := 10) (d := none) (w' := W11.setCell ⟨b8, 4, none⟩ (.slice (some ⟨g2, 0, none⟩) n2 cp2)) rfl (by kernel_rfl) (fun oi ho => ?_) s12 ?_
          · obtain rfl := Option.some.inj ho
            exact ⟨by rfl, by go_simp⟩
          refine wpAnyH_done (by kernel_rfl) ?_ _
          refine NoPanic.normal ?_
          clear s9 v9 sa va s11 v11 f11 s12 HR11
          generalize W11.setCell ⟨b8, 4, none⟩ (.slice (some ⟨g2, 0, none⟩) n2 cp2) = W12 at *
          obtain ⟨F2, hF2⟩ : ∃ F, F = ([hereF] ++ fs) ++ [lenF bd.length] := ⟨_, rfl⟩
          have hF2l : F2.length ≤ 1000 := by rw [hF2]; have := H30.out.2.1; rw [HN.out] at this; simp; omega
          have h12 := H12.out
          rw [← hF2] at h12
          obtain ⟨-, hr12, hf12, hg12, hB12⟩ := h12
          have hnx : ∀ x, PSt.next ⟨X ++ x, 0⟩ = (some ⟨m, p, q, 11, F2, bd, false⟩, ⟨x, 0⟩) := fun x => by
            rw [hF2]
            exact (HNX.out x).trans (by rw [HWant.out]; rfl)
          obtain ⟨X2, hX2⟩ : ∃ Z, Z = X ++ X := ⟨_, rfl⟩
          obtain ⟨Y, hY⟩ : ∃ Z, Z = X2 ++ behind := ⟨_, rfl⟩
          have hYl : Y.length ≤ 20000 := by rw [hY, hX2, List.length_append, List.length_append]; have := H30.out.2.2; have := HBL.out; omega
          have y1 : binOp .add 9 (S X) (S X) = pure (S X2) := by rw [hX2]; exact S_add 9 X X (by have := H30.out.2.2; omega)
          have y2 : binOp .add 9 (S X2) (S behind) = pure (S Y) := by rw [hY]; exact S_add 9 X2 behind (by rw [hX2, List.length_append]; have := H30.out.2.2; have := HBL.out; omega)
          have hn1 : PSt.next ⟨Y, 0⟩ = (some ⟨m, p, q, 11, F2, bd, false⟩, ⟨X ++ behind, 0⟩) := by rw [hY, hX2, List.append_assoc]; exact hnx _
          have hn2 := hnx behind
          have hZl : (X ++ behind).length ≤ 20000 := by rw [List.length_append]; have := H30.out.2.2; have := HBL.out; omega
          have HP := Lib.hid (And.intro hYl (And.intro hn1 (And.intro hn2 (And.intro hZl hF2l))))
          have HL12 := Lib.hid (And.intro hr12 (And.intro hf12 (And.intro hg12 hB12)))
          clear hF2 hF2l hr12 hf12 hg12 hB12 hnx hX2 hY hYl hn1 hn2 hZl H12 HWant HNX H30 HBL HAFT HBQ HQ HLF HIT2 HB8 HSQ
          go_wp2_with fail
          refine (OneK.make HC.out HL12.out.2.2.2).mono ?_
          rintro e W13 ⟨g, rfl, h, hB⟩
          have H13 := Lib.hid (And.intro h (And.intro (HL12.out.1.below hB HL12.out.1.lt) (HL12.out.2.1.below hB)))
          clear h hB
          go_wp2_with fail
          refine (H13.out.1.feed HC.out Y (by have := HP.out.1; show 0 + _ ≤ _; omega)).mono ?_
          rintro e W14 ⟨rfl, h, hs⟩
          have h14 : OneK RA w g ⟨Y, 0⟩ (fun k => k < W12.heap.size) W14 := h
          have hr14 := hs.row H13.out.2.1 HL12.out.1.lt
          have hf14 := hs.flds H13.out.2.2 (fun k hk => by rw [hk.2]; exact HL12.out.2.2.1)
          have H14 := Lib.hid (And.intro h14 (And.intro hr14 hf14))
          clear h h14 hr14 hf14 hs H13
          go_wp2_with fail
          refine (H14.out.1.nextSome HC.out (by have := HP.out.1; show Y.length ≤ _; omega) HP.out.2.1).mono ?_
          rintro e W15 ⟨a1, c1, gf1, rfl, hfa, h, hs, _⟩
          have hr15 := hs.row H14.out.2.1 HL12.out.1.lt
          have hf15 := hs.flds H14.out.2.2 (fun k hk => by rw [hk.2]; exact HL12.out.2.2.1)
          unfold rqCells
          dsimp only
          have hB16 : Below W15.heap.size W15 (W15.alloc (.cells (rqCells m p q 11 (.slice a1 F2.length c1) bd false) 27)) := (Below.refl _ W15).alloc (Nat.le_refl _) _
          have hra16 := row_new W15 (rqCells m p q 11 (.slice a1 F2.length c1) bd false) 27
          have H16 := Lib.hid (And.intro (h.grow HC.out hB16) (And.intro (hr15.below hB16 hr15.lt) (And.intro (hf15.below hB16) (And.intro (hfa.below hB16) hra16))))
          clear h hs hr15 hf15 hfa hB16 hra16 H14
          go_wp2_with fail
          have h16 := H16.out.1
          refine (h16.nextSome HC.out (by have := HP.out.2.2.2.1; show (X ++ behind).length ≤ _; omega) HP.out.2.2.1).mono ?_
          rintro e W17 ⟨a2, c2, gf2, rfl, hfb, h, hs, _⟩
          have hr17 := hs.row H16.out.2.1 (.inl (.inl HL12.out.1.lt))
          have hf17 := hs.flds H16.out.2.2.1 (fun k hk => .inl (.inl (by rw [hk.2]; exact HL12.out.2.2.1)))
          have hfa17 := hs.flds H16.out.2.2.2.1 (fun k hk => .inl (.inr hk))
          have hra17 := hs.row H16.out.2.2.2.2 (.inr ⟨Nat.le_refl _, H16.out.2.2.2.2.lt⟩)
          clear h16 hs
          unfold rqCells
          dsimp only
          obtain ⟨b10, hb10⟩ : ∃ b, b = W15.heap.size := ⟨_, rfl⟩
          rw [← hb10] at hra17 ⊢
          obtain ⟨b12, hb12⟩ : ∃ b, b = W17.heap.size := ⟨_, rfl⟩
          obtain ⟨W18, hW18⟩ : ∃ W, W = W17.alloc (.cells #[S m, S p, S q, .int .i64 11, .slice a2 F2.length c2, S bd, .bool false] 27) := ⟨_, rfl⟩
          have hB18 : Below W17.heap.size W17 W18 := by rw [hW18]; exact (Below.refl _ W17).alloc (Nat.le_refl _) _
          have hrb18 : Row W18 b12 #[S m, S p, S q, .int .i64 11, .slice a2 F2.length c2, S bd, .bool false] 27 := by rw [hW18, hb12]; exact row_new _ _ _
          have hr18 : Row W18 b8 #[S m, S p, S q, .int .i64 11, .slice (some ⟨g2, 0, none⟩) n2 cp2, S bd, .bool false] 27 := hr17.below hB18 hr17.lt
          have hra18 : Row W18 b10 #[S m, S p, S q, .int .i64 11, .slice a1 F2.length c1, S bd, .bool false] 27 := hra17.below hB18 hra17.lt
          have h18 := h.below HC.out hB18
          have hsm1 := dsame_true m p q bd 11 false F2 (.slice a1 F2.length c1) (.slice (some ⟨g2, 0, none⟩) n2 cp2) gf1 g2 (by have := HP.out.2.2.2.2; omega) W18 (hfa17.below hB18) (hf17.below hB18)
          have H18 := Lib.hid (And.intro h18 (And.intro hr18 (And.intro hrb18 (And.intro (hf17.below hB18) (hfb.below hB18)))))
          have HS1 := Lib.hid hsm1
          have k0 : W18.cell? ⟨b8, 0, none⟩ = some (S m) := cell_of_row W18 _ 0 _ _ (0, 0) hr18
          have k1 : W18.cell? ⟨b8, 1, none⟩ = some (S p) := cell_of_row W18 _ 1 _ _ (0, 0) hr18
          have k2 : W18.cell? ⟨b8, 2, none⟩ = some (S q) := cell_of_row W18 _ 2 _ _ (0, 0) hr18
          have k3 : W18.cell? ⟨b8, 3, none⟩ = some (.int .i64 11) := cell_of_row W18 _ 3 _ _ (0, 0) hr18
          have k4 : W18.cell? ⟨b8, 4, none⟩ = some (.slice (some ⟨g2, 0, none⟩) n2 cp2) := cell_of_row W18 _ 4 _ _ (0, 0) hr18
          have k5 : W18.cell? ⟨b8, 5, none⟩ = some (S bd) := cell_of_row W18 _ 5 _ _ (0, 0) hr18
          have k6 : W18.cell? ⟨b8, 6, none⟩ = some (.bool false) := cell_of_row W18 _ 6 _ _ (0, 0) hr18
          have l0 : W18.cell? ⟨b10, 0, none⟩ = some (S m) := cell_of_row W18 _ 0 _ _ (0, 0) hra18
          have l1 : W18.cell? ⟨b10, 1, none⟩ = some (S p) := cell_of_row W18 _ 1 _ _ (0, 0) hra18
          have l2 : W18.cell? ⟨b10, 2, none⟩ = some (S q) := cell_of_row W18 _ 2 _ _ (0, 0) hra18
          have l3 : W18.cell? ⟨b10, 3, none⟩ = some (.int .i64 11) := cell_of_row W18 _ 3 _ _ (0, 0) hra18
          have l4 : W18.cell? ⟨b10, 4, none⟩ = some (.slice a1 F2.length c1) := cell_of_row W18 _ 4 _ _ (0, 0) hra18
          have l5 : W18.cell? ⟨b10, 5, none⟩ = some (S bd) := cell_of_row W18 _ 5 _ _ (0, 0) hra18
          have l6 : W18.cell? ⟨b10, 6, none⟩ = some (.bool false) := cell_of_row W18 _ 6 _ _ (0, 0) hra18
          have HW18 := Lib.hid (And.intro hW18 hb12)
          rw [hW18] at k0 k1 k2 k3 k4 k5 k6 l0 l1 l2 l3 l4 l5 l6
          clear hW18 hb12 hb10 hB18 hrb18 hr18 hra18 h18 hsm1 hr17 hf17 hfa17 hra17 hfb h H16
          go_wp2_with fail
          clear k0 k1 k2 k3 k4 k5 k6 l0 l1 l2 l3 l4 l5 l6
          rw [← HW18.out.1]
          try rw [← HW18.out.2]
          refine HS1.out.mono ?_
          rintro e W19 ⟨rfl, hB⟩
          have hr19 := H18.out.2.1.below hB H18.out.2.1.lt
          have hrb19 := H18.out.2.2.1.below hB H18.out.2.2.1.lt
          have h19 := H18.out.1.below HC.out hB
          have hsm2 := dsame_true m p q bd 11 false F2 (.slice a2 F2.length c2) (.slice (some ⟨g2, 0, none⟩) n2 cp2) gf2 g2 (by have := HP.out.2.2.2.2; omega) W19 (H18.out.2.2.2.2.below hB) (H18.out.2.2.2.1.below hB)
          have H19 := Lib.hid h19
          have HS2 := Lib.hid hsm2
          have k0 : W19.cell? ⟨b8, 0, none⟩ = some (S m) := cell_of_row W19 _ 0 _ _ (0, 0) hr19
          have k1 : W19.cell? ⟨b8, 1, none⟩ = some (S p) := cell_of_row W19 _ 1 _ _ (0, 0) hr19
          have k2 : W19.cell? ⟨b8, 2, none⟩ = some (S q) := cell_of_row W19 _ 2 _ _ (0, 0) hr19
          have k3 : W19.cell? ⟨b8, 3, none⟩ = some (.int .i64 11) := cell_of_row W19 _ 3 _ _ (0, 0) hr19
          have k4 : W19.cell? ⟨b8, 4, none⟩ = some (.slice (some ⟨g2, 0, none⟩) n2 cp2) := cell_of_row W19 _ 4 _ _ (0, 0) hr19
          have k5 : W19.cell? ⟨b8, 5, none⟩ = some (S bd) := cell_of_row W19 _ 5 _ _ (0, 0) hr19
          have k6 : W19.cell? ⟨b8, 6, none⟩ = some (.bool false) := cell_of_row W19 _ 6 _ _ (0, 0) hr19
          have l0 : W19.cell? ⟨b12, 0, none⟩ = some (S m) := cell_of_row W19 _ 0 _ _ (0, 0) hrb19
          have l1 : W19.cell? ⟨b12, 1, none⟩ = some (S p) := cell_of_row W19 _ 1 _ _ (0, 0) hrb19
          have l2 : W19.cell? ⟨b12, 2, none⟩ = some (S q) := cell_of_row W19 _ 2 _ _ (0, 0) hrb19
          have l3 : W19.cell? ⟨b12, 3, none⟩ = some (.int .i64 11) := cell_of_row W19 _ 3 _ _ (0, 0) hrb19
          have l4 : W19.cell? ⟨b12, 4, none⟩ = some (.slice a2 F2.length c2) := cell_of_row W19 _ 4 _ _ (0, 0) hrb19
          have l5 : W19.cell? ⟨b12, 5, none⟩ = some (S bd) := cell_of_row W19 _ 5 _ _ (0, 0) hrb19
          have l6 : W19.cell? ⟨b12, 6, none⟩ = some (.bool false) := cell_of_row W19 _ 6 _ _ (0, 0) hrb19
          clear hr19 hrb19 h19 hsm2 hB H18 HS1 HW18
          go_wp2_with fail
          clear k0 k1 k2 k3 k4 k5 k6 l0 l1 l2 l3 l4 l5 l6
          refine HS2.out.mono ?_
          rintro e W20 ⟨rfl, hB⟩
          have H20 := Lib.hid (H19.out.below HC.out hB)
          clear hB H19 HS2
          go_wp2_with fail
          refine (H20.out.rest HC.out).mono ?_
          rintro e W21 ⟨rfl, h, _⟩
          have H21 := Lib.hid h.bel
          clear h H20
          dsimp only
          have qn : binOp .eql 9 (S behind) (S behind) = pure (.bool (behind == behind)) := eql_S 9 behind behind
          have qg := guard_S 9
          rw [beq_self_eq_true] at qn
          go_wp2
          go_ret
          exact ⟨rfl, H21.out⟩
      · go_wp2_with fail
        refine HMR.out.mono ?_
        rintro e W3 ⟨z, rfl, hz, hB⟩
        have H4 := Lib.hid (H3.out.below hB)
        have HZ := Lib.hid hz
        clear hB hz d0 d1 d2 d3 d4 d5 d6 H3 HMR HD HBD HE HU
        cases z with
        | false =>
          go_wp2
          go_ret
          exact ⟨rfl, H4.out.bel⟩
        | true =>
        have hlb := run_len_S (P := Tryz.prog) Tryz.underlying9 3 behind
        by_cases hb3 : 300 < behind.length
        · have g5 : decide ((300 : Int) < (behind.length : Int)) = true := decide_eq_true (by omega)
          have g5' : decide ((behind.length : Int) > 300) = true := decide_eq_true (by omega)
          go_wp2
          go_ret
          exact ⟨rfl, H4.out.bel⟩
        have g5 : decide ((300 : Int) < (behind.length : Int)) = false := decide_eq_false (by omega)
        have g5' : decide ((behind.length : Int) > 300) = false := decide_eq_false (by omega)
        have hR : R := HZ.out rfl
        have HBL : Hid (behind.length ≤ 300) := Lib.hid (by omega)
        have h30 := HNext.out.2.1 hR
        have hE3 : m.length + p.length + q.length + fsLen fs ≤ 1900 := by
          have := HE2.out
          rw [List.take_of_length_le (by omega)] at this
          exact this
        have hX2 := HNext.out.2.2 hR hE3
        have hby := HBytes.out cl W3 (HK.out W3 H4.out.bel) hE3 h30.1 H4.out.arg
        rw [← HN.out] at hby
        have HBY := Lib.hid hby
        have HNX := Lib.hid (HNext.out.1 hR hE3)
        have H30 : Hid (bd.length ≤ 4096 ∧ N ≤ 30 ∧ X.length ≤ 6200) := Lib.hid ⟨h30.1, by rw [HN.out]; exact h30.2, hX2⟩
        clear hby h30 hE3 hX2 hR hb3 HZ HE2 HNext HBytes HMay HFL
        have e0 : W3.cell? ⟨b1, 0, none⟩ = some (S m) := cell_of_row W3 _ 0 _ _ (0, 0) H4.out.row
        have e1 : W3.cell? ⟨b1, 1, none⟩ = some (S p) := cell_of_row W3 _ 1 _ _ (0, 0) H4.out.row
        have e2 : W3.cell? ⟨b1, 2, none⟩ = some (S q) := cell_of_row W3 _ 2 _ _ (0, 0) H4.out.row
        have e3 : W3.cell? ⟨b1, 3, none⟩ = some (.int .i64 vi) := cell_of_row W3 _ 3 _ _ (0, 0) H4.out.row
        have e4 : W3.cell? ⟨b1, 4, none⟩ = some (.slice a N c) := by rw [HN.out]; exact cell_of_row W3 _ 4 _ _ (0, 0) H4.out.row
        have e5 : W3.cell? ⟨b1, 5, none⟩ = some (S bd) := cell_of_row W3 _ 5 _ _ (0, 0) H4.out.row
        have e6 : W3.cell? ⟨b1, 6, none⟩ = some (.bool cl) := cell_of_row W3 _ 6 _ _ (0, 0) H4.out.row

        go_wp2_with fail
        refine HBY.out.mono ?_
        rintro e W4 ⟨rfl, hB⟩
        have H5 := Lib.hid (H4.out.below hB)
        clear hB HBY H4 e0 e1 e2 e3 e4 e5 e6
        have e0 : W4.cell? ⟨b1, 0, none⟩ = some (S m) := cell_of_row W4 _ 0 _ _ (0, 0) H5.out.row
        have e1 : W4.cell? ⟨b1, 1, none⟩ = some (S p) := cell_of_row W4 _ 1 _ _ (0, 0) H5.out.row
        have e2 : W4.cell? ⟨b1, 2, none⟩ = some (S q) := cell_of_row W4 _ 2 _ _ (0, 0) H5.out.row
        have e3 : W4.cell? ⟨b1, 3, none⟩ = some (.int .i64 vi) := cell_of_row W4 _ 3 _ _ (0, 0) H5.out.row
        have e4 : W4.cell? ⟨b1, 4, none⟩ = some (.slice a N c) := by rw [HN.out]; exact cell_of_row W4 _ 4 _ _ (0, 0) H5.out.row
        have e5 : W4.cell? ⟨b1, 5, none⟩ = some (S bd) := cell_of_row W4 _ 5 _ _ (0, 0) H5.out.row
        have e6 : W4.cell? ⟨b1, 6, none⟩ = some (.bool cl) := cell_of_row W4 _ 6 _ _ (0, 0) H5.out.row

        obtain ⟨WA, hWA⟩ : ∃ W, W = (W4.alloc (.cells #[S m, S p, S q, .int .i64 11, .slice a N c, S bd, .bool false] 27)).alloc (.cells #[.string ⟨#[72, 111, 115, 116]⟩, .string ⟨#[104, 101, 114, 101]⟩] 47) := ⟨_, rfl⟩
        have hBA : Below W4.heap.size W4 WA := by rw [hWA]; exact ((Below.refl _ W4).alloc (Nat.le_refl _) _).alloc (by simp) _
        have hszA : WA.heap.size = W4.heap.size + 2 := by rw [hWA]; simp
        have hown : WA.ownsRow (W4.heap.size + 1) 47 2 (.slice (some ⟨W4.heap.size + 1, 0, none⟩) [hereF].length 1) [hereF].length (fcells [hereF]) := by
          have h := ownF_new (W4.alloc (.cells #[S m, S p, S q, .int .i64 11, .slice a N c, S bd, .bool false] 27)) hereF
          rw [alloc_size] at h
          rw [hWA]; exact h
        have hr8 : Row WA W4.heap.size #[S m, S p, S q, .int .i64 11, .slice a N c, S bd, .bool false] 27 := by rw [hWA]; exact (row_new W4 _ _).alloc _
        obtain ⟨g1, cp1, W6, hr6, ho6, hg6⟩ := run_addF hown (H5.out.arg.below hBA) 25 (by decide) (by have := H30.out.2.1; rw [HN.out] at this; omega) (by omega)
        rw [← HN.out] at hr6
        have hr68 := row_grown hr8 hg6 (fun e => by injection e with e; omega)
        have c64 := cell_of_row W6 _ 4 _ _ (0, 0) hr68
        have f64 := hr68.frozen 4
        have k4 : WA.cell? ⟨b1, 4, none⟩ = some (.slice a N c) := by rw [HN.out]; exact cell_of_row WA _ 4 _ _ (0, 0) (H5.out.below hBA).row
        have hsz6 := hg6.size
        have hB6 : Below W4.heap.size W4 (W6.setCell ⟨W4.heap.size, 4, none⟩ (.slice (some ⟨g1, 0, none⟩) ([hereF] ++ fs).length cp1)) := (hBA.trans ⟨hg6.os, hg6.tape, hg6.output, hg6.size, fun k hk => hg6.block k (by omega) (fun e => by injection e with e; omega)⟩).setCell (p := ⟨W4.heap.size, 4, none⟩) (Nat.le_refl _) _
        have hr7 : Row (W6.setCell ⟨W4.heap.size, 4, none⟩ (.slice (some ⟨g1, 0, none⟩) ([hereF] ++ fs).length cp1)) W4.heap.size #[S m, S p, S q, .int .i64 11, .slice (some ⟨g1, 0, none⟩) ([hereF] ++ fs).length cp1, S bd, .bool false] 27 := hr68.set 4 _
        have ho7 : (W6.setCell ⟨W4.heap.size, 4, none⟩ (.slice (some ⟨g1, 0, none⟩) ([hereF] ++ fs).length cp1)).ownsRow (W4.heap.size + 1) 47 2 (.slice (some ⟨g1, 0, none⟩) ([hereF] ++ fs).length cp1) ([hereF] ++ fs).length (fcells ([hereF] ++ fs)) := owns_same ho6 (fun j hj _ => Below.heap_setCell _ _ _ _ (fun e => by have e2 : j = W4.heap.size := e; omega))
        have hsz7 : (W6.setCell ⟨W4.heap.size, 4, none⟩ (.slice (some ⟨g1, 0, none⟩) ([hereF] ++ fs).length cp1)).heap.size = W6.heap.size := by simp [World.setCell]
        have hlen1 : ([hereF] ++ fs).length ≤ 32 := by have := H30.out.2.1; rw [HN.out] at this; simp; omega
        obtain ⟨n1, hn1⟩ : ∃ n, n = ([hereF] ++ fs).length := ⟨_, rfl⟩
        rw [← hn1] at hr6 hB6 hr7 ho7 hsz7
        have HH7 := Lib.hid (And.intro hB6 (And.intro hr7 (And.intro ho7 (And.intro hn1 (And.intro hlen1 (show W4.heap.size + 2 ≤ W6.heap.size by omega))))))
        have HWA := Lib.hid hWA
        rw [hWA] at hr6 k4
        clear hBA hszA hown hr8 ho6 hg6 hr68 hsz6 hB6 hr7 ho7 hsz7 hlen1 hn1 hWA
        go_wp2_with (at_builtin; refine wpList_append_by rfl 25 25 (.tmp 74) (.tmp 76) rfl (.slice (some ⟨W4.heap.size + 1, 0, none⟩) [hereF].length 1) (.slice a N c) rfl rfl (.slice (some ⟨g1, 0, none⟩) n1 cp1) W6 hr6 ?_)
        clear c64 f64 k4 hr6 HWA e0 e1 e2 e3 e4 e5 e6
        obtain ⟨b8, hb8⟩ : ∃ b, b = W4.heap.size := ⟨_, rfl⟩
        rw [← hb8] at HH7 ⊢
        obtain ⟨W7, hW7⟩ : ∃ W, W = W6.setCell ⟨b8, 4, none⟩ (.slice (some ⟨g1, 0, none⟩) n1 cp1) := ⟨_, rfl⟩
        have hs67 : W7.heap.size = W6.heap.size := by rw [hW7]; simp [World.setCell]
        rw [← hW7] at HH7 ⊢
        obtain ⟨hB7, hr7, ho7, hn1, hlen1, hs6⟩ := HH7.out
        obtain ⟨Wq, hWq⟩ : ∃ W, W = W7.drew := ⟨_, rfl⟩
        have hq5 : W7.drew.cell? ⟨b1, 5, none⟩ = some (S bd) := cell_of_row W7.drew _ 5 _ _ (0, 0) (H5.out.below (show Below W4.heap.size W4 W7.drew by rw [hb8] at hB7; exact ⟨hB7.os, hB7.tape, hB7.output, hB7.size, hB7.block⟩)).row
        have HSQ : Hid (Wq.cell? ⟨b1, 5, none⟩ = some (S bd)) := Lib.hid (by rw [hWq]; exact hq5)
        have hBq : Below W4.heap.size W4 Wq := by rw [hWq]; rw [hb8] at hB7; exact ⟨hB7.os, hB7.tape, hB7.output, hB7.size, hB7.block⟩
        have hMq := H5.out.below hBq
        have hr8q : Row Wq b8 #[S m, S p, S q, .int .i64 11, .slice (some ⟨g1, 0, none⟩) n1 cp1, S bd, .bool false] 27 := by rw [hWq]; exact hr7
        have hoq : Wq.ownsRow (b8 + 1) 47 2 (.slice (some ⟨g1, 0, none⟩) n1 cp1) n1 (fcells ([hereF] ++ fs)) := by rw [hWq]; exact ho7.drew
        have hsq : Wq.heap.size = W6.heap.size := by rw [hWq]; exact hs67
        have hb18 : b1 < b8 := by rw [hb8]; exact H5.out.row.lt
        have HQ := Lib.hid (And.intro hMq (And.intro hr8q (And.intro hoq (And.intro hn1 (And.intro hlen1 (And.intro hb18 (show b8 + 2 ≤ Wq.heap.size by omega)))))))
        have hlB := run_len_S (P := Tryz.prog) Tryz.underlying9 3 bd
        obtain ⟨D, hDd⟩ : ∃ D, D = Lib.decDigits bd.length := ⟨_, rfl⟩
        have hit := fun (W : World) (h : Below w.heap.size w W) => HIT.out bd.length W H30.out.1 h
        rw [← hDd] at hit
        obtain ⟨KB, hKB⟩ : ∃ K, K = bd.length := ⟨_, rfl⟩
        have HLF : Hid (lenF bd.length = ([67, 111, 110, 116, 101, 110, 116, 45, 76, 101, 110, 103, 116, 104], D)) := Lib.hid (by rw [hDd]; rfl)
        rw [← hKB] at hlB hit
        have HIT2 := Lib.hid hit
        have hcV : Wq.cell? ⟨b8, 4, none⟩ = some (.slice (some ⟨g1, 0, none⟩) n1 cp1) := cell_of_row Wq _ 4 _ _ (0, 0) hr8q
        have hAFT : ∀ W9, Below Wq.heap.size Wq W9 → ∃ g2 cp2 n2 W11, n2 = (([hereF] ++ fs) ++ [lenF bd.length]).length ∧ (Builtin.append_ #[25, 25] 25 #[.slice (some ⟨g1, 0, none⟩) n1 cp1, .slice (some ⟨W9.heap.size, 0, none⟩) 1 1]).run Tryz.prog (W9.alloc (.cells #[.string ⟨#[67, 111, 110, 116, 101, 110, 116, 45, 76, 101, 110, 103, 116, 104]⟩, S D] 47)) = .ok (.slice (some ⟨g2, 0, none⟩) n2 cp2) W11 ∧
            W9.cell? ⟨b1, 5, none⟩ = some (S bd) ∧ W9.cell? ⟨b8, 4, none⟩ = some (.slice (some ⟨g1, 0, none⟩) n1 cp1) ∧ (W9.alloc (.cells #[.string ⟨#[67, 111, 110, 116, 101, 110, 116, 45, 76, 101, 110, 103, 116, 104]⟩, S D] 47)).cell? ⟨b1, 5, none⟩ = some (S bd) ∧ (W9.alloc (.cells #[.string ⟨#[67, 111, 110, 116, 101, 110, 116, 45, 76, 101, 110, 103, 116, 104]⟩, S D] 47)).cell? ⟨b8, 4, none⟩ = some (.slice (some ⟨g1, 0, none⟩) n1 cp1) ∧ W11.cell? ⟨b1, 5, none⟩ = some (S bd) ∧ W11.cell? ⟨b8, 4, none⟩ = some (.slice (some ⟨g1, 0, none⟩) n1 cp1) ∧ W11.frozen? ⟨b8, 4, none⟩ = false ∧
            (W11.setCell ⟨b8, 4, none⟩ (.slice (some ⟨g2, 0, none⟩) n2 cp2)).cell? ⟨b1, 5, none⟩ = some (S bd) ∧ Row (W11.setCell ⟨b8, 4, none⟩ (.slice (some ⟨g2, 0, none⟩) n2 cp2)) b8 #[S m, S p, S q, .int .i64 11, .slice (some ⟨g2, 0, none⟩) n2 cp2, S bd, .bool false] 27 ∧
            FldsAt (W11.setCell ⟨b8, 4, none⟩ (.slice (some ⟨g2, 0, none⟩) n2 cp2)) (.slice (some ⟨g2, 0, none⟩) n2 cp2) (([hereF] ++ fs) ++ [lenF bd.length]) g2 ∧ g2 < (W11.setCell ⟨b8, 4, none⟩ (.slice (some ⟨g2, 0, none⟩) n2 cp2)).heap.size ∧ Below w.heap.size w (W11.setCell ⟨b8, 4, none⟩ (.slice (some ⟨g2, 0, none⟩) n2 cp2)) := fun W9 hB9 => by
          have hsz9 := hB9.size
          have hM9 := hMq.below hB9
          have hr89 : Row W9 b8 _ 27 := hr8q.below hB9 hr8q.lt
          have ho9 : W9.ownsRow (b8 + 1) 47 2 (.slice (some ⟨g1, 0, none⟩) n1 cp1) n1 (fcells ([hereF] ++ fs)) := owns_same hoq (fun j _ hj => hB9.block j hj)
          have hBa : Below W9.heap.size W9 (W9.alloc (.cells #[.string ⟨#[67, 111, 110, 116, 101, 110, 116, 45, 76, 101, 110, 103, 116, 104]⟩, S D] 47)) := (Below.refl _ W9).alloc (Nat.le_refl _) _
          have hMa := hM9.below hBa
          have hr8a := hr89.below hBa hr89.lt
          have hoa := ho9.alloc (.cells #[.string ⟨#[67, 111, 110, 116, 101, 110, 116, 45, 76, 101, 110, 103, 116, 104]⟩, S D] 47)
          rw [hn1] at hoa
          have hAn := argf_new W9 (lenF bd.length)
          rw [HLF.out] at hAn
          obtain ⟨g2, cp2, W11, hr, ho, hg⟩ := run_addF hoa hAn 25 (by omega) (by simp) (by rw [alloc_size]; omega)
          rw [← HLF.out] at ho hr
          rw [← hn1] at hr
          have hg1 := (hoq.lt g1 rfl).1
          have hr811 := row_grown hr8a hg (fun e => by injection e with e; omega)
          have hr111 := row_grown hMa.row hg (fun e => by injection e with e; omega)
          have hg2 := (ho.lt g2 rfl)
          have hr12 : Row (W11.setCell ⟨b8, 4, none⟩ (.slice (some ⟨g2, 0, none⟩) (([hereF] ++ fs) ++ [lenF bd.length]).length cp2)) b8 _ 27 := hr811.set 4 _
          have ho12 : (W11.setCell ⟨b8, 4, none⟩ (.slice (some ⟨g2, 0, none⟩) (([hereF] ++ fs) ++ [lenF bd.length]).length cp2)).ownsRow (b8 + 1) 47 2 _ _ _ := owns_same ho (fun j hj _ => Below.heap_setCell _ _ _ _ (fun e => by have e2 : j = b8 := e; omega))
          have hr112 : Row (W11.setCell ⟨b8, 4, none⟩ (.slice (some ⟨g2, 0, none⟩) (([hereF] ++ fs) ++ [lenF bd.length]).length cp2)) b1 _ 27 := hr111.other (by first | exact Nat.ne_of_lt hb18 | exact Nat.ne_of_gt hb18)
          have hww : w.heap.size ≤ b1 := by rw [← HWX.out.2]; exact Nat.le_refl _
          refine ⟨g2, cp2, _, W11, rfl, hr, cell_of_row W9 _ 5 _ _ (0, 0) hM9.row, cell_of_row W9 _ 4 _ _ (0, 0) hr89, cell_of_row _ _ 5 _ _ (0, 0) hMa.row, cell_of_row _ _ 4 _ _ (0, 0) hr8a, cell_of_row _ _ 5 _ _ (0, 0) hr111, cell_of_row _ _ 4 _ _ (0, 0) hr811, hr811.frozen 4, cell_of_row _ _ 5 _ _ (0, 0) hr112, hr12, ?_, by rw [show (W11.setCell ⟨b8, 4, none⟩ (.slice (some ⟨g2, 0, none⟩) (([hereF] ++ fs) ++ [lenF bd.length]).length cp2)).heap.size = W11.heap.size by simp [World.setCell]]; exact hg2.2, ?_⟩
          · exact flds_own ho12
          · exact (hMa.bel.trans ⟨hg.os, hg.tape, hg.output, hg.size, fun k hk => hg.block k (by have := hMa.bel.size; omega) (fun e => by injection e with e; omega)⟩).setCell (p := ⟨b8, 4, none⟩) (by show w.heap.size ≤ b8; omega) _
        have HAFT := Lib.hid hAFT
        have HBQ := Lib.hid (hMq.bel)
        have HB8 := Lib.hid hb8
        clear hb8 hAFT hB7 hr7 ho7 hn1 hlen1 hs6 hs67 hBq hMq hr8q hoq hsq hb18 hDd hit hKB HH7 HIT
        refine wp_region_noPanic ?_
        refine wp_region_held_drew (S := fun wx => wx.cell? ⟨b1, 5, none⟩ = some (S bd)) (by kernel_rfl) hq5 (fun _ => ?_)
        rw [← hWq]
        clear hWq hq5 hW7
        refine take_at (i := 0) (d := some 79) (v := .pointer (some ⟨b8, 4, none⟩)) rfl (by kernel_rfl) (by kernel_rfl) (by kernel_rfl) (fun _ _ _ h => h) (fun oi ho => ?_) HSQ.out ?_
        · obtain rfl := Option.some.inj ho
          exact Or.inl ⟨by rfl, fun wx hSw => by go_simp⟩
        simp only [Act.put, List.setIfInBounds_toArray, List.set_cons_zero, List.set_cons_succ]
        refine take_at (i := 2) (d := some 81) (v := .pointer (some ⟨b1, 5, none⟩)) rfl (by kernel_rfl) (by kernel_rfl) (by kernel_rfl) (fun _ _ _ h => h) (fun oi ho => ?_) HSQ.out ?_
        · obtain rfl := Option.some.inj ho
          exact Or.inl ⟨by rfl, fun wx hSw => by go_simp⟩
        simp only [Act.put, List.setIfInBounds_toArray, List.set_cons_zero, List.set_cons_succ]
        refine take_at (i := 3) (d := some 82) (v := S bd) rfl (by kernel_rfl) (by kernel_rfl) (by kernel_rfl) (fun _ _ _ h => h) (fun oi ho => ?_) HSQ.out ?_
        · obtain rfl := Option.some.inj ho
          exact Or.inl ⟨by rfl, fun wx hSw => by go_simp⟩
        simp only [Act.put, List.setIfInBounds_toArray, List.set_cons_zero, List.set_cons_succ]
        refine take_at (i := 4) (d := some 83) (v := .int .i64 (KB : Int)) rfl (by kernel_rfl) (by kernel_rfl) (by kernel_rfl) (fun _ _ _ h => h) (fun oi ho => ?_) HSQ.out ?_
        · obtain rfl := Option.some.inj ho
          exact Or.inl ⟨by rfl, fun wx hSw => by go_simp⟩
        simp only [Act.put, List.setIfInBounds_toArray, List.set_cons_zero, List.set_cons_succ]
        refine ready_value_or_call (i := 1) (j := 5) (di := some 80) (dj := some 84) (vi := .slice (some ⟨g1, 0, none⟩) n1 cp1) (f := 21) (args := #[.int .i64 (KB : Int)]) rfl rfl (by kernel_rfl) (fun oi ho => ?_) (fun oi ho => ?_) HSQ.out ?_ ?_
        · obtain rfl := Option.some.inj ho
          exact ⟨by rfl, by go_simp⟩
        · obtain rfl := Option.some.inj ho
          exact ⟨by rfl, by go_simp⟩
        · simp only [Act.put, List.setIfInBounds_toArray, List.set_cons_zero, List.set_cons_succ]
          refine ready_call (i := 5) (d := some 84) (f := 21) (args := #[.int .i64 (KB : Int)]) rfl (by kernel_rfl) (fun oi ho => ?_) ?_
          · obtain rfl := Option.some.inj ho
            exact ⟨by rfl, by go_simp⟩
          refine (HIT2.out Wq HBQ.out).mono ?_
          rintro e W9 ⟨rfl, hB⟩
          obtain ⟨g2, cp2, n2, W11, hn2, hr11, s9, v9, sa, va, s11, v11, f11, s12, hr12, hF12, hg12, hB12⟩ := HAFT.out W9 hB
          have H12 := Lib.hid (And.intro hn2 (And.intro hr12 (And.intro hF12 (And.intro hg12 hB12))))
          have HR11 := Lib.hid hr11
          clear hB hn2 hr12 hF12 hg12 hB12 hr11 hcV
          refine ⟨_, rfl, s9, ?_⟩
          simp only [Act.put, List.setIfInBounds_toArray, List.set_cons_zero, List.set_cons_succ]
          refine take_at (i := 6) (d := some 85) (v := .agg #[.string ⟨#[67, 111, 110, 116, 101, 110, 116, 45, 76, 101, 110, 103, 116, 104]⟩, S D]) rfl (by kernel_rfl) (by kernel_rfl) (by kernel_rfl) (fun _ _ _ h => h) (fun oi ho => ?_) s9 ?_
          · obtain rfl := Option.some.inj ho
            exact Or.inl ⟨by rfl, fun wx hSw => by go_simp⟩
          simp only [Act.put, List.setIfInBounds_toArray, List.set_cons_zero, List.set_cons_succ]
          refine ready_value (i := 7) (d := some 86) (v := .slice (some ⟨W9.heap.size, 0, none⟩) 1 1) (w' := W9.alloc (.cells #[.string ⟨#[67, 111, 110, 116, 101, 110, 116, 45, 76, 101, 110, 103, 116, 104]⟩, S D] 47)) rfl (by kernel_rfl) (fun oi ho => ?_) sa ?_
          · obtain rfl := Option.some.inj ho
            exact ⟨by rfl, by go_simp⟩
          simp only [Act.put, List.setIfInBounds_toArray, List.set_cons_zero, List.set_cons_succ]
          refine ready_value (i := 8) (d := some 87) (v := .slice (some ⟨g2, 0, none⟩) n2 cp2) (w' := W11) rfl (by kernel_rfl) (fun oi ho => ?_) s11 ?_
          · obtain rfl := Option.some.inj ho
            exact ⟨by rfl, exec_append 25 25 (.tmp 80) (.tmp 86) (.slice (some ⟨g1, 0, none⟩) n1 cp1) (.slice (some ⟨W9.heap.size, 0, none⟩) 1 1) rfl rfl rfl HR11.out⟩
          simp only [Act.put, List.setIfInBounds_toArray, List.set_cons_zero, List.set_cons_succ]
          refine take_at (i := 9) (d := some 88) (v := .pointer (some ⟨b8, 4, none⟩)) rfl (by kernel_rfl) (by kernel_rfl) (by kernel_rfl) (fun _ _ _ h => h) (fun oi ho => ?_) s11 ?_
          · obtain rfl := Option.some.inj ho
            exact Or.inl ⟨by rfl, fun wx hSw => by go_simp⟩
          simp only [Act.put, List.setIfInBounds_toArray, List.set_cons_zero, List.set_cons_succ]
          refine ready_skip (i := 10) (d := none) (w' := W11.setCell ⟨b8, 4, none⟩ (.slice (some ⟨g2, 0, none⟩) n2 cp2)) rfl (by kernel_rfl) (fun oi ho => ?_) s12 ?_
          · obtain rfl := Option.some.inj ho
            exact ⟨by rfl, by go_simp⟩
          refine wpAnyH_done (by kernel_rfl) ?_ _
          refine NoPanic.normal ?_
          clear s9 v9 sa va s11 v11 f11 s12 HR11
          generalize W11.setCell ⟨b8, 4, none⟩ (.slice (some ⟨g2, 0, none⟩) n2 cp2) = W12 at *
          obtain ⟨F2, hF2⟩ : ∃ F, F = ([hereF] ++ fs) ++ [lenF bd.length] := ⟨_, rfl⟩
          have hF2l : F2.length ≤ 1000 := by rw [hF2]; have := H30.out.2.1; rw [HN.out] at this; simp; omega
          have h12 := H12.out
          rw [← hF2] at h12
          obtain ⟨-, hr12, hf12, hg12, hB12⟩ := h12
          have hnx : ∀ x, PSt.next ⟨X ++ x, 0⟩ = (some ⟨m, p, q, 11, F2, bd, false⟩, ⟨x, 0⟩) := fun x => by
            rw [hF2]
            exact (HNX.out x).trans (by rw [HWant.out]; rfl)
          obtain ⟨X2, hX2⟩ : ∃ Z, Z = X ++ X := ⟨_, rfl⟩
          obtain ⟨Y, hY⟩ : ∃ Z, Z = X2 ++ behind := ⟨_, rfl⟩
          have hYl : Y.length ≤ 20000 := by rw [hY, hX2, List.length_append, List.length_append]; have := H30.out.2.2; have := HBL.out; omega
          have y1 : binOp .add 9 (S X) (S X) = pure (S X2) := by rw [hX2]; exact S_add 9 X X (by have := H30.out.2.2; omega)
          have y2 : binOp .add 9 (S X2) (S behind) = pure (S Y) := by rw [hY]; exact S_add 9 X2 behind (by rw [hX2, List.length_append]; have := H30.out.2.2; have := HBL.out; omega)
          have hn1 : PSt.next ⟨Y, 0⟩ = (some ⟨m, p, q, 11, F2, bd, false⟩, ⟨X ++ behind, 0⟩) := by rw [hY, hX2, List.append_assoc]; exact hnx _
          have hn2 := hnx behind
          have hZl : (X ++ behind).length ≤ 20000 := by rw [List.length_append]; have := H30.out.2.2; have := HBL.out; omega
          have HP := Lib.hid (And.intro hYl (And.intro hn1 (And.intro hn2 (And.intro hZl hF2l))))
          have HL12 := Lib.hid (And.intro hr12 (And.intro hf12 (And.intro hg12 hB12)))
          clear hF2 hF2l hr12 hf12 hg12 hB12 hnx hX2 hY hYl hn1 hn2 hZl H12 HWant HNX H30 HBL HAFT HBQ HQ HLF HIT2 HB8 HSQ
          go_wp2_with fail
          refine (OneK.make HC.out HL12.out.2.2.2).mono ?_
          rintro e W13 ⟨g, rfl, h, hB⟩
          have H13 := Lib.hid (And.intro h (And.intro (HL12.out.1.below hB HL12.out.1.lt) (HL12.out.2.1.below hB)))
          clear h hB
          go_wp2_with fail
          refine (H13.out.1.feed HC.out Y (by have := HP.out.1; show 0 + _ ≤ _; omega)).mono ?_
          rintro e W14 ⟨rfl, h, hs⟩
          have h14 : OneK RA w g ⟨Y, 0⟩ (fun k => k < W12.heap.size) W14 := h
          have hr14 := hs.row H13.out.2.1 HL12.out.1.lt
          have hf14 := hs.flds H13.out.2.2 (fun k hk => by rw [hk.2]; exact HL12.out.2.2.1)
          have H14 := Lib.hid (And.intro h14 (And.intro hr14 hf14))
          clear h h14 hr14 hf14 hs H13
          go_wp2_with fail
          refine (H14.out.1.nextSome HC.out (by have := HP.out.1; show Y.length ≤ _; omega) HP.out.2.1).mono ?_
          rintro e W15 ⟨a1, c1, gf1, rfl, hfa, h, hs, _⟩
          have hr15 := hs.row H14.out.2.1 HL12.out.1.lt
          have hf15 := hs.flds H14.out.2.2 (fun k hk => by rw [hk.2]; exact HL12.out.2.2.1)
          unfold rqCells
          dsimp only
          have hB16 : Below W15.heap.size W15 (W15.alloc (.cells (rqCells m p q 11 (.slice a1 F2.length c1) bd false) 27)) := (Below.refl _ W15).alloc (Nat.le_refl _) _
          have hra16 := row_new W15 (rqCells m p q 11 (.slice a1 F2.length c1) bd false) 27
          have H16 := Lib.hid (And.intro (h.grow HC.out hB16) (And.intro (hr15.below hB16 hr15.lt) (And.intro (hf15.below hB16) (And.intro (hfa.below hB16) hra16))))
          clear h hs hr15 hf15 hfa hB16 hra16 H14
          go_wp2_with fail
          have h16 := H16.out.1
          refine (h16.nextSome HC.out (by have := HP.out.2.2.2.1; show (X ++ behind).length ≤ _; omega) HP.out.2.2.1).mono ?_
          rintro e W17 ⟨a2, c2, gf2, rfl, hfb, h, hs, _⟩
          have hr17 := hs.row H16.out.2.1 (.inl (.inl HL12.out.1.lt))
          have hf17 := hs.flds H16.out.2.2.1 (fun k hk => .inl (.inl (by rw [hk.2]; exact HL12.out.2.2.1)))
          have hfa17 := hs.flds H16.out.2.2.2.1 (fun k hk => .inl (.inr hk))
          have hra17 := hs.row H16.out.2.2.2.2 (.inr ⟨Nat.le_refl _, H16.out.2.2.2.2.lt⟩)
          clear h16 hs
          unfold rqCells
          dsimp only
          obtain ⟨b10, hb10⟩ : ∃ b, b = W15.heap.size := ⟨_, rfl⟩
          rw [← hb10] at hra17 ⊢
          obtain ⟨b12, hb12⟩ : ∃ b, b = W17.heap.size := ⟨_, rfl⟩
          obtain ⟨W18, hW18⟩ : ∃ W, W = W17.alloc (.cells #[S m, S p, S q, .int .i64 11, .slice a2 F2.length c2, S bd, .bool false] 27) := ⟨_, rfl⟩
          have hB18 : Below W17.heap.size W17 W18 := by rw [hW18]; exact (Below.refl _ W17).alloc (Nat.le_refl _) _
          have hrb18 : Row W18 b12 #[S m, S p, S q, .int .i64 11, .slice a2 F2.length c2, S bd, .bool false] 27 := by rw [hW18, hb12]; exact row_new _ _ _
          have hr18 : Row W18 b8 #[S m, S p, S q, .int .i64 11, .slice (some ⟨g2, 0, none⟩) n2 cp2, S bd, .bool false] 27 := hr17.below hB18 hr17.lt
          have hra18 : Row W18 b10 #[S m, S p, S q, .int .i64 11, .slice a1 F2.length c1, S bd, .bool false] 27 := hra17.below hB18 hra17.lt
          have h18 := h.below HC.out hB18
          have hsm1 := dsame_true m p q bd 11 false F2 (.slice a1 F2.length c1) (.slice (some ⟨g2, 0, none⟩) n2 cp2) gf1 g2 (by have := HP.out.2.2.2.2; omega) W18 (hfa17.below hB18) (hf17.below hB18)
          have H18 := Lib.hid (And.intro h18 (And.intro hr18 (And.intro hrb18 (And.intro (hf17.below hB18) (hfb.below hB18)))))
          have HS1 := Lib.hid hsm1
          have k0 : W18.cell? ⟨b8, 0, none⟩ = some (S m) := cell_of_row W18 _ 0 _ _ (0, 0) hr18
          have k1 : W18.cell? ⟨b8, 1, none⟩ = some (S p) := cell_of_row W18 _ 1 _ _ (0, 0) hr18
          have k2 : W18.cell? ⟨b8, 2, none⟩ = some (S q) := cell_of_row W18 _ 2 _ _ (0, 0) hr18
          have k3 : W18.cell? ⟨b8, 3, none⟩ = some (.int .i64 11) := cell_of_row W18 _ 3 _ _ (0, 0) hr18
          have k4 : W18.cell? ⟨b8, 4, none⟩ = some (.slice (some ⟨g2, 0, none⟩) n2 cp2) := cell_of_row W18 _ 4 _ _ (0, 0) hr18
          have k5 : W18.cell? ⟨b8, 5, none⟩ = some (S bd) := cell_of_row W18 _ 5 _ _ (0, 0) hr18
          have k6 : W18.cell? ⟨b8, 6, none⟩ = some (.bool false) := cell_of_row W18 _ 6 _ _ (0, 0) hr18
          have l0 : W18.cell? ⟨b10, 0, none⟩ = some (S m) := cell_of_row W18 _ 0 _ _ (0, 0) hra18
          have l1 : W18.cell? ⟨b10, 1, none⟩ = some (S p) := cell_of_row W18 _ 1 _ _ (0, 0) hra18
          have l2 : W18.cell? ⟨b10, 2, none⟩ = some (S q) := cell_of_row W18 _ 2 _ _ (0, 0) hra18
          have l3 : W18.cell? ⟨b10, 3, none⟩ = some (.int .i64 11) := cell_of_row W18 _ 3 _ _ (0, 0) hra18
          have l4 : W18.cell? ⟨b10, 4, none⟩ = some (.slice a1 F2.length c1) := cell_of_row W18 _ 4 _ _ (0, 0) hra18
          have l5 : W18.cell? ⟨b10, 5, none⟩ = some (S bd) := cell_of_row W18 _ 5 _ _ (0, 0) hra18
          have l6 : W18.cell? ⟨b10, 6, none⟩ = some (.bool false) := cell_of_row W18 _ 6 _ _ (0, 0) hra18
          have HW18 := Lib.hid (And.intro hW18 hb12)
          rw [hW18] at k0 k1 k2 k3 k4 k5 k6 l0 l1 l2 l3 l4 l5 l6
          clear hW18 hb12 hb10 hB18 hrb18 hr18 hra18 h18 hsm1 hr17 hf17 hfa17 hra17 hfb h H16
          go_wp2_with fail
          clear k0 k1 k2 k3 k4 k5 k6 l0 l1 l2 l3 l4 l5 l6
          rw [← HW18.out.1]
          try rw [← HW18.out.2]
          refine HS1.out.mono ?_
          rintro e W19 ⟨rfl, hB⟩
          have hr19 := H18.out.2.1.below hB H18.out.2.1.lt
          have hrb19 := H18.out.2.2.1.below hB H18.out.2.2.1.lt
          have h19 := H18.out.1.below HC.out hB
          have hsm2 := dsame_true m p q bd 11 false F2 (.slice a2 F2.length c2) (.slice (some ⟨g2, 0, none⟩) n2 cp2) gf2 g2 (by have := HP.out.2.2.2.2; omega) W19 (H18.out.2.2.2.2.below hB) (H18.out.2.2.2.1.below hB)
          have H19 := Lib.hid h19
          have HS2 := Lib.hid hsm2
          have k0 : W19.cell? ⟨b8, 0, none⟩ = some (S m) := cell_of_row W19 _ 0 _ _ (0, 0) hr19
          have k1 : W19.cell? ⟨b8, 1, none⟩ = some (S p) := cell_of_row W19 _ 1 _ _ (0, 0) hr19
          have k2 : W19.cell? ⟨b8, 2, none⟩ = some (S q) := cell_of_row W19 _ 2 _ _ (0, 0) hr19
          have k3 : W19.cell? ⟨b8, 3, none⟩ = some (.int .i64 11) := cell_of_row W19 _ 3 _ _ (0, 0) hr19
          have k4 : W19.cell? ⟨b8, 4, none⟩ = some (.slice (some ⟨g2, 0, none⟩) n2 cp2) := cell_of_row W19 _ 4 _ _ (0, 0) hr19
          have k5 : W19.cell? ⟨b8, 5, none⟩ = some (S bd) := cell_of_row W19 _ 5 _ _ (0, 0) hr19
          have k6 : W19.cell? ⟨b8, 6, none⟩ = some (.bool false) := cell_of_row W19 _ 6 _ _ (0, 0) hr19
          have l0 : W19.cell? ⟨b12, 0, none⟩ = some (S m) := cell_of_row W19 _ 0 _ _ (0, 0) hrb19
          have l1 : W19.cell? ⟨b12, 1, none⟩ = some (S p) := cell_of_row W19 _ 1 _ _ (0, 0) hrb19
          have l2 : W19.cell? ⟨b12, 2, none⟩ = some (S q) := cell_of_row W19 _ 2 _ _ (0, 0) hrb19
          have l3 : W19.cell? ⟨b12, 3, none⟩ = some (.int .i64 11) := cell_of_row W19 _ 3 _ _ (0, 0) hrb19
          have l4 : W19.cell? ⟨b12, 4, none⟩ = some (.slice a2 F2.length c2) := cell_of_row W19 _ 4 _ _ (0, 0) hrb19
          have l5 : W19.cell? ⟨b12, 5, none⟩ = some (S bd) := cell_of_row W19 _ 5 _ _ (0, 0) hrb19
          have l6 : W19.cell? ⟨b12, 6, none⟩ = some (.bool false) := cell_of_row W19 _ 6 _ _ (0, 0) hrb19
          clear hr19 hrb19 h19 hsm2 hB H18 HS1 HW18
          go_wp2_with fail
          clear k0 k1 k2 k3 k4 k5 k6 l0 l1 l2 l3 l4 l5 l6
          refine HS2.out.mono ?_
          rintro e W20 ⟨rfl, hB⟩
          have H20 := Lib.hid (H19.out.below HC.out hB)
          clear hB H19 HS2
          go_wp2_with fail
          refine (H20.out.rest HC.out).mono ?_
          rintro e W21 ⟨rfl, h, _⟩
          have H21 := Lib.hid h.bel
          clear h H20
          dsimp only
          have qn : binOp .eql 9 (S behind) (S behind) = pure (.bool (behind == behind)) := eql_S 9 behind behind
          have qg := guard_S 9
          rw [beq_self_eq_true] at qn
          go_wp2
          go_ret
          exact ⟨rfl, H21.out⟩
        · refine (HIT2.out Wq HBQ.out).mono ?_
          rintro e W9 ⟨rfl, hB⟩
          obtain ⟨g2, cp2, n2, W11, hn2, hr11, s9, v9, sa, va, s11, v11, f11, s12, hr12, hF12, hg12, hB12⟩ := HAFT.out W9 hB
          have H12 := Lib.hid (And.intro hn2 (And.intro hr12 (And.intro hF12 (And.intro hg12 hB12))))
          have HR11 := Lib.hid hr11
          clear hB hn2 hr12 hF12 hg12 hB12 hr11 hcV
          refine ⟨_, rfl, s9, ?_⟩
          simp only [Act.put, List.setIfInBounds_toArray, List.set_cons_zero, List.set_cons_succ]
          refine take_at (i := 6) (d := some 85) (v := .agg #[.string ⟨#[67, 111, 110, 116, 101, 110, 116, 45, 76, 101, 110, 103, 116, 104]⟩, S D]) rfl (by kernel_rfl) (by kernel_rfl) (by kernel_rfl) (fun _ _ _ h => h) (fun oi ho => ?_) s9 ?_
          · obtain rfl := Option.some.inj ho
            exact Or.inl ⟨by rfl, fun wx hSw => by go_simp⟩
          simp only [Act.put, List.setIfInBounds_toArray, List.set_cons_zero, List.set_cons_succ]
          refine ready_load_make (i := 1) (j := 7) (di := some 80) (dj := some 86) (vi := .slice (some ⟨g1, 0, none⟩) n1 cp1) (vj := .slice (some ⟨W9.heap.size, 0, none⟩) 1 1) (w1 := W9.alloc (.cells #[.string ⟨#[67, 111, 110, 116, 101, 110, 116, 45, 76, 101, 110, 103, 116, 104]⟩, S D] 47)) rfl rfl (by kernel_rfl) (by kernel_rfl) (by kernel_rfl) (by decide) (fun d h e => by cases h; cases e) (fun oi ho => ?_) (fun oi ho a' ha => ?_) s9 sa ?_
          · obtain rfl := Option.some.inj ho
            exact ⟨⟨by rfl, by go_simp⟩, ⟨by rfl, by simp only [Act.put, List.setIfInBounds_toArray, List.set_cons_zero, List.set_cons_succ]; go_simp⟩⟩
          · obtain rfl := Option.some.inj ho
            rcases ha with rfl | rfl
            · exact ⟨by rfl, by go_simp⟩
            · exact ⟨by rfl, by simp only [Act.put, List.setIfInBounds_toArray, List.set_cons_zero, List.set_cons_succ]; go_simp⟩
          simp only [Act.put, List.setIfInBounds_toArray, List.set_cons_zero, List.set_cons_succ]
          refine ready_value (i := 8) (d := some 87) (v := .slice (some ⟨g2, 0, none⟩) n2 cp2) (w' := W11) rfl (by kernel_rfl) (fun oi ho => ?_) s11 ?_
          · obtain rfl := Option.some.inj ho
            exact ⟨by rfl, exec_append 25 25 (.tmp 80) (.tmp 86) (.slice (some ⟨g1, 0, none⟩) n1 cp1) (.slice (some ⟨W9.heap.size, 0, none⟩) 1 1) rfl rfl rfl HR11.out⟩
          simp only [Act.put, List.setIfInBounds_toArray, List.set_cons_zero, List.set_cons_succ]
          refine take_at (i := 9) (d := some 88) (v := .pointer (some ⟨b8, 4, none⟩)) rfl (by kernel_rfl) (by kernel_rfl) (by kernel_rfl) (fun _ _ _ h => h) (fun oi ho => ?_) s11 ?_
          · obtain rfl := Option.some.inj ho
            exact Or.inl ⟨by rfl, fun wx hSw => by go_simp⟩
          simp only [Act.put, List.setIfInBounds_toArray, List.set_cons_zero, List.set_cons_succ]
          refine ready_skip (i := 10) (d := none) (w' := W11.setCell ⟨b8, 4, none⟩ (.slice (some ⟨g2, 0, none⟩) n2 cp2)) rfl (by kernel_rfl) (fun oi ho => ?_) s12 ?_
          · obtain rfl := Option.some.inj ho
            exact ⟨by rfl, by go_simp⟩
          refine wpAnyH_done (by kernel_rfl) ?_ _
          refine NoPanic.normal ?_
          clear s9 v9 sa va s11 v11 f11 s12 HR11
          generalize W11.setCell ⟨b8, 4, none⟩ (.slice (some ⟨g2, 0, none⟩) n2 cp2) = W12 at *
          obtain ⟨F2, hF2⟩ : ∃ F, F = ([hereF] ++ fs) ++ [lenF bd.length] := ⟨_, rfl⟩
          have hF2l : F2.length ≤ 1000 := by rw [hF2]; have := H30.out.2.1; rw [HN.out] at this; simp; omega
          have h12 := H12.out
          rw [← hF2] at h12
          obtain ⟨-, hr12, hf12, hg12, hB12⟩ := h12
          have hnx : ∀ x, PSt.next ⟨X ++ x, 0⟩ = (some ⟨m, p, q, 11, F2, bd, false⟩, ⟨x, 0⟩) := fun x => by
            rw [hF2]
            exact (HNX.out x).trans (by rw [HWant.out]; rfl)
          obtain ⟨X2, hX2⟩ : ∃ Z, Z = X ++ X := ⟨_, rfl⟩
          obtain ⟨Y, hY⟩ : ∃ Z, Z = X2 ++ behind := ⟨_, rfl⟩
          have hYl : Y.length ≤ 20000 := by rw [hY, hX2, List.length_append, List.length_append]; have := H30.out.2.2; have := HBL.out; omega
          have y1 : binOp .add 9 (S X) (S X) = pure (S X2) := by rw [hX2]; exact S_add 9 X X (by have := H30.out.2.2; omega)
          have y2 : binOp .add 9 (S X2) (S behind) = pure (S Y) := by rw [hY]; exact S_add 9 X2 behind (by rw [hX2, List.length_append]; have := H30.out.2.2; have := HBL.out; omega)
          have hn1 : PSt.next ⟨Y, 0⟩ = (some ⟨m, p, q, 11, F2, bd, false⟩, ⟨X ++ behind, 0⟩) := by rw [hY, hX2, List.append_assoc]; exact hnx _
          have hn2 := hnx behind
          have hZl : (X ++ behind).length ≤ 20000 := by rw [List.length_append]; have := H30.out.2.2; have := HBL.out; omega
          have HP := Lib.hid (And.intro hYl (And.intro hn1 (And.intro hn2 (And.intro hZl hF2l))))
          have HL12 := Lib.hid (And.intro hr12 (And.intro hf12 (And.intro hg12 hB12)))
          clear hF2 hF2l hr12 hf12 hg12 hB12 hnx hX2 hY hYl hn1 hn2 hZl H12 HWant HNX H30 HBL HAFT HBQ HQ HLF HIT2 HB8 HSQ
          go_wp2_with fail
          refine (OneK.make HC.out HL12.out.2.2.2).mono ?_
          rintro e W13 ⟨g, rfl, h, hB⟩
          have H13 := Lib.hid (And.intro h (And.intro (HL12.out.1.below hB HL12.out.1.lt) (HL12.out.2.1.below hB)))
          clear h hB
          go_wp2_with fail
          refine (H13.out.1.feed HC.out Y (by have := HP.out.1; show 0 + _ ≤ _; omega)).mono ?_
          rintro e W14 ⟨rfl, h, hs⟩
          have h14 : OneK RA w g ⟨Y, 0⟩ (fun k => k < W12.heap.size) W14 := h
          have hr14 := hs.row H13.out.2.1 HL12.out.1.lt
          have hf14 := hs.flds H13.out.2.2 (fun k hk => by rw [hk.2]; exact HL12.out.2.2.1)
          have H14 := Lib.hid (And.intro h14 (And.intro hr14 hf14))
          clear h h14 hr14 hf14 hs H13
          go_wp2_with fail
          refine (H14.out.1.nextSome HC.out (by have := HP.out.1; show Y.length ≤ _; omega) HP.out.2.1).mono ?_
          rintro e W15 ⟨a1, c1, gf1, rfl, hfa, h, hs, _⟩
          have hr15 := hs.row H14.out.2.1 HL12.out.1.lt
          have hf15 := hs.flds H14.out.2.2 (fun k hk => by rw [hk.2]; exact HL12.out.2.2.1)
          unfold rqCells
          dsimp only
          have hB16 : Below W15.heap.size W15 (W15.alloc (.cells (rqCells m p q 11 (.slice a1 F2.length c1) bd false) 27)) := (Below.refl _ W15).alloc (Nat.le_refl _) _
          have hra16 := row_new W15 (rqCells m p q 11 (.slice a1 F2.length c1) bd false) 27
          have H16 := Lib.hid (And.intro (h.grow HC.out hB16) (And.intro (hr15.below hB16 hr15.lt) (And.intro (hf15.below hB16) (And.intro (hfa.below hB16) hra16))))
          clear h hs hr15 hf15 hfa hB16 hra16 H14
          go_wp2_with fail
          have h16 := H16.out.1
          refine (h16.nextSome HC.out (by have := HP.out.2.2.2.1; show (X ++ behind).length ≤ _; omega) HP.out.2.2.1).mono ?_
          rintro e W17 ⟨a2, c2, gf2, rfl, hfb, h, hs, _⟩
          have hr17 := hs.row H16.out.2.1 (.inl (.inl HL12.out.1.lt))
          have hf17 := hs.flds H16.out.2.2.1 (fun k hk => .inl (.inl (by rw [hk.2]; exact HL12.out.2.2.1)))
          have hfa17 := hs.flds H16.out.2.2.2.1 (fun k hk => .inl (.inr hk))
          have hra17 := hs.row H16.out.2.2.2.2 (.inr ⟨Nat.le_refl _, H16.out.2.2.2.2.lt⟩)
          clear h16 hs
          unfold rqCells
          dsimp only
          obtain ⟨b10, hb10⟩ : ∃ b, b = W15.heap.size := ⟨_, rfl⟩
          rw [← hb10] at hra17 ⊢
          obtain ⟨b12, hb12⟩ : ∃ b, b = W17.heap.size := ⟨_, rfl⟩
          obtain ⟨W18, hW18⟩ : ∃ W, W = W17.alloc (.cells #[S m, S p, S q, .int .i64 11, .slice a2 F2.length c2, S bd, .bool false] 27) := ⟨_, rfl⟩
          have hB18 : Below W17.heap.size W17 W18 := by rw [hW18]; exact (Below.refl _ W17).alloc (Nat.le_refl _) _
          have hrb18 : Row W18 b12 #[S m, S p, S q, .int .i64 11, .slice a2 F2.length c2, S bd, .bool false] 27 := by rw [hW18, hb12]; exact row_new _ _ _
          have hr18 : Row W18 b8 #[S m, S p, S q, .int .i64 11, .slice (some ⟨g2, 0, none⟩) n2 cp2, S bd, .bool false] 27 := hr17.below hB18 hr17.lt
          have hra18 : Row W18 b10 #[S m, S p, S q, .int .i64 11, .slice a1 F2.length c1, S bd, .bool false] 27 := hra17.below hB18 hra17.lt
          have h18 := h.below HC.out hB18
          have hsm1 := dsame_true m p q bd 11 false F2 (.slice a1 F2.length c1) (.slice (some ⟨g2, 0, none⟩) n2 cp2) gf1 g2 (by have := HP.out.2.2.2.2; omega) W18 (hfa17.below hB18) (hf17.below hB18)
          have H18 := Lib.hid (And.intro h18 (And.intro hr18 (And.intro hrb18 (And.intro (hf17.below hB18) (hfb.below hB18)))))
          have HS1 := Lib.hid hsm1
          have k0 : W18.cell? ⟨b8, 0, none⟩ = some (S m) := cell_of_row W18 _ 0 _ _ (0, 0) hr18
          have k1 : W18.cell? ⟨b8, 1, none⟩ = some (S p) := cell_of_row W18 _ 1 _ _ (0, 0) hr18
          have k2 : W18.cell? ⟨b8, 2, none⟩ = some (S q) := cell_of_row W18 _ 2 _ _ (0, 0) hr18
          have k3 : W18.cell? ⟨b8, 3, none⟩ = some (.int .i64 11) := cell_of_row W18 _ 3 _ _ (0, 0) hr18
          have k4 : W18.cell? ⟨b8, 4, none⟩ = some (.slice (some ⟨g2, 0, none⟩) n2 cp2) := cell_of_row W18 _ 4 _ _ (0, 0) hr18
          have k5 : W18.cell? ⟨b8, 5, none⟩ = some (S bd) := cell_of_row W18 _ 5 _ _ (0, 0) hr18
          have k6 : W18.cell? ⟨b8, 6, none⟩ = some (.bool false) := cell_of_row W18 _ 6 _ _ (0, 0) hr18
          have l0 : W18.cell? ⟨b10, 0, none⟩ = some (S m) := cell_of_row W18 _ 0 _ _ (0, 0) hra18
          have l1 : W18.cell? ⟨b10, 1, none⟩ = some (S p) := cell_of_row W18 _ 1 _ _ (0, 0) hra18
          have l2 : W18.cell? ⟨b10, 2, none⟩ = some (S q) := cell_of_row W18 _ 2 _ _ (0, 0) hra18
          have l3 : W18.cell? ⟨b10, 3, none⟩ = some (.int .i64 11) := cell_of_row W18 _ 3 _ _ (0, 0) hra18
          have l4 : W18.cell? ⟨b10, 4, none⟩ = some (.slice a1 F2.length c1) := cell_of_row W18 _ 4 _ _ (0, 0) hra18
          have l5 : W18.cell? ⟨b10, 5, none⟩ = some (S bd) := cell_of_row W18 _ 5 _ _ (0, 0) hra18
          have l6 : W18.cell? ⟨b10, 6, none⟩ = some (.bool false) := cell_of_row W18 _ 6 _ _ (0, 0) hra18
          have HW18 := Lib.hid (And.intro hW18 hb12)
          rw [hW18] at k0 k1 k2 k3 k4 k5 k6 l0 l1 l2 l3 l4 l5 l6
          clear hW18 hb12 hb10 hB18 hrb18 hr18 hra18 h18 hsm1 hr17 hf17 hfa17 hra17 hfb h H16
          go_wp2_with fail
          clear k0 k1 k2 k3 k4 k5 k6 l0 l1 l2 l3 l4 l5 l6
          rw [← HW18.out.1]
          try rw [← HW18.out.2]
          refine HS1.out.mono ?_
          rintro e W19 ⟨rfl, hB⟩
          have hr19 := H18.out.2.1.below hB H18.out.2.1.lt
          have hrb19 := H18.out.2.2.1.below hB H18.out.2.2.1.lt
          have h19 := H18.out.1.below HC.out hB
          have hsm2 := dsame_true m p q bd 11 false F2 (.slice a2 F2.length c2) (.slice (some ⟨g2, 0, none⟩) n2 cp2) gf2 g2 (by have := HP.out.2.2.2.2; omega) W19 (H18.out.2.2.2.2.below hB) (H18.out.2.2.2.1.below hB)
          have H19 := Lib.hid h19
          have HS2 := Lib.hid hsm2
          have k0 : W19.cell? ⟨b8, 0, none⟩ = some (S m) := cell_of_row W19 _ 0 _ _ (0, 0) hr19
          have k1 : W19.cell? ⟨b8, 1, none⟩ = some (S p) := cell_of_row W19 _ 1 _ _ (0, 0) hr19
          have k2 : W19.cell? ⟨b8, 2, none⟩ = some (S q) := cell_of_row W19 _ 2 _ _ (0, 0) hr19
          have k3 : W19.cell? ⟨b8, 3, none⟩ = some (.int .i64 11) := cell_of_row W19 _ 3 _ _ (0, 0) hr19
          have k4 : W19.cell? ⟨b8, 4, none⟩ = some (.slice (some ⟨g2, 0, none⟩) n2 cp2) := cell_of_row W19 _ 4 _ _ (0, 0) hr19
          have k5 : W19.cell? ⟨b8, 5, none⟩ = some (S bd) := cell_of_row W19 _ 5 _ _ (0, 0) hr19
          have k6 : W19.cell? ⟨b8, 6, none⟩ = some (.bool false) := cell_of_row W19 _ 6 _ _ (0, 0) hr19
          have l0 : W19.cell? ⟨b12, 0, none⟩ = some (S m) := cell_of_row W19 _ 0 _ _ (0, 0) hrb19
          have l1 : W19.cell? ⟨b12, 1, none⟩ = some (S p) := cell_of_row W19 _ 1 _ _ (0, 0) hrb19
          have l2 : W19.cell? ⟨b12, 2, none⟩ = some (S q) := cell_of_row W19 _ 2 _ _ (0, 0) hrb19
          have l3 : W19.cell? ⟨b12, 3, none⟩ = some (.int .i64 11) := cell_of_row W19 _ 3 _ _ (0, 0) hrb19
          have l4 : W19.cell? ⟨b12, 4, none⟩ = some (.slice a2 F2.length c2) := cell_of_row W19 _ 4 _ _ (0, 0) hrb19
          have l5 : W19.cell? ⟨b12, 5, none⟩ = some (S bd) := cell_of_row W19 _ 5 _ _ (0, 0) hrb19
          have l6 : W19.cell? ⟨b12, 6, none⟩ = some (.bool false) := cell_of_row W19 _ 6 _ _ (0, 0) hrb19
          clear hr19 hrb19 h19 hsm2 hB H18 HS1 HW18
          go_wp2_with fail
          clear k0 k1 k2 k3 k4 k5 k6 l0 l1 l2 l3 l4 l5 l6
          refine HS2.out.mono ?_
          rintro e W20 ⟨rfl, hB⟩
          have H20 := Lib.hid (H19.out.below HC.out hB)
          clear hB H19 HS2
          go_wp2_with fail
          refine (H20.out.rest HC.out).mono ?_
          rintro e W21 ⟨rfl, h, _⟩
          have H21 := Lib.hid h.bel
          clear h H20
          dsimp only
          have qn : binOp .eql 9 (S behind) (S behind) = pure (.bool (behind == behind)) := eql_S 9 behind behind
          have qg := guard_S 9
          rw [beq_self_eq_true] at qn
          go_wp2
          go_ret
          exact ⟨rfl, H21.out⟩
end Go.Proofs.YtplajlccnnbifaaGreatDoor
