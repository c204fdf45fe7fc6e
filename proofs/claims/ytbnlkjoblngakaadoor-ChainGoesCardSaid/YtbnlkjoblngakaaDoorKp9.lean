/- The landed package of chains: a row of steps, told from behind. -/
import Derived.Test.YtbnlkjoblngakaaDoorKp8
import Derived.Test.YtbnlkjoblngakaaDoorKp7
namespace Go.Proofs.YtbnlkjoblngakaaDoor
open Go.RowKit Go.Shelf
attribute [local go_sem] store_one Oper.semAt_some S_match S_store

/-- As wpIn_rangeFunc_L2, where the assignment of what comes makes memory. -/
theorem wpIn_rangeFunc_L4 {α : Type} {P : Program} {n : Nat} {g : Operand} {ps : Array Tmp} {assign body : Code} {Q : Exit → Act → World → Prop} {a : Act} {w : World}
    {gf : Nat} {lb : Array Value} (hg : a.eval g = .func (.func gf) #[] lb) (eg : ∀ args w, (callFunc gf args).run P w = .ok (.enter gf args) w)
    {encs : α → Array Value} {k : Nat} {Kb : Nat → Prop} {L : List α} {Ok : World → Prop} (hseq : ∀ m, SeqL P m gf lb encs k Kb L Ok) (hKb : ∀ r, Kb r → r < w.heap.size)
    (hOk : ∀ W, Below w.heap.size w W → Ok W) (hps : ∀ x, (encs x).size = ps.size)
    (I : List α → World → Prop) (Ix : Code → List α → World → Prop) (hI : AbidesIn w.heap.size (k + 2) I) (hIx : ∀ c, AbidesIn w.heap.size (k + 2) (Ix c)) (h0 : I [] w) 
    (hround : ∀ (l : Nat) (pre : List α) (x : α) (W : World) (K : Act → World → Prop), pre ++ [x] <+: L → I pre W → w.heap.size + (k + 2) ≤ W.heap.size →
      (∀ a' Wa, Kept (fun r => Kb r ∨ (w.heap.size ≤ r ∧ r < w.heap.size + (k + 2))) W Wa → (∀ W2, Wa.grownBy W2 (some (w.heap.size + 1)) → body.wpIn (Fence.wide.inRound l) (n - 1 - 1) P (postL (fun r => Kb r ∨ (w.heap.size ≤ r ∧ r < w.heap.size + (k + 2))) I Ix (pre ++ [x]) W2) a' W2) → K a' Wa) →
      assign.wpIn (Fence.wide.inRound l) (n - 1 - 1) P (Exit.then K (fun _ _ _ => False)) { tmps := (ps.zip (encs x)).foldl (fun t (p, v) => t.setIfInBounds p v) a.tmps, defers := [] } W)
    (hdone : ∀ (W : World), I L W → W.heap[w.heap.size]? = some (.deferred (some [])) → Q .normal { a with defers := { target := .collected w.heap.size, args := #[] } :: a.defers } W)
    (hstop : ∀ (c : Code) (pre : List α) (W : World), pre <+: L → Ix c pre W → W.heap[w.heap.size]? = some (.deferred (some [])) → c.wpIn Fence.wide n P Q { a with defers := { target := .collected w.heap.size, args := #[] } :: a.defers } W) :
    (Code.rangeFunc g ps assign body).wpIn Fence.wide n P Q a w := by
  refine wpIn_rangeFunc ?_
  intro fn hfn
  rw [show Fence.wide.round = none from rfl]
  obtain ⟨rec, hrec⟩ : ∃ rec : LoopState → Option Code → Loop, rec = fun st pe => { state := st, pending := pe, fn, tmps := a.tmps, params := ps, assign, body, defers := w.heap.size } := ⟨_, rfl⟩
  obtain ⟨W1, hW1⟩ : ∃ W1, (w.alloc (.deferred (some []))).alloc (.loop (rec .ready none)) = W1 := ⟨_, rfl⟩
  have hs1 : W1.heap.size = w.heap.size + 2 := by rw [← hW1]; simp
  have hL1 : W1.heap[w.heap.size + 1]? = some (.loop (rec .ready none)) := by
    rw [← hW1]; have := World.alloc_heap_new (w.alloc (.deferred (some []))) (.loop (rec .ready none)); rwa [World.size_alloc] at this
  have hK1 : W1.heap[w.heap.size]? = some (.deferred (some [])) := by
    rw [← hW1]; exact (Below.heap_alloc _ _ _ (by simp)).trans (World.alloc_heap_new w _)
  have hI1 : I [] W1 := by rw [← hW1]; exact hI.alloc _ (hI.alloc _ h0)
  have hb1 : Below w.heap.size w W1 := by
    rw [← hW1]; exact ((Below.refl _ w).alloc (Nat.le_refl _) _).alloc (by simp) _
  refine ⟨w.heap.size + 1, [{ target := .collected w.heap.size, args := #[] }], W1, { target := .fn (.func gf) lb, args := #[.func (.yield (w.heap.size + 1)) #[] #[]] }, W1, gf,
    #[.func (.yield (w.heap.size + 1)) #[] #[]] ++ lb, W1, ?_, ?_, fun _ _ => trivial, ?_, fun h => by simp [Fence.wide] at h, ?_⟩
  · rw [← hW1, hrec]; exact run_enterLoop_outer _ _ _ _ _
  · simp only [resolve, hg]
    simp [go_sem]
  · simp [invoke, go_sem, eg]
  · refine (hseq (n - 1) (w.heap.size + 1)
      (fun pre W => I pre W ∧ W.heap[w.heap.size + 1]? = some (.loop (rec .ready none)) ∧ W.heap[w.heap.size]? = some (.deferred (some [])))
      (fun pre W => ∃ c, Ix c pre W ∧ W.heap[w.heap.size + 1]? = some (.loop (rec .done (some c))) ∧ W.heap[w.heap.size]? = some (.deferred (some [])))
      W1 (hOk _ hb1)
      ((hI.mono (by omega) (by omega)).and ((abidesIn_block (fun _ => _) (.inl (by omega))).and (abidesIn_block (fun _ => _) (.inl (by omega)))))
      (fun s A B row hs hg' hr => by
        obtain ⟨c, hc, hl, hk⟩ := hs
        exact ⟨c, (hIx c).mono (by omega) (by omega) s A B row hc hg' hr, abidesIn_block (β := Unit) (k := k) (fun _ => _) (.inl (by omega)) () A B row hl hg' hr, abidesIn_block (β := Unit) (k := k) (fun _ => _) (.inl (by omega)) () A B row hk hg' hr⟩)
      ?_ ⟨hI1, hL1, hK1⟩).mono ?_
    · rintro pre x W hpx ⟨hi, hl, hk⟩ hks
      have hlt : w.heap.size + 1 < W.heap.size := (Array.getElem?_eq_some_iff.1 hl).1
      have hy := run_yield (P := P) (args := encs x) hl (by rw [hrec]; exact hps x)
      rw [hrec] at hy
      refine ⟨fn, _, assign, body, hy, roundIn_of_wpIn hfn (hround _ pre x W _ hpx hi (by omega) (fun a' Wa hka hbd => ⟨_, run_beginRound ((hka.same (w.heap.size + 1) (.inr (by omega))).trans hl) (by rw [hrec]), ?_⟩))⟩
      have hla := (hka.same (w.heap.size + 1) (.inr (by omega))).trans hl
      have hka2 := (hka.same w.heap.size (.inr (by omega))).trans hk
      have hlta : w.heap.size + 1 < Wa.heap.size := (Array.getElem?_eq_some_iff.1 hla).1
      have hl2 : (Wa.putObj (w.heap.size + 1) (.loop { rec .ready none with state := .busy })).heap[w.heap.size + 1]? = some (.loop { rec .ready none with state := .busy }) := World.putObj_heap_same hlta
      have hk2 : (Wa.putObj (w.heap.size + 1) (.loop { rec .ready none with state := .busy })).heap[w.heap.size]? = some (.deferred (some [])) := (World.putObj_heap_other (by omega)).trans hka2
      refine wpIn_mono (hbd _ (grownBy_putObj' Wa (w.heap.size + 1) _)) ?_
      have fin : ∀ (jump : Option Code) (W3 : World), Kept (fun r => Kb r ∨ (w.heap.size ≤ r ∧ r < w.heap.size + (k + 2))) (Wa.putObj (w.heap.size + 1) (.loop { rec .ready none with state := .busy })) W3 →
          (Instr.endRound (w.heap.size + 1) jump).run P W3 = .ok (.bool jump.isNone) (W3.putObj (w.heap.size + 1) (.loop (rec (if jump.isNone then .ready else .done) jump))) ∧
          (W3.putObj (w.heap.size + 1) (.loop (rec (if jump.isNone then .ready else .done) jump))).heap[w.heap.size + 1]? = some (.loop (rec (if jump.isNone then .ready else .done) jump)) ∧
          (W3.putObj (w.heap.size + 1) (.loop (rec (if jump.isNone then .ready else .done) jump))).heap[w.heap.size]? = some (.deferred (some [])) := fun jump W3 hk3 => by
        have hl3 := (hk3.same (w.heap.size + 1) (.inr (by omega))).trans hl2
        have hk4 := (hk3.same w.heap.size (.inr (by omega))).trans hk2
        have := run_endRound (P := P) jump hl3
        rw [hrec] at this ⊢
        exact ⟨this, World.putObj_heap_same (Array.getElem?_eq_some_iff.1 hl3).1, (World.putObj_heap_other (by omega)).trans hk4⟩
      have kp : ∀ (o3 : Obj) (W3 : World), Kept (fun r => Kb r ∨ (w.heap.size ≤ r ∧ r < w.heap.size + (k + 2))) (Wa.putObj (w.heap.size + 1) (.loop { rec .ready none with state := .busy })) W3 →
          Kept (fun r => Kb r ∨ (W1.heap.size ≤ r ∧ r < W1.heap.size + k)) W (W3.putObj (w.heap.size + 1) o3) := fun o3 W3 hk3 =>
        ⟨by have := hk3.size; have := hka.size; simp at *; omega, fun r hr => by
          have hne : r ≠ w.heap.size + 1 := by
            rcases hr with hr | hr
            · have := hKb r hr; omega
            · omega
          rw [World.putObj_heap_other hne, hk3.same r (by rcases hr with hr | hr; exact .inl hr; exact .inr (by omega)), World.putObj_heap_other hne, hka.same r (by rcases hr with hr | hr; exact .inl hr; exact .inr (by omega))]⟩
      rintro e a3 W3 hp
      cases e with
      | normal =>
        obtain ⟨hk3, hi3⟩ := hp
        obtain ⟨hr, hl4, hk4⟩ := fin none W3 hk3
        exact ⟨_, _, hr, .inl ⟨rfl, ⟨hI.put _ hi3 (by omega) (by omega), hl4, hk4⟩, kp _ _ hk3⟩⟩
      | ret =>
        obtain ⟨hk3, hi3⟩ := hp
        obtain ⟨hr, hl4, hk4⟩ := fin (some .ret) W3 hk3
        exact ⟨_, _, hr, .inr ⟨rfl, ⟨.ret, (hIx _).put _ hi3 (by omega) (by omega), hl4, hk4⟩, kp _ _ hk3⟩⟩
      | exit id =>
        obtain ⟨hk3, hi3⟩ := hp
        obtain ⟨hr, hl4, hk4⟩ := fin (some (.exit id)) W3 hk3
        exact ⟨_, _, hr, .inr ⟨rfl, ⟨.exit id, (hIx _).put _ hi3 (by omega) (by omega), hl4, hk4⟩, kp _ _ hk3⟩⟩
      | goto t =>
        obtain ⟨hk3, hi3⟩ := hp
        obtain ⟨hr, hl4, hk4⟩ := fin (some (.goto t)) W3 hk3
        exact ⟨_, _, hr, .inr ⟨rfl, ⟨.goto t, (hIx _).put _ hi3 (by omega) (by omega), hl4, hk4⟩, kp _ _ hk3⟩⟩
      | panic ch => exact hp.elim
      | outgrown => exact hp.elim
    · rintro e W2 ⟨⟨v, rfl⟩, (⟨hi, hl, hk⟩ | ⟨pre, hpl, c, hi, hl, hk⟩)⟩
      · exact ⟨none, _, by have := run_endLoop (P := P) hl (by rw [hrec]; simp); rw [hrec] at this; exact this, hdone _ (hI.put _ hi (by omega) (by omega)) ((World.putObj_heap_other (by omega)).trans hk)⟩
      · exact ⟨some c, _, by have := run_endLoop (P := P) hl (by rw [hrec]; simp); rw [hrec] at this; exact this, hstop c pre _ hpl ((hIx c).put _ hi (by omega) (by omega)) ((World.putObj_heap_other (by omega)).trans hk)⟩
def noS : Stp := ⟨0, [], [], 0⟩
def bkL (l : List Stp) : List (Nat × Stp) := (List.range l.length).reverse.map fun i => (i, l.getD i noS)
def encB (x : Nat × Stp) : Array Value := #[.int .i64 (x.1 : Int), stV x.2]
theorem bk_len (l : List Stp) : (bkL l).length = l.length := by simp [bkL]
theorem bk_get {l : List Stp} {j : Nat} (hj : j < l.length) : (bkL l)[j]? = some (l.length - 1 - j, l.getD (l.length - 1 - j) noS) := by
  unfold bkL
  rw [List.getElem?_map, List.getElem?_reverse (by simpa using hj), List.length_range, List.getElem?_range (by omega)]
  rfl
theorem getD_of {l : List Stp} {i : Nat} (hi : i < l.length) : l[i]? = some (l.getD i noS) := by
  rw [List.getD_eq_getElem?_getD, List.getElem?_eq_getElem hi]; rfl
theorem drop_getD {l : List Stp} {i : Nat} (hi : i < l.length) : l.drop i = l.getD i noS :: l.drop (i + 1) := by
  rw [List.drop_eq_getElem_cons hi, List.getD_eq_getElem?_getD, List.getElem?_eq_getElem hi]; rfl
set_option maxRecDepth 100000 in
set_option maxHeartbeats 400000 in
theorem backw_any (a : Option Addr) (n c : Nat) (w : World) : Calls Tryd.prog 31 #[.slice a n c] w fun e w' => e = .returned (.func (.func 45) #[] #[.pointer (some ⟨w.heap.size, 0, none⟩)]) ∧ w' = w.alloc (.cells #[.slice a n c] 22) := by
  go_enter Tryd.func31, Tryd.ntmps31
  go_wp2
  go_ret
  exact ⟨rfl, rfl⟩
set_option maxRecDepth 100000 in
set_option maxHeartbeats 1000000 in
theorem back_seq (V : Value) (l : List Stp) (bs os : Nat) (hl : l.length ≤ 1000) (Bs : Nat) (n : Nat) :
    SeqL Tryd.prog n 45 #[.pointer (some ⟨Bs, 0, none⟩)] encB 0 (fun r => r = Bs ∨ (l ≠ [] ∧ r = bs)) (bkL l) (fun W => Row W Bs #[V] 22 ∧ StA W V l bs os) := fun ll J Jx W hOk hJ hJx hY h0 => by
  obtain ⟨a, c, hv, -, -⟩ := hOk.2.form
  subst hv
  obtain ⟨b, hb⟩ : ∃ b, b = W.heap.size := ⟨_, rfl⟩
  have cs : W.cell? ⟨Bs, 0, none⟩ = some (.slice a l.length c) := cell_of_row W Bs 0 _ _ (0, 0) hOk.1
  have hlS := hOk.2.len 3
  rw [← hb] at hJ hJx hY
  obtain ⟨N, hN⟩ : ∃ N, N = l.length := ⟨_, rfl⟩
  have HOK := Lib.hid hOk
  rw [← hN] at hlS cs hl
  rw [← hN] at HOK
  have HJ := Lib.hid (And.intro hJ hJx)
  have HY := Lib.hid hY
  have H0 := Lib.hid (And.intro h0 hb)
  have HN := Lib.hid hN
  have hw1 : IntKind.i64.wrap ((N : Int) - 1) = (N : Int) - 1 := by rw [IntKind.wrap_i64]; omega
  refine callsIn_of_wp Tryd.func45 rfl trivial ?_ rfl
  simp only [Tryd.ntmps45, List.size_toArray, List.length_cons, List.length_nil, Nat.reduceAdd, Nat.reduceSub, Array.replicate_succ, Array.replicate_zero, List.push_toArray, List.append_toArray, List.nil_append, List.cons_append]
  clear hJ hJx hY h0 hb hOk hN
  gi_wp2
  gi_loopw [3] (fun iv wr => ∃ j : Nat, j ≤ N ∧ iv = .int .i64 ((N : Int) - 1 - (j : Int)) ∧ Hid (J ((bkL l).take j) wr ∧ b ≤ wr.heap.size ∧ Row wr Bs #[.slice a N c] 22 ∧ StA wr (.slice a N c) l bs os)) (fun iv _ => (intOf iv + 1).toNat)
  case atStart => exact ⟨0, Nat.zero_le _, by simp, Lib.hid ⟨H0.out.1, by rw [H0.out.2]; exact Nat.le_refl _, HOK.out.1, HOK.out.2⟩⟩
  case round =>
    obtain ⟨j, hj, rfl, HI⟩ := hrel
    by_cases hlt : j < N
    · have g1 : decide ((0 : Int) ≤ (N : Int) - 1 - (j : Int)) = true := decide_eq_true (by omega)
      obtain ⟨i, hi⟩ : ∃ i, i = N - 1 - j := ⟨_, rfl⟩
      have hij : (N : Int) - 1 - (j : Int) = (i : Int) := by omega
      have hil : i < l.length := by have := HN.out; omega
      have hnx : (bkL l).take (j + 1) = (bkL l).take j ++ [(i, l.getD i noS)] := by
        rw [List.take_add_one, bk_get (by have := HN.out; omega), ← HN.out, ← hi]; rfl
      have hpx : (bkL l).take j ++ [(i, l.getD i noS)] <+: bkL l := by rw [← hnx]; exact List.take_prefix _ _
      obtain ⟨⟨kd, nm, vl, sn⟩, hs⟩ : ∃ s, s = l.getD i noS := ⟨_, rfl⟩
      rw [← hs] at hnx hpx
      have hget := getD_of hil
      rw [← hs] at hget
      have hix := HI.out.2.2.2.index i hil
      rw [← hij] at hix
      have y0 : wr.cell? ⟨bs, os + i * 4, none⟩ = some (.int .i64 kd) := HI.out.2.2.2.cell i _ hget 0 _ rfl
      have y1 : wr.cell? ⟨bs, os + i * 4 + 1, none⟩ = some (S nm) := HI.out.2.2.2.cell i _ hget 1 _ rfl
      have y2 : wr.cell? ⟨bs, os + i * 4 + 2, none⟩ = some (S vl) := HI.out.2.2.2.cell i _ hget 2 _ rfl
      have y3 : wr.cell? ⟨bs, os + i * 4 + 3, none⟩ = some (.int .i64 sn) := HI.out.2.2.2.cell i _ hget 3 _ rfl
      obtain ⟨oi, hoi⟩ : ∃ x, x = os + i * 4 := ⟨_, rfl⟩
      rw [← hoi] at hix y0 y1 y2 y3
      have cw : wr.cell? ⟨Bs, 0, none⟩ = some (.slice a N c) := cell_of_row wr Bs 0 _ _ (0, 0) HI.out.2.2.1
      have hw2 : IntKind.i64.wrap ((N : Int) - 1 - (j : Int) - 1) = (N : Int) - 1 - (j : Int) - 1 := by rw [IntKind.wrap_i64]; omega
      obtain ⟨fn, tmps, assign, body, hy, hR⟩ := HY.out _ (i, ⟨kd, nm, vl, sn⟩) wr hpx HI.out.1 HI.out.2.1
      have hy' : (Instr.yield ll #[.int .i64 ((N : Int) - 1 - (j : Int)), .agg #[.int .i64 kd, S nm, S vl, .int .i64 sn]]).run Tryd.prog wr = .ok (.round ll fn tmps assign body) wr := by rw [hij]; exact hy
      have HR := Lib.hid hR
      have HNX := Lib.hid (And.intro hnx hpx)
      clear hy hR hnx hpx hs hget hoi hij hil hi
      gi_wp2_with fail
      refine ⟨fun h => absurd h (by simp [Fence.wide]), HR.out.mono ?_⟩
      rintro e W4 (⟨rfl, hJ4, hk4⟩ | ⟨rfl, hJx4, hk4⟩)
      · have H4 : Hid (J ((bkL l).take (j + 1)) W4 ∧ b ≤ W4.heap.size ∧ Row W4 Bs #[.slice a N c] 22 ∧ StA W4 (.slice a N c) l bs os) := Lib.hid ⟨by rw [HNX.out.1]; exact hJ4, Nat.le_trans HI.out.2.1 hk4.size, row_heap (hk4.same Bs (.inl (.inl rfl))) HI.out.2.2.1, HI.out.2.2.2.same fun hne => hk4.same bs (.inl (.inr ⟨hne, rfl⟩))⟩
        clear hJ4 hk4
        gi_wp2
        exact ⟨⟨j + 1, by omega, by congr 1; omega, H4⟩, by simp [intOf]; omega⟩
      · have H4 := Lib.hid hJx4
        clear hJx4 hk4
        gi_wp2
        refine bodyPost_ret (results_none rfl _ _ _) rfl ?_
        exact ⟨⟨_, rfl⟩, .inr ⟨_, HNX.out.2, H4.out⟩⟩
    · obtain rfl : j = N := by omega
      have g1 : decide ((0 : Int) ≤ (j : Int) - 1 - (j : Int)) = false := decide_eq_false (by omega)
      have HE : Hid (J (bkL l) wr) := Lib.hid (by have := HI.out.1; rwa [List.take_of_length_le (by rw [bk_len, ← HN.out]; exact Nat.le_refl _)] at this)
      clear HI
      gi_wp2
      go_end0
      exact ⟨⟨_, rfl⟩, .inl HE.out⟩
end Go.Proofs.YtbnlkjoblngakaaDoor
