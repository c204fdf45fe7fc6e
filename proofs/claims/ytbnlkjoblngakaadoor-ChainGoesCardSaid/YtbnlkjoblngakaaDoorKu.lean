/- The document's Goes (stage 13) walked. (mkku.py writes it.) -/
import Derived.Test.YtbnlkjoblngakaaDoorKt
namespace Go.Proofs.YtbnlkjoblngakaaDoor
open Go.RowKit Go.Shelf
attribute [local go_sem] store_one S_match S_store eguard_BN nguard_BN

/-- The request as it is on its way, and the two results' variables. -/
structure GoesAt (w : World) (b1 : Nat) (C1 C2 C3 : Array Value) (V : Value) (fs : Fds) (b o : Nat) (Vl : Value) (l : List Stp) (bs os : Nat) (W : World) : Prop where
  rq : Row W b1 C1 25
  r5 : Row W (b1 + 1) C2 25
  r6 : Row W (b1 + 1 + 1) C3 27
  fa : FA W V fs b o
  st : StB W Vl l bs os
  bel : Below w.heap.size w W
theorem GoesAt.below {w : World} {b1 : Nat} {C1 C2 C3 : Array Value} {V : Value} {fs : Fds} {b o : Nat} {Vl : Value} {l : List Stp} {bs os : Nat} {W W' : World} (h : GoesAt w b1 C1 C2 C3 V fs b o Vl l bs os W) (hb : Below W.heap.size W W') :
    GoesAt w b1 C1 C2 C3 V fs b o Vl l bs os W' :=
  ⟨h.rq.below hb h.rq.lt, h.r5.below hb h.r5.lt, h.r6.below hb h.r6.lt, h.fa.below hb, h.st.below hb, h.bel.trans (hb.mono h.bel.size)⟩
theorem GoesAt.path {w : World} {b1 : Nat} {C2 C3 : Array Value} {a0 a1 a2 a3 a4 a5 a6 : Value} {V : Value} {fs : Fds} {b o : Nat} {Vl : Value} {l : List Stp} {bs os : Nat} {W : World} (h : GoesAt w b1 #[a0, a1, a2, a3, a4, a5, a6] C2 C3 V fs b o Vl l bs os W)
    (hb : b1 = w.heap.size) (hA : FA w V fs b o) (hS : StB w Vl l bs os) (x : Value) : GoesAt w b1 #[a0, x, a2, a3, a4, a5, a6] C2 C3 V fs b o Vl l bs os (W.setCell ⟨b1, 1, none⟩ x) := by
  have hB : Below w.heap.size w (W.setCell ⟨b1, 1, none⟩ x) := h.bel.setCell (p := ⟨b1, 1, none⟩) (by show w.heap.size ≤ b1; omega) x
  exact ⟨h.rq.set 1 x, h.r5.other (a := ⟨b1, 1, none⟩) (by show b1 + 1 ≠ b1; omega), h.r6.other (a := ⟨b1, 1, none⟩) (by show b1 + 1 + 1 ≠ b1; omega), hA.below hB, hS.below hB, hB⟩
set_option maxRecDepth 100000 in
set_option maxHeartbeats 4000000 in
theorem goes13_any (r : Rq) (V : Value) (b o : Nat) (l : List Stp) (Vl : Value) (bs os : Nat) (w : World) (hS : StB w Vl l bs os) (hA : FA w V r.fs b o) (sl : SmallS l) (sr : SmallR r) :
    Calls Tryd.prog 16 #[Vl, rqV r V] w fun e w' => e = .returned (goesR (goS r.fs r.body l r.p) r V) ∧ Below w.heap.size w w' := by
  obtain ⟨av, qv, hv⟩ := hA.form
  subst hv
  obtain ⟨GV, hGV⟩ : ∃ G, G = goesR (goS r.fs r.body l r.p) r (.slice av r.fs.length qv) := ⟨_, rfl⟩
  rw [← hGV]
  unfold rqV rqC
  obtain ⟨m, p, q, v, fs, bd, cl⟩ := r
  dsimp only at *
  obtain ⟨K, hK⟩ : ∃ K, K = fs.length := ⟨_, rfl⟩
  change FA w (.slice av (List.length fs) qv) fs b o at hA
  rw [← hK] at hA hGV ⊢
  have HGV := Lib.hid hGV
  clear hGV
  obtain ⟨b1, hb1⟩ : ∃ b, b = w.heap.size := ⟨_, rfl⟩
  obtain ⟨W3, hW3⟩ : ∃ W, W = ((w.alloc (.cells #[S m, S p, S q, .int .i64 v, .slice av K qv, S bd, .bool cl] 25)).alloc (.cells #[.string ⟨#[]⟩, .string ⟨#[]⟩, .string ⟨#[]⟩, .int .i64 0, .slice none 0 0, .string ⟨#[]⟩, .bool false] 25)).alloc (.cells #[.int .i64 0, .slice none 0 0, .string ⟨#[]⟩] 27) := ⟨_, rfl⟩
  have hB3 : Below w.heap.size w W3 := by rw [hW3]; exact (((Below.refl _ w).alloc (Nat.le_refl _) _).alloc (by rw [alloc_size]; omega) _).alloc (by rw [alloc_size, alloc_size]; omega) _
  have hr1 : Row W3 b1 #[S m, S p, S q, .int .i64 v, .slice av K qv, S bd, .bool cl] 25 := by rw [hW3, hb1]; exact ((row_new _ _ _).alloc _).alloc _
  have hr5 : Row W3 (b1 + 1) #[.string ⟨#[]⟩, .string ⟨#[]⟩, .string ⟨#[]⟩, .int .i64 0, .slice none 0 0, .string ⟨#[]⟩, .bool false] 25 := by
    have h := row_new (w.alloc (.cells #[S m, S p, S q, .int .i64 v, .slice av K qv, S bd, .bool cl] 25)) #[.string ⟨#[]⟩, .string ⟨#[]⟩, .string ⟨#[]⟩, .int .i64 0, .slice none 0 0, .string ⟨#[]⟩, .bool false] 25
    rw [alloc_size, ← hb1] at h
    rw [hW3]; exact h.alloc _
  have hr6 : Row W3 (b1 + 1 + 1) #[.int .i64 0, .slice none 0 0, .string ⟨#[]⟩] 27 := by
    have h := row_new ((w.alloc (.cells #[S m, S p, S q, .int .i64 v, .slice av K qv, S bd, .bool cl] 25)).alloc (.cells #[.string ⟨#[]⟩, .string ⟨#[]⟩, .string ⟨#[]⟩, .int .i64 0, .slice none 0 0, .string ⟨#[]⟩, .bool false] 25)) #[.int .i64 0, .slice none 0 0, .string ⟨#[]⟩] 27
    rw [alloc_size, alloc_size, ← hb1] at h
    rw [hW3]; exact h
  have HG0 : Hid (GoesAt w b1 #[S m, S p, S q, .int .i64 v, .slice av K qv, S bd, .bool cl] #[.string ⟨#[]⟩, .string ⟨#[]⟩, .string ⟨#[]⟩, .int .i64 0, .slice none 0 0, .string ⟨#[]⟩, .bool false] #[.int .i64 0, .slice none 0 0, .string ⟨#[]⟩] (.slice av K qv) fs b o Vl l bs os W3) := Lib.hid ⟨hr1, hr5, hr6, hA.below hB3, hS.below hB3, hB3⟩
  have HK := Lib.hid hK
  have HA0 := Lib.hid (And.intro hA hS)
  have HSL := Lib.hid sl
  have HSR : Hid (fs.length ≤ 40 ∧ p.length ≤ 300 ∧ bd.length ≤ 3000 ∧ ∀ f ∈ fs, f.1.length ≤ 200 ∧ f.2.length ≤ 200) := Lib.hid ⟨sr.few, sr.path, sr.body, sr.each⟩
  have hlS := hS.len 3
  obtain ⟨N, hN⟩ : ∃ N, N = l.length := ⟨_, rfl⟩
  rw [← hN] at hlS
  have HN := Lib.hid hN
  have hN12 : N ≤ 12 := by rw [hN]; exact sl.1
  have hlB := run_len_S (P := Tryd.prog) Tryd.underlying9 3 bd
  have HB1 := Lib.hid hb1
  have HG : Hid (∀ name : Tx, name.length ≤ 100 → ∀ W : World, FA W (.slice av K qv) fs b o → Calls Tryd.prog 33 #[.slice av K qv, S name] W fun e w' => e = .returned (.tuple #[S ((firstF fs name).getD []), .bool (firstF fs name).isSome]) ∧ Below W.heap.size W w') :=
    Lib.hid fun name hn W h => get13_any fs _ b o name (by omega) (by have := HSR.out.1; omega) (fun f hf => by have := (HSR.out.2.2.2 f hf).1; omega) W h
  clear hr1 hr5 hr6 hB3 hA hS sl sr hK hN
  go_enter Tryd.func16, Tryd.ntmps16
  go_wp2
  rw [← hW3, ← hb1]
  clear hW3 hb1
  go_loopw [7] (fun iv wr => ∃ i : Nat, i ≤ N ∧ iv = .int .i64 (i : Int) ∧ Hid (∃ p' : Tx, p'.length ≤ 300 ∧ AtG fs bd l p i p' ∧ GoesAt w b1 #[S m, S p', S q, .int .i64 v, .slice av K qv, S bd, .bool cl] #[.string ⟨#[]⟩, .string ⟨#[]⟩, .string ⟨#[]⟩, .int .i64 0, .slice none 0 0, .string ⟨#[]⟩, .bool false] #[.int .i64 0, .slice none 0 0, .string ⟨#[]⟩] (.slice av K qv) fs b o Vl l bs os wr)) (fun iv _ => N - (intOf iv).toNat)
  case atStart => exact ⟨0, Nat.zero_le _, rfl, Lib.hid ⟨p, HSR.out.2.1, AtG.start _ _ _ _, HG0.out⟩⟩
  case round =>
    obtain ⟨i, hi, rfl, HI⟩ := hrel
    obtain ⟨p', hp', hat, hga⟩ := HI.out
    have hbs : w.heap.size = b1 := HB1.out.symm
    have HP := Lib.hid hp'
    have HAT := Lib.hid hat
    have HGA := Lib.hid hga
    have hw1 : IntKind.i64.wrap ((i : Int) + 1) = (i : Int) + 1 := by rw [IntKind.wrap_i64]; omega
    by_cases hlt : i < N
    · have g1 : decide ((i : Int) < (N : Int)) = true := decide_eq_true (by omega)
      obtain ⟨⟨kd, nm, vl, n⟩, hs⟩ : ∃ s, l[i]? = some s := ⟨l[i]'(by have := HN.out; omega), List.getElem?_eq_getElem _⟩
      have hix := hga.st.index i (by have := HN.out; omega)
      obtain ⟨kk, hkk⟩ : ∃ k, k = os + i * 4 := ⟨_, rfl⟩
      rw [← hkk] at hix
      have s0 : wr.cell? ⟨bs, kk, none⟩ = some (.int .i64 kd) := by rw [hkk]; exact hga.st.cell i _ hs 0 _ rfl
      have s1 : wr.cell? ⟨bs, kk + 1, none⟩ = some (S nm) := by rw [hkk]; exact hga.st.cell i _ hs 1 _ rfl
      have s2 : wr.cell? ⟨bs, kk + 2, none⟩ = some (S vl) := by rw [hkk]; exact hga.st.cell i _ hs 2 _ rfl
      have s3 : wr.cell? ⟨bs, kk + 3, none⟩ = some (.int .i64 n) := by rw [hkk]; exact hga.st.cell i _ hs 3 _ rfl
      have HS := Lib.hid hs
      have HSM := Lib.hid (HSL.out.2 _ (List.mem_of_getElem? hs))
      obtain ⟨Wa, hWa⟩ : ∃ W, W = wr.alloc (.cells #[.int .i64 kd, S nm, S vl, .int .i64 n] 37) := ⟨_, rfl⟩
      obtain ⟨ba, hba⟩ : ∃ b, b = wr.heap.size := ⟨_, rfl⟩
      have hra : Row Wa ba #[.int .i64 kd, S nm, S vl, .int .i64 n] 37 := by rw [hWa, hba]; exact row_new _ _ _
      have hga' := hga.below (show Below wr.heap.size wr Wa by rw [hWa]; exact (Below.refl _ _).alloc (Nat.le_refl _) _)
      have HA := Lib.hid (And.intro hga' hra)
      have t0 : Wa.cell? ⟨ba, 0, none⟩ = some (.int .i64 kd) := cell_of_row _ ba 0 _ _ (0, 0) hra
      have t1 : Wa.cell? ⟨ba, 1, none⟩ = some (S nm) := cell_of_row _ ba 1 _ _ (0, 0) hra
      have t2 : Wa.cell? ⟨ba, 2, none⟩ = some (S vl) := cell_of_row _ ba 2 _ _ (0, 0) hra
      have t3 : Wa.cell? ⟨ba, 3, none⟩ = some (.int .i64 n) := cell_of_row _ ba 3 _ _ (0, 0) hra
      have c1 : Wa.cell? ⟨b1, 1, none⟩ = some (S p') := cell_of_row _ b1 1 _ _ (0, 0) hga'.rq
      have c4 : Wa.cell? ⟨b1, 4, none⟩ = some (.slice av K qv) := cell_of_row _ b1 4 _ _ (0, 0) hga'.rq
      have c5 : Wa.cell? ⟨b1, 5, none⟩ = some (S bd) := cell_of_row _ b1 5 _ _ (0, 0) hga'.rq
      rw [hWa] at t0 t1 t2 t3 c1 c4 c5
      rw [hba] at t0 t1 t2 t3
      have HCS := Lib.hid (And.intro s0 (And.intro s1 (And.intro s2 s3)))
      clear hra hga' hga hat hp' HI hs hkk
      by_cases k2 : kd = 2
      · have e2 : (kd == 2) = true := beq_iff_eq.2 k2
        have HC := Lib.hid (HG.out nm HSM.out.1 Wa HA.out.1.fa)
        rw [hWa] at HC
        subst k2
        go_wp2_with fail
        refine HC.out.mono ?_
        rintro e W2 ⟨rfl, hB2⟩
        rw [← hWa] at hB2
        have H2 := Lib.hid (HA.out.1.below hB2)
        have t2 : W2.cell? ⟨wr.heap.size, 2, none⟩ = some (S vl) := by rw [← hba]; exact cell_of_row _ ba 2 _ _ (0, 0) (HA.out.2.below hB2 HA.out.2.lt)
        clear hB2 HC s0 s1 s2 s3 t0 t1 t3 c1 c4 c5
        cases hf : firstF fs nm with
        | none =>
          have hst : stepS fs bd ⟨2, nm, vl, n⟩ p' = .inr (403, [102, 111, 114, 98, 105, 100, 100, 101, 110]) := by unfold stepS; simp [hf]
          have HE := Lib.hid (HAT.out.stop HS.out hst)
          clear hst hf
          have a0 : W2.cell? ⟨b1, 0, none⟩ = some (S m) := cell_of_row _ b1 0 _ _ (0, 0) H2.out.rq
          have a1 : W2.cell? ⟨b1, 1, none⟩ = some (S p') := cell_of_row _ b1 1 _ _ (0, 0) H2.out.rq
          have a2 : W2.cell? ⟨b1, 2, none⟩ = some (S q) := cell_of_row _ b1 2 _ _ (0, 0) H2.out.rq
          have a3 : W2.cell? ⟨b1, 3, none⟩ = some (.int .i64 v) := cell_of_row _ b1 3 _ _ (0, 0) H2.out.rq
          have a4 : W2.cell? ⟨b1, 4, none⟩ = some (.slice av K qv) := cell_of_row _ b1 4 _ _ (0, 0) H2.out.rq
          have a5 : W2.cell? ⟨b1, 5, none⟩ = some (S bd) := cell_of_row _ b1 5 _ _ (0, 0) H2.out.rq
          have a6 : W2.cell? ⟨b1, 6, none⟩ = some (.bool cl) := cell_of_row _ b1 6 _ _ (0, 0) H2.out.rq
          have y0 : W2.cell? ⟨b1 + 1, 0, none⟩ = some (.string ⟨#[]⟩) := cell_of_row _ (b1 + 1) 0 _ _ (0, 0) H2.out.r5
          have z0 := H2.out.r5.frozen 0
          have y1 : W2.cell? ⟨b1 + 1, 1, none⟩ = some (.string ⟨#[]⟩) := cell_of_row _ (b1 + 1) 1 _ _ (0, 0) H2.out.r5
          have z1 := H2.out.r5.frozen 1
          have y2 : W2.cell? ⟨b1 + 1, 2, none⟩ = some (.string ⟨#[]⟩) := cell_of_row _ (b1 + 1) 2 _ _ (0, 0) H2.out.r5
          have z2 := H2.out.r5.frozen 2
          have y3 : W2.cell? ⟨b1 + 1, 3, none⟩ = some (.int .i64 0) := cell_of_row _ (b1 + 1) 3 _ _ (0, 0) H2.out.r5
          have z3 := H2.out.r5.frozen 3
          have y4 : W2.cell? ⟨b1 + 1, 4, none⟩ = some (.slice none 0 0) := cell_of_row _ (b1 + 1) 4 _ _ (0, 0) H2.out.r5
          have z4 := H2.out.r5.frozen 4
          have y5 : W2.cell? ⟨b1 + 1, 5, none⟩ = some (.string ⟨#[]⟩) := cell_of_row _ (b1 + 1) 5 _ _ (0, 0) H2.out.r5
          have z5 := H2.out.r5.frozen 5
          have y6 : W2.cell? ⟨b1 + 1, 6, none⟩ = some (.bool false) := cell_of_row _ (b1 + 1) 6 _ _ (0, 0) H2.out.r5
          have z6 := H2.out.r5.frozen 6
          have x0 : W2.cell? ⟨b1 + 1 + 1, 0, none⟩ = some (.int .i64 0) := cell_of_row _ (b1 + 1 + 1) 0 _ _ (0, 0) H2.out.r6
          have w0 := H2.out.r6.frozen 0
          have x1 : W2.cell? ⟨b1 + 1 + 1, 1, none⟩ = some (.slice none 0 0) := cell_of_row _ (b1 + 1 + 1) 1 _ _ (0, 0) H2.out.r6
          have w1 := H2.out.r6.frozen 1
          have x2 : W2.cell? ⟨b1 + 1 + 1, 2, none⟩ = some (.string ⟨#[]⟩) := cell_of_row _ (b1 + 1 + 1) 2 _ _ (0, 0) H2.out.r6
          have w2 := H2.out.r6.frozen 2
          obtain ⟨WF, hWF⟩ : ∃ W, W = put3k (put7k W2 (b1 + 1) (S m) (S p') (S q) (.int .i64 v) (.slice av K qv) (S bd) (.bool cl)) (b1 + 1 + 1) (.int .i64 403) (.slice none 0 0) (.string ⟨#[102, 111, 114, 98, 105, 100, 100, 101, 110]⟩) := ⟨_, rfl⟩
          have R5 : Hid (Row WF (b1 + 1) #[S m, S p', S q, .int .i64 v, .slice av K qv, S bd, .bool cl] 25) := Lib.hid (by rw [hWF]; exact put3k_other (put7k_row H2.out.r5 _ _ _ _ _ _ _) (by omega) _ _ _)
          have R6 : Hid (Row WF (b1 + 1 + 1) #[.int .i64 403, .slice none 0 0, .string ⟨#[102, 111, 114, 98, 105, 100, 100, 101, 110]⟩] 27) := Lib.hid (by rw [hWF]; exact put3k_row (put7k_other H2.out.r6 (by omega) _ _ _ _ _ _ _) _ _ _)
          have RB : Hid (Below w.heap.size w WF) := Lib.hid (by rw [hWF]; exact put3k_below (put7k_below H2.out.bel (by omega) _ _ _ _ _ _ _) (by omega) _ _ _)
          go_wp2
          go_region
          unfold put3k put7k at hWF
          rw [← hWF]
          clear hWF a0 y0 z0 a1 y1 z1 a2 y2 z2 a3 y3 z3 a4 y4 z4 a5 y5 z5 a6 y6 z6 x0 w0 x1 w1 x2 w2
          go_wp2
          refine bodyPost_ret (results_row_two13 rfl _ _ (b1 + 1) (b1 + 1 + 1) 25 27 _ _ _ _ rfl rfl R5.out.drew R6.out.drew Tryd.underlying25 rfl infoRq Tryd.underlying27 rfl infoRp) rfl ?_
          rw [HGV.out, HE.out]
          exact ⟨rfl, RB.out.trans ⟨rfl, rfl, rfl, Nat.le_refl _, fun _ _ => rfl⟩⟩
        | some x =>
          have qv0 := nonempty_S vl
          have gv0 := nguard_E vl
          by_cases hz : vl = []
          · rw [show decide (0 < vl.length) = false by rw [hz]; rfl] at qv0
            have hst : stepS fs bd ⟨2, nm, vl, n⟩ p' = .inl p' := by unfold stepS; simp [hf, hz]
            have HX : Hid (∃ p' : Tx, p'.length ≤ 300 ∧ AtG fs bd l p (i + 1) p' ∧ GoesAt w b1 #[S m, S p', S q, .int .i64 v, .slice av K qv, S bd, .bool cl] #[.string ⟨#[]⟩, .string ⟨#[]⟩, .string ⟨#[]⟩, .int .i64 0, .slice none 0 0, .string ⟨#[]⟩, .bool false] #[.int .i64 0, .slice none 0 0, .string ⟨#[]⟩] (.slice av K qv) fs b o Vl l bs os (W2)) := Lib.hid ⟨p', HP.out, HAT.out.next HS.out hst, H2.out⟩
            clear hst hf hz
            go_wp2
            exact ⟨⟨i + 1, by omega, by go_num, HX⟩, by simp [intOf]; omega⟩
          · rw [decide_eq_true (List.length_pos_iff.2 hz)] at qv0
            have qx : binOp .neq 9 (S x) (S vl) = pure (.bool (x != vl)) := neql_S 9 x vl
            have gx : ∀ a b, eqGuard .neq 9 a b (S x) (S vl) = pure () := fun a b => nguard_S 9 a b x vl
            by_cases hx : x = vl
            · rw [bne_eq_false_iff_eq.2 hx] at qx
              have hst : stepS fs bd ⟨2, nm, vl, n⟩ p' = .inl p' := by unfold stepS; simp [hf, hx]
              have HX : Hid (∃ p' : Tx, p'.length ≤ 300 ∧ AtG fs bd l p (i + 1) p' ∧ GoesAt w b1 #[S m, S p', S q, .int .i64 v, .slice av K qv, S bd, .bool cl] #[.string ⟨#[]⟩, .string ⟨#[]⟩, .string ⟨#[]⟩, .int .i64 0, .slice none 0 0, .string ⟨#[]⟩, .bool false] #[.int .i64 0, .slice none 0 0, .string ⟨#[]⟩] (.slice av K qv) fs b o Vl l bs os (W2)) := Lib.hid ⟨p', HP.out, HAT.out.next HS.out hst, H2.out⟩
              clear hst hf hz hx
              go_wp2
              exact ⟨⟨i + 1, by omega, by go_num, HX⟩, by simp [intOf]; omega⟩
            · rw [bne_iff_ne.2 hx] at qx
              have hst : stepS fs bd ⟨2, nm, vl, n⟩ p' = .inr (403, [102, 111, 114, 98, 105, 100, 100, 101, 110]) := by unfold stepS; simp [hf, hz, hx]
              have HE := Lib.hid (HAT.out.stop HS.out hst)
              clear hst hf hz hx
              have a0 : W2.cell? ⟨b1, 0, none⟩ = some (S m) := cell_of_row _ b1 0 _ _ (0, 0) H2.out.rq
              have a1 : W2.cell? ⟨b1, 1, none⟩ = some (S p') := cell_of_row _ b1 1 _ _ (0, 0) H2.out.rq
              have a2 : W2.cell? ⟨b1, 2, none⟩ = some (S q) := cell_of_row _ b1 2 _ _ (0, 0) H2.out.rq
              have a3 : W2.cell? ⟨b1, 3, none⟩ = some (.int .i64 v) := cell_of_row _ b1 3 _ _ (0, 0) H2.out.rq
              have a4 : W2.cell? ⟨b1, 4, none⟩ = some (.slice av K qv) := cell_of_row _ b1 4 _ _ (0, 0) H2.out.rq
              have a5 : W2.cell? ⟨b1, 5, none⟩ = some (S bd) := cell_of_row _ b1 5 _ _ (0, 0) H2.out.rq
              have a6 : W2.cell? ⟨b1, 6, none⟩ = some (.bool cl) := cell_of_row _ b1 6 _ _ (0, 0) H2.out.rq
              have y0 : W2.cell? ⟨b1 + 1, 0, none⟩ = some (.string ⟨#[]⟩) := cell_of_row _ (b1 + 1) 0 _ _ (0, 0) H2.out.r5
              have z0 := H2.out.r5.frozen 0
              have y1 : W2.cell? ⟨b1 + 1, 1, none⟩ = some (.string ⟨#[]⟩) := cell_of_row _ (b1 + 1) 1 _ _ (0, 0) H2.out.r5
              have z1 := H2.out.r5.frozen 1
              have y2 : W2.cell? ⟨b1 + 1, 2, none⟩ = some (.string ⟨#[]⟩) := cell_of_row _ (b1 + 1) 2 _ _ (0, 0) H2.out.r5
              have z2 := H2.out.r5.frozen 2
              have y3 : W2.cell? ⟨b1 + 1, 3, none⟩ = some (.int .i64 0) := cell_of_row _ (b1 + 1) 3 _ _ (0, 0) H2.out.r5
              have z3 := H2.out.r5.frozen 3
              have y4 : W2.cell? ⟨b1 + 1, 4, none⟩ = some (.slice none 0 0) := cell_of_row _ (b1 + 1) 4 _ _ (0, 0) H2.out.r5
              have z4 := H2.out.r5.frozen 4
              have y5 : W2.cell? ⟨b1 + 1, 5, none⟩ = some (.string ⟨#[]⟩) := cell_of_row _ (b1 + 1) 5 _ _ (0, 0) H2.out.r5
              have z5 := H2.out.r5.frozen 5
              have y6 : W2.cell? ⟨b1 + 1, 6, none⟩ = some (.bool false) := cell_of_row _ (b1 + 1) 6 _ _ (0, 0) H2.out.r5
              have z6 := H2.out.r5.frozen 6
              have x0 : W2.cell? ⟨b1 + 1 + 1, 0, none⟩ = some (.int .i64 0) := cell_of_row _ (b1 + 1 + 1) 0 _ _ (0, 0) H2.out.r6
              have w0 := H2.out.r6.frozen 0
              have x1 : W2.cell? ⟨b1 + 1 + 1, 1, none⟩ = some (.slice none 0 0) := cell_of_row _ (b1 + 1 + 1) 1 _ _ (0, 0) H2.out.r6
              have w1 := H2.out.r6.frozen 1
              have x2 : W2.cell? ⟨b1 + 1 + 1, 2, none⟩ = some (.string ⟨#[]⟩) := cell_of_row _ (b1 + 1 + 1) 2 _ _ (0, 0) H2.out.r6
              have w2 := H2.out.r6.frozen 2
              obtain ⟨WF, hWF⟩ : ∃ W, W = put3k (put7k W2 (b1 + 1) (S m) (S p') (S q) (.int .i64 v) (.slice av K qv) (S bd) (.bool cl)) (b1 + 1 + 1) (.int .i64 403) (.slice none 0 0) (.string ⟨#[102, 111, 114, 98, 105, 100, 100, 101, 110]⟩) := ⟨_, rfl⟩
              have R5 : Hid (Row WF (b1 + 1) #[S m, S p', S q, .int .i64 v, .slice av K qv, S bd, .bool cl] 25) := Lib.hid (by rw [hWF]; exact put3k_other (put7k_row H2.out.r5 _ _ _ _ _ _ _) (by omega) _ _ _)
              have R6 : Hid (Row WF (b1 + 1 + 1) #[.int .i64 403, .slice none 0 0, .string ⟨#[102, 111, 114, 98, 105, 100, 100, 101, 110]⟩] 27) := Lib.hid (by rw [hWF]; exact put3k_row (put7k_other H2.out.r6 (by omega) _ _ _ _ _ _ _) _ _ _)
              have RB : Hid (Below w.heap.size w WF) := Lib.hid (by rw [hWF]; exact put3k_below (put7k_below H2.out.bel (by omega) _ _ _ _ _ _ _) (by omega) _ _ _)
              go_wp2
              go_region
              unfold put3k put7k at hWF
              rw [← hWF]
              clear hWF a0 y0 z0 a1 y1 z1 a2 y2 z2 a3 y3 z3 a4 y4 z4 a5 y5 z5 a6 y6 z6 x0 w0 x1 w1 x2 w2
              go_wp2
              refine bodyPost_ret (results_row_two13 rfl _ _ (b1 + 1) (b1 + 1 + 1) 25 27 _ _ _ _ rfl rfl R5.out.drew R6.out.drew Tryd.underlying25 rfl infoRq Tryd.underlying27 rfl infoRp) rfl ?_
              rw [HGV.out, HE.out]
              exact ⟨rfl, RB.out.trans ⟨rfl, rfl, rfl, Nat.le_refl _, fun _ _ => rfl⟩⟩
      have e2 : (kd == 2) = false := beq_eq_false_iff_ne.2 k2
      have HA1 := Lib.hid HA.out.1
      clear HG
      by_cases k3 : kd = 3
      · have e3 : (kd == 3) = true := beq_iff_eq.2 k3
        by_cases hn : n < (bd.length : Int)
        · have gn : decide (n < (bd.length : Int)) = true := decide_eq_true hn
          have hst : stepS fs bd ⟨kd, nm, vl, n⟩ p' = .inr (413, [116, 111, 111, 32, 108, 111, 110, 103]) := by unfold stepS; simp [k3, hn]
          have HE := Lib.hid (HAT.out.stop HS.out hst)
          clear hst k2 k3 hn c1 c4 c5 t1 t2 s0 s1 s2 s3 t0 t3
          have t0 : Wa.cell? ⟨ba, 0, none⟩ = some (.int .i64 kd) := cell_of_row _ ba 0 _ _ (0, 0) HA.out.2
          have t3 : Wa.cell? ⟨ba, 3, none⟩ = some (.int .i64 n) := cell_of_row _ ba 3 _ _ (0, 0) HA.out.2
          rw [hWa, hba] at t0 t3
          have s0 : wr.cell? ⟨bs, kk, none⟩ = some (.int .i64 kd) := HCS.out.1
          have s1 : wr.cell? ⟨bs, kk + 1, none⟩ = some (S nm) := HCS.out.2.1
          have s2 : wr.cell? ⟨bs, kk + 2, none⟩ = some (S vl) := HCS.out.2.2.1
          have s3 : wr.cell? ⟨bs, kk + 3, none⟩ = some (.int .i64 n) := HCS.out.2.2.2
          have a0 : Wa.cell? ⟨b1, 0, none⟩ = some (S m) := cell_of_row _ b1 0 _ _ (0, 0) HA1.out.rq
          have a1 : Wa.cell? ⟨b1, 1, none⟩ = some (S p') := cell_of_row _ b1 1 _ _ (0, 0) HA1.out.rq
          have a2 : Wa.cell? ⟨b1, 2, none⟩ = some (S q) := cell_of_row _ b1 2 _ _ (0, 0) HA1.out.rq
          have a3 : Wa.cell? ⟨b1, 3, none⟩ = some (.int .i64 v) := cell_of_row _ b1 3 _ _ (0, 0) HA1.out.rq
          have a4 : Wa.cell? ⟨b1, 4, none⟩ = some (.slice av K qv) := cell_of_row _ b1 4 _ _ (0, 0) HA1.out.rq
          have a5 : Wa.cell? ⟨b1, 5, none⟩ = some (S bd) := cell_of_row _ b1 5 _ _ (0, 0) HA1.out.rq
          have a6 : Wa.cell? ⟨b1, 6, none⟩ = some (.bool cl) := cell_of_row _ b1 6 _ _ (0, 0) HA1.out.rq
          have y0 : Wa.cell? ⟨b1 + 1, 0, none⟩ = some (.string ⟨#[]⟩) := cell_of_row _ (b1 + 1) 0 _ _ (0, 0) HA1.out.r5
          have z0 := HA1.out.r5.frozen 0
          have y1 : Wa.cell? ⟨b1 + 1, 1, none⟩ = some (.string ⟨#[]⟩) := cell_of_row _ (b1 + 1) 1 _ _ (0, 0) HA1.out.r5
          have z1 := HA1.out.r5.frozen 1
          have y2 : Wa.cell? ⟨b1 + 1, 2, none⟩ = some (.string ⟨#[]⟩) := cell_of_row _ (b1 + 1) 2 _ _ (0, 0) HA1.out.r5
          have z2 := HA1.out.r5.frozen 2
          have y3 : Wa.cell? ⟨b1 + 1, 3, none⟩ = some (.int .i64 0) := cell_of_row _ (b1 + 1) 3 _ _ (0, 0) HA1.out.r5
          have z3 := HA1.out.r5.frozen 3
          have y4 : Wa.cell? ⟨b1 + 1, 4, none⟩ = some (.slice none 0 0) := cell_of_row _ (b1 + 1) 4 _ _ (0, 0) HA1.out.r5
          have z4 := HA1.out.r5.frozen 4
          have y5 : Wa.cell? ⟨b1 + 1, 5, none⟩ = some (.string ⟨#[]⟩) := cell_of_row _ (b1 + 1) 5 _ _ (0, 0) HA1.out.r5
          have z5 := HA1.out.r5.frozen 5
          have y6 : Wa.cell? ⟨b1 + 1, 6, none⟩ = some (.bool false) := cell_of_row _ (b1 + 1) 6 _ _ (0, 0) HA1.out.r5
          have z6 := HA1.out.r5.frozen 6
          have x0 : Wa.cell? ⟨b1 + 1 + 1, 0, none⟩ = some (.int .i64 0) := cell_of_row _ (b1 + 1 + 1) 0 _ _ (0, 0) HA1.out.r6
          have w0 := HA1.out.r6.frozen 0
          have x1 : Wa.cell? ⟨b1 + 1 + 1, 1, none⟩ = some (.slice none 0 0) := cell_of_row _ (b1 + 1 + 1) 1 _ _ (0, 0) HA1.out.r6
          have w1 := HA1.out.r6.frozen 1
          have x2 : Wa.cell? ⟨b1 + 1 + 1, 2, none⟩ = some (.string ⟨#[]⟩) := cell_of_row _ (b1 + 1 + 1) 2 _ _ (0, 0) HA1.out.r6
          have w2 := HA1.out.r6.frozen 2
          obtain ⟨WF, hWF⟩ : ∃ W, W = put3k (put7k Wa (b1 + 1) (S m) (S p') (S q) (.int .i64 v) (.slice av K qv) (S bd) (.bool cl)) (b1 + 1 + 1) (.int .i64 413) (.slice none 0 0) (.string ⟨#[116, 111, 111, 32, 108, 111, 110, 103]⟩) := ⟨_, rfl⟩
          have R5 : Hid (Row WF (b1 + 1) #[S m, S p', S q, .int .i64 v, .slice av K qv, S bd, .bool cl] 25) := Lib.hid (by rw [hWF]; exact put3k_other (put7k_row HA1.out.r5 _ _ _ _ _ _ _) (by omega) _ _ _)
          have R6 : Hid (Row WF (b1 + 1 + 1) #[.int .i64 413, .slice none 0 0, .string ⟨#[116, 111, 111, 32, 108, 111, 110, 103]⟩] 27) := Lib.hid (by rw [hWF]; exact put3k_row (put7k_other HA1.out.r6 (by omega) _ _ _ _ _ _ _) _ _ _)
          have RB : Hid (Below w.heap.size w WF) := Lib.hid (by rw [hWF]; exact put3k_below (put7k_below HA1.out.bel (by omega) _ _ _ _ _ _ _) (by omega) _ _ _)
          rw [hWa] at hWF a0 y0 z0 a1 y1 z1 a2 y2 z2 a3 y3 z3 a4 y4 z4 a5 y5 z5 a6 y6 z6 x0 w0 x1 w1 x2 w2
          go_wp2
          go_region
          unfold put3k put7k at hWF
          rw [← hWF]
          clear hWF a0 y0 z0 a1 y1 z1 a2 y2 z2 a3 y3 z3 a4 y4 z4 a5 y5 z5 a6 y6 z6 x0 w0 x1 w1 x2 w2
          go_wp2
          refine bodyPost_ret (results_row_two13 rfl _ _ (b1 + 1) (b1 + 1 + 1) 25 27 _ _ _ _ rfl rfl R5.out.drew R6.out.drew Tryd.underlying25 rfl infoRq Tryd.underlying27 rfl infoRp) rfl ?_
          rw [HGV.out, HE.out]
          exact ⟨rfl, RB.out.trans ⟨rfl, rfl, rfl, Nat.le_refl _, fun _ _ => rfl⟩⟩
        · have gn : decide (n < (bd.length : Int)) = false := decide_eq_false hn
          have hst : stepS fs bd ⟨kd, nm, vl, n⟩ p' = .inl p' := by unfold stepS; simp [k3, hn]
          have HX : Hid (∃ p' : Tx, p'.length ≤ 300 ∧ AtG fs bd l p (i + 1) p' ∧ GoesAt w b1 #[S m, S p', S q, .int .i64 v, .slice av K qv, S bd, .bool cl] #[.string ⟨#[]⟩, .string ⟨#[]⟩, .string ⟨#[]⟩, .int .i64 0, .slice none 0 0, .string ⟨#[]⟩, .bool false] #[.int .i64 0, .slice none 0 0, .string ⟨#[]⟩] (.slice av K qv) fs b o Vl l bs os (Wa)) := Lib.hid ⟨p', HP.out, HAT.out.next HS.out hst, HA1.out⟩
          rw [hWa] at HX
          clear hst k2 k3 hn c1 c4 t1 t2
          go_wp2
          exact ⟨⟨i + 1, by omega, by go_num, HX⟩, by simp [intOf]; omega⟩
      have e3 : (kd == 3) = false := beq_eq_false_iff_ne.2 k3
      by_cases k4 : kd = 4
      · have e4 : (kd == 4) = true := beq_iff_eq.2 k4
        have hlV := run_len_S (P := Tryd.prog) Tryd.underlying9 3 vl
        have qp : binOp .eql 9 (S p') (S vl) = pure (.bool (p' == vl)) := eql_S 9 p' vl
        have gp : ∀ a b, eqGuard .eql 9 a b (S p') (S vl) = pure () := fun a b => guard_S 9 a b p' vl
        by_cases hpv : p' = vl
        · rw [beq_iff_eq.2 hpv] at qp
          have hst : stepS fs bd ⟨kd, nm, vl, n⟩ p' = .inl [47] := by unfold stepS; simp [k4, hpv]
          have f1 := HA1.out.rq.frozen 1
          rw [hWa] at f1
          have HX : Hid (∃ p' : Tx, p'.length ≤ 300 ∧ AtG fs bd l p (i + 1) p' ∧ GoesAt w b1 #[S m, S p', S q, .int .i64 v, .slice av K qv, S bd, .bool cl] #[.string ⟨#[]⟩, .string ⟨#[]⟩, .string ⟨#[]⟩, .int .i64 0, .slice none 0 0, .string ⟨#[]⟩, .bool false] #[.int .i64 0, .slice none 0 0, .string ⟨#[]⟩] (.slice av K qv) fs b o Vl l bs os (Wa.setCell ⟨b1, 1, none⟩ (S [47]))) := Lib.hid ⟨[47], by simp, HAT.out.next HS.out hst, HA1.out.path HB1.out HA0.out.1 HA0.out.2 (S [47])⟩
          rw [hWa] at HX
          clear hst k2 k3 k4 hpv c4 c5 t1 t3
          go_wp2
          exact ⟨⟨i + 1, by omega, by go_num, HX⟩, by simp [intOf]; omega⟩
        · rw [beq_eq_false_iff_ne.2 hpv] at qp
          have hlP := run_len_S (P := Tryd.prog) Tryd.underlying9 3 p'
          obtain ⟨L, hL⟩ : ∃ L, L = vl.length := ⟨_, rfl⟩
          rw [← hL] at hlV
          by_cases h1 : L < p'.length
          · have gl : decide ((L : Int) < (p'.length : Int)) = true := decide_eq_true (by omega)
            have gl' : decide (L < p'.length) = true := decide_eq_true h1
            have hsl := slice_take (P := Tryd.prog) Tryd.underlying9 p' L (by omega)
            have qe : binOp .eql 9 (S (p'.take L)) (S vl) = pure (.bool (p'.take L == vl)) := eql_S 9 _ vl
            have ge : ∀ a b, eqGuard .eql 9 a b (S (p'.take L)) (S vl) = pure () := fun a b => guard_S 9 a b _ vl
            by_cases h2 : p'.take L = vl
            · rw [beq_iff_eq.2 h2] at qe
              obtain ⟨c, hc⟩ : ∃ c, p'[L]? = some c := ⟨p'[L], List.getElem?_eq_getElem h1⟩
              have hidx : ∀ w, (Instr.index 9 (S p') (.int .i64 (L : Int))).run Tryd.prog w = .ok (B c) w := fun w => index_S (P := Tryd.prog) Tryd.underlying9 p' L c hc w
              have qc := B_eqlN 5 c 47
              by_cases h3 : c = 47
              · rw [show (((c.toNat : Nat) : Int) == 47) = true by rw [h3]; rfl] at qc
                obtain ⟨px, hpx⟩ : ∃ x, x = p'.drop L := ⟨_, rfl⟩
                have hst : stepS fs bd ⟨kd, nm, vl, n⟩ p' = .inl px := by
                  rw [hpx]
                  unfold stepS
                  dsimp only
                  rw [if_neg k2, if_neg k3, if_pos k4, if_neg hpv, ← hL, if_pos ⟨h1, h2, by rw [hc, h3]⟩]
                have hsd := slice_drop (P := Tryd.prog) Tryd.underlying9 p' L (by omega)
                rw [← hpx] at hsd

                clear k2 k3 k4 hpv h1 h2 h3 hc c4 c5 t1 t3 hL
                go_wp2
                go_quiet (fail)
                rw [← hWa]
                obtain ⟨Wq, hWq⟩ : ∃ W, W = Wa.drewN nq := ⟨_, rfl⟩
                rw [← hWq]
                have HAd := Lib.hid (HA1.out.below (W' := Wq) (by rw [hWq]; exact below_drewN Wa nq))
                clear c1 t2 hWa hWq
                have c1 : Wq.cell? ⟨b1, 1, none⟩ = some (S p') := cell_of_row _ b1 1 _ _ (0, 0) HAd.out.rq
                have f1 := HAd.out.rq.frozen 1
                have HX : Hid (∃ p' : Tx, p'.length ≤ 300 ∧ AtG fs bd l p (i + 1) p' ∧ GoesAt w b1 #[S m, S p', S q, .int .i64 v, .slice av K qv, S bd, .bool cl] #[.string ⟨#[]⟩, .string ⟨#[]⟩, .string ⟨#[]⟩, .int .i64 0, .slice none 0 0, .string ⟨#[]⟩, .bool false] #[.int .i64 0, .slice none 0 0, .string ⟨#[]⟩] (.slice av K qv) fs b o Vl l bs os (Wq.setCell ⟨b1, 1, none⟩ (S px))) := Lib.hid ⟨px, by rw [hpx, List.length_drop]; have := HP.out; omega, HAT.out.next HS.out hst, HAd.out.path HB1.out HA0.out.1 HA0.out.2 _⟩
                clear hst hpx
                go_wp2
                exact ⟨⟨i + 1, by omega, by go_num, HX⟩, by simp [intOf]; omega⟩
              · rw [show (((c.toNat : Nat) : Int) == 47) = false by rw [beq_eq_false_iff_ne]; intro e; exact h3 (UInt8.toNat_inj.1 (by have : ((47 : UInt8).toNat) = 47 := rfl; omega))] at qc
                have hst : stepS fs bd ⟨kd, nm, vl, n⟩ p' = .inr (404, [110, 111, 116, 32, 102, 111, 117, 110, 100]) := by
                  unfold stepS
                  dsimp only
                  rw [if_neg k2, if_neg k3, if_pos k4, if_neg hpv, ← hL, if_neg (fun h => h3 (by have := h.2.2; rw [hc] at this; exact Option.some.inj this))]
                have HE := Lib.hid (HAT.out.stop HS.out hst)
                clear hst k2 k3 k4 hpv h1 h2 h3 hc c4 c5 t1 t3 hL
                go_wp2
                go_quiet (fail)
                rw [← hWa]
                obtain ⟨Wq, hWq⟩ : ∃ W, W = Wa.drewN nq := ⟨_, rfl⟩
                rw [← hWq]
                have HAd := Lib.hid (HA1.out.below (W' := Wq) (by rw [hWq]; exact below_drewN Wa nq))
                clear c1 t2 hWa hWq
                have a0 : Wq.cell? ⟨b1, 0, none⟩ = some (S m) := cell_of_row _ b1 0 _ _ (0, 0) HAd.out.rq
                have a1 : Wq.cell? ⟨b1, 1, none⟩ = some (S p') := cell_of_row _ b1 1 _ _ (0, 0) HAd.out.rq
                have a2 : Wq.cell? ⟨b1, 2, none⟩ = some (S q) := cell_of_row _ b1 2 _ _ (0, 0) HAd.out.rq
                have a3 : Wq.cell? ⟨b1, 3, none⟩ = some (.int .i64 v) := cell_of_row _ b1 3 _ _ (0, 0) HAd.out.rq
                have a4 : Wq.cell? ⟨b1, 4, none⟩ = some (.slice av K qv) := cell_of_row _ b1 4 _ _ (0, 0) HAd.out.rq
                have a5 : Wq.cell? ⟨b1, 5, none⟩ = some (S bd) := cell_of_row _ b1 5 _ _ (0, 0) HAd.out.rq
                have a6 : Wq.cell? ⟨b1, 6, none⟩ = some (.bool cl) := cell_of_row _ b1 6 _ _ (0, 0) HAd.out.rq
                have y0 : Wq.cell? ⟨b1 + 1, 0, none⟩ = some (.string ⟨#[]⟩) := cell_of_row _ (b1 + 1) 0 _ _ (0, 0) HAd.out.r5
                have z0 := HAd.out.r5.frozen 0
                have y1 : Wq.cell? ⟨b1 + 1, 1, none⟩ = some (.string ⟨#[]⟩) := cell_of_row _ (b1 + 1) 1 _ _ (0, 0) HAd.out.r5
                have z1 := HAd.out.r5.frozen 1
                have y2 : Wq.cell? ⟨b1 + 1, 2, none⟩ = some (.string ⟨#[]⟩) := cell_of_row _ (b1 + 1) 2 _ _ (0, 0) HAd.out.r5
                have z2 := HAd.out.r5.frozen 2
                have y3 : Wq.cell? ⟨b1 + 1, 3, none⟩ = some (.int .i64 0) := cell_of_row _ (b1 + 1) 3 _ _ (0, 0) HAd.out.r5
                have z3 := HAd.out.r5.frozen 3
                have y4 : Wq.cell? ⟨b1 + 1, 4, none⟩ = some (.slice none 0 0) := cell_of_row _ (b1 + 1) 4 _ _ (0, 0) HAd.out.r5
                have z4 := HAd.out.r5.frozen 4
                have y5 : Wq.cell? ⟨b1 + 1, 5, none⟩ = some (.string ⟨#[]⟩) := cell_of_row _ (b1 + 1) 5 _ _ (0, 0) HAd.out.r5
                have z5 := HAd.out.r5.frozen 5
                have y6 : Wq.cell? ⟨b1 + 1, 6, none⟩ = some (.bool false) := cell_of_row _ (b1 + 1) 6 _ _ (0, 0) HAd.out.r5
                have z6 := HAd.out.r5.frozen 6
                have x0 : Wq.cell? ⟨b1 + 1 + 1, 0, none⟩ = some (.int .i64 0) := cell_of_row _ (b1 + 1 + 1) 0 _ _ (0, 0) HAd.out.r6
                have w0 := HAd.out.r6.frozen 0
                have x1 : Wq.cell? ⟨b1 + 1 + 1, 1, none⟩ = some (.slice none 0 0) := cell_of_row _ (b1 + 1 + 1) 1 _ _ (0, 0) HAd.out.r6
                have w1 := HAd.out.r6.frozen 1
                have x2 : Wq.cell? ⟨b1 + 1 + 1, 2, none⟩ = some (.string ⟨#[]⟩) := cell_of_row _ (b1 + 1 + 1) 2 _ _ (0, 0) HAd.out.r6
                have w2 := HAd.out.r6.frozen 2
                obtain ⟨WF, hWF⟩ : ∃ W, W = put3k (put7k Wq (b1 + 1) (S m) (S p') (S q) (.int .i64 v) (.slice av K qv) (S bd) (.bool cl)) (b1 + 1 + 1) (.int .i64 404) (.slice none 0 0) (.string ⟨#[110, 111, 116, 32, 102, 111, 117, 110, 100]⟩) := ⟨_, rfl⟩
                have R5 : Hid (Row WF (b1 + 1) #[S m, S p', S q, .int .i64 v, .slice av K qv, S bd, .bool cl] 25) := Lib.hid (by rw [hWF]; exact put3k_other (put7k_row HAd.out.r5 _ _ _ _ _ _ _) (by omega) _ _ _)
                have R6 : Hid (Row WF (b1 + 1 + 1) #[.int .i64 404, .slice none 0 0, .string ⟨#[110, 111, 116, 32, 102, 111, 117, 110, 100]⟩] 27) := Lib.hid (by rw [hWF]; exact put3k_row (put7k_other HAd.out.r6 (by omega) _ _ _ _ _ _ _) _ _ _)
                have RB : Hid (Below w.heap.size w WF) := Lib.hid (by rw [hWF]; exact put3k_below (put7k_below HAd.out.bel (by omega) _ _ _ _ _ _ _) (by omega) _ _ _)
                go_wp2
                go_region
                unfold put3k put7k at hWF
                rw [← hWF]
                clear hWF a0 y0 z0 a1 y1 z1 a2 y2 z2 a3 y3 z3 a4 y4 z4 a5 y5 z5 a6 y6 z6 x0 w0 x1 w1 x2 w2
                go_wp2
                refine bodyPost_ret (results_row_two13 rfl _ _ (b1 + 1) (b1 + 1 + 1) 25 27 _ _ _ _ rfl rfl R5.out.drew R6.out.drew Tryd.underlying25 rfl infoRq Tryd.underlying27 rfl infoRp) rfl ?_
                rw [HGV.out, HE.out]
                exact ⟨rfl, RB.out.trans ⟨rfl, rfl, rfl, Nat.le_refl _, fun _ _ => rfl⟩⟩
            · rw [beq_eq_false_iff_ne.2 h2] at qe
              have hst : stepS fs bd ⟨kd, nm, vl, n⟩ p' = .inr (404, [110, 111, 116, 32, 102, 111, 117, 110, 100]) := by
                unfold stepS
                dsimp only
                rw [if_neg k2, if_neg k3, if_pos k4, if_neg hpv, ← hL, if_neg (fun h => h2 h.2.1)]
              have HE := Lib.hid (HAT.out.stop HS.out hst)
              clear hst k2 k3 k4 hpv h1 h2 c4 c5 t1 t3 hL
              go_wp2
              go_quiet (fail)
              rw [← hWa]
              obtain ⟨Wq, hWq⟩ : ∃ W, W = Wa.drewN nq := ⟨_, rfl⟩
              rw [← hWq]
              have HAd := Lib.hid (HA1.out.below (W' := Wq) (by rw [hWq]; exact below_drewN Wa nq))
              clear c1 t2 hWa hWq
              have a0 : Wq.cell? ⟨b1, 0, none⟩ = some (S m) := cell_of_row _ b1 0 _ _ (0, 0) HAd.out.rq
              have a1 : Wq.cell? ⟨b1, 1, none⟩ = some (S p') := cell_of_row _ b1 1 _ _ (0, 0) HAd.out.rq
              have a2 : Wq.cell? ⟨b1, 2, none⟩ = some (S q) := cell_of_row _ b1 2 _ _ (0, 0) HAd.out.rq
              have a3 : Wq.cell? ⟨b1, 3, none⟩ = some (.int .i64 v) := cell_of_row _ b1 3 _ _ (0, 0) HAd.out.rq
              have a4 : Wq.cell? ⟨b1, 4, none⟩ = some (.slice av K qv) := cell_of_row _ b1 4 _ _ (0, 0) HAd.out.rq
              have a5 : Wq.cell? ⟨b1, 5, none⟩ = some (S bd) := cell_of_row _ b1 5 _ _ (0, 0) HAd.out.rq
              have a6 : Wq.cell? ⟨b1, 6, none⟩ = some (.bool cl) := cell_of_row _ b1 6 _ _ (0, 0) HAd.out.rq
              have y0 : Wq.cell? ⟨b1 + 1, 0, none⟩ = some (.string ⟨#[]⟩) := cell_of_row _ (b1 + 1) 0 _ _ (0, 0) HAd.out.r5
              have z0 := HAd.out.r5.frozen 0
              have y1 : Wq.cell? ⟨b1 + 1, 1, none⟩ = some (.string ⟨#[]⟩) := cell_of_row _ (b1 + 1) 1 _ _ (0, 0) HAd.out.r5
              have z1 := HAd.out.r5.frozen 1
              have y2 : Wq.cell? ⟨b1 + 1, 2, none⟩ = some (.string ⟨#[]⟩) := cell_of_row _ (b1 + 1) 2 _ _ (0, 0) HAd.out.r5
              have z2 := HAd.out.r5.frozen 2
              have y3 : Wq.cell? ⟨b1 + 1, 3, none⟩ = some (.int .i64 0) := cell_of_row _ (b1 + 1) 3 _ _ (0, 0) HAd.out.r5
              have z3 := HAd.out.r5.frozen 3
              have y4 : Wq.cell? ⟨b1 + 1, 4, none⟩ = some (.slice none 0 0) := cell_of_row _ (b1 + 1) 4 _ _ (0, 0) HAd.out.r5
              have z4 := HAd.out.r5.frozen 4
              have y5 : Wq.cell? ⟨b1 + 1, 5, none⟩ = some (.string ⟨#[]⟩) := cell_of_row _ (b1 + 1) 5 _ _ (0, 0) HAd.out.r5
              have z5 := HAd.out.r5.frozen 5
              have y6 : Wq.cell? ⟨b1 + 1, 6, none⟩ = some (.bool false) := cell_of_row _ (b1 + 1) 6 _ _ (0, 0) HAd.out.r5
              have z6 := HAd.out.r5.frozen 6
              have x0 : Wq.cell? ⟨b1 + 1 + 1, 0, none⟩ = some (.int .i64 0) := cell_of_row _ (b1 + 1 + 1) 0 _ _ (0, 0) HAd.out.r6
              have w0 := HAd.out.r6.frozen 0
              have x1 : Wq.cell? ⟨b1 + 1 + 1, 1, none⟩ = some (.slice none 0 0) := cell_of_row _ (b1 + 1 + 1) 1 _ _ (0, 0) HAd.out.r6
              have w1 := HAd.out.r6.frozen 1
              have x2 : Wq.cell? ⟨b1 + 1 + 1, 2, none⟩ = some (.string ⟨#[]⟩) := cell_of_row _ (b1 + 1 + 1) 2 _ _ (0, 0) HAd.out.r6
              have w2 := HAd.out.r6.frozen 2
              obtain ⟨WF, hWF⟩ : ∃ W, W = put3k (put7k Wq (b1 + 1) (S m) (S p') (S q) (.int .i64 v) (.slice av K qv) (S bd) (.bool cl)) (b1 + 1 + 1) (.int .i64 404) (.slice none 0 0) (.string ⟨#[110, 111, 116, 32, 102, 111, 117, 110, 100]⟩) := ⟨_, rfl⟩
              have R5 : Hid (Row WF (b1 + 1) #[S m, S p', S q, .int .i64 v, .slice av K qv, S bd, .bool cl] 25) := Lib.hid (by rw [hWF]; exact put3k_other (put7k_row HAd.out.r5 _ _ _ _ _ _ _) (by omega) _ _ _)
              have R6 : Hid (Row WF (b1 + 1 + 1) #[.int .i64 404, .slice none 0 0, .string ⟨#[110, 111, 116, 32, 102, 111, 117, 110, 100]⟩] 27) := Lib.hid (by rw [hWF]; exact put3k_row (put7k_other HAd.out.r6 (by omega) _ _ _ _ _ _ _) _ _ _)
              have RB : Hid (Below w.heap.size w WF) := Lib.hid (by rw [hWF]; exact put3k_below (put7k_below HAd.out.bel (by omega) _ _ _ _ _ _ _) (by omega) _ _ _)
              go_wp2
              go_region
              unfold put3k put7k at hWF
              rw [← hWF]
              clear hWF a0 y0 z0 a1 y1 z1 a2 y2 z2 a3 y3 z3 a4 y4 z4 a5 y5 z5 a6 y6 z6 x0 w0 x1 w1 x2 w2
              go_wp2
              refine bodyPost_ret (results_row_two13 rfl _ _ (b1 + 1) (b1 + 1 + 1) 25 27 _ _ _ _ rfl rfl R5.out.drew R6.out.drew Tryd.underlying25 rfl infoRq Tryd.underlying27 rfl infoRp) rfl ?_
              rw [HGV.out, HE.out]
              exact ⟨rfl, RB.out.trans ⟨rfl, rfl, rfl, Nat.le_refl _, fun _ _ => rfl⟩⟩
          · have gl : decide ((L : Int) < (p'.length : Int)) = false := decide_eq_false (by omega)
            have gl' : decide (L < p'.length) = false := decide_eq_false h1
            have hst : stepS fs bd ⟨kd, nm, vl, n⟩ p' = .inr (404, [110, 111, 116, 32, 102, 111, 117, 110, 100]) := by
              unfold stepS
              dsimp only
              rw [if_neg k2, if_neg k3, if_pos k4, if_neg hpv, ← hL, if_neg (fun h => h1 h.1)]
            have HE := Lib.hid (HAT.out.stop HS.out hst)
            clear hst k2 k3 k4 hpv h1 c4 c5 t1 t3 hL
            go_wp2
            go_quiet (fail)
            rw [← hWa]
            obtain ⟨Wq, hWq⟩ : ∃ W, W = Wa.drewN nq := ⟨_, rfl⟩
            rw [← hWq]
            have HAd := Lib.hid (HA1.out.below (W' := Wq) (by rw [hWq]; exact below_drewN Wa nq))
            clear c1 t2 hWa hWq
            have a0 : Wq.cell? ⟨b1, 0, none⟩ = some (S m) := cell_of_row _ b1 0 _ _ (0, 0) HAd.out.rq
            have a1 : Wq.cell? ⟨b1, 1, none⟩ = some (S p') := cell_of_row _ b1 1 _ _ (0, 0) HAd.out.rq
            have a2 : Wq.cell? ⟨b1, 2, none⟩ = some (S q) := cell_of_row _ b1 2 _ _ (0, 0) HAd.out.rq
            have a3 : Wq.cell? ⟨b1, 3, none⟩ = some (.int .i64 v) := cell_of_row _ b1 3 _ _ (0, 0) HAd.out.rq
            have a4 : Wq.cell? ⟨b1, 4, none⟩ = some (.slice av K qv) := cell_of_row _ b1 4 _ _ (0, 0) HAd.out.rq
            have a5 : Wq.cell? ⟨b1, 5, none⟩ = some (S bd) := cell_of_row _ b1 5 _ _ (0, 0) HAd.out.rq
            have a6 : Wq.cell? ⟨b1, 6, none⟩ = some (.bool cl) := cell_of_row _ b1 6 _ _ (0, 0) HAd.out.rq
            have y0 : Wq.cell? ⟨b1 + 1, 0, none⟩ = some (.string ⟨#[]⟩) := cell_of_row _ (b1 + 1) 0 _ _ (0, 0) HAd.out.r5
            have z0 := HAd.out.r5.frozen 0
            have y1 : Wq.cell? ⟨b1 + 1, 1, none⟩ = some (.string ⟨#[]⟩) := cell_of_row _ (b1 + 1) 1 _ _ (0, 0) HAd.out.r5
            have z1 := HAd.out.r5.frozen 1
            have y2 : Wq.cell? ⟨b1 + 1, 2, none⟩ = some (.string ⟨#[]⟩) := cell_of_row _ (b1 + 1) 2 _ _ (0, 0) HAd.out.r5
            have z2 := HAd.out.r5.frozen 2
            have y3 : Wq.cell? ⟨b1 + 1, 3, none⟩ = some (.int .i64 0) := cell_of_row _ (b1 + 1) 3 _ _ (0, 0) HAd.out.r5
            have z3 := HAd.out.r5.frozen 3
            have y4 : Wq.cell? ⟨b1 + 1, 4, none⟩ = some (.slice none 0 0) := cell_of_row _ (b1 + 1) 4 _ _ (0, 0) HAd.out.r5
            have z4 := HAd.out.r5.frozen 4
            have y5 : Wq.cell? ⟨b1 + 1, 5, none⟩ = some (.string ⟨#[]⟩) := cell_of_row _ (b1 + 1) 5 _ _ (0, 0) HAd.out.r5
            have z5 := HAd.out.r5.frozen 5
            have y6 : Wq.cell? ⟨b1 + 1, 6, none⟩ = some (.bool false) := cell_of_row _ (b1 + 1) 6 _ _ (0, 0) HAd.out.r5
            have z6 := HAd.out.r5.frozen 6
            have x0 : Wq.cell? ⟨b1 + 1 + 1, 0, none⟩ = some (.int .i64 0) := cell_of_row _ (b1 + 1 + 1) 0 _ _ (0, 0) HAd.out.r6
            have w0 := HAd.out.r6.frozen 0
            have x1 : Wq.cell? ⟨b1 + 1 + 1, 1, none⟩ = some (.slice none 0 0) := cell_of_row _ (b1 + 1 + 1) 1 _ _ (0, 0) HAd.out.r6
            have w1 := HAd.out.r6.frozen 1
            have x2 : Wq.cell? ⟨b1 + 1 + 1, 2, none⟩ = some (.string ⟨#[]⟩) := cell_of_row _ (b1 + 1 + 1) 2 _ _ (0, 0) HAd.out.r6
            have w2 := HAd.out.r6.frozen 2
            obtain ⟨WF, hWF⟩ : ∃ W, W = put3k (put7k Wq (b1 + 1) (S m) (S p') (S q) (.int .i64 v) (.slice av K qv) (S bd) (.bool cl)) (b1 + 1 + 1) (.int .i64 404) (.slice none 0 0) (.string ⟨#[110, 111, 116, 32, 102, 111, 117, 110, 100]⟩) := ⟨_, rfl⟩
            have R5 : Hid (Row WF (b1 + 1) #[S m, S p', S q, .int .i64 v, .slice av K qv, S bd, .bool cl] 25) := Lib.hid (by rw [hWF]; exact put3k_other (put7k_row HAd.out.r5 _ _ _ _ _ _ _) (by omega) _ _ _)
            have R6 : Hid (Row WF (b1 + 1 + 1) #[.int .i64 404, .slice none 0 0, .string ⟨#[110, 111, 116, 32, 102, 111, 117, 110, 100]⟩] 27) := Lib.hid (by rw [hWF]; exact put3k_row (put7k_other HAd.out.r6 (by omega) _ _ _ _ _ _ _) _ _ _)
            have RB : Hid (Below w.heap.size w WF) := Lib.hid (by rw [hWF]; exact put3k_below (put7k_below HAd.out.bel (by omega) _ _ _ _ _ _ _) (by omega) _ _ _)
            go_wp2
            go_region
            unfold put3k put7k at hWF
            rw [← hWF]
            clear hWF a0 y0 z0 a1 y1 z1 a2 y2 z2 a3 y3 z3 a4 y4 z4 a5 y5 z5 a6 y6 z6 x0 w0 x1 w1 x2 w2
            go_wp2
            refine bodyPost_ret (results_row_two13 rfl _ _ (b1 + 1) (b1 + 1 + 1) 25 27 _ _ _ _ rfl rfl R5.out.drew R6.out.drew Tryd.underlying25 rfl infoRq Tryd.underlying27 rfl infoRp) rfl ?_
            rw [HGV.out, HE.out]
            exact ⟨rfl, RB.out.trans ⟨rfl, rfl, rfl, Nat.le_refl _, fun _ _ => rfl⟩⟩
      have e4 : (kd == 4) = false := beq_eq_false_iff_ne.2 k4
      have hst : stepS fs bd ⟨kd, nm, vl, n⟩ p' = .inl p' := by unfold stepS; simp [k2, k3, k4]
      have HX : Hid (∃ p' : Tx, p'.length ≤ 300 ∧ AtG fs bd l p (i + 1) p' ∧ GoesAt w b1 #[S m, S p', S q, .int .i64 v, .slice av K qv, S bd, .bool cl] #[.string ⟨#[]⟩, .string ⟨#[]⟩, .string ⟨#[]⟩, .int .i64 0, .slice none 0 0, .string ⟨#[]⟩, .bool false] #[.int .i64 0, .slice none 0 0, .string ⟨#[]⟩] (.slice av K qv) fs b o Vl l bs os (Wa)) := Lib.hid ⟨p', HP.out, HAT.out.next HS.out hst, HA1.out⟩
      rw [hWa] at HX
      clear hst k2 k3 k4 c1 c4 c5 t1 t2 t3
      go_wp2
      exact ⟨⟨i + 1, by omega, by go_num, HX⟩, by simp [intOf]; omega⟩
    · have g1 : decide ((i : Int) < (N : Int)) = false := decide_eq_false (by omega)
      have hiN : i = N := by omega
      subst hiN
      have HE : Hid (goS fs bd l p = (i, p', none)) := Lib.hid (by rw [HAT.out.done HN.out, HN.out])
      clear hga HI hat
      have a0 : wr.cell? ⟨b1, 0, none⟩ = some (S m) := cell_of_row _ b1 0 _ _ (0, 0) HGA.out.rq
      have a1 : wr.cell? ⟨b1, 1, none⟩ = some (S p') := cell_of_row _ b1 1 _ _ (0, 0) HGA.out.rq
      have a2 : wr.cell? ⟨b1, 2, none⟩ = some (S q) := cell_of_row _ b1 2 _ _ (0, 0) HGA.out.rq
      have a3 : wr.cell? ⟨b1, 3, none⟩ = some (.int .i64 v) := cell_of_row _ b1 3 _ _ (0, 0) HGA.out.rq
      have a4 : wr.cell? ⟨b1, 4, none⟩ = some (.slice av K qv) := cell_of_row _ b1 4 _ _ (0, 0) HGA.out.rq
      have a5 : wr.cell? ⟨b1, 5, none⟩ = some (S bd) := cell_of_row _ b1 5 _ _ (0, 0) HGA.out.rq
      have a6 : wr.cell? ⟨b1, 6, none⟩ = some (.bool cl) := cell_of_row _ b1 6 _ _ (0, 0) HGA.out.rq
      have y0 : wr.cell? ⟨b1 + 1, 0, none⟩ = some (.string ⟨#[]⟩) := cell_of_row _ (b1 + 1) 0 _ _ (0, 0) HGA.out.r5
      have z0 := HGA.out.r5.frozen 0
      have y1 : wr.cell? ⟨b1 + 1, 1, none⟩ = some (.string ⟨#[]⟩) := cell_of_row _ (b1 + 1) 1 _ _ (0, 0) HGA.out.r5
      have z1 := HGA.out.r5.frozen 1
      have y2 : wr.cell? ⟨b1 + 1, 2, none⟩ = some (.string ⟨#[]⟩) := cell_of_row _ (b1 + 1) 2 _ _ (0, 0) HGA.out.r5
      have z2 := HGA.out.r5.frozen 2
      have y3 : wr.cell? ⟨b1 + 1, 3, none⟩ = some (.int .i64 0) := cell_of_row _ (b1 + 1) 3 _ _ (0, 0) HGA.out.r5
      have z3 := HGA.out.r5.frozen 3
      have y4 : wr.cell? ⟨b1 + 1, 4, none⟩ = some (.slice none 0 0) := cell_of_row _ (b1 + 1) 4 _ _ (0, 0) HGA.out.r5
      have z4 := HGA.out.r5.frozen 4
      have y5 : wr.cell? ⟨b1 + 1, 5, none⟩ = some (.string ⟨#[]⟩) := cell_of_row _ (b1 + 1) 5 _ _ (0, 0) HGA.out.r5
      have z5 := HGA.out.r5.frozen 5
      have y6 : wr.cell? ⟨b1 + 1, 6, none⟩ = some (.bool false) := cell_of_row _ (b1 + 1) 6 _ _ (0, 0) HGA.out.r5
      have z6 := HGA.out.r5.frozen 6
      have x0 : wr.cell? ⟨b1 + 1 + 1, 0, none⟩ = some (.int .i64 0) := cell_of_row _ (b1 + 1 + 1) 0 _ _ (0, 0) HGA.out.r6
      have w0 := HGA.out.r6.frozen 0
      have x1 : wr.cell? ⟨b1 + 1 + 1, 1, none⟩ = some (.slice none 0 0) := cell_of_row _ (b1 + 1 + 1) 1 _ _ (0, 0) HGA.out.r6
      have w1 := HGA.out.r6.frozen 1
      have x2 : wr.cell? ⟨b1 + 1 + 1, 2, none⟩ = some (.string ⟨#[]⟩) := cell_of_row _ (b1 + 1 + 1) 2 _ _ (0, 0) HGA.out.r6
      have w2 := HGA.out.r6.frozen 2
      obtain ⟨WF, hWF⟩ : ∃ W, W = put3k (put7k wr (b1 + 1) (S m) (S p') (S q) (.int .i64 v) (.slice av K qv) (S bd) (.bool cl)) (b1 + 1 + 1) (.int .i64 0) (.slice none 0 0) (.string ⟨#[]⟩) := ⟨_, rfl⟩
      have R5 : Hid (Row WF (b1 + 1) #[S m, S p', S q, .int .i64 v, .slice av K qv, S bd, .bool cl] 25) := Lib.hid (by rw [hWF]; exact put3k_other (put7k_row HGA.out.r5 _ _ _ _ _ _ _) (by omega) _ _ _)
      have R6 : Hid (Row WF (b1 + 1 + 1) #[.int .i64 0, .slice none 0 0, .string ⟨#[]⟩] 27) := Lib.hid (by rw [hWF]; exact put3k_row (put7k_other HGA.out.r6 (by omega) _ _ _ _ _ _ _) _ _ _)
      have RB : Hid (Below w.heap.size w WF) := Lib.hid (by rw [hWF]; exact put3k_below (put7k_below HGA.out.bel (by omega) _ _ _ _ _ _ _) (by omega) _ _ _)
      go_wp2
      go_region
      unfold put3k put7k at hWF
      rw [← hWF]
      clear hWF a0 y0 z0 a1 y1 z1 a2 y2 z2 a3 y3 z3 a4 y4 z4 a5 y5 z5 a6 y6 z6 x0 w0 x1 w1 x2 w2
      go_wp2
      refine bodyPost_ret (results_row_two13 rfl _ _ (b1 + 1) (b1 + 1 + 1) 25 27 _ _ _ _ rfl rfl R5.out.drew R6.out.drew Tryd.underlying25 rfl infoRq Tryd.underlying27 rfl infoRp) rfl ?_
      rw [HGV.out, HE.out]
      exact ⟨rfl, RB.out.trans ⟨rfl, rfl, rfl, Nat.le_refl _, fun _ _ => rfl⟩⟩
end Go.Proofs.YtbnlkjoblngakaaDoor
