/- ChainStays (stage 13) walked, over any package of chains. -/
import Derived.Test.YtbnlkjoblngakaaDoorKk
namespace Go.Proofs.YtbnlkjoblngakaaDoor
open Go.RowKit Go.Shelf
attribute [local go_sem] store_one S_match S_store

theorem wpList_append_at {P : Program} {w : World} {ops : Array Oper} {rest : List Oper} {o : Oper} {a : Act} {Q : Exit → Act → World → Prop} (hgd : o.guard = none) (s x : Operand) (t : TypeId)
    (ho : o.op = .call { callee := .builtin .append, args := #[s, x], argTypes := #[t, t] }) (v u : Value) (hs : a.eval s = v) (hx : a.eval x = u) (v' : Value) (w' : World)
    (hrun : (Builtin.append_ #[t, t] o.type #[v, u]).run P w = .ok v' w') (h : wpList P ops Q rest (a.put o.dst v') w') : wpList P ops Q (o :: rest) a w := by
  refine wpList_plain hgd fun K hK' => ?_
  unfold Oper.wp
  simp [execOp, ho, resolve, invoke, builtin, hs, hx, hrun, Result.andThen]
  exact hK' _ _ h
set_option maxRecDepth 100000 in
set_option maxHeartbeats 2000000 in
theorem stays13_any {w : World} (C : ChainI w) (l : List Stp) (V : Value) (bs os : Nat) (hS : StA w V l bs os) (r : Rq) (Vr : Value) (b o : Nat) (hA : FA w Vr r.fs b o)
    (c : Int) (ax : Option Addr) (nx cx : Nat) (body : Tx) (xs : Fds) (b0 o0 : Nat) (hX : FA w (.slice ax nx cx) xs b0 o0) (hnx : nx = xs.length) :
    Calls Tryd.prog 6 #[V, rqV r Vr, rpV c (.slice ax nx cx) body] w fun e w' => e = .returned (.bool true) ∧ Below w.heap.size w w' := by
  unfold rqV rpV rpC
  obtain ⟨b1, hb1⟩ : ∃ b, b = w.heap.size := ⟨_, rfl⟩
  obtain ⟨W2, hW2⟩ : ∃ W, W = (w.alloc (.cells (rqC r Vr) 25)).alloc (.cells #[.int .i64 c, .slice ax nx cx, S body] 27) := ⟨_, rfl⟩
  have hM1 : RqAt w b1 r Vr b o (w.alloc (.cells (rqC r Vr) 25)) := by rw [hb1]; exact rqAt_new hA
  have hB21 : Below (w.alloc (.cells (rqC r Vr) 25)).heap.size (w.alloc (.cells (rqC r Vr) 25)) W2 := by rw [hW2]; exact (Below.refl _ _).alloc (Nat.le_refl _) _
  have hrow : Row W2 (b1 + 1) (rpC c (.slice ax nx cx) body) 27 := by
    have h := row_new (w.alloc (.cells (rqC r Vr) 25)) #[.int .i64 c, .slice ax nx cx, S body] 27
    rw [alloc_size, ← hb1] at h
    rw [hW2]; exact h
  have hM : RqAt w b1 r Vr b o W2 := hM1.below hB21
  have hT : StayAt w b1 r Vr b o c ax nx cx body xs b0 o0 V l bs os W2 := ⟨hM, hrow, hX.below hM.bel, hS.below hM.bel⟩
  have c0 : W2.cell? ⟨b1, 0, none⟩ = some (S r.m) := hM.cell 0 _ rfl
  have c1 : W2.cell? ⟨b1, 1, none⟩ = some (S r.p) := hM.cell 1 _ rfl
  have c2 : W2.cell? ⟨b1, 2, none⟩ = some (S r.q) := hM.cell 2 _ rfl
  have c3 : W2.cell? ⟨b1, 3, none⟩ = some (.int .i64 r.v) := hM.cell 3 _ rfl
  have c4 : W2.cell? ⟨b1, 4, none⟩ = some (Vr) := hM.cell 4 _ rfl
  have c5 : W2.cell? ⟨b1, 5, none⟩ = some (S r.body) := hM.cell 5 _ rfl
  have c6 : W2.cell? ⟨b1, 6, none⟩ = some (.bool r.cl) := hM.cell 6 _ rfl
  have HC := Lib.hid C
  have HT := Lib.hid hT
  have hg := great13_any l V bs os r Vr b o W2 hT.st hM.fa
  have HG := Lib.hid hg
  have HL : Hid (nx = xs.length) := Lib.hid hnx
  have hlX : ∀ w', (Builtin.len_ #[23] 3 #[.slice ax nx cx]).run Tryd.prog w' = .ok (.int .i64 (nx : Int)) w' := fun w' => by simp [Builtin.len_, run_underlying Tryd.underlying23, Result.andThen, goInt]
  clear hg C hM hM1 hB21 hrow hT hX hS hA hnx
  unfold rqV at HG
  rw [hW2] at HG c0 c1 c2 c3 c4 c5 c6
  rw [hb1] at c0 c1 c2 c3 c4 c5 c6
  have hrc : rqC r Vr = #[S r.m, S r.p, S r.q, .int .i64 r.v, Vr, S r.body, .bool r.cl] := rfl
  rw [hrc] at HG hW2 ⊢
  simp only [hrc] at c0 c1 c2 c3 c4 c5 c6
  clear hrc
  go_enter Tryd.func6, Tryd.ntmps6
  go_wp2_with fail
  refine HG.out.mono ?_
  rintro e W3 ⟨x, rfl, hx, hB⟩
  rw [← hW2] at hB
  have H3 := Lib.hid (HT.out.below hB)
  clear hB HG c0 c1 c2 c3 c4 c5 c6 HT
  have HW := Lib.hid (wakes13_any (HC.out.up H3.out.rq.bel))
  cases x with
  | true =>
    clear hx
    go_wp2_with fail
    refine HW.out.mono ?_
    rintro e W4 ⟨rfl, hB⟩
    have HE := Lib.hid (H3.out.rq.bel.trans (hB.mono H3.out.rq.bel.size))
    clear hB
    go_wp2
    go_ret
    exact ⟨rfl, HE.out⟩
  | false =>
    obtain ⟨hsl, hsr⟩ := hx rfl
    have HSL := Lib.hid hsl
    have HSR := Lib.hid hsr
    clear hx hsl hsr
    have d1 : W3.cell? ⟨b1 + 1, 1, none⟩ = some (.slice ax nx cx) := cell_of_row W3 (b1 + 1) 1 _ _ (0, 0) H3.out.row
    rw [hb1] at d1
    by_cases h10 : 10 < nx
    · have g1 : decide ((10 : Int) < (nx : Int)) = true := decide_eq_true (by omega)
      go_wp2_with fail
      refine HW.out.mono ?_
      rintro e W4 ⟨rfl, hB⟩
      have HE := Lib.hid (H3.out.rq.bel.trans (hB.mono H3.out.rq.bel.size))
      clear hB
      go_wp2
      go_ret
      exact ⟨rfl, HE.out⟩
    have g1 : decide ((10 : Int) < (nx : Int)) = false := decide_eq_false (by omega)
    have HXL : Hid (xs.length ≤ 10) := Lib.hid (by have := HL.out; omega)
    clear HW
    obtain ⟨V4, W4, hr4, hF4, hB4⟩ := run_copyF H3.out.rq.fa (by have := HSR.out.few; omega) 23
    have H4 := Lib.hid (H3.out.below hB4)
    obtain ⟨V5, W5, hr5, hF5, hB5⟩ := run_copyF H4.out.fx (by have := HXL.out; omega) 23
    have H5 := Lib.hid (H4.out.below hB5)
    obtain ⟨g4, hA4, -⟩ := FO.fa hF4
    obtain ⟨g5, hA5, -⟩ := FO.fa hF5
    have HV := Lib.hid (And.intro (hA4.below hB5) hA5)
    have f4 : (W3.alloc (.cells #[] 53)).cell? ⟨b1, 4, none⟩ = some Vr := (H3.out.below ((Below.refl _ _).alloc (Nat.le_refl _) _)).rq.cell 4 _ rfl
    have f5 : (W4.alloc (.cells #[] 53)).cell? ⟨b1 + 1, 1, none⟩ = some (.slice ax nx cx) := cell_of_row _ (b1 + 1) 1 _ _ (0, 0) (H4.out.below ((Below.refl _ _).alloc (Nat.le_refl _) _)).row
    have hwr := HC.out.wrap l V bs os 21 #[.pointer (some ⟨b1 + 1, 0, none⟩)] W5 H5.out.rq.bel H5.out.st HSL.out (enters_of Tryd.func21 (by kernel_rfl) rfl)
    unfold hV at hwr
    rw [hb1] at f4 f5 hwr
    have HW := Lib.hid hwr
    have HR4 := Lib.hid hr4
    have HR5 := Lib.hid hr5
    clear hwr hA4 hA5 hF4 hF5 hB4 hB5 HL hr4 hr5
    go_wp2_with first
      | (at_builtin; refine wpList_append_at rfl (.tmp 24) (.tmp 26) 23 rfl _ _ rfl rfl V4 W4 HR4.out ?_)
      | (at_builtin; refine wpList_append_at rfl (.tmp 28) (.tmp 30) 23 rfl _ _ rfl rfl V5 W5 HR5.out ?_)
    refine HW.out.mono ?_
    rintro e W6 ⟨hB6, h6⟩
    clear HW HR4 HR5 f4 f5 d1
    have H6 := Lib.hid (H5.out.below hB6)
    rcases h6 with ⟨h6, rfl⟩ | ⟨left, g, lb, rfl, hen, hd⟩
    · have HW := Lib.hid (wakes13_any (HC.out.up H6.out.rq.bel))
      have heq : ∀ w, (binOp .eql 40 .nilFunc .nilFunc).run Tryd.prog w = .ok (.bool true) w := eql_nilnil Tryd.underlying40
      obtain ⟨wc, hwc⟩ : ∃ c, c = wrapC l := ⟨_, rfl⟩
      rw [← hwc] at h6 ⊢
      have hne : ((wc : Int) != 0) = true := by rw [bne_iff_ne]; omega
      clear hwc hB6
      go_wp2_with fail
      refine HW.out.mono ?_
      rintro e W7 ⟨rfl, hB⟩
      have HE := Lib.hid (H6.out.rq.bel.trans (hB.mono H6.out.rq.bel.size))
      clear hB
      go_wp2
      go_ret
      exact ⟨rfl, HE.out⟩
    · have hen' : ∀ args w, (callFunc g args).run Tryd.prog w = .ok (.enter g args) w := hen
      have heq : ∀ w, (binOp .eql 40 (.func (.func g) #[] lb) .nilFunc).run Tryd.prog w = .ok (.bool false) w := eql_nilFunc Tryd.underlying40 (.func g) #[] lb
      have HD := Lib.hid hd
      have hdo := stays_does hd (W := W6) (Nat.le_refl _) (fun k _ _ => rfl) r Vr b o H6.out.rq.fa HSR.out c ax nx cx body xs b0 o0 H6.out.fx HXL.out (by rw [← hb1]; exact H6.out.row)
      have HDO := Lib.hid hdo
      unfold rqV at HDO
      have hrc : rqC r Vr = #[S r.m, S r.p, S r.q, .int .i64 r.v, Vr, S r.body, .bool r.cl] := rfl
      rw [hrc] at HDO
      have c0 : W6.cell? ⟨b1, 0, none⟩ = some (S r.m) := H6.out.rq.cell 0 _ rfl
      have c1 : W6.cell? ⟨b1, 1, none⟩ = some (S r.p) := H6.out.rq.cell 1 _ rfl
      have c2 : W6.cell? ⟨b1, 2, none⟩ = some (S r.q) := H6.out.rq.cell 2 _ rfl
      have c3 : W6.cell? ⟨b1, 3, none⟩ = some (.int .i64 r.v) := H6.out.rq.cell 3 _ rfl
      have c4 : W6.cell? ⟨b1, 4, none⟩ = some (Vr) := H6.out.rq.cell 4 _ rfl
      have c5 : W6.cell? ⟨b1, 5, none⟩ = some (S r.body) := H6.out.rq.cell 5 _ rfl
      have c6 : W6.cell? ⟨b1, 6, none⟩ = some (.bool r.cl) := H6.out.rq.cell 6 _ rfl
      rw [hb1] at c0 c1 c2 c3 c4 c5 c6
      have HB6 := Lib.hid hB6
      clear hd hdo hrc hB6
      go_wp2_with fail
      refine HDO.out.mono ?_
      rintro e W7 ⟨V7, rfl, hF7, hB7⟩
      have hfew := stayA_few c body xs r l
      have HST : Hid (∀ W : World, W6.heap.size ≤ W.heap.size → (∀ k, W5.heap.size ≤ k → k < W6.heap.size → W.heap[k]? = W6.heap[k]?) → StayAt w b1 r Vr b o c ax nx cx body xs b0 o0 V l bs os W →
          Calls Tryd.prog g (#[rqV r Vr] ++ lb) W (AnsI (stayA c body xs r l) W)) := Lib.hid fun W h1 h2 h3 => stays_does HD.out h1 h2 r Vr b o h3.rq.fa HSR.out c ax nx cx body xs b0 o0 h3.fx HXL.out (by rw [← hb1]; exact h3.row)
      clear HDO c0 c1 c2 c3 c4 c5 c6 HD
      generalize stayA c body xs r l = A at *
      obtain ⟨ca, ba, fa⟩ := A
      dsimp only at hF7 hfew ⊢
      obtain ⟨K, hK⟩ : ∃ K, K = fa.length := ⟨_, rfl⟩
      obtain ⟨g7, hA7, -⟩ := FO.fa hF7
      obtain ⟨a7, q7, hv7⟩ := hA7.form
      subst hv7
      rw [← hK] at hfew hF7 ⊢
      have hK22 : K ≤ 22 := by have := HXL.out; have := HSL.out.1; omega
      have HK := Lib.hid hK
      have H7 := Lib.hid (H6.out.below (hB7.mono (Nat.le_refl _)))
      obtain ⟨VV, hVV⟩ : ∃ V, V = Value.slice a7 K q7 := ⟨_, rfl⟩
      have hlK : ∀ w', (Builtin.len_ #[23] 3 #[.slice a7 K q7]).run Tryd.prog w' = .ok (.int .i64 (K : Int)) w' := fun w' => by simp [Builtin.len_, run_underlying Tryd.underlying23, Result.andThen, goInt]
      obtain ⟨W8, hW8⟩ : ∃ W, W = W7.alloc (.cells #[.int .i64 ca, .slice a7 K q7, S ba] 27) := ⟨_, rfl⟩
      obtain ⟨b8, hb8⟩ : ∃ b, b = W7.heap.size := ⟨_, rfl⟩
      have hB8 : Below W7.heap.size W7 W8 := by rw [hW8]; exact (Below.refl _ _).alloc (Nat.le_refl _) _
      have hr8 : Row W8 b8 #[.int .i64 ca, .slice a7 K q7, S ba] 27 := by rw [hW8, hb8]; exact row_new _ _ _
      have HF8 : Hid (FO W6.heap.size VV fa W8) := Lib.hid (by
        rw [hVV]
        unfold FO at hF7 ⊢
        rw [← hK] at hF7 ⊢
        rcases hF7.2 with hn | ⟨g, cap, cur, h1, h2, h3, h4⟩
        · exact ⟨hF7.1, .inl hn⟩
        · exact ⟨hF7.1, .inr ⟨g, cap, cur, h1, h2, (by rw [hB8.block g (Array.getElem?_eq_some_iff.1 h3).1]; exact h3), h4⟩⟩)
      have HB8 : Hid (Below W6.heap.size W6 W8) := Lib.hid (hB7.trans (hB8.mono hB7.size))
      have hown8 : VV.ownBlock ≠ some b8 := fun e => by rw [hVV] at e; have := (hF7.own_lo e).2; omega
      have HO8 := Lib.hid hown8
      have HR8 := Lib.hid hr8
      clear hfew hF7 hB7 hA7 hK hB8 hr8 hown8
      unfold rpV rpC
      go_wp2
      rw [← hW8, ← hb8]
      clear hW8 hb8
      go_loopw [12] (fun iv wr => ∃ i : Nat, i ≤ K ∧ iv = .int .i64 (i : Int) ∧ Hid (∃ fs' : Fds, fs'.length = K ∧ FO W6.heap.size VV fs' wr ∧ Below W6.heap.size W6 wr ∧ Row wr b8 #[.int .i64 ca, .slice a7 K q7, S ba] 27)) (fun iv _ => K - (intOf iv).toNat)
      case atStart => exact ⟨0, Nat.zero_le _, rfl, Lib.hid ⟨fa, HK.out.symm, HF8.out, HB8.out, HR8.out⟩⟩
      case round =>
        obtain ⟨i, hi, rfl, HI⟩ := hrel
        obtain ⟨fs', hl', hF', hB', hR'⟩ := HI.out
        have d1 : wr.cell? ⟨b8, 1, none⟩ = some (.slice a7 K q7) := cell_of_row wr b8 1 _ _ (0, 0) hR'
        by_cases hlt : i < K
        · have gl : decide ((i : Int) < (K : Int)) = true := decide_eq_true (by omega)
          obtain ⟨f, hf⟩ : ∃ f, fs'[i]? = some f := ⟨fs'[i]'(by omega), List.getElem?_eq_getElem _⟩
          obtain ⟨gv, hg, hg1, hg2, hix, hc, hz, hF2⟩ := hF'.turn hf turnedT
          rw [hVV] at hix
          obtain ⟨kk, hkk⟩ : ∃ k, k = i * 2 := ⟨_, rfl⟩
          rw [← hkk] at hix hc hz hF2
          have hw1 : IntKind.i64.wrap ((i : Int) + 1) = (i : Int) + 1 := by rw [IntKind.wrap_i64]; omega
          have HE : Hid (∃ fs'' : Fds, fs''.length = K ∧ FO W6.heap.size VV fs'' (wr.setCell ⟨gv, kk + 1, none⟩ (S turnedT)) ∧ Below W6.heap.size W6 (wr.setCell ⟨gv, kk + 1, none⟩ (S turnedT)) ∧ Row (wr.setCell ⟨gv, kk + 1, none⟩ (S turnedT)) b8 #[.int .i64 ca, .slice a7 K q7, S ba] 27) :=
            Lib.hid ⟨_, by rw [List.length_set]; exact hl', hF2, hB'.setCell (p := ⟨gv, kk + 1, none⟩) hg1 _, hR'.other (fun e => HO8.out (by rw [hg, e]))⟩
          clear hF2 hF' hR' HI hf hg hg1 hg2 hkk hl' hB' left
          go_wp2
          exact ⟨⟨i + 1, by omega, by go_num, HE⟩, by simp [intOf]; omega⟩
        · have gl : decide ((i : Int) < (K : Int)) = false := decide_eq_false (by omega)
          have H9 := Lib.hid (H6.out.below hB')
          have hdo := HST.out wr hB'.size (fun k _ h => hB'.block k h) H9.out
          have HDO := Lib.hid hdo
          unfold rqV at HDO
          have hrc : rqC r Vr = #[S r.m, S r.p, S r.q, .int .i64 r.v, Vr, S r.body, .bool r.cl] := rfl
          rw [hrc] at HDO
          have c0 : wr.cell? ⟨b1, 0, none⟩ = some (S r.m) := H9.out.rq.cell 0 _ rfl
          have c1 : wr.cell? ⟨b1, 1, none⟩ = some (S r.p) := H9.out.rq.cell 1 _ rfl
          have c2 : wr.cell? ⟨b1, 2, none⟩ = some (S r.q) := H9.out.rq.cell 2 _ rfl
          have c3 : wr.cell? ⟨b1, 3, none⟩ = some (.int .i64 r.v) := H9.out.rq.cell 3 _ rfl
          have c4 : wr.cell? ⟨b1, 4, none⟩ = some (Vr) := H9.out.rq.cell 4 _ rfl
          have c5 : wr.cell? ⟨b1, 5, none⟩ = some (S r.body) := H9.out.rq.cell 5 _ rfl
          have c6 : wr.cell? ⟨b1, 6, none⟩ = some (.bool r.cl) := H9.out.rq.cell 6 _ rfl
          rw [hb1] at c0 c1 c2 c3 c4 c5 c6
          have HB9 : Hid (Below W5.heap.size W5 wr) := Lib.hid (HB6.out.trans (hB'.mono HB6.out.size))
          have HR9 := Lib.hid hR'
          clear hdo hrc hF' hB' hR' HI hl' HST HF8 HB8 HR8 left
          go_wp2_with fail
          refine HDO.out.mono ?_
          rintro e W9 ⟨V9, rfl, hF9, hB9⟩
          dsimp only at hF9 ⊢
          obtain ⟨g9, hA9, -⟩ := FO.fa hF9
          obtain ⟨a9, q9, hv9⟩ := hA9.form
          subst hv9
          rw [← HK.out] at hF9 ⊢
          have hl9 : ∀ w', (Builtin.len_ #[23] 3 #[.slice a9 K q9]).run Tryd.prog w' = .ok (.int .i64 (K : Int)) w' := fun w' => by simp [Builtin.len_, run_underlying Tryd.underlying23, Result.andThen, goInt]
          obtain ⟨W10, hW10⟩ : ∃ W, W = W9.alloc (.cells #[.int .i64 ca, .slice a9 K q9, S ba] 27) := ⟨_, rfl⟩
          obtain ⟨b10, hb10⟩ : ∃ b, b = W9.heap.size := ⟨_, rfl⟩
          have hB10 : Below W9.heap.size W9 W10 := by rw [hW10]; exact (Below.refl _ _).alloc (Nat.le_refl _) _
          have hr10 : Row W10 b10 #[.int .i64 ca, .slice a9 K q9, S ba] 27 := by rw [hW10, hb10]; exact row_new _ _ _
          have hB910 : Below wr.heap.size wr W10 := hB9.trans (hB10.mono hB9.size)
          have H10 := Lib.hid (H9.out.below hB910)
          have HB10 : Hid (Below W5.heap.size W5 W10) := Lib.hid (HB9.out.trans (hB910.mono HB9.out.size))
          have HR10 := Lib.hid (And.intro hr10 (HR9.out.below hB910 HR9.out.lt))
          have HV10 := Lib.hid (And.intro (HV.out.1.below HB10.out) (HV.out.2.below HB10.out))
          have HXX : Hid (xs.length ≤ 10) := HXL
          have HS1 := Lib.hid (sameF13_true r.fs Vr V4 b o g4 0 (by have := HSR.out.few; omega) W10 H10.out.rq.fa HV10.out.1)
          have f4 : W10.cell? ⟨b1, 4, none⟩ = some Vr := H10.out.rq.cell 4 _ rfl
          rw [hb1] at f4
          clear hA9 hF9 hB9 hB10 hr10 hB910 HDO c0 c1 c2 c3 c4 c5 c6 HV HB9 HR9 d1
          rw [hW10] at f4 HS1
          unfold rpV rpC
          go_wp2_with fail
          refine HS1.out.mono ?_
          rintro e W11 ⟨rfl, hB⟩
          rw [← hW10] at hB
          have H11 := Lib.hid (H10.out.below hB)
          have HS2 := Lib.hid (sameF13_true xs (.slice ax nx cx) V5 b0 o0 g5 0 (by have := HXX.out; omega) W11 H11.out.fx (HV10.out.2.below hB))
          have HR11 := Lib.hid (And.intro (HR10.out.1.below hB HR10.out.1.lt) (HR10.out.2.below hB HR10.out.2.lt))
          have f1 : W11.cell? ⟨b1 + 1, 1, none⟩ = some (.slice ax nx cx) := cell_of_row _ (b1 + 1) 1 _ _ (0, 0) H11.out.row
          rw [hb1] at f1
          clear hB f4 HS1 H10 HR10 HV10
          go_wp2_with fail
          refine HS2.out.mono ?_
          rintro e W12 ⟨rfl, hB⟩
          have H12 := Lib.hid (H11.out.below hB)
          have HR12 := Lib.hid (And.intro (HR11.out.1.below hB HR11.out.1.lt) (HR11.out.2.below hB HR11.out.2.lt))
          have p0 : W12.cell? ⟨b8, 0, none⟩ = some (.int .i64 ca) := cell_of_row _ b8 0 _ _ (0, 0) HR12.out.2
          have p1 : W12.cell? ⟨b8, 1, none⟩ = some (.slice a7 K q7) := cell_of_row _ b8 1 _ _ (0, 0) HR12.out.2
          have r0 : W12.cell? ⟨b10, 0, none⟩ = some (.int .i64 ca) := cell_of_row _ b10 0 _ _ (0, 0) HR12.out.1
          have r1 : W12.cell? ⟨b10, 1, none⟩ = some (.slice a9 K q9) := cell_of_row _ b10 1 _ _ (0, 0) HR12.out.1
          rw [hb10] at r0 r1
          have HW := Lib.hid (wakes13_any (HC.out.up H12.out.rq.bel))
          have e1 : ((K : Int) == (K : Int)) = true := by simp
          have e2 : (ca == ca) = true := by simp
          clear hB f1 HS2 H11 HR11
          go_wp2_with fail
          refine HW.out.mono ?_
          rintro e W13 ⟨rfl, hB⟩
          have HE := Lib.hid (H12.out.rq.bel.trans (hB.mono H12.out.rq.bel.size))
          clear hB
          go_wp2
          go_ret
          exact ⟨rfl, HE.out⟩
end Go.Proofs.YtbnlkjoblngakaaDoor
