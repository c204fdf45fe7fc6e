/- ChainGoes (stage 13) walked, over any package of chains. (mkkgc.py writes it.) -/
import Derived.Test.YtbnlkjoblngakaaDoorKgb
import Derived.Shelf.RegionOpen
namespace Go.Proofs.YtbnlkjoblngakaaDoor
open Go.RowKit Go.Shelf
attribute [local go_sem] store_one S_match S_store

set_option maxRecDepth 100000 in
set_option maxHeartbeats 2000000 in
theorem goes13law_any {w : World} (C : ChainI w) (l : List Stp) (V : Value) (bs os : Nat) (hS : StA w V l bs os) (r : Rq) (Vr : Value) (b o : Nat) (hA : FA w Vr r.fs b o)
    (c : Int) (ax : Option Addr) (nx cx : Nat) (body : Tx) (xs : Fds) (b0 o0 : Nat) (hX : FA w (.slice ax nx cx) xs b0 o0) (hnx : nx = xs.length) :
    Calls Tryd.prog 3 #[V, rqV r Vr, rpV c (.slice ax nx cx) body] w fun e w' => e = .returned (.bool true) ∧ Below w.heap.size w w' := by
  obtain ⟨av, kv, qv, rfl⟩ : ∃ av kv qv, Vr = .slice av kv qv := by obtain ⟨av, qv, hv⟩ := hA.form; exact ⟨av, _, qv, hv⟩
  unfold rqV rpV rpC
  obtain ⟨b1, hb1⟩ : ∃ b, b = w.heap.size := ⟨_, rfl⟩
  obtain ⟨W2, hW2⟩ : ∃ W, W = (w.alloc (.cells (rqC r (.slice av kv qv)) 25)).alloc (.cells #[.int .i64 c, .slice ax nx cx, S body] 27) := ⟨_, rfl⟩
  have hM1 : RqAt w b1 r (.slice av kv qv) b o (w.alloc (.cells (rqC r (.slice av kv qv)) 25)) := by rw [hb1]; exact rqAt_new hA
  have hB21 : Below (w.alloc (.cells (rqC r (.slice av kv qv)) 25)).heap.size (w.alloc (.cells (rqC r (.slice av kv qv)) 25)) W2 := by rw [hW2]; exact (Below.refl _ _).alloc (Nat.le_refl _) _
  have hrow : Row W2 (b1 + 1) (rpC c (.slice ax nx cx) body) 27 := by
    have h := row_new (w.alloc (.cells (rqC r (.slice av kv qv)) 25)) #[.int .i64 c, .slice ax nx cx, S body] 27
    rw [alloc_size, ← hb1] at h
    rw [hW2]; exact h
  have hM : RqAt w b1 r (.slice av kv qv) b o W2 := hM1.below hB21
  have hT : StayAt w b1 r (.slice av kv qv) b o c ax nx cx body xs b0 o0 V l bs os W2 := ⟨hM, hrow, hX.below hM.bel, hS.below hM.bel⟩
  have c0 : W2.cell? ⟨b1, 0, none⟩ = some (S r.m) := hM.cell 0 _ rfl
  have c1 : W2.cell? ⟨b1, 1, none⟩ = some (S r.p) := hM.cell 1 _ rfl
  have c2 : W2.cell? ⟨b1, 2, none⟩ = some (S r.q) := hM.cell 2 _ rfl
  have c3 : W2.cell? ⟨b1, 3, none⟩ = some (.int .i64 r.v) := hM.cell 3 _ rfl
  have c4 : W2.cell? ⟨b1, 4, none⟩ = some ((.slice av kv qv)) := hM.cell 4 _ rfl
  have c5 : W2.cell? ⟨b1, 5, none⟩ = some (S r.body) := hM.cell 5 _ rfl
  have c6 : W2.cell? ⟨b1, 6, none⟩ = some (.bool r.cl) := hM.cell 6 _ rfl
  have HC := Lib.hid C
  have HT := Lib.hid hT
  have hg := great13_any l V bs os r (.slice av kv qv) b o W2 hT.st hM.fa
  have HG := Lib.hid hg
  have HL : Hid (nx = xs.length) := Lib.hid hnx
  have hlX : ∀ w', (Builtin.len_ #[23] 3 #[.slice ax nx cx]).run Tryd.prog w' = .ok (.int .i64 (nx : Int)) w' := fun w' => by simp [Builtin.len_, run_underlying Tryd.underlying23, Result.andThen, goInt]
  have HBBX : ∀ {bg : Nat}, w.heap.size ≤ bg → Hid ((r.fs ≠ [] → b ≠ bg) ∧ (xs ≠ [] → b0 ≠ bg)) := fun h => Lib.hid ⟨fun hne => by have := hA.lt hne; omega, fun hne => by have := hX.lt hne; omega⟩
  clear hg C hM hM1 hB21 hrow hT hX hS hA hnx
  unfold rqV at HG
  rw [hW2] at HG c0 c1 c2 c3 c4 c5 c6
  rw [hb1] at c0 c1 c2 c3 c4 c5 c6
  have hrc : rqC r (.slice av kv qv) = #[S r.m, S r.p, S r.q, .int .i64 r.v, (.slice av kv qv), S r.body, .bool r.cl] := rfl
  rw [hrc] at HG hW2 ⊢
  simp only [hrc] at c0 c1 c2 c3 c4 c5 c6
  clear hrc
  go_enter Tryd.func3, Tryd.ntmps3
  go_wp2_with fail
  refine HG.out.mono ?_
  rintro e W3 ⟨x, rfl, hx, hB⟩
  rw [← hW2] at hB
  have H3 := Lib.hid (HT.out.below hB)
  clear hB HG c0 c1 c2 c3 c4 c5 c6 HT
  have HW := Lib.hid (wakes13_any (HC.out.up H3.out.rq.bel))
  cases x with
  | true =>
    clear hx
    go_wp2_with fail
    refine HW.out.mono ?_
    rintro e W4 ⟨rfl, hB⟩
    have HE := Lib.hid (H3.out.rq.bel.trans (hB.mono H3.out.rq.bel.size))
    clear hB
    go_wp2
    go_ret
    exact ⟨rfl, HE.out⟩
  | false =>
    obtain ⟨hsl, hsr⟩ := hx rfl
    have HSL := Lib.hid hsl
    have HSR := Lib.hid hsr
    clear hx hsl hsr
    have d1 : W3.cell? ⟨b1 + 1, 1, none⟩ = some (.slice ax nx cx) := cell_of_row W3 (b1 + 1) 1 _ _ (0, 0) H3.out.row
    rw [hb1] at d1
    by_cases h10 : 10 < nx
    · have g1 : decide ((10 : Int) < (nx : Int)) = true := decide_eq_true (by omega)
      go_wp2_with fail
      refine HW.out.mono ?_
      rintro e W4 ⟨rfl, hB⟩
      have HE := Lib.hid (H3.out.rq.bel.trans (hB.mono H3.out.rq.bel.size))
      clear hB
      go_wp2
      go_ret
      exact ⟨rfl, HE.out⟩
    have g1 : decide ((10 : Int) < (nx : Int)) = false := decide_eq_false (by omega)
    have HXL : Hid (xs.length ≤ 10) := Lib.hid (by have := HL.out; omega)
    clear HW
    have HGV := Lib.hid (given13_any l V bs os W3 H3.out.st HSL.out)
    go_wp2_with fail
    refine HGV.out.mono ?_
    rintro e W4 ⟨Vw, rfl, hgo, hB4⟩
    have H4 := Lib.hid (H3.out.below hB4)
    obtain ⟨gw, hgw, hgwb⟩ := hgo.stb
    have HW4 : Hid (StB W4 Vw l gw 0 ∧ Below W4.heap.size W4 W4) := Lib.hid ⟨hgw, Below.refl _ _⟩
    have hlV := hgw.len 3
    have hlS := H4.out.st.len 3
    obtain ⟨N, hN⟩ : ∃ N, N = l.length := ⟨_, rfl⟩
    rw [← hN] at hlV hlS
    have hN12 : N ≤ 12 := by rw [hN]; exact HSL.out.1
    have HN := Lib.hid hN
    obtain ⟨ra, hra⟩ : ∃ b, b = l.all rightS := ⟨_, rfl⟩
    rw [← hra]
    have HRA := Lib.hid hra
    clear hgo hB4 hgwb hgw hN hra HGV d1
    go_wp2
    go_loopw [9] (fun iv wr => ∃ i : Nat, i ≤ N ∧ iv = .int .i64 (i : Int) ∧ Hid (Below W4.heap.size W4 wr)) (fun iv _ => N - (intOf iv).toNat)
    case atStart => exact ⟨0, Nat.zero_le _, rfl, Lib.hid (Below.refl _ _)⟩
    case round =>
      obtain ⟨i, hi, rfl, HB⟩ := hrel
      have hw1 : IntKind.i64.wrap ((i : Int) + 1) = (i : Int) + 1 := by rw [IntKind.wrap_i64]; omega
      by_cases hlt : i < N
      · have gl : decide ((i : Int) < (N : Int)) = true := decide_eq_true (by omega)
        obtain ⟨s, hs⟩ : ∃ s, l[i]? = some s := ⟨l[i]'(by have := HN.out; omega), List.getElem?_eq_getElem _⟩
        have hsm := HSL.out.2 s (List.mem_of_getElem? hs)
        have hix := H4.out.st.index i (by have := HN.out; omega)
        have hiw := HW4.out.1.index i (by have := HN.out; omega)
        obtain ⟨ka, hka⟩ : ∃ k, k = os + i * 4 := ⟨_, rfl⟩
        obtain ⟨kb, hkb⟩ : ∃ k, k = 0 + i * 4 := ⟨_, rfl⟩
        rw [← hka] at hix
        rw [← hkb] at hiw
        have HR1 : Hid (∀ W : World, Below w.heap.size w W → Calls Tryd.prog 12 #[stV s] W fun e w' => e = .returned (.bool (rightS s)) ∧ Below W.heap.size W w') := Lib.hid fun W hB => HC.out.right s W hB hsm.1 hsm.2
        have HR2 : Hid (∀ W : World, Calls Tryd.prog 13 #[stV s] W fun e w' => e = .returned (.bool (rightS s)) ∧ Below W.heap.size W w') := Lib.hid fun W => right13_any s hsm.1 hsm.2 W
        obtain ⟨Wq, hWq⟩ : ∃ W, W = wr.drew := ⟨_, rfl⟩
        have hBq : Below W4.heap.size W4 Wq := HB.out.trans (by rw [hWq]; exact ⟨rfl, rfl, rfl, Nat.le_refl _, fun _ _ => rfl⟩)
        have HBQ := Lib.hid hBq
        generalize rightS s = rs at *
        obtain ⟨kd, nm, vl, n⟩ := s
        have hat : ∀ W : World, Below W4.heap.size W4 W → (W.cell? ⟨bs, ka, none⟩ = some (.int .i64 kd) ∧ W.cell? ⟨bs, ka + 1, none⟩ = some (S nm) ∧ W.cell? ⟨bs, ka + 2, none⟩ = some (S vl) ∧ W.cell? ⟨bs, ka + 3, none⟩ = some (.int .i64 n)) ∧
            (W.cell? ⟨gw, kb, none⟩ = some (.int .i64 kd) ∧ W.cell? ⟨gw, kb + 1, none⟩ = some (S nm) ∧ W.cell? ⟨gw, kb + 2, none⟩ = some (S vl) ∧ W.cell? ⟨gw, kb + 3, none⟩ = some (.int .i64 n)) := fun W hB => by
          have h1 := (H4.out.below hB).st
          have h2 := HW4.out.1.below hB
          rw [hka, hkb]
          exact ⟨⟨h1.cell i _ hs 0 _ rfl, h1.cell i _ hs 1 _ rfl, h1.cell i _ hs 2 _ rfl, h1.cell i _ hs 3 _ rfl⟩, h2.cell i _ hs 0 _ rfl, h2.cell i _ hs 1 _ rfl, h2.cell i _ hs 2 _ rfl, h2.cell i _ hs 3 _ rfl⟩
        have HAT := Lib.hid hat
        have HSR0 := hat wr HB.out
        have HSQ := Lib.hid (hat Wq hBq)
        clear hs hsm hka hkb hat hBq
        go_wp2
        refine wp_region_noPanic ?_
        refine wp_region_held_drew (S := fun wx => (wx.cell? ⟨bs, ka, none⟩ = some (.int .i64 kd) ∧ wx.cell? ⟨bs, ka + 1, none⟩ = some (S nm) ∧ wx.cell? ⟨bs, ka + 2, none⟩ = some (S vl) ∧ wx.cell? ⟨bs, ka + 3, none⟩ = some (.int .i64 n)) ∧
            (wx.cell? ⟨gw, kb, none⟩ = some (.int .i64 kd) ∧ wx.cell? ⟨gw, kb + 1, none⟩ = some (S nm) ∧ wx.cell? ⟨gw, kb + 2, none⟩ = some (S vl) ∧ wx.cell? ⟨gw, kb + 3, none⟩ = some (.int .i64 n))) (by kernel_rfl) HSR0 (fun _ => ?_)
        rw [← hWq]
        clear hWq HSR0
        refine take_at (i := 0) (d := some 39) (v := V) rfl (by kernel_rfl) (by kernel_rfl) (by kernel_rfl) (fun _ _ _ h => h) (fun oi ho => ?_) HSQ.out ?_
        · obtain rfl := Option.some.inj ho
          exact Or.inl ⟨by rfl, fun wx hSw => by obtain ⟨⟨hu0, hu1, hu2, hu3⟩, hv0, hv1, hv2, hv3⟩ := hSw; go_simp⟩
        simp only [Act.put, List.setIfInBounds_toArray, List.set_cons_zero, List.set_cons_succ]
        refine take_at (i := 1) (d := some 40) (v := .int .i64 (i : Int)) rfl (by kernel_rfl) (by kernel_rfl) (by kernel_rfl) (fun _ _ _ h => h) (fun oi ho => ?_) HSQ.out ?_
        · obtain rfl := Option.some.inj ho
          exact Or.inl ⟨by rfl, fun wx hSw => by obtain ⟨⟨hu0, hu1, hu2, hu3⟩, hv0, hv1, hv2, hv3⟩ := hSw; go_simp⟩
        simp only [Act.put, List.setIfInBounds_toArray, List.set_cons_zero, List.set_cons_succ]
        refine take_at (i := 2) (d := some 41) (v := .pointer (some ⟨bs, ka, none⟩)) rfl (by kernel_rfl) (by kernel_rfl) (by kernel_rfl) (fun _ _ _ h => h) (fun oi ho => ?_) HSQ.out ?_
        · obtain rfl := Option.some.inj ho
          exact Or.inl ⟨by rfl, fun wx hSw => by obtain ⟨⟨hu0, hu1, hu2, hu3⟩, hv0, hv1, hv2, hv3⟩ := hSw; go_simp⟩
        simp only [Act.put, List.setIfInBounds_toArray, List.set_cons_zero, List.set_cons_succ]
        refine take_at (i := 3) (d := some 42) (v := .agg #[.int .i64 kd, S nm, S vl, .int .i64 n]) rfl (by kernel_rfl) (by kernel_rfl) (by kernel_rfl) (fun _ _ _ h => h) (fun oi ho => ?_) HSQ.out ?_
        · obtain rfl := Option.some.inj ho
          exact Or.inl ⟨by rfl, fun wx hSw => by obtain ⟨⟨hu0, hu1, hu2, hu3⟩, hv0, hv1, hv2, hv3⟩ := hSw; go_simp⟩
        simp only [Act.put, List.setIfInBounds_toArray, List.set_cons_zero, List.set_cons_succ]
        refine take_at (i := 5) (d := some 44) (v := Vw) rfl (by kernel_rfl) (by kernel_rfl) (by kernel_rfl) (fun _ _ _ h => h) (fun oi ho => ?_) HSQ.out ?_
        · obtain rfl := Option.some.inj ho
          exact Or.inl ⟨by rfl, fun wx hSw => by obtain ⟨⟨hu0, hu1, hu2, hu3⟩, hv0, hv1, hv2, hv3⟩ := hSw; go_simp⟩
        simp only [Act.put, List.setIfInBounds_toArray, List.set_cons_zero, List.set_cons_succ]
        refine take_at (i := 6) (d := some 45) (v := .int .i64 (i : Int)) rfl (by kernel_rfl) (by kernel_rfl) (by kernel_rfl) (fun _ _ _ h => h) (fun oi ho => ?_) HSQ.out ?_
        · obtain rfl := Option.some.inj ho
          exact Or.inl ⟨by rfl, fun wx hSw => by obtain ⟨⟨hu0, hu1, hu2, hu3⟩, hv0, hv1, hv2, hv3⟩ := hSw; go_simp⟩
        simp only [Act.put, List.setIfInBounds_toArray, List.set_cons_zero, List.set_cons_succ]
        refine take_at (i := 7) (d := some 46) (v := .pointer (some ⟨gw, kb, none⟩)) rfl (by kernel_rfl) (by kernel_rfl) (by kernel_rfl) (fun _ _ _ h => h) (fun oi ho => ?_) HSQ.out ?_
        · obtain rfl := Option.some.inj ho
          exact Or.inl ⟨by rfl, fun wx hSw => by obtain ⟨⟨hu0, hu1, hu2, hu3⟩, hv0, hv1, hv2, hv3⟩ := hSw; go_simp⟩
        simp only [Act.put, List.setIfInBounds_toArray, List.set_cons_zero, List.set_cons_succ]
        refine take_at (i := 8) (d := some 47) (v := .agg #[.int .i64 kd, S nm, S vl, .int .i64 n]) rfl (by kernel_rfl) (by kernel_rfl) (by kernel_rfl) (fun _ _ _ h => h) (fun oi ho => ?_) HSQ.out ?_
        · obtain rfl := Option.some.inj ho
          exact Or.inl ⟨by rfl, fun wx hSw => by obtain ⟨⟨hu0, hu1, hu2, hu3⟩, hv0, hv1, hv2, hv3⟩ := hSw; go_simp⟩
        simp only [Act.put, List.setIfInBounds_toArray, List.set_cons_zero, List.set_cons_succ]
        refine ready_call (i := 4) (d := some 43) (f := 12) (args := #[.agg #[.int .i64 kd, S nm, S vl, .int .i64 n]]) rfl (by kernel_rfl) (fun oi ho => ?_) ?_
        · obtain rfl := Option.some.inj ho
          exact ⟨by rfl, by go_simp⟩
        refine (HR1.out Wq (H4.out.rq.bel.trans (HBQ.out.mono H4.out.rq.bel.size))).mono ?_
        rintro e W5 ⟨rfl, hB⟩
        have HB5 := Lib.hid (HBQ.out.trans (hB.mono HBQ.out.size))
        have HS5 := Lib.hid (HAT.out W5 HB5.out)
        clear hB
        refine ⟨_, rfl, HS5.out, ?_⟩
        simp only [Act.put, List.setIfInBounds_toArray, List.set_cons_zero, List.set_cons_succ]
        refine ready_call (i := 9) (d := some 48) (f := 13) (args := #[.agg #[.int .i64 kd, S nm, S vl, .int .i64 n]]) rfl (by kernel_rfl) (fun oi ho => ?_) ?_
        · obtain rfl := Option.some.inj ho
          exact ⟨by rfl, by go_simp⟩
        refine (HR2.out W5).mono ?_
        rintro e W6 ⟨rfl, hB⟩
        have HB6 := Lib.hid (HB5.out.trans (hB.mono HB5.out.size))
        have HS6 := Lib.hid (HAT.out W6 HB6.out)
        clear hB
        refine ⟨_, rfl, HS6.out, ?_⟩
        simp only [Act.put, List.setIfInBounds_toArray, List.set_cons_zero, List.set_cons_succ]
        have hrr : (rs != rs) = false := by simp
        refine take_at (i := 10) (d := some 49) (v := .bool false) rfl (by kernel_rfl) (by kernel_rfl) (by kernel_rfl) (fun _ _ _ h => h) (fun oi ho => ?_) HS6.out ?_
        · obtain rfl := Option.some.inj ho
          exact Or.inl ⟨by rfl, fun wx hSw => by go_simp⟩
        simp only [Act.put, List.setIfInBounds_toArray, List.set_cons_zero, List.set_cons_succ]
        refine wpAnyH_done (by kernel_rfl) ?_ _
        refine NoPanic.normal ?_
        go_wp2
        exact ⟨⟨i + 1, by omega, by go_num, HB6⟩, by simp [intOf]; omega⟩
      · have gl : decide ((i : Int) < (N : Int)) = false := decide_eq_false (by omega)
        clear hw1
        have hBw := HB.out
        have H5 := Lib.hid (H4.out.below hBw)
        have HW5 := Lib.hid (HW4.out.1.below hBw)
        obtain ⟨bg, hbg⟩ : ∃ b, b = wr.heap.size := ⟨_, rfl⟩
        obtain ⟨W5, hW5⟩ : ∃ W, W = wr.alloc (.cells #[.slice none 0 0] 38) := ⟨_, rfl⟩
        have hB5 : Below wr.heap.size wr W5 := by rw [hW5]; exact (Below.refl _ _).alloc (Nat.le_refl _) _
        have hg5 : Row W5 bg #[.slice none 0 0] 38 := by rw [hW5, hbg]; exact row_new _ _ _
        have H5b := Lib.hid (H5.out.below hB5)
        have HW5b := Lib.hid (HW5.out.below hB5)
        have HG5 := Lib.hid hg5
        have HLT : Hid (w.heap.size + 1 < bg ∧ bg < W5.heap.size) := Lib.hid ⟨by have := H5.out.row.lt; omega, hg5.lt⟩
        have hwr := HC.out.wrap l V bs os 15 #[.pointer (some ⟨bg, 0, none⟩), .pointer (some ⟨b1 + 1, 0, none⟩)] W5 H5b.out.rq.bel H5b.out.st HSL.out (enters_of Tryd.func15 (by kernel_rfl) rfl)
        unfold hV at hwr
        rw [hb1] at hwr
        have HWR := Lib.hid hwr
        rw [hbg, hW5] at HWR
        have HUP : Hid (∀ W' : World, Below bg wr W' → StayAt w b1 r (.slice av kv qv) b o c ax nx cx body xs b0 o0 V l bs os W' ∧ StB W' Vw l gw 0) := Lib.hid fun W' h => ⟨H5.out.below (by rwa [hbg] at h), HW5.out.below (by rwa [hbg] at h)⟩
        have HBR : Hid (Below bg wr W5) := Lib.hid (by rw [hbg]; exact hB5)
        clear hwr hB5 hg5 hBw HB H5 HW5
        by_cases h8 : 8 < N
        · have g8 : decide ((8 : Int) < (N : Int)) = true := decide_eq_true (by omega)
          have HWC : Hid (wrapC l = 6) := Lib.hid (by unfold wrapC; rw [if_pos (by have := HN.out; omega)])
          go_wp2_with fail
          refine HWR.out.mono ?_
          rintro e W6 ⟨hB6, h6⟩
          rw [← hW5] at hB6 h6
          rw [HWC.out] at h6
          rcases h6 with ⟨_, rfl⟩ | ⟨h0, _⟩
          · have H6 := Lib.hid (H5b.out.below hB6)
            have HW := Lib.hid (wakes13_any (HC.out.up H6.out.rq.bel))
            have heq : ∀ w, (binOp .eql 40 .nilFunc .nilFunc).run Tryd.prog w = .ok (.bool true) w := eql_nilnil Tryd.underlying40
            clear hB6 h8
            go_wp2_with fail
            refine HW.out.mono ?_
            rintro e W7 ⟨rfl, hB⟩
            have HE := Lib.hid (H6.out.rq.bel.trans (hB.mono H6.out.rq.bel.size))
            clear hB
            go_wp2
            go_ret
            exact ⟨rfl, HE.out⟩
          · exact absurd h0 (by decide)
        have g8 : decide ((8 : Int) < (N : Int)) = false := decide_eq_false (by omega)
        cases ra with
        | false =>
          have HWC : Hid (wrapC l = 1) := Lib.hid (by unfold wrapC; rw [if_neg (by have := HN.out; omega), if_neg (by rw [← HRA.out]; decide)])
          go_wp2_with fail
          refine HWR.out.mono ?_
          rintro e W6 ⟨hB6, h6⟩
          rw [← hW5] at hB6 h6
          rw [HWC.out] at h6
          rcases h6 with ⟨_, rfl⟩ | ⟨h0, _⟩
          · have H6 := Lib.hid (H5b.out.below hB6)
            have HW := Lib.hid (wakes13_any (HC.out.up H6.out.rq.bel))
            have heq : ∀ w, (binOp .eql 40 .nilFunc .nilFunc).run Tryd.prog w = .ok (.bool true) w := eql_nilnil Tryd.underlying40
            clear hB6 h8
            go_wp2_with fail
            refine HW.out.mono ?_
            rintro e W7 ⟨rfl, hB⟩
            have HE := Lib.hid (H6.out.rq.bel.trans (hB.mono H6.out.rq.bel.size))
            clear hB
            go_wp2
            go_ret
            exact ⟨rfl, HE.out⟩
          · exact absurd h0 (by decide)
        | true =>
          have HWC : Hid (wrapC l = 0) := Lib.hid (by unfold wrapC; rw [if_neg (by have := HN.out; omega), if_pos HRA.out.symm])
          go_wp2_with fail
          refine HWR.out.mono ?_
          rintro e W6 ⟨hB6, h6⟩
          rw [← hW5] at hB6 h6
          rw [← hbg] at h6 ⊢
          rcases h6 with ⟨h0, _⟩ | ⟨_, g, lb, rfl, hen, hd⟩
          · exact absurd HWC.out h0
          have hen' : ∀ args w, (callFunc g args).run Tryd.prog w = .ok (.enter g args) w := hen
          have heq : ∀ w, (binOp .eql 40 (.func (.func g) #[] lb) .nilFunc).run Tryd.prog w = .ok (.bool false) w := eql_nilFunc Tryd.underlying40 (.func g) #[] lb
          have H6 := Lib.hid (H5b.out.below hB6)
          have HW6 := Lib.hid (HW5b.out.below hB6)
          have HG6 := Lib.hid (HG5.out.below hB6 HG5.out.lt)
          have HBB : Hid ((r.fs ≠ [] → b ≠ bg) ∧ (xs ≠ [] → b0 ≠ bg)) := HBBX (by have := HLT.out; omega)
          have hdo := keep_does hd (W := W6) (Nat.le_refl _) (fun k _ _ => rfl) r (.slice av kv qv) b o H6.out.rq.fa HSR.out c ax nx cx body xs b0 o0 H6.out.fx HXL.out (by rw [← hb1]; exact H6.out.row) HG6.out (by have := HLT.out; omega) HLT.out.2 HBB.out.1 HBB.out.2
          have HDO := Lib.hid hdo
          unfold rqV at HDO
          have hrc : rqC r (.slice av kv qv) = #[S r.m, S r.p, S r.q, .int .i64 r.v, (.slice av kv qv), S r.body, .bool r.cl] := rfl
          rw [hrc] at HDO
          have c0 : W6.cell? ⟨b1, 0, none⟩ = some (S r.m) := H6.out.rq.cell 0 _ rfl
          have c1 : W6.cell? ⟨b1, 1, none⟩ = some (S r.p) := H6.out.rq.cell 1 _ rfl
          have c2 : W6.cell? ⟨b1, 2, none⟩ = some (S r.q) := H6.out.rq.cell 2 _ rfl
          have c3 : W6.cell? ⟨b1, 3, none⟩ = some (.int .i64 r.v) := H6.out.rq.cell 3 _ rfl
          have c4 : W6.cell? ⟨b1, 4, none⟩ = some ((.slice av kv qv)) := H6.out.rq.cell 4 _ rfl
          have c5 : W6.cell? ⟨b1, 5, none⟩ = some (S r.body) := H6.out.rq.cell 5 _ rfl
          have c6 : W6.cell? ⟨b1, 6, none⟩ = some (.bool r.cl) := H6.out.rq.cell 6 _ rfl
          rw [hb1] at c0 c1 c2 c3 c4 c5 c6
          have HB6 := Lib.hid hB6
          clear hd hdo hrc hB6 hbg hW5 HWR
          go_wp2_with fail
          refine HDO.out.mono ?_
          rintro e W7 hkp
          unfold KeepP at hkp
          obtain ⟨hR7, hm⟩ := hkp
          have hb7 : Below bg wr W7 := HBR.out.trans ((HB6.out.mono (by have := HLT.out; omega)).trans (hR7.below (fun k hk e => by omega) (by have := HLT.out; have := HB6.out.size; omega)))
          have H7 := Lib.hid (HUP.out W7 hb7)
          have hgc := go_all r.fs r.body l r.p
          have hgl := go_le r.fs r.body l r.p
          have HGOA : Hid (∀ W : World, StayAt w b1 r (.slice av kv qv) b o c ax nx cx body xs b0 o0 V l bs os W ∧ StB W Vw l gw 0 → Calls Tryd.prog 16 #[Vw, rqV r (.slice av kv qv)] W fun e w' => e = .returned (goesR (goS r.fs r.body l r.p) r (.slice av kv qv)) ∧ Below W.heap.size W w') :=
            Lib.hid fun W h => goes13_any r (.slice av kv qv) b o l Vw gw 0 W h.2 h.1.rq.fa HSL.out HSR.out
          have HBKA : Hid (∀ (n : Nat) (c' : Int) (a' : Option Addr) (n' q' : Nat) (bd' : Tx) (xs' : Fds) (b' o' : Nat) (W : World), StayAt w b1 r (.slice av kv qv) b o c ax nx cx body xs b0 o0 V l bs os W ∧ StB W Vw l gw 0 → FA W (.slice a' n' q') xs' b' o' → xs'.length ≤ 100 → n ≤ l.length →
              Calls Tryd.prog 18 #[Vw, .int .i64 (n : Int), rqV r (.slice av kv qv), rpV c' (.slice a' n' q') bd'] W fun e w' => ∃ V' g, e = .returned (rpV c' V' bd') ∧ FA w' V' (xs' ++ addsS r.fs (l.take n)) g 0 ∧ Below W.heap.size W w') :=
            Lib.hid fun n c' a' n' q' bd' xs' b' o' W h hx hl hn => back13_any r (.slice av kv qv) b o l Vw gw 0 n c' a' n' q' bd' xs' b' o' W h.2 h.1.rq.fa hx hl HSL.out HSR.out hn
          clear hb7 c0 c1 c2 c3 c4 c5 c6 HDO
          cases hgs : (goS r.fs r.body l r.p).2.2 with
          | some x =>
            rw [hgs] at hm
            obtain ⟨V7, rfl, hF7, hg7⟩ := hm
            have hGR : goesR (goS r.fs r.body l r.p) r (.slice av kv qv) = .tuple #[.int .i64 ((goS r.fs r.body l r.p).1 : Int), .agg #[S r.m, S (goS r.fs r.body l r.p).2.1, S r.q, .int .i64 r.v, (.slice av kv qv), S r.body, .bool r.cl], .agg #[.int .i64 (x.1 : Int), .slice none 0 0, S x.2]] := by unfold goesR; rw [hgs]; rfl
            rw [hGR] at HGOA
            have hlt : (goS r.fs r.body l r.p).1 < l.length := by
              rcases Nat.lt_or_ge (goS r.fs r.body l r.p).1 l.length with h | h
              · exact h
              · have := hgc.1 (by omega)
                rw [hgs] at this; cases this
            generalize hn0 : (goS r.fs r.body l r.p).1 = n0 at *
            generalize (goS r.fs r.body l r.p).2.1 = p0 at *
            obtain ⟨xc, xb⟩ := x
            dsimp only at *
            obtain ⟨g7, hA7, -⟩ := FO.fa hF7
            obtain ⟨a7, q7, hv7⟩ := hA7.form
            obtain ⟨K7, hK7⟩ : ∃ K, K = List.length (addsS r.fs (l.take n0)) := ⟨_, rfl⟩
            rw [← hK7] at hv7
            subst hv7
            have HK7 := Lib.hid hK7
            have HGS := Lib.hid (And.intro hgs (And.intro hn0 hlt))
            obtain ⟨W8, hW8⟩ : ∃ W, W = W7.alloc (.cells #[.int .i64 (xc : Int), .slice a7 K7 q7, S xb] 27) := ⟨_, rfl⟩
            obtain ⟨b8, hb8⟩ : ∃ b, b = W7.heap.size := ⟨_, rfl⟩
            have hB8 : Below W7.heap.size W7 W8 := by rw [hW8]; exact (Below.refl _ _).alloc (Nat.le_refl _) _
            have hr8 : Row W8 b8 #[.int .i64 (xc : Int), .slice a7 K7 q7, S xb] 27 := by rw [hW8, hb8]; exact row_new _ _ _
            have H8 := Lib.hid (And.intro (H7.out.1.below hB8) (H7.out.2.below hB8))
            have HX8 := Lib.hid (And.intro hr8 (And.intro (hg7.below hB8 hg7.lt) (hA7.below hB8)))
            have hgo := HGOA.out W8 H8.out
            unfold rqV at hgo
            have hrc : rqC r (.slice av kv qv) = #[S r.m, S r.p, S r.q, .int .i64 r.v, (.slice av kv qv), S r.body, .bool r.cl] := rfl
            rw [hrc] at hgo
            have HGO := Lib.hid hgo
            have c0 : W8.cell? ⟨b1, 0, none⟩ = some (S r.m) := H8.out.1.rq.cell 0 _ rfl
            have c1 : W8.cell? ⟨b1, 1, none⟩ = some (S r.p) := H8.out.1.rq.cell 1 _ rfl
            have c2 : W8.cell? ⟨b1, 2, none⟩ = some (S r.q) := H8.out.1.rq.cell 2 _ rfl
            have c3 : W8.cell? ⟨b1, 3, none⟩ = some (.int .i64 r.v) := H8.out.1.rq.cell 3 _ rfl
            have c4 : W8.cell? ⟨b1, 4, none⟩ = some ((.slice av kv qv)) := H8.out.1.rq.cell 4 _ rfl
            have c5 : W8.cell? ⟨b1, 5, none⟩ = some (S r.body) := H8.out.1.rq.cell 5 _ rfl
            have c6 : W8.cell? ⟨b1, 6, none⟩ = some (.bool r.cl) := H8.out.1.rq.cell 6 _ rfl
            rw [hb1] at c0 c1 c2 c3 c4 c5 c6
            rw [hW8] at HGO c0 c1 c2 c3 c4 c5 c6
            have HB78 := Lib.hid hB8
            clear hF7 hA7 hB8 hr8 hg7 hgo hrc hR7 hK7 hgs hn0 hlt hgc hgl hGR
            unfold rpV rpC
            go_wp2_with fail
            refine HGO.out.mono ?_
            rintro e W9 ⟨rfl, hB9⟩
            rw [← hW8] at hB9
            rw [← hb8]
            have H9 := Lib.hid (And.intro (H8.out.1.below hB9) (H8.out.2.below hB9))
            have HX9 := Lib.hid (And.intro (HX8.out.1.below hB9 HX8.out.1.lt) (And.intro (HX8.out.2.1.below hB9 HX8.out.2.1.lt) (HX8.out.2.2.below hB9)))
            have HB79 := Lib.hid (HB78.out.trans (hB9.mono HB78.out.size))
            clear hB9 c0 c1 c2 c3 c4 c5 c6 HGO hW8 hb8 H8 HX8
            have HCELL : Hid (∀ W : World, Below W9.heap.size W9 W → StayAt w b1 r (.slice av kv qv) b o c ax nx cx body xs b0 o0 V l bs os W ∧ StB W Vw l gw 0 ∧ Row W b8 #[.int .i64 (xc : Int), .slice a7 K7 q7, S xb] 27 ∧ Row W bg #[.slice none 0 0] 38 ∧ FA W (.slice a7 K7 q7) (addsS r.fs (l.take n0)) g7 0) :=
              Lib.hid fun W h => ⟨H9.out.1.below h, H9.out.2.below h, HX9.out.1.below h HX9.out.1.lt, HX9.out.2.1.below h HX9.out.2.1.lt, HX9.out.2.2.below h⟩
            obtain ⟨W10, hW10⟩ : ∃ W, W = (W9.alloc (.cells #[S r.m, S p0, S r.q, .int .i64 r.v, .slice av kv qv, S r.body, .bool r.cl] 25)).alloc (.cells #[.int .i64 (xc : Int), .slice none 0 0, S xb] 27) := ⟨_, rfl⟩
            have hB10 : Below W9.heap.size W9 W10 := by rw [hW10]; exact ((Below.refl _ _).alloc (Nat.le_refl _) _).alloc (by rw [alloc_size]; omega) _
            obtain ⟨b10, hb10⟩ : ∃ b, b = W9.heap.size + 1 := ⟨_, rfl⟩
            have hr10 : Row W10 b10 #[.int .i64 (xc : Int), .slice none 0 0, S xb] 27 := by
              have h := row_new (W9.alloc (.cells #[S r.m, S p0, S r.q, .int .i64 r.v, .slice av kv qv, S r.body, .bool r.cl] 25)) #[.int .i64 (xc : Int), .slice none 0 0, S xb] 27
              rw [alloc_size, ← hb10] at h
              rw [hW10]; exact h
            obtain ⟨Wq, hWq⟩ : ∃ W, W = W10.drew := ⟨_, rfl⟩
            have hB10q : Below W10.heap.size W10 Wq := by rw [hWq]; exact ⟨rfl, rfl, rfl, Nat.le_refl _, fun _ _ => rfl⟩
            have HR10 := Lib.hid hr10
            have HUPQ : Hid (∀ W : World, Below Wq.heap.size Wq W → Below W9.heap.size W9 W ∧ Row W b10 #[.int .i64 (xc : Int), .slice none 0 0, S xb] 27) := Lib.hid fun W h =>
              ⟨hB10.trans ((hB10q.mono hB10.size).trans (h.mono (Nat.le_trans hB10.size hB10q.size))), (hr10.below hB10q hr10.lt).below h (hr10.below hB10q hr10.lt).lt⟩
            have hS : ∀ W : World, Below W9.heap.size W9 W ∧ Row W b10 #[.int .i64 (xc : Int), .slice none 0 0, S xb] 27 → (W.cell? ⟨bg, 0, none⟩ = some (.slice none 0 0) ∧ W.cell? ⟨b8, 0, none⟩ = some (.int .i64 (xc : Int)) ∧ W.cell? ⟨b8, 1, none⟩ = some (.slice a7 K7 q7) ∧ W.cell? ⟨b8, 2, none⟩ = some (S xb)) ∧
              (W.cell? ⟨w.heap.size, 0, none⟩ = some (S r.m) ∧ W.cell? ⟨w.heap.size, 1, none⟩ = some (S r.p) ∧ W.cell? ⟨w.heap.size, 2, none⟩ = some (S r.q) ∧ W.cell? ⟨w.heap.size, 3, none⟩ = some (.int .i64 r.v) ∧ W.cell? ⟨w.heap.size, 4, none⟩ = some (.slice av kv qv) ∧ W.cell? ⟨w.heap.size, 5, none⟩ = some (S r.body) ∧ W.cell? ⟨w.heap.size, 6, none⟩ = some (.bool r.cl)) ∧
              W.cell? ⟨b10, 0, none⟩ = some (.int .i64 (xc : Int)) ∧ W.cell? ⟨b10, 1, none⟩ = some (.slice none 0 0) ∧ W.cell? ⟨b10, 2, none⟩ = some (S xb) := fun W h => by
              have k := HCELL.out W h.1
              have k1 := k.1.rq
              rw [← hb1]
              exact ⟨⟨cell_of_row W bg 0 _ _ (0, 0) k.2.2.2.1, cell_of_row W b8 0 _ _ (0, 0) k.2.2.1, cell_of_row W b8 1 _ _ (0, 0) k.2.2.1, cell_of_row W b8 2 _ _ (0, 0) k.2.2.1⟩, ⟨k1.cell 0 _ rfl, k1.cell 1 _ rfl, k1.cell 2 _ rfl, k1.cell 3 _ rfl, k1.cell 4 _ rfl, k1.cell 5 _ rfl, k1.cell 6 _ rfl⟩, cell_of_row W b10 0 _ _ (0, 0) h.2, cell_of_row W b10 1 _ _ (0, 0) h.2, cell_of_row W b10 2 _ _ (0, 0) h.2⟩
            have HSF := Lib.hid hS
            have HS10 := hS W10 ⟨hB10, hr10⟩
            have HSQ := Lib.hid (hS Wq (HUPQ.out Wq (Below.refl _ _)))
            have gn : decide ((n0 : Int) < (N : Int)) = true := decide_eq_true (by have := HGS.out.2.2; have := HN.out; omega)
            have gn' : decide (n0 < N) = true := decide_eq_true (by have := HGS.out.2.2; have := HN.out; omega)
            have hlG : ∀ w', (Builtin.len_ #[38] 3 #[.slice none 0 0]).run Tryd.prog w' = .ok (.int .i64 0) w' := fun w' => by simp [Builtin.len_, run_underlying Tryd.underlying38, Result.andThen, goInt]
            have hbk := HBKA.out n0 (xc : Int) none 0 0 xb [] 0 0 Wq ⟨(HCELL.out Wq (HUPQ.out Wq (Below.refl _ _)).1).1, (HCELL.out Wq (HUPQ.out Wq (Below.refl _ _)).1).2.1⟩ (fa_nil _ _ _) (by simp) (by have := HGS.out.2.2; omega)
            unfold rqV rpV at hbk
            have hrc : rqC r (.slice av kv qv) = #[S r.m, S r.p, S r.q, .int .i64 r.v, .slice av kv qv, S r.body, .bool r.cl] := rfl
            rw [hrc] at hbk
            have HBK1 := Lib.hid hbk
            have HLX : Hid ((addsS r.fs (l.take n0)).length ≤ 1000000) := Lib.hid (by rw [adds_len]; have h1 := cnt_le (l.take n0); have h2 : (l.take n0).length ≤ l.length := (by rw [List.length_take]; omega); have h3 := HSL.out.1; omega)
            clear hS hB10 hr10 hB10q hbk hrc
            go_wp2
            rw [← hW10, ← hb10]
            clear hW10 hb10
            refine wp_region_noPanic ?_
            refine wp_region_held_drew (S := fun W => (W.cell? ⟨bg, 0, none⟩ = some (.slice none 0 0) ∧ W.cell? ⟨b8, 0, none⟩ = some (.int .i64 (xc : Int)) ∧ W.cell? ⟨b8, 1, none⟩ = some (.slice a7 K7 q7) ∧ W.cell? ⟨b8, 2, none⟩ = some (S xb)) ∧
              (W.cell? ⟨w.heap.size, 0, none⟩ = some (S r.m) ∧ W.cell? ⟨w.heap.size, 1, none⟩ = some (S r.p) ∧ W.cell? ⟨w.heap.size, 2, none⟩ = some (S r.q) ∧ W.cell? ⟨w.heap.size, 3, none⟩ = some (.int .i64 r.v) ∧ W.cell? ⟨w.heap.size, 4, none⟩ = some (.slice av kv qv) ∧ W.cell? ⟨w.heap.size, 5, none⟩ = some (S r.body) ∧ W.cell? ⟨w.heap.size, 6, none⟩ = some (.bool r.cl)) ∧
              W.cell? ⟨b10, 0, none⟩ = some (.int .i64 (xc : Int)) ∧ W.cell? ⟨b10, 1, none⟩ = some (.slice none 0 0) ∧ W.cell? ⟨b10, 2, none⟩ = some (S xb)) (by kernel_rfl) HS10 (fun _ => ?_)
            rw [← hWq]
            clear hWq HS10
            refine take_at (i := 0) (d := some 87) (v := .slice none 0 0) rfl (by kernel_rfl) (by kernel_rfl) (by kernel_rfl) (fun _ _ _ h => h) (fun oi ho => ?_) HSQ.out ?_
            · obtain rfl := Option.some.inj ho
              exact Or.inl ⟨by rfl, fun wx hSw => by obtain ⟨⟨hu0, hu1, hu2, hu3⟩, ⟨hv0, hv1, hv2, hv3, hv4, hv5, hv6⟩, hz0, hz1, hz2⟩ := hSw; go_simp⟩
            simp only [Act.put, List.setIfInBounds_toArray, List.set_cons_zero, List.set_cons_succ]
            refine take_at (i := 1) (d := some 88) (v := .int .i64 0) rfl (by kernel_rfl) (by kernel_rfl) (by kernel_rfl) (fun _ _ _ h => h) (fun oi ho => ?_) HSQ.out ?_
            · obtain rfl := Option.some.inj ho
              exact Or.inl ⟨by rfl, fun wx hSw => by obtain ⟨⟨hu0, hu1, hu2, hu3⟩, ⟨hv0, hv1, hv2, hv3, hv4, hv5, hv6⟩, hz0, hz1, hz2⟩ := hSw; go_simp⟩
            simp only [Act.put, List.setIfInBounds_toArray, List.set_cons_zero, List.set_cons_succ]
            refine take_at (i := 2) (d := some 89) (v := .bool true) rfl (by kernel_rfl) (by kernel_rfl) (by kernel_rfl) (fun _ _ _ h => h) (fun oi ho => ?_) HSQ.out ?_
            · obtain rfl := Option.some.inj ho
              exact Or.inl ⟨by rfl, fun wx hSw => by obtain ⟨⟨hu0, hu1, hu2, hu3⟩, ⟨hv0, hv1, hv2, hv3, hv4, hv5, hv6⟩, hz0, hz1, hz2⟩ := hSw; go_simp⟩
            simp only [Act.put, List.setIfInBounds_toArray, List.set_cons_zero, List.set_cons_succ]
            refine take_at (i := 3) (d := some 90) (v := .bool true) rfl (by kernel_rfl) (by kernel_rfl) (by kernel_rfl) (fun _ _ _ h => h) (fun oi ho => ?_) HSQ.out ?_
            · obtain rfl := Option.some.inj ho
              exact Or.inl ⟨by rfl, fun wx hSw => by obtain ⟨⟨hu0, hu1, hu2, hu3⟩, ⟨hv0, hv1, hv2, hv3, hv4, hv5, hv6⟩, hz0, hz1, hz2⟩ := hSw; go_simp⟩
            simp only [Act.put, List.setIfInBounds_toArray, List.set_cons_zero, List.set_cons_succ]
            refine take_at (i := 4) (d := some 91) (v := .agg #[.int .i64 (xc : Int), .slice a7 K7 q7, S xb]) rfl (by kernel_rfl) (by kernel_rfl) (by kernel_rfl) (fun _ _ _ h => h) (fun oi ho => ?_) HSQ.out ?_
            · obtain rfl := Option.some.inj ho
              exact Or.inl ⟨by rfl, fun wx hSw => by obtain ⟨⟨hu0, hu1, hu2, hu3⟩, ⟨hv0, hv1, hv2, hv3, hv4, hv5, hv6⟩, hz0, hz1, hz2⟩ := hSw; go_simp⟩
            simp only [Act.put, List.setIfInBounds_toArray, List.set_cons_zero, List.set_cons_succ]
            refine take_at (i := 5) (d := some 92) (v := Vw) rfl (by kernel_rfl) (by kernel_rfl) (by kernel_rfl) (fun _ _ _ h => h) (fun oi ho => ?_) HSQ.out ?_
            · obtain rfl := Option.some.inj ho
              exact Or.inl ⟨by rfl, fun wx hSw => by obtain ⟨⟨hu0, hu1, hu2, hu3⟩, ⟨hv0, hv1, hv2, hv3, hv4, hv5, hv6⟩, hz0, hz1, hz2⟩ := hSw; go_simp⟩
            simp only [Act.put, List.setIfInBounds_toArray, List.set_cons_zero, List.set_cons_succ]
            refine take_at (i := 6) (d := some 93) (v := .int .i64 (n0 : Int)) rfl (by kernel_rfl) (by kernel_rfl) (by kernel_rfl) (fun _ _ _ h => h) (fun oi ho => ?_) HSQ.out ?_
            · obtain rfl := Option.some.inj ho
              exact Or.inl ⟨by rfl, fun wx hSw => by obtain ⟨⟨hu0, hu1, hu2, hu3⟩, ⟨hv0, hv1, hv2, hv3, hv4, hv5, hv6⟩, hz0, hz1, hz2⟩ := hSw; go_simp⟩
            simp only [Act.put, List.setIfInBounds_toArray, List.set_cons_zero, List.set_cons_succ]
            refine take_at (i := 7) (d := some 94) (v := .agg #[S r.m, S r.p, S r.q, .int .i64 r.v, .slice av kv qv, S r.body, .bool r.cl]) rfl (by kernel_rfl) (by kernel_rfl) (by kernel_rfl) (fun _ _ _ h => h) (fun oi ho => ?_) HSQ.out ?_
            · obtain rfl := Option.some.inj ho
              exact Or.inl ⟨by rfl, fun wx hSw => by obtain ⟨⟨hu0, hu1, hu2, hu3⟩, ⟨hv0, hv1, hv2, hv3, hv4, hv5, hv6⟩, hz0, hz1, hz2⟩ := hSw; go_simp⟩
            simp only [Act.put, List.setIfInBounds_toArray, List.set_cons_zero, List.set_cons_succ]
            refine take_at (i := 8) (d := some 95) (v := .agg #[.int .i64 (xc : Int), .slice none 0 0, S xb]) rfl (by kernel_rfl) (by kernel_rfl) (by kernel_rfl) (fun _ _ _ h => h) (fun oi ho => ?_) HSQ.out ?_
            · obtain rfl := Option.some.inj ho
              exact Or.inl ⟨by rfl, fun wx hSw => by obtain ⟨⟨hu0, hu1, hu2, hu3⟩, ⟨hv0, hv1, hv2, hv3, hv4, hv5, hv6⟩, hz0, hz1, hz2⟩ := hSw; go_simp⟩
            simp only [Act.put, List.setIfInBounds_toArray, List.set_cons_zero, List.set_cons_succ]
            refine ready_call (i := 9) (d := some 96) (f := 18) (args := #[Vw, .int .i64 (n0 : Int), .agg #[S r.m, S r.p, S r.q, .int .i64 r.v, .slice av kv qv, S r.body, .bool r.cl], .agg #[.int .i64 (xc : Int), .slice none 0 0, S xb]]) rfl (by kernel_rfl) (fun oi ho => ?_) ?_
            · obtain rfl := Option.some.inj ho
              exact ⟨by rfl, by go_simp⟩
            refine HBK1.out.mono ?_
            rintro e W11 ⟨V11, g11, rfl, hA11, hB11⟩
            rw [List.nil_append] at hA11
            have HU11 := HUPQ.out W11 hB11
            have HS11 := Lib.hid (HSF.out W11 HU11)
            have HSM := Lib.hid (same13_true (xc : Int) xb (addsS r.fs (l.take n0)) (.slice a7 K7 q7) V11 g7 0 g11 0 HLX.out W11 (HCELL.out W11 HU11.1).2.2.2.2 hA11)
            have HQ11 := Lib.hid hB11
            unfold rpV rpC at HSM
            unfold rpC
            clear hA11 hB11 HU11
            refine ⟨_, rfl, HS11.out, ?_⟩
            simp only [Act.put, List.setIfInBounds_toArray, List.set_cons_zero, List.set_cons_succ]
            refine ready_call (i := 10) (d := some 97) (f := 17) (args := #[.agg #[.int .i64 (xc : Int), .slice a7 K7 q7, S xb], .agg #[.int .i64 (xc : Int), V11, S xb]]) rfl (by kernel_rfl) (fun oi ho => ?_) ?_
            · obtain rfl := Option.some.inj ho
              exact ⟨by rfl, by go_simp⟩
            refine HSM.out.mono ?_
            rintro e W12 ⟨rfl, hB12⟩
            have HQ12 := Lib.hid (HQ11.out.trans (hB12.mono HQ11.out.size))
            have HU12 := HUPQ.out W12 HQ12.out
            have HS12 := Lib.hid (HSF.out W12 HU12)
            have HWK := Lib.hid (wakes13_any (HC.out.up (HCELL.out W12 HU12.1).1.rq.bel))
            have HBE := Lib.hid (HCELL.out W12 HU12.1).1.rq.bel
            clear hB12 HU12
            refine ⟨_, rfl, HS12.out, ?_⟩
            simp only [Act.put, List.setIfInBounds_toArray, List.set_cons_zero, List.set_cons_succ]
            refine take_at (i := 11) (d := some 98) (v := .bool true) rfl (by kernel_rfl) (by kernel_rfl) (by kernel_rfl) (fun _ _ _ h => h) (fun oi ho => ?_) HS12.out ?_
            · obtain rfl := Option.some.inj ho
              exact Or.inl ⟨by rfl, fun wx hSw => by obtain ⟨⟨hu0, hu1, hu2, hu3⟩, ⟨hv0, hv1, hv2, hv3, hv4, hv5, hv6⟩, hz0, hz1, hz2⟩ := hSw; go_simp⟩
            simp only [Act.put, List.setIfInBounds_toArray, List.set_cons_zero, List.set_cons_succ]
            refine take_at (i := 12) (d := some 99) (v := .bool true) rfl (by kernel_rfl) (by kernel_rfl) (by kernel_rfl) (fun _ _ _ h => h) (fun oi ho => ?_) HS12.out ?_
            · obtain rfl := Option.some.inj ho
              exact Or.inl ⟨by rfl, fun wx hSw => by obtain ⟨⟨hu0, hu1, hu2, hu3⟩, ⟨hv0, hv1, hv2, hv3, hv4, hv5, hv6⟩, hz0, hz1, hz2⟩ := hSw; go_simp⟩
            simp only [Act.put, List.setIfInBounds_toArray, List.set_cons_zero, List.set_cons_succ]
            refine ready_call (i := 13) (d := some 100) (f := 10) (args := #[]) rfl (by kernel_rfl) (fun oi ho => ?_) ?_
            · obtain rfl := Option.some.inj ho
              exact ⟨by rfl, by go_simp⟩
            refine HWK.out.mono ?_
            rintro e W13 ⟨rfl, hB13⟩
            have HQ13 := Lib.hid (HQ12.out.trans (hB13.mono HQ12.out.size))
            have HS13 := Lib.hid (HSF.out W13 (HUPQ.out W13 HQ13.out))
            have HE := Lib.hid (HBE.out.trans (hB13.mono HBE.out.size))
            clear hB13
            refine ⟨_, rfl, HS13.out, ?_⟩
            simp only [Act.put, List.setIfInBounds_toArray, List.set_cons_zero, List.set_cons_succ]
            refine take_at (i := 14) (d := some 101) (v := .bool true) rfl (by kernel_rfl) (by kernel_rfl) (by kernel_rfl) (fun _ _ _ h => h) (fun oi ho => ?_) HS13.out ?_
            · obtain rfl := Option.some.inj ho
              exact Or.inl ⟨by rfl, fun wx hSw => by obtain ⟨⟨hu0, hu1, hu2, hu3⟩, ⟨hv0, hv1, hv2, hv3, hv4, hv5, hv6⟩, hz0, hz1, hz2⟩ := hSw; go_simp⟩
            simp only [Act.put, List.setIfInBounds_toArray, List.set_cons_zero, List.set_cons_succ]
            refine take_at (i := 15) (d := some 6) (v := .bool true) rfl (by kernel_rfl) (by kernel_rfl) (by kernel_rfl) (fun _ _ _ h => h) (fun oi ho => ?_) HS13.out ?_
            · obtain rfl := Option.some.inj ho
              exact Or.inl ⟨by rfl, fun wx hSw => by obtain ⟨⟨hu0, hu1, hu2, hu3⟩, ⟨hv0, hv1, hv2, hv3, hv4, hv5, hv6⟩, hz0, hz1, hz2⟩ := hSw; go_simp⟩
            simp only [Act.put, List.setIfInBounds_toArray, List.set_cons_zero, List.set_cons_succ]
            refine wpAnyH_done (by kernel_rfl) ?_ _
            refine NoPanic.normal ?_
            go_wp2
            go_ret
            exact ⟨rfl, HE.out⟩
          | none =>
            rw [hgs] at hm
            obtain ⟨V7, V1, gg, cap, g1, rfl, hF7, hg7, hcell, hA1⟩ := hm
            obtain ⟨a1, k1, q1, rfl⟩ : ∃ a k q, V1 = .slice a k q := by obtain ⟨a, q, hv⟩ := hA1.form; exact ⟨a, _, q, hv⟩
            have hGR : goesR (goS r.fs r.body l r.p) r (.slice av kv qv) = .tuple #[.int .i64 ((goS r.fs r.body l r.p).1 : Int), .agg #[S r.m, S (goS r.fs r.body l r.p).2.1, S r.q, .int .i64 r.v, .slice av kv qv, S r.body, .bool r.cl], .agg #[.int .i64 0, .slice none 0 0, S []]] := by unfold goesR; rw [hgs]; rfl
            rw [hGR] at HGOA
            have hlt : (goS r.fs r.body l r.p).1 = l.length := hgc.2 hgs
            generalize hn0 : (goS r.fs r.body l r.p).1 = n0 at *
            generalize (goS r.fs r.body l r.p).2.1 = p0 at *
            have HK1 : Hid (∀ W : World, Below W7.heap.size W7 W → (∀ j v, (rqC { r with p := p0 } (.slice a1 k1 q1))[j]? = some v → W.cell? ⟨gg, j, none⟩ = some v) ∧ FA W (.slice a1 k1 q1) r.fs g1 0) :=
              Lib.hid fun W h => ⟨fun j v hv => by have := hcell j v hv; rw [h.cell (World.block_lt_of_cell? W7 _ this)]; exact this, hA1.below h⟩
            clear hcell hA1
            obtain ⟨g7, hA7, -⟩ := FO.fa hF7
            obtain ⟨a7, q7, hv7⟩ := hA7.form
            obtain ⟨K7, hK7⟩ : ∃ K, K = List.length (xs ++ addsS r.fs l) := ⟨_, rfl⟩
            rw [← hK7] at hv7
            subst hv7
            have HK7 := Lib.hid hK7
            have HGS := Lib.hid (And.intro hgs (And.intro hn0 hlt))
            obtain ⟨W8, hW8⟩ : ∃ W, W = W7.alloc (.cells #[.int .i64 c, .slice a7 K7 q7, S body] 27) := ⟨_, rfl⟩
            obtain ⟨b8, hb8⟩ : ∃ b, b = W7.heap.size := ⟨_, rfl⟩
            have hB8 : Below W7.heap.size W7 W8 := by rw [hW8]; exact (Below.refl _ _).alloc (Nat.le_refl _) _
            have hr8 : Row W8 b8 #[.int .i64 c, .slice a7 K7 q7, S body] 27 := by rw [hW8, hb8]; exact row_new _ _ _
            have H8 := Lib.hid (And.intro (H7.out.1.below hB8) (H7.out.2.below hB8))
            have HX8 := Lib.hid (And.intro hr8 (And.intro (hg7.below hB8 hg7.lt) (hA7.below hB8)))
            have hgo := HGOA.out W8 H8.out
            unfold rqV at hgo
            have hrc : rqC r (.slice av kv qv) = #[S r.m, S r.p, S r.q, .int .i64 r.v, (.slice av kv qv), S r.body, .bool r.cl] := rfl
            rw [hrc] at hgo
            have HGO := Lib.hid hgo
            have c0 : W8.cell? ⟨b1, 0, none⟩ = some (S r.m) := H8.out.1.rq.cell 0 _ rfl
            have c1 : W8.cell? ⟨b1, 1, none⟩ = some (S r.p) := H8.out.1.rq.cell 1 _ rfl
            have c2 : W8.cell? ⟨b1, 2, none⟩ = some (S r.q) := H8.out.1.rq.cell 2 _ rfl
            have c3 : W8.cell? ⟨b1, 3, none⟩ = some (.int .i64 r.v) := H8.out.1.rq.cell 3 _ rfl
            have c4 : W8.cell? ⟨b1, 4, none⟩ = some ((.slice av kv qv)) := H8.out.1.rq.cell 4 _ rfl
            have c5 : W8.cell? ⟨b1, 5, none⟩ = some (S r.body) := H8.out.1.rq.cell 5 _ rfl
            have c6 : W8.cell? ⟨b1, 6, none⟩ = some (.bool r.cl) := H8.out.1.rq.cell 6 _ rfl
            rw [hb1] at c0 c1 c2 c3 c4 c5 c6
            rw [hW8] at HGO c0 c1 c2 c3 c4 c5 c6
            have HB78 := Lib.hid hB8
            clear hF7 hA7 hB8 hr8 hg7 hgo hrc hR7 hK7 hgs hn0 hlt hgc hgl hGR
            unfold rpV rpC
            go_wp2_with fail
            refine HGO.out.mono ?_
            rintro e W9 ⟨rfl, hB9⟩
            rw [← hW8] at hB9
            rw [← hb8]
            have H9 := Lib.hid (And.intro (H8.out.1.below hB9) (H8.out.2.below hB9))
            have HX9 := Lib.hid (And.intro (HX8.out.1.below hB9 HX8.out.1.lt) (And.intro (HX8.out.2.1.below hB9 HX8.out.2.1.lt) (HX8.out.2.2.below hB9)))
            have HB79 := Lib.hid (HB78.out.trans (hB9.mono HB78.out.size))
            clear hB9 c0 c1 c2 c3 c4 c5 c6 HGO hW8 hb8 H8 HX8
            have HCELL : Hid (∀ W : World, Below W9.heap.size W9 W → StayAt w b1 r (.slice av kv qv) b o c ax nx cx body xs b0 o0 V l bs os W ∧ StB W Vw l gw 0 ∧ Row W b8 #[.int .i64 c, .slice a7 K7 q7, S body] 27 ∧ Row W bg #[.slice (some ⟨gg, 0, none⟩) 1 cap] 38 ∧ FA W (.slice a7 K7 q7) (xs ++ addsS r.fs l) g7 0 ∧
                (∀ j v, (rqC { r with p := p0 } (.slice a1 k1 q1))[j]? = some v → W.cell? ⟨gg, j, none⟩ = some v) ∧ FA W (.slice a1 k1 q1) r.fs g1 0) :=
              Lib.hid fun W h => ⟨H9.out.1.below h, H9.out.2.below h, HX9.out.1.below h HX9.out.1.lt, HX9.out.2.1.below h HX9.out.2.1.lt, HX9.out.2.2.below h, HK1.out W (HB79.out.trans (h.mono HB79.out.size))⟩
            obtain ⟨W10, hW10⟩ : ∃ W, W = (W9.alloc (.cells #[S r.m, S p0, S r.q, .int .i64 r.v, .slice av kv qv, S r.body, .bool r.cl] 25)).alloc (.cells #[.int .i64 0, .slice none 0 0, S []] 27) := ⟨_, rfl⟩
            have hB10 : Below W9.heap.size W9 W10 := by rw [hW10]; exact ((Below.refl _ _).alloc (Nat.le_refl _) _).alloc (by rw [alloc_size]; omega) _
            obtain ⟨b9, hb9⟩ : ∃ b, b = W9.heap.size := ⟨_, rfl⟩
            have hr10 : Row W10 b9 #[S r.m, S p0, S r.q, .int .i64 r.v, .slice av kv qv, S r.body, .bool r.cl] 25 := by
              rw [hW10, hb9]; exact (row_new _ _ _).alloc _
            obtain ⟨Wq, hWq⟩ : ∃ W, W = W10.drew := ⟨_, rfl⟩
            have hB10q : Below W10.heap.size W10 Wq := by rw [hWq]; exact ⟨rfl, rfl, rfl, Nat.le_refl _, fun _ _ => rfl⟩
            have HUPQ : Hid (∀ W : World, Below Wq.heap.size Wq W → Below W9.heap.size W9 W ∧ Row W b9 #[S r.m, S p0, S r.q, .int .i64 r.v, .slice av kv qv, S r.body, .bool r.cl] 25) := Lib.hid fun W h =>
              ⟨hB10.trans ((hB10q.mono hB10.size).trans (h.mono (Nat.le_trans hB10.size hB10q.size))), (hr10.below hB10q hr10.lt).below h (hr10.below hB10q hr10.lt).lt⟩
            have hS : ∀ W : World, Below W9.heap.size W9 W ∧ Row W b9 #[S r.m, S p0, S r.q, .int .i64 r.v, .slice av kv qv, S r.body, .bool r.cl] 25 → (W.cell? ⟨bg, 0, none⟩ = some (.slice (some ⟨gg, 0, none⟩) 1 cap) ∧ W.cell? ⟨b8, 0, none⟩ = some (.int .i64 c) ∧ W.cell? ⟨b8, 1, none⟩ = some (.slice a7 K7 q7) ∧ W.cell? ⟨b8, 2, none⟩ = some (S body)) ∧
              (W.cell? ⟨w.heap.size, 0, none⟩ = some (S r.m) ∧ W.cell? ⟨w.heap.size, 1, none⟩ = some (S r.p) ∧ W.cell? ⟨w.heap.size, 2, none⟩ = some (S r.q) ∧ W.cell? ⟨w.heap.size, 3, none⟩ = some (.int .i64 r.v) ∧ W.cell? ⟨w.heap.size, 4, none⟩ = some (.slice av kv qv) ∧ W.cell? ⟨w.heap.size, 5, none⟩ = some (S r.body) ∧ W.cell? ⟨w.heap.size, 6, none⟩ = some (.bool r.cl)) ∧
              (W.cell? ⟨w.heap.size + 1, 0, none⟩ = some (.int .i64 c) ∧ W.cell? ⟨w.heap.size + 1, 1, none⟩ = some (.slice ax nx cx) ∧ W.cell? ⟨w.heap.size + 1, 2, none⟩ = some (S body)) ∧
              (W.cell? ⟨gg, 0, none⟩ = some (S r.m) ∧ W.cell? ⟨gg, 1, none⟩ = some (S p0) ∧ W.cell? ⟨gg, 2, none⟩ = some (S r.q) ∧ W.cell? ⟨gg, 3, none⟩ = some (.int .i64 r.v) ∧ W.cell? ⟨gg, 4, none⟩ = some (.slice a1 k1 q1) ∧ W.cell? ⟨gg, 5, none⟩ = some (S r.body) ∧ W.cell? ⟨gg, 6, none⟩ = some (.bool r.cl)) ∧
              W.cell? ⟨b9, 1, none⟩ = some (S p0) := fun W h => by
              have k := HCELL.out W h.1
              have k1 := k.1.rq
              have k2 := k.1.row
              have k3 := k.2.2.2.2.2.1
              rw [← hb1]
              exact ⟨⟨cell_of_row W bg 0 _ _ (0, 0) k.2.2.2.1, cell_of_row W b8 0 _ _ (0, 0) k.2.2.1, cell_of_row W b8 1 _ _ (0, 0) k.2.2.1, cell_of_row W b8 2 _ _ (0, 0) k.2.2.1⟩, ⟨k1.cell 0 _ rfl, k1.cell 1 _ rfl, k1.cell 2 _ rfl, k1.cell 3 _ rfl, k1.cell 4 _ rfl, k1.cell 5 _ rfl, k1.cell 6 _ rfl⟩,
                ⟨cell_of_row W (b1 + 1) 0 _ _ (0, 0) k2, cell_of_row W (b1 + 1) 1 _ _ (0, 0) k2, cell_of_row W (b1 + 1) 2 _ _ (0, 0) k2⟩, ⟨k3 0 _ rfl, k3 1 _ rfl, k3 2 _ rfl, k3 3 _ rfl, k3 4 _ rfl, k3 5 _ rfl, k3 6 _ rfl⟩, cell_of_row W b9 1 _ _ (0, 0) h.2⟩
            have HSF := Lib.hid hS
            have HS10 := hS W10 ⟨hB10, hr10⟩
            have HSQ := Lib.hid (hS Wq (HUPQ.out Wq (Below.refl _ _)))
            have hnN : n0 = N := by have := HGS.out.2.2; have := HN.out; omega
            have HNN := Lib.hid hnN
            have gn : decide ((n0 : Int) < (N : Int)) = false := decide_eq_false (by omega)
            have gn' : decide (n0 < N) = false := decide_eq_false (by omega)
            have hlG : ∀ w', (Builtin.len_ #[38] 3 #[.slice (some ⟨gg, 0, none⟩) 1 cap]).run Tryd.prog w' = .ok (.int .i64 1) w' := fun w' => by simp [Builtin.len_, run_underlying Tryd.underlying38, Result.andThen, goInt]
            have hi0 : ∀ w', (Instr.indexAt 38 (.slice (some ⟨gg, 0, none⟩) 1 cap) (.int .i64 0)).run Tryd.prog w' = .ok (.pointer (some ⟨gg, 0, none⟩)) w' := fun w' => by
              have := run_index_at (P := Tryd.prog) Tryd.underlying38 (fun w => Tryd.sizeOf25 w) gg 0 1 cap 0 (by omega) w'
              simpa using this
            have qs : ∀ s : Tx, binOp .neq 9 (S s) (S s) = pure (.bool false) := fun s => by rw [neql_S]; simp
            have gs : ∀ (s : Tx) x y, eqGuard .neq 9 x y (S s) (S s) = pure () := fun s x y => nguard_S 9 x y s s
            have qv3 : (r.v != r.v) = false := by simp
            have HSF1 := Lib.hid (sameF13_true r.fs (.slice a1 k1 q1) (.slice av kv qv) g1 0 b o (by have := HSR.out.few; omega) Wq (HCELL.out Wq (HUPQ.out Wq (Below.refl _ _)).1).2.2.2.2.2.2 (HCELL.out Wq (HUPQ.out Wq (Below.refl _ _)).1).1.rq.fa)
            have HLX : Hid ((xs ++ addsS r.fs l).length ≤ 1000000) := Lib.hid (by rw [List.length_append, adds_len]; have h1 := cnt_le l; have h3 := HSL.out.1; have := HXL.out; omega)
            clear hS hB10 hr10 hB10q hnN
            go_wp2
            rw [← hW10, ← hb9]
            clear hW10 hb9
            refine wp_region_noPanic ?_
            refine wp_region_held_drew (S := fun W => (W.cell? ⟨bg, 0, none⟩ = some (.slice (some ⟨gg, 0, none⟩) 1 cap) ∧ W.cell? ⟨b8, 0, none⟩ = some (.int .i64 c) ∧ W.cell? ⟨b8, 1, none⟩ = some (.slice a7 K7 q7) ∧ W.cell? ⟨b8, 2, none⟩ = some (S body)) ∧
              (W.cell? ⟨w.heap.size, 0, none⟩ = some (S r.m) ∧ W.cell? ⟨w.heap.size, 1, none⟩ = some (S r.p) ∧ W.cell? ⟨w.heap.size, 2, none⟩ = some (S r.q) ∧ W.cell? ⟨w.heap.size, 3, none⟩ = some (.int .i64 r.v) ∧ W.cell? ⟨w.heap.size, 4, none⟩ = some (.slice av kv qv) ∧ W.cell? ⟨w.heap.size, 5, none⟩ = some (S r.body) ∧ W.cell? ⟨w.heap.size, 6, none⟩ = some (.bool r.cl)) ∧
              (W.cell? ⟨w.heap.size + 1, 0, none⟩ = some (.int .i64 c) ∧ W.cell? ⟨w.heap.size + 1, 1, none⟩ = some (.slice ax nx cx) ∧ W.cell? ⟨w.heap.size + 1, 2, none⟩ = some (S body)) ∧
              (W.cell? ⟨gg, 0, none⟩ = some (S r.m) ∧ W.cell? ⟨gg, 1, none⟩ = some (S p0) ∧ W.cell? ⟨gg, 2, none⟩ = some (S r.q) ∧ W.cell? ⟨gg, 3, none⟩ = some (.int .i64 r.v) ∧ W.cell? ⟨gg, 4, none⟩ = some (.slice a1 k1 q1) ∧ W.cell? ⟨gg, 5, none⟩ = some (S r.body) ∧ W.cell? ⟨gg, 6, none⟩ = some (.bool r.cl)) ∧
              W.cell? ⟨b9, 1, none⟩ = some (S p0)) (by kernel_rfl) HS10 (fun _ => ?_)
            rw [← hWq]
            clear hWq HS10
            refine take_at (i := 0) (d := some 102) (v := .slice (some ⟨gg, 0, none⟩) 1 cap) rfl (by kernel_rfl) (by kernel_rfl) (by kernel_rfl) (fun _ _ _ h => h) (fun oi ho => ?_) HSQ.out ?_
            · obtain rfl := Option.some.inj ho
              exact Or.inl ⟨by rfl, fun wx hSw => by obtain ⟨⟨hu0, hu1, hu2, hu3⟩, ⟨hv0, hv1, hv2, hv3, hv4, hv5, hv6⟩, ⟨hx0, hx1, hx2⟩, ⟨hy0, hy1, hy2, hy3, hy4, hy5, hy6⟩, hz1⟩ := hSw; go_simp⟩
            simp only [Act.put, List.setIfInBounds_toArray, List.set_cons_zero, List.set_cons_succ]
            refine take_at (i := 1) (d := some 103) (v := .int .i64 1) rfl (by kernel_rfl) (by kernel_rfl) (by kernel_rfl) (fun _ _ _ h => h) (fun oi ho => ?_) HSQ.out ?_
            · obtain rfl := Option.some.inj ho
              exact Or.inl ⟨by rfl, fun wx hSw => by obtain ⟨⟨hu0, hu1, hu2, hu3⟩, ⟨hv0, hv1, hv2, hv3, hv4, hv5, hv6⟩, ⟨hx0, hx1, hx2⟩, ⟨hy0, hy1, hy2, hy3, hy4, hy5, hy6⟩, hz1⟩ := hSw; go_simp⟩
            simp only [Act.put, List.setIfInBounds_toArray, List.set_cons_zero, List.set_cons_succ]
            refine take_at (i := 2) (d := some 104) (v := .bool false) rfl (by kernel_rfl) (by kernel_rfl) (by kernel_rfl) (fun _ _ _ h => h) (fun oi ho => ?_) HSQ.out ?_
            · obtain rfl := Option.some.inj ho
              exact Or.inl ⟨by rfl, fun wx hSw => by obtain ⟨⟨hu0, hu1, hu2, hu3⟩, ⟨hv0, hv1, hv2, hv3, hv4, hv5, hv6⟩, ⟨hx0, hx1, hx2⟩, ⟨hy0, hy1, hy2, hy3, hy4, hy5, hy6⟩, hz1⟩ := hSw; go_simp⟩
            simp only [Act.put, List.setIfInBounds_toArray, List.set_cons_zero, List.set_cons_succ]
            refine take_at (i := 3) (d := some 105) (v := .bool false) rfl (by kernel_rfl) (by kernel_rfl) (by kernel_rfl) (fun _ _ _ h => h) (fun oi ho => ?_) HSQ.out ?_
            · obtain rfl := Option.some.inj ho
              exact Or.inl ⟨by rfl, fun wx hSw => by obtain ⟨⟨hu0, hu1, hu2, hu3⟩, ⟨hv0, hv1, hv2, hv3, hv4, hv5, hv6⟩, ⟨hx0, hx1, hx2⟩, ⟨hy0, hy1, hy2, hy3, hy4, hy5, hy6⟩, hz1⟩ := hSw; go_simp⟩
            simp only [Act.put, List.setIfInBounds_toArray, List.set_cons_zero, List.set_cons_succ]
            refine take_at (i := 4) (d := some 106) (v := .slice (some ⟨gg, 0, none⟩) 1 cap) rfl (by kernel_rfl) (by kernel_rfl) (by kernel_rfl) (fun _ _ _ h => h) (fun oi ho => ?_) HSQ.out ?_
            · obtain rfl := Option.some.inj ho
              exact Or.inl ⟨by rfl, fun wx hSw => by obtain ⟨⟨hu0, hu1, hu2, hu3⟩, ⟨hv0, hv1, hv2, hv3, hv4, hv5, hv6⟩, ⟨hx0, hx1, hx2⟩, ⟨hy0, hy1, hy2, hy3, hy4, hy5, hy6⟩, hz1⟩ := hSw; go_simp⟩
            simp only [Act.put, List.setIfInBounds_toArray, List.set_cons_zero, List.set_cons_succ]
            refine take_at (i := 5) (d := some 107) (v := .pointer (some ⟨gg, 0, none⟩)) rfl (by kernel_rfl) (by kernel_rfl) (by kernel_rfl) (fun _ _ _ h => h) (fun oi ho => ?_) HSQ.out ?_
            · obtain rfl := Option.some.inj ho
              exact Or.inl ⟨by rfl, fun wx hSw => by obtain ⟨⟨hu0, hu1, hu2, hu3⟩, ⟨hv0, hv1, hv2, hv3, hv4, hv5, hv6⟩, ⟨hx0, hx1, hx2⟩, ⟨hy0, hy1, hy2, hy3, hy4, hy5, hy6⟩, hz1⟩ := hSw; go_simp⟩
            simp only [Act.put, List.setIfInBounds_toArray, List.set_cons_zero, List.set_cons_succ]
            refine take_at (i := 6) (d := some 108) (v := .pointer (some ⟨gg, 1, none⟩)) rfl (by kernel_rfl) (by kernel_rfl) (by kernel_rfl) (fun _ _ _ h => h) (fun oi ho => ?_) HSQ.out ?_
            · obtain rfl := Option.some.inj ho
              exact Or.inl ⟨by rfl, fun wx hSw => by obtain ⟨⟨hu0, hu1, hu2, hu3⟩, ⟨hv0, hv1, hv2, hv3, hv4, hv5, hv6⟩, ⟨hx0, hx1, hx2⟩, ⟨hy0, hy1, hy2, hy3, hy4, hy5, hy6⟩, hz1⟩ := hSw; go_simp⟩
            simp only [Act.put, List.setIfInBounds_toArray, List.set_cons_zero, List.set_cons_succ]
            refine take_at (i := 7) (d := some 109) (v := S p0) rfl (by kernel_rfl) (by kernel_rfl) (by kernel_rfl) (fun _ _ _ h => h) (fun oi ho => ?_) HSQ.out ?_
            · obtain rfl := Option.some.inj ho
              exact Or.inl ⟨by rfl, fun wx hSw => by obtain ⟨⟨hu0, hu1, hu2, hu3⟩, ⟨hv0, hv1, hv2, hv3, hv4, hv5, hv6⟩, ⟨hx0, hx1, hx2⟩, ⟨hy0, hy1, hy2, hy3, hy4, hy5, hy6⟩, hz1⟩ := hSw; go_simp⟩
            simp only [Act.put, List.setIfInBounds_toArray, List.set_cons_zero, List.set_cons_succ]
            refine take_at (i := 8) (d := some 110) (v := .pointer (some ⟨b9, 1, none⟩)) rfl (by kernel_rfl) (by kernel_rfl) (by kernel_rfl) (fun _ _ _ h => h) (fun oi ho => ?_) HSQ.out ?_
            · obtain rfl := Option.some.inj ho
              exact Or.inl ⟨by rfl, fun wx hSw => by obtain ⟨⟨hu0, hu1, hu2, hu3⟩, ⟨hv0, hv1, hv2, hv3, hv4, hv5, hv6⟩, ⟨hx0, hx1, hx2⟩, ⟨hy0, hy1, hy2, hy3, hy4, hy5, hy6⟩, hz1⟩ := hSw; go_simp⟩
            simp only [Act.put, List.setIfInBounds_toArray, List.set_cons_zero, List.set_cons_succ]
            refine take_at (i := 9) (d := some 111) (v := S p0) rfl (by kernel_rfl) (by kernel_rfl) (by kernel_rfl) (fun _ _ _ h => h) (fun oi ho => ?_) HSQ.out ?_
            · obtain rfl := Option.some.inj ho
              exact Or.inl ⟨by rfl, fun wx hSw => by obtain ⟨⟨hu0, hu1, hu2, hu3⟩, ⟨hv0, hv1, hv2, hv3, hv4, hv5, hv6⟩, ⟨hx0, hx1, hx2⟩, ⟨hy0, hy1, hy2, hy3, hy4, hy5, hy6⟩, hz1⟩ := hSw; go_simp⟩
            simp only [Act.put, List.setIfInBounds_toArray, List.set_cons_zero, List.set_cons_succ]
            refine take_at (i := 10) (d := some 112) (v := .bool false) rfl (by kernel_rfl) (by kernel_rfl) (by kernel_rfl) (fun _ _ _ h => h) (fun oi ho => ?_) HSQ.out ?_
            · obtain rfl := Option.some.inj ho
              exact Or.inl ⟨by rfl, fun wx hSw => by obtain ⟨⟨hu0, hu1, hu2, hu3⟩, ⟨hv0, hv1, hv2, hv3, hv4, hv5, hv6⟩, ⟨hx0, hx1, hx2⟩, ⟨hy0, hy1, hy2, hy3, hy4, hy5, hy6⟩, hz1⟩ := hSw; go_simp⟩
            simp only [Act.put, List.setIfInBounds_toArray, List.set_cons_zero, List.set_cons_succ]
            refine take_at (i := 11) (d := some 113) (v := .bool false) rfl (by kernel_rfl) (by kernel_rfl) (by kernel_rfl) (fun _ _ _ h => h) (fun oi ho => ?_) HSQ.out ?_
            · obtain rfl := Option.some.inj ho
              exact Or.inl ⟨by rfl, fun wx hSw => by obtain ⟨⟨hu0, hu1, hu2, hu3⟩, ⟨hv0, hv1, hv2, hv3, hv4, hv5, hv6⟩, ⟨hx0, hx1, hx2⟩, ⟨hy0, hy1, hy2, hy3, hy4, hy5, hy6⟩, hz1⟩ := hSw; go_simp⟩
            simp only [Act.put, List.setIfInBounds_toArray, List.set_cons_zero, List.set_cons_succ]
            refine take_at (i := 12) (d := some 114) (v := .bool false) rfl (by kernel_rfl) (by kernel_rfl) (by kernel_rfl) (fun _ _ _ h => h) (fun oi ho => ?_) HSQ.out ?_
            · obtain rfl := Option.some.inj ho
              exact Or.inl ⟨by rfl, fun wx hSw => by obtain ⟨⟨hu0, hu1, hu2, hu3⟩, ⟨hv0, hv1, hv2, hv3, hv4, hv5, hv6⟩, ⟨hx0, hx1, hx2⟩, ⟨hy0, hy1, hy2, hy3, hy4, hy5, hy6⟩, hz1⟩ := hSw; go_simp⟩
            simp only [Act.put, List.setIfInBounds_toArray, List.set_cons_zero, List.set_cons_succ]
            refine take_at (i := 13) (d := some 115) (v := .slice (some ⟨gg, 0, none⟩) 1 cap) rfl (by kernel_rfl) (by kernel_rfl) (by kernel_rfl) (fun _ _ _ h => h) (fun oi ho => ?_) HSQ.out ?_
            · obtain rfl := Option.some.inj ho
              exact Or.inl ⟨by rfl, fun wx hSw => by obtain ⟨⟨hu0, hu1, hu2, hu3⟩, ⟨hv0, hv1, hv2, hv3, hv4, hv5, hv6⟩, ⟨hx0, hx1, hx2⟩, ⟨hy0, hy1, hy2, hy3, hy4, hy5, hy6⟩, hz1⟩ := hSw; go_simp⟩
            simp only [Act.put, List.setIfInBounds_toArray, List.set_cons_zero, List.set_cons_succ]
            refine take_at (i := 14) (d := some 116) (v := .pointer (some ⟨gg, 0, none⟩)) rfl (by kernel_rfl) (by kernel_rfl) (by kernel_rfl) (fun _ _ _ h => h) (fun oi ho => ?_) HSQ.out ?_
            · obtain rfl := Option.some.inj ho
              exact Or.inl ⟨by rfl, fun wx hSw => by obtain ⟨⟨hu0, hu1, hu2, hu3⟩, ⟨hv0, hv1, hv2, hv3, hv4, hv5, hv6⟩, ⟨hx0, hx1, hx2⟩, ⟨hy0, hy1, hy2, hy3, hy4, hy5, hy6⟩, hz1⟩ := hSw; go_simp⟩
            simp only [Act.put, List.setIfInBounds_toArray, List.set_cons_zero, List.set_cons_succ]
            refine take_at (i := 15) (d := some 117) (v := .pointer (some ⟨gg, 5, none⟩)) rfl (by kernel_rfl) (by kernel_rfl) (by kernel_rfl) (fun _ _ _ h => h) (fun oi ho => ?_) HSQ.out ?_
            · obtain rfl := Option.some.inj ho
              exact Or.inl ⟨by rfl, fun wx hSw => by obtain ⟨⟨hu0, hu1, hu2, hu3⟩, ⟨hv0, hv1, hv2, hv3, hv4, hv5, hv6⟩, ⟨hx0, hx1, hx2⟩, ⟨hy0, hy1, hy2, hy3, hy4, hy5, hy6⟩, hz1⟩ := hSw; go_simp⟩
            simp only [Act.put, List.setIfInBounds_toArray, List.set_cons_zero, List.set_cons_succ]
            refine take_at (i := 16) (d := some 118) (v := S r.body) rfl (by kernel_rfl) (by kernel_rfl) (by kernel_rfl) (fun _ _ _ h => h) (fun oi ho => ?_) HSQ.out ?_
            · obtain rfl := Option.some.inj ho
              exact Or.inl ⟨by rfl, fun wx hSw => by obtain ⟨⟨hu0, hu1, hu2, hu3⟩, ⟨hv0, hv1, hv2, hv3, hv4, hv5, hv6⟩, ⟨hx0, hx1, hx2⟩, ⟨hy0, hy1, hy2, hy3, hy4, hy5, hy6⟩, hz1⟩ := hSw; go_simp⟩
            simp only [Act.put, List.setIfInBounds_toArray, List.set_cons_zero, List.set_cons_succ]
            refine take_at (i := 17) (d := some 119) (v := .pointer (some ⟨w.heap.size, 5, none⟩)) rfl (by kernel_rfl) (by kernel_rfl) (by kernel_rfl) (fun _ _ _ h => h) (fun oi ho => ?_) HSQ.out ?_
            · obtain rfl := Option.some.inj ho
              exact Or.inl ⟨by rfl, fun wx hSw => by obtain ⟨⟨hu0, hu1, hu2, hu3⟩, ⟨hv0, hv1, hv2, hv3, hv4, hv5, hv6⟩, ⟨hx0, hx1, hx2⟩, ⟨hy0, hy1, hy2, hy3, hy4, hy5, hy6⟩, hz1⟩ := hSw; go_simp⟩
            simp only [Act.put, List.setIfInBounds_toArray, List.set_cons_zero, List.set_cons_succ]
            refine take_at (i := 18) (d := some 120) (v := S r.body) rfl (by kernel_rfl) (by kernel_rfl) (by kernel_rfl) (fun _ _ _ h => h) (fun oi ho => ?_) HSQ.out ?_
            · obtain rfl := Option.some.inj ho
              exact Or.inl ⟨by rfl, fun wx hSw => by obtain ⟨⟨hu0, hu1, hu2, hu3⟩, ⟨hv0, hv1, hv2, hv3, hv4, hv5, hv6⟩, ⟨hx0, hx1, hx2⟩, ⟨hy0, hy1, hy2, hy3, hy4, hy5, hy6⟩, hz1⟩ := hSw; go_simp⟩
            simp only [Act.put, List.setIfInBounds_toArray, List.set_cons_zero, List.set_cons_succ]
            refine take_at (i := 19) (d := some 121) (v := .bool false) rfl (by kernel_rfl) (by kernel_rfl) (by kernel_rfl) (fun _ _ _ h => h) (fun oi ho => ?_) HSQ.out ?_
            · obtain rfl := Option.some.inj ho
              exact Or.inl ⟨by rfl, fun wx hSw => by obtain ⟨⟨hu0, hu1, hu2, hu3⟩, ⟨hv0, hv1, hv2, hv3, hv4, hv5, hv6⟩, ⟨hx0, hx1, hx2⟩, ⟨hy0, hy1, hy2, hy3, hy4, hy5, hy6⟩, hz1⟩ := hSw; go_simp⟩
            simp only [Act.put, List.setIfInBounds_toArray, List.set_cons_zero, List.set_cons_succ]
            refine take_at (i := 20) (d := some 122) (v := .bool false) rfl (by kernel_rfl) (by kernel_rfl) (by kernel_rfl) (fun _ _ _ h => h) (fun oi ho => ?_) HSQ.out ?_
            · obtain rfl := Option.some.inj ho
              exact Or.inl ⟨by rfl, fun wx hSw => by obtain ⟨⟨hu0, hu1, hu2, hu3⟩, ⟨hv0, hv1, hv2, hv3, hv4, hv5, hv6⟩, ⟨hx0, hx1, hx2⟩, ⟨hy0, hy1, hy2, hy3, hy4, hy5, hy6⟩, hz1⟩ := hSw; go_simp⟩
            simp only [Act.put, List.setIfInBounds_toArray, List.set_cons_zero, List.set_cons_succ]
            refine take_at (i := 21) (d := some 123) (v := .bool false) rfl (by kernel_rfl) (by kernel_rfl) (by kernel_rfl) (fun _ _ _ h => h) (fun oi ho => ?_) HSQ.out ?_
            · obtain rfl := Option.some.inj ho
              exact Or.inl ⟨by rfl, fun wx hSw => by obtain ⟨⟨hu0, hu1, hu2, hu3⟩, ⟨hv0, hv1, hv2, hv3, hv4, hv5, hv6⟩, ⟨hx0, hx1, hx2⟩, ⟨hy0, hy1, hy2, hy3, hy4, hy5, hy6⟩, hz1⟩ := hSw; go_simp⟩
            simp only [Act.put, List.setIfInBounds_toArray, List.set_cons_zero, List.set_cons_succ]
            refine take_at (i := 22) (d := some 124) (v := .slice (some ⟨gg, 0, none⟩) 1 cap) rfl (by kernel_rfl) (by kernel_rfl) (by kernel_rfl) (fun _ _ _ h => h) (fun oi ho => ?_) HSQ.out ?_
            · obtain rfl := Option.some.inj ho
              exact Or.inl ⟨by rfl, fun wx hSw => by obtain ⟨⟨hu0, hu1, hu2, hu3⟩, ⟨hv0, hv1, hv2, hv3, hv4, hv5, hv6⟩, ⟨hx0, hx1, hx2⟩, ⟨hy0, hy1, hy2, hy3, hy4, hy5, hy6⟩, hz1⟩ := hSw; go_simp⟩
            simp only [Act.put, List.setIfInBounds_toArray, List.set_cons_zero, List.set_cons_succ]
            refine take_at (i := 23) (d := some 125) (v := .pointer (some ⟨gg, 0, none⟩)) rfl (by kernel_rfl) (by kernel_rfl) (by kernel_rfl) (fun _ _ _ h => h) (fun oi ho => ?_) HSQ.out ?_
            · obtain rfl := Option.some.inj ho
              exact Or.inl ⟨by rfl, fun wx hSw => by obtain ⟨⟨hu0, hu1, hu2, hu3⟩, ⟨hv0, hv1, hv2, hv3, hv4, hv5, hv6⟩, ⟨hx0, hx1, hx2⟩, ⟨hy0, hy1, hy2, hy3, hy4, hy5, hy6⟩, hz1⟩ := hSw; go_simp⟩
            simp only [Act.put, List.setIfInBounds_toArray, List.set_cons_zero, List.set_cons_succ]
            refine take_at (i := 24) (d := some 126) (v := .pointer (some ⟨gg, 0, none⟩)) rfl (by kernel_rfl) (by kernel_rfl) (by kernel_rfl) (fun _ _ _ h => h) (fun oi ho => ?_) HSQ.out ?_
            · obtain rfl := Option.some.inj ho
              exact Or.inl ⟨by rfl, fun wx hSw => by obtain ⟨⟨hu0, hu1, hu2, hu3⟩, ⟨hv0, hv1, hv2, hv3, hv4, hv5, hv6⟩, ⟨hx0, hx1, hx2⟩, ⟨hy0, hy1, hy2, hy3, hy4, hy5, hy6⟩, hz1⟩ := hSw; go_simp⟩
            simp only [Act.put, List.setIfInBounds_toArray, List.set_cons_zero, List.set_cons_succ]
            refine take_at (i := 25) (d := some 127) (v := S r.m) rfl (by kernel_rfl) (by kernel_rfl) (by kernel_rfl) (fun _ _ _ h => h) (fun oi ho => ?_) HSQ.out ?_
            · obtain rfl := Option.some.inj ho
              exact Or.inl ⟨by rfl, fun wx hSw => by obtain ⟨⟨hu0, hu1, hu2, hu3⟩, ⟨hv0, hv1, hv2, hv3, hv4, hv5, hv6⟩, ⟨hx0, hx1, hx2⟩, ⟨hy0, hy1, hy2, hy3, hy4, hy5, hy6⟩, hz1⟩ := hSw; go_simp⟩
            simp only [Act.put, List.setIfInBounds_toArray, List.set_cons_zero, List.set_cons_succ]
            refine take_at (i := 26) (d := some 128) (v := .pointer (some ⟨w.heap.size, 0, none⟩)) rfl (by kernel_rfl) (by kernel_rfl) (by kernel_rfl) (fun _ _ _ h => h) (fun oi ho => ?_) HSQ.out ?_
            · obtain rfl := Option.some.inj ho
              exact Or.inl ⟨by rfl, fun wx hSw => by obtain ⟨⟨hu0, hu1, hu2, hu3⟩, ⟨hv0, hv1, hv2, hv3, hv4, hv5, hv6⟩, ⟨hx0, hx1, hx2⟩, ⟨hy0, hy1, hy2, hy3, hy4, hy5, hy6⟩, hz1⟩ := hSw; go_simp⟩
            simp only [Act.put, List.setIfInBounds_toArray, List.set_cons_zero, List.set_cons_succ]
            refine take_at (i := 27) (d := some 129) (v := S r.m) rfl (by kernel_rfl) (by kernel_rfl) (by kernel_rfl) (fun _ _ _ h => h) (fun oi ho => ?_) HSQ.out ?_
            · obtain rfl := Option.some.inj ho
              exact Or.inl ⟨by rfl, fun wx hSw => by obtain ⟨⟨hu0, hu1, hu2, hu3⟩, ⟨hv0, hv1, hv2, hv3, hv4, hv5, hv6⟩, ⟨hx0, hx1, hx2⟩, ⟨hy0, hy1, hy2, hy3, hy4, hy5, hy6⟩, hz1⟩ := hSw; go_simp⟩
            simp only [Act.put, List.setIfInBounds_toArray, List.set_cons_zero, List.set_cons_succ]
            refine take_at (i := 28) (d := some 130) (v := .bool false) rfl (by kernel_rfl) (by kernel_rfl) (by kernel_rfl) (fun _ _ _ h => h) (fun oi ho => ?_) HSQ.out ?_
            · obtain rfl := Option.some.inj ho
              exact Or.inl ⟨by rfl, fun wx hSw => by obtain ⟨⟨hu0, hu1, hu2, hu3⟩, ⟨hv0, hv1, hv2, hv3, hv4, hv5, hv6⟩, ⟨hx0, hx1, hx2⟩, ⟨hy0, hy1, hy2, hy3, hy4, hy5, hy6⟩, hz1⟩ := hSw; go_simp⟩
            simp only [Act.put, List.setIfInBounds_toArray, List.set_cons_zero, List.set_cons_succ]
            refine take_at (i := 29) (d := some 131) (v := .bool false) rfl (by kernel_rfl) (by kernel_rfl) (by kernel_rfl) (fun _ _ _ h => h) (fun oi ho => ?_) HSQ.out ?_
            · obtain rfl := Option.some.inj ho
              exact Or.inl ⟨by rfl, fun wx hSw => by obtain ⟨⟨hu0, hu1, hu2, hu3⟩, ⟨hv0, hv1, hv2, hv3, hv4, hv5, hv6⟩, ⟨hx0, hx1, hx2⟩, ⟨hy0, hy1, hy2, hy3, hy4, hy5, hy6⟩, hz1⟩ := hSw; go_simp⟩
            simp only [Act.put, List.setIfInBounds_toArray, List.set_cons_zero, List.set_cons_succ]
            refine take_at (i := 30) (d := some 132) (v := .bool false) rfl (by kernel_rfl) (by kernel_rfl) (by kernel_rfl) (fun _ _ _ h => h) (fun oi ho => ?_) HSQ.out ?_
            · obtain rfl := Option.some.inj ho
              exact Or.inl ⟨by rfl, fun wx hSw => by obtain ⟨⟨hu0, hu1, hu2, hu3⟩, ⟨hv0, hv1, hv2, hv3, hv4, hv5, hv6⟩, ⟨hx0, hx1, hx2⟩, ⟨hy0, hy1, hy2, hy3, hy4, hy5, hy6⟩, hz1⟩ := hSw; go_simp⟩
            simp only [Act.put, List.setIfInBounds_toArray, List.set_cons_zero, List.set_cons_succ]
            refine take_at (i := 31) (d := some 133) (v := .slice (some ⟨gg, 0, none⟩) 1 cap) rfl (by kernel_rfl) (by kernel_rfl) (by kernel_rfl) (fun _ _ _ h => h) (fun oi ho => ?_) HSQ.out ?_
            · obtain rfl := Option.some.inj ho
              exact Or.inl ⟨by rfl, fun wx hSw => by obtain ⟨⟨hu0, hu1, hu2, hu3⟩, ⟨hv0, hv1, hv2, hv3, hv4, hv5, hv6⟩, ⟨hx0, hx1, hx2⟩, ⟨hy0, hy1, hy2, hy3, hy4, hy5, hy6⟩, hz1⟩ := hSw; go_simp⟩
            simp only [Act.put, List.setIfInBounds_toArray, List.set_cons_zero, List.set_cons_succ]
            refine take_at (i := 32) (d := some 134) (v := .pointer (some ⟨gg, 0, none⟩)) rfl (by kernel_rfl) (by kernel_rfl) (by kernel_rfl) (fun _ _ _ h => h) (fun oi ho => ?_) HSQ.out ?_
            · obtain rfl := Option.some.inj ho
              exact Or.inl ⟨by rfl, fun wx hSw => by obtain ⟨⟨hu0, hu1, hu2, hu3⟩, ⟨hv0, hv1, hv2, hv3, hv4, hv5, hv6⟩, ⟨hx0, hx1, hx2⟩, ⟨hy0, hy1, hy2, hy3, hy4, hy5, hy6⟩, hz1⟩ := hSw; go_simp⟩
            simp only [Act.put, List.setIfInBounds_toArray, List.set_cons_zero, List.set_cons_succ]
            refine take_at (i := 33) (d := some 135) (v := .pointer (some ⟨gg, 2, none⟩)) rfl (by kernel_rfl) (by kernel_rfl) (by kernel_rfl) (fun _ _ _ h => h) (fun oi ho => ?_) HSQ.out ?_
            · obtain rfl := Option.some.inj ho
              exact Or.inl ⟨by rfl, fun wx hSw => by obtain ⟨⟨hu0, hu1, hu2, hu3⟩, ⟨hv0, hv1, hv2, hv3, hv4, hv5, hv6⟩, ⟨hx0, hx1, hx2⟩, ⟨hy0, hy1, hy2, hy3, hy4, hy5, hy6⟩, hz1⟩ := hSw; go_simp⟩
            simp only [Act.put, List.setIfInBounds_toArray, List.set_cons_zero, List.set_cons_succ]
            refine take_at (i := 34) (d := some 136) (v := S r.q) rfl (by kernel_rfl) (by kernel_rfl) (by kernel_rfl) (fun _ _ _ h => h) (fun oi ho => ?_) HSQ.out ?_
            · obtain rfl := Option.some.inj ho
              exact Or.inl ⟨by rfl, fun wx hSw => by obtain ⟨⟨hu0, hu1, hu2, hu3⟩, ⟨hv0, hv1, hv2, hv3, hv4, hv5, hv6⟩, ⟨hx0, hx1, hx2⟩, ⟨hy0, hy1, hy2, hy3, hy4, hy5, hy6⟩, hz1⟩ := hSw; go_simp⟩
            simp only [Act.put, List.setIfInBounds_toArray, List.set_cons_zero, List.set_cons_succ]
            refine take_at (i := 35) (d := some 137) (v := .pointer (some ⟨w.heap.size, 2, none⟩)) rfl (by kernel_rfl) (by kernel_rfl) (by kernel_rfl) (fun _ _ _ h => h) (fun oi ho => ?_) HSQ.out ?_
            · obtain rfl := Option.some.inj ho
              exact Or.inl ⟨by rfl, fun wx hSw => by obtain ⟨⟨hu0, hu1, hu2, hu3⟩, ⟨hv0, hv1, hv2, hv3, hv4, hv5, hv6⟩, ⟨hx0, hx1, hx2⟩, ⟨hy0, hy1, hy2, hy3, hy4, hy5, hy6⟩, hz1⟩ := hSw; go_simp⟩
            simp only [Act.put, List.setIfInBounds_toArray, List.set_cons_zero, List.set_cons_succ]
            refine take_at (i := 36) (d := some 138) (v := S r.q) rfl (by kernel_rfl) (by kernel_rfl) (by kernel_rfl) (fun _ _ _ h => h) (fun oi ho => ?_) HSQ.out ?_
            · obtain rfl := Option.some.inj ho
              exact Or.inl ⟨by rfl, fun wx hSw => by obtain ⟨⟨hu0, hu1, hu2, hu3⟩, ⟨hv0, hv1, hv2, hv3, hv4, hv5, hv6⟩, ⟨hx0, hx1, hx2⟩, ⟨hy0, hy1, hy2, hy3, hy4, hy5, hy6⟩, hz1⟩ := hSw; go_simp⟩
            simp only [Act.put, List.setIfInBounds_toArray, List.set_cons_zero, List.set_cons_succ]
            refine take_at (i := 37) (d := some 139) (v := .bool false) rfl (by kernel_rfl) (by kernel_rfl) (by kernel_rfl) (fun _ _ _ h => h) (fun oi ho => ?_) HSQ.out ?_
            · obtain rfl := Option.some.inj ho
              exact Or.inl ⟨by rfl, fun wx hSw => by obtain ⟨⟨hu0, hu1, hu2, hu3⟩, ⟨hv0, hv1, hv2, hv3, hv4, hv5, hv6⟩, ⟨hx0, hx1, hx2⟩, ⟨hy0, hy1, hy2, hy3, hy4, hy5, hy6⟩, hz1⟩ := hSw; go_simp⟩
            simp only [Act.put, List.setIfInBounds_toArray, List.set_cons_zero, List.set_cons_succ]
            refine take_at (i := 38) (d := some 140) (v := .bool false) rfl (by kernel_rfl) (by kernel_rfl) (by kernel_rfl) (fun _ _ _ h => h) (fun oi ho => ?_) HSQ.out ?_
            · obtain rfl := Option.some.inj ho
              exact Or.inl ⟨by rfl, fun wx hSw => by obtain ⟨⟨hu0, hu1, hu2, hu3⟩, ⟨hv0, hv1, hv2, hv3, hv4, hv5, hv6⟩, ⟨hx0, hx1, hx2⟩, ⟨hy0, hy1, hy2, hy3, hy4, hy5, hy6⟩, hz1⟩ := hSw; go_simp⟩
            simp only [Act.put, List.setIfInBounds_toArray, List.set_cons_zero, List.set_cons_succ]
            refine take_at (i := 39) (d := some 141) (v := .bool false) rfl (by kernel_rfl) (by kernel_rfl) (by kernel_rfl) (fun _ _ _ h => h) (fun oi ho => ?_) HSQ.out ?_
            · obtain rfl := Option.some.inj ho
              exact Or.inl ⟨by rfl, fun wx hSw => by obtain ⟨⟨hu0, hu1, hu2, hu3⟩, ⟨hv0, hv1, hv2, hv3, hv4, hv5, hv6⟩, ⟨hx0, hx1, hx2⟩, ⟨hy0, hy1, hy2, hy3, hy4, hy5, hy6⟩, hz1⟩ := hSw; go_simp⟩
            simp only [Act.put, List.setIfInBounds_toArray, List.set_cons_zero, List.set_cons_succ]
            refine take_at (i := 40) (d := some 142) (v := .slice (some ⟨gg, 0, none⟩) 1 cap) rfl (by kernel_rfl) (by kernel_rfl) (by kernel_rfl) (fun _ _ _ h => h) (fun oi ho => ?_) HSQ.out ?_
            · obtain rfl := Option.some.inj ho
              exact Or.inl ⟨by rfl, fun wx hSw => by obtain ⟨⟨hu0, hu1, hu2, hu3⟩, ⟨hv0, hv1, hv2, hv3, hv4, hv5, hv6⟩, ⟨hx0, hx1, hx2⟩, ⟨hy0, hy1, hy2, hy3, hy4, hy5, hy6⟩, hz1⟩ := hSw; go_simp⟩
            simp only [Act.put, List.setIfInBounds_toArray, List.set_cons_zero, List.set_cons_succ]
            refine take_at (i := 41) (d := some 143) (v := .pointer (some ⟨gg, 0, none⟩)) rfl (by kernel_rfl) (by kernel_rfl) (by kernel_rfl) (fun _ _ _ h => h) (fun oi ho => ?_) HSQ.out ?_
            · obtain rfl := Option.some.inj ho
              exact Or.inl ⟨by rfl, fun wx hSw => by obtain ⟨⟨hu0, hu1, hu2, hu3⟩, ⟨hv0, hv1, hv2, hv3, hv4, hv5, hv6⟩, ⟨hx0, hx1, hx2⟩, ⟨hy0, hy1, hy2, hy3, hy4, hy5, hy6⟩, hz1⟩ := hSw; go_simp⟩
            simp only [Act.put, List.setIfInBounds_toArray, List.set_cons_zero, List.set_cons_succ]
            refine take_at (i := 42) (d := some 144) (v := .pointer (some ⟨gg, 3, none⟩)) rfl (by kernel_rfl) (by kernel_rfl) (by kernel_rfl) (fun _ _ _ h => h) (fun oi ho => ?_) HSQ.out ?_
            · obtain rfl := Option.some.inj ho
              exact Or.inl ⟨by rfl, fun wx hSw => by obtain ⟨⟨hu0, hu1, hu2, hu3⟩, ⟨hv0, hv1, hv2, hv3, hv4, hv5, hv6⟩, ⟨hx0, hx1, hx2⟩, ⟨hy0, hy1, hy2, hy3, hy4, hy5, hy6⟩, hz1⟩ := hSw; go_simp⟩
            simp only [Act.put, List.setIfInBounds_toArray, List.set_cons_zero, List.set_cons_succ]
            refine take_at (i := 43) (d := some 145) (v := .int .i64 r.v) rfl (by kernel_rfl) (by kernel_rfl) (by kernel_rfl) (fun _ _ _ h => h) (fun oi ho => ?_) HSQ.out ?_
            · obtain rfl := Option.some.inj ho
              exact Or.inl ⟨by rfl, fun wx hSw => by obtain ⟨⟨hu0, hu1, hu2, hu3⟩, ⟨hv0, hv1, hv2, hv3, hv4, hv5, hv6⟩, ⟨hx0, hx1, hx2⟩, ⟨hy0, hy1, hy2, hy3, hy4, hy5, hy6⟩, hz1⟩ := hSw; go_simp⟩
            simp only [Act.put, List.setIfInBounds_toArray, List.set_cons_zero, List.set_cons_succ]
            refine take_at (i := 44) (d := some 146) (v := .pointer (some ⟨w.heap.size, 3, none⟩)) rfl (by kernel_rfl) (by kernel_rfl) (by kernel_rfl) (fun _ _ _ h => h) (fun oi ho => ?_) HSQ.out ?_
            · obtain rfl := Option.some.inj ho
              exact Or.inl ⟨by rfl, fun wx hSw => by obtain ⟨⟨hu0, hu1, hu2, hu3⟩, ⟨hv0, hv1, hv2, hv3, hv4, hv5, hv6⟩, ⟨hx0, hx1, hx2⟩, ⟨hy0, hy1, hy2, hy3, hy4, hy5, hy6⟩, hz1⟩ := hSw; go_simp⟩
            simp only [Act.put, List.setIfInBounds_toArray, List.set_cons_zero, List.set_cons_succ]
            refine take_at (i := 45) (d := some 147) (v := .int .i64 r.v) rfl (by kernel_rfl) (by kernel_rfl) (by kernel_rfl) (fun _ _ _ h => h) (fun oi ho => ?_) HSQ.out ?_
            · obtain rfl := Option.some.inj ho
              exact Or.inl ⟨by rfl, fun wx hSw => by obtain ⟨⟨hu0, hu1, hu2, hu3⟩, ⟨hv0, hv1, hv2, hv3, hv4, hv5, hv6⟩, ⟨hx0, hx1, hx2⟩, ⟨hy0, hy1, hy2, hy3, hy4, hy5, hy6⟩, hz1⟩ := hSw; go_simp⟩
            simp only [Act.put, List.setIfInBounds_toArray, List.set_cons_zero, List.set_cons_succ]
            refine take_at (i := 46) (d := some 148) (v := .bool false) rfl (by kernel_rfl) (by kernel_rfl) (by kernel_rfl) (fun _ _ _ h => h) (fun oi ho => ?_) HSQ.out ?_
            · obtain rfl := Option.some.inj ho
              exact Or.inl ⟨by rfl, fun wx hSw => by obtain ⟨⟨hu0, hu1, hu2, hu3⟩, ⟨hv0, hv1, hv2, hv3, hv4, hv5, hv6⟩, ⟨hx0, hx1, hx2⟩, ⟨hy0, hy1, hy2, hy3, hy4, hy5, hy6⟩, hz1⟩ := hSw; go_simp⟩
            simp only [Act.put, List.setIfInBounds_toArray, List.set_cons_zero, List.set_cons_succ]
            refine take_at (i := 47) (d := some 149) (v := .bool false) rfl (by kernel_rfl) (by kernel_rfl) (by kernel_rfl) (fun _ _ _ h => h) (fun oi ho => ?_) HSQ.out ?_
            · obtain rfl := Option.some.inj ho
              exact Or.inl ⟨by rfl, fun wx hSw => by obtain ⟨⟨hu0, hu1, hu2, hu3⟩, ⟨hv0, hv1, hv2, hv3, hv4, hv5, hv6⟩, ⟨hx0, hx1, hx2⟩, ⟨hy0, hy1, hy2, hy3, hy4, hy5, hy6⟩, hz1⟩ := hSw; go_simp⟩
            simp only [Act.put, List.setIfInBounds_toArray, List.set_cons_zero, List.set_cons_succ]
            refine take_at (i := 48) (d := some 150) (v := .bool false) rfl (by kernel_rfl) (by kernel_rfl) (by kernel_rfl) (fun _ _ _ h => h) (fun oi ho => ?_) HSQ.out ?_
            · obtain rfl := Option.some.inj ho
              exact Or.inl ⟨by rfl, fun wx hSw => by obtain ⟨⟨hu0, hu1, hu2, hu3⟩, ⟨hv0, hv1, hv2, hv3, hv4, hv5, hv6⟩, ⟨hx0, hx1, hx2⟩, ⟨hy0, hy1, hy2, hy3, hy4, hy5, hy6⟩, hz1⟩ := hSw; go_simp⟩
            simp only [Act.put, List.setIfInBounds_toArray, List.set_cons_zero, List.set_cons_succ]
            refine take_at (i := 49) (d := some 151) (v := .slice (some ⟨gg, 0, none⟩) 1 cap) rfl (by kernel_rfl) (by kernel_rfl) (by kernel_rfl) (fun _ _ _ h => h) (fun oi ho => ?_) HSQ.out ?_
            · obtain rfl := Option.some.inj ho
              exact Or.inl ⟨by rfl, fun wx hSw => by obtain ⟨⟨hu0, hu1, hu2, hu3⟩, ⟨hv0, hv1, hv2, hv3, hv4, hv5, hv6⟩, ⟨hx0, hx1, hx2⟩, ⟨hy0, hy1, hy2, hy3, hy4, hy5, hy6⟩, hz1⟩ := hSw; go_simp⟩
            simp only [Act.put, List.setIfInBounds_toArray, List.set_cons_zero, List.set_cons_succ]
            refine take_at (i := 50) (d := some 152) (v := .pointer (some ⟨gg, 0, none⟩)) rfl (by kernel_rfl) (by kernel_rfl) (by kernel_rfl) (fun _ _ _ h => h) (fun oi ho => ?_) HSQ.out ?_
            · obtain rfl := Option.some.inj ho
              exact Or.inl ⟨by rfl, fun wx hSw => by obtain ⟨⟨hu0, hu1, hu2, hu3⟩, ⟨hv0, hv1, hv2, hv3, hv4, hv5, hv6⟩, ⟨hx0, hx1, hx2⟩, ⟨hy0, hy1, hy2, hy3, hy4, hy5, hy6⟩, hz1⟩ := hSw; go_simp⟩
            simp only [Act.put, List.setIfInBounds_toArray, List.set_cons_zero, List.set_cons_succ]
            refine take_at (i := 51) (d := some 153) (v := .pointer (some ⟨gg, 6, none⟩)) rfl (by kernel_rfl) (by kernel_rfl) (by kernel_rfl) (fun _ _ _ h => h) (fun oi ho => ?_) HSQ.out ?_
            · obtain rfl := Option.some.inj ho
              exact Or.inl ⟨by rfl, fun wx hSw => by obtain ⟨⟨hu0, hu1, hu2, hu3⟩, ⟨hv0, hv1, hv2, hv3, hv4, hv5, hv6⟩, ⟨hx0, hx1, hx2⟩, ⟨hy0, hy1, hy2, hy3, hy4, hy5, hy6⟩, hz1⟩ := hSw; go_simp⟩
            simp only [Act.put, List.setIfInBounds_toArray, List.set_cons_zero, List.set_cons_succ]
            refine take_at (i := 52) (d := some 154) (v := .bool r.cl) rfl (by kernel_rfl) (by kernel_rfl) (by kernel_rfl) (fun _ _ _ h => h) (fun oi ho => ?_) HSQ.out ?_
            · obtain rfl := Option.some.inj ho
              exact Or.inl ⟨by rfl, fun wx hSw => by obtain ⟨⟨hu0, hu1, hu2, hu3⟩, ⟨hv0, hv1, hv2, hv3, hv4, hv5, hv6⟩, ⟨hx0, hx1, hx2⟩, ⟨hy0, hy1, hy2, hy3, hy4, hy5, hy6⟩, hz1⟩ := hSw; go_simp⟩
            simp only [Act.put, List.setIfInBounds_toArray, List.set_cons_zero, List.set_cons_succ]
            refine take_at (i := 53) (d := some 155) (v := .pointer (some ⟨w.heap.size, 6, none⟩)) rfl (by kernel_rfl) (by kernel_rfl) (by kernel_rfl) (fun _ _ _ h => h) (fun oi ho => ?_) HSQ.out ?_
            · obtain rfl := Option.some.inj ho
              exact Or.inl ⟨by rfl, fun wx hSw => by obtain ⟨⟨hu0, hu1, hu2, hu3⟩, ⟨hv0, hv1, hv2, hv3, hv4, hv5, hv6⟩, ⟨hx0, hx1, hx2⟩, ⟨hy0, hy1, hy2, hy3, hy4, hy5, hy6⟩, hz1⟩ := hSw; go_simp⟩
            simp only [Act.put, List.setIfInBounds_toArray, List.set_cons_zero, List.set_cons_succ]
            refine take_at (i := 54) (d := some 156) (v := .bool r.cl) rfl (by kernel_rfl) (by kernel_rfl) (by kernel_rfl) (fun _ _ _ h => h) (fun oi ho => ?_) HSQ.out ?_
            · obtain rfl := Option.some.inj ho
              exact Or.inl ⟨by rfl, fun wx hSw => by obtain ⟨⟨hu0, hu1, hu2, hu3⟩, ⟨hv0, hv1, hv2, hv3, hv4, hv5, hv6⟩, ⟨hx0, hx1, hx2⟩, ⟨hy0, hy1, hy2, hy3, hy4, hy5, hy6⟩, hz1⟩ := hSw; go_simp⟩
            simp only [Act.put, List.setIfInBounds_toArray, List.set_cons_zero, List.set_cons_succ]
            refine take_at (i := 55) (d := some 157) (v := .bool false) rfl (by kernel_rfl) (by kernel_rfl) (by kernel_rfl) (fun _ _ _ h => h) (fun oi ho => ?_) HSQ.out ?_
            · obtain rfl := Option.some.inj ho
              exact Or.inl ⟨by rfl, fun wx hSw => by obtain ⟨⟨hu0, hu1, hu2, hu3⟩, ⟨hv0, hv1, hv2, hv3, hv4, hv5, hv6⟩, ⟨hx0, hx1, hx2⟩, ⟨hy0, hy1, hy2, hy3, hy4, hy5, hy6⟩, hz1⟩ := hSw; go_simp⟩
            simp only [Act.put, List.setIfInBounds_toArray, List.set_cons_zero, List.set_cons_succ]
            refine take_at (i := 56) (d := some 158) (v := .bool false) rfl (by kernel_rfl) (by kernel_rfl) (by kernel_rfl) (fun _ _ _ h => h) (fun oi ho => ?_) HSQ.out ?_
            · obtain rfl := Option.some.inj ho
              exact Or.inl ⟨by rfl, fun wx hSw => by obtain ⟨⟨hu0, hu1, hu2, hu3⟩, ⟨hv0, hv1, hv2, hv3, hv4, hv5, hv6⟩, ⟨hx0, hx1, hx2⟩, ⟨hy0, hy1, hy2, hy3, hy4, hy5, hy6⟩, hz1⟩ := hSw; go_simp⟩
            simp only [Act.put, List.setIfInBounds_toArray, List.set_cons_zero, List.set_cons_succ]
            refine take_at (i := 57) (d := some 159) (v := .bool false) rfl (by kernel_rfl) (by kernel_rfl) (by kernel_rfl) (fun _ _ _ h => h) (fun oi ho => ?_) HSQ.out ?_
            · obtain rfl := Option.some.inj ho
              exact Or.inl ⟨by rfl, fun wx hSw => by obtain ⟨⟨hu0, hu1, hu2, hu3⟩, ⟨hv0, hv1, hv2, hv3, hv4, hv5, hv6⟩, ⟨hx0, hx1, hx2⟩, ⟨hy0, hy1, hy2, hy3, hy4, hy5, hy6⟩, hz1⟩ := hSw; go_simp⟩
            simp only [Act.put, List.setIfInBounds_toArray, List.set_cons_zero, List.set_cons_succ]
            refine take_at (i := 58) (d := some 160) (v := .slice (some ⟨gg, 0, none⟩) 1 cap) rfl (by kernel_rfl) (by kernel_rfl) (by kernel_rfl) (fun _ _ _ h => h) (fun oi ho => ?_) HSQ.out ?_
            · obtain rfl := Option.some.inj ho
              exact Or.inl ⟨by rfl, fun wx hSw => by obtain ⟨⟨hu0, hu1, hu2, hu3⟩, ⟨hv0, hv1, hv2, hv3, hv4, hv5, hv6⟩, ⟨hx0, hx1, hx2⟩, ⟨hy0, hy1, hy2, hy3, hy4, hy5, hy6⟩, hz1⟩ := hSw; go_simp⟩
            simp only [Act.put, List.setIfInBounds_toArray, List.set_cons_zero, List.set_cons_succ]
            refine take_at (i := 59) (d := some 161) (v := .pointer (some ⟨gg, 0, none⟩)) rfl (by kernel_rfl) (by kernel_rfl) (by kernel_rfl) (fun _ _ _ h => h) (fun oi ho => ?_) HSQ.out ?_
            · obtain rfl := Option.some.inj ho
              exact Or.inl ⟨by rfl, fun wx hSw => by obtain ⟨⟨hu0, hu1, hu2, hu3⟩, ⟨hv0, hv1, hv2, hv3, hv4, hv5, hv6⟩, ⟨hx0, hx1, hx2⟩, ⟨hy0, hy1, hy2, hy3, hy4, hy5, hy6⟩, hz1⟩ := hSw; go_simp⟩
            simp only [Act.put, List.setIfInBounds_toArray, List.set_cons_zero, List.set_cons_succ]
            refine take_at (i := 60) (d := some 162) (v := .pointer (some ⟨gg, 4, none⟩)) rfl (by kernel_rfl) (by kernel_rfl) (by kernel_rfl) (fun _ _ _ h => h) (fun oi ho => ?_) HSQ.out ?_
            · obtain rfl := Option.some.inj ho
              exact Or.inl ⟨by rfl, fun wx hSw => by obtain ⟨⟨hu0, hu1, hu2, hu3⟩, ⟨hv0, hv1, hv2, hv3, hv4, hv5, hv6⟩, ⟨hx0, hx1, hx2⟩, ⟨hy0, hy1, hy2, hy3, hy4, hy5, hy6⟩, hz1⟩ := hSw; go_simp⟩
            simp only [Act.put, List.setIfInBounds_toArray, List.set_cons_zero, List.set_cons_succ]
            refine take_at (i := 61) (d := some 163) (v := .slice a1 k1 q1) rfl (by kernel_rfl) (by kernel_rfl) (by kernel_rfl) (fun _ _ _ h => h) (fun oi ho => ?_) HSQ.out ?_
            · obtain rfl := Option.some.inj ho
              exact Or.inl ⟨by rfl, fun wx hSw => by obtain ⟨⟨hu0, hu1, hu2, hu3⟩, ⟨hv0, hv1, hv2, hv3, hv4, hv5, hv6⟩, ⟨hx0, hx1, hx2⟩, ⟨hy0, hy1, hy2, hy3, hy4, hy5, hy6⟩, hz1⟩ := hSw; go_simp⟩
            simp only [Act.put, List.setIfInBounds_toArray, List.set_cons_zero, List.set_cons_succ]
            refine take_at (i := 62) (d := some 164) (v := .pointer (some ⟨w.heap.size, 4, none⟩)) rfl (by kernel_rfl) (by kernel_rfl) (by kernel_rfl) (fun _ _ _ h => h) (fun oi ho => ?_) HSQ.out ?_
            · obtain rfl := Option.some.inj ho
              exact Or.inl ⟨by rfl, fun wx hSw => by obtain ⟨⟨hu0, hu1, hu2, hu3⟩, ⟨hv0, hv1, hv2, hv3, hv4, hv5, hv6⟩, ⟨hx0, hx1, hx2⟩, ⟨hy0, hy1, hy2, hy3, hy4, hy5, hy6⟩, hz1⟩ := hSw; go_simp⟩
            simp only [Act.put, List.setIfInBounds_toArray, List.set_cons_zero, List.set_cons_succ]
            refine take_at (i := 63) (d := some 165) (v := .slice av kv qv) rfl (by kernel_rfl) (by kernel_rfl) (by kernel_rfl) (fun _ _ _ h => h) (fun oi ho => ?_) HSQ.out ?_
            · obtain rfl := Option.some.inj ho
              exact Or.inl ⟨by rfl, fun wx hSw => by obtain ⟨⟨hu0, hu1, hu2, hu3⟩, ⟨hv0, hv1, hv2, hv3, hv4, hv5, hv6⟩, ⟨hx0, hx1, hx2⟩, ⟨hy0, hy1, hy2, hy3, hy4, hy5, hy6⟩, hz1⟩ := hSw; go_simp⟩
            simp only [Act.put, List.setIfInBounds_toArray, List.set_cons_zero, List.set_cons_succ]
            refine ready_call (i := 64) (d := some 166) (f := 19) (args := #[.slice a1 k1 q1, .slice av kv qv]) rfl (by kernel_rfl) (fun oi ho => ?_) ?_
            · obtain rfl := Option.some.inj ho
              exact ⟨by rfl, by go_simp⟩
            refine HSF1.out.mono ?_
            rintro e W11 ⟨rfl, hB11⟩
            have HQ11 := Lib.hid hB11
            have HS11 := Lib.hid (HSF.out W11 (HUPQ.out W11 hB11))
            clear hB11
            refine ⟨_, rfl, HS11.out, ?_⟩
            simp only [Act.put, List.setIfInBounds_toArray, List.set_cons_zero, List.set_cons_succ]
            refine take_at (i := 65) (d := some 167) (v := .bool false) rfl (by kernel_rfl) (by kernel_rfl) (by kernel_rfl) (fun _ _ _ h => h) (fun oi ho => ?_) HS11.out ?_
            · obtain rfl := Option.some.inj ho
              exact Or.inl ⟨by rfl, fun wx hSw => by obtain ⟨⟨hu0, hu1, hu2, hu3⟩, ⟨hv0, hv1, hv2, hv3, hv4, hv5, hv6⟩, ⟨hx0, hx1, hx2⟩, ⟨hy0, hy1, hy2, hy3, hy4, hy5, hy6⟩, hz1⟩ := hSw; go_simp⟩
            simp only [Act.put, List.setIfInBounds_toArray, List.set_cons_zero, List.set_cons_succ]
            refine take_at (i := 66) (d := some 168) (v := .bool false) rfl (by kernel_rfl) (by kernel_rfl) (by kernel_rfl) (fun _ _ _ h => h) (fun oi ho => ?_) HS11.out ?_
            · obtain rfl := Option.some.inj ho
              exact Or.inl ⟨by rfl, fun wx hSw => by obtain ⟨⟨hu0, hu1, hu2, hu3⟩, ⟨hv0, hv1, hv2, hv3, hv4, hv5, hv6⟩, ⟨hx0, hx1, hx2⟩, ⟨hy0, hy1, hy2, hy3, hy4, hy5, hy6⟩, hz1⟩ := hSw; go_simp⟩
            simp only [Act.put, List.setIfInBounds_toArray, List.set_cons_zero, List.set_cons_succ]
            refine wpAnyH_done (by kernel_rfl) ?_ _
            refine NoPanic.normal ?_
            obtain ⟨Wr, hWr⟩ : ∃ W, W = W11.drew := ⟨_, rfl⟩
            have hBr : Below W11.heap.size W11 Wr := by rw [hWr]; exact ⟨rfl, rfl, rfl, Nat.le_refl _, fun _ _ => rfl⟩
            have HQr := Lib.hid (HQ11.out.trans (hBr.mono HQ11.out.size))
            have HSr := Lib.hid (HSF.out Wr (HUPQ.out Wr HQr.out))
            have hbk := HBKA.out n0 c ax nx cx body xs b0 o0 Wr ⟨(HCELL.out Wr (HUPQ.out Wr HQr.out).1).1, (HCELL.out Wr (HUPQ.out Wr HQr.out).1).2.1⟩ (HCELL.out Wr (HUPQ.out Wr HQr.out).1).1.fx (by have := HXL.out; omega) (by have := HNN.out; have := HN.out; omega)
            rw [show l.take n0 = l by rw [HNN.out, HN.out, List.take_length]] at hbk
            unfold rqV rpV at hbk
            have hrc : rqC r (.slice av kv qv) = #[S r.m, S r.p, S r.q, .int .i64 r.v, .slice av kv qv, S r.body, .bool r.cl] := rfl
            rw [hrc] at hbk
            have HBK1 := Lib.hid hbk
            clear hBr hbk hrc qs gs qv3 hi0 hlG
            go_wp2
            refine wp_region_noPanic ?_
            refine wp_region_held_drew (S := fun W => (W.cell? ⟨bg, 0, none⟩ = some (.slice (some ⟨gg, 0, none⟩) 1 cap) ∧ W.cell? ⟨b8, 0, none⟩ = some (.int .i64 c) ∧ W.cell? ⟨b8, 1, none⟩ = some (.slice a7 K7 q7) ∧ W.cell? ⟨b8, 2, none⟩ = some (S body)) ∧
              (W.cell? ⟨w.heap.size, 0, none⟩ = some (S r.m) ∧ W.cell? ⟨w.heap.size, 1, none⟩ = some (S r.p) ∧ W.cell? ⟨w.heap.size, 2, none⟩ = some (S r.q) ∧ W.cell? ⟨w.heap.size, 3, none⟩ = some (.int .i64 r.v) ∧ W.cell? ⟨w.heap.size, 4, none⟩ = some (.slice av kv qv) ∧ W.cell? ⟨w.heap.size, 5, none⟩ = some (S r.body) ∧ W.cell? ⟨w.heap.size, 6, none⟩ = some (.bool r.cl)) ∧
              (W.cell? ⟨w.heap.size + 1, 0, none⟩ = some (.int .i64 c) ∧ W.cell? ⟨w.heap.size + 1, 1, none⟩ = some (.slice ax nx cx) ∧ W.cell? ⟨w.heap.size + 1, 2, none⟩ = some (S body)) ∧
              (W.cell? ⟨gg, 0, none⟩ = some (S r.m) ∧ W.cell? ⟨gg, 1, none⟩ = some (S p0) ∧ W.cell? ⟨gg, 2, none⟩ = some (S r.q) ∧ W.cell? ⟨gg, 3, none⟩ = some (.int .i64 r.v) ∧ W.cell? ⟨gg, 4, none⟩ = some (.slice a1 k1 q1) ∧ W.cell? ⟨gg, 5, none⟩ = some (S r.body) ∧ W.cell? ⟨gg, 6, none⟩ = some (.bool r.cl)) ∧
              W.cell? ⟨b9, 1, none⟩ = some (S p0)) (by kernel_rfl) HS11.out (fun _ => ?_)
            rw [← hWr]
            clear hWr
            refine take_at (i := 0) (d := some 169) (v := .agg #[.int .i64 c, .slice a7 K7 q7, S body]) rfl (by kernel_rfl) (by kernel_rfl) (by kernel_rfl) (fun _ _ _ h => h) (fun oi ho => ?_) HSr.out ?_
            · obtain rfl := Option.some.inj ho
              exact Or.inl ⟨by rfl, fun wx hSw => by obtain ⟨⟨hu0, hu1, hu2, hu3⟩, ⟨hv0, hv1, hv2, hv3, hv4, hv5, hv6⟩, ⟨hx0, hx1, hx2⟩, ⟨hy0, hy1, hy2, hy3, hy4, hy5, hy6⟩, hz1⟩ := hSw; go_simp⟩
            simp only [Act.put, List.setIfInBounds_toArray, List.set_cons_zero, List.set_cons_succ]
            refine take_at (i := 1) (d := some 170) (v := Vw) rfl (by kernel_rfl) (by kernel_rfl) (by kernel_rfl) (fun _ _ _ h => h) (fun oi ho => ?_) HSr.out ?_
            · obtain rfl := Option.some.inj ho
              exact Or.inl ⟨by rfl, fun wx hSw => by obtain ⟨⟨hu0, hu1, hu2, hu3⟩, ⟨hv0, hv1, hv2, hv3, hv4, hv5, hv6⟩, ⟨hx0, hx1, hx2⟩, ⟨hy0, hy1, hy2, hy3, hy4, hy5, hy6⟩, hz1⟩ := hSw; go_simp⟩
            simp only [Act.put, List.setIfInBounds_toArray, List.set_cons_zero, List.set_cons_succ]
            refine take_at (i := 2) (d := some 171) (v := .int .i64 (n0 : Int)) rfl (by kernel_rfl) (by kernel_rfl) (by kernel_rfl) (fun _ _ _ h => h) (fun oi ho => ?_) HSr.out ?_
            · obtain rfl := Option.some.inj ho
              exact Or.inl ⟨by rfl, fun wx hSw => by obtain ⟨⟨hu0, hu1, hu2, hu3⟩, ⟨hv0, hv1, hv2, hv3, hv4, hv5, hv6⟩, ⟨hx0, hx1, hx2⟩, ⟨hy0, hy1, hy2, hy3, hy4, hy5, hy6⟩, hz1⟩ := hSw; go_simp⟩
            simp only [Act.put, List.setIfInBounds_toArray, List.set_cons_zero, List.set_cons_succ]
            refine take_at (i := 3) (d := some 172) (v := .agg #[S r.m, S r.p, S r.q, .int .i64 r.v, .slice av kv qv, S r.body, .bool r.cl]) rfl (by kernel_rfl) (by kernel_rfl) (by kernel_rfl) (fun _ _ _ h => h) (fun oi ho => ?_) HSr.out ?_
            · obtain rfl := Option.some.inj ho
              exact Or.inl ⟨by rfl, fun wx hSw => by obtain ⟨⟨hu0, hu1, hu2, hu3⟩, ⟨hv0, hv1, hv2, hv3, hv4, hv5, hv6⟩, ⟨hx0, hx1, hx2⟩, ⟨hy0, hy1, hy2, hy3, hy4, hy5, hy6⟩, hz1⟩ := hSw; go_simp⟩
            simp only [Act.put, List.setIfInBounds_toArray, List.set_cons_zero, List.set_cons_succ]
            refine take_at (i := 4) (d := some 173) (v := .agg #[.int .i64 c, .slice ax nx cx, S body]) rfl (by kernel_rfl) (by kernel_rfl) (by kernel_rfl) (fun _ _ _ h => h) (fun oi ho => ?_) HSr.out ?_
            · obtain rfl := Option.some.inj ho
              exact Or.inl ⟨by rfl, fun wx hSw => by obtain ⟨⟨hu0, hu1, hu2, hu3⟩, ⟨hv0, hv1, hv2, hv3, hv4, hv5, hv6⟩, ⟨hx0, hx1, hx2⟩, ⟨hy0, hy1, hy2, hy3, hy4, hy5, hy6⟩, hz1⟩ := hSw; go_simp⟩
            simp only [Act.put, List.setIfInBounds_toArray, List.set_cons_zero, List.set_cons_succ]
            refine ready_call (i := 5) (d := some 174) (f := 18) (args := #[Vw, .int .i64 (n0 : Int), .agg #[S r.m, S r.p, S r.q, .int .i64 r.v, .slice av kv qv, S r.body, .bool r.cl], .agg #[.int .i64 c, .slice ax nx cx, S body]]) rfl (by kernel_rfl) (fun oi ho => ?_) ?_
            · obtain rfl := Option.some.inj ho
              exact ⟨by rfl, by go_simp⟩
            refine HBK1.out.mono ?_
            rintro e W21 ⟨V21, g21, rfl, hA21, hB21⟩
            have hQ21 := HQr.out.trans (hB21.mono HQr.out.size)
            have HU21 := HUPQ.out W21 hQ21
            have HS21 := Lib.hid (HSF.out W21 HU21)
            have HSM := Lib.hid (same13_true c body (xs ++ addsS r.fs l) (.slice a7 K7 q7) V21 g7 0 g21 0 HLX.out W21 (HCELL.out W21 HU21.1).2.2.2.2.1 hA21)
            have HQ21 := Lib.hid hQ21
            unfold rpV rpC at HSM
            unfold rpC
            clear hA21 hB21 HU21 hQ21
            refine ⟨_, rfl, HS21.out, ?_⟩
            simp only [Act.put, List.setIfInBounds_toArray, List.set_cons_zero, List.set_cons_succ]
            refine ready_call (i := 6) (d := some 175) (f := 17) (args := #[.agg #[.int .i64 c, .slice a7 K7 q7, S body], .agg #[.int .i64 c, V21, S body]]) rfl (by kernel_rfl) (fun oi ho => ?_) ?_
            · obtain rfl := Option.some.inj ho
              exact ⟨by rfl, by go_simp⟩
            refine HSM.out.mono ?_
            rintro e W22 ⟨rfl, hB22⟩
            have HQ22 := Lib.hid (HQ21.out.trans (hB22.mono HQ21.out.size))
            have HU22 := HUPQ.out W22 HQ22.out
            have HS22 := Lib.hid (HSF.out W22 HU22)
            have HWK := Lib.hid (wakes13_any (HC.out.up (HCELL.out W22 HU22.1).1.rq.bel))
            have HBE := Lib.hid (HCELL.out W22 HU22.1).1.rq.bel
            clear hB22 HU22
            refine ⟨_, rfl, HS22.out, ?_⟩
            simp only [Act.put, List.setIfInBounds_toArray, List.set_cons_zero, List.set_cons_succ]
            refine take_at (i := 7) (d := some 176) (v := .bool true) rfl (by kernel_rfl) (by kernel_rfl) (by kernel_rfl) (fun _ _ _ h => h) (fun oi ho => ?_) HS22.out ?_
            · obtain rfl := Option.some.inj ho
              exact Or.inl ⟨by rfl, fun wx hSw => by obtain ⟨⟨hu0, hu1, hu2, hu3⟩, ⟨hv0, hv1, hv2, hv3, hv4, hv5, hv6⟩, ⟨hx0, hx1, hx2⟩, ⟨hy0, hy1, hy2, hy3, hy4, hy5, hy6⟩, hz1⟩ := hSw; go_simp⟩
            simp only [Act.put, List.setIfInBounds_toArray, List.set_cons_zero, List.set_cons_succ]
            refine ready_call (i := 8) (d := some 177) (f := 10) (args := #[]) rfl (by kernel_rfl) (fun oi ho => ?_) ?_
            · obtain rfl := Option.some.inj ho
              exact ⟨by rfl, by go_simp⟩
            refine HWK.out.mono ?_
            rintro e W23 ⟨rfl, hB23⟩
            have HQ23 := Lib.hid (HQ22.out.trans (hB23.mono HQ22.out.size))
            have HS23 := Lib.hid (HSF.out W23 (HUPQ.out W23 HQ23.out))
            have HE := Lib.hid (HBE.out.trans (hB23.mono HBE.out.size))
            clear hB23
            refine ⟨_, rfl, HS23.out, ?_⟩
            simp only [Act.put, List.setIfInBounds_toArray, List.set_cons_zero, List.set_cons_succ]
            refine take_at (i := 9) (d := some 178) (v := .bool true) rfl (by kernel_rfl) (by kernel_rfl) (by kernel_rfl) (fun _ _ _ h => h) (fun oi ho => ?_) HS23.out ?_
            · obtain rfl := Option.some.inj ho
              exact Or.inl ⟨by rfl, fun wx hSw => by obtain ⟨⟨hu0, hu1, hu2, hu3⟩, ⟨hv0, hv1, hv2, hv3, hv4, hv5, hv6⟩, ⟨hx0, hx1, hx2⟩, ⟨hy0, hy1, hy2, hy3, hy4, hy5, hy6⟩, hz1⟩ := hSw; go_simp⟩
            simp only [Act.put, List.setIfInBounds_toArray, List.set_cons_zero, List.set_cons_succ]
            refine take_at (i := 10) (d := some 6) (v := .bool true) rfl (by kernel_rfl) (by kernel_rfl) (by kernel_rfl) (fun _ _ _ h => h) (fun oi ho => ?_) HS23.out ?_
            · obtain rfl := Option.some.inj ho
              exact Or.inl ⟨by rfl, fun wx hSw => by obtain ⟨⟨hu0, hu1, hu2, hu3⟩, ⟨hv0, hv1, hv2, hv3, hv4, hv5, hv6⟩, ⟨hx0, hx1, hx2⟩, ⟨hy0, hy1, hy2, hy3, hy4, hy5, hy6⟩, hz1⟩ := hSw; go_simp⟩
            simp only [Act.put, List.setIfInBounds_toArray, List.set_cons_zero, List.set_cons_succ]
            refine wpAnyH_done (by kernel_rfl) ?_ _
            refine NoPanic.normal ?_
            go_wp2
            go_ret
            exact ⟨rfl, HE.out⟩
end Go.Proofs.YtbnlkjoblngakaaDoor
