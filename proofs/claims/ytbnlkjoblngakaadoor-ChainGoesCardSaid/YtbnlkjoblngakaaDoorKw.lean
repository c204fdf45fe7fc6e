/- The document's Back (stage 13) walked. (mkkw.py writes it.) -/
import Derived.Test.YtbnlkjoblngakaaDoorKv
import Derived.Shelf.RegionOpen
namespace Go.Proofs.YtbnlkjoblngakaaDoor
open Go.RowKit Go.Shelf
attribute [local go_sem] store_one S_match S_store eguard_BN nguard_BN

structure BackAt (w : World) (b1 : Nat) (r : Rq) (V : Value) (CX : Array Value) (b o : Nat) (Vl : Value) (l : List Stp) (bs os : Nat) (W : World) : Prop where
  rq : Row W b1 (rqC r V) 25
  rx : Row W (b1 + 1) CX 27
  r6 : Row W (b1 + 1 + 1) #[.int .i64 0, .slice none 0 0, .string ⟨#[]⟩] 27
  fa : FA W V r.fs b o
  st : StB W Vl l bs os
  bel : Below w.heap.size w W
theorem BackAt.below {w : World} {b1 : Nat} {r : Rq} {V : Value} {CX : Array Value} {b o : Nat} {Vl : Value} {l : List Stp} {bs os : Nat} {W W' : World} (h : BackAt w b1 r V CX b o Vl l bs os W) (hb : Below W.heap.size W W') :
    BackAt w b1 r V CX b o Vl l bs os W' :=
  ⟨h.rq.below hb h.rq.lt, h.rx.below hb h.rx.lt, h.r6.below hb h.r6.lt, h.fa.below hb, h.st.below hb, h.bel.trans (hb.mono h.bel.size)⟩
/-- The same behind a place of one's own that grew. -/
theorem BackAt.own {w : World} {b1 : Nat} {r : Rq} {V : Value} {CX : Array Value} {b o : Nat} {Vl : Value} {l : List Stp} {bs os : Nat} {W W' : World} {B : Nat} (h : BackAt w b1 r V CX b o Vl l bs os W) (hA : FA w V r.fs b o) (hS : StB w Vl l bs os) (hb1 : b1 = w.heap.size) (hB : B = b1 + 3) (hb : Below B W W') :
    BackAt w b1 r V CX b o Vl l bs os W' := by
  have h2 : Below w.heap.size w W' := h.bel.trans (hb.mono (by omega))
  exact ⟨h.rq.below hb (by omega), h.rx.below hb (by omega), h.r6.below hb (by omega), hA.below h2, hS.below h2, h2⟩
set_option maxRecDepth 100000 in
set_option maxHeartbeats 800000 in
theorem back13_any (r : Rq) (V : Value) (b o : Nat) (l : List Stp) (Vl : Value) (bs os : Nat) (n : Nat) (c : Int) (ax : Option Addr) (nx cx : Nat) (body : Tx) (xs : Fds) (b0 o0 : Nat) (w : World) (hS : StB w Vl l bs os) (hA : FA w V r.fs b o) (hX : FA w (.slice ax nx cx) xs b0 o0) (hxl : xs.length ≤ 100)
    (sl : SmallS l) (sr : SmallR r) (hn : n ≤ l.length) :
    Calls Tryd.prog 18 #[Vl, .int .i64 (n : Int), rqV r V, rpV c (.slice ax nx cx) body] w fun e w' => ∃ V' g, e = .returned (rpV c V' body) ∧ FA w' V' (xs ++ addsS r.fs (l.take n)) g 0 ∧ Below w.heap.size w w' := by
  unfold rqV rpV rpC
  obtain ⟨b1, hb1⟩ : ∃ b, b = w.heap.size := ⟨_, rfl⟩
  obtain ⟨W3, hW3⟩ : ∃ W, W = ((w.alloc (.cells (rqC r V) 25)).alloc (.cells #[.int .i64 c, .slice ax nx cx, S body] 27)).alloc (.cells #[.int .i64 0, .slice none 0 0, .string ⟨#[]⟩] 27) := ⟨_, rfl⟩
  have hB3 : Below w.heap.size w W3 := by rw [hW3]; exact (((Below.refl _ w).alloc (Nat.le_refl _) _).alloc (by rw [alloc_size]; omega) _).alloc (by rw [alloc_size, alloc_size]; omega) _
  have hr1 : Row W3 b1 (rqC r V) 25 := by rw [hW3, hb1]; exact ((row_new _ _ _).alloc _).alloc _
  have hrx : Row W3 (b1 + 1) #[.int .i64 c, .slice ax nx cx, S body] 27 := by
    have h := row_new (w.alloc (.cells (rqC r V) 25)) #[.int .i64 c, .slice ax nx cx, S body] 27
    rw [alloc_size, ← hb1] at h
    rw [hW3]; exact h.alloc _
  have hr6 : Row W3 (b1 + 1 + 1) #[.int .i64 0, .slice none 0 0, .string ⟨#[]⟩] 27 := by
    have h := row_new ((w.alloc (.cells (rqC r V) 25)).alloc (.cells #[.int .i64 c, .slice ax nx cx, S body] 27)) #[.int .i64 0, .slice none 0 0, .string ⟨#[]⟩] 27
    rw [alloc_size, alloc_size, ← hb1] at h
    rw [hW3]; exact h
  have hB3s : W3.heap.size = b1 + 3 := by rw [hW3, alloc_size, alloc_size, alloc_size, ← hb1]
  have hK3 : BackAt w b1 r V #[.int .i64 c, .slice ax nx cx, S body] b o Vl l bs os W3 := ⟨hr1, hrx, hr6, hA.below hB3, hS.below hB3, hB3⟩
  obtain ⟨V4, W4, hr4, hF4, hB4⟩ := run_copyF (hX.below hB3) (by omega) 23
  obtain ⟨g4, hA4, -⟩ := FO.fa hF4
  obtain ⟨a4, c4, hv4⟩ := hA4.form
  subst hv4
  have HK4 := Lib.hid (hK3.below hB4)
  have hsz4 := hB4.size
  have HS4 : Hid (b1 + 3 ≤ W4.heap.size) := Lib.hid (by omega)
  obtain ⟨B3, hB3e⟩ : ∃ B, B = b1 + 3 := ⟨_, rfl⟩
  rw [hB3s, ← hB3e] at hF4
  have f1 : (W3.alloc (.cells #[] 53)).cell? ⟨b1 + 1, 1, none⟩ = some (.slice ax nx cx) := cell_of_row _ (b1 + 1) 1 _ _ (0, 0) (hrx.alloc _)
  obtain ⟨K0, hK0⟩ : ∃ K, K = xs.length := ⟨_, rfl⟩
  change FO B3 (.slice a4 (List.length xs) c4) xs W4 at hF4
  have hr4' : (Builtin.append_ #[23, 23] 23 #[.slice (some ⟨W3.heap.size, 0, none⟩) 0 0, .slice ax nx cx]).run Tryd.prog (W3.alloc (.cells #[] 53)) = .ok (.slice a4 (List.length xs) c4) W4 := hr4
  rw [← hK0] at hF4 hr4'
  have HF4 : Hid (K0 = (outG r.fs l n n xs).length ∧ FO B3 (.slice a4 K0 c4) (outG r.fs l n n xs) W4) := Lib.hid (by rw [outG_end _ _ _ _ hn]; exact ⟨hK0, hF4⟩)
  have hs3 : W3.heap.size = w.heap.size + 1 + 1 + 1 := by rw [hW3, alloc_size, alloc_size, alloc_size]
  rw [hs3] at hr4'
  have HR4 := Lib.hid hr4'
  clear hs3
  have HBE := Lib.hid (And.intro hb1 hB3e)
  have HAS := Lib.hid (And.intro hA hS)
  have HSL := Lib.hid sl
  have HSR := Lib.hid sr
  have HXL := Lib.hid hxl
  have HN := Lib.hid hn
  have hn12 : n ≤ 12 := Nat.le_trans hn sl.1
  have HG : Hid (∀ name : Tx, name.length ≤ 100 → ∀ W : World, FA W V r.fs b o → Calls Tryd.prog 33 #[V, S name] W fun e w' => e = .returned (.tuple #[S ((firstF r.fs name).getD []), .bool (firstF r.fs name).isSome]) ∧ Below W.heap.size W w') :=
    Lib.hid fun name hn W h => get13_any r.fs _ b o name (by omega) (by have := sr.few; omega) (fun f hf => by have := (sr.each f hf).1; omega) W h
  have hw0 : IntKind.i64.wrap ((n : Int) - 1) = (n : Int) - 1 := by rw [IntKind.wrap_i64]; omega
  rw [hb1] at f1
  clear hr1 hrx hr6 hB3 hB3s hK3 hr4 hr4' hF4 hB4 hA4 hA hS hX hxl sl sr hn hK0 hsz4 hB3e
  have hrc : rqC r V = #[S r.m, S r.p, S r.q, .int .i64 r.v, V, S r.body, .bool r.cl] := rfl
  rw [hrc] at hW3 ⊢
  clear hrc
  rw [hW3] at HR4 f1
  go_enter Tryd.func18, Tryd.ntmps18
  go_wp2_with first
    | (at_builtin; refine wpList_append_at rfl (.tmp 13) (.tmp 15) 23 rfl _ _ rfl rfl (.slice a4 K0 c4) W4 HR4.out ?_)
  clear HR4 f1
  rw [← hb1]
  clear hW3 hb1
  go_loopw [9, 10] (fun ov iv wr => ∃ (j : Nat) (a : Option Addr) (K cc : Nat), j ≤ n ∧ ov = .slice a K cc ∧ iv = .int .i64 ((j : Int) - 1) ∧ Hid (K = (outG r.fs l n j xs).length ∧ FO B3 (.slice a K cc) (outG r.fs l n j xs) wr ∧ b1 + 3 ≤ wr.heap.size ∧ BackAt w b1 r V #[.int .i64 c, .slice ax nx cx, S body] b o Vl l bs os wr)) (fun _ iv _ => (intOf iv + 1).toNat)
  case atStart => exact ⟨n, a4, K0, c4, Nat.le_refl _, rfl, rfl, Lib.hid ⟨HF4.out.1, HF4.out.2, HS4.out, HK4.out⟩⟩
  case round =>
    obtain ⟨j, a, K, cc, hj, rfl, rfl, HI⟩ := hrel
    obtain ⟨hK, hF, hsz, hbk⟩ := HI.out
    have hBe := HBE.out.2
    by_cases hj0 : j = 0
    · subst hj0
      have g1 : decide ((0 : Int) ≤ ((0 : Nat) : Int) - 1) = false := rfl
      obtain ⟨Wx, hWx⟩ : ∃ W, W = wr.setCell ⟨b1 + 1, 1, none⟩ (.slice a K cc) := ⟨_, rfl⟩
      have hrx : Row Wx (b1 + 1) #[.int .i64 c, .slice a K cc, S body] 27 := by rw [hWx]; exact hbk.rx.set 1 _
      have hr6 : Row Wx (b1 + 1 + 1) #[.int .i64 0, .slice none 0 0, .string ⟨#[]⟩] 27 := by rw [hWx]; exact hbk.r6.other (a := ⟨b1 + 1, 1, none⟩) (by show b1 + 1 + 1 ≠ b1 + 1; omega)
      have x1 : wr.cell? ⟨b1 + 1, 1, none⟩ = some (.slice ax nx cx) := cell_of_row _ (b1 + 1) 1 _ _ (0, 0) hbk.rx
      have z1 := hbk.rx.frozen 1
      have y0 : Wx.cell? ⟨b1 + 1, 0, none⟩ = some (.int .i64 c) := cell_of_row _ (b1 + 1) 0 _ _ (0, 0) hrx
      have y1 : Wx.cell? ⟨b1 + 1, 1, none⟩ = some (.slice a K cc) := cell_of_row _ (b1 + 1) 1 _ _ (0, 0) hrx
      have y2 : Wx.cell? ⟨b1 + 1, 2, none⟩ = some (S body) := cell_of_row _ (b1 + 1) 2 _ _ (0, 0) hrx
      have v0 : Wx.cell? ⟨b1 + 1 + 1, 0, none⟩ = some (.int .i64 0) := cell_of_row _ (b1 + 1 + 1) 0 _ _ (0, 0) hr6
      have v1 : Wx.cell? ⟨b1 + 1 + 1, 1, none⟩ = some (.slice none 0 0) := cell_of_row _ (b1 + 1 + 1) 1 _ _ (0, 0) hr6
      have v2 : Wx.cell? ⟨b1 + 1 + 1, 2, none⟩ = some (.string ⟨#[]⟩) := cell_of_row _ (b1 + 1 + 1) 2 _ _ (0, 0) hr6
      have w0 := hr6.frozen 0
      have w1 := hr6.frozen 1
      have w2 := hr6.frozen 2
      have HR6 := Lib.hid hr6
      have hrow := put3k_row hr6 (.int .i64 c) (.slice a K cc) (S body)
      have hown : FO B3 (.slice a K cc) (outG r.fs l n 0 xs) (put3k Wx (b1 + 1 + 1) (.int .i64 c) (.slice a K cc) (S body)) := by
        rw [hWx]
        unfold FO at hF ⊢
        exact row_own_set (row_own_set (row_own_set (row_own_set hF (by omega)) (by omega)) (by omega)) (by omega)
      have hbel : Below w.heap.size w (put3k Wx (b1 + 1 + 1) (.int .i64 c) (.slice a K cc) (S body)) := by
        have h1 : Below w.heap.size w Wx := by rw [hWx]; exact hbk.bel.setCell (p := ⟨b1 + 1, 1, none⟩) (by have := HBE.out.1; show w.heap.size ≤ b1 + 1; omega) _
        exact put3k_below h1 (by have := HBE.out.1; omega) _ _ _
      have HROW := Lib.hid hrow
      have HEND := Lib.hid (And.intro hown hbel)
      rw [hWx] at y0 y1 y2 v0 v1 v2 w0 w1 w2 HROW HEND
      clear hown hbel hrow hr6 hrx hWx HI hK hF hsz hbk hBe HR6
      go_wp2
      refine bodyPost_ret (results_row_one rfl _ _ (b1 + 1 + 1) 27 _ (0, 0) _ rfl HROW.out Tryd.underlying27 rfl infoRp) rfl ?_
      obtain ⟨gz, hz, -⟩ := FO.fa HEND.out.1
      rw [outG_all] at hz
      exact ⟨_, gz, rfl, hz, HEND.out.2⟩
    · obtain ⟨k, hk⟩ : ∃ k, k = j - 1 := ⟨_, rfl⟩
      have hjk : j = k + 1 := by omega
      have g1 : decide ((0 : Int) ≤ (j : Int) - 1) = true := decide_eq_true (by omega)
      have hwd : IntKind.i64.wrap ((j : Int) - 1 - 1) = (j : Int) - 1 - 1 := by rw [IntKind.wrap_i64]; omega
      obtain ⟨⟨kd, nm, vl, sn⟩, hs⟩ : ∃ s, l[k]? = some s := ⟨l[k]'(by have := HN.out; omega), List.getElem?_eq_getElem _⟩
      have hix : ∀ w', (Instr.indexAt 30 Vl (.int .i64 ((j : Int) - 1))).run Tryd.prog w' = .ok (.pointer (some ⟨bs, os + k * 4, none⟩)) w' := by
        have := hbk.st.index k (by have := HN.out; omega)
        rwa [show (k : Int) = (j : Int) - 1 by omega] at this
      obtain ⟨kk, hkk⟩ : ∃ x, x = os + k * 4 := ⟨_, rfl⟩
      rw [← hkk] at hix
      have s0 : wr.cell? ⟨bs, kk, none⟩ = some (.int .i64 kd) := by rw [hkk]; exact hbk.st.cell k _ hs 0 _ rfl
      have s1 : wr.cell? ⟨bs, kk + 1, none⟩ = some (S nm) := by rw [hkk]; exact hbk.st.cell k _ hs 1 _ rfl
      have s2 : wr.cell? ⟨bs, kk + 2, none⟩ = some (S vl) := by rw [hkk]; exact hbk.st.cell k _ hs 2 _ rfl
      have hnext := outG_next r.fs l n k xs _ (by omega) hs
      rw [← hjk] at hnext
      have HNX := Lib.hid hnext
      have HSM := Lib.hid (HSL.out.2 _ (List.mem_of_getElem? hs))
      have HJ := Lib.hid (And.intro hk hjk)
      have hlen := outG_len r.fs l n j xs
      have hl112 : (outG r.fs l n j xs).length ≤ 1000 := by have := HXL.out; have := HSL.out.1; omega
      by_cases k1 : kd = 1
      · have e1 : (kd == 1) = true := beq_iff_eq.2 k1
        have hadd : addS r.fs ⟨kd, nm, vl, sn⟩ = [(nm, vl)] := by unfold addS; rw [if_pos k1]
        rw [hadd] at hnext
        obtain ⟨Wq, hWq⟩ : ∃ W, W = wr.drew := ⟨_, rfl⟩
        have hBq : Below wr.heap.size wr Wq := by rw [hWq]; exact ⟨rfl, rfl, rfl, Nat.le_refl _, fun _ _ => rfl⟩
        have hFq : FO B3 (.slice a K cc) (outG r.fs l n j xs) Wq := by rw [hWq]; exact hF
        have hszq : b1 + 3 ≤ Wq.heap.size := by have := hBq.size; omega
        have hbq := hbk.below hBq
        obtain ⟨a7, c7, W7, hr7, hF7, hB7⟩ := run_addF hFq hl112 (by omega) (nm, vl) 23
        rw [← hK] at hr7 hF7
        have HX : Hid (K + 1 = (outG r.fs l n k xs).length ∧ FO B3 (.slice a7 (K + 1) c7) (outG r.fs l n k xs) W7 ∧ b1 + 3 ≤ W7.heap.size ∧ BackAt w b1 r V #[.int .i64 c, .slice ax nx cx, S body] b o Vl l bs os W7) :=
          Lib.hid ⟨by rw [hnext, List.length_append, List.length_singleton, hK], by rw [hnext]; exact hF7, by have := hB7.size; omega, hbq.own HAS.out.1 HAS.out.2 HBE.out.1 hBe hB7⟩
        have hat : ∀ W : World, BackAt w b1 r V #[.int .i64 c, .slice ax nx cx, S body] b o Vl l bs os W → W.cell? ⟨bs, kk + 1, none⟩ = some (S nm) ∧ W.cell? ⟨bs, kk + 2, none⟩ = some (S vl) := fun W h => by
          rw [hkk]; exact ⟨h.st.cell k _ hs 1 _ rfl, h.st.cell k _ hs 2 _ rfl⟩
        have HSQ := Lib.hid (hat Wq hbq)
        have HSA := Lib.hid (hat _ (hbq.below ((Below.refl _ _).alloc (Nat.le_refl _) (.cells #[S nm, S vl] 53))))
        have HS7 := Lib.hid (hat W7 HX.out.2.2.2)
        have hr7' : (Builtin.append_ #[23, 23] 23 #[.slice a K cc, .slice (some ⟨Wq.heap.size, 0, none⟩) 1 1]).run Tryd.prog (Wq.alloc (.cells #[S nm, S vl] 53)) = .ok (.slice a7 (K + 1) c7) W7 := hr7
        have HR7 := Lib.hid hr7'
        clear hat hr7 hr7' hBq hFq hszq hbq
        clear hF7 hB7 hadd hnext hs hkk hK hF hsz hbk hBe HI k1 hlen hl112 hk hjk
        go_wp2
        refine wp_region_noPanic ?_
        refine wp_region_held_drew (S := fun wx => wx.cell? ⟨bs, kk + 1, none⟩ = some (S nm) ∧ wx.cell? ⟨bs, kk + 2, none⟩ = some (S vl)) (by kernel_rfl) ⟨s1, s2⟩ (fun _ => ?_)
        rw [← hWq]
        clear hWq s0 s1 s2
        refine take_at (i := 0) (d := some 30) (v := .slice a K cc) rfl (by kernel_rfl) (by kernel_rfl) (by kernel_rfl) (fun _ _ _ h => h) (fun oi ho => ?_) HSQ.out ?_
        · obtain rfl := Option.some.inj ho
          exact Or.inl ⟨by rfl, fun wx hSw => by obtain ⟨hu1, hu2⟩ := hSw; go_simp⟩
        simp only [Act.put, List.setIfInBounds_toArray, List.set_cons_zero, List.set_cons_succ]
        refine take_at (i := 1) (d := some 31) (v := Vl) rfl (by kernel_rfl) (by kernel_rfl) (by kernel_rfl) (fun _ _ _ h => h) (fun oi ho => ?_) HSQ.out ?_
        · obtain rfl := Option.some.inj ho
          exact Or.inl ⟨by rfl, fun wx hSw => by obtain ⟨hu1, hu2⟩ := hSw; go_simp⟩
        simp only [Act.put, List.setIfInBounds_toArray, List.set_cons_zero, List.set_cons_succ]
        refine take_at (i := 2) (d := some 32) (v := .int .i64 ((j : Int) - 1)) rfl (by kernel_rfl) (by kernel_rfl) (by kernel_rfl) (fun _ _ _ h => h) (fun oi ho => ?_) HSQ.out ?_
        · obtain rfl := Option.some.inj ho
          exact Or.inl ⟨by rfl, fun wx hSw => by obtain ⟨hu1, hu2⟩ := hSw; go_simp⟩
        simp only [Act.put, List.setIfInBounds_toArray, List.set_cons_zero, List.set_cons_succ]
        refine take_at (i := 3) (d := some 33) (v := .pointer (some ⟨bs, kk, none⟩)) rfl (by kernel_rfl) (by kernel_rfl) (by kernel_rfl) (fun _ _ _ h => h) (fun oi ho => ?_) HSQ.out ?_
        · obtain rfl := Option.some.inj ho
          exact Or.inl ⟨by rfl, fun wx hSw => by obtain ⟨hu1, hu2⟩ := hSw; go_simp⟩
        simp only [Act.put, List.setIfInBounds_toArray, List.set_cons_zero, List.set_cons_succ]
        refine take_at (i := 4) (d := some 34) (v := .pointer (some ⟨bs, kk + 1, none⟩)) rfl (by kernel_rfl) (by kernel_rfl) (by kernel_rfl) (fun _ _ _ h => h) (fun oi ho => ?_) HSQ.out ?_
        · obtain rfl := Option.some.inj ho
          exact Or.inl ⟨by rfl, fun wx hSw => by obtain ⟨hu1, hu2⟩ := hSw; go_simp⟩
        simp only [Act.put, List.setIfInBounds_toArray, List.set_cons_zero, List.set_cons_succ]
        refine take_at (i := 5) (d := some 35) (v := S nm) rfl (by kernel_rfl) (by kernel_rfl) (by kernel_rfl) (fun _ _ _ h => h) (fun oi ho => ?_) HSQ.out ?_
        · obtain rfl := Option.some.inj ho
          exact Or.inl ⟨by rfl, fun wx hSw => by obtain ⟨hu1, hu2⟩ := hSw; go_simp⟩
        simp only [Act.put, List.setIfInBounds_toArray, List.set_cons_zero, List.set_cons_succ]
        refine take_at (i := 6) (d := some 36) (v := Vl) rfl (by kernel_rfl) (by kernel_rfl) (by kernel_rfl) (fun _ _ _ h => h) (fun oi ho => ?_) HSQ.out ?_
        · obtain rfl := Option.some.inj ho
          exact Or.inl ⟨by rfl, fun wx hSw => by obtain ⟨hu1, hu2⟩ := hSw; go_simp⟩
        simp only [Act.put, List.setIfInBounds_toArray, List.set_cons_zero, List.set_cons_succ]
        refine take_at (i := 7) (d := some 37) (v := .int .i64 ((j : Int) - 1)) rfl (by kernel_rfl) (by kernel_rfl) (by kernel_rfl) (fun _ _ _ h => h) (fun oi ho => ?_) HSQ.out ?_
        · obtain rfl := Option.some.inj ho
          exact Or.inl ⟨by rfl, fun wx hSw => by obtain ⟨hu1, hu2⟩ := hSw; go_simp⟩
        simp only [Act.put, List.setIfInBounds_toArray, List.set_cons_zero, List.set_cons_succ]
        refine take_at (i := 8) (d := some 38) (v := .pointer (some ⟨bs, kk, none⟩)) rfl (by kernel_rfl) (by kernel_rfl) (by kernel_rfl) (fun _ _ _ h => h) (fun oi ho => ?_) HSQ.out ?_
        · obtain rfl := Option.some.inj ho
          exact Or.inl ⟨by rfl, fun wx hSw => by obtain ⟨hu1, hu2⟩ := hSw; go_simp⟩
        simp only [Act.put, List.setIfInBounds_toArray, List.set_cons_zero, List.set_cons_succ]
        refine take_at (i := 9) (d := some 39) (v := .pointer (some ⟨bs, kk + 2, none⟩)) rfl (by kernel_rfl) (by kernel_rfl) (by kernel_rfl) (fun _ _ _ h => h) (fun oi ho => ?_) HSQ.out ?_
        · obtain rfl := Option.some.inj ho
          exact Or.inl ⟨by rfl, fun wx hSw => by obtain ⟨hu1, hu2⟩ := hSw; go_simp⟩
        simp only [Act.put, List.setIfInBounds_toArray, List.set_cons_zero, List.set_cons_succ]
        refine take_at (i := 10) (d := some 40) (v := S vl) rfl (by kernel_rfl) (by kernel_rfl) (by kernel_rfl) (fun _ _ _ h => h) (fun oi ho => ?_) HSQ.out ?_
        · obtain rfl := Option.some.inj ho
          exact Or.inl ⟨by rfl, fun wx hSw => by obtain ⟨hu1, hu2⟩ := hSw; go_simp⟩
        simp only [Act.put, List.setIfInBounds_toArray, List.set_cons_zero, List.set_cons_succ]
        refine take_at (i := 11) (d := some 41) (v := .agg #[S nm, S vl]) rfl (by kernel_rfl) (by kernel_rfl) (by kernel_rfl) (fun _ _ _ h => h) (fun oi ho => ?_) HSQ.out ?_
        · obtain rfl := Option.some.inj ho
          exact Or.inl ⟨by rfl, fun wx hSw => by obtain ⟨hu1, hu2⟩ := hSw; go_simp⟩
        simp only [Act.put, List.setIfInBounds_toArray, List.set_cons_zero, List.set_cons_succ]
        refine ready_value (i := 12) (d := some 42) (v := .slice (some ⟨Wq.heap.size, 0, none⟩) 1 1) (w' := Wq.alloc (.cells #[S nm, S vl] 53)) rfl (by kernel_rfl) (fun oi ho => ?_) HSA.out ?_
        · obtain rfl := Option.some.inj ho
          exact ⟨by rfl, by go_simp⟩
        simp only [Act.put, List.setIfInBounds_toArray, List.set_cons_zero, List.set_cons_succ]
        refine ready_value (i := 13) (d := some 43) (v := .slice a7 (K + 1) c7) (w' := W7) rfl (by kernel_rfl) (fun oi ho => ?_) HS7.out ?_
        · obtain rfl := Option.some.inj ho
          exact ⟨by rfl, exec_append 23 23 (.tmp 30) (.tmp 42) (.slice a K cc) (.slice (some ⟨Wq.heap.size, 0, none⟩) 1 1) rfl rfl rfl HR7.out⟩
        simp only [Act.put, List.setIfInBounds_toArray, List.set_cons_zero, List.set_cons_succ]
        refine take_at (i := 14) (d := some 9) (v := .slice a7 (K + 1) c7) rfl (by kernel_rfl) (by kernel_rfl) (by kernel_rfl) (fun _ _ _ h => h) (fun oi ho => ?_) HS7.out ?_
        · obtain rfl := Option.some.inj ho
          exact Or.inl ⟨by rfl, fun wx hSw => by obtain ⟨hu1, hu2⟩ := hSw; go_simp⟩
        simp only [Act.put, List.setIfInBounds_toArray, List.set_cons_zero, List.set_cons_succ]
        refine wpAnyH_done (by kernel_rfl) ?_ _
        refine NoPanic.normal ?_
        clear hix
        go_wp2
        exact ⟨⟨k, a7, K + 1, c7, by have := HJ.out; omega, by trivial, by rw [HJ.out.2]; congr 1; omega, HX⟩, by simp [intOf]; omega⟩
      have e1 : (kd == 1) = false := beq_eq_false_iff_ne.2 k1
      by_cases k5 : kd = 5
      · have e5 : (kd == 5) = true := beq_iff_eq.2 k5
        have hadd : addS r.fs ⟨kd, nm, vl, sn⟩ = [(vl, (firstF r.fs nm).getD [45])] := by unfold addS; dsimp only; rw [if_neg k1, if_pos k5]
        rw [hadd] at hnext
        obtain ⟨Wq, hWq⟩ : ∃ W, W = wr.drew := ⟨_, rfl⟩
        have hBq : Below wr.heap.size wr Wq := by rw [hWq]; exact ⟨rfl, rfl, rfl, Nat.le_refl _, fun _ _ => rfl⟩
        have hbq := hbk.below hBq
        have hat : ∀ W : World, BackAt w b1 r V #[.int .i64 c, .slice ax nx cx, S body] b o Vl l bs os W → (W.cell? ⟨b1, 4, none⟩ = some V ∧ W.cell? ⟨bs, kk + 1, none⟩ = some (S nm)) ∧ W.cell? ⟨bs, kk + 2, none⟩ = some (S vl) := fun W h => by
          rw [hkk]; exact ⟨⟨cell_of_row W b1 4 _ _ (0, 0) h.rq, h.st.cell k _ hs 1 _ rfl⟩, h.st.cell k _ hs 2 _ rfl⟩
        have HAT := Lib.hid hat
        have HSQ := Lib.hid (hat Wq hbq).1
        have HBQ := Lib.hid hbq
        have HFQ : Hid (FO B3 (.slice a K cc) (outG r.fs l n j xs) Wq ∧ b1 + 3 ≤ Wq.heap.size) := Lib.hid ⟨by rw [hWq]; exact hF, by have := hBq.size; omega⟩
        have HC := Lib.hid (HG.out nm HSM.out.1 Wq hbq.fa)
        have HLN := Lib.hid (And.intro hl112 (And.intro hK (And.intro hnext hBe)))
        have v4 := (hat wr hbk).1.1
        clear hadd hnext hs hkk hK hF hsz hbk hBe HI k1 k5 hlen hl112 hk hjk hat hBq hbq
        go_wp2
        refine wp_region_noPanic ?_
        refine wp_region_held_drew (S := fun wx => wx.cell? ⟨b1, 4, none⟩ = some V ∧ wx.cell? ⟨bs, kk + 1, none⟩ = some (S nm)) (by kernel_rfl) ⟨v4, s1⟩ (fun _ => ?_)
        rw [← hWq]
        clear hWq s0 s1 s2 v4
        refine take_at (i := 0) (d := some 47) (v := .pointer (some ⟨b1, 4, none⟩)) rfl (by kernel_rfl) (by kernel_rfl) (by kernel_rfl) (fun _ _ _ h => h) (fun oi ho => ?_) HSQ.out ?_
        · obtain rfl := Option.some.inj ho
          exact Or.inl ⟨by rfl, fun wx hSw => by obtain ⟨hu1, hu2⟩ := hSw; go_simp⟩
        simp only [Act.put, List.setIfInBounds_toArray, List.set_cons_zero, List.set_cons_succ]
        refine take_at (i := 1) (d := some 48) (v := V) rfl (by kernel_rfl) (by kernel_rfl) (by kernel_rfl) (fun _ _ _ h => h) (fun oi ho => ?_) HSQ.out ?_
        · obtain rfl := Option.some.inj ho
          exact Or.inl ⟨by rfl, fun wx hSw => by obtain ⟨hu1, hu2⟩ := hSw; go_simp⟩
        simp only [Act.put, List.setIfInBounds_toArray, List.set_cons_zero, List.set_cons_succ]
        refine take_at (i := 2) (d := some 49) (v := Vl) rfl (by kernel_rfl) (by kernel_rfl) (by kernel_rfl) (fun _ _ _ h => h) (fun oi ho => ?_) HSQ.out ?_
        · obtain rfl := Option.some.inj ho
          exact Or.inl ⟨by rfl, fun wx hSw => by obtain ⟨hu1, hu2⟩ := hSw; go_simp⟩
        simp only [Act.put, List.setIfInBounds_toArray, List.set_cons_zero, List.set_cons_succ]
        refine take_at (i := 3) (d := some 50) (v := .int .i64 ((j : Int) - 1)) rfl (by kernel_rfl) (by kernel_rfl) (by kernel_rfl) (fun _ _ _ h => h) (fun oi ho => ?_) HSQ.out ?_
        · obtain rfl := Option.some.inj ho
          exact Or.inl ⟨by rfl, fun wx hSw => by obtain ⟨hu1, hu2⟩ := hSw; go_simp⟩
        simp only [Act.put, List.setIfInBounds_toArray, List.set_cons_zero, List.set_cons_succ]
        refine take_at (i := 4) (d := some 51) (v := .pointer (some ⟨bs, kk, none⟩)) rfl (by kernel_rfl) (by kernel_rfl) (by kernel_rfl) (fun _ _ _ h => h) (fun oi ho => ?_) HSQ.out ?_
        · obtain rfl := Option.some.inj ho
          exact Or.inl ⟨by rfl, fun wx hSw => by obtain ⟨hu1, hu2⟩ := hSw; go_simp⟩
        simp only [Act.put, List.setIfInBounds_toArray, List.set_cons_zero, List.set_cons_succ]
        refine take_at (i := 5) (d := some 52) (v := .pointer (some ⟨bs, kk + 1, none⟩)) rfl (by kernel_rfl) (by kernel_rfl) (by kernel_rfl) (fun _ _ _ h => h) (fun oi ho => ?_) HSQ.out ?_
        · obtain rfl := Option.some.inj ho
          exact Or.inl ⟨by rfl, fun wx hSw => by obtain ⟨hu1, hu2⟩ := hSw; go_simp⟩
        simp only [Act.put, List.setIfInBounds_toArray, List.set_cons_zero, List.set_cons_succ]
        refine take_at (i := 6) (d := some 53) (v := S nm) rfl (by kernel_rfl) (by kernel_rfl) (by kernel_rfl) (fun _ _ _ h => h) (fun oi ho => ?_) HSQ.out ?_
        · obtain rfl := Option.some.inj ho
          exact Or.inl ⟨by rfl, fun wx hSw => by obtain ⟨hu1, hu2⟩ := hSw; go_simp⟩
        simp only [Act.put, List.setIfInBounds_toArray, List.set_cons_zero, List.set_cons_succ]
        refine ready_call (i := 7) (d := some 54) (f := 33) (args := #[V, S nm]) rfl (by kernel_rfl) (fun oi ho => ?_) ?_
        · obtain rfl := Option.some.inj ho
          exact ⟨by rfl, by go_simp⟩
        refine HC.out.mono ?_
        rintro e W8 ⟨rfl, hB8⟩
        have hb8 := HBQ.out.below hB8
        have HB8 := Lib.hid hb8
        have HS8 := Lib.hid (HAT.out W8 hb8).1
        obtain ⟨a9, c9, W9, hr9, hF9, hB9⟩ := run_addF (show FO B3 (.slice a K cc) (outG r.fs l n j xs) W8 by
          have h := HFQ.out.1
          unfold FO at h ⊢
          rcases h.2 with hn | ⟨g, cap, cur, h1, h2, h3, h4⟩
          · exact ⟨h.1, .inl hn⟩
          · exact ⟨h.1, .inr ⟨g, cap, cur, h1, h2, (by rw [hB8.block g (Array.getElem?_eq_some_iff.1 h3).1]; exact h3), h4⟩⟩) HLN.out.1 (by have := hB8.size; have := HFQ.out.2; have := HLN.out.2.2.2; omega) (vl, (firstF r.fs nm).getD [45]) 23
        rw [← HLN.out.2.1] at hr9 hF9
        have hr9' : (Builtin.append_ #[23, 23] 23 #[.slice a K cc, .slice (some ⟨W8.heap.size, 0, none⟩) 1 1]).run Tryd.prog (W8.alloc (.cells #[S vl, S ((firstF r.fs nm).getD [45])] 53)) = .ok (.slice a9 (K + 1) c9) W9 := hr9
        have HR9 := Lib.hid hr9'
        have HX : Hid (K + 1 = (outG r.fs l n k xs).length ∧ FO B3 (.slice a9 (K + 1) c9) (outG r.fs l n k xs) W9 ∧ b1 + 3 ≤ W9.heap.size ∧ BackAt w b1 r V #[.int .i64 c, .slice ax nx cx, S body] b o Vl l bs os W9) :=
          Lib.hid ⟨by rw [HLN.out.2.2.1, List.length_append, List.length_singleton, ← HLN.out.2.1], by rw [HLN.out.2.2.1]; exact hF9, by have := hB9.size; have := hB8.size; have := HFQ.out.2; omega, hb8.own HAS.out.1 HAS.out.2 HBE.out.1 HLN.out.2.2.2 hB9⟩
        have s2 : W8.cell? ⟨bs, kk + 2, none⟩ = some (S vl) := (HAT.out W8 hb8).2
        clear hr9 hr9' hF9 hB9 hb8 hB8
        refine ⟨_, rfl, HS8.out, ?_⟩
        simp only [Act.put, List.setIfInBounds_toArray, List.set_cons_zero, List.set_cons_succ]
        refine take_at (i := 8) (d := some 46) (v := .tuple #[S ((firstF r.fs nm).getD []), .bool (firstF r.fs nm).isSome]) rfl (by kernel_rfl) (by kernel_rfl) (by kernel_rfl) (fun _ _ _ h => h) (fun oi ho => ?_) HS8.out ?_
        · obtain rfl := Option.some.inj ho
          exact Or.inl ⟨by rfl, fun wx hSw => by obtain ⟨hu1, hu2⟩ := hSw; go_simp⟩
        simp only [Act.put, List.setIfInBounds_toArray, List.set_cons_zero, List.set_cons_succ]
        refine take_at (i := 9) (d := some 55) (v := S ((firstF r.fs nm).getD [])) rfl (by kernel_rfl) (by kernel_rfl) (by kernel_rfl) (fun _ _ _ h => h) (fun oi ho => ?_) HS8.out ?_
        · obtain rfl := Option.some.inj ho
          exact Or.inl ⟨by rfl, fun wx hSw => by obtain ⟨hu1, hu2⟩ := hSw; go_simp⟩
        simp only [Act.put, List.setIfInBounds_toArray, List.set_cons_zero, List.set_cons_succ]
        refine take_at (i := 10) (d := some 56) (v := .bool (firstF r.fs nm).isSome) rfl (by kernel_rfl) (by kernel_rfl) (by kernel_rfl) (fun _ _ _ h => h) (fun oi ho => ?_) HS8.out ?_
        · obtain rfl := Option.some.inj ho
          exact Or.inl ⟨by rfl, fun wx hSw => by obtain ⟨hu1, hu2⟩ := hSw; go_simp⟩
        simp only [Act.put, List.setIfInBounds_toArray, List.set_cons_zero, List.set_cons_succ]
        refine take_at (i := 11) (d := some 11) (v := S ((firstF r.fs nm).getD [])) rfl (by kernel_rfl) (by kernel_rfl) (by kernel_rfl) (fun _ _ _ h => h) (fun oi ho => ?_) HS8.out ?_
        · obtain rfl := Option.some.inj ho
          exact Or.inl ⟨by rfl, fun wx hSw => by obtain ⟨hu1, hu2⟩ := hSw; go_simp⟩
        simp only [Act.put, List.setIfInBounds_toArray, List.set_cons_zero, List.set_cons_succ]
        refine take_at (i := 12) (d := some 12) (v := .bool (firstF r.fs nm).isSome) rfl (by kernel_rfl) (by kernel_rfl) (by kernel_rfl) (fun _ _ _ h => h) (fun oi ho => ?_) HS8.out ?_
        · obtain rfl := Option.some.inj ho
          exact Or.inl ⟨by rfl, fun wx hSw => by obtain ⟨hu1, hu2⟩ := hSw; go_simp⟩
        simp only [Act.put, List.setIfInBounds_toArray, List.set_cons_zero, List.set_cons_succ]
        refine wpAnyH_done (by kernel_rfl) ?_ _
        refine NoPanic.normal ?_
        clear HC HSQ
        cases hff : firstF r.fs nm with
        | none =>
          rw [hff] at HR9
          go_wp2_with first
            | (at_builtin; refine wpList_append_at rfl (.tmp 59) (.tmp 67) 23 rfl _ _ rfl rfl (.slice a9 (K + 1) c9) W9 HR9.out ?_)
          exact ⟨⟨k, a9, K + 1, c9, by have := HJ.out; omega, by trivial, by rw [HJ.out.2]; congr 1; omega, HX⟩, by simp [intOf]; omega⟩
        | some x =>
          rw [hff] at HR9
          go_wp2_with first
            | (at_builtin; refine wpList_append_at rfl (.tmp 59) (.tmp 67) 23 rfl _ _ rfl rfl (.slice a9 (K + 1) c9) W9 HR9.out ?_)
          exact ⟨⟨k, a9, K + 1, c9, by have := HJ.out; omega, by trivial, by rw [HJ.out.2]; congr 1; omega, HX⟩, by simp [intOf]; omega⟩
      · have e5 : (kd == 5) = false := beq_eq_false_iff_ne.2 k5
        have hadd : addS r.fs ⟨kd, nm, vl, sn⟩ = [] := by unfold addS; dsimp only; rw [if_neg k1, if_neg k5]
        rw [hadd, List.append_nil] at hnext
        have HX : Hid (K = (outG r.fs l n k xs).length ∧ FO B3 (.slice a K cc) (outG r.fs l n k xs) wr ∧ b1 + 3 ≤ wr.heap.size ∧ BackAt w b1 r V #[.int .i64 c, .slice ax nx cx, S body] b o Vl l bs os wr) :=
          Lib.hid ⟨by rw [hnext]; exact hK, by rw [hnext]; exact hF, hsz, hbk⟩
        clear hadd hnext hs hkk hK hF hsz hbk hBe HI k1 k5 hlen hl112 hk hjk
        go_wp2
        exact ⟨⟨k, a, K, cc, by have := HJ.out; omega, by trivial, by rw [HJ.out.2]; congr 1; omega, HX⟩, by simp [intOf]; omega⟩
end Go.Proofs.YtbnlkjoblngakaaDoor
