/- The landed package of chains: Wrap; what is asked of it. -/
import Derived.Test.YtbnlkjoblngakaaDoorKp9
import Derived.Test.YtbnlkjoblngakaaDoorKd
namespace Go.Proofs.YtbnlkjoblngakaaDoor
open Go.RowKit Go.Shelf
theorem fn_store (P : Program) (w : World) (a : Addr) (g : Nat) (lb : Array Value) (m : Mode) (hc : (w.cell? a).isSome = true) (hf : w.frozen? a = false) : (store a (.func (.func g) #[] lb) m).run P w = .ok () (w.setCell a (.func (.func g) #[] lb)) := by
  rw [run_store P w a _ m rfl]
  cases h : w.cell? a with
  | none => rw [h] at hc; cases hc
  | some v => simp [hf]
attribute [local go_sem] store_one Oper.semAt_some S_match S_store fn_store

theorem wrap_early {tmps : Array Value} {v u : Value} {Q : Ending → World → Prop} {W : World} (h4 : tmps[4]? = some v) (h5 : tmps[5]? = some u) (hQ : Q (.returned (.tuple #[v, u])) W) :
    bodyPostM Fence.wide 5 Tryd.prog Tryd.f14 Q .ret { tmps := tmps, defers := [] } W :=
  ⟨.tuple #[v, u], by simp [results, Tryd.f14, go_sem, h4, h5], hQ⟩
theorem wrap_end {tmps : Array Value} {v u : Value} {Q : Ending → World → Prop} {W : World} {D : Nat} (hd : W.heap[D]? = some (.deferred (some []))) (h4 : tmps[4]? = some v) (h5 : tmps[5]? = some u) (hQ : Q (.returned (.tuple #[v, u])) (W.putObj D (.deferred none))) :
    bodyPostM Fence.wide 5 Tryd.prog Tryd.f14 Q .ret { tmps := tmps, defers := [{ target := .collected D, args := #[] }] } W :=
  ⟨by simp, .inl ⟨_, _, rfl, run_takeDeferred hd, ⟨.tuple #[v, u], by simp [results, Tryd.f14, go_sem, h4, h5], hQ⟩⟩⟩
set_option maxRecDepth 100000 in
set_option maxHeartbeats 1000000 in
theorem wrap13_none (V : Value) (w : World) : Calls Tryd.prog 14 #[V, .nilFunc] w fun e w' => e = .returned (.tuple #[.nilFunc, .int .i64 2]) ∧ Below w.heap.size w w' := by
  have heq : ∀ w, (binOp .eql 40 .nilFunc .nilFunc).run Tryd.prog w = .ok (.bool true) w := eql_nilnil Tryd.underlying40
  refine (callsIn_wide (n := 5)).1 (callsIn_of_wp_marks Tryd.func14 rfl trivial ?_ rfl)
  simp only [Tryd.ntmps14, List.size_toArray, List.length_cons, List.length_nil, Nat.reduceAdd, Nat.reduceSub, Array.replicate_succ, Array.replicate_zero, List.push_toArray, List.append_toArray, List.nil_append, List.cons_append]
  rw [wpIn_wide]
  go_wp2
  exact wrap_early rfl rfl ⟨rfl, Below.refl _ _⟩
/-- What stands around the handler, behind some rounds. -/
structure Wrapped (w : World) (l : List Stp) (gh : Nat) (lbh : Array Value) (b8 lo hi : Nat) (j : Nat) (W : World) (g : Nat) (lb : Array Value) (K : Nat → Prop) : Prop where
  row : Row W b8 #[hV g lb] 40
  en : Entering g
  does : DoesB K W g lb (l.drop (l.length - j)) gh lbh
  low : ∀ k, K k → w.heap.size ≤ k ∧ k < W.heap.size ∧ k ≠ b8 ∧ ¬ (lo ≤ k ∧ k < hi)
  bel : Below w.heap.size w W
theorem Wrapped.grown {w : World} {l : List Stp} {gh : Nat} {lbh : Array Value} {b8 lo hi j : Nat} {W W' : World} {g : Nat} {lb : Array Value} {K : Nat → Prop} {row : Option Nat} (h : Wrapped w l gh lbh b8 lo hi j W g lb K) (hg : W.grownBy W' row) (hr : ∀ k, row = some k → lo ≤ k ∧ k < hi) (h8 : b8 < lo) (hw : w.heap.size ≤ lo) :
    Wrapped w l gh lbh b8 lo hi j W' g lb K :=
  ⟨row_grown h.row hg (fun e => by have := hr _ e.symm; omega), h.en, h.does.grow hg.size (fun k hk => hg.block k (h.low k hk).2.1 (fun e => by have := hr k e.symm; have := (h.low k hk).2.2.2; omega)) (fun k hk => hk), fun k hk => by have := h.low k hk; have := hg.size; omega,
    h.bel.grown hg h.bel.size (fun k e => by have := hr k e; omega)⟩
theorem all_take_nextS {p : Stp → Bool} {l : List Stp} {i : Nat} {c : Stp} (hc : l[i]? = some c) (h : (l.take i).all p = true) : (l.take (i + 1)).all p = p c := by
  rw [List.take_add_one, hc, Option.toList_some, List.all_append, h]; simp
theorem all_of_takeS {p : Stp → Bool} {l : List Stp} {i : Nat} (h : (l.take i).all p = false) : l.all p = false := by
  rw [← List.take_append_drop i l, List.all_append, h, Bool.false_and]
set_option maxRecDepth 100000 in
set_option maxHeartbeats 4000000 in
theorem wrap13_any (l : List Stp) (V : Value) (bs os : Nat) (gh : Nat) (lbh : Array Value) (w : World) (hS : StA w V l bs os) (hl : SmallS l) (hen : Entering gh) :
    Calls Tryd.prog 14 #[V, hV gh lbh] w fun e w' => Below w.heap.size w w' ∧
      ((wrapC l ≠ 0 ∧ e = .returned (.tuple #[.nilFunc, .int .i64 (wrapC l : Int)])) ∨ (wrapC l = 0 ∧ ∃ g lb, e = .returned (.tuple #[hV g lb, .int .i64 0]) ∧ Entering g ∧ DoesH w w' g lb l gh lbh)) := by
  obtain ⟨a, c, hv, -, -⟩ := hS.form
  subst hv
  have heq : ∀ w, (binOp .eql 40 (.func (.func gh) #[] lbh) .nilFunc).run Tryd.prog w = .ok (.bool false) w := eql_nilFunc Tryd.underlying40 (.func gh) #[] lbh
  have hlS := hS.len 3
  obtain ⟨N, hN⟩ : ∃ N, N = l.length := ⟨_, rfl⟩
  have hsl := hl.1
  rw [← hN] at hlS hsl
  have hS2 : StA w (.slice a N c) l bs os := by rw [hN]; exact hS
  have HS := Lib.hid (And.intro hS2 (And.intro hl (And.intro hen hN)))
  have hbs : l ≠ [] → bs < w.heap.size := fun hne => by
    cases l with
    | nil => exact absurd rfl hne
    | cons s r => exact World.block_lt_of_cell? w _ (hS.cell 0 s rfl 0 _ rfl)
  have HBS := Lib.hid hbs
  have hwc : wrapC l = if 8 < N then 6 else if l.all rightS = true then 0 else 1 := by rw [hN]; rfl
  obtain ⟨WC, hWC⟩ : ∃ x, x = wrapC l := ⟨_, rfl⟩
  rw [← hWC] at hwc ⊢
  rw [← hN]
  have HWC := Lib.hid hwc
  clear hS hS2 hl hen hN hbs hWC hwc
  unfold hV
  refine (callsIn_wide (n := 5)).1 (callsIn_of_wp_marks Tryd.func14 rfl trivial ?_ rfl)
  simp only [Tryd.ntmps14, List.size_toArray, List.length_cons, List.length_nil, Nat.reduceAdd, Nat.reduceSub, Array.replicate_succ, Array.replicate_zero, List.push_toArray, List.append_toArray, List.nil_append, List.cons_append]
  rw [wpIn_wide]
  by_cases h8 : 8 < N
  · have g1 : decide ((8 : Int) < (N : Int)) = true := decide_eq_true (by omega)
    have g2 : decide ((N : Int) > (8 : Int)) = true := decide_eq_true (by omega)
    have HE : Hid (WC = 6) := Lib.hid (by rw [HWC.out, if_pos h8])
    clear HWC
    go_wp2
    exact wrap_early rfl rfl ⟨Below.refl _ _, .inl ⟨by rw [HE.out]; decide, by rw [HE.out]; rfl⟩⟩
  have g1 : decide ((8 : Int) < (N : Int)) = false := decide_eq_false (by omega)
  have g2 : decide ((N : Int) > (8 : Int)) = false := decide_eq_false (by omega)
  have HW2 : Hid (WC = if l.all rightS = true then 0 else 1) := Lib.hid (by rw [HWC.out, if_neg h8])
  clear HWC
  go_wp2
  go_loopw [18] (fun iv wr => ∃ i : Nat, i ≤ N ∧ iv = .int .i64 (i : Int) ∧ Hid (Below w.heap.size w wr ∧ (l.take i).all rightS = true)) (fun iv _ => N - (intOf iv).toNat)
  case atStart => exact ⟨0, Nat.zero_le _, rfl, Lib.hid ⟨Below.refl _ _, rfl⟩⟩
  case round =>
    obtain ⟨i, hi, rfl, HI⟩ := hrel
    by_cases hlt : i < N
    · have g3 : decide ((i : Int) < (N : Int)) = true := decide_eq_true (by omega)
      have hil : i < l.length := by have := HS.out.2.2.2; omega
      obtain ⟨⟨kd, nm, vl, sn⟩, hs⟩ : ∃ s, s = l.getD i noS := ⟨_, rfl⟩
      have hget := getD_of hil
      rw [← hs] at hget
      have hmem := List.mem_of_getElem? hget
      have hSr := HS.out.1.below HI.out.1
      have hix := hSr.index i hil
      have y0 : wr.cell? ⟨bs, os + i * 4, none⟩ = some (.int .i64 kd) := hSr.cell i _ hget 0 _ rfl
      have y1 : wr.cell? ⟨bs, os + i * 4 + 1, none⟩ = some (S nm) := hSr.cell i _ hget 1 _ rfl
      have y2 : wr.cell? ⟨bs, os + i * 4 + 2, none⟩ = some (S vl) := hSr.cell i _ hget 2 _ rfl
      have y3 : wr.cell? ⟨bs, os + i * 4 + 3, none⟩ = some (.int .i64 sn) := hSr.cell i _ hget 3 _ rfl
      obtain ⟨oi, hoi⟩ : ∃ x, x = os + i * 4 := ⟨_, rfl⟩
      rw [← hoi] at hix y0 y1 y2 y3
      obtain ⟨W1, hW1⟩ : ∃ W, W = wr.alloc (.cells #[.int .i64 kd, S nm, S vl, .int .i64 sn] 35) := ⟨_, rfl⟩
      have HB1 : Hid (Below w.heap.size w W1) := Lib.hid (by rw [hW1]; exact HI.out.1.alloc HI.out.1.size _)
      have hc := rightL_any ⟨kd, nm, vl, sn⟩ W1 (HS.out.2.1.2 _ hmem).1 (HS.out.2.1.2 _ hmem).2
      have hnx := all_take_nextS hget HI.out.2
      obtain ⟨R, hR⟩ : ∃ R, R = rightS ⟨kd, nm, vl, sn⟩ := ⟨_, rfl⟩
      rw [← hR] at hc hnx
      have HC := Lib.hid hc
      have HNX := Lib.hid hnx
      unfold stV stC at HC
      rw [hW1] at HC
      have hw1 : IntKind.i64.wrap ((i : Int) + 1) = (i : Int) + 1 := by rw [IntKind.wrap_i64]; omega
      clear hc hnx hR hSr hget hmem hs hoi hil
      go_wp2_with fail
      refine HC.out.mono ?_
      rintro e W2 ⟨rfl, hB2⟩
      rw [← hW1] at hB2
      have HB2 := Lib.hid (HB1.out.trans (hB2.mono HB1.out.size))
      clear hB2 HC hW1 hix y0 y1 y2 y3
      cases R with
      | true =>
        go_wp2
        exact ⟨⟨i + 1, by omega, by go_num, Lib.hid ⟨HB2.out, HNX.out⟩⟩, by simp [intOf]; omega⟩
      | false =>
        have HE : Hid (WC = 1) := Lib.hid (by rw [HW2.out, if_neg (by rw [all_of_takeS HNX.out]; decide)])
        go_wp2
        exact wrap_early rfl rfl ⟨HB2.out, .inl ⟨by rw [HE.out]; decide, by rw [HE.out]; rfl⟩⟩
    · obtain rfl : i = N := by omega
      have g3 : decide ((i : Int) < (i : Int)) = false := decide_eq_false (by omega)
      have HE : Hid (WC = 0 ∧ Below w.heap.size w wr ∧ l.all rightS = true) := Lib.hid (by
        have h := HI.out.2
        rw [HS.out.2.2.2, List.take_length] at h
        exact ⟨by rw [HW2.out, if_pos h], HI.out.1, h⟩)
      have HA := Lib.hid (apart_made gh lbh wr)
      unfold hV at HA
      clear HI HW2
      go_wp2_with fail
      refine HA.out.mono ?_
      rintro e W2 ⟨rfl, hr1, hs2, hB2⟩
      have hs1 := HE.out.2.1.size
      obtain ⟨W3, hW3⟩ : ∃ W, W = W2.alloc (.cells #[.func (.func 43) #[] #[.pointer (some ⟨wr.heap.size, 0, none⟩)]] 40) := ⟨_, rfl⟩
      have hs3 : W3.heap.size = wr.heap.size + 2 := by rw [hW3, alloc_size, hs2]
      have hB3 : Below w.heap.size w W3 := by rw [hW3]; exact (HE.out.2.1.trans (hB2.mono hs1)).alloc (by omega) _
      have hr8 : Row W3 (wr.heap.size + 1) #[hV 43 #[.pointer (some ⟨wr.heap.size, 0, none⟩)]] 40 := by rw [hW3, ← hs2]; exact row_new _ _ _
      have hr13 : Row W3 wr.heap.size #[hV gh lbh] 40 := by rw [hW3]; exact hr1.alloc _
      obtain ⟨W4, hW4⟩ : ∃ W, W = W3.alloc (.cells #[.slice a i c] 22) := ⟨_, rfl⟩
      have hs4 : W4.heap.size = wr.heap.size + 3 := by rw [hW4, alloc_size, hs3]
      have hB4 : Below w.heap.size w W4 := by rw [hW4]; exact hB3.alloc (by omega) _
      have hr84 : Row W4 (wr.heap.size + 1) #[hV 43 #[.pointer (some ⟨wr.heap.size, 0, none⟩)]] 40 := by rw [hW4]; exact hr8.alloc _
      have hr14 : Row W4 wr.heap.size #[hV gh lbh] 40 := by rw [hW4]; exact hr13.alloc _
      have hrB : Row W4 (wr.heap.size + 2) #[.slice a i c] 22 := by rw [hW4, ← hs3]; exact row_new _ _ _
      have hwr0 : Wrapped w l gh lbh (wr.heap.size + 1) W4.heap.size (W4.heap.size + 2) 0 W4 43 #[.pointer (some ⟨wr.heap.size, 0, none⟩)] (fun k => k = wr.heap.size) :=
        ⟨hr84, enters_of Tryd.func43 (by kernel_rfl) rfl, by rw [Nat.sub_zero, List.drop_length]; exact apart_does HS.out.2.2.1 rfl hr14, fun k hk => by subst hk; omega, hB4⟩
      have H4 := Lib.hid (And.intro hwr0 (And.intro hrB (And.intro hB4 hs4)))
      have HBW := Lib.hid (backw_any a i c W3)
      have HS2 := Lib.hid hs2
      rw [hW3] at HBW hW4
      clear hs1 hs2 hs3 hs4 hB2 hB3 hB4 hr8 hr13 hr84 hr14 hrB hwr0 HA hr1 hW3
      go_wp2_with fail
      refine HBW.out.mono ?_
      rintro e wz ⟨rfl, hw⟩
      rw [hw, ← hW4]
      clear hw wz HBW hW4
      go_wp2
      rw [← wpIn_wide (n := 5), HS2.out]
      refine wpIn_rangeFunc_L4 (gf := 45) (lb := #[.pointer (some ⟨wr.heap.size + 2, 0, none⟩)]) (k := 0) (Kb := fun r => r = wr.heap.size + 2 ∨ (l ≠ [] ∧ r = bs)) (L := bkL l) (encs := encB) rfl (enters_of Tryd.func45 (by kernel_rfl) rfl)
        (fun m => back_seq (.slice a i c) l bs os (by have := HS.out.2.1.1; omega) (wr.heap.size + 2) m) (fun r hr => by have := H4.out.2.2.2; rcases hr with hr | hr; omega; have := HBS.out hr.1; have := HE.out.2.1.size; omega) (fun W hb => ⟨H4.out.2.1.below hb H4.out.2.1.lt, HS.out.1.below (H4.out.2.2.1.trans (hb.mono H4.out.2.2.1.size))⟩) (fun _ => rfl)
        (fun pre W => ∃ g lb K, Wrapped w l gh lbh (wr.heap.size + 1) W4.heap.size (W4.heap.size + 2) pre.length W g lb K) (fun _ _ _ => False)
        ?hI ?hIx ⟨_, _, _, H4.out.1⟩ ?round ?done ?stop
      case hI =>
        rintro pre W W' row ⟨g, lb, K, h⟩ hg hr
        exact ⟨g, lb, K, h.grown hg (fun k e => by have := hr k e; omega) (by have := H4.out.2.2.2; omega) H4.out.2.2.1.size⟩
      case hIx => exact fun c s W W' row h _ _ => h.elim
      case round =>
        intro ll pre x W1 Kc hpx hI hsz hKc
        obtain ⟨g, lb, K, hwr⟩ := hI
        have hjl : pre.length < l.length := by
          have := hpx.length_le
          rw [bk_len, List.length_append, List.length_singleton] at this; omega
        have hx : (l.length - 1 - pre.length, l.getD (l.length - 1 - pre.length) noS) = x := by
          obtain ⟨rest, hr⟩ := hpx
          have h1 := bk_get hjl
          rw [← hr, List.append_assoc, List.getElem?_append_right (Nat.le_refl _), Nat.sub_self] at h1
          exact (Option.some.inj h1).symm
        obtain ⟨xi, s⟩ := x
        obtain ⟨hxi, hxs⟩ := Prod.mk.inj hx
        have hmem : s ∈ l := by rw [← hxs]; exact List.mem_of_getElem? (getD_of (by omega))
        have hdr : s :: l.drop (l.length - pre.length) = l.drop (l.length - (pre.length + 1)) := by
          have := drop_getD (l := l) (i := l.length - 1 - pre.length) (by omega)
          rw [hxs, show l.length - 1 - pre.length + 1 = l.length - pre.length by omega, show l.length - 1 - pre.length = l.length - (pre.length + 1) by omega] at this
          exact this.symm
        have hrs : rightS s = true := List.all_eq_true.1 HE.out.2.2 s hmem
        obtain ⟨hsn, hsv⟩ := HS.out.2.1.2 s hmem
        have HX := Lib.hid (And.intro hdr (And.intro hrs (And.intro hsn hsv)))
        have HWR := Lib.hid (And.intro hwr hsz)
        have HW4 := Lib.hid H4.out.2.2.2
        obtain ⟨kd, nm, vl, sn⟩ := s
        clear hdr hrs hsn hsv hmem hx hxi hxs hjl hpx hwr hsz
        unfold encB stV stC
        gi_wp2
        obtain ⟨Wa, hWa⟩ : ∃ W, W = W1.alloc (.cells #[.int .i64 kd, S nm, S vl, .int .i64 sn] 35) := ⟨_, rfl⟩
        have hsa : Wa.heap.size = W1.heap.size + 1 := by rw [hWa, alloc_size]
        have hra : Row Wa W1.heap.size #[.int .i64 kd, S nm, S vl, .int .i64 sn] 35 := by rw [hWa]; exact row_new _ _ _
        have hBa : Below W1.heap.size W1 Wa := by rw [hWa]; exact (Below.refl _ _).alloc (Nat.le_refl _) _
        have hwa : Wrapped w l gh lbh (wr.heap.size + 1) W4.heap.size (W4.heap.size + 2) pre.length Wa g lb K := by rw [hWa]; exact HWR.out.1.grown (World.grownBy_alloc W1 _ none) (fun k e => by cases e) (by have := HW4.out; omega) (by have := H4.out.2.2.1.size; omega)
        rw [← hWa]
        clear hWa
        have hszr := HWR.out.2
        refine hKc _ Wa ⟨hBa.size, fun r hr => hBa.block r (by
          have := HW4.out
          rcases hr with (hr | hr) | hr
          · omega
          · have := HBS.out hr.1; have := HE.out.2.1.size; omega
          · omega)⟩ ?_
        intro W2 hg
        have hra2 : Row W2 W1.heap.size #[.int .i64 kd, S nm, S vl, .int .i64 sn] 35 := row_grown hra hg (fun e => by have := Option.some.inj e; omega)
        have hwr2 := hwa.grown hg (fun k e => by have := Option.some.inj e; omega) (by have := HW4.out; omega) (by have := H4.out.2.2.1.size; omega)
        have hsz2 := hg.size
        have d0 : W2.cell? ⟨W1.heap.size, 0, none⟩ = some (.int .i64 kd) := cell_of_row W2 _ 0 _ _ (0, 0) hra2
        have d1 : W2.cell? ⟨W1.heap.size, 1, none⟩ = some (S nm) := cell_of_row W2 _ 1 _ _ (0, 0) hra2
        have d2 : W2.cell? ⟨W1.heap.size, 2, none⟩ = some (S vl) := cell_of_row W2 _ 2 _ _ (0, 0) hra2
        have d3 : W2.cell? ⟨W1.heap.size, 3, none⟩ = some (.int .i64 sn) := cell_of_row W2 _ 3 _ _ (0, 0) hra2
        have e8 : W2.cell? ⟨wr.heap.size + 1, 0, none⟩ = some (.func (.func g) #[] lb) := cell_of_row W2 _ 0 _ _ (0, 0) hwr2.row
        have HAR := Lib.hid (around_any (s := ⟨kd, nm, vl, sn⟩) hwr2.en hwr2.does (fun k hk => (hwr2.low k hk).2.1) (by rw [List.length_drop]; have := HS.out.2.1.1; omega) HX.out.2.1 HX.out.2.2.1 HX.out.2.2.2)
        unfold stV stC hV at HAR
        have H2 := Lib.hid (And.intro hwr2 (by omega : W4.heap.size + 2 ≤ W2.heap.size))
        clear hra hra2 hwa hwr2 hsz2 hg hBa hsa hszr hKc
        gi_wp2_with fail
        refine ⟨trivial, ((callsIn_wide.2 HAR.out).inRound ll).mono ?_⟩
        rintro e W3 ⟨hB3, g', lb', rfl, hen', hd'⟩
        have hr8 := H2.out.1.row.below hB3 H2.out.1.row.lt
        have c8 : W3.cell? ⟨wr.heap.size + 1, 0, none⟩ = some (.func (.func g) #[] lb) := cell_of_row W3 _ 0 _ _ (0, 0) hr8
        have z8 := hr8.frozen 0
        have H3 := Lib.hid (And.intro hr8 (And.intro hB3 (And.intro hen' hd')))
        clear hr8 hB3 hen' hd' HAR d0 d1 d2 d3 e8
        gi_wp2
        have hR := set_rest W3 (wr.heap.size + 1) 0 (.func (.func g') #[] lb')
        have hB3 := H3.out.2.1
        have hs3 := hB3.size
        have hw4 := HW4.out
        have h22 := H2.out.2
        refine ⟨⟨Nat.le_trans hs3 hR.size, fun r hr => ?_⟩, g', lb', KK K W2.heap.size W3.heap.size, H3.out.1.set 0 _, H3.out.2.2.1, ?_, fun k hk => ?_, ?_⟩
        · have hr1 : r < W2.heap.size ∧ r ≠ wr.heap.size + 1 := by
            rcases hr with (hr | hr) | hr
            · omega
            · have := HBS.out hr.1; have := HE.out.2.1.size; omega
            · omega
          rw [hR.rest r (by omega) hr1.2, hB3.block r hr1.1]
        · rw [List.length_append, List.length_singleton, ← HX.out.1]
          refine H3.out.2.2.2.grow hR.size (fun k hk => ?_) (fun k hk => hk)
          rcases hk with hk | hk
          · have := H2.out.1.low k hk
            exact hR.rest k (by omega) this.2.2.1
          · exact hR.rest k hk.2 (by omega)
        · have := hR.size
          have := H2.out.1.bel.size
          rcases hk with hk | hk
          · have := H2.out.1.low k hk; omega
          · omega
        · exact (H2.out.1.bel.trans (hB3.mono H2.out.1.bel.size)).trans (hR.below (fun k hk h => by have := HE.out.2.1.size; omega) (by have := H2.out.1.bel.size; omega))
      case done =>
        rintro W ⟨g, lb, K, h⟩ hD
        have e8 : W.cell? ⟨wr.heap.size + 1, 0, none⟩ = some (.func (.func g) #[] lb) := cell_of_row W _ 0 _ _ (0, 0) h.row
        have H := Lib.hid h
        rw [bk_len] at H
        clear h
        gi_wp2
        go_wp2
        refine wrap_end hD rfl rfl ?_
        have hg := grownBy_putObj' W W4.heap.size (.deferred none)
        have hfin := H.out.grown hg (fun k e => by have := Option.some.inj e; omega) (by have := H4.out.2.2.2; omega) H4.out.2.2.1.size
        have hd := hfin.does
        rw [Nat.sub_self, List.drop_zero] at hd
        exact ⟨hfin.bel, .inr ⟨HE.out.1, g, lb, rfl, hfin.en, hd.does fun k hk => by have := hfin.low k hk; omega⟩⟩
      case stop =>
        rintro c pre W hp h hD
        exact h.elim
theorem chainI {α : Sort _} {w : World} (_ : α) : ChainI w :=
  ⟨fun s W _ hn hv => rightL_any s W hn hv, fun _ V _ _ W _ _ _ => wrap13_none V W, fun l V b o gh lbh W _ hS hl hen => wrap13_any l V b o gh lbh W hS hl hen⟩
end Go.Proofs.YtbnlkjoblngakaaDoor
