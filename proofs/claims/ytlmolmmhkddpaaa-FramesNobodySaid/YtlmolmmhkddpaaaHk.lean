/- FramesNobody (stage 16) walked, over any package of frames as they come. -/
import Derived.Test.YtlmolmmhkddpaaaHi
namespace Go.Proofs.Ytlmolmmhkddpaaa
open Go.RowKit
attribute [local go_sem] store_one Oper.semAt_some B_match B_store S_match S_store

theorem zr_of {m : Option (Option Value)} {cs zr : Array Value} (h1 : m = some (some (.agg cs))) (h2 : m = some (some (.agg zr))) : cs = zr := Value.agg.inj (Option.some.inj (Option.some.inj (h1.symm.trans h2)))
theorem nobody_early {w W : World} {x : Bool} {tmps : Array Value} {b : Nat} (hr : Row W b #[.bool x] 4) (hx : x = true) (hb : Below w.heap.size w W) (ht : tmps[2]? = some (.pointer (some ⟨b, 0, none⟩))) :
    bodyPostM Fence.wide 5 Try.prog Try.f6 (fun e w' => e = .returned (.bool true) ∧ Below w.heap.size w w') .ret { tmps := tmps, defers := [] } W := by
  subst hx
  have hc := cell_of_row W _ 0 _ 4 (0, 0) hr
  exact ⟨.bool true, by simp [results, Try.f6, go_sem, hc, ht], rfl, hb⟩
theorem nobody_end {w W : World} {tmps : Array Value} {b D : Nat} (hr : Row W b #[.bool true] 4) (hb : Below w.heap.size w W) (hd : W.heap[D]? = some (.deferred (some []))) (hD : w.heap.size ≤ D) (ht : tmps[2]? = some (.pointer (some ⟨b, 0, none⟩))) :
    bodyPostM Fence.wide 5 Try.prog Try.f6 (fun e w' => e = .returned (.bool true) ∧ Below w.heap.size w w') .ret { tmps := tmps, defers := [{ target := .collected D, args := #[] }] } W := by
  have ca := cell_of_row W _ 0 _ 4 (0, 0) hr
  refine ⟨by simp, .inl ⟨_, _, rfl, run_takeDeferred hd, ?_⟩⟩
  have hc : (W.putObj D (.deferred none)).cell? ⟨b, 0, none⟩ = some (.bool true) :=
    cell_kept ca (grownBy_putObj' _ _ (.deferred none)) (fun r e => by cases e; exact ⟨_, hd, rfl⟩)
  have hsz := hb.size
  refine ⟨.bool true, ?_, rfl, hb.grown (grownBy_putObj' _ _ _) hsz (fun k e => by cases e; omega)⟩
  simp [results, Try.f6, go_sem, hc, ht]
set_option maxRecDepth 100000 in
set_option maxHeartbeats 4000000 in
theorem nobody16_any {w : World} {zr : Array Value} {RA : World → (Nat → Prop) → Nat → Fst → Prop} (C : FramesI w zr RA) (hz : (Try.prog.info? 45).map (·.zero) = some (some (.agg zr))) (s : List UInt8) : Calls Try.prog 6 #[S s] w fun e w' => e = .returned (.bool true) ∧ Below w.heap.size w w' := by
  have hlN := run_len_S (P := Try.prog) Try.underlying9 3 s
  obtain ⟨N, hN⟩ : ∃ N, N = s.length := ⟨_, rfl⟩
  rw [← hN] at hlN
  have HN := Lib.hid hN
  clear hN
  obtain ⟨b, hb⟩ : ∃ b, b = w.heap.size := ⟨_, rfl⟩
  obtain ⟨W1, hW1⟩ : ∃ W, W = w.alloc (.cells #[.bool false] 4) := ⟨_, rfl⟩
  have H1 : Hid (Below w.heap.size w W1 ∧ Row W1 b #[.bool false] 4) := Lib.hid (by rw [hW1, hb]; exact ⟨(Below.refl _ _).alloc (Nat.le_refl _) _, row_new _ _ _⟩)
  have HA := Lib.hid (awake16_any (C.up H1.out.1))
  rw [hW1] at HA
  refine (callsIn_wide (n := 5)).1 (callsIn_of_wp_marks Try.func6 rfl trivial ?_ rfl)
  simp only [Try.ntmps6, List.size_toArray, List.length_cons, List.length_nil, Nat.reduceAdd, Nat.reduceSub, Array.replicate_succ, Array.replicate_zero, List.push_toArray, List.append_toArray, List.nil_append, List.cons_append]
  rw [wpIn_wide]
  go_wp2_with fail
  refine HA.out.mono ?_
  rintro e W2 ⟨rfl, hB⟩
  rw [← hW1] at hB
  rw [← hb]
  have H2 : Hid (Below w.heap.size w W2 ∧ Row W2 b #[.bool false] 4 ∧ b = w.heap.size) := Lib.hid ⟨H1.out.1.trans (hB.mono H1.out.1.size), H1.out.2.below hB H1.out.2.lt, hb⟩
  clear hB hW1 H1 HA hb
  by_cases hbig : 3000 < N
  · have g1 : decide ((3000 : Int) < (N : Int)) = true := decide_eq_true (by omega)
    have g1' : decide ((N : Int) > 3000) = true := decide_eq_true (by omega)
    have c2 := cell_of_row W2 _ 0 _ 4 (0, 0) H2.out.2.1
    have z2 := H2.out.2.1.frozen 0
    go_wp2
    exact nobody_early (H2.out.2.1.set 0 _) rfl (H2.out.1.setCell (p := ⟨b, 0, none⟩) (by show _ ≤ b; rw [H2.out.2.2]; exact Nat.le_refl _) _) rfl
  have g1 : decide ((3000 : Int) < (N : Int)) = false := decide_eq_false (by omega)
  have g1' : decide ((N : Int) > 3000) = false := decide_eq_false (by omega)
  have HSL : Hid (s.length ≤ 3000) := Lib.hid (by have := HN.out; omega)
  clear hbig
  have HC := Lib.hid (C.feed0 s W2 H2.out.1 (by have := HSL.out; omega))
  go_wp2_with fail
  refine HC.out.mono ?_
  rintro e W3 ⟨rfl, hB⟩
  have H3 : Hid (Below w.heap.size w W3 ∧ Row W3 b #[.bool false] 4 ∧ b = w.heap.size) := Lib.hid ⟨H2.out.1.trans (hB.mono H2.out.1.size), H2.out.2.1.below hB H2.out.2.1.lt, H2.out.2.2⟩
  clear hB H2 HC
  have HC := Lib.hid (C.next0 W3 H3.out.1)
  unfold evV evC ev0 at HC
  dsimp only at HC
  go_wp2_with fail
  refine HC.out.mono ?_
  rintro e W4 ⟨rfl, hB⟩
  obtain ⟨W5, hW5⟩ : ∃ W, W = W4.alloc (.cells #[.int .i64 0, .int .i64 0, .bool false, .int .i64 0, S []] 29) := ⟨_, rfl⟩
  have hal : Below W4.heap.size W4 W5 := by rw [hW5]; exact (Below.refl _ _).alloc (Nat.le_refl _) _
  have hb35 := hB.trans (hal.mono hB.size)
  have H5 : Hid (Below w.heap.size w W5 ∧ Row W5 b #[.bool false] 4 ∧ b = w.heap.size) := Lib.hid ⟨H3.out.1.trans (hb35.mono H3.out.1.size), H3.out.2.1.below hb35 H3.out.2.1.lt, H3.out.2.2⟩
  clear hB hal hb35 H3 HC
  have HC := Lib.hid (C.all0 W5 H5.out.1)
  rw [hW5] at HC
  have heq : ∀ (gf : Nat) (lb : Array Value) (w : World), (binOp .eql 41 (.func (.func gf) #[] lb) .nilFunc).run Try.prog w = .ok (.bool false) w := fun gf lb => eql_nilFunc Try.underlying41 (.func gf) #[] lb
  go_wp2_with fail
  refine HC.out.mono ?_
  rintro e W6 ⟨gf1, lb1, rfl, -, hB⟩
  rw [← hW5] at hB
  have heq := heq gf1 lb1
  have H6 : Hid (Below w.heap.size w W6 ∧ Row W6 b #[.bool false] 4 ∧ b = w.heap.size) := Lib.hid ⟨H5.out.1.trans (hB.mono H5.out.1.size), H5.out.2.1.below hB H5.out.2.1.lt, H5.out.2.2⟩
  clear hB H5 HC hW5
  have HC := Lib.hid (C.all0 W6 H6.out.1)
  go_wp2_with fail
  refine HC.out.mono ?_
  rintro e W7 ⟨gf, lb, rfl, hall, hB⟩
  obtain ⟨heg, F1, St, hS0, hF1, hkeep, hStlt, hseq⟩ := hall
  have H7 : Hid (Below w.heap.size w W7 ∧ Row W7 b #[.bool false] 4 ∧ b = w.heap.size ∧ b < W7.heap.size) := Lib.hid ⟨H6.out.1.trans (hB.mono H6.out.1.size), H6.out.2.1.below hB H6.out.2.1.lt, H6.out.2.2, (H6.out.2.1.below hB H6.out.2.1.lt).lt⟩
  have hF17 : ∀ k, F1 k → k < W7.heap.size := hStlt _ _ _ hS0
  have hbF : ¬ F1 b := fun e => by have := hF1 b e; have := H6.out.2.1.lt; omega
  have hwF : ∀ k, F1 k → w.heap.size ≤ k := fun k hk => by have := hF1 k hk; have := H6.out.1.size; omega
  clear hB H6 HC heq
  go_wp2_with fail
  rw [← wpIn_wide (n := 5)]
  refine wpIn_rangeFunc_M (gf := gf) (lb := lb) (L := ([] : List Ev)) (encs := encE) (St := St) (F0 := F1) rfl heg (fun m => hseq m) hkeep hS0 hF17 (fun _ => rfl)
    (fun pre Fc W => Row W b #[.bool false] 4 ∧ ¬ Fc b ∧ Below w.heap.size w W ∧ ∀ k, Fc k → w.heap.size ≤ k) (fun _ _ _ _ => False)
    ?hI (fun _ _ _ _ _ _ h _ => h) ⟨H7.out.2.1, fun e => by rcases e with e | e; exact hbF e; have := H7.out.2.2.2; omega, H7.out.1, fun k hk => by rcases hk with hk | hk; exact hwF k hk; have := H7.out.1.size; omega⟩ ?round ?done ?stop
  case hI =>
    rintro pre Fa Fb A A' ⟨h1, h2, h3, h4⟩ hm
    exact ⟨h1.moves hm h2, fun e => by rcases hm.foot b e with h | h; exact h2 h; have := h1.lt; omega, h3.trans (hm.below h4 h3.size), hm.from h4 h3.size⟩
  case stop => exact fun c pre F W _ h => h.elim
  case round =>
    intro ll pre x Fx W KK _ hpx
    exact absurd hpx.length_le (by simp)
  case done =>
    rintro Fx W8 ⟨h1, h2, h3, h4⟩ hSt hnB hD
    have H8 := Lib.hid (And.intro h1 (And.intro h3 (And.intro hD H7.out.2.2)))
    clear h1 h2 h3 h4 hSt hnB hD hS0 hF1 hkeep hStlt hseq heg hF17 hbF hwF
    have C8 := Lib.hid (C.up H8.out.2.1)
    have i0 : (fresh16 false).idle = true := rfl
    have i1 : (fresh16 false).bad = false := rfl
    have hkey : ∀ cs, cs = zr → Calls Try.prog 15 #[.pointer (some ⟨W8.heap.size, 0, none⟩)] (W8.alloc (.cells cs 45)) fun e W => e = .returned (.bool true) ∧ AtR RA W8 W (fun k => k = W8.heap.size) W8.heap.size (fresh16 false) := by
      rintro cs rfl
      have hat : AtR RA W8 (W8.alloc (.cells cs 45)) (fun k => k = W8.heap.size) W8.heap.size (fresh16 false) := ⟨C8.out.zero W8, (Below.refl _ _).alloc (Nat.le_refl _) _, fun k hk => Nat.le_of_eq hk.symm⟩
      refine (C8.out.idle hat.1 hat.2.1).mono ?_
      rintro e W ⟨rfl, hB⟩
      exact ⟨rfl, hat.below C8.out hB⟩
    have HK := Lib.hid hkey
    have HZ := Lib.hid hz
    obtain ⟨Bd, hBd⟩ : ∃ x, x = (endF (atS false s)).bad := ⟨_, rfl⟩
    obtain ⟨Id, hId⟩ : ∃ x, x = (endF (atS false s)).idle := ⟨_, rfl⟩
    have HBI := Lib.hid (And.intro hBd hId)
    have z1 : (Bd == Bd) = true := by simp
    have z2 : (Id == Id) = true := by simp
    obtain ⟨G, hG⟩ : ∃ g, g = W8.heap.size := ⟨_, rfl⟩
    clear hkey hz hBd hId
    gi_wp2
    go_wp2_with fail
    refine (HK.out _ ?hcs).mono ?_
    case hcs =>
      exact zr_of (m := (Try.prog.info? 45).map (·.zero)) (by kernel_rfl) HZ.out
    rintro e W9 ⟨rfl, hat⟩
    rw [← hG] at hat ⊢
    have H9 := Lib.hid hat
    clear hat HK hG HZ
    have HC := Lib.hid (C8.out.bad H9.out.1 H9.out.2.1)
    rw [i1] at HC
    go_wp2_with fail
    refine HC.out.mono ?_
    rintro e W10 ⟨rfl, hB⟩
    have H10 := Lib.hid (H9.out.below C8.out hB)
    clear hB HC H9
    have HC := Lib.hid (C8.out.feed s H10.out.1 H10.out.2.1 (by have := HSL.out; show 0 + s.length ≤ 100000; omega))
    rw [fresh_feed] at HC
    go_wp2_with fail
    refine HC.out.mono ?_
    rintro e W11 ⟨rfl, F11, hR, hm⟩
    have H11 := Lib.hid (H10.out.moves hR hm)
    clear hR hm HC H10
    have HC := Lib.hid (all16_any s false (by have := HSL.out; omega) W11)
    rw [← HBI.out.1, ← HBI.out.2] at HC
    go_wp2_with fail
    refine HC.out.mono ?_
    rintro e W12 ⟨V2, rfl, hev, hB⟩
    have H12 : Hid (AtR RA W8 W12 F11 G (atS false s) ∧ RowE 62 W11.heap.size V2 (toldF [] (atS false s)) W12 F11) := Lib.hid ⟨H11.out.below C8.out hB, hev, fun k hk e => by have := (hev.lt hk).1; have := (C8.out.lt H11.out.1).2 k e; omega⟩
    clear hev hB HC H11
    have HC := Lib.hid (C8.out.bad0 W12 H12.out.1.2.1)
    go_wp2_with fail
    refine HC.out.mono ?_
    rintro e W13 ⟨rfl, hB⟩
    have H13 := Lib.hid (And.intro (H12.out.1.below C8.out hB) (H12.out.2.below hB))
    clear hB HC H12
    have HC := Lib.hid (C8.out.idle0 W13 H13.out.1.2.1)
    go_wp2_with fail
    refine HC.out.mono ?_
    rintro e W14 ⟨rfl, hB⟩
    have H14 := Lib.hid (And.intro (H13.out.1.below C8.out hB) (H13.out.2.below hB))
    clear hB HC H13
    have HC := Lib.hid (told16_new C8.out H14.out.1 (by have := HSL.out; show s.length ≤ 100000; omega))
    go_wp2_with fail
    refine HC.out.mono ?_
    rintro e W15 ⟨V7, F7, rfl, hrow, hat, hm⟩
    have H15 := Lib.hid (And.intro hat (And.intro (H14.out.2.moves hm) hrow))
    clear hat hm hrow HC H14
    have HC := Lib.hid (same16_true H15.out.2.2.1 H15.out.2.1.1 (by have h := toldF_len (atS false s); have e : (atS false s).buf = s := rfl; rw [e] at h; have := HSL.out; omega))
    go_wp2_with fail
    refine HC.out.mono ?_
    rintro e W16 ⟨rfl, hB⟩
    have H16 := Lib.hid (H15.out.1.below C8.out hB)
    clear hB HC H15
    have HC := Lib.hid (C8.out.bad H16.out.1 H16.out.2.1)
    rw [← HBI.out.1] at HC
    go_wp2_with fail
    refine HC.out.mono ?_
    rintro e W17 ⟨rfl, hB⟩
    have H17 := Lib.hid (H16.out.below C8.out hB)
    clear hB HC H16
    have HC := Lib.hid (C8.out.idle H17.out.1 H17.out.2.1)
    rw [← HBI.out.2] at HC
    go_wp2_with fail
    refine HC.out.mono ?_
    rintro e W18 ⟨rfl, hB⟩
    have hb18 := H17.out.2.1.trans (hB.mono H17.out.2.1.size)
    have hr18 := H8.out.1.below hb18 H8.out.1.lt
    have c2 := cell_of_row W18 _ 0 _ 4 (0, 0) hr18
    have z2' := hr18.frozen 0
    have H18 := Lib.hid (And.intro hb18 hr18)
    clear hB HC H17 hb18 hr18
    go_wp2
    refine nobody_end (H18.out.2.set 0 _) ((H8.out.2.1.trans (H18.out.1.mono H8.out.2.1.size)).setCell (p := ⟨b, 0, none⟩) (by show _ ≤ b; rw [H8.out.2.2.2.1]; exact Nat.le_refl _) _) ((Below.heap_setCell _ _ _ _ (by show W7.heap.size ≠ b; have := H8.out.2.2.2.2; omega)).trans ((H18.out.1.block _ ?_).trans H8.out.2.2.1)) (by have := H8.out.2.2.2; omega) rfl
    exact (Array.getElem?_eq_some_iff.1 H8.out.2.2.1).1
end Go.Proofs.Ytlmolmmhkddpaaa
