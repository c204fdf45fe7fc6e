/- The document's All walked. (mkri.py writes it.) -/
import Derived.Test.YtplajlccnnbifaaGreatDoorJc
import Derived.Test.YtplajlccnnbifaaGreatDoorRd
import Derived.Test.YtplajlccnnbifaaGreatDoorCf
namespace Go.Proofs.YtplajlccnnbifaaGreatDoor
open Go.RowKit
attribute [local go_sem] store_one S_match S_store

/-- The blocks that were made in between. -/
def Between (w w' : World) : Nat → Prop := fun k => w.heap.size ≤ k ∧ k < w'.heap.size
theorem eleR : EleK Tryz.prog 27 7 := eleK_of (z := .agg zeroR) (n := 104) (by kernel_rfl) (by omega) rfl
theorem headL_le {l : List (List UInt8)} {r : Rq} {k : Nat} (h : headL l = .ok r (some k)) : k ≤ 4096 := by
  cases l with
  | nil => cases h
  | cons l0 ls =>
    unfold headL at h
    dsimp only at h
    split at h
    · cases h
    · split at h
      · cases h
      · split at h
        · cases h
        · split at h
          · cases h
          · split at h
            · cases h
            · split at h
              · cases h
              · rename_i hk
                cases h
                omega
/-- Within All: t is left, V holds what was told. -/
structure AllAt (w : World) (L : List Rq) (p' : PSt) (t : List UInt8) (V : Value) (W : World) : Prop where
  ex : ∃ xs rest, Reqs W w.heap.size (Between w W) V xs ∧ Drains ⟨t, 0⟩ rest p' ∧ L = xs.map (·.1) ++ rest
  bel : Below w.heap.size w W
section
variable {w W W' W4 : World} {L : List Rq} {p' q : PSt} {t x : List UInt8} {V V1 : Value} {r : Rq}
theorem AllAt.stop (h : AllAt w L p' t V W) (hn : PSt.next ⟨t, 0⟩ = (none, q)) (hB : Below W.heap.size W W') : p' = q ∧ ∃ xs, Reqs W' w.heap.size (Between w W') V xs ∧ xs.map (·.1) = L ∧ Below w.heap.size w W' := by
  obtain ⟨⟨xs, rest, hR, hd, hL⟩, hb⟩ := h
  obtain ⟨rfl, rfl⟩ := drains_one hd (.stop hn)
  have hb' := hb.trans (hB.mono hb.size)
  refine ⟨rfl, xs, (hR.below hB).mono (fun k hk => ⟨hk.1, by have := hk.2; have := hB.size; omega⟩) (fun k hk => hk.2), by rw [hL, List.append_nil], hb'⟩
theorem AllAt.more (h : AllAt w L p' t V W) (hL : L.length ≤ 100000) (hst : stepS t = .req r x) (hB : Below W.heap.size W W4) (hf : ∃ gf, FldsAt W4 V1 r.fs gf ∧ (r.fs = [] ∨ (W.heap.size ≤ gf ∧ gf < W4.heap.size))) :
    ∃ n cs, W4.ownsRow w.heap.size 27 7 V n cs ∧ n < 1000000 ∧ w.heap.size ≤ W4.heap.size ∧
      ∀ g cap W6, W6.ownsRow w.heap.size 27 7 (.slice (some ⟨g, 0, none⟩) (n + 1) cap) (n + 1) (cs ++ (rqCells r.m r.p r.q r.v V1 r.body r.cl).toList) → W4.grownBy W6 V.ownBlock → (V.ownBlock = some g ∨ W4.heap.size ≤ g) → g < W6.heap.size →
        AllAt w L p' x (.slice (some ⟨g, 0, none⟩) (n + 1) cap) W6 := by
  obtain ⟨⟨xs, rest, hR, hd, hLe⟩, hb⟩ := h
  obtain ⟨gf, hf1, hf2⟩ := hf
  have hb4 := hb.trans (hB.mono hb.size)
  have hR4 : Reqs W4 w.heap.size (Between w W4) V xs := (hR.below hB).mono (fun k hk => ⟨hk.1, by have := hk.2; have := hB.size; omega⟩) (fun k hk => hk.2)
  have hlen : xs.length ≤ L.length := by rw [hLe, List.length_append, List.length_map]; omega
  cases hd with
  | stop hn => rw [next_req hst] at hn; cases hn
  | @more _ p1 _ r' l hn hd' =>
    rw [next_req hst] at hn
    cases hn
    refine ⟨xs.length, xs.flatMap rcells, hR4.row, by omega, hb4.size, fun g cap W6 h1 h2 h3 h4 => ?_⟩
    have ha : r.fs = [] ∨ (Between w W4 gf ∧ V.ownBlock ≠ some gf) := by
      refine hf2.imp id fun e => ⟨⟨Nat.le_trans hb.size e.1, e.2⟩, fun e2 => ?_⟩
      have := (hR.own gf e2).2
      omega
    have hS := hR4.snoc (x := (r, V1, gf)) hf1 ha h1 h2 h3 h4
    have hsz := h2.size
    refine ⟨⟨xs ++ [(r, V1, gf)], l, hS.mono (fun k hk => ?_) (fun k hk => hk.2), hd', by rw [hLe, List.map_append]; simp⟩, below_grown hb4 h2 (fun k hk => (hR4.own k hk).1) hb4.size⟩
    rcases hk with hk | rfl
    · exact ⟨hk.1, by have := hk.2; omega⟩
    · refine ⟨?_, h4⟩
      rcases h3 with h3 | h3
      · exact (hR4.own k h3).1
      · have := hb4.size; omega
end
set_option maxRecDepth 100000 in
set_option maxHeartbeats 4000000 in
theorem dall_any (s : List UInt8) (hs : s.length ≤ 20000) (w : World) (L : List Rq) (p' : PSt) (hd : Drains ⟨s, 0⟩ L p') : Calls Tryz.prog 17 #[S s] w fun e w' =>
    ∃ V xs, e = .returned (.tuple #[V, .int .i64 (p'.bad : Int), S p'.buf]) ∧ Reqs w' w.heap.size (Between w w') V xs ∧ xs.map (·.1) = L ∧ Below w.heap.size w w' := by
  have hL : L.length ≤ 100000 := by have h := drains_len hd; dsimp only at h; omega
  have H0 : AllAt w L p' s (.slice none 0 0) w := ⟨⟨[], L, (reqs_nil w _).mono (fun _ h => h.elim) (fun _ h => h.2), hd, rfl⟩, Below.refl _ w⟩
  have HH := Lib.hid (And.intro H0 hL)
  clear H0 hL hd
  go_enter Tryz.func17, Tryz.ntmps17
  go_wp2
  go_loopw [0, 5] (fun sv lv wr => ∃ t : List UInt8, sv = S t ∧ Hid (t.length ≤ s.length ∧ AllAt w L p' t lv wr)) (fun sv _ _ => slen sv)
  case atStart => exact ⟨s, rfl, Lib.hid ⟨Nat.le_refl _, HH.out.1⟩⟩
  case round =>
    obtain ⟨t, rfl, HT⟩ := hrel
    have htl : t.length ≤ 20000 := by have := HT.out.1; omega
    have HA := Lib.hid HT.out.2
    have hlen := run_len_S (P := Tryz.prog) Tryz.underlying9 3 t
    have HEN := Lib.hid (fun w => dend_any t (by omega) w)
    have HHD := Lib.hid (fun n w => dhead_any (t.take n) (by rw [List.length_take]; omega) w)
    have HRD := Lib.hid (fun n w => docReads (t.drop n) w (by rw [List.length_drop]; omega))
    have hstep : stepS t = match endF t with
      | none => if 2048 ≤ t.length then .bad 431 else .more
      | some n => if 2048 < n then .bad 431 else match headR (t.take (n - 4)) with
        | .bad c => .bad c
        | .ok r len => bodyS r len (t.drop n) := rfl
    cases he : endF t with
    | none =>
      rw [he] at hstep HEN
      dsimp only at hstep
      rw [optV_neg] at HEN
      obtain ⟨T, hT⟩ : ∃ T, T = t.length := ⟨_, rfl⟩
      rw [← hT] at hlen hstep
      by_cases h2 : 2048 ≤ T
      · rw [if_pos h2] at hstep
        have g1 : decide ((T : Int) ≥ 2048) = true := decide_eq_true (by omega)
        have g2 : decide ((2048 : Int) ≤ (T : Int)) = true := decide_eq_true (by omega)
        have HS := Lib.hid hstep
        clear hstep h2 he hT htl
        go_wp2_with fail
        refine (HEN.out _).mono ?_
        rintro e w1 ⟨rfl, rfl⟩
        go_wp2
        go_ret3
        obtain ⟨hp, xs, h1, h2, h3⟩ := HA.out.stop (next_bad HS.out) (Below.refl _ _)
        rw [hp]
        first | exact ⟨u5, xs, rfl, h1, h2, h3⟩ | exact ⟨u5, rfl, xs, h1, h2, h3⟩
      · rw [if_neg h2] at hstep
        have g1 : decide ((T : Int) ≥ 2048) = false := decide_eq_false (by omega)
        have g2 : decide ((2048 : Int) ≤ (T : Int)) = false := decide_eq_false (by omega)
        have HS := Lib.hid hstep
        clear hstep h2 he hT htl
        go_wp2_with fail
        refine (HEN.out _).mono ?_
        rintro e w1 ⟨rfl, rfl⟩
        go_wp2
        go_ret3
        obtain ⟨hp, xs, h1, h2, h3⟩ := HA.out.stop (next_more HS.out) (Below.refl _ _)
        rw [hp]
        first | exact ⟨u5, xs, rfl, h1, h2, h3⟩ | exact ⟨u5, rfl, xs, h1, h2, h3⟩
    | some n =>
      have hnl := endF_le t n he
      rw [he] at hstep HEN
      dsimp only at hstep
      obtain ⟨T, hT⟩ : ∃ T, T = t.length := ⟨_, rfl⟩
      rw [← hT] at hlen hnl htl
      rw [show optV (some n) = .int .i64 (n : Int) from rfl] at HEN
      have n0 : decide ((n : Int) < 0) = false := decide_eq_false (by omega)
      by_cases h2 : 2048 < n
      · rw [if_pos h2] at hstep
        have k1 : decide ((n : Int) > 2048) = true := decide_eq_true (by omega)
        have k2 : decide ((2048 : Int) < (n : Int)) = true := decide_eq_true (by omega)
        have g1 : decide ((T : Int) ≥ 2048) = true := decide_eq_true (by omega)
        have g2 : decide ((2048 : Int) ≤ (T : Int)) = true := decide_eq_true (by omega)
        have HS := Lib.hid hstep
        clear hstep h2 he hT htl hnl
        go_wp2_with fail
        refine (HEN.out _).mono ?_
        rintro e w1 ⟨rfl, rfl⟩
        go_wp2
        go_ret3
        obtain ⟨hp, xs, h1, h2, h3⟩ := HA.out.stop (next_bad HS.out) (Below.refl _ _)
        rw [hp]
        first | exact ⟨u5, xs, rfl, h1, h2, h3⟩ | exact ⟨u5, rfl, xs, h1, h2, h3⟩
      rw [if_neg h2] at hstep
      have k1 : decide ((n : Int) > 2048) = false := decide_eq_false (by omega)
      have k2 : decide ((2048 : Int) < (n : Int)) = false := decide_eq_false (by omega)
      have hw4 : IntKind.i64.wrap ((n : Int) - 4) = (n : Int) - 4 := by rw [IntKind.wrap_i64]; omega
      have hsl : ∀ w, (Instr.slice 9 (S t) none (some (.int .i64 ((n : Int) - 4))) none).run Tryz.prog w = .ok (S (t.take (n - 4))) w := fun w => by
        have := slice_take (P := Tryz.prog) Tryz.underlying9 t (n - 4) (by omega) w
        rw [show ((n - 4 : Nat) : Int) = (n : Int) - 4 by omega] at this
        exact this
      have hsd : ∀ w, (Instr.slice 9 (S t) (some (.int .i64 (n : Int))) none none).run Tryz.prog w = .ok (S (t.drop n)) w := fun w => slice_drop (P := Tryz.prog) Tryz.underlying9 t n (by omega) w
      have HHn : Hid (∀ w, Calls Tryz.prog 32 #[S (t.take (n - 4))] w (HeadPost w (headR (t.take (n - 4))))) := Lib.hid (HHD.out (n - 4))
      clear HHD
      obtain ⟨hd, hhd⟩ : ∃ hd, hd = headR (t.take (n - 4)) := ⟨_, rfl⟩
      rw [← hhd] at HHn hstep
      cases hd with
      | bad c =>
        dsimp only at hstep
        have hc : c ≠ 0 := by rcases step_codes hstep with h | h | h <;> omega
        have c0 : ((c : Int) != 0) = true := by rw [bne_iff_ne]; omega
        have HS := Lib.hid hstep
        clear hstep h2 he hT htl hnl hhd hc
        go_wp2_with fail
        refine (HEN.out _).mono ?_
        rintro e w1 ⟨rfl, rfl⟩
        go_wp2_with fail
        refine (HHn.out _).mono ?_
        rintro e W1 ⟨hB, he⟩
        dsimp only at he
        subst he
        unfold zeroR
        have HB := Lib.hid hB
        clear hB
        go_wp2
        go_ret3
        obtain ⟨hp, xs, h1, h2, h3⟩ := HA.out.stop (next_bad HS.out) (HB.out.alloc HB.out.size (.cells zeroR 27))
        rw [hp]
        first | exact ⟨u5, xs, rfl, h1, h2, h3⟩ | exact ⟨u5, rfl, xs, h1, h2, h3⟩
      | ok r len =>
        dsimp only at hstep
        go_wp2_with fail
        refine (HEN.out _).mono ?_
        rintro e w1 ⟨rfl, rfl⟩
        go_wp2_with fail
        refine (HHn.out _).mono ?_
        rintro e W1 ⟨hB, V1, he1, hO⟩
        subst he1
        obtain ⟨gf, hf1, hf2⟩ := flds_at hO
        obtain ⟨a1, c1, hV1⟩ := hf1.form
        have HF := Lib.hid (And.intro hB (And.intro hf1 hf2))
        clear hB hO hf1 hf2
        subst hV1
        unfold rqCells
        obtain ⟨m, pp, q, v, fs, body0, cl⟩ := r
        dsimp only
        cases len with
        | none =>
          rw [optV_neg]
          obtain ⟨U, hU⟩ : ∃ U, U = (Cst.new.run (t.drop n)).1 := ⟨_, rfl⟩
          obtain ⟨st, hst⟩ : ∃ st, st = (Cst.new.run (t.drop n)).2 := ⟨_, rfl⟩
          have hUl : U ≤ T - n := by
            have := run_le (t.drop n) Cst.new
            rw [← hU, List.length_drop, ← hT] at this
            exact this
          have hrv : readsV (t.drop n) = .tuple #[.int .i64 (U : Int), S st.data, .bool st.isDone, .int .i64 (st.badN : Int)] := by rw [hU, hst]; rfl
          have HR : Hid (∀ w, Calls Tryz.prog 33 #[S (t.drop n)] w fun e w' => e = .returned (.tuple #[.int .i64 (U : Int), S st.data, .bool st.isDone, .int .i64 (st.badN : Int)]) ∧ Below w.heap.size w w') := Lib.hid (fun w => by rw [← hrv]; exact HRD.out n w)
          have hbs : bodyS ⟨m, pp, q, v, fs, body0, cl⟩ none (t.drop n) = if st.badN ≠ 0 then .bad st.badN else if st.isDone = false then .more else .req ⟨m, pp, q, v, fs, st.data, cl⟩ ((t.drop n).drop U) := by rw [hU, hst]; rfl
          rw [hbs, List.drop_drop] at hstep
          clear hbs hrv hU hst HRD
          have hB2 : Below w1.heap.size w1 (W1.alloc (.cells #[S m, S pp, S q, .int .i64 (v : Int), .slice a1 fs.length c1, S [], .bool cl] 27)) := HF.out.1.alloc HF.out.1.size _
          have HB2 := Lib.hid hB2
          have hr7 : Row (W1.alloc (.cells #[S m, S pp, S q, .int .i64 (v : Int), .slice a1 fs.length c1, S [], .bool cl] 27)) W1.heap.size #[S m, S pp, S q, .int .i64 (v : Int), .slice a1 fs.length c1, S [], .bool cl] 27 := row_new W1 _ _
          have HR7 := Lib.hid hr7
          clear hB2 hr7
          have hw5 : IntKind.i64.wrap ((n : Int) + (U : Int)) = (n : Int) + (U : Int) := by rw [IntKind.wrap_i64]; omega
          have hsd2 : ∀ w, (Instr.slice 9 (S t) (some (.int .i64 ((n : Int) + (U : Int)))) none none).run Tryz.prog w = .ok (S (t.drop (n + U))) w := fun w => by
            have := slice_drop (P := Tryz.prog) Tryz.underlying9 t (n + U) (by omega) w
            rw [show ((n + U : Nat) : Int) = (n : Int) + (U : Int) by omega] at this
            exact this
          have HN := Lib.hid hnl
          have HTT := Lib.hid hT
          clear hnl hUl he hhd h2 htl hT
          go_wp2_with fail
          refine (HR.out _).mono ?_
          rintro e W3 ⟨rfl, hB3⟩
          have HB3 := Lib.hid (HB2.out.trans (hB3.mono HB2.out.size))
          have hr73 := HR7.out.below hB3 HR7.out.lt
          have k0 : W3.cell? ⟨W1.heap.size, 0, none⟩ = some (S m) := cell_of_row W3 _ 0 _ _ (0, 0) hr73
          have k1 : W3.cell? ⟨W1.heap.size, 1, none⟩ = some (S pp) := cell_of_row W3 _ 1 _ _ (0, 0) hr73
          have k2 : W3.cell? ⟨W1.heap.size, 2, none⟩ = some (S q) := cell_of_row W3 _ 2 _ _ (0, 0) hr73
          have k3 : W3.cell? ⟨W1.heap.size, 3, none⟩ = some (.int .i64 (v : Int)) := cell_of_row W3 _ 3 _ _ (0, 0) hr73
          have k4 : W3.cell? ⟨W1.heap.size, 4, none⟩ = some (.slice a1 fs.length c1) := cell_of_row W3 _ 4 _ _ (0, 0) hr73
          have k5 : W3.cell? ⟨W1.heap.size, 5, none⟩ = some (S []) := cell_of_row W3 _ 5 _ _ (0, 0) hr73
          have k6 : W3.cell? ⟨W1.heap.size, 6, none⟩ = some (.bool cl) := cell_of_row W3 _ 6 _ _ (0, 0) hr73
          have f5 := hr73.frozen 5
          have HB13 : Hid (Below W1.heap.size W1 W3) := Lib.hid (((Below.refl _ W1).alloc (Nat.le_refl _) _).trans (hB3.mono (by simp)))
          clear hB3 hr73
          by_cases hcd : st.badN = 0
          · rw [if_neg (fun h => h hcd)] at hstep
            have x0 : ((st.badN : Int) != 0) = false := by rw [hcd]; rfl
            cases hdn : st.isDone with
            | false =>
              rw [hdn, if_pos rfl] at hstep
              have HS := Lib.hid hstep
              clear hstep hcd
              go_wp2
              go_ret3
              obtain ⟨hp, xs, h1, h2, h3⟩ := HA.out.stop (next_more HS.out) (HB3.out)
              rw [hp]
              first | exact ⟨u5, xs, rfl, h1, h2, h3⟩ | exact ⟨u5, rfl, xs, h1, h2, h3⟩
            | true =>
              rw [hdn, if_neg (by simp)] at hstep
              have hB4 : Below W1.heap.size W1 (W3.setCell ⟨W1.heap.size, 5, none⟩ (S st.data)) := HB13.out.setCell (p := ⟨W1.heap.size, 5, none⟩) (Nat.le_refl _) _
              obtain ⟨nn, cs, hown, hnn, hsz, hk⟩ := HA.out.more HH.out.2 hstep (HF.out.1.trans (hB4.mono HF.out.1.size)) ⟨gf, HF.out.2.1.below hB4, HF.out.2.2.imp id (fun e => ⟨e.1, Nat.lt_of_lt_of_le e.2 hB4.size⟩)⟩
              have HK := Lib.hid hk
              have hone : ∀ u ∈ (#[S m, S pp, S q, .int .i64 (v : Int), .slice a1 fs.length c1, S st.data, .bool cl] : Array Value).toList, u.oneCell' = true := by
                intro u hu
                simp only [List.mem_cons, List.not_mem_nil, or_false] at hu
                rcases hu with rfl | rfl | rfl | rfl | rfl | rfl | rfl <;> rfl
              have hH : (W3.setCell ⟨W1.heap.size, 5, none⟩ (S st.data)).heap.size = W3.heap.size := by simp [World.setCell]
              clear hB4 hk hcd hstep
              go_wp2_with (at_builtin; refine wpList_addL rfl 42 27 (.tmp 87) (.tmp 89) rfl Tryz.underlying42 eleR (by omega) w.heap.size (W3.setCell ⟨W1.heap.size, 5, none⟩ (S st.data)) u5 rfl nn cs hown #[S m, S pp, S q, .int .i64 (v : Int), .slice a1 fs.length c1, S st.data, .bool cl] rfl hone rfl W3.heap.size hH rfl hnn hsz ?_; intro g cap W6 o1 o2 o3 o4; have HO := Lib.hid (HK.out g cap W6 o1 o2 o3 o4); clear o1 o2 o3 o4)
              go_wp2
              exact ⟨⟨_, rfl, Lib.hid ⟨by rw [List.length_drop]; have := HT.out.1; omega, HO.out⟩⟩, by rw [slen_S, slen_S, List.length_drop]; have := HN.out; have := HTT.out; omega⟩
          · rw [if_pos hcd] at hstep
            have x0 : ((st.badN : Int) != 0) = true := by rw [bne_iff_ne]; omega
            have HS := Lib.hid hstep
            clear hstep hcd
            go_wp2
            go_ret3
            obtain ⟨hp, xs, h1, h2, h3⟩ := HA.out.stop (next_bad HS.out) (HB3.out)
            rw [hp]
            first | exact ⟨u5, xs, rfl, h1, h2, h3⟩ | exact ⟨u5, rfl, xs, h1, h2, h3⟩
        | some k =>
          rw [show optV (some k) = .int .i64 (k : Int) from rfl]
          have hk4 : k ≤ 4096 := headL_le hhd.symm
          have kn : decide ((k : Int) < 0) = false := decide_eq_false (by omega)
          have hw5 : IntKind.i64.wrap ((n : Int) + (k : Int)) = (n : Int) + (k : Int) := by rw [IntKind.wrap_i64]; omega
          have hbs : bodyS ⟨m, pp, q, v, fs, body0, cl⟩ (some k) (t.drop n) = if (t.drop n).length < k then .more else .req ⟨m, pp, q, v, fs, (t.drop n).take k, cl⟩ ((t.drop n).drop k) := rfl
          rw [hbs, List.drop_drop, List.length_drop, ← hT] at hstep
          clear hbs HRD he hhd h2
          by_cases hsh : T < n + k
          · rw [if_pos (by omega)] at hstep
            have g5 : decide ((T : Int) < (n : Int) + (k : Int)) = true := decide_eq_true (by omega)
            have HS := Lib.hid hstep
            clear hstep hsh hnl htl hT hk4
            go_wp2
            go_ret3
            obtain ⟨hp, xs, h1, h2, h3⟩ := HA.out.stop (next_more HS.out) (HF.out.1.alloc HF.out.1.size (.cells #[S m, S pp, S q, .int .i64 (v : Int), .slice a1 fs.length c1, S [], .bool cl] 27))
            rw [hp]
            first | exact ⟨u5, xs, rfl, h1, h2, h3⟩ | exact ⟨u5, rfl, xs, h1, h2, h3⟩
          · rw [if_neg (by omega)] at hstep
            have g5 : decide ((T : Int) < (n : Int) + (k : Int)) = false := decide_eq_false (by omega)
            have hsm : ∀ w, (Instr.slice 9 (S t) (some (.int .i64 (n : Int))) (some (.int .i64 ((n : Int) + (k : Int)))) none).run Tryz.prog w = .ok (S ((t.drop n).take k)) w := fun w => by
              have := slice_mid (P := Tryz.prog) Tryz.underlying9 t n (n + k) (by omega) (by omega) w
              rw [show ((n + k : Nat) : Int) = (n : Int) + (k : Int) by omega, Nat.add_sub_cancel_left] at this
              exact this
            have hsd2 : ∀ w, (Instr.slice 9 (S t) (some (.int .i64 ((n : Int) + (k : Int)))) none none).run Tryz.prog w = .ok (S (t.drop (n + k))) w := fun w => by
              have := slice_drop (P := Tryz.prog) Tryz.underlying9 t (n + k) (by omega) w
              rw [show ((n + k : Nat) : Int) = (n : Int) + (k : Int) by omega] at this
              exact this
            obtain ⟨bd, hbd⟩ : ∃ bd, bd = (t.drop n).take k := ⟨_, rfl⟩
            rw [← hbd] at hstep hsm
            have hB4 : Below W1.heap.size W1 (W1.alloc (.cells #[S m, S pp, S q, .int .i64 (v : Int), .slice a1 fs.length c1, S bd, .bool cl] 27)) := (Below.refl _ W1).alloc (Nat.le_refl _) _
            obtain ⟨nn, cs, hown, hnn, hsz, hk⟩ := HA.out.more HH.out.2 hstep (HF.out.1.trans (hB4.mono HF.out.1.size)) ⟨gf, HF.out.2.1.below hB4, HF.out.2.2.imp id (fun e => ⟨e.1, Nat.lt_of_lt_of_le e.2 hB4.size⟩)⟩
            have HK := Lib.hid hk
            have HN := Lib.hid hnl
            have HTT := Lib.hid hT
            have hone : ∀ u ∈ (#[S m, S pp, S q, .int .i64 (v : Int), .slice a1 fs.length c1, S bd, .bool cl] : Array Value).toList, u.oneCell' = true := by
              intro u hu
              simp only [List.mem_cons, List.not_mem_nil, or_false] at hu
              rcases hu with rfl | rfl | rfl | rfl | rfl | rfl | rfl <;> rfl
            have hH : (W1.alloc (.cells #[S m, S pp, S q, .int .i64 (v : Int), .slice a1 fs.length c1, S bd, .bool cl] 27)).heap.size = W1.heap.size + 1 := alloc_size _ _
            clear hB4 hk hstep hsh hbd hnl htl hT hk4
            go_wp2_with (at_builtin; refine wpList_addL rfl 42 27 (.tmp 87) (.tmp 89) rfl Tryz.underlying42 eleR (by omega) w.heap.size (W1.alloc (.cells #[S m, S pp, S q, .int .i64 (v : Int), .slice a1 fs.length c1, S bd, .bool cl] 27)) u5 rfl nn cs hown #[S m, S pp, S q, .int .i64 (v : Int), .slice a1 fs.length c1, S bd, .bool cl] rfl hone rfl (W1.heap.size + 1) hH rfl hnn hsz ?_; intro g cap W6 o1 o2 o3 o4; have HO := Lib.hid (HK.out g cap W6 o1 o2 o3 o4); clear o1 o2 o3 o4)
            go_wp2
            exact ⟨⟨_, rfl, Lib.hid ⟨by rw [List.length_drop]; have := HT.out.1; omega, HO.out⟩⟩, by rw [slen_S, slen_S, List.length_drop]; have := HN.out; have := HTT.out; omega⟩
end Go.Proofs.YtplajlccnnbifaaGreatDoor
