/- Texts of this proof that several statements share, one behind the other. -/
import Derived.Test.YtplajlccnnbifaaGreatDoorJf
import Derived.Test.YtplajlccnnbifaaGreatDoorJb
import Derived.Test.YtplajlccnnbifaaGreatDoorProg
import Derived.Test.YtplajlccnnbifaaGreatDoorJc
import Derived.Deep.QuietTactic
import Derived.BigQuiet
/- The landed parser's readBody and Next walked. (mkrt12.py writes it.) -/
namespace Go.Proofs.YtplajlccnnbifaaGreatDoor
open Go.RowKit
attribute [local go_sem] store_one S_match S_store eguard_BN nguard_BN

section
variable {RC : World → (Nat → Prop) → Nat → Cst → Prop} {w : World} {F : Nat → Prop} {g : Nat} {st : PSt} {v : Value} {ow : Option Nat} {X : Nat → Prop} {gp : Nat}
/-- What readBody tells. -/
def BodyDone (RC : World → (Nat → Prop) → Nat → Cst → Prop) (F : Nat → Prop) (g gp : Nat) (st : PSt) (v : Value) (ow : Option Nat) (w : World) (b : Bool) (w' : World) : Prop :=
  (b = true → ∃ r V gf, BodyIn F g gp gf st r V v ow w w' ∧ (r.fs = [] ∨ (F gf ∧ gf ≠ g ∧ ow ≠ some gf)) ∧ g ≠ gp ∧ ∀ k, ow = some k → k ≠ g ∧ k ≠ gp) ∧ (b = false → BodyNo RC F g st w w')
theorem pr_places {nv : Value} (h : PrAt RC w F g st v ow X nv) {gf : Nat} (hx : X gf) : F gf ∧ gf ≠ g ∧ ow ≠ some gf :=
  ⟨(h.foot gf).2 (.inr (.inr hx)), fun e => h.g_x (e ▸ hx), fun e => (h.ow_g gf e).2 hx⟩
set_option maxRecDepth 100000 in
set_option maxHeartbeats 2000000 in
theorem readbody_any (C : ChunkI RC) (Q : ChunkQ RC) (h : PrAt RC w F g st v ow X (.pointer (some ⟨gp, 0, none⟩))) (hb : st.bad = 0) (hl : st.buf.length ≤ 100000) :
    Calls Tryz.prog 24 #[.pointer (some ⟨g, 0, none⟩)] w fun e w' => ∃ b, e = .returned (.bool b) ∧ BodyDone RC F g gp st v ow w b w' := by
  rcases h.next with ⟨hnv, _⟩ | ⟨gp', r, len, n, V, gf, cp, rd, hnv, hP⟩
  · cases hnv
  obtain rfl : gp = gp' := by cases hnv; rfl
  have hgp := hP.gp_in
  have hpl := pr_places h hgp
  have hapt : g ≠ gp ∧ ∀ k, ow = some k → k ≠ g ∧ k ≠ gp := ⟨fun e => hpl.2.1 e.symm, fun k hk => ⟨(h.ow_g k hk).1, fun e => (h.ow_g k hk).2 (e ▸ hgp)⟩⟩
  have hgf : r.fs = [] ∨ (F gf ∧ gf ≠ g ∧ ow ≠ some gf) := hP.gf_in.imp id fun e => pr_places h e.1
  obtain ⟨c0, c1, _⟩ := h.cells
  have p7 : w.cell? ⟨gp, 7, none⟩ = some (.bool len.isNone) := cell_of_row w _ 7 _ _ (0, 0) hP.row
  cases len with
  | none =>
    obtain ⟨gc, Fc, cst, rfl, hR, hFX, hgFc, hge, hle, hrun⟩ := hP.chunks rfl
    have A : Apt g gp gf r ow st n := ⟨hapt.1, fun k hk => ⟨(hapt.2 k hk).1, (hapt.2 k hk).2, hgf.imp id fun e => fun e' => e.2.2 (e' ▸ hk)⟩, (by
      by_cases hne : r.fs = []
      · exact .inl hne
      · exact .inr ⟨(hgf.resolve_left hne).2.1, (hP.gf_in.resolve_left hne).2⟩), hb, hP.ends, hP.soon, hP.says⟩
    have hch : ChAt RC w F g gp gc gf st r n V v ow rd cst Fc w := ⟨⟨rfl, rfl, rfl, Nat.le_refl _, fun k hk => .inl (by
        rcases hk with rfl | hk | rfl | ⟨hne, rfl⟩ | hk
        · exact h.lt.1
        · exact (h.foot k).2 (.inr (.inl hk))
        · exact hpl.1
        · exact (hgf.resolve_left hne).1
        · exact (h.foot k).2 (.inr (.inr (hFX k hk).1))), fun _ _ _ => rfl⟩, h.row, h.wait, hP.row, hP.flds, hR, fun k hk => (by
        have := pr_places h (hFX k hk).1
        refine ⟨this.2.1, this.2.2, (hFX k hk).2, ?_⟩
        exact hgFc.imp id fun e e' => e (e' ▸ hk)), hge, hle, hrun⟩
    have hcall := readchunks_any C Q hch A hl
    have HC := Lib.hid (And.intro hcall (And.intro hgf hapt))
    clear hcall hch A hrun hge hle hgFc hFX hR hP h hgf hapt hpl hgp
    go_enter Tryz.func24, Tryz.ntmps24
    go_wp2_with fail
    refine HC.out.1.mono ?_
    rintro e W1 ⟨b, rfl, h1, h2⟩
    have H1 := Lib.hid (And.intro h1 h2)
    clear h1 h2
    go_wp2
    go_ret
    exact ⟨b, rfl, fun hb => ⟨r, V, gf, H1.out.1 hb, HC.out.2.1, HC.out.2.2.1, HC.out.2.2.2⟩, H1.out.2⟩
  | some k =>
    obtain ⟨hrd, hk4, hcp⟩ := hP.plain k rfl
    rw [hrd] at hP
    subst hcp
    clear hrd
    have p10 : w.cell? ⟨gp, 10, none⟩ = some (.int .i64 (n : Int)) := cell_of_row w _ 10 _ _ (0, 0) hP.row
    have p8 : w.cell? ⟨gp, 8, none⟩ = some (.int .i64 (k : Int)) := cell_of_row w _ 8 _ _ (0, 0) hP.row
    have hlen := h.wait.toV.len 3
    obtain ⟨L, hL⟩ : ∃ L, L = st.buf.length := ⟨_, rfl⟩
    rw [← hL] at hlen hl
    have hn := endF_le _ _ hP.ends
    obtain ⟨en, hen⟩ : ∃ en, en = n + k := ⟨_, rfl⟩
    have hw1 : IntKind.i64.wrap ((n : Int) + (k : Int)) = (en : Int) := by rw [IntKind.wrap_i64]; have := hP.soon; omega
    have HEN := Lib.hid hen
    clear hen
    have HST : Hid (stepS st.buf = bodyS r (some k) (st.buf.drop n)) := Lib.hid (by
      unfold stepS
      rw [hP.ends]
      dsimp only
      rw [if_neg (by have := hP.soon; omega), hP.says])
    have H := Lib.hid (And.intro h (And.intro hP (And.intro hgf (And.intro hapt (And.intro C (And.intro hL (And.intro hb hn)))))))
    clear h hP hgf hapt hpl hgp C Q hL hb hn
    go_enter Tryz.func24, Tryz.ntmps24
    go_wp2
    obtain ⟨Wq, hWq⟩ : ∃ Wq, Wq = w.drew := ⟨_, rfl⟩
    have hBq : Below w.heap.size w Wq := by rw [hWq]; exact ⟨rfl, rfl, rfl, Nat.le_refl _, fun _ _ => rfl⟩
    have hq := H.out.1.below H.out.2.2.2.2.1 hBq
    have hrq := H.out.2.1.row.below hBq H.out.2.1.row.lt
    have hSQ : Wq.cell? ⟨g, 1, none⟩ = some (.pointer (some ⟨gp, 0, none⟩)) ∧ Wq.cell? ⟨gp, 10, none⟩ = some (.int .i64 (n : Int)) ∧ Wq.cell? ⟨gp, 8, none⟩ = some (.int .i64 (k : Int)) := ⟨hq.cells.2.1, cell_of_row Wq _ 10 _ _ (0, 0) hrq, cell_of_row Wq _ 8 _ _ (0, 0) hrq⟩
    have HQ := Lib.hid (And.intro hBq (And.intro hq hrq))
    clear hq hrq hBq
    refine wp_region_noPanic ?_
    refine wp_region_held_drew (S := fun W => W.cell? ⟨g, 1, none⟩ = some (.pointer (some ⟨gp, 0, none⟩)) ∧ W.cell? ⟨gp, 10, none⟩ = some (.int .i64 (n : Int)) ∧ W.cell? ⟨gp, 8, none⟩ = some (.int .i64 (k : Int))) (by kernel_rfl) (by rw [← hWq]; exact hSQ) (fun _ => ?_)
    rw [← hWq]
    clear hWq c0 c1 p7 p10 p8
    refine take_at (i := 0) (d := some 14) (v := .pointer (some ⟨g, 0, none⟩)) rfl (by kernel_rfl) (by kernel_rfl) (by kernel_rfl) (fun _ _ _ h => h) (fun oi ho => ?_) hSQ ?_
    · obtain rfl := Option.some.inj ho
      exact Or.inl ⟨by rfl, fun wx hSw => by go_simp⟩
    simp only [Act.put, List.setIfInBounds_toArray, List.set_cons_zero, List.set_cons_succ]
    refine take_at (i := 1) (d := some 15) (v := .pointer (some ⟨g, 0, none⟩)) rfl (by kernel_rfl) (by kernel_rfl) (by kernel_rfl) (fun _ _ _ h => h) (fun oi ho => ?_) hSQ ?_
    · obtain rfl := Option.some.inj ho
      exact Or.inl ⟨by rfl, fun wx hSw => by go_simp⟩
    simp only [Act.put, List.setIfInBounds_toArray, List.set_cons_zero, List.set_cons_succ]
    refine take_at (i := 2) (d := some 16) (v := .pointer (some ⟨g, 1, none⟩)) rfl (by kernel_rfl) (by kernel_rfl) (by kernel_rfl) (fun _ _ _ h => h) (fun oi ho => ?_) hSQ ?_
    · obtain rfl := Option.some.inj ho
      exact Or.inl ⟨by rfl, fun wx hSw => by go_simp⟩
    simp only [Act.put, List.setIfInBounds_toArray, List.set_cons_zero, List.set_cons_succ]
    refine take_at (i := 3) (d := some 17) (v := .pointer (some ⟨gp, 0, none⟩)) rfl (by kernel_rfl) (by kernel_rfl) (by kernel_rfl) (fun _ _ _ h => h) (fun oi ho => ?_) hSQ ?_
    · obtain rfl := Option.some.inj ho
      exact Or.inl ⟨by rfl, fun wx hSw => by obtain ⟨x0, x1, x2⟩ := hSw; go_simp⟩
    simp only [Act.put, List.setIfInBounds_toArray, List.set_cons_zero, List.set_cons_succ]
    refine take_at (i := 4) (d := some 18) (v := .pointer (some ⟨gp, 0, none⟩)) rfl (by kernel_rfl) (by kernel_rfl) (by kernel_rfl) (fun _ _ _ h => h) (fun oi ho => ?_) hSQ ?_
    · obtain rfl := Option.some.inj ho
      exact Or.inl ⟨by rfl, fun wx hSw => by go_simp⟩
    simp only [Act.put, List.setIfInBounds_toArray, List.set_cons_zero, List.set_cons_succ]
    refine take_at (i := 5) (d := some 19) (v := .pointer (some ⟨gp, 10, none⟩)) rfl (by kernel_rfl) (by kernel_rfl) (by kernel_rfl) (fun _ _ _ h => h) (fun oi ho => ?_) hSQ ?_
    · obtain rfl := Option.some.inj ho
      exact Or.inl ⟨by rfl, fun wx hSw => by go_simp⟩
    simp only [Act.put, List.setIfInBounds_toArray, List.set_cons_zero, List.set_cons_succ]
    refine take_at (i := 6) (d := some 20) (v := .int .i64 (n : Int)) rfl (by kernel_rfl) (by kernel_rfl) (by kernel_rfl) (fun _ _ _ h => h) (fun oi ho => ?_) hSQ ?_
    · obtain rfl := Option.some.inj ho
      exact Or.inl ⟨by rfl, fun wx hSw => by obtain ⟨x0, x1, x2⟩ := hSw; go_simp⟩
    simp only [Act.put, List.setIfInBounds_toArray, List.set_cons_zero, List.set_cons_succ]
    refine take_at (i := 7) (d := some 21) (v := .pointer (some ⟨g, 0, none⟩)) rfl (by kernel_rfl) (by kernel_rfl) (by kernel_rfl) (fun _ _ _ h => h) (fun oi ho => ?_) hSQ ?_
    · obtain rfl := Option.some.inj ho
      exact Or.inl ⟨by rfl, fun wx hSw => by go_simp⟩
    simp only [Act.put, List.setIfInBounds_toArray, List.set_cons_zero, List.set_cons_succ]
    refine take_at (i := 8) (d := some 22) (v := .pointer (some ⟨g, 0, none⟩)) rfl (by kernel_rfl) (by kernel_rfl) (by kernel_rfl) (fun _ _ _ h => h) (fun oi ho => ?_) hSQ ?_
    · obtain rfl := Option.some.inj ho
      exact Or.inl ⟨by rfl, fun wx hSw => by go_simp⟩
    simp only [Act.put, List.setIfInBounds_toArray, List.set_cons_zero, List.set_cons_succ]
    refine take_at (i := 9) (d := some 23) (v := .pointer (some ⟨g, 1, none⟩)) rfl (by kernel_rfl) (by kernel_rfl) (by kernel_rfl) (fun _ _ _ h => h) (fun oi ho => ?_) hSQ ?_
    · obtain rfl := Option.some.inj ho
      exact Or.inl ⟨by rfl, fun wx hSw => by go_simp⟩
    simp only [Act.put, List.setIfInBounds_toArray, List.set_cons_zero, List.set_cons_succ]
    refine take_at (i := 10) (d := some 24) (v := .pointer (some ⟨gp, 0, none⟩)) rfl (by kernel_rfl) (by kernel_rfl) (by kernel_rfl) (fun _ _ _ h => h) (fun oi ho => ?_) hSQ ?_
    · obtain rfl := Option.some.inj ho
      exact Or.inl ⟨by rfl, fun wx hSw => by obtain ⟨x0, x1, x2⟩ := hSw; go_simp⟩
    simp only [Act.put, List.setIfInBounds_toArray, List.set_cons_zero, List.set_cons_succ]
    refine take_at (i := 11) (d := some 25) (v := .pointer (some ⟨gp, 0, none⟩)) rfl (by kernel_rfl) (by kernel_rfl) (by kernel_rfl) (fun _ _ _ h => h) (fun oi ho => ?_) hSQ ?_
    · obtain rfl := Option.some.inj ho
      exact Or.inl ⟨by rfl, fun wx hSw => by go_simp⟩
    simp only [Act.put, List.setIfInBounds_toArray, List.set_cons_zero, List.set_cons_succ]
    refine take_at (i := 12) (d := some 26) (v := .pointer (some ⟨gp, 0, none⟩)) rfl (by kernel_rfl) (by kernel_rfl) (by kernel_rfl) (fun _ _ _ h => h) (fun oi ho => ?_) hSQ ?_
    · obtain rfl := Option.some.inj ho
      exact Or.inl ⟨by rfl, fun wx hSw => by go_simp⟩
    simp only [Act.put, List.setIfInBounds_toArray, List.set_cons_zero, List.set_cons_succ]
    refine take_at (i := 13) (d := some 27) (v := .pointer (some ⟨gp, 8, none⟩)) rfl (by kernel_rfl) (by kernel_rfl) (by kernel_rfl) (fun _ _ _ h => h) (fun oi ho => ?_) hSQ ?_
    · obtain rfl := Option.some.inj ho
      exact Or.inl ⟨by rfl, fun wx hSw => by go_simp⟩
    simp only [Act.put, List.setIfInBounds_toArray, List.set_cons_zero, List.set_cons_succ]
    refine take_at (i := 14) (d := some 28) (v := .int .i64 (k : Int)) rfl (by kernel_rfl) (by kernel_rfl) (by kernel_rfl) (fun _ _ _ h => h) (fun oi ho => ?_) hSQ ?_
    · obtain rfl := Option.some.inj ho
      exact Or.inl ⟨by rfl, fun wx hSw => by obtain ⟨x0, x1, x2⟩ := hSw; go_simp⟩
    simp only [Act.put, List.setIfInBounds_toArray, List.set_cons_zero, List.set_cons_succ]
    refine take_at (i := 15) (d := some 29) (v := .int .i64 (en : Int)) rfl (by kernel_rfl) (by kernel_rfl) (by kernel_rfl) (fun _ _ _ h => h) (fun oi ho => ?_) hSQ ?_
    · obtain rfl := Option.some.inj ho
      exact Or.inl ⟨by rfl, fun wx hSw => by go_simp⟩
    simp only [Act.put, List.setIfInBounds_toArray, List.set_cons_zero, List.set_cons_succ]
    refine ready_value (i := 16) (d := some 3) (v := .int .i64 (en : Int)) (w' := Wq) rfl (by kernel_rfl) (fun oi ho => ?_) hSQ ?_
    · obtain rfl := Option.some.inj ho
      exact ⟨by rfl, by go_simp⟩
    simp only [Act.put, List.setIfInBounds_toArray, List.set_cons_zero, List.set_cons_succ]
    refine wpAnyH_done (by kernel_rfl) ?_ _
    refine NoPanic.normal ?_
    clear hSQ hw1
    have c0 : Wq.cell? ⟨g, 0, none⟩ = some v := HQ.out.2.1.cells.1
    by_cases hlt : L < en
    · have g1 : decide ((L : Int) < (en : Int)) = true := decide_eq_true (by omega)
      have g2 : decide (L < en) = true := decide_eq_true hlt
      have HMO : Hid (stepS st.buf = .more) := Lib.hid (by
        rw [HST.out]
        unfold bodyS
        dsimp only
        rw [if_pos (by rw [List.length_drop]; have := H.out.2.2.2.2.2.1; have := H.out.2.2.2.2.2.2.2; have := HEN.out; omega)])
      go_wp2
      go_ret
      exact ⟨false, rfl, fun h => by (cases h), fun _ => ⟨F, st, Moves.of_below HQ.out.1, next_of_more H.out.2.2.2.2.2.2.1 HMO.out, _, _, _, _, HQ.out.2.1⟩⟩
    have g1 : decide ((L : Int) < (en : Int)) = false := decide_eq_false (by omega)
    have g2 : decide (L < en) = false := decide_eq_false (by omega)
    have hge : en ≤ L := by omega
    have HRQ : Hid (stepS st.buf = .req { r with body := (st.buf.drop n).take k } (st.buf.drop en) ∧ en ≤ st.buf.length) := Lib.hid (by
      have hL := H.out.2.2.2.2.2.1
      have hE := HEN.out
      refine ⟨?_, by omega⟩
      rw [HST.out]
      unfold bodyS
      dsimp only
      rw [if_neg (by rw [List.length_drop]; omega), List.drop_drop, hE])
    clear hlt HST
    obtain ⟨V2, hs2, hV2⟩ := HQ.out.2.1.wait.toV.mid n en (by have := HEN.out; omega) HRQ.out.2
    rw [show en - n = k by have := HEN.out; omega] at hV2
    obtain ⟨y, hy⟩ : ∃ y, y = (st.buf.drop n).take k := ⟨_, rfl⟩
    rw [← hy] at hV2
    have HY := Lib.hid hy
    clear hy
    go_wp2
    obtain ⟨Wa, hWa⟩ : ∃ Wa, Wa = Wq.drew := ⟨_, rfl⟩
    have hBa : Below Wq.heap.size Wq Wa := by rw [hWa]; exact ⟨rfl, rfl, rfl, Nat.le_refl _, fun _ _ => rfl⟩
    have ha := HQ.out.2.1.below H.out.2.2.2.2.1 hBa
    have hra := HQ.out.2.2.below hBa HQ.out.2.2.lt
    have htx := (hV2.below hBa).text
    have p5 : Wa.cell? ⟨gp, 5, none⟩ = some (S []) := cell_of_row Wa _ 5 _ _ (0, 0) hra
    have pf5 : Wa.frozen? ⟨gp, 5, none⟩ = false := Row.frozen hra 5
    have hSQ : Wa.cell? ⟨g, 1, none⟩ = some (.pointer (some ⟨gp, 0, none⟩)) ∧ Wa.cell? ⟨gp, 10, none⟩ = some (.int .i64 (n : Int)) ∧ Wa.cell? ⟨g, 0, none⟩ = some v := ⟨ha.cells.2.1, cell_of_row Wa _ 10 _ _ (0, 0) hra, ha.cells.1⟩
    have hgg := H.out.2.2.2.1.1
    have hSR : (Wa.setCell ⟨gp, 5, none⟩ (S y)).cell? ⟨g, 1, none⟩ = some (.pointer (some ⟨gp, 0, none⟩)) ∧ (Wa.setCell ⟨gp, 5, none⟩ (S y)).cell? ⟨gp, 10, none⟩ = some (.int .i64 (n : Int)) ∧ (Wa.setCell ⟨gp, 5, none⟩ (S y)).cell? ⟨g, 0, none⟩ = some v := ⟨cell_of_row _ _ 1 _ _ (0, 0) (ha.row.other hgg), cell_of_row _ _ 10 _ _ (0, 0) (hra.set 5 (S y)), cell_of_row _ _ 0 _ _ (0, 0) (ha.row.other hgg)⟩
    have HA := Lib.hid (And.intro (HQ.out.1.trans (hBa.mono HQ.out.1.size)) (And.intro ha hra))
    clear ha hra hBa HQ hV2 c0 hgg
    refine wp_region_noPanic ?_
    refine wp_region_held_drew (S := fun W => W.cell? ⟨g, 1, none⟩ = some (.pointer (some ⟨gp, 0, none⟩)) ∧ W.cell? ⟨gp, 10, none⟩ = some (.int .i64 (n : Int)) ∧ W.cell? ⟨g, 0, none⟩ = some v) (by kernel_rfl) (by rw [← hWa]; exact hSQ) (fun _ => ?_)
    rw [← hWa]
    clear hWa
    refine take_at (i := 0) (d := some 37) (v := .pointer (some ⟨g, 0, none⟩)) rfl (by kernel_rfl) (by kernel_rfl) (by kernel_rfl) (fun _ _ _ h => h) (fun oi ho => ?_) hSQ ?_
    · obtain rfl := Option.some.inj ho
      exact Or.inl ⟨by rfl, fun wx hSw => by go_simp⟩
    simp only [Act.put, List.setIfInBounds_toArray, List.set_cons_zero, List.set_cons_succ]
    refine take_at (i := 1) (d := some 38) (v := .pointer (some ⟨g, 0, none⟩)) rfl (by kernel_rfl) (by kernel_rfl) (by kernel_rfl) (fun _ _ _ h => h) (fun oi ho => ?_) hSQ ?_
    · obtain rfl := Option.some.inj ho
      exact Or.inl ⟨by rfl, fun wx hSw => by go_simp⟩
    simp only [Act.put, List.setIfInBounds_toArray, List.set_cons_zero, List.set_cons_succ]
    refine take_at (i := 2) (d := some 39) (v := .pointer (some ⟨g, 1, none⟩)) rfl (by kernel_rfl) (by kernel_rfl) (by kernel_rfl) (fun _ _ _ h => h) (fun oi ho => ?_) hSQ ?_
    · obtain rfl := Option.some.inj ho
      exact Or.inl ⟨by rfl, fun wx hSw => by go_simp⟩
    simp only [Act.put, List.setIfInBounds_toArray, List.set_cons_zero, List.set_cons_succ]
    refine take_at (i := 3) (d := some 40) (v := .pointer (some ⟨gp, 0, none⟩)) rfl (by kernel_rfl) (by kernel_rfl) (by kernel_rfl) (fun _ _ _ h => h) (fun oi ho => ?_) hSQ ?_
    · obtain rfl := Option.some.inj ho
      exact Or.inl ⟨by rfl, fun wx hSw => by obtain ⟨x0, x1, x2⟩ := hSw; go_simp⟩
    simp only [Act.put, List.setIfInBounds_toArray, List.set_cons_zero, List.set_cons_succ]
    refine take_at (i := 4) (d := some 41) (v := .pointer (some ⟨g, 0, none⟩)) rfl (by kernel_rfl) (by kernel_rfl) (by kernel_rfl) (fun _ _ _ h => h) (fun oi ho => ?_) hSQ ?_
    · obtain rfl := Option.some.inj ho
      exact Or.inl ⟨by rfl, fun wx hSw => by go_simp⟩
    simp only [Act.put, List.setIfInBounds_toArray, List.set_cons_zero, List.set_cons_succ]
    refine take_at (i := 5) (d := some 42) (v := .pointer (some ⟨g, 0, none⟩)) rfl (by kernel_rfl) (by kernel_rfl) (by kernel_rfl) (fun _ _ _ h => h) (fun oi ho => ?_) hSQ ?_
    · obtain rfl := Option.some.inj ho
      exact Or.inl ⟨by rfl, fun wx hSw => by go_simp⟩
    simp only [Act.put, List.setIfInBounds_toArray, List.set_cons_zero, List.set_cons_succ]
    refine take_at (i := 6) (d := some 43) (v := .pointer (some ⟨g, 0, none⟩)) rfl (by kernel_rfl) (by kernel_rfl) (by kernel_rfl) (fun _ _ _ h => h) (fun oi ho => ?_) hSQ ?_
    · obtain rfl := Option.some.inj ho
      exact Or.inl ⟨by rfl, fun wx hSw => by go_simp⟩
    simp only [Act.put, List.setIfInBounds_toArray, List.set_cons_zero, List.set_cons_succ]
    refine take_at (i := 7) (d := some 44) (v := v) rfl (by kernel_rfl) (by kernel_rfl) (by kernel_rfl) (fun _ _ _ h => h) (fun oi ho => ?_) hSQ ?_
    · obtain rfl := Option.some.inj ho
      exact Or.inl ⟨by rfl, fun wx hSw => by obtain ⟨x0, x1, x2⟩ := hSw; go_simp⟩
    simp only [Act.put, List.setIfInBounds_toArray, List.set_cons_zero, List.set_cons_succ]
    refine take_at (i := 8) (d := some 45) (v := .pointer (some ⟨g, 0, none⟩)) rfl (by kernel_rfl) (by kernel_rfl) (by kernel_rfl) (fun _ _ _ h => h) (fun oi ho => ?_) hSQ ?_
    · obtain rfl := Option.some.inj ho
      exact Or.inl ⟨by rfl, fun wx hSw => by go_simp⟩
    simp only [Act.put, List.setIfInBounds_toArray, List.set_cons_zero, List.set_cons_succ]
    refine take_at (i := 9) (d := some 46) (v := .pointer (some ⟨g, 0, none⟩)) rfl (by kernel_rfl) (by kernel_rfl) (by kernel_rfl) (fun _ _ _ h => h) (fun oi ho => ?_) hSQ ?_
    · obtain rfl := Option.some.inj ho
      exact Or.inl ⟨by rfl, fun wx hSw => by go_simp⟩
    simp only [Act.put, List.setIfInBounds_toArray, List.set_cons_zero, List.set_cons_succ]
    refine take_at (i := 10) (d := some 47) (v := .pointer (some ⟨g, 1, none⟩)) rfl (by kernel_rfl) (by kernel_rfl) (by kernel_rfl) (fun _ _ _ h => h) (fun oi ho => ?_) hSQ ?_
    · obtain rfl := Option.some.inj ho
      exact Or.inl ⟨by rfl, fun wx hSw => by go_simp⟩
    simp only [Act.put, List.setIfInBounds_toArray, List.set_cons_zero, List.set_cons_succ]
    refine take_at (i := 11) (d := some 48) (v := .pointer (some ⟨gp, 0, none⟩)) rfl (by kernel_rfl) (by kernel_rfl) (by kernel_rfl) (fun _ _ _ h => h) (fun oi ho => ?_) hSQ ?_
    · obtain rfl := Option.some.inj ho
      exact Or.inl ⟨by rfl, fun wx hSw => by obtain ⟨x0, x1, x2⟩ := hSw; go_simp⟩
    simp only [Act.put, List.setIfInBounds_toArray, List.set_cons_zero, List.set_cons_succ]
    refine take_at (i := 12) (d := some 49) (v := .pointer (some ⟨gp, 0, none⟩)) rfl (by kernel_rfl) (by kernel_rfl) (by kernel_rfl) (fun _ _ _ h => h) (fun oi ho => ?_) hSQ ?_
    · obtain rfl := Option.some.inj ho
      exact Or.inl ⟨by rfl, fun wx hSw => by go_simp⟩
    simp only [Act.put, List.setIfInBounds_toArray, List.set_cons_zero, List.set_cons_succ]
    refine take_at (i := 13) (d := some 50) (v := .pointer (some ⟨gp, 10, none⟩)) rfl (by kernel_rfl) (by kernel_rfl) (by kernel_rfl) (fun _ _ _ h => h) (fun oi ho => ?_) hSQ ?_
    · obtain rfl := Option.some.inj ho
      exact Or.inl ⟨by rfl, fun wx hSw => by go_simp⟩
    simp only [Act.put, List.setIfInBounds_toArray, List.set_cons_zero, List.set_cons_succ]
    refine take_at (i := 14) (d := some 51) (v := .int .i64 (n : Int)) rfl (by kernel_rfl) (by kernel_rfl) (by kernel_rfl) (fun _ _ _ h => h) (fun oi ho => ?_) hSQ ?_
    · obtain rfl := Option.some.inj ho
      exact Or.inl ⟨by rfl, fun wx hSw => by obtain ⟨x0, x1, x2⟩ := hSw; go_simp⟩
    simp only [Act.put, List.setIfInBounds_toArray, List.set_cons_zero, List.set_cons_succ]
    refine take_at (i := 15) (d := some 52) (v := .int .i64 (en : Int)) rfl (by kernel_rfl) (by kernel_rfl) (by kernel_rfl) (fun _ _ _ h => h) (fun oi ho => ?_) hSQ ?_
    · obtain rfl := Option.some.inj ho
      exact Or.inl ⟨by rfl, fun wx hSw => by go_simp⟩
    simp only [Act.put, List.setIfInBounds_toArray, List.set_cons_zero, List.set_cons_succ]
    refine take_at (i := 16) (d := some 53) (v := V2) rfl (by kernel_rfl) (by kernel_rfl) (by kernel_rfl) (fun _ _ _ h => h) (fun oi ho => ?_) hSQ ?_
    · obtain rfl := Option.some.inj ho
      exact Or.inl ⟨by rfl, fun wx hSw => by go_simp⟩
    simp only [Act.put, List.setIfInBounds_toArray, List.set_cons_zero, List.set_cons_succ]
    refine ready_value (i := 17) (d := some 54) (v := S y) (w' := Wa) rfl (by kernel_rfl) (fun oi ho => ?_) hSQ ?_
    · obtain rfl := Option.some.inj ho
      exact ⟨by rfl, by go_simp⟩
    simp only [Act.put, List.setIfInBounds_toArray, List.set_cons_zero, List.set_cons_succ]
    refine take_at (i := 18) (d := some 55) (v := .pointer (some ⟨gp, 0, none⟩)) rfl (by kernel_rfl) (by kernel_rfl) (by kernel_rfl) (fun _ _ _ h => h) (fun oi ho => ?_) hSQ ?_
    · obtain rfl := Option.some.inj ho
      exact Or.inl ⟨by rfl, fun wx hSw => by go_simp⟩
    simp only [Act.put, List.setIfInBounds_toArray, List.set_cons_zero, List.set_cons_succ]
    refine take_at (i := 19) (d := some 56) (v := .pointer (some ⟨gp, 0, none⟩)) rfl (by kernel_rfl) (by kernel_rfl) (by kernel_rfl) (fun _ _ _ h => h) (fun oi ho => ?_) hSQ ?_
    · obtain rfl := Option.some.inj ho
      exact Or.inl ⟨by rfl, fun wx hSw => by go_simp⟩
    simp only [Act.put, List.setIfInBounds_toArray, List.set_cons_zero, List.set_cons_succ]
    refine take_at (i := 20) (d := some 57) (v := .pointer (some ⟨gp, 0, none⟩)) rfl (by kernel_rfl) (by kernel_rfl) (by kernel_rfl) (fun _ _ _ h => h) (fun oi ho => ?_) hSQ ?_
    · obtain rfl := Option.some.inj ho
      exact Or.inl ⟨by rfl, fun wx hSw => by go_simp⟩
    simp only [Act.put, List.setIfInBounds_toArray, List.set_cons_zero, List.set_cons_succ]
    refine take_at (i := 21) (d := some 58) (v := .pointer (some ⟨gp, 5, none⟩)) rfl (by kernel_rfl) (by kernel_rfl) (by kernel_rfl) (fun _ _ _ h => h) (fun oi ho => ?_) hSQ ?_
    · obtain rfl := Option.some.inj ho
      exact Or.inl ⟨by rfl, fun wx hSw => by go_simp⟩
    simp only [Act.put, List.setIfInBounds_toArray, List.set_cons_zero, List.set_cons_succ]
    refine ready_skip (i := 22) (d := none) (w' := Wa.setCell ⟨gp, 5, none⟩ (S y)) rfl (by kernel_rfl) (fun oi ho => ?_) hSR ?_
    · obtain rfl := Option.some.inj ho
      exact ⟨by rfl, by go_simp⟩
    simp only [Act.put]
    refine wpAnyH_done (by kernel_rfl) ?_ _
    refine NoPanic.normal ?_
    have k1 : (Wa.setCell ⟨gp, 5, none⟩ (S y)).cell? ⟨g, 1, none⟩ = some (.pointer (some ⟨gp, 0, none⟩)) := hSR.1
    have k10 : (Wa.setCell ⟨gp, 5, none⟩ (S y)).cell? ⟨gp, 10, none⟩ = some (.int .i64 (n : Int)) := hSR.2.1
    have kf10 : (Wa.setCell ⟨gp, 5, none⟩ (S y)).frozen? ⟨gp, 10, none⟩ = false := Row.frozen (HA.out.2.2.set 5 (S y)) 10
    clear hSQ hSR htx hs2 p5 pf5
    go_wp2
    go_ret
    obtain ⟨hB, ha, hra⟩ := HA.out
    obtain ⟨hgp1, hgp2⟩ := H.out.2.2.2.1
    refine ⟨true, rfl, fun _ => ⟨r, V, gf, ⟨y, false, k, .pointer none, en, ?_, (ha.row.other hgp1).other hgp1, ?_, (hra.set 5 (S y)).set 10 (.int .i64 (en : Int)), ?_, HRQ.out.2, by rw [HY.out]; exact HRQ.out.1⟩, H.out.2.2.1, hgp1, hgp2⟩, fun h => by (cases h)⟩
    · have hFg : F gp := (H.out.1.foot gp).2 (.inr (.inr H.out.2.1.gp_in))
      refine ((Moves.of_below hB).trans ((moves_cell hFg 5 (S y)).trans (moves_cell hFg 10 (.int .i64 (en : Int))))) |> fun hm => ⟨hm.os, hm.tape, hm.output, hm.size, fun j hj => ?_, hm.rest⟩
      rcases hj with rfl | hj
      · exact .inl H.out.1.lt.1
      · exact .inl ((H.out.1.foot j).2 (.inr (.inl hj)))
    · exact ha.wait.same fun j hj => by
        rw [Below.heap_setCell _ _ _ _ (show j ≠ gp from (hgp2 j hj).2), Below.heap_setCell _ _ _ _ (show j ≠ gp from (hgp2 j hj).2)]
    · refine (H.out.2.1.flds.below hB).same fun hne => ?_
      have hx := (H.out.2.1.gf_in.resolve_left hne).2
      rw [Below.heap_setCell _ _ _ _ (show gf ≠ gp from hx), Below.heap_setCell _ _ _ _ (show gf ≠ gp from hx)]
end
end Go.Proofs.YtplajlccnnbifaaGreatDoor
/- The landed parser's Next walked. (mkrt13.py writes it.) -/
namespace Go.Proofs.YtplajlccnnbifaaGreatDoor
open Go.RowKit
attribute [local go_sem] store_one S_match S_store eguard_BN nguard_BN

theorem put7_block {W : World} {b k : Nat} (h : k ≠ b) (v0 v1 v2 v3 v4 v5 v6 : Value) : (put7 W b v0 v1 v2 v3 v4 v5 v6).heap[k]? = W.heap[k]? := by
  unfold put7
  rw [Below.heap_setCell _ _ _ _ h, Below.heap_setCell _ _ _ _ h, Below.heap_setCell _ _ _ _ h, Below.heap_setCell _ _ _ _ h, Below.heap_setCell _ _ _ _ h, Below.heap_setCell _ _ _ _ h, Below.heap_setCell _ _ _ _ h]
theorem set_os (W : World) (p : Addr) (v : Value) : (W.setCell p v).os = W.os := rfl
theorem set_tape (W : World) (p : Addr) (v : Value) : (W.setCell p v).tape = W.tape := rfl
theorem set_output (W : World) (p : Addr) (v : Value) : (W.setCell p v).output = W.output := rfl
theorem put7_os (W : World) (b : Nat) (v0 v1 v2 v3 v4 v5 v6 : Value) : (put7 W b v0 v1 v2 v3 v4 v5 v6).os = W.os := by unfold put7; rw [set_os, set_os, set_os, set_os, set_os, set_os, set_os]
theorem put7_tape (W : World) (b : Nat) (v0 v1 v2 v3 v4 v5 v6 : Value) : (put7 W b v0 v1 v2 v3 v4 v5 v6).tape = W.tape := by unfold put7; rw [set_tape, set_tape, set_tape, set_tape, set_tape, set_tape, set_tape]
theorem put7_output (W : World) (b : Nat) (v0 v1 v2 v3 v4 v5 v6 : Value) : (put7 W b v0 v1 v2 v3 v4 v5 v6).output = W.output := by unfold put7; rw [set_output, set_output, set_output, set_output, set_output, set_output, set_output]
theorem put7_size (W : World) (b : Nat) (v0 v1 v2 v3 v4 v5 v6 : Value) : (put7 W b v0 v1 v2 v3 v4 v5 v6).heap.size = W.heap.size := by unfold put7; simp [World.setCell]
section
variable {RC : World → (Nat → Prop) → Nat → Cst → Prop} {w : World} {F : Nat → Prop} {g : Nat} {st : PSt}
theorem RP0.same {w' : World} (C : ChunkI RC) (h : RP0 RC w F g st) (hs : w.heap.size ≤ w'.heap.size) (hb : ∀ k, F k → w'.heap[k]? = w.heap[k]?) : RP0 RC w' F g st := by
  obtain ⟨v, ow, X, nv, h⟩ := h
  exact ⟨v, ow, X, nv, h.same C hs hb⟩
theorem RP0.lt (h : RP0 RC w F g st) : F g ∧ ∀ k, F k → k < w.heap.size := by
  obtain ⟨v, ow, X, nv, h⟩ := h
  exact h.lt
/-- A new block, then what moves, then the new block's cells. -/
theorem moves_around {F' : Nat → Prop} {W0 W : World} {b : Nat} (hB : Below w.heap.size w W0) (hb : b = w.heap.size) (hm : Moves F F' W0 W) (v0 v1 v2 v3 v4 v5 v6 : Value) : Moves F F' w (put7 W b v0 v1 v2 v3 v4 v5 v6) := by
  have h1 := (Moves.of_below (F := F) hB).trans hm
  refine h1.far ⟨put7_os .., put7_tape .., put7_output .., by rw [put7_size]; exact Nat.le_refl _, fun j hj => put7_block (by omega) ..⟩
theorem next_of_req {r : Rq} {x : List UInt8} (hb : st.bad = 0) (h : stepS st.buf = .req r x) : st.next = (some r, ⟨x, 0⟩) := by unfold PSt.next; rw [if_pos hb, h]
set_option maxRecDepth 100000 in
set_option maxHeartbeats 2000000 in
theorem pnext_any (C : ChunkI RC) (Q : ChunkQ RC) (h : RP0 RC w F g st) (hl : st.buf.length ≤ 100000) (hm : MaxAt w) :
    Calls Tryz.prog 9 #[.pointer (some ⟨g, 0, none⟩)] w fun e w' => ∃ F', RP0 RC w' F' g st.next.2 ∧ Moves F F' w w' ∧ NextV st.next.1 e w w' F F' := by
  obtain ⟨b2, hb2⟩ : ∃ b, b = w.heap.size := ⟨_, rfl⟩
  obtain ⟨W0, hW0⟩ : ∃ W, W = w.alloc (.cells zeroR 27) := ⟨_, rfl⟩
  have hB0 : Below w.heap.size w W0 := by rw [hW0]; exact (Below.refl _ w).alloc (Nat.le_refl _) _
  have hr0 : Row W0 b2 zeroR 27 := by rw [hW0, hb2]; exact row_new _ _ _
  have hW0' : W0 = w.alloc (.cells #[.string ⟨#[]⟩, .string ⟨#[]⟩, .string ⟨#[]⟩, .int .i64 0, .slice none 0 0, .string ⟨#[]⟩, .bool false] 27) := hW0
  have hltF := h.lt.2
  have hrh := readhead_any C (h.below C hB0) hl (hm.below hB0)
  have HRH := Lib.hid hrh
  have hs0 : b2 < W0.heap.size := hr0.lt
  have H0 := Lib.hid (And.intro hB0 (And.intro hr0 (And.intro hltF (And.intro C (And.intro Q (And.intro hl hs0))))))
  have HB2 := Lib.hid hb2
  have hfar : Hid (∀ (W : World) (F' : Nat → Prop), Moves F F' W0 W → Row W b2 zeroR 27 ∧ ∀ k, F' k → k ≠ b2) := Lib.hid fun W F' hmv => ⟨hr0.moves hmv (fun hf => by have := hltF b2 hf; omega), fun k hk e => by
    rcases hmv.foot k hk with hf | hf
    · have := hltF k hf; omega
    · omega⟩
  -- nothing is told
  have hnone : Hid (∀ (W : World) (F' : Nat → Prop) (st' : PSt) (tmps : Array Value), Moves F F' W0 W → RP0 RC W F' g st' → st.next = (none, st') → tmps.getD 2 undef = .pointer (some ⟨b2, 0, none⟩) → tmps.getD 3 undef = .bool false →
      bodyPost Tryz.prog Tryz.f9 (fun e w' => ∃ F', RP0 RC w' F' g st.next.2 ∧ Moves F F' w w' ∧ NextV st.next.1 e w w' F F') .ret { tmps := tmps, defers := [] } (put7 W b2 (.string ⟨#[]⟩) (.string ⟨#[]⟩) (.string ⟨#[]⟩) (.int .i64 0) (.slice none 0 0) (.string ⟨#[]⟩) (.bool false))) := Lib.hid fun W F' st' tmps hmv hp hn h2 h3 => by
    obtain ⟨hr, hf⟩ := hfar.out W F' hmv
    refine bodyPost_ret (req_end rfl _ _ b2 _ h2 (put7_row hr _ _ _ _ _ _ _) rfl) rfl ?_
    rw [hn]
    exact ⟨F', hp.same C (by rw [put7_size]; exact Nat.le_refl _) (fun k hk => put7_block (hf k hk) ..), moves_around hB0 hb2 hmv _ _ _ _ _ _ _, by rw [h3]; rfl⟩
  clear hr0 hB0 hrh h hl hm hltF C Q hs0
  go_enter Tryz.func9, Tryz.ntmps9
  go_wp2_with fail
  rw [← hW0', ← hb2]
  clear hW0' hW0 hb2
  refine HRH.out.mono ?_
  rintro e W1 ⟨b, rfl, F1, hM1, ht1, hf1⟩
  have H1 := Lib.hid (And.intro hM1 (And.intro ht1 hf1))
  clear hM1 ht1 hf1 HRH
  cases b with
  | false =>
    obtain ⟨st', hn, hp⟩ := H1.out.2.2 rfl
    have HP := Lib.hid (And.intro hn hp)
    have hr2 := (hfar.out W1 F1 H1.out.1).1
    clear hn hp
    have d0 : W1.cell? ⟨b2, 0, none⟩ = some (.string ⟨#[]⟩) := cell_of_row W1 _ 0 _ 27 (0, 0) hr2
    have df0 : W1.frozen? ⟨b2, 0, none⟩ = false := Row.frozen hr2 0
    have d1 : W1.cell? ⟨b2, 1, none⟩ = some (.string ⟨#[]⟩) := cell_of_row W1 _ 1 _ 27 (0, 0) hr2
    have df1 : W1.frozen? ⟨b2, 1, none⟩ = false := Row.frozen hr2 1
    have d2 : W1.cell? ⟨b2, 2, none⟩ = some (.string ⟨#[]⟩) := cell_of_row W1 _ 2 _ 27 (0, 0) hr2
    have df2 : W1.frozen? ⟨b2, 2, none⟩ = false := Row.frozen hr2 2
    have d3 : W1.cell? ⟨b2, 3, none⟩ = some (.int .i64 0) := cell_of_row W1 _ 3 _ 27 (0, 0) hr2
    have df3 : W1.frozen? ⟨b2, 3, none⟩ = false := Row.frozen hr2 3
    have d4 : W1.cell? ⟨b2, 4, none⟩ = some (.slice none 0 0) := cell_of_row W1 _ 4 _ 27 (0, 0) hr2
    have df4 : W1.frozen? ⟨b2, 4, none⟩ = false := Row.frozen hr2 4
    have d5 : W1.cell? ⟨b2, 5, none⟩ = some (.string ⟨#[]⟩) := cell_of_row W1 _ 5 _ 27 (0, 0) hr2
    have df5 : W1.frozen? ⟨b2, 5, none⟩ = false := Row.frozen hr2 5
    have d6 : W1.cell? ⟨b2, 6, none⟩ = some (.bool false) := cell_of_row W1 _ 6 _ 27 (0, 0) hr2
    have df6 : W1.frozen? ⟨b2, 6, none⟩ = false := Row.frozen hr2 6
    clear hr2
    go_wp2
    exact hnone.out W1 F1 st' _ H1.out.1 HP.out.2 HP.out.1 rfl rfl
  | true =>
  obtain ⟨hb, v, ow, X, gp, hP⟩ := H1.out.2.1 rfl
  have hrb := readbody_any H0.out.2.2.2.1 H0.out.2.2.2.2.1 hP hb H0.out.2.2.2.2.2.1
  have HRB := Lib.hid hrb
  have HP := Lib.hid (And.intro hb hP)
  clear hrb hb hP
  go_wp2_with fail
  refine HRB.out.mono ?_
  rintro e W2 ⟨b, rfl, ht2, hf2⟩
  have H2 := Lib.hid (And.intro ht2 hf2)
  clear ht2 hf2 HRB
  cases b with
  | false =>
    obtain ⟨F2, st', hM2, hn, hp⟩ := H2.out.2 rfl
    have H3 := Lib.hid (And.intro hn (And.intro hp (H1.out.1.trans hM2)))
    have hr2 := (hfar.out W2 F2 H3.out.2.2).1
    clear hn hp hM2
    have d0 : W2.cell? ⟨b2, 0, none⟩ = some (.string ⟨#[]⟩) := cell_of_row W2 _ 0 _ 27 (0, 0) hr2
    have df0 : W2.frozen? ⟨b2, 0, none⟩ = false := Row.frozen hr2 0
    have d1 : W2.cell? ⟨b2, 1, none⟩ = some (.string ⟨#[]⟩) := cell_of_row W2 _ 1 _ 27 (0, 0) hr2
    have df1 : W2.frozen? ⟨b2, 1, none⟩ = false := Row.frozen hr2 1
    have d2 : W2.cell? ⟨b2, 2, none⟩ = some (.string ⟨#[]⟩) := cell_of_row W2 _ 2 _ 27 (0, 0) hr2
    have df2 : W2.frozen? ⟨b2, 2, none⟩ = false := Row.frozen hr2 2
    have d3 : W2.cell? ⟨b2, 3, none⟩ = some (.int .i64 0) := cell_of_row W2 _ 3 _ 27 (0, 0) hr2
    have df3 : W2.frozen? ⟨b2, 3, none⟩ = false := Row.frozen hr2 3
    have d4 : W2.cell? ⟨b2, 4, none⟩ = some (.slice none 0 0) := cell_of_row W2 _ 4 _ 27 (0, 0) hr2
    have df4 : W2.frozen? ⟨b2, 4, none⟩ = false := Row.frozen hr2 4
    have d5 : W2.cell? ⟨b2, 5, none⟩ = some (.string ⟨#[]⟩) := cell_of_row W2 _ 5 _ 27 (0, 0) hr2
    have df5 : W2.frozen? ⟨b2, 5, none⟩ = false := Row.frozen hr2 5
    have d6 : W2.cell? ⟨b2, 6, none⟩ = some (.bool false) := cell_of_row W2 _ 6 _ 27 (0, 0) hr2
    have df6 : W2.frozen? ⟨b2, 6, none⟩ = false := Row.frozen hr2 6
    clear hr2
    go_wp2
    exact hnone.out W2 F2 st' _ H3.out.2.2 H3.out.2.1 H3.out.1 rfl rfl
  | true =>
  obtain ⟨r, V, gf, ⟨body, ic, sz, cp, rd, hM2, hrg, hwt, hrp, hfl, hrd, hst⟩, hgf, hggp, hap⟩ := H2.out.1 rfl
  obtain ⟨fa, fc, rfl⟩ := hfl.form
  have HM := Lib.hid (H1.out.1.trans hM2)
  have HG := Lib.hid (And.intro hgf (And.intro hggp (And.intro hap (And.intro hrd hst))))
  have hr2 := (hfar.out W2 _ HM.out).1
  have c1 : W2.cell? ⟨g, 1, none⟩ = some (.pointer (some ⟨gp, 0, none⟩)) := cell_of_row W2 _ 1 _ _ (0, 0) hrg
  have hrpx := hrp
  unfold pdCells at hrpx
  have p0 : W2.cell? ⟨gp, 0, none⟩ = some (S r.m) := cell_of_row W2 _ 0 _ 57 (0, 0) hrpx
  have p1 : W2.cell? ⟨gp, 1, none⟩ = some (S r.p) := cell_of_row W2 _ 1 _ 57 (0, 0) hrpx
  have p2 : W2.cell? ⟨gp, 2, none⟩ = some (S r.q) := cell_of_row W2 _ 2 _ 57 (0, 0) hrpx
  have p3 : W2.cell? ⟨gp, 3, none⟩ = some (.int .i64 (r.v : Int)) := cell_of_row W2 _ 3 _ 57 (0, 0) hrpx
  have p4 : W2.cell? ⟨gp, 4, none⟩ = some (.slice fa r.fs.length fc) := cell_of_row W2 _ 4 _ 57 (0, 0) hrpx
  have p5 : W2.cell? ⟨gp, 5, none⟩ = some (S body) := cell_of_row W2 _ 5 _ 57 (0, 0) hrpx
  have p6 : W2.cell? ⟨gp, 6, none⟩ = some (.bool r.cl) := cell_of_row W2 _ 6 _ 57 (0, 0) hrpx
  obtain ⟨b4, hb4⟩ : ∃ b, b = W2.heap.size := ⟨_, rfl⟩
  obtain ⟨W3, hW3⟩ : ∃ W, W = W2.alloc (.cells #[S r.m, S r.p, S r.q, .int .i64 (r.v : Int), .slice fa r.fs.length fc, S body, .bool r.cl] 27) := ⟨_, rfl⟩
  have hB3 : Below W2.heap.size W2 W3 := by rw [hW3]; exact (Below.refl _ W2).alloc (Nat.le_refl _) _
  have hr4 : Row W3 b4 #[S r.m, S r.p, S r.q, .int .i64 (r.v : Int), .slice fa r.fs.length fc, S body, .bool r.cl] 27 := by rw [hW3, hb4]; exact row_new _ _ _
  have hg2 : g < W2.heap.size := hrg.lt
  have hgp2 : gp < W2.heap.size := hrp.lt
  have hb22 : b2 < W2.heap.size := hr2.lt
  have hgb2 : g ≠ b2 := fun e => (hfar.out W2 _ HM.out).2 g (.inl rfl) e
  have hgfl : r.fs = [] ∨ gf < W2.heap.size := by
    by_cases hne : r.fs = []
    · exact .inl hne
    · obtain ⟨f, hf⟩ := List.exists_mem_of_ne_nil _ hne
      obtain ⟨i, hi⟩ := List.getElem?_of_mem hf
      exact .inr (World.block_lt_of_cell? W2 _ (hfl.cell i f hi).1)
  go_wp2
  rw [← hW3, ← hb4]
  clear p0 p1 p2 p3 p4 p5 p6 c1 hrpx
  obtain ⟨Wq, hWq⟩ : ∃ Wq, Wq = W3.drew := ⟨_, rfl⟩
  have hBq : Below W2.heap.size W2 Wq := by rw [hWq]; exact hB3.trans ⟨rfl, rfl, rfl, Nat.le_refl _, fun _ _ => rfl⟩
  have hB3q : Below W3.heap.size W3 Wq := by rw [hWq]; exact ⟨rfl, rfl, rfl, Nat.le_refl _, fun _ _ => rfl⟩
  have hgq := hrg.below hBq hrg.lt
  have hpq := hrp.below hBq hrp.lt
  have hwq := hwt.below hBq
  have HR := Lib.hid (And.intro (hr4.below hB3q hr4.lt) (And.intro (hr2.below hBq hr2.lt) (And.intro hgq (And.intro hwq (And.intro (hfl.below hBq) (And.intro hBq hgfl))))))
  have HN := Lib.hid (And.intro hg2 (And.intro hgp2 (And.intro hb22 (And.intro hgb2 hb4))))
  obtain ⟨sa, sc, hsl, hcut⟩ := hwq.cut rd hrd
  obtain ⟨m, hm⟩ : ∃ m, m = st.buf.length - rd := ⟨_, rfl⟩
  rw [← hm] at hsl hcut
  have HC := Lib.hid (And.intro hcut hm)
  have l0 : Wq.cell? ⟨g, 0, none⟩ = some v := cell_of_row Wq _ 0 _ _ (0, 0) hgq
  have lf0 : Wq.frozen? ⟨g, 0, none⟩ = false := Row.frozen hgq 0
  obtain ⟨va, vc, hvf, _⟩ := hwq.form
  have hSQ : Wq.cell? ⟨g, 1, none⟩ = some (.pointer (some ⟨gp, 0, none⟩)) ∧ Wq.cell? ⟨gp, 10, none⟩ = some (.int .i64 (rd : Int)) := ⟨cell_of_row Wq _ 1 _ _ (0, 0) hgq, cell_of_row Wq _ 10 _ _ (0, 0) hpq⟩
  have hSR : (Wq.setCell ⟨g, 0, none⟩ (.slice sa m sc)).cell? ⟨g, 1, none⟩ = some (.pointer (some ⟨gp, 0, none⟩)) ∧ (Wq.setCell ⟨g, 0, none⟩ (.slice sa m sc)).cell? ⟨gp, 10, none⟩ = some (.int .i64 (rd : Int)) := ⟨cell_of_row _ _ 1 _ _ (0, 0) (hgq.set 0 (.slice sa m sc)), cell_of_row _ _ 10 _ _ (0, 0) (hpq.other (show gp ≠ g from fun e => HG.out.2.1 e.symm))⟩
  clear hM2 hrg hwt hrp hfl hrd hst hgf hggp hap hr2 hW3 hB3 hr4 hgq hpq hwq hBq hB3q hcut hm hvf hg2 hgp2 hb22 hgb2 hb4 hgfl
  refine wp_region_noPanic ?_
  refine wp_region_held_drew (S := fun W => W.cell? ⟨g, 1, none⟩ = some (.pointer (some ⟨gp, 0, none⟩)) ∧ W.cell? ⟨gp, 10, none⟩ = some (.int .i64 (rd : Int))) (by kernel_rfl) (by rw [← hWq]; exact hSQ) (fun _ => ?_)
  rw [← hWq]
  clear hWq
  refine take_at (i := 0) (d := some 26) (v := .pointer (some ⟨g, 0, none⟩)) rfl (by kernel_rfl) (by kernel_rfl) (by kernel_rfl) (fun _ _ _ h => h) (fun oi ho => ?_) hSQ ?_
  · obtain rfl := Option.some.inj ho
    exact Or.inl ⟨by rfl, fun wx hSw => by go_simp⟩
  simp only [Act.put, List.setIfInBounds_toArray, List.set_cons_zero, List.set_cons_succ]
  refine take_at (i := 1) (d := some 27) (v := .pointer (some ⟨g, 0, none⟩)) rfl (by kernel_rfl) (by kernel_rfl) (by kernel_rfl) (fun _ _ _ h => h) (fun oi ho => ?_) hSQ ?_
  · obtain rfl := Option.some.inj ho
    exact Or.inl ⟨by rfl, fun wx hSw => by go_simp⟩
  simp only [Act.put, List.setIfInBounds_toArray, List.set_cons_zero, List.set_cons_succ]
  refine take_at (i := 2) (d := some 28) (v := .pointer (some ⟨g, 0, none⟩)) rfl (by kernel_rfl) (by kernel_rfl) (by kernel_rfl) (fun _ _ _ h => h) (fun oi ho => ?_) hSQ ?_
  · obtain rfl := Option.some.inj ho
    exact Or.inl ⟨by rfl, fun wx hSw => by go_simp⟩
  simp only [Act.put, List.setIfInBounds_toArray, List.set_cons_zero, List.set_cons_succ]
  refine take_at (i := 3) (d := some 29) (v := .pointer (some ⟨g, 0, none⟩)) rfl (by kernel_rfl) (by kernel_rfl) (by kernel_rfl) (fun _ _ _ h => h) (fun oi ho => ?_) hSQ ?_
  · obtain rfl := Option.some.inj ho
    exact Or.inl ⟨by rfl, fun wx hSw => by go_simp⟩
  simp only [Act.put, List.setIfInBounds_toArray, List.set_cons_zero, List.set_cons_succ]
  refine take_at (i := 5) (d := some 31) (v := .pointer (some ⟨g, 0, none⟩)) rfl (by kernel_rfl) (by kernel_rfl) (by kernel_rfl) (fun _ _ _ h => h) (fun oi ho => ?_) hSQ ?_
  · obtain rfl := Option.some.inj ho
    exact Or.inl ⟨by rfl, fun wx hSw => by go_simp⟩
  simp only [Act.put, List.setIfInBounds_toArray, List.set_cons_zero, List.set_cons_succ]
  refine take_at (i := 6) (d := some 32) (v := .pointer (some ⟨g, 0, none⟩)) rfl (by kernel_rfl) (by kernel_rfl) (by kernel_rfl) (fun _ _ _ h => h) (fun oi ho => ?_) hSQ ?_
  · obtain rfl := Option.some.inj ho
    exact Or.inl ⟨by rfl, fun wx hSw => by go_simp⟩
  simp only [Act.put, List.setIfInBounds_toArray, List.set_cons_zero, List.set_cons_succ]
  refine take_at (i := 7) (d := some 33) (v := .pointer (some ⟨g, 1, none⟩)) rfl (by kernel_rfl) (by kernel_rfl) (by kernel_rfl) (fun _ _ _ h => h) (fun oi ho => ?_) hSQ ?_
  · obtain rfl := Option.some.inj ho
    exact Or.inl ⟨by rfl, fun wx hSw => by go_simp⟩
  simp only [Act.put, List.setIfInBounds_toArray, List.set_cons_zero, List.set_cons_succ]
  refine take_at (i := 8) (d := some 34) (v := .pointer (some ⟨gp, 0, none⟩)) rfl (by kernel_rfl) (by kernel_rfl) (by kernel_rfl) (fun _ _ _ h => h) (fun oi ho => ?_) hSQ ?_
  · obtain rfl := Option.some.inj ho
    exact Or.inl ⟨by rfl, fun wx hSw => by obtain ⟨x0, x1⟩ := hSw; go_simp⟩
  simp only [Act.put, List.setIfInBounds_toArray, List.set_cons_zero, List.set_cons_succ]
  refine take_at (i := 9) (d := some 35) (v := .pointer (some ⟨gp, 0, none⟩)) rfl (by kernel_rfl) (by kernel_rfl) (by kernel_rfl) (fun _ _ _ h => h) (fun oi ho => ?_) hSQ ?_
  · obtain rfl := Option.some.inj ho
    exact Or.inl ⟨by rfl, fun wx hSw => by go_simp⟩
  simp only [Act.put, List.setIfInBounds_toArray, List.set_cons_zero, List.set_cons_succ]
  refine take_at (i := 10) (d := some 36) (v := .pointer (some ⟨gp, 10, none⟩)) rfl (by kernel_rfl) (by kernel_rfl) (by kernel_rfl) (fun _ _ _ h => h) (fun oi ho => ?_) hSQ ?_
  · obtain rfl := Option.some.inj ho
    exact Or.inl ⟨by rfl, fun wx hSw => by go_simp⟩
  simp only [Act.put, List.setIfInBounds_toArray, List.set_cons_zero, List.set_cons_succ]
  refine take_at (i := 11) (d := some 37) (v := .int .i64 (rd : Int)) rfl (by kernel_rfl) (by kernel_rfl) (by kernel_rfl) (fun _ _ _ h => h) (fun oi ho => ?_) hSQ ?_
  · obtain rfl := Option.some.inj ho
    exact Or.inl ⟨by rfl, fun wx hSw => by obtain ⟨x0, x1⟩ := hSw; go_simp⟩
  simp only [Act.put, List.setIfInBounds_toArray, List.set_cons_zero, List.set_cons_succ]
  refine ready_value (i := 4) (d := some 30) (v := v) (w' := Wq) rfl (by kernel_rfl) (fun oi ho => ?_) hSQ ?_
  · obtain rfl := Option.some.inj ho
    exact ⟨by rfl, by go_simp⟩
  simp only [Act.put, List.setIfInBounds_toArray, List.set_cons_zero, List.set_cons_succ]
  refine ready_value (i := 12) (d := some 38) (v := .slice sa m sc) (w' := Wq) rfl (by kernel_rfl) (fun oi ho => ?_) hSQ ?_
  · obtain rfl := Option.some.inj ho
    exact ⟨by rfl, by go_simp⟩
  simp only [Act.put, List.setIfInBounds_toArray, List.set_cons_zero, List.set_cons_succ]
  refine take_at (i := 13) (d := some 39) (v := .pointer (some ⟨g, 0, none⟩)) rfl (by kernel_rfl) (by kernel_rfl) (by kernel_rfl) (fun _ _ _ h => h) (fun oi ho => ?_) hSQ ?_
  · obtain rfl := Option.some.inj ho
    exact Or.inl ⟨by rfl, fun wx hSw => by go_simp⟩
  simp only [Act.put, List.setIfInBounds_toArray, List.set_cons_zero, List.set_cons_succ]
  refine take_at (i := 14) (d := some 40) (v := .pointer (some ⟨g, 0, none⟩)) rfl (by kernel_rfl) (by kernel_rfl) (by kernel_rfl) (fun _ _ _ h => h) (fun oi ho => ?_) hSQ ?_
  · obtain rfl := Option.some.inj ho
    exact Or.inl ⟨by rfl, fun wx hSw => by go_simp⟩
  simp only [Act.put, List.setIfInBounds_toArray, List.set_cons_zero, List.set_cons_succ]
  refine ready_skip (i := 15) (d := none) (w' := Wq.setCell ⟨g, 0, none⟩ (.slice sa m sc)) rfl (by kernel_rfl) (fun oi ho => ?_) hSR ?_
  · obtain rfl := Option.some.inj ho
    exact ⟨by rfl, by go_simp⟩
  simp only [Act.put]
  refine wpAnyH_done (by kernel_rfl) ?_ _
  refine NoPanic.normal ?_
  clear hSQ hSR hsl l0 lf0
  obtain ⟨W4, hW4⟩ : ∃ W, W = Wq.setCell ⟨g, 0, none⟩ (.slice sa m sc) := ⟨_, rfl⟩
  try rw [← hW4]
  have hgr : Row W4 g #[.slice sa m sc, .pointer (some ⟨gp, 0, none⟩), .int .i64 (st.bad : Int)] 39 := by rw [hW4]; exact HR.out.2.2.1.set 0 _
  have h4r : Row W4 b4 #[S r.m, S r.p, S r.q, .int .i64 (r.v : Int), .slice fa r.fs.length fc, S body, .bool r.cl] 27 := by rw [hW4]; exact HR.out.1.other (show b4 ≠ g by have := HN.out; omega)
  have h2r : Row W4 b2 zeroR 27 := by rw [hW4]; exact HR.out.2.1.other (show b2 ≠ g by have := HN.out; omega)
  have hblk : ∀ k, k ≠ g → W4.heap[k]? = Wq.heap[k]? := fun k hk => by rw [hW4]; exact Below.heap_setCell _ _ _ _ hk
  have hsz4 : W4.heap.size = Wq.heap.size := by rw [hW4]; simp [World.setCell]
  have hos4 : W4.os = Wq.os ∧ W4.tape = Wq.tape ∧ W4.output = Wq.output := by rw [hW4]; exact ⟨rfl, rfl, rfl⟩
  have H4 := Lib.hid (And.intro hgr (And.intro h4r (And.intro h2r (And.intro hblk (And.intro hsz4 hos4)))))
  have c0 : W4.cell? ⟨g, 0, none⟩ = some (.slice sa m sc) := cell_of_row W4 _ 0 _ _ (0, 0) hgr
  have cf0 : W4.frozen? ⟨g, 0, none⟩ = false := Row.frozen hgr 0
  have c1 : W4.cell? ⟨g, 1, none⟩ = some (.pointer (some ⟨gp, 0, none⟩)) := cell_of_row W4 _ 1 _ _ (0, 0) hgr
  have cf1 : W4.frozen? ⟨g, 1, none⟩ = false := Row.frozen hgr 1
  clear hW4 hblk hsz4 hos4
  -- a request, told
  have hgood : Hid (∀ (WE : World) (v' : Value) (ow' : Option Nat) (tmps : Array Value), Row WE g #[v', .pointer none, .int .i64 (st.bad : Int)] 39 → WaitO WE v' ow' (st.buf.drop rd) → (∀ k, ow' = some k → ow = some k) → WE.heap.size = W4.heap.size → WE.os = W4.os ∧ WE.tape = W4.tape ∧ WE.output = W4.output → (∀ k, k ≠ g → WE.heap[k]? = W4.heap[k]?) → tmps.getD 2 undef = .pointer (some ⟨b2, 0, none⟩) → tmps.getD 3 undef = .bool true →
      bodyPost Tryz.prog Tryz.f9 (fun e w' => ∃ F', RP0 RC w' F' g st.next.2 ∧ Moves F F' w w' ∧ NextV st.next.1 e w w' F F') .ret { tmps := tmps, defers := [] } (put7 WE b2 (S r.m) (S r.p) (S r.q) (.int .i64 (r.v : Int)) (.slice fa r.fs.length fc) (S body) (.bool r.cl))) := Lib.hid fun WE v' ow' tmps hg' hw' how hsz hos hbk h2 h3 => by
    have hr2 : Row WE b2 zeroR 27 := (hbk b2 (fun e => HN.out.2.2.2.1 e.symm)).trans H4.out.2.2.1
    refine bodyPost_ret (req_end rfl _ _ b2 _ h2 (put7_row hr2 _ _ _ _ _ _ _) rfl) rfl ?_
    rw [next_of_req HP.out.1 HG.out.2.2.2.2]
    have hnb : ∀ k, (k = g ∨ ow = some k) → k ≠ b2 := (hfar.out W2 _ HM.out).2
    have hkey : ∀ k, k ≠ g → k < W2.heap.size → (put7 WE b2 (S r.m) (S r.p) (S r.q) (.int .i64 (r.v : Int)) (.slice fa r.fs.length fc) (S body) (.bool r.cl)).heap[k]? = if k = b2 then (put7 WE b2 (S r.m) (S r.p) (S r.q) (.int .i64 (r.v : Int)) (.slice fa r.fs.length fc) (S body) (.bool r.cl)).heap[k]? else W2.heap[k]? := fun k hk hk2 => by
      by_cases e : k = b2
      · rw [if_pos e]
      · rw [if_neg e, put7_block e, hbk k hk, H4.out.2.2.2.1 k hk]
        exact HR.out.2.2.2.2.2.1.block k hk2
    have hszp : (put7 WE b2 (S r.m) (S r.p) (S r.q) (.int .i64 (r.v : Int)) (.slice fa r.fs.length fc) (S body) (.bool r.cl)).heap.size = Wq.heap.size := by rw [put7_size, hsz, H4.out.2.2.2.2.1]
    have hqs := HR.out.2.2.2.2.2.1.size
    refine ⟨fun k => k = g ∨ ow' = some k, ⟨v', ow', fun _ => False, .pointer none, ?_⟩, ?_, ?_⟩
    · refine ⟨?_, hw'.same (fun k hk => put7_block (hnb k (.inr (how k hk))) ..), .inl ⟨rfl, fun _ h => h⟩, fun k => by simp, fun h => h, fun k hk => ⟨(HG.out.2.2.1 k (how k hk)).1, fun h => h⟩, fun hn => absurd rfl hn⟩
      have := (put7_block (W := WE) (b := b2) (k := g) HN.out.2.2.2.1 (S r.m) (S r.p) (S r.q) (.int .i64 (r.v : Int)) (.slice fa r.fs.length fc) (S body) (.bool r.cl)).trans hg'
      rw [HP.out.1] at this
      exact this
    · have h1 := (Moves.of_below (F := F) H0.out.1).trans HM.out
      refine ⟨?_, ?_, ?_, by rw [hszp]; have := h1.size; omega, fun k hk => ?_, fun k hk hn => ?_⟩
      · rw [put7_os, hos.1, H4.out.2.2.2.2.2.1, HR.out.2.2.2.2.2.1.os]; exact h1.os
      · rw [put7_tape, hos.2.1, H4.out.2.2.2.2.2.2.1, HR.out.2.2.2.2.2.1.tape]; exact h1.tape
      · rw [put7_output, hos.2.2, H4.out.2.2.2.2.2.2.2, HR.out.2.2.2.2.2.1.output]; exact h1.output
      · rcases hk with e | e
        · exact h1.foot k (.inl e)
        · exact h1.foot k (.inr (how k e))
      · have hkg : k ≠ g := fun e => by
          rcases h1.foot k (.inl e) with e' | e'
          · exact hn e'
          · omega
        have hk2 : k < W2.heap.size := Nat.lt_of_lt_of_le hk h1.size
        rw [hkey k hkg hk2, if_neg (by have := HB2.out; omega)]
        exact h1.rest k hk hn
    · refine ⟨_, gf, by rw [h3]; rfl, (HR.out.2.2.2.2.1).same (fun hne => ?_), ?_⟩
      · have hh := HG.out.1.resolve_left hne
        have hgb : gf ≠ b2 := fun e => by
          have h5 := hh.1
          rcases H1.out.1.foot gf h5 with e' | e'
          · have := H0.out.2.2.1 gf e'; have := HB2.out; omega
          · have := H0.out.2.2.2.2.2.2; omega
        rw [put7_block hgb, hbk gf hh.2.1, H4.out.2.2.2.1 gf hh.2.1]
      · by_cases hne : r.fs = []
        · exact .inl hne
        · have hh := HG.out.1.resolve_left hne
          refine .inr ⟨?_, by rw [hszp]; have := HR.out.2.2.2.2.2.2.resolve_left hne; omega, fun hf => ?_⟩
          · rcases H1.out.1.foot gf hh.1 with e' | e'
            · exact .inl e'
            · have := H0.out.2.2.2.2.2.2; have := HB2.out; exact .inr (by omega)
          · rcases hf with e | e
            · exact hh.2.1 e
            · exact hh.2.2 (how gf e)
  by_cases hm0 : m = 0
  · have g1 : ((m : Int) == 0) = true := by rw [beq_iff_eq]; omega
    have hgr5 : Row ((W4.setCell ⟨g, 0, none⟩ (.slice none 0 0)).setCell ⟨g, 1, none⟩ (.pointer none)) g #[.slice none 0 0, .pointer none, .int .i64 (st.bad : Int)] 39 := (hgr.set 0 (.slice none 0 0)).set 1 (.pointer none)
    have e1 : (W4.setCell ⟨g, 0, none⟩ (.slice none 0 0)).cell? ⟨g, 1, none⟩ = some (.pointer (some ⟨gp, 0, none⟩)) := cell_of_row _ _ 1 _ _ (0, 0) (hgr.set 0 (.slice none 0 0))
    have ef1 : (W4.setCell ⟨g, 0, none⟩ (.slice none 0 0)).frozen? ⟨g, 1, none⟩ = false := Row.frozen (hgr.set 0 (.slice none 0 0)) 1
    have hn4 : b4 ≠ g := by have := HN.out; omega
    have hn2 : b2 ≠ g := by have := HN.out; omega
    have h45 : Row ((W4.setCell ⟨g, 0, none⟩ (.slice none 0 0)).setCell ⟨g, 1, none⟩ (.pointer none)) b4 #[S r.m, S r.p, S r.q, .int .i64 (r.v : Int), .slice fa r.fs.length fc, S body, .bool r.cl] 27 := (h4r.other hn4).other hn4
    have h25 : Row ((W4.setCell ⟨g, 0, none⟩ (.slice none 0 0)).setCell ⟨g, 1, none⟩ (.pointer none)) b2 zeroR 27 := (h2r.other hn2).other hn2
    have HX : Hid (Row ((W4.setCell ⟨g, 0, none⟩ (.slice none 0 0)).setCell ⟨g, 1, none⟩ (.pointer none)) g #[.slice none 0 0, .pointer none, .int .i64 (st.bad : Int)] 39 ∧ st.buf.drop rd = []) := Lib.hid ⟨hgr5, List.drop_of_length_le (by have := HC.out.2; omega)⟩
    have k0 : ((W4.setCell ⟨g, 0, none⟩ (.slice none 0 0)).setCell ⟨g, 1, none⟩ (.pointer none)).cell? ⟨b4, 0, none⟩ = some (S r.m) := cell_of_row ((W4.setCell ⟨g, 0, none⟩ (.slice none 0 0)).setCell ⟨g, 1, none⟩ (.pointer none)) _ 0 _ 27 (0, 0) h45
    have k1 : ((W4.setCell ⟨g, 0, none⟩ (.slice none 0 0)).setCell ⟨g, 1, none⟩ (.pointer none)).cell? ⟨b4, 1, none⟩ = some (S r.p) := cell_of_row ((W4.setCell ⟨g, 0, none⟩ (.slice none 0 0)).setCell ⟨g, 1, none⟩ (.pointer none)) _ 1 _ 27 (0, 0) h45
    have k2 : ((W4.setCell ⟨g, 0, none⟩ (.slice none 0 0)).setCell ⟨g, 1, none⟩ (.pointer none)).cell? ⟨b4, 2, none⟩ = some (S r.q) := cell_of_row ((W4.setCell ⟨g, 0, none⟩ (.slice none 0 0)).setCell ⟨g, 1, none⟩ (.pointer none)) _ 2 _ 27 (0, 0) h45
    have k3 : ((W4.setCell ⟨g, 0, none⟩ (.slice none 0 0)).setCell ⟨g, 1, none⟩ (.pointer none)).cell? ⟨b4, 3, none⟩ = some (.int .i64 (r.v : Int)) := cell_of_row ((W4.setCell ⟨g, 0, none⟩ (.slice none 0 0)).setCell ⟨g, 1, none⟩ (.pointer none)) _ 3 _ 27 (0, 0) h45
    have k4 : ((W4.setCell ⟨g, 0, none⟩ (.slice none 0 0)).setCell ⟨g, 1, none⟩ (.pointer none)).cell? ⟨b4, 4, none⟩ = some (.slice fa r.fs.length fc) := cell_of_row ((W4.setCell ⟨g, 0, none⟩ (.slice none 0 0)).setCell ⟨g, 1, none⟩ (.pointer none)) _ 4 _ 27 (0, 0) h45
    have k5 : ((W4.setCell ⟨g, 0, none⟩ (.slice none 0 0)).setCell ⟨g, 1, none⟩ (.pointer none)).cell? ⟨b4, 5, none⟩ = some (S body) := cell_of_row ((W4.setCell ⟨g, 0, none⟩ (.slice none 0 0)).setCell ⟨g, 1, none⟩ (.pointer none)) _ 5 _ 27 (0, 0) h45
    have k6 : ((W4.setCell ⟨g, 0, none⟩ (.slice none 0 0)).setCell ⟨g, 1, none⟩ (.pointer none)).cell? ⟨b4, 6, none⟩ = some (.bool r.cl) := cell_of_row ((W4.setCell ⟨g, 0, none⟩ (.slice none 0 0)).setCell ⟨g, 1, none⟩ (.pointer none)) _ 6 _ 27 (0, 0) h45
    have d0 : ((W4.setCell ⟨g, 0, none⟩ (.slice none 0 0)).setCell ⟨g, 1, none⟩ (.pointer none)).cell? ⟨b2, 0, none⟩ = some (.string ⟨#[]⟩) := cell_of_row ((W4.setCell ⟨g, 0, none⟩ (.slice none 0 0)).setCell ⟨g, 1, none⟩ (.pointer none)) _ 0 _ 27 (0, 0) h25
    have df0 : ((W4.setCell ⟨g, 0, none⟩ (.slice none 0 0)).setCell ⟨g, 1, none⟩ (.pointer none)).frozen? ⟨b2, 0, none⟩ = false := Row.frozen h25 0
    have d1 : ((W4.setCell ⟨g, 0, none⟩ (.slice none 0 0)).setCell ⟨g, 1, none⟩ (.pointer none)).cell? ⟨b2, 1, none⟩ = some (.string ⟨#[]⟩) := cell_of_row ((W4.setCell ⟨g, 0, none⟩ (.slice none 0 0)).setCell ⟨g, 1, none⟩ (.pointer none)) _ 1 _ 27 (0, 0) h25
    have df1 : ((W4.setCell ⟨g, 0, none⟩ (.slice none 0 0)).setCell ⟨g, 1, none⟩ (.pointer none)).frozen? ⟨b2, 1, none⟩ = false := Row.frozen h25 1
    have d2 : ((W4.setCell ⟨g, 0, none⟩ (.slice none 0 0)).setCell ⟨g, 1, none⟩ (.pointer none)).cell? ⟨b2, 2, none⟩ = some (.string ⟨#[]⟩) := cell_of_row ((W4.setCell ⟨g, 0, none⟩ (.slice none 0 0)).setCell ⟨g, 1, none⟩ (.pointer none)) _ 2 _ 27 (0, 0) h25
    have df2 : ((W4.setCell ⟨g, 0, none⟩ (.slice none 0 0)).setCell ⟨g, 1, none⟩ (.pointer none)).frozen? ⟨b2, 2, none⟩ = false := Row.frozen h25 2
    have d3 : ((W4.setCell ⟨g, 0, none⟩ (.slice none 0 0)).setCell ⟨g, 1, none⟩ (.pointer none)).cell? ⟨b2, 3, none⟩ = some (.int .i64 0) := cell_of_row ((W4.setCell ⟨g, 0, none⟩ (.slice none 0 0)).setCell ⟨g, 1, none⟩ (.pointer none)) _ 3 _ 27 (0, 0) h25
    have df3 : ((W4.setCell ⟨g, 0, none⟩ (.slice none 0 0)).setCell ⟨g, 1, none⟩ (.pointer none)).frozen? ⟨b2, 3, none⟩ = false := Row.frozen h25 3
    have d4 : ((W4.setCell ⟨g, 0, none⟩ (.slice none 0 0)).setCell ⟨g, 1, none⟩ (.pointer none)).cell? ⟨b2, 4, none⟩ = some (.slice none 0 0) := cell_of_row ((W4.setCell ⟨g, 0, none⟩ (.slice none 0 0)).setCell ⟨g, 1, none⟩ (.pointer none)) _ 4 _ 27 (0, 0) h25
    have df4 : ((W4.setCell ⟨g, 0, none⟩ (.slice none 0 0)).setCell ⟨g, 1, none⟩ (.pointer none)).frozen? ⟨b2, 4, none⟩ = false := Row.frozen h25 4
    have d5 : ((W4.setCell ⟨g, 0, none⟩ (.slice none 0 0)).setCell ⟨g, 1, none⟩ (.pointer none)).cell? ⟨b2, 5, none⟩ = some (.string ⟨#[]⟩) := cell_of_row ((W4.setCell ⟨g, 0, none⟩ (.slice none 0 0)).setCell ⟨g, 1, none⟩ (.pointer none)) _ 5 _ 27 (0, 0) h25
    have df5 : ((W4.setCell ⟨g, 0, none⟩ (.slice none 0 0)).setCell ⟨g, 1, none⟩ (.pointer none)).frozen? ⟨b2, 5, none⟩ = false := Row.frozen h25 5
    have d6 : ((W4.setCell ⟨g, 0, none⟩ (.slice none 0 0)).setCell ⟨g, 1, none⟩ (.pointer none)).cell? ⟨b2, 6, none⟩ = some (.bool false) := cell_of_row ((W4.setCell ⟨g, 0, none⟩ (.slice none 0 0)).setCell ⟨g, 1, none⟩ (.pointer none)) _ 6 _ 27 (0, 0) h25
    have df6 : ((W4.setCell ⟨g, 0, none⟩ (.slice none 0 0)).setCell ⟨g, 1, none⟩ (.pointer none)).frozen? ⟨b2, 6, none⟩ = false := Row.frozen h25 6
    clear hgr hgr5 h4r h2r h45 h25 hn4 hn2 hm0
    go_wp2
    exact hgood.out ((W4.setCell ⟨g, 0, none⟩ (.slice none 0 0)).setCell ⟨g, 1, none⟩ (.pointer none)) (.slice none 0 0) none _ HX.out.1 (by rw [HX.out.2]; exact WaitO.nil _) (fun k hk => by cases hk) (by simp [World.setCell]) ⟨rfl, rfl, rfl⟩ (fun k hk => by rw [Below.heap_setCell _ _ _ _ hk, Below.heap_setCell _ _ _ _ hk]) rfl rfl
  · have g1 : ((m : Int) == 0) = false := by rw [beq_eq_false_iff_ne]; omega
    have hgr5 : Row (W4.setCell ⟨g, 1, none⟩ (.pointer none)) g #[.slice sa m sc, .pointer none, .int .i64 (st.bad : Int)] 39 := hgr.set 1 (.pointer none)
    have hn4 : b4 ≠ g := by have := HN.out; omega
    have hn2 : b2 ≠ g := by have := HN.out; omega
    have h45 : Row (W4.setCell ⟨g, 1, none⟩ (.pointer none)) b4 #[S r.m, S r.p, S r.q, .int .i64 (r.v : Int), .slice fa r.fs.length fc, S body, .bool r.cl] 27 := h4r.other hn4
    have h25 : Row (W4.setCell ⟨g, 1, none⟩ (.pointer none)) b2 zeroR 27 := h2r.other hn2
    have HX : Hid (Row (W4.setCell ⟨g, 1, none⟩ (.pointer none)) g #[.slice sa m sc, .pointer none, .int .i64 (st.bad : Int)] 39 ∧ WaitO (W4.setCell ⟨g, 1, none⟩ (.pointer none)) (.slice sa m sc) ow (st.buf.drop rd)) := Lib.hid ⟨hgr5, (HC.out.1 (by have := HC.out.2; omega)).same (fun k hk => by
      have hkg := (HG.out.2.2.1 k hk).1
      rw [Below.heap_setCell _ _ _ _ (show k ≠ g from hkg), H4.out.2.2.2.1 k hkg])⟩
    have k0 : (W4.setCell ⟨g, 1, none⟩ (.pointer none)).cell? ⟨b4, 0, none⟩ = some (S r.m) := cell_of_row (W4.setCell ⟨g, 1, none⟩ (.pointer none)) _ 0 _ 27 (0, 0) h45
    have k1 : (W4.setCell ⟨g, 1, none⟩ (.pointer none)).cell? ⟨b4, 1, none⟩ = some (S r.p) := cell_of_row (W4.setCell ⟨g, 1, none⟩ (.pointer none)) _ 1 _ 27 (0, 0) h45
    have k2 : (W4.setCell ⟨g, 1, none⟩ (.pointer none)).cell? ⟨b4, 2, none⟩ = some (S r.q) := cell_of_row (W4.setCell ⟨g, 1, none⟩ (.pointer none)) _ 2 _ 27 (0, 0) h45
    have k3 : (W4.setCell ⟨g, 1, none⟩ (.pointer none)).cell? ⟨b4, 3, none⟩ = some (.int .i64 (r.v : Int)) := cell_of_row (W4.setCell ⟨g, 1, none⟩ (.pointer none)) _ 3 _ 27 (0, 0) h45
    have k4 : (W4.setCell ⟨g, 1, none⟩ (.pointer none)).cell? ⟨b4, 4, none⟩ = some (.slice fa r.fs.length fc) := cell_of_row (W4.setCell ⟨g, 1, none⟩ (.pointer none)) _ 4 _ 27 (0, 0) h45
    have k5 : (W4.setCell ⟨g, 1, none⟩ (.pointer none)).cell? ⟨b4, 5, none⟩ = some (S body) := cell_of_row (W4.setCell ⟨g, 1, none⟩ (.pointer none)) _ 5 _ 27 (0, 0) h45
    have k6 : (W4.setCell ⟨g, 1, none⟩ (.pointer none)).cell? ⟨b4, 6, none⟩ = some (.bool r.cl) := cell_of_row (W4.setCell ⟨g, 1, none⟩ (.pointer none)) _ 6 _ 27 (0, 0) h45
    have d0 : (W4.setCell ⟨g, 1, none⟩ (.pointer none)).cell? ⟨b2, 0, none⟩ = some (.string ⟨#[]⟩) := cell_of_row (W4.setCell ⟨g, 1, none⟩ (.pointer none)) _ 0 _ 27 (0, 0) h25
    have df0 : (W4.setCell ⟨g, 1, none⟩ (.pointer none)).frozen? ⟨b2, 0, none⟩ = false := Row.frozen h25 0
    have d1 : (W4.setCell ⟨g, 1, none⟩ (.pointer none)).cell? ⟨b2, 1, none⟩ = some (.string ⟨#[]⟩) := cell_of_row (W4.setCell ⟨g, 1, none⟩ (.pointer none)) _ 1 _ 27 (0, 0) h25
    have df1 : (W4.setCell ⟨g, 1, none⟩ (.pointer none)).frozen? ⟨b2, 1, none⟩ = false := Row.frozen h25 1
    have d2 : (W4.setCell ⟨g, 1, none⟩ (.pointer none)).cell? ⟨b2, 2, none⟩ = some (.string ⟨#[]⟩) := cell_of_row (W4.setCell ⟨g, 1, none⟩ (.pointer none)) _ 2 _ 27 (0, 0) h25
    have df2 : (W4.setCell ⟨g, 1, none⟩ (.pointer none)).frozen? ⟨b2, 2, none⟩ = false := Row.frozen h25 2
    have d3 : (W4.setCell ⟨g, 1, none⟩ (.pointer none)).cell? ⟨b2, 3, none⟩ = some (.int .i64 0) := cell_of_row (W4.setCell ⟨g, 1, none⟩ (.pointer none)) _ 3 _ 27 (0, 0) h25
    have df3 : (W4.setCell ⟨g, 1, none⟩ (.pointer none)).frozen? ⟨b2, 3, none⟩ = false := Row.frozen h25 3
    have d4 : (W4.setCell ⟨g, 1, none⟩ (.pointer none)).cell? ⟨b2, 4, none⟩ = some (.slice none 0 0) := cell_of_row (W4.setCell ⟨g, 1, none⟩ (.pointer none)) _ 4 _ 27 (0, 0) h25
    have df4 : (W4.setCell ⟨g, 1, none⟩ (.pointer none)).frozen? ⟨b2, 4, none⟩ = false := Row.frozen h25 4
    have d5 : (W4.setCell ⟨g, 1, none⟩ (.pointer none)).cell? ⟨b2, 5, none⟩ = some (.string ⟨#[]⟩) := cell_of_row (W4.setCell ⟨g, 1, none⟩ (.pointer none)) _ 5 _ 27 (0, 0) h25
    have df5 : (W4.setCell ⟨g, 1, none⟩ (.pointer none)).frozen? ⟨b2, 5, none⟩ = false := Row.frozen h25 5
    have d6 : (W4.setCell ⟨g, 1, none⟩ (.pointer none)).cell? ⟨b2, 6, none⟩ = some (.bool false) := cell_of_row (W4.setCell ⟨g, 1, none⟩ (.pointer none)) _ 6 _ 27 (0, 0) h25
    have df6 : (W4.setCell ⟨g, 1, none⟩ (.pointer none)).frozen? ⟨b2, 6, none⟩ = false := Row.frozen h25 6
    clear hgr hgr5 h4r h2r h45 h25 hn4 hn2 hm0
    go_wp2
    exact hgood.out (W4.setCell ⟨g, 1, none⟩ (.pointer none)) (.slice sa m sc) ow _ HX.out.1 HX.out.2 (fun k hk => hk) (by simp [World.setCell]) ⟨rfl, rfl, rfl⟩ (fun k hk => by rw [Below.heap_setCell _ _ _ _ hk]) rfl rfl
end
set_option maxRecDepth 100000 in
set_option maxHeartbeats 400000 in
theorem pnext0_any (w : World) : Calls Tryz.prog 9 #[.pointer none] w fun e w' => e = .returned (.tuple #[.agg zeroR, .bool false]) ∧ Below w.heap.size w w' := by
  have hend : Hid (∀ tmps : Array Value, tmps.getD 2 undef = .pointer (some ⟨w.heap.size, 0, none⟩) → tmps.getD 3 undef = .bool false →
      bodyPost Tryz.prog Tryz.f9 (fun e w' => e = .returned (.tuple #[.agg zeroR, .bool false]) ∧ Below w.heap.size w w') .ret { tmps := tmps, defers := [] } (w.alloc (.cells #[.string ⟨#[]⟩, .string ⟨#[]⟩, .string ⟨#[]⟩, .int .i64 0, .slice none 0 0, .string ⟨#[]⟩, .bool false] 27))) := Lib.hid fun tmps h2 h3 => by
    refine bodyPost_ret (req_end rfl _ _ w.heap.size _ h2 (row_new w _ _) rfl) rfl ?_
    exact ⟨by rw [h3]; rfl, (Below.refl _ w).alloc (Nat.le_refl _) _⟩
  go_enter Tryz.func9, Tryz.ntmps9
  go_wp2
  exact hend.out _ rfl rfl
/-- The landed package does what is asked of it. -/
theorem request_does {RC : World → (Nat → Prop) → Nat → Cst → Prop} (C : ChunkI RC) (Q : ChunkQ RC) {w : World} (hm : MaxAt w) : RequestI w (RP0 RC) where
  lt := fun h => h.lt
  same := fun h hs hb => h.same C hs hb
  new := fun w => new_any RC w
  feed := fun s h hs => pfeed_any C s h hs
  next := fun h hl hB => pnext_any C Q h hl (hm.below hB)
  bad := fun h => pbad_any h
  idle := fun h => idle_any h
  rest := fun h => rest_any h
  feed0 := fun s w _ => pfeed0_any s w
  next0 := fun w => pnext0_any w
  bad0 := fun w => pbad0_any w
  idle0 := fun w => pidle0_any w
  rest0 := fun w => prest0_any w
end Go.Proofs.YtplajlccnnbifaaGreatDoor
/- The landed package of chunks as functions over lists: a head's size; how a reader's cells stand for the automaton. -/
namespace Go.Proofs.YtplajlccnnbifaaGreatDoor
open Go.RowKit

/-- What digits of 16 count, behind x. -/
def digs : Nat → List UInt8 → Option Nat
  | x, [] => some x
  | x, c :: r => match hexN c with
    | none => none
    | some d => digs (16 * x + d) r
theorem hexN_59 : hexN 59 = none := by decide
theorem digs_none {c : UInt8} (hc : hexN c = none) : ∀ (a : List UInt8) (x : Nat) (r : List UInt8), digs x (a ++ c :: r) = none
  | [], x, r => by show (match hexN c with | none => none | some d => digs (16 * x + d) r) = none; rw [hc]
  | e :: a, x, r => by
    show (match hexN e with | none => none | some d => digs (16 * x + d) (a ++ c :: r)) = none
    cases hexN e with
    | none => rfl
    | some d => exact digs_none hc a _ r
theorem digs_snoc {c : UInt8} {d : Nat} (hc : hexN c = some d) : ∀ (a : List UInt8) (x v : Nat), digs x a = some v → digs x (a ++ [c]) = some (16 * v + d)
  | [], x, v, h => by
    cases h
    show (match hexN c with | none => none | some d => digs (16 * x + d) []) = some (16 * x + d)
    rw [hc]; rfl
  | e :: a, x, v, h => by
    have h' : (match hexN e with | none => none | some d => digs (16 * x + d) a) = some v := h
    show (match hexN e with | none => none | some d => digs (16 * x + d) (a ++ [c])) = some (16 * v + d)
    cases he : hexN e with
    | none => rw [he] at h'; cases h'
    | some y => rw [he] at h'; exact digs_snoc hc a _ v h'
theorem hexN_lt {c : UInt8} {d : Nat} (h : hexN c = some d) : d < 16 := by
  unfold hexN at h
  split at h
  · cases h; omega
  · split at h
    · cases h; omega
    · split at h
      · cases h; omega
      · cases h
theorem digs_lt : ∀ (a : List UInt8) (x v : Nat), digs x a = some v → v < (x + 1) * 16 ^ a.length
  | [], x, v, h => by cases h; simp
  | e :: a, x, v, h => by
    have h' : (match hexN e with | none => none | some d => digs (16 * x + d) a) = some v := h
    cases he : hexN e with
    | none => rw [he] at h'; cases h'
    | some y =>
      rw [he] at h'
      have h1 := digs_lt a _ v h'
      have h2 := hexN_lt he
      have h3 : (16 * x + y + 1) * 16 ^ a.length ≤ ((x + 1) * 16) * 16 ^ a.length := Nat.mul_le_mul_right _ (by omega)
      rw [List.length_cons, Nat.pow_succ, Nat.mul_comm (16 ^ a.length) 16, ← Nat.mul_assoc]
      omega
theorem digs_small {a : List UInt8} {v : Nat} (h : digs 0 a = some v) (hl : a.length ≤ 8) : v < 4294967296 := by
  have h1 := digs_lt a 0 v h
  have h2 : (16 : Nat) ^ a.length ≤ 16 ^ 8 := Nat.pow_le_pow_right (by omega) hl
  omega
/-- One digit more is read. -/
theorem digs_next {a : List UInt8} {i v d : Nat} {c : UInt8} (hc : a[i]? = some c) (hd : hexN c = some d) (h : digs 0 (a.take i) = some v) : digs 0 (a.take (i + 1)) = some (16 * v + d) := by
  rw [List.take_add_one, hc]
  exact digs_snoc hd _ _ _ h
theorem digs_stop {a : List UInt8} {i : Nat} {c : UInt8} (hc : a[i]? = some c) (hd : hexN c = none) : digs 0 a = none := by
  obtain ⟨hi, e⟩ := List.getElem?_eq_some_iff.1 hc
  have h := digs_none hd (a.take i) 0 (a.drop (i + 1))
  rw [← e, ← List.drop_eq_getElem_cons hi, List.take_append_drop] at h
  exact h
/-- A size, of what stands ahead of the semicolon, and of what stands behind. -/
def sizeL (a b : List UInt8) : Option Nat := if a.length = 0 ∨ 8 < a.length ∨ b.any badB = true then none else digs 0 a
theorem size_go (b : List UInt8) : ∀ (a : List UInt8) (n x : Nat), 59 ∉ a → n ≤ 8 →
    sizeGo n x (a ++ 59 :: b) = if n + a.length = 0 ∨ 8 < n + a.length ∨ b.any badB = true then none else digs x a
  | [], n, x, _, hn => by
    rw [List.nil_append, sizeGo, if_pos rfl]
    simp only [List.length_nil, Nat.add_zero]
    by_cases h0 : n = 0
    · rw [if_pos h0, if_pos (.inl h0)]
    · rw [if_neg h0]
      by_cases hb : b.any badB = true
      · rw [if_pos hb, if_pos (.inr (.inr hb))]
      · rw [if_neg hb, if_neg (fun h => h.elim h0 (fun h => h.elim (fun h => by omega) hb))]; rfl
  | c :: a, n, x, hc, hn => by
    have h1 : c ≠ 59 := fun e => hc (by rw [e]; exact List.mem_cons_self)
    have h2 : 59 ∉ a := fun h => hc (List.mem_cons_of_mem _ h)
    rw [List.cons_append, sizeGo, if_neg h1]
    show _ = if _ then none else (match hexN c with | none => none | some d => digs (16 * x + d) a)
    cases hexN c with
    | none => dsimp only; split <;> rfl
    | some d =>
      dsimp only
      by_cases h8 : 8 ≤ n
      · rw [if_pos h8, if_pos (.inr (.inl (by rw [List.length_cons]; omega)))]
      · rw [if_neg h8, size_go b a (n + 1) _ h2 (by omega), List.length_cons]
        have e : n + 1 + a.length = n + (a.length + 1) := by omega
        rw [e]
theorem size_go_end : ∀ (a : List UInt8) (n x : Nat), 59 ∉ a → n ≤ 8 → sizeGo n x a = if n + a.length = 0 ∨ 8 < n + a.length then none else digs x a
  | [], n, x, _, hn => by
    rw [sizeGo]
    simp only [List.length_nil, Nat.add_zero]
    by_cases h0 : n = 0
    · rw [if_pos h0, if_pos (.inl h0)]
    · rw [if_neg h0, if_neg (fun h => h.elim h0 (fun h => by omega))]; rfl
  | c :: a, n, x, hc, hn => by
    have h1 : c ≠ 59 := fun e => hc (by rw [e]; exact List.mem_cons_self)
    have h2 : 59 ∉ a := fun h => hc (List.mem_cons_of_mem _ h)
    rw [sizeGo, if_neg h1]
    show _ = if _ then none else (match hexN c with | none => none | some d => digs (16 * x + d) a)
    cases hexN c with
    | none => dsimp only; split <;> rfl
    | some d =>
      dsimp only
      by_cases h8 : 8 ≤ n
      · rw [if_pos h8, if_pos (.inr (by rw [List.length_cons]; omega))]
      · rw [if_neg h8, size_go_end a (n + 1) _ h2 (by omega), List.length_cons]
        have e : n + 1 + a.length = n + (a.length + 1) := by omega
        rw [e]
theorem size_hit {a : List UInt8} (b : List UInt8) (h : 59 ∉ a) : sizeF (a ++ 59 :: b) = sizeL a b := by
  unfold sizeF sizeL
  rw [size_go b a 0 0 h (by omega), Nat.zero_add]
theorem size_miss {a : List UInt8} (h : 59 ∉ a) : sizeF a = sizeL a [] := by
  unfold sizeF sizeL
  rw [size_go_end a 0 0 h (by omega), Nat.zero_add]
  simp
theorem sizeF_small {l : List UInt8} {v : Nat} (h : sizeF l = some v) : v < 4294967296 := by
  have aux : ∀ a b, sizeL a b = some v → v < 4294967296 := fun a b h => by
    unfold sizeL at h
    split at h
    · cases h
    · rename_i hn
      exact digs_small h (by omega)
  rcases cut_cases 59 l with ⟨a, b, rfl, ha⟩ | ha
  · rw [size_hit b ha] at h; exact aux _ _ h
  · rw [size_miss ha] at h; exact aux _ _ h

/-- What faultAt tells: of a reader that stands at nx with this line, behind since bytes of trailers, at the byte c. -/
def faultN (nx since : Nat) (line : List UInt8) (c : UInt8) : Nat :=
  if 2048 < since then 431
  else if (c == 10) ≠ endCR line then 400
  else if nx = 2 ∧ c ≠ 13 ∧ c ≠ 10 then 400
  else if nx = 0 ∧ c ≠ 10 ∧ line.length = 2048 then 431 else 0

/-- How the cells stand for the automaton. -/
def Shp (ph : Ph) (nx : Nat) (line : List UInt8) (lacks since flds bad : Nat) : Prop := match ph with
  | .head cur => nx = 0 ∧ line = cur ∧ since = 0 ∧ flds = 0 ∧ bad = 0 ∧ cur.length ≤ 2048
  | .body n => nx = 1 ∧ line = [] ∧ lacks = n ∧ since = 0 ∧ flds = 0 ∧ bad = 0 ∧ 1 ≤ n ∧ n ≤ 4096
  | .cr => nx = 2 ∧ line = [] ∧ since = 0 ∧ flds = 0 ∧ bad = 0
  | .lf => nx = 2 ∧ line = [13] ∧ since = 0 ∧ flds = 0 ∧ bad = 0
  | .tail cur k f => nx = 3 ∧ line = cur ∧ since = k ∧ flds = f ∧ bad = 0 ∧ k ≤ 2048 ∧ cur.length ≤ k ∧ f ≤ 32
  | .done => nx = 4 ∧ bad = 0
  | .bad c => nx = 4 ∧ bad = c
end Go.Proofs.YtplajlccnnbifaaGreatDoor
/- The landed reader in memory: its cells, the line that has begun, the bytes; slices of one's own: the first ones, one more. -/
namespace Go.Proofs.YtplajlccnnbifaaGreatDoor
open Go.RowKit

section
variable {P : Program} {w : World} {v : Value} {xs : List Value} {t e : TypeId}
/-- The first m. -/
theorem own_upto (h : Own 0 v xs w) (ht : P.underlying t = some (.slice e)) (hz : ∀ w, (sizeOf e).run P w = .ok 1 w) (m : Nat) (hm : m ≤ xs.length) :
    ∃ a c, (∀ W, (Instr.slice t v none (some (.int .i64 (m : Int))) none).run P W = .ok (.slice a m c) W) ∧ Own 0 (.slice a m c) (xs.take m) w ∧ (Value.slice a m c).ownBlock = v.ownBlock := by
  have hlen : (xs.take m).length = m := by rw [List.length_take]; omega
  rcases h with ⟨rfl, rfl⟩ | ⟨g, cap, rfl, hb, hg, hc, hcm, hr, hth⟩
  · obtain rfl : m = 0 := by simpa using hm
    refine ⟨none, 0, fun W => ?_, .inl ⟨rfl, rfl⟩, rfl⟩
    simp [Instr.slice, run_underlying ht, Instr.sliceBounds, run_sliceBound, Result.andThen, hz]
  · have hmc : m ≤ cap := by omega
    refine ⟨some ⟨g, 0, none⟩, cap, fun W => ?_, .inr ⟨g, cap, by rw [hlen], hb, hg, by rw [hlen]; exact hmc, hcm, fun j u hu => ?_, hth⟩, rfl⟩
    · simp [Instr.slice, run_underlying ht, Instr.sliceBounds, run_sliceBound, Result.andThen, hz, hmc, Addr.add]
    · have hj : j < m := by rw [← hlen]; exact (List.getElem?_eq_some_iff.1 hu).1
      rw [List.getElem?_take_of_lt hj] at hu
      exact hr j u hu
/-- One more, laid in a block of its own. -/
theorem own_more (h : Own 0 v xs w) (ht : P.underlying t = some (.slice e)) (he : Elem P e) (ty : TypeId) (y : Value) (hy : y.oneCell' = true) (hl : xs.length < 1000000000000) :
    ∃ k c w', (Builtin.append_ #[t, t] ty #[v, .slice (some ⟨w.heap.size, 0, none⟩) 1 1]).run P (w.alloc (.cells #[y] e)) = .ok (.slice (some ⟨k, 0, none⟩) (xs.length + 1) c) w' ∧ Own 0 (.slice (some ⟨k, 0, none⟩) (xs.length + 1) c) (xs ++ [y]) w' ∧ w.grownBy w' v.ownBlock ∧ (v.ownBlock = some k ∨ w.heap.size ≤ k) ∧ k < w'.heap.size := by
  obtain ⟨i, z, hi, hz, hs, hby, hzs⟩ := he
  have hc : (w.alloc (.cells #[y] e)).cell? ⟨w.heap.size, 0, none⟩ = some y := by
    rw [cell_of_row _ _ 0 _ _ _ (row_new w #[y] e)]; rfl
  obtain ⟨v', w', hr, h2, h3, h4⟩ := run_push (P := P) (w.alloc (.cells #[y] e)) 0 t ty e i z ht hi hz hs hby hzs v xs (h.alloc _) ⟨w.heap.size, 0, none⟩ y hc hy hl (Nat.zero_le _)
  obtain ⟨k, c, rfl, _, hk, _⟩ := h2.form (by simp)
  rw [show (xs ++ [y]).length = xs.length + 1 by simp] at *
  refine ⟨k, c, w', hr, h2, ⟨h3.os, h3.tape, h3.output, Nat.le_trans (by simp) h3.size, fun j hj hn => (h3.block j (by rw [alloc_size]; omega) hn).trans (heap_alloc_old w _ hj)⟩, ?_, hk⟩
  rcases h4 with h | h
  · exact .inl h.symm
  · rw [alloc_size] at h; exact .inr (by have e : k = w.heap.size + 1 := Option.some.inj h; omega)
theorem Own.drawn {w' : World} (h : Own 0 v xs w) (hd : Drawn w w') : Own 0 v xs w' := by obtain ⟨n, rfl⟩ := hd; exact h
end

/-- A reader's cells as numbers and texts. -/
structure Raw where
  nx : Nat
  line : List UInt8
  body : List UInt8
  lacks : Nat
  since : Nat
  flds : Nat
  bad : Nat
/-- The cells of a reader. -/
def rawC (x : Raw) (vl vb : Value) : Array Value := #[.int .i64 (x.nx : Int), vl, vb, .int .i64 (x.lacks : Int), .int .i64 (x.since : Int), .int .i64 (x.flds : Int), .int .i64 (x.bad : Int)]
/-- In block g lies a reader, whose slices are vl and vb; F holds all its blocks. -/
structure RawIn (w : World) (F : Nat → Prop) (g : Nat) (x : Raw) (vl vb : Value) : Prop where
  row : Row w g (rawC x vl vb) 110
  line : Own 0 vl (x.line.map B) w
  body : Own 0 vb (x.body.map B) w
  atL : ∀ k, vl.ownBlock = some k → F k ∧ k ≠ g
  atB : ∀ k, vb.ownBlock = some k → F k ∧ k ≠ g ∧ vl.ownBlock ≠ some k
  foot : F g
  old : ∀ k, F k → k < w.heap.size
def RawAt (w : World) (F : Nat → Prop) (g : Nat) (x : Raw) : Prop := ∃ vl vb, RawIn w F g x vl vb
section
variable {w w' : World} {F F' : Nat → Prop} {g : Nat} {x : Raw} {vl vb : Value}
theorem RawIn.same (h : RawIn w F g x vl vb) (hs : w.heap.size ≤ w'.heap.size) (hb : ∀ k, F k → w'.heap[k]? = w.heap[k]?) : RawIn w' F g x vl vb :=
  ⟨(hb g h.foot).trans h.row, h.line.of_block hs (fun k hk => hb k (h.atL k hk).1), h.body.of_block hs (fun k hk => hb k (h.atB k hk).1), h.atL, h.atB, h.foot, fun k hk => by have := h.old k hk; omega⟩
theorem RawAt.same (h : RawAt w F g x) (hs : w.heap.size ≤ w'.heap.size) (hb : ∀ k, F k → w'.heap[k]? = w.heap[k]?) : RawAt w' F g x := by
  obtain ⟨vl, vb, h⟩ := h; exact ⟨vl, vb, h.same hs hb⟩
theorem RawAt.lt (h : RawAt w F g x) : F g ∧ ∀ k, F k → k < w.heap.size := by
  obtain ⟨vl, vb, h⟩ := h; exact ⟨h.foot, h.old⟩
theorem RawAt.below (h : RawAt w F g x) (hb : Below w.heap.size w w') : RawAt w' F g x := h.same hb.size (fun k hk => hb.block k (h.lt.2 k hk))
theorem RawAt.drawn (h : RawAt w F g x) (hd : Drawn w w') : RawAt w' F g x := by
  obtain ⟨n, rfl⟩ := hd; exact h.same (Nat.le_refl _) (fun _ _ => rfl)
theorem RawIn.drawn (h : RawIn w F g x vl vb) (hd : Drawn w w') : RawIn w' F g x vl vb := by
  obtain ⟨n, rfl⟩ := hd; exact h.same (Nat.le_refl _) (fun _ _ => rfl)
theorem Moves.of_drawn (hd : Drawn w w') : Moves F F w w' := Moves.of_below hd.below
/-- Some cells of the reader's row turned, one behind the other. -/
theorem Moves.cell (w : World) (hF : F g) (i : Nat) (v : Value) : Moves F F w (w.setCell ⟨g, i, none⟩ v) :=
  ⟨rfl, rfl, rfl, by simp [World.setCell], fun _ hk => .inl hk, fun k _ hn => Below.heap_setCell _ _ _ _ (fun e => hn (by rw [e]; exact hF))⟩
/-- A number of the reader turned. -/
theorem RawIn.put (h : RawIn w F g x vl vb) {y : Raw} (i : Nat) (v : Value) (hc : (rawC x vl vb).setIfInBounds i v = rawC y vl vb) (hl : y.line = x.line) (hb : y.body = x.body) : RawIn (w.setCell ⟨g, i, none⟩ v) F g y vl vb := by
  refine ⟨by have := h.row.set i v; rw [hc] at this; exact this, ?_, ?_, h.atL, h.atB, h.foot, fun k hk => by have := h.old k hk; simpa [World.setCell] using this⟩
  · rw [hl]; exact h.line.of_block (by simp [World.setCell]) (fun k hk => Below.heap_setCell _ _ _ _ (fun e => (h.atL k hk).2 e))
  · rw [hb]; exact h.body.of_block (by simp [World.setCell]) (fun k hk => Below.heap_setCell _ _ _ _ (fun e => (h.atB k hk).2.1 e))
/-- Another slice as the line. -/
theorem RawIn.putL (h : RawIn w F g x vl vb) {y : Raw} {vn : Value} (hc : (rawC x vl vb).setIfInBounds 1 vn = rawC y vn vb) (hl : Own 0 vn (y.line.map B) w) (hn : ∀ k, vn.ownBlock = some k → F k ∧ k ≠ g ∧ vb.ownBlock ≠ some k) (hb : y.body = x.body) : RawIn (w.setCell ⟨g, 1, none⟩ vn) F g y vn vb := by
  refine ⟨by have := h.row.set 1 vn; rw [hc] at this; exact this, ?_, ?_, fun k hk => ⟨(hn k hk).1, (hn k hk).2.1⟩, fun k hk => ⟨(h.atB k hk).1, (h.atB k hk).2.1, fun e => (hn k e).2.2 hk⟩, h.foot, fun k hk => by have := h.old k hk; simpa [World.setCell] using this⟩
  · exact hl.of_block (by simp [World.setCell]) (fun k hk => Below.heap_setCell _ _ _ _ (fun e => (hn k hk).2.1 e))
  · rw [hb]; exact h.body.of_block (by simp [World.setCell]) (fun k hk => Below.heap_setCell _ _ _ _ (fun e => (h.atB k hk).2.1 e))
/-- Another slice as the bytes. -/
theorem RawIn.putB (h : RawIn w F g x vl vb) {y : Raw} {vn : Value} (hc : (rawC x vl vb).setIfInBounds 2 vn = rawC y vl vn) (hb : Own 0 vn (y.body.map B) w) (hn : ∀ k, vn.ownBlock = some k → F k ∧ k ≠ g ∧ vl.ownBlock ≠ some k) (hl : y.line = x.line) : RawIn (w.setCell ⟨g, 2, none⟩ vn) F g y vl vn := by
  refine ⟨by have := h.row.set 2 vn; rw [hc] at this; exact this, ?_, ?_, h.atL, hn, h.foot, fun k hk => by have := h.old k hk; simpa [World.setCell] using this⟩
  · rw [hl]; exact h.line.of_block (by simp [World.setCell]) (fun k hk => Below.heap_setCell _ _ _ _ (fun e => (h.atL k hk).2 e))
  · exact hb.of_block (by simp [World.setCell]) (fun k hk => Below.heap_setCell _ _ _ _ (fun e => (hn k hk).2.1 e))
theorem RawIn.cells (h : RawIn w F g x vl vb) : (w.cell? ⟨g, 0, none⟩ = some (.int .i64 (x.nx : Int)) ∧ w.cell? ⟨g, 1, none⟩ = some vl ∧ w.cell? ⟨g, 2, none⟩ = some vb ∧ w.cell? ⟨g, 3, none⟩ = some (.int .i64 (x.lacks : Int)))
    ∧ (w.cell? ⟨g, 4, none⟩ = some (.int .i64 (x.since : Int)) ∧ w.cell? ⟨g, 5, none⟩ = some (.int .i64 (x.flds : Int)) ∧ w.cell? ⟨g, 6, none⟩ = some (.int .i64 (x.bad : Int))) ∧ ∀ i, w.frozen? ⟨g, i, none⟩ = false :=
  ⟨⟨cell_of_row w _ 0 _ _ (0, 0) h.row, cell_of_row w _ 1 _ _ (0, 0) h.row, cell_of_row w _ 2 _ _ (0, 0) h.row, cell_of_row w _ 3 _ _ (0, 0) h.row⟩, ⟨cell_of_row w _ 4 _ _ (0, 0) h.row, cell_of_row w _ 5 _ _ (0, 0) h.row, cell_of_row w _ 6 _ _ (0, 0) h.row⟩, h.row.frozen⟩
end
end Go.Proofs.YtplajlccnnbifaaGreatDoor
/- The landed reader's way as functions over its cells; it goes as the automaton. -/
namespace Go.Proofs.YtplajlccnnbifaaGreatDoor
open Go.RowKit

def Raw.fail (x : Raw) (e : Nat) : Raw := ⟨4, [], x.body, x.lacks, x.since, x.flds, e⟩
def Raw.dat (x : Raw) (c : UInt8) : Raw := ⟨if x.lacks = 1 then 2 else x.nx, x.line, x.body ++ [c], x.lacks - 1, x.since, x.flds, x.bad⟩
def Raw.endHead (x : Raw) (l : List UInt8) : Raw := match sizeF l with
  | none => x.fail 400
  | some n => if 4096 < x.body.length + n then x.fail 413 else if n = 0 then ⟨3, x.line, x.body, x.lacks, x.since, x.flds, x.bad⟩ else ⟨1, x.line, x.body, n, x.since, x.flds, x.bad⟩
def Raw.endTrailer (x : Raw) (l : List UInt8) : Raw :=
  if l = [] then ⟨4, [], x.body, x.lacks, x.since, x.flds, x.bad⟩
  else if (parseF l).2.2 = false then x.fail 400
  else if 32 < x.flds + 1 then ⟨4, [], x.body, x.lacks, x.since, x.flds + 1, 431⟩
  else ⟨x.nx, x.line, x.body, x.lacks, x.since, x.flds + 1, x.bad⟩
def Raw.endLine (x : Raw) (l : List UInt8) : Raw :=
  if x.nx = 0 then x.endHead l else if x.nx = 2 then ⟨0, x.line, x.body, x.lacks, x.since, x.flds, x.bad⟩ else if x.nx = 3 then x.endTrailer l else x
def Raw.more (x : Raw) : Raw := ⟨x.nx, x.line, x.body, x.lacks, if x.nx = 3 then x.since + 1 else x.since, x.flds, x.bad⟩
def Raw.rest (y : Raw) (c : UInt8) : Raw :=
  if faultN y.nx y.since y.line c ≠ 0 then y.fail (faultN y.nx y.since y.line c)
  else if c ≠ 10 then ⟨y.nx, y.line ++ [c], y.body, y.lacks, y.since, y.flds, y.bad⟩
  else Raw.endLine ⟨y.nx, [], y.body, y.lacks, y.since, y.flds, y.bad⟩ y.line.dropLast
def Raw.read (x : Raw) (c : UInt8) : Raw := if x.nx = 1 then x.dat c else x.more.rest c

/-- The cells stand for the automaton. -/
structure ShpR (st : Cst) (x : Raw) : Prop where
  shp : Shp st.ph x.nx x.line x.lacks x.since x.flds x.bad
  body : x.body = st.data
  room : st.room
theorem endCR_nil : endCR [] = false := rfl
theorem endCR_13 : endCR [13] = true := rfl
theorem endCR_snoc3 (l : List UInt8) (c : UInt8) : endCR (l ++ [c]) = (c == 13) := by
  unfold endCR
  rw [List.getLast?_append]
  rfl
theorem endCR_pos {l : List UInt8} (h : endCR l = true) : 0 < l.length := by
  cases l with
  | nil => cases h
  | cons a r => simp
theorem shp_head {x : Raw} {d : List UInt8} {l : List UInt8} (hx : x.body = d) (_hn : x.nx = 0) (hl : x.line = []) (h1 : x.since = 0) (h2 : x.flds = 0) (h3 : x.bad = 0) :
    Shp (headF l d) (x.endHead l).nx (x.endHead l).line (x.endHead l).lacks (x.endHead l).since (x.endHead l).flds (x.endHead l).bad ∧ (x.endHead l).body = d := by
  unfold headF Raw.endHead
  cases sizeF l with
  | none => exact ⟨⟨rfl, rfl⟩, hx⟩
  | some n =>
    dsimp only
    rw [hx]
    by_cases hb : 4096 < d.length + n
    · rw [if_pos hb, if_pos hb]; exact ⟨⟨rfl, rfl⟩, hx⟩
    · rw [if_neg hb, if_neg hb]
      by_cases h0 : n = 0
      · rw [if_pos h0, if_pos h0]; exact ⟨⟨rfl, hl, h1, h2, h3, by omega, by simp, by omega⟩, rfl⟩
      · rw [if_neg h0, if_neg h0]; exact ⟨⟨rfl, hl, rfl, h1, h2, h3, by omega, by omega⟩, rfl⟩
theorem shp_tail {x : Raw} {l : List UInt8} {k f : Nat} (hn : x.nx = 3) (hl : x.line = []) (h1 : x.since = k) (h2 : x.flds = f) (h3 : x.bad = 0) (hk : k ≤ 2048) (hf : f ≤ 32) :
    Shp (tailF l k f) (x.endTrailer l).nx (x.endTrailer l).line (x.endTrailer l).lacks (x.endTrailer l).since (x.endTrailer l).flds (x.endTrailer l).bad ∧ (x.endTrailer l).body = x.body := by
  unfold tailF Raw.endTrailer
  by_cases hl0 : l = []
  · rw [if_pos hl0, if_pos hl0]; exact ⟨⟨rfl, h3⟩, rfl⟩
  · rw [if_neg hl0, if_neg hl0]
    by_cases hp : (parseF l).2.2 = false
    · rw [if_pos hp, if_pos hp]; exact ⟨⟨rfl, rfl⟩, rfl⟩
    · rw [if_neg hp, if_neg hp, h2]
      by_cases h32 : f = 32
      · rw [if_pos h32, if_pos (by omega)]; exact ⟨⟨rfl, rfl⟩, rfl⟩
      · rw [if_neg h32, if_neg (by omega)]; exact ⟨⟨hn, hl, h1, rfl, h3, hk, by simp, by omega⟩, rfl⟩
theorem read_shape {st : Cst} {x : Raw} (h : ShpR st x) (hs : st.stop = false) (c : UInt8) : ShpR (st.step c) (x.read c) := by
  have hr := step_room st c h.room
  suffices hh : Shp (st.step c).ph (x.read c).nx (x.read c).line (x.read c).lacks (x.read c).since (x.read c).flds (x.read c).bad ∧ (x.read c).body = (st.step c).data from ⟨hh.1, hh.2, hr⟩
  clear hr
  obtain ⟨hp, hb, hm⟩ := h
  obtain ⟨ph, d⟩ := st
  obtain ⟨nx, line, body, lacks, since, flds, bad⟩ := x
  dsimp only at hp hb
  subst hb
  cases ph with
  | done => cases hs
  | bad e => cases hs
  | head cur =>
    obtain ⟨rfl, rfl, rfl, rfl, rfl, hl⟩ := hp
    show Shp (Cst.step ⟨.head line, body⟩ c).ph (Raw.rest ⟨0, line, body, lacks, 0, 0, 0⟩ c).nx (Raw.rest ⟨0, line, body, lacks, 0, 0, 0⟩ c).line (Raw.rest ⟨0, line, body, lacks, 0, 0, 0⟩ c).lacks (Raw.rest ⟨0, line, body, lacks, 0, 0, 0⟩ c).since (Raw.rest ⟨0, line, body, lacks, 0, 0, 0⟩ c).flds (Raw.rest ⟨0, line, body, lacks, 0, 0, 0⟩ c).bad ∧ (Raw.rest ⟨0, line, body, lacks, 0, 0, 0⟩ c).body = (Cst.step ⟨.head line, body⟩ c).data
    have hst : Cst.step ⟨.head line, body⟩ c = (if endCR line ≠ (c == 10) then ⟨.bad 400, body⟩ else if endCR line = true then ⟨headF line.dropLast body, body⟩ else if 2048 ≤ line.length then ⟨.bad 431, body⟩ else ⟨.head (line ++ [c]), body⟩) := rfl
    rw [hst]
    unfold Raw.rest
    by_cases he : endCR line = (c == 10)
    · rw [if_neg (Classical.not_not.2 he)]
      have hf : faultN 0 0 line c = if c ≠ 10 ∧ line.length = 2048 then 431 else 0 := by
        unfold faultN
        rw [if_neg (by omega), if_neg (Classical.not_not.2 he.symm), if_neg (by rintro ⟨h, _⟩; omega)]
        simp
      dsimp only
      rw [hf]
      by_cases hc : c = 10
      · have hcr : endCR line = true := by rw [he, hc]; rfl
        rw [if_pos hcr, if_neg (by rw [if_neg (by rintro ⟨h, _⟩; exact h hc)]; simp), if_neg (Classical.not_not.2 hc)]
        exact shp_head (x := ⟨0, [], body, lacks, 0, 0, 0⟩) rfl rfl rfl rfl rfl rfl
      · have hcr : ¬ endCR line = true := by rw [he]; simpa using hc
        rw [if_neg hcr]
        by_cases hlen : 2048 ≤ line.length
        · rw [if_pos hlen, if_pos (by rw [if_pos ⟨hc, by omega⟩]; omega), if_pos ⟨hc, by omega⟩]
          exact ⟨⟨rfl, rfl⟩, rfl⟩
        · rw [if_neg hlen, if_neg (by rw [if_neg (by rintro ⟨_, h⟩; omega)]; simp), if_pos hc]
          exact ⟨⟨rfl, rfl, rfl, rfl, rfl, by rw [List.length_append, List.length_singleton]; omega⟩, rfl⟩
    · rw [if_pos he]
      have hf : faultN 0 0 line c = 400 := by
        unfold faultN
        rw [if_neg (by omega), if_pos (fun h => he h.symm)]
      dsimp only
      rw [hf, if_pos (by omega)]
      exact ⟨⟨rfl, rfl⟩, rfl⟩
  | body n =>
    obtain ⟨rfl, rfl, rfl, rfl, rfl, rfl, h1, h2⟩ := hp
    show Shp (if lacks ≤ 1 then Ph.cr else Ph.body (lacks - 1)) (if lacks = 1 then 2 else 1) [] (lacks - 1) 0 0 0 ∧ _
    by_cases h : lacks = 1
    · rw [if_pos (by omega), if_pos h]; exact ⟨⟨rfl, rfl, rfl, rfl, rfl⟩, rfl⟩
    · rw [if_neg (by omega), if_neg h]; exact ⟨⟨rfl, rfl, rfl, rfl, rfl, rfl, by omega, by omega⟩, rfl⟩
  | cr =>
    obtain ⟨rfl, rfl, rfl, rfl, rfl⟩ := hp
    show Shp (if c = 13 then Ph.lf else .bad 400) (Raw.rest ⟨2, [], body, lacks, 0, 0, 0⟩ c).nx (Raw.rest ⟨2, [], body, lacks, 0, 0, 0⟩ c).line (Raw.rest ⟨2, [], body, lacks, 0, 0, 0⟩ c).lacks (Raw.rest ⟨2, [], body, lacks, 0, 0, 0⟩ c).since (Raw.rest ⟨2, [], body, lacks, 0, 0, 0⟩ c).flds (Raw.rest ⟨2, [], body, lacks, 0, 0, 0⟩ c).bad ∧ (Raw.rest ⟨2, [], body, lacks, 0, 0, 0⟩ c).body = body
    unfold Raw.rest
    dsimp only
    by_cases hc : c = 13
    · subst hc
      exact ⟨⟨rfl, rfl, rfl, rfl, rfl⟩, rfl⟩
    · have hf : faultN 2 0 [] c = 400 := by
        unfold faultN
        rw [if_neg (by omega), endCR_nil]
        by_cases h10 : c = 10
        · rw [if_pos (by rw [h10]; decide)]
        · rw [if_neg (by simpa using h10), if_pos ⟨rfl, hc, h10⟩]
      rw [hf, if_neg hc, if_pos (by omega)]
      exact ⟨⟨rfl, rfl⟩, rfl⟩
  | lf =>
    obtain ⟨rfl, rfl, rfl, rfl, rfl⟩ := hp
    show Shp (if c = 10 then Ph.head [] else .bad 400) (Raw.rest ⟨2, [13], body, lacks, 0, 0, 0⟩ c).nx (Raw.rest ⟨2, [13], body, lacks, 0, 0, 0⟩ c).line (Raw.rest ⟨2, [13], body, lacks, 0, 0, 0⟩ c).lacks (Raw.rest ⟨2, [13], body, lacks, 0, 0, 0⟩ c).since (Raw.rest ⟨2, [13], body, lacks, 0, 0, 0⟩ c).flds (Raw.rest ⟨2, [13], body, lacks, 0, 0, 0⟩ c).bad ∧ (Raw.rest ⟨2, [13], body, lacks, 0, 0, 0⟩ c).body = body
    unfold Raw.rest
    dsimp only
    by_cases hc : c = 10
    · subst hc
      exact ⟨⟨rfl, rfl, rfl, rfl, rfl, by simp⟩, rfl⟩
    · have hf : faultN 2 0 [13] c = 400 := by
        unfold faultN
        rw [if_neg (by omega), endCR_13, if_pos (by simpa using hc)]
      rw [hf, if_neg hc, if_pos (by omega)]
      exact ⟨⟨rfl, rfl⟩, rfl⟩
  | tail cur k f =>
    obtain ⟨rfl, rfl, rfl, rfl, rfl, hk, hlen, hf32⟩ := hp
    show Shp (Cst.step ⟨.tail line since flds, body⟩ c).ph (Raw.rest ⟨3, line, body, lacks, since + 1, flds, 0⟩ c).nx (Raw.rest ⟨3, line, body, lacks, since + 1, flds, 0⟩ c).line (Raw.rest ⟨3, line, body, lacks, since + 1, flds, 0⟩ c).lacks (Raw.rest ⟨3, line, body, lacks, since + 1, flds, 0⟩ c).since (Raw.rest ⟨3, line, body, lacks, since + 1, flds, 0⟩ c).flds (Raw.rest ⟨3, line, body, lacks, since + 1, flds, 0⟩ c).bad ∧ (Raw.rest ⟨3, line, body, lacks, since + 1, flds, 0⟩ c).body = (Cst.step ⟨.tail line since flds, body⟩ c).data
    have hst : Cst.step ⟨.tail line since flds, body⟩ c = (if 2048 ≤ since then ⟨.bad 431, body⟩ else if endCR line ≠ (c == 10) then ⟨.bad 400, body⟩ else if endCR line = true then ⟨tailF line.dropLast (since + 1) flds, body⟩ else ⟨.tail (line ++ [c]) (since + 1) flds, body⟩) := rfl
    rw [hst]
    unfold Raw.rest
    dsimp only
    by_cases h8 : 2048 ≤ since
    · have hf : faultN 3 (since + 1) line c = 431 := by unfold faultN; rw [if_pos (by omega)]
      rw [hf, if_pos h8, if_pos (by omega)]
      exact ⟨⟨rfl, rfl⟩, rfl⟩
    · rw [if_neg h8]
      by_cases he : endCR line = (c == 10)
      · rw [if_neg (Classical.not_not.2 he)]
        have hf : faultN 3 (since + 1) line c = 0 := by
          unfold faultN
          rw [if_neg (by omega), if_neg (Classical.not_not.2 he.symm), if_neg (by rintro ⟨h, _⟩; omega), if_neg (by rintro ⟨h, _⟩; omega)]
        rw [hf, if_neg (show ¬ (0 : Nat) ≠ 0 from fun h => h rfl)]
        by_cases hc : c = 10
        · have hcr : endCR line = true := by rw [he, hc]; rfl
          rw [if_pos hcr, if_neg (Classical.not_not.2 hc)]
          exact shp_tail (x := ⟨3, [], body, lacks, since + 1, flds, 0⟩) rfl rfl rfl rfl rfl (by omega) hf32
        · have hcr : ¬ endCR line = true := by rw [he]; simpa using hc
          rw [if_neg hcr, if_pos hc]
          exact ⟨⟨rfl, rfl, rfl, rfl, rfl, by omega, by rw [List.length_append, List.length_singleton]; omega, hf32⟩, rfl⟩
      · rw [if_pos he]
        have hf : faultN 3 (since + 1) line c = 400 := by
          unfold faultN
          rw [if_neg (by omega), if_pos (fun h => he h.symm)]
        rw [hf, if_pos (by omega)]
        exact ⟨⟨rfl, rfl⟩, rfl⟩
end Go.Proofs.YtplajlccnnbifaaGreatDoor
/- The landed digit, isValue and sizeOf walked. -/
namespace Go.Proofs.YtplajlccnnbifaaGreatDoor
open Go.RowKit
attribute [local go_sem] store_one S_match S_store eguard_BN nguard_BN

theorem ofNat_toNat (n : Nat) (h : n < 256) : (UInt8.ofNat n).toNat = n := by rw [UInt8.toNat_ofNat']; exact Nat.mod_eq_of_lt h
theorem B_subN (t : TypeId) (x : UInt8) (k : Nat) (h : k ≤ x.toNat) : binOp .sub t (B x) (.int .u8 (k : Int)) = pure (B (UInt8.ofNat (x.toNat - k))) := by
  have hx := x.toNat_lt
  have e : IntKind.u8.wrap ((x.toNat : Int) - (k : Int)) = ((UInt8.ofNat (x.toNat - k)).toNat : Int) := by
    rw [ofNat_toNat (x.toNat - k) (by omega), IntKind.wrap_u8]; omega
  show pure (Value.int .u8 (IntKind.u8.wrap ((x.toNat : Int) - (k : Int)))) = _
  rw [e]; rfl
/-- What digit hands back. -/
def dgT (c : UInt8) : Value := match hexN c with
  | none => .tuple #[.int .i64 0, .bool false]
  | some d => .tuple #[.int .i64 (d : Int), .bool true]
set_option maxRecDepth 100000 in
set_option maxHeartbeats 1000000 in
theorem digit_any (c : UInt8) (w : World) : Calls Tryz.prog 155 #[B c] w fun e w' => e = .returned (dgT c) ∧ w' = w := by
  have h1 := B_geq 5 c 48
  have h2 := B_leq 5 c 57
  have h3 := B_geq 5 c 97
  have h4 := B_leq 5 c 102
  have h5 := B_geq 5 c 65
  have h6 := B_leq 5 c 70
  have hE : hexN c = if 48 ≤ c.toNat ∧ c.toNat ≤ 57 then some (c.toNat - 48) else if 97 ≤ c.toNat ∧ c.toNat ≤ 102 then some (c.toNat - 87) else if 65 ≤ c.toNat ∧ c.toNat ≤ 70 then some (c.toNat - 55) else none := rfl
  have hcv : ∀ (n : Nat) (w : World), n < 256 → (convert 5 2 (B (UInt8.ofNat n))).run Tryz.prog w = .ok (.int .i64 (n : Int)) w := fun n w hn => by
    have := conv_byte (P := Tryz.prog) Tryz.underlying5 Tryz.underlying2 (UInt8.ofNat n) w
    rw [ofNat_toNat n hn] at this
    exact this
  have hl := c.toNat_lt
  have hcs : c.toNat < 48 ∨ (48 ≤ c.toNat ∧ c.toNat ≤ 57) ∨ (57 < c.toNat ∧ c.toNat < 65) ∨ (65 ≤ c.toNat ∧ c.toNat ≤ 70) ∨ (70 < c.toNat ∧ c.toNat < 97) ∨ (97 ≤ c.toNat ∧ c.toNat ≤ 102) ∨ 102 < c.toNat := by omega
  rcases hcs with a | a | a | a | a | a | a
  · have hT : dgT c = .tuple #[.int .i64 0, .bool false] := by unfold dgT; rw [hE, if_neg (by omega), if_neg (by omega), if_neg (by omega)]
    rw [hT]
    rw [decide_eq_false (by omega)] at h1 h3 h5
    clear h2 h4 h6 a hE hcv hT hl
    go_enter Tryz.func155, Tryz.ntmps155
    go_wp2
    go_ret2
    exact ⟨rfl, rfl⟩
  · have hT : dgT c = .tuple #[.int .i64 ((c.toNat - 48 : Nat) : Int), .bool true] := by unfold dgT; rw [hE, if_pos a]
    rw [hT]
    rw [decide_eq_true (by omega)] at h1 h2
    have hs : binOp .sub 5 (B c) (.int .u8 48) = pure (B (UInt8.ofNat (c.toNat - 48))) := B_subN 5 c 48 (by omega)
    have hc := fun w => hcv (c.toNat - 48) w (by omega)
    clear h3 h4 h5 h6 a hE hcv hT hl
    go_enter Tryz.func155, Tryz.ntmps155
    go_wp2
    go_ret2
    exact ⟨rfl, rfl⟩
  · have hT : dgT c = .tuple #[.int .i64 0, .bool false] := by unfold dgT; rw [hE, if_neg (by omega), if_neg (by omega), if_neg (by omega)]
    rw [hT]
    rw [decide_eq_false (by omega)] at h2 h3 h5
    rw [decide_eq_true (by omega)] at h1
    clear h4 h6 a hE hcv hT hl
    go_enter Tryz.func155, Tryz.ntmps155
    go_wp2
    go_ret2
    exact ⟨rfl, rfl⟩
  · have hT : dgT c = .tuple #[.int .i64 (((c.toNat - 65 : Nat) : Int) + 10), .bool true] := by
      unfold dgT; rw [hE, if_neg (by omega), if_neg (by omega), if_pos a]
      show Value.tuple #[.int .i64 ((c.toNat - 55 : Nat) : Int), .bool true] = _
      rw [show ((c.toNat - 55 : Nat) : Int) = ((c.toNat - 65 : Nat) : Int) + 10 by omega]
    rw [hT]
    rw [decide_eq_true (by omega)] at h1 h5 h6
    rw [decide_eq_false (by omega)] at h2 h3
    have hs : binOp .sub 5 (B c) (.int .u8 65) = pure (B (UInt8.ofNat (c.toNat - 65))) := B_subN 5 c 65 (by omega)
    have hc := fun w => hcv (c.toNat - 65) w (by omega)
    obtain ⟨y, hy⟩ : ∃ y, y = c.toNat - 65 := ⟨_, rfl⟩
    have hw : IntKind.i64.wrap ((y : Int) + 10) = (y : Int) + 10 := by rw [IntKind.wrap_i64]; omega
    rw [← hy] at hs hc
    rw [← hy]
    clear h4 a hE hcv hT hl hy
    go_enter Tryz.func155, Tryz.ntmps155
    go_wp2
    go_ret2
    exact ⟨rfl, rfl⟩
  · have hT : dgT c = .tuple #[.int .i64 0, .bool false] := by unfold dgT; rw [hE, if_neg (by omega), if_neg (by omega), if_neg (by omega)]
    rw [hT]
    rw [decide_eq_true (by omega)] at h1 h5
    rw [decide_eq_false (by omega)] at h2 h3 h6
    clear h4 a hE hcv hT hl
    go_enter Tryz.func155, Tryz.ntmps155
    go_wp2
    go_ret2
    exact ⟨rfl, rfl⟩
  · have hT : dgT c = .tuple #[.int .i64 (((c.toNat - 97 : Nat) : Int) + 10), .bool true] := by
      unfold dgT; rw [hE, if_neg (by omega), if_pos a]
      show Value.tuple #[.int .i64 ((c.toNat - 87 : Nat) : Int), .bool true] = _
      rw [show ((c.toNat - 87 : Nat) : Int) = ((c.toNat - 97 : Nat) : Int) + 10 by omega]
    rw [hT]
    rw [decide_eq_true (by omega)] at h1 h3 h4
    rw [decide_eq_false (by omega)] at h2
    have hs : binOp .sub 5 (B c) (.int .u8 97) = pure (B (UInt8.ofNat (c.toNat - 97))) := B_subN 5 c 97 (by omega)
    have hc := fun w => hcv (c.toNat - 97) w (by omega)
    obtain ⟨y, hy⟩ : ∃ y, y = c.toNat - 97 := ⟨_, rfl⟩
    have hw : IntKind.i64.wrap ((y : Int) + 10) = (y : Int) + 10 := by rw [IntKind.wrap_i64]; omega
    rw [← hy] at hs hc
    rw [← hy]
    clear h5 h6 a hE hcv hT hl hy
    go_enter Tryz.func155, Tryz.ntmps155
    go_wp2
    go_ret2
    exact ⟨rfl, rfl⟩
  · have hT : dgT c = .tuple #[.int .i64 0, .bool false] := by unfold dgT; rw [hE, if_neg (by omega), if_neg (by omega), if_neg (by omega)]
    rw [hT]
    rw [decide_eq_true (by omega)] at h1 h3 h5
    rw [decide_eq_false (by omega)] at h2 h4 h6
    clear a hE hcv hT hl
    go_enter Tryz.func155, Tryz.ntmps155
    go_wp2
    go_ret2
    exact ⟨rfl, rfl⟩

theorem x58 (s : List UInt8) : parseF (120 :: 58 :: s) = if s.any badB = true then ([], [], false) else ([120], bareF s, true) := by
  have h := parse_cut [120] s (by decide)
  rw [show ([120] : List UInt8) ++ 58 :: s = 120 :: 58 :: s from rfl, show tokF [120] = true by decide, Bool.true_and, val_bad] at h
  rw [h]
  cases s.any badB <;> rfl
set_option maxRecDepth 100000 in
set_option maxHeartbeats 400000 in
theorem isvalue_any (s : List UInt8) (hs : s.length ≤ 90000) (w : World) : Calls Tryz.prog 154 #[S s] w fun e w' => e = .returned (.bool (!(s.any badB))) ∧ Below w.heap.size w w' := by
  have hadd : binOp .add 9 (.string ⟨#[120, 58]⟩) (S s) = pure (S (120 :: 58 :: s)) := S_add 9 [120, 58] s (by simp; omega)
  have hp := parse10_any (120 :: 58 :: s) (by simp; omega)
  have hr : (parseF (120 :: 58 :: s)).2.2 = !(s.any badB) := by rw [x58]; cases s.any badB <;> rfl
  obtain ⟨p, hpd⟩ : ∃ p, p = parseF (120 :: 58 :: s) := ⟨_, rfl⟩
  rw [← hpd] at hp hr
  clear hpd
  obtain ⟨n, v, b⟩ := p
  dsimp only at hr
  rw [← hr]
  generalize 120 :: 58 :: s = T at *
  have HP := Lib.hid hp
  clear hp hr
  go_enter Tryz.func154, Tryz.ntmps154
  go_wp2_with fail
  refine (HP.out _).mono ?_
  rintro e W1 ⟨rfl, hB⟩
  unfold parseV
  go_wp2
  go_ret
  exact ⟨rfl, hB.alloc hB.size _⟩
end Go.Proofs.YtplajlccnnbifaaGreatDoor
/- The landed sizeOf walked. -/
namespace Go.Proofs.YtplajlccnnbifaaGreatDoor
open Go.RowKit
attribute [local go_sem] store_one S_match S_store eguard_BN nguard_BN

/-- What sizeOf hands back. -/
def szT (o : Option Nat) : Value := match o with
  | none => .tuple #[.int .i64 0, .bool false]
  | some n => .tuple #[.int .i64 (n : Int), .bool true]
set_option maxRecDepth 100000 in
set_option maxHeartbeats 1000000 in
theorem sizeof_cut (T a b : List UInt8) (fd : Bool) (hcut : ∀ w, Calls Tryz.prog 58 #[S T, S [59]] w fun e w' => e = .returned (.tuple #[S a, S b, .bool fd]) ∧ Drawn w w') (hb : b.length ≤ 90000) (w : World) :
    Calls Tryz.prog 153 #[S T] w fun e w' => e = .returned (szT (sizeL a b)) ∧ Below w.heap.size w w' := by
  have hlen := run_len_S (P := Tryz.prog) Tryz.underlying9 3 a
  have hcut' : ∀ w, Calls Tryz.prog 58 #[S T, .string ⟨#[59]⟩] w fun e w' => e = .returned (.tuple #[S a, S b, .bool fd]) ∧ Drawn w w' := hcut
  have HC := Lib.hid hcut'
  have HV := Lib.hid (isvalue_any b hb)
  clear hcut hcut' hb
  obtain ⟨O, hO⟩ : ∃ O, O = sizeL a b := ⟨_, rfl⟩
  rw [← hO]
  obtain ⟨L, hL⟩ : ∃ L, L = a.length := ⟨_, rfl⟩
  rw [← hL] at hlen
  obtain ⟨v, hv⟩ : ∃ v, v = b.any badB := ⟨_, rfl⟩
  rw [← hv] at HV
  have hOs : O = if L = 0 ∨ 8 < L ∨ v = true then none else digs 0 a := by
    rw [hO, sizeL, hv, hL]
  clear hO hv
  by_cases h0 : L = 0
  · have HO : Hid (O = none) := Lib.hid (by rw [hOs, if_pos (.inl h0)])
    clear hOs hL HV
    subst h0
    go_enter Tryz.func153, Tryz.ntmps153
    go_wp2_with fail
    refine (HC.out _).mono ?_
    rintro e W1 ⟨rfl, hD⟩
    have HD := Lib.hid hD
    clear hD
    go_wp2
    go_ret2
    exact ⟨by rw [HO.out]; rfl, HD.out.below⟩
  by_cases h8 : 8 < L
  · have HO : Hid (O = none) := Lib.hid (by rw [hOs, if_pos (.inr (.inl h8))])
    have hbe : ((L : Int) == 0) = false := by rw [beq_eq_false_iff_ne]; omega
    have hbg : decide ((L : Int) > 8) = true := decide_eq_true (by omega)
    have hbg' : decide ((8 : Int) < (L : Int)) = true := decide_eq_true (by omega)
    clear hOs hL HV h0 h8
    go_enter Tryz.func153, Tryz.ntmps153
    go_wp2_with fail
    refine (HC.out _).mono ?_
    rintro e W1 ⟨rfl, hD⟩
    have HD := Lib.hid hD
    clear hD
    go_wp2
    go_ret2
    exact ⟨by rw [HO.out]; rfl, HD.out.below⟩
  have hbe : ((L : Int) == 0) = false := by rw [beq_eq_false_iff_ne]; omega
  have hbg : decide ((L : Int) > 8) = false := decide_eq_false (by omega)
  have hbg' : decide ((8 : Int) < (L : Int)) = false := decide_eq_false (by omega)
  cases v with
  | true =>
    have HO : Hid (O = none) := Lib.hid (by rw [hOs, if_pos (.inr (.inr rfl))])
    clear hOs hL h0 h8
    go_enter Tryz.func153, Tryz.ntmps153
    go_wp2_with fail
    refine (HC.out _).mono ?_
    rintro e W1 ⟨rfl, hD⟩
    have HD := Lib.hid hD
    clear hD
    go_wp2_with fail
    refine (HV.out _).mono ?_
    rintro e W2 ⟨rfl, hB⟩
    have HB := Lib.hid (HD.out.below.trans (hB.mono HD.out.below.size))
    clear hB HD
    rw [Bool.not_true]
    go_wp2
    go_ret2
    exact ⟨by rw [HO.out]; rfl, HB.out⟩
  | false =>
    have hOd : O = digs 0 a := by rw [hOs, if_neg (fun h => h.elim h0 (fun h => h.elim h8 (fun h => by cases h)))]
    clear hOs
    have HL := Lib.hid (And.intro hL (And.intro hOd (by omega : L ≤ 8)))
    clear hL hOd h0
    go_enter Tryz.func153, Tryz.ntmps153
    go_wp2_with fail
    refine (HC.out _).mono ?_
    rintro e W1 ⟨rfl, hD⟩
    have HD := Lib.hid hD
    clear hD
    go_wp2_with fail
    refine (HV.out _).mono ?_
    rintro e W2 ⟨rfl, hB⟩
    have HB := Lib.hid (HD.out.below.trans (hB.mono HD.out.below.size))
    clear hB HD
    rw [Bool.not_false]
    go_wp2
    go_loopw [7, 32] (fun sv iv wr => ∃ i v : Nat, i ≤ L ∧ iv = .int .i64 (i : Int) ∧ sv = .int .i64 (v : Int) ∧ wr = W2 ∧ digs 0 (a.take i) = some v) (fun _ iv _ => L - (intOf iv).toNat)
    case atStart => exact ⟨0, 0, by omega, rfl, rfl, rfl, rfl⟩
    case round =>
      obtain ⟨i, v, hi, rfl, rfl, rfl, hdg⟩ := hrel
      by_cases hlt : i < L
      · obtain ⟨x, hx⟩ : ∃ x, a[i]? = some x := ⟨a[i]'(by have := HL.out.1; omega), List.getElem?_eq_getElem _⟩
        have hidx : ∀ w, (Instr.index 9 (S a) (.int .i64 (i : Int))).run Tryz.prog w = .ok (B x) w := fun w => index_S (P := Tryz.prog) Tryz.underlying9 a i x hx w
        have hdx := digit_any x
        unfold dgT at hdx
        have hvs : v < 4294967296 := digs_small hdg (by rw [List.length_take]; have := HL.out.2.2; omega)
        cases hh : hexN x with
        | none =>
          have HO : Hid (O = none) := Lib.hid (by rw [HL.out.2.1, digs_stop hx hh])
          rw [hh] at hdx
          dsimp only at hdx
          have HX := Lib.hid hdx
          clear hdx hh hx hdg
          go_wp2_with fail
          refine (HX.out _).mono ?_
          rintro e W3 ⟨rfl, rfl⟩
          go_wp2
          go_ret2
          exact ⟨by rw [HO.out]; rfl, HB.out⟩
        | some d =>
          have HN : Hid (digs 0 (a.take (i + 1)) = some (v * 16 + d)) := Lib.hid (by rw [digs_next hx hh hdg, Nat.mul_comm])
          have hd16 := hexN_lt hh
          rw [hh] at hdx
          dsimp only at hdx
          have hw7 : IntKind.i64.wrap ((v : Int) * 16) = (v : Int) * 16 := by rw [IntKind.wrap_i64]; omega
          have hw8 : IntKind.i64.wrap ((v : Int) * 16 + (d : Int)) = (v : Int) * 16 + (d : Int) := by rw [IntKind.wrap_i64]; omega
          have hw9 : IntKind.i64.wrap ((i : Int) + 1) = (i : Int) + 1 := by rw [IntKind.wrap_i64]; omega
          have HX := Lib.hid hdx
          clear hdx hh hx hdg
          go_wp2_with fail
          refine (HX.out _).mono ?_
          rintro e W3 ⟨rfl, rfl⟩
          go_wp2
          exact ⟨⟨i + 1, v * 16 + d, by omega, by go_num, by go_num, by trivial, HN.out⟩, by simp [intOf]; omega⟩
      · obtain rfl : i = L := by omega
        have HO : Hid (O = some v) := Lib.hid (by rw [HL.out.2.1, ← hdg, HL.out.1, List.take_length])
        clear hdg
        go_wp2
        go_ret2
        exact ⟨by rw [HO.out]; rfl, HB.out⟩
theorem sizeof_any (l : List UInt8) (hl : l.length ≤ 90000) (w : World) : Calls Tryz.prog 153 #[S l] w fun e w' => e = .returned (szT (sizeF l)) ∧ Below w.heap.size w w' := by
  rcases cut_cases 59 l with ⟨a, b, rfl, ha⟩ | ha
  · rw [size_hit b ha]
    exact sizeof_cut (a ++ 59 :: b) a b true (fun w => cut_hit 59 a b ha (by rw [List.length_append, List.length_cons] at hl; omega) w) (by rw [List.length_append, List.length_cons] at hl; omega) w
  · rw [size_miss ha]
    exact sizeof_cut l l [] false (fun w => cut_miss 59 l ha w) (by simp) w
end Go.Proofs.YtplajlccnnbifaaGreatDoor
/- The landed fail, afterCR, faultAt and readData walked. -/
namespace Go.Proofs.YtplajlccnnbifaaGreatDoor
open Go.RowKit
attribute [local go_sem] store_one S_match S_store eguard_BN nguard_BN

theorem size5 : ∀ w, (sizeOf 5).run Tryz.prog w = .ok 1 w := Tryz.sizeOf5
theorem elem5 : Elem Tryz.prog 5 := elem_of (z := .int .u8 0) (n := 1) (by kernel_rfl) (by omega) rfl
theorem own_short {base : Nat} {v : Value} {xs : List Value} {w : World} (h : Own base v xs w) : xs.length ≤ maxLen := by
  rcases h with ⟨_, rfl⟩ | ⟨_, _, _, _, _, h1, h2, _⟩
  · simp
  · omega
set_option maxRecDepth 100000 in
set_option maxHeartbeats 400000 in
theorem fail_any {w : World} {F : Nat → Prop} {g : Nat} {x : Raw} (e : Nat) (h : RawAt w F g x) :
    Calls Tryz.prog 134 #[.pointer (some ⟨g, 0, none⟩), .int .i64 (e : Int)] w fun r w' => r = .returned (.tuple #[]) ∧ RawAt w' F g (x.fail e) ∧ Moves F F w w' := by
  obtain ⟨vl, vb, h⟩ := h
  obtain ⟨⟨c0, c1, _, _⟩, ⟨_, _, c6⟩, fz⟩ := h.cells
  have f0 := fz 0
  have f1 := fz 1
  have f6 := fz 6
  have H := Lib.hid h
  clear h fz
  go_enter Tryz.func134, Tryz.ntmps134
  go_wp2
  refine bodyPost_end (results_none rfl _ _ _) rfl ?_
  have h1 := H.out.put (y := ⟨4, x.line, x.body, x.lacks, x.since, x.flds, x.bad⟩) 0 (.int .i64 4) rfl rfl rfl
  have h2 := h1.put (y := ⟨4, x.line, x.body, x.lacks, x.since, x.flds, e⟩) 6 (.int .i64 (e : Int)) rfl rfl rfl
  have h3 := h2.putL (y := x.fail e) (vn := .slice none 0 0) rfl (.inl ⟨rfl, rfl⟩) (fun k hk => by cases hk) rfl
  exact ⟨rfl, ⟨_, _, h3⟩, ((Moves.cell _ H.out.foot 0 _).trans (Moves.cell _ H.out.foot 6 _)).trans (Moves.cell _ H.out.foot 1 _)⟩
set_option maxRecDepth 100000 in
set_option maxHeartbeats 400000 in
theorem aftercr_any {w : World} {F : Nat → Prop} {g : Nat} {x : Raw} (h : RawAt w F g x) :
    Calls Tryz.prog 147 #[.pointer (some ⟨g, 0, none⟩)] w fun r w' => r = .returned (.bool (endCR x.line)) ∧ Drawn w w' := by
  obtain ⟨vl, vb, h⟩ := h
  obtain ⟨⟨_, c1, _, _⟩, _⟩ := h.cells
  have hlen := fun W => own_len (P := Tryz.prog) h.line 36 5 3 Tryz.underlying36 W
  rw [List.length_map] at hlen
  rcases List.eq_nil_or_concat x.line with h0 | ⟨l, c, h0⟩
  · rw [h0] at hlen ⊢
    rw [endCR_nil]
    have hlen : ∀ W, (Builtin.len_ #[36] 3 #[vl]).run Tryz.prog W = .ok (.int .i64 0) W := hlen
    clear h h0
    go_enter Tryz.func147, Tryz.ntmps147
    go_wp2
    go_quiet (fail)
    go_wp2
    go_ret
    exact ⟨rfl, ⟨_, rfl⟩⟩
  · rw [List.concat_eq_append] at h0
    obtain ⟨ad, hix, hcl⟩ := own_cells (P := Tryz.prog) h.line Tryz.underlying36 size5
    rw [h0] at hlen hix hcl ⊢
    rw [endCR_snoc3]
    have hn : ((l ++ [c]).map B).length = l.length + 1 := by simp
    have hix1 := hix l.length (by omega)
    have hc1 : w.cell? (ad l.length) = some (B c) := by
      have := (hcl l.length (by omega)).2.2.1
      rw [this]; simp
    have hsh := own_short h.line
    rw [h0, hn] at hsh
    simp only [maxLen] at hsh
    rw [show (l ++ [c]).length = l.length + 1 by simp] at hlen
    obtain ⟨n, hnn⟩ : ∃ n, n = l.length := ⟨_, rfl⟩
    rw [← hnn] at hlen hix1 hc1 hsh
    have hlen1 : ∀ W, (Builtin.len_ #[36] 3 #[vl]).run Tryz.prog W = .ok (.int .i64 ((n : Int) + 1)) W := fun W => by
      have := hlen W
      rw [show ((n + 1 : Nat) : Int) = (n : Int) + 1 by omega] at this
      exact this
    have hsub : IntKind.i64.wrap ((n : Int) + 1 - 1) = (n : Int) := by rw [IntKind.wrap_i64]; omega
    have hsub' : IntKind.i64.wrap (n : Int) = (n : Int) := by rw [IntKind.wrap_i64]; omega
    have hpos : decide ((n : Int) + 1 > 0) = true := decide_eq_true (by omega)
    have hpos' : decide (0 < (n : Int) + 1) = true := decide_eq_true (by omega)
    clear hlen hsh
    have he := B_eqlN 5 c 13
    generalize ad n = A at *
    clear h h0 hix hcl hn hnn
    go_enter Tryz.func147, Tryz.ntmps147
    go_wp2
    go_quiet (fail)
    go_wp2
    go_ret
    exact ⟨by rw [← beqB c 13]; rfl, ⟨_, rfl⟩⟩
set_option maxRecDepth 100000 in
set_option maxHeartbeats 1000000 in
theorem faultat_any {w : World} {F : Nat → Prop} {g : Nat} {x : Raw} (c : UInt8) (h : RawAt w F g x) :
    Calls Tryz.prog 133 #[.pointer (some ⟨g, 0, none⟩), B c] w fun r w' => r = .returned (.int .i64 (faultN x.nx x.since x.line c : Int)) ∧ Drawn w w' := by
  have hcr := aftercr_any h
  obtain ⟨vl, vb, h⟩ := h
  obtain ⟨⟨c0, c1, _, _⟩, ⟨c4, _, _⟩, _⟩ := h.cells
  have hlen := fun W => own_len (P := Tryz.prog) h.line 36 5 3 Tryz.underlying36 W
  rw [List.length_map] at hlen
  have H := Lib.hid h
  clear h
  obtain ⟨nx, line, body, lacks, since, flds, bad⟩ := x
  dsimp only at *
  obtain ⟨E, hE⟩ : ∃ E, E = faultN nx since line c := ⟨_, rfl⟩
  rw [← hE]
  unfold faultN at hE
  by_cases h1 : 2048 < since
  · rw [if_pos h1] at hE
    have hb : decide ((since : Int) > 2048) = true := decide_eq_true (by omega)
    have hb' : decide ((2048 : Int) < (since : Int)) = true := decide_eq_true (by omega)
    have HE := Lib.hid hE
    clear hE h1 hlen hcr
    go_enter Tryz.func133, Tryz.ntmps133
    go_wp2
    go_ret
    exact ⟨by rw [HE.out]; rfl, ⟨0, rfl⟩⟩
  rw [if_neg h1] at hE
  have hb : decide ((since : Int) > 2048) = false := decide_eq_false (by omega)
  have hb' : decide ((2048 : Int) < (since : Int)) = false := decide_eq_false (by omega)
  clear h1
  have q1 := B_eqlN 5 c 10
  have q2 := B_neqN 5 c 13
  have q3 := B_neqN 5 c 10
  rw [show ((c.toNat : Int) == 10) = (c == 10) from beqB c 10] at q1
  rw [show ((c.toNat : Int) != 13) = !(c == 13) from neqN c 13] at q2
  rw [show ((c.toNat : Int) != 10) = !(c == 10) from neqN c 10] at q3
  have q4 : eqGuard .neq 4 (.tmp 13) (.tmp 15) (.bool (c == 10)) (.bool (endCR line)) = pure () := rfl
  obtain ⟨z, hz⟩ : ∃ z, z = (c == 10) := ⟨_, rfl⟩
  obtain ⟨y, hy⟩ : ∃ y, y = endCR line := ⟨_, rfl⟩
  rw [← hz] at q1 q3 hE q4
  rw [← hy] at hcr hE q4
  have HC := Lib.hid hcr
  clear hcr hy
  by_cases hzy : z = y
  · subst hzy
    rw [if_neg (fun h => h rfl)] at hE
    clear q4
    cases z with
    | true =>
      obtain rfl : c = 10 := eq_of_beq hz.symm
      rw [if_neg (by rintro ⟨_, _, h⟩; exact h rfl), if_neg (by rintro ⟨_, h, _⟩; exact h rfl)] at hE
      rw [show (!((10 : UInt8) == 13)) = true from rfl] at q2
      rw [Bool.not_true] at q3
      clear hz hlen
      by_cases hn2 : nx = 2
      · have n2 : ((nx : Int) == 2) = true := by rw [beq_iff_eq]; omega
        have n0 : ((nx : Int) == 0) = false := by rw [beq_eq_false_iff_ne]; omega
        clear hn2
        have HE : Hid (E = 0) := Lib.hid hE
        clear hE
        go_enter Tryz.func133, Tryz.ntmps133
        go_wp2_with fail
        refine HC.out.mono ?_
        rintro e W1 ⟨rfl, hD⟩
        have d0 : W1.cell? ⟨g, 0, none⟩ = some (.int .i64 (nx : Int)) := by rw [hD.cell]; exact c0
        have d1 : W1.cell? ⟨g, 1, none⟩ = some vl := by rw [hD.cell]; exact c1
        have HD := Lib.hid hD
        clear hD
        go_wp2
        go_ret
        exact ⟨by rw [HE.out]; rfl, HD.out⟩
      · have n2 : ((nx : Int) == 2) = false := by rw [beq_eq_false_iff_ne]; omega
        clear hn2
        by_cases hn0 : nx = 0
        · have n0 : ((nx : Int) == 0) = true := by rw [beq_iff_eq]; omega
          clear hn0
          have HE : Hid (E = 0) := Lib.hid hE
          clear hE
          go_enter Tryz.func133, Tryz.ntmps133
          go_wp2_with fail
          refine HC.out.mono ?_
          rintro e W1 ⟨rfl, hD⟩
          have d0 : W1.cell? ⟨g, 0, none⟩ = some (.int .i64 (nx : Int)) := by rw [hD.cell]; exact c0
          have d1 : W1.cell? ⟨g, 1, none⟩ = some vl := by rw [hD.cell]; exact c1
          have HD := Lib.hid hD
          clear hD
          go_wp2
          go_ret
          exact ⟨by rw [HE.out]; rfl, HD.out⟩
        · have n0 : ((nx : Int) == 0) = false := by rw [beq_eq_false_iff_ne]; omega
          clear hn0
          have HE : Hid (E = 0) := Lib.hid hE
          clear hE
          go_enter Tryz.func133, Tryz.ntmps133
          go_wp2_with fail
          refine HC.out.mono ?_
          rintro e W1 ⟨rfl, hD⟩
          have d0 : W1.cell? ⟨g, 0, none⟩ = some (.int .i64 (nx : Int)) := by rw [hD.cell]; exact c0
          have d1 : W1.cell? ⟨g, 1, none⟩ = some vl := by rw [hD.cell]; exact c1
          have HD := Lib.hid hD
          clear hD
          go_wp2
          go_ret
          exact ⟨by rw [HE.out]; rfl, HD.out⟩
    | false =>
      have hc10 : c ≠ 10 := fun e => by rw [e] at hz; cases hz
      rw [Bool.not_false] at q3
      by_cases hn2 : nx = 2
      · have n2 : ((nx : Int) == 2) = true := by rw [beq_iff_eq]; omega
        have n0 : ((nx : Int) == 0) = false := by rw [beq_eq_false_iff_ne]; omega
        by_cases hc13 : c = 13
        · rw [if_neg (by rintro ⟨_, h, _⟩; exact h hc13), if_neg (by rintro ⟨h, _⟩; omega)] at hE
          rw [show (c == 13) = true by rw [hc13]; rfl, Bool.not_true] at q2
          clear hn2 hc13 hc10 hz hlen
          have HE : Hid (E = 0) := Lib.hid hE
          clear hE
          go_enter Tryz.func133, Tryz.ntmps133
          go_wp2_with fail
          refine HC.out.mono ?_
          rintro e W1 ⟨rfl, hD⟩
          have d0 : W1.cell? ⟨g, 0, none⟩ = some (.int .i64 (nx : Int)) := by rw [hD.cell]; exact c0
          have d1 : W1.cell? ⟨g, 1, none⟩ = some vl := by rw [hD.cell]; exact c1
          have HD := Lib.hid hD
          clear hD
          go_wp2
          go_ret
          exact ⟨by rw [HE.out]; rfl, HD.out⟩
        · rw [if_pos ⟨hn2, hc13, hc10⟩] at hE
          rw [show (c == 13) = false from beq_eq_false_iff_ne.2 hc13, Bool.not_false] at q2
          clear hn2 hc13 hc10 hz hlen
          have HE : Hid (E = 400) := Lib.hid hE
          clear hE
          go_enter Tryz.func133, Tryz.ntmps133
          go_wp2_with fail
          refine HC.out.mono ?_
          rintro e W1 ⟨rfl, hD⟩
          have d0 : W1.cell? ⟨g, 0, none⟩ = some (.int .i64 (nx : Int)) := by rw [hD.cell]; exact c0
          have d1 : W1.cell? ⟨g, 1, none⟩ = some vl := by rw [hD.cell]; exact c1
          have HD := Lib.hid hD
          clear hD
          go_wp2
          go_ret
          exact ⟨by rw [HE.out]; rfl, HD.out⟩
      · have n2 : ((nx : Int) == 2) = false := by rw [beq_eq_false_iff_ne]; omega
        rw [if_neg (by rintro ⟨h, _⟩; exact hn2 h)] at hE
        by_cases hn0 : nx = 0
        · have n0 : ((nx : Int) == 0) = true := by rw [beq_iff_eq]; omega
          obtain ⟨L, hL⟩ : ∃ L, L = line.length := ⟨_, rfl⟩
          rw [← hL] at hlen hE
          by_cases hl : L = 2048
          · rw [if_pos ⟨hn0, hc10, hl⟩] at hE
            have l0 : ((L : Int) == 2048) = true := by rw [beq_iff_eq]; omega
            clear hn0 hn2 hc10 hz q2 hl hL
            have HE : Hid (E = 431) := Lib.hid hE
            clear hE
            go_enter Tryz.func133, Tryz.ntmps133
            go_wp2_with fail
            refine HC.out.mono ?_
            rintro e W1 ⟨rfl, hD⟩
            have d0 : W1.cell? ⟨g, 0, none⟩ = some (.int .i64 (nx : Int)) := by rw [hD.cell]; exact c0
            have d1 : W1.cell? ⟨g, 1, none⟩ = some vl := by rw [hD.cell]; exact c1
            have HD := Lib.hid hD
            clear hD
            go_wp2
            go_ret
            exact ⟨by rw [HE.out]; rfl, HD.out⟩
          · rw [if_neg (by rintro ⟨_, _, h⟩; exact hl h)] at hE
            have l0 : ((L : Int) == 2048) = false := by rw [beq_eq_false_iff_ne]; omega
            clear hn0 hn2 hc10 hz q2 hl hL
            have HE : Hid (E = 0) := Lib.hid hE
            clear hE
            go_enter Tryz.func133, Tryz.ntmps133
            go_wp2_with fail
            refine HC.out.mono ?_
            rintro e W1 ⟨rfl, hD⟩
            have d0 : W1.cell? ⟨g, 0, none⟩ = some (.int .i64 (nx : Int)) := by rw [hD.cell]; exact c0
            have d1 : W1.cell? ⟨g, 1, none⟩ = some vl := by rw [hD.cell]; exact c1
            have HD := Lib.hid hD
            clear hD
            go_wp2
            go_ret
            exact ⟨by rw [HE.out]; rfl, HD.out⟩
        · have n0 : ((nx : Int) == 0) = false := by rw [beq_eq_false_iff_ne]; omega
          rw [if_neg (by rintro ⟨h, _⟩; exact hn0 h)] at hE
          clear hn0 hn2 hc10 hz hlen q2
          have HE : Hid (E = 0) := Lib.hid hE
          clear hE
          go_enter Tryz.func133, Tryz.ntmps133
          go_wp2_with fail
          refine HC.out.mono ?_
          rintro e W1 ⟨rfl, hD⟩
          have d0 : W1.cell? ⟨g, 0, none⟩ = some (.int .i64 (nx : Int)) := by rw [hD.cell]; exact c0
          have d1 : W1.cell? ⟨g, 1, none⟩ = some vl := by rw [hD.cell]; exact c1
          have HD := Lib.hid hD
          clear hD
          go_wp2
          go_ret
          exact ⟨by rw [HE.out]; rfl, HD.out⟩
  · rw [if_pos hzy] at hE
    clear hz hlen q2 q3
    cases z with
    | true =>
      cases y with
      | true => exact absurd rfl hzy
      | false =>
        clear hzy
        have HE : Hid (E = 400) := Lib.hid hE
        clear hE
        go_enter Tryz.func133, Tryz.ntmps133
        go_wp2_with fail
        refine HC.out.mono ?_
        rintro e W1 ⟨rfl, hD⟩
        have d0 : W1.cell? ⟨g, 0, none⟩ = some (.int .i64 (nx : Int)) := by rw [hD.cell]; exact c0
        have d1 : W1.cell? ⟨g, 1, none⟩ = some vl := by rw [hD.cell]; exact c1
        have HD := Lib.hid hD
        clear hD
        go_wp2
        go_ret
        exact ⟨by rw [HE.out]; rfl, HD.out⟩
    | false =>
      cases y with
      | false => exact absurd rfl hzy
      | true =>
        clear hzy
        have HE : Hid (E = 400) := Lib.hid hE
        clear hE
        go_enter Tryz.func133, Tryz.ntmps133
        go_wp2_with fail
        refine HC.out.mono ?_
        rintro e W1 ⟨rfl, hD⟩
        have d0 : W1.cell? ⟨g, 0, none⟩ = some (.int .i64 (nx : Int)) := by rw [hD.cell]; exact c0
        have d1 : W1.cell? ⟨g, 1, none⟩ = some vl := by rw [hD.cell]; exact c1
        have HD := Lib.hid hD
        clear hD
        go_wp2
        go_ret
        exact ⟨by rw [HE.out]; rfl, HD.out⟩
end Go.Proofs.YtplajlccnnbifaaGreatDoor
/- The landed readData, endHead, endTrailer and endLine walked. -/
namespace Go.Proofs.YtplajlccnnbifaaGreatDoor
open Go.RowKit
attribute [local go_sem] store_one B_match B_store S_match S_store eguard_BN nguard_BN

/-- A reader's blocks, and what was made since. -/
def Wider (F : Nat → Prop) (w w' : World) : Nat → Prop := fun k => F k ∨ (w.heap.size ≤ k ∧ k < w'.heap.size)
section
variable {w w' : World} {F : Nat → Prop} {g : Nat} {x : Raw} {vl vb : Value}
/-- The bytes grew: the new slice is stored. -/
theorem RawIn.moreB (h : RawIn w F g x vl vb) {k n c : Nat} {b : List UInt8} (hV : Own 0 (.slice (some ⟨k, 0, none⟩) n c) (b.map B) w') (hg : w.grownBy w' vb.ownBlock) (hk : vb.ownBlock = some k ∨ w.heap.size ≤ k) (hkw : k < w'.heap.size) :
    RawIn (w'.setCell ⟨g, 2, none⟩ (.slice (some ⟨k, 0, none⟩) n c)) (Wider F w w') g ⟨x.nx, x.line, b, x.lacks, x.since, x.flds, x.bad⟩ vl (.slice (some ⟨k, 0, none⟩) n c) := by
  have hrow : Row w' g (rawC x vl vb) 110 := row_grown h.row hg (fun e => (h.atB g e.symm).2.1 rfl)
  have hline : Own 0 vl (x.line.map B) w' := h.line.grown hg (fun j hj e => (h.atB j e.symm).2.2 hj)
  have hs := hg.size
  have hkg : k ≠ g := by
    rcases hk with hk | hk
    · exact (h.atB k hk).2.1
    · have := h.old g h.foot; omega
  refine ⟨hrow.set 2 _, hline.of_block (by simp [World.setCell]) (fun j hj => Below.heap_setCell _ _ _ _ (fun e => (h.atL j hj).2 e)), hV.of_block (by simp [World.setCell]) (fun j hj => Below.heap_setCell _ _ _ _ (fun e => ?_)), fun j hj => ⟨.inl (h.atL j hj).1, (h.atL j hj).2⟩, fun j hj => ?_, .inl h.foot, fun j hj => ?_⟩
  · have e1 : k = j := Option.some.inj hj
    exact hkg (e1.trans e)
  · have e1 : k = j := Option.some.inj hj
    subst e1
    refine ⟨?_, hkg, fun e => ?_⟩
    · rcases hk with hk | hk
      · exact .inl (h.atB k hk).1
      · exact .inr ⟨hk, hkw⟩
    · rcases hk with hk | hk
      · exact (h.atB k hk).2.2 e
      · have := h.old k (h.atL k e).1; omega
  · rw [show (w'.setCell ⟨g, 2, none⟩ (.slice (some ⟨k, 0, none⟩) n c)).heap.size = w'.heap.size by simp [World.setCell]]
    rcases hj with hj | hj
    · have := h.old j hj; omega
    · exact hj.2
/-- The line grew: the new slice is stored. -/
theorem RawIn.moreL (h : RawIn w F g x vl vb) {k n c : Nat} {b : List UInt8} (hV : Own 0 (.slice (some ⟨k, 0, none⟩) n c) (b.map B) w') (hg : w.grownBy w' vl.ownBlock) (hk : vl.ownBlock = some k ∨ w.heap.size ≤ k) (hkw : k < w'.heap.size) :
    RawIn (w'.setCell ⟨g, 1, none⟩ (.slice (some ⟨k, 0, none⟩) n c)) (Wider F w w') g ⟨x.nx, b, x.body, x.lacks, x.since, x.flds, x.bad⟩ (.slice (some ⟨k, 0, none⟩) n c) vb := by
  have hrow : Row w' g (rawC x vl vb) 110 := row_grown h.row hg (fun e => (h.atL g e.symm).2 rfl)
  have hbody : Own 0 vb (x.body.map B) w' := h.body.grown hg (fun j hj e => (h.atB j hj).2.2 e.symm)
  have hs := hg.size
  have hkg : k ≠ g := by
    rcases hk with hk | hk
    · exact (h.atL k hk).2
    · have := h.old g h.foot; omega
  refine ⟨hrow.set 1 _, hV.of_block (by simp [World.setCell]) (fun j hj => Below.heap_setCell _ _ _ _ (fun e => ?_)), hbody.of_block (by simp [World.setCell]) (fun j hj => Below.heap_setCell _ _ _ _ (fun e => (h.atB j hj).2.1 e)), fun j hj => ?_, fun j hj => ⟨.inl (h.atB j hj).1, (h.atB j hj).2.1, fun e => ?_⟩, .inl h.foot, fun j hj => ?_⟩
  · have e1 : k = j := Option.some.inj hj
    exact hkg (e1.trans e)
  · have e1 : k = j := Option.some.inj hj
    subst e1
    refine ⟨?_, hkg⟩
    rcases hk with hk | hk
    · exact .inl (h.atL k hk).1
    · exact .inr ⟨hk, hkw⟩
  · have e1 : k = j := Option.some.inj e
    subst e1
    rcases hk with hk | hk
    · exact (h.atB k hj).2.2 hk
    · have := h.old k (h.atB k hj).1; omega
  · rw [show (w'.setCell ⟨g, 1, none⟩ (.slice (some ⟨k, 0, none⟩) n c)).heap.size = w'.heap.size by simp [World.setCell]]
    rcases hj with hj | hj
    · have := h.old j hj; omega
    · exact hj.2
end
set_option maxRecDepth 100000 in
set_option maxHeartbeats 1000000 in
theorem readdata_any {w : World} {F : Nat → Prop} {g : Nat} {x : Raw} (c : UInt8) (h : RawAt w F g x) (hb : x.body.length ≤ 100000) (h1 : 1 ≤ x.lacks) (h2 : x.lacks ≤ 100000) :
    Calls Tryz.prog 132 #[.pointer (some ⟨g, 0, none⟩), B c] w fun r w' => r = .returned (.tuple #[]) ∧ ∃ F', RawAt w' F' g (x.dat c) ∧ Moves F F' w w' := by
  obtain ⟨vl, vb, h⟩ := h
  obtain ⟨⟨_, _, c2, _⟩, _⟩ := h.cells
  obtain ⟨k, cp, W2, hrun, hown, hgr, hkk, hkw⟩ := own_more (P := Tryz.prog) h.body Tryz.underlying36 elem5 36 (B c) rfl (by rw [List.length_map]; omega)
  rw [List.length_map] at hrun hown
  rw [show x.body.map B ++ [B c] = (x.body ++ [c]).map B by simp] at hown
  have h3 := h.moreB hown hgr hkk hkw
  have hrow : Row W2 g (rawC x vl vb) 110 := row_grown h.row hgr (fun e => (h.atB g e.symm).2.1 rfl)
  obtain ⟨l, hl⟩ : ∃ l, x.lacks = l + 1 := ⟨x.lacks - 1, by omega⟩
  have d0 : W2.cell? ⟨g, 0, none⟩ = some (.int .i64 (x.nx : Int)) := cell_of_row W2 _ 0 _ _ (0, 0) hrow
  have d2 : W2.cell? ⟨g, 2, none⟩ = some vb := cell_of_row W2 _ 2 _ _ (0, 0) hrow
  have d3 : W2.cell? ⟨g, 3, none⟩ = some (.int .i64 ((l : Int) + 1)) := by
    have := cell_of_row W2 g 3 _ _ (0, 0) hrow
    rw [this]
    show some (Value.int .i64 (x.lacks : Int)) = _
    rw [hl]; rfl
  have f0 := hrow.frozen 0
  have f2 := hrow.frozen 2
  have f3 := hrow.frozen 3
  have hM : Moves F (Wider F w W2) w W2 := ⟨hgr.os, hgr.tape, hgr.output, hgr.size, fun j hj => hj.imp id (·.1), fun j hj hn => hgr.block j hj (fun e => hn (h.atB j e.symm).1)⟩
  have hw1 : IntKind.i64.wrap ((l : Int) + 1 - 1) = (l : Int) := by rw [IntKind.wrap_i64]; omega
  have hw2 : IntKind.i64.wrap (l : Int) = (l : Int) := by rw [IntKind.wrap_i64]; omega
  have HH := Lib.hid (And.intro h3 (And.intro hM hl))
  clear h h1 h2 h3 hM hown hgr hkk hkw hrow hb
  by_cases h0 : l = 0
  · have hz : ((l : Int) == 0) = true := by rw [beq_iff_eq]; omega
    go_enter Tryz.func132, Tryz.ntmps132
    go_wp2_with (at_builtin; refine wpList_append_by rfl 36 36 (.tmp 8) (.tmp 10) rfl vb (.slice (some ⟨w.heap.size, 0, none⟩) 1 1) rfl rfl _ _ hrun ?_)
    go_wp2
    refine bodyPost_end (results_none rfl _ _ _) rfl ?_
    have hl := HH.out.2.2
    have e1 := HH.out.1.put (y := ⟨x.nx, x.line, x.body ++ [c], 0, x.since, x.flds, x.bad⟩) 3 (.int .i64 0) rfl rfl rfl
    have e2 := e1.put (y := x.dat c) 0 (.int .i64 2) (by unfold Raw.dat; rw [if_pos (by omega), show x.lacks - 1 = 0 by omega]; rfl) rfl rfl
    exact ⟨rfl, _, ⟨_, _, e2⟩, ((HH.out.2.1.trans (Moves.cell _ HH.out.1.foot 2 _)).trans (Moves.cell _ HH.out.1.foot 3 _)).trans (Moves.cell _ HH.out.1.foot 0 _)⟩
  · have hz : ((l : Int) == 0) = false := by rw [beq_eq_false_iff_ne]; omega
    go_enter Tryz.func132, Tryz.ntmps132
    go_wp2_with (at_builtin; refine wpList_append_by rfl 36 36 (.tmp 8) (.tmp 10) rfl vb (.slice (some ⟨w.heap.size, 0, none⟩) 1 1) rfl rfl _ _ hrun ?_)
    go_wp2
    refine bodyPost_end (results_none rfl _ _ _) rfl ?_
    have hl := HH.out.2.2
    have e1 := HH.out.1.put (y := x.dat c) 3 (.int .i64 (l : Int)) (by unfold Raw.dat; rw [if_neg (by omega), show x.lacks - 1 = l by omega]; rfl) rfl rfl
    exact ⟨rfl, _, ⟨_, _, e1⟩, (HH.out.2.1.trans (Moves.cell _ HH.out.1.foot 2 _)).trans (Moves.cell _ HH.out.1.foot 3 _)⟩
set_option maxRecDepth 100000 in
set_option maxHeartbeats 1000000 in
theorem endhead_any {w : World} {F : Nat → Prop} {g : Nat} {x : Raw} (s : List UInt8) (hs : s.length ≤ 90000) (h : RawAt w F g x) (hb : x.body.length ≤ 4096) :
    Calls Tryz.prog 148 #[.pointer (some ⟨g, 0, none⟩), S s] w fun r w' => r = .returned (.tuple #[]) ∧ RawAt w' F g (x.endHead s) ∧ Moves F F w w' := by
  have hsz := sizeof_any s hs w
  have hff : ∀ (W : World), RawAt W F g x → Calls Tryz.prog 134 #[.pointer (some ⟨g, 0, none⟩), .int .i64 400] W fun r w' => r = .returned (.tuple #[]) ∧ RawAt w' F g (x.fail 400) ∧ Moves F F W w' := fun W h => fail_any 400 h
  have hfg : ∀ (W : World), RawAt W F g x → Calls Tryz.prog 134 #[.pointer (some ⟨g, 0, none⟩), .int .i64 413] W fun r w' => r = .returned (.tuple #[]) ∧ RawAt w' F g (x.fail 413) ∧ Moves F F W w' := fun W h => fail_any 413 h
  have H4 := Lib.hid hff
  have H5 := Lib.hid hfg
  have H := Lib.hid h
  clear hff hfg h
  have hX : x.endHead s = match sizeF s with
    | none => x.fail 400
    | some n => if 4096 < x.body.length + n then x.fail 413 else if n = 0 then ⟨3, x.line, x.body, x.lacks, x.since, x.flds, x.bad⟩ else ⟨1, x.line, x.body, n, x.since, x.flds, x.bad⟩ := rfl
  cases hz : sizeF s with
  | none =>
    rw [hz] at hsz hX
    unfold szT at hsz
    dsimp only at hsz hX
    have HS := Lib.hid hsz
    rw [hX]
    clear hsz hz hX
    go_enter Tryz.func148, Tryz.ntmps148
    go_wp2_with fail
    refine HS.out.mono ?_
    rintro e W1 ⟨rfl, hB⟩
    have H1 := Lib.hid (And.intro (H.out.below hB) (Moves.of_below (F := F) hB))
    clear hB
    go_wp2_with fail
    refine (H4.out _ H1.out.1).mono ?_
    rintro e W2 ⟨rfl, hR, hM⟩
    have H2 := Lib.hid (And.intro hR hM)
    clear hR hM
    go_wp2
    refine bodyPost_end (results_none rfl _ _ _) rfl ?_
    exact ⟨rfl, H2.out.1, H1.out.2.trans H2.out.2⟩
  | some n =>
    rw [hz] at hsz hX
    have hn := sizeF_small hz
    unfold szT at hsz
    dsimp only at hsz hX
    have HS := Lib.hid hsz
    obtain ⟨b, hbb⟩ : ∃ b, b = x.body.length := ⟨_, rfl⟩
    rw [← hbb] at hX
    have hw : IntKind.i64.wrap (4096 - (b : Int)) = 4096 - (b : Int) := by rw [IntKind.wrap_i64]; omega
    clear hsz hz
    by_cases hbig : 4096 < b + n
    · rw [if_pos hbig] at hX
      rw [hX]
      have hg : decide ((n : Int) > 4096 - (b : Int)) = true := decide_eq_true (by omega)
      have hg' : decide (4096 - (b : Int) < (n : Int)) = true := decide_eq_true (by omega)
      have HB := Lib.hid hbb
      clear hX hbig hbb hb hn
      go_enter Tryz.func148, Tryz.ntmps148
      go_wp2_with fail
      refine HS.out.mono ?_
      rintro e W1 ⟨rfl, hB⟩
      have H1 := Lib.hid (And.intro (H.out.below hB) (Moves.of_below (F := F) hB))
      clear hB
      obtain ⟨vl, vb, hi⟩ := H1.out.1
      obtain ⟨⟨_, _, c2, _⟩, _⟩ := hi.cells
      have hlen := fun W => own_len (P := Tryz.prog) hi.body 36 5 3 Tryz.underlying36 W
      rw [List.length_map, ← HB.out] at hlen
      clear hi
      go_wp2_with fail
      refine (H5.out _ H1.out.1).mono ?_
      rintro e W2 ⟨rfl, hR, hM⟩
      have H2 := Lib.hid (And.intro hR hM)
      clear hR hM
      go_wp2
      refine bodyPost_end (results_none rfl _ _ _) rfl ?_
      exact ⟨rfl, H2.out.1, H1.out.2.trans H2.out.2⟩
    · rw [if_neg hbig] at hX
      have hg : decide ((n : Int) > 4096 - (b : Int)) = false := decide_eq_false (by omega)
      have hg' : decide (4096 - (b : Int) < (n : Int)) = false := decide_eq_false (by omega)
      have HB := Lib.hid hbb
      clear hbb
      by_cases h0 : n = 0
      · rw [if_pos h0] at hX
        rw [hX]
        have hz0 : ((n : Int) == 0) = true := by rw [beq_iff_eq]; omega
        clear hX hbig hb hn h0
        go_enter Tryz.func148, Tryz.ntmps148
        go_wp2_with fail
        refine HS.out.mono ?_
        rintro e W1 ⟨rfl, hB⟩
        have H1 := Lib.hid (And.intro (H.out.below hB) (Moves.of_below (F := F) hB))
        clear hB
        obtain ⟨vl, vb, hi⟩ := H1.out.1
        obtain ⟨⟨c0, _, c2, _⟩, _, fz⟩ := hi.cells
        have f0 := fz 0
        have hlen := fun W => own_len (P := Tryz.prog) hi.body 36 5 3 Tryz.underlying36 W
        rw [List.length_map, ← HB.out] at hlen
        have HI := Lib.hid hi
        clear hi fz
        go_wp2
        refine bodyPost_end (results_none rfl _ _ _) rfl ?_
        exact ⟨rfl, ⟨_, _, HI.out.put 0 (.int .i64 3) rfl rfl rfl⟩, H1.out.2.trans (Moves.cell _ HI.out.foot 0 _)⟩
      · rw [if_neg h0] at hX
        rw [hX]
        have hz0 : ((n : Int) == 0) = false := by rw [beq_eq_false_iff_ne]; omega
        clear hX hbig hb hn h0
        go_enter Tryz.func148, Tryz.ntmps148
        go_wp2_with fail
        refine HS.out.mono ?_
        rintro e W1 ⟨rfl, hB⟩
        have H1 := Lib.hid (And.intro (H.out.below hB) (Moves.of_below (F := F) hB))
        clear hB
        obtain ⟨vl, vb, hi⟩ := H1.out.1
        obtain ⟨⟨c0, _, c2, c3⟩, _, fz⟩ := hi.cells
        have f0 := fz 0
        have f3 := fz 3
        have hlen := fun W => own_len (P := Tryz.prog) hi.body 36 5 3 Tryz.underlying36 W
        rw [List.length_map, ← HB.out] at hlen
        have HI := Lib.hid hi
        clear hi fz
        go_wp2
        refine bodyPost_end (results_none rfl _ _ _) rfl ?_
        have e1 := HI.out.put (y := ⟨1, x.line, x.body, x.lacks, x.since, x.flds, x.bad⟩) 0 (.int .i64 1) rfl rfl rfl
        exact ⟨rfl, ⟨_, _, e1.put 3 (.int .i64 (n : Int)) rfl rfl rfl⟩, (H1.out.2.trans (Moves.cell _ HI.out.foot 0 _)).trans (Moves.cell _ HI.out.foot 3 _)⟩
end Go.Proofs.YtplajlccnnbifaaGreatDoor
