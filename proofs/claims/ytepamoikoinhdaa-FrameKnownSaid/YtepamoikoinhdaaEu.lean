/- FrameBack (stage 15): what may not be. (mkeu.py writes it.) -/
import Derived.Test.YtepamoikoinhdaaEl
import Derived.BigQuiet
namespace Go.Proofs.Ytepamoikoinhdaa
open Go.RowKit
attribute [local go_sem] store_one B_match B_store S_match S_store

theorem neq_key (K L : Key4) (w : World) : (binOp .neq 22 (.agg (kC K)) (.agg (kC L))).run Try.prog w = .ok (.bool !(K.k0 == L.k0 && (K.k1 == L.k1 && (K.k2 == L.k2 && K.k3 == L.k3)))) w := by
  have := eqin_key 9998 K L w
  unfold kV at this
  rw [run_neq_struct, this]; rfl
theorem grd_key (op : BinOp) (f g : Key4) (x y : Operand) (w : World) : (eqGuard op 22 x y (.agg (kC f)) (.agg (kC g))).run Try.prog w = .ok () w := run_eqGuard_agg w op 22 x y _ _ (by kernel_rfl)
theorem no_why {f : Frm} (h : okFr f = false) : f.rsv < 0 ∨ 7 < f.rsv ∨ f.op < 0 ∨ 15 < f.op ∨ (f.masked = false ∧ f.key ≠ key0) := by
  rcases Classical.em (f.rsv < 0 ∨ 7 < f.rsv ∨ f.op < 0 ∨ 15 < f.op ∨ (f.masked = false ∧ f.key ≠ key0)) with h1 | h1
  · exact h1
  · rw [ok_yes (fun e => h1 (.inl e)) (fun e => h1 (.inr (.inl e))) (fun e => h1 (.inr (.inr (.inl e)))) (fun e => h1 (.inr (.inr (.inr (.inl e))))) (by
      cases hm : f.masked with
      | true => exact .inl rfl
      | false => exact .inr (Classical.byContradiction fun hk => h1 (.inr (.inr (.inr (.inr ⟨hm, hk⟩))))))] at h
    cases h
set_option maxRecDepth 100000 in
set_option maxHeartbeats 2000000 in
theorem back15_no {w : World} (C : FrameI w) (f : Frm) (t : List UInt8) (cut : Nat) (hok : okFr f = false) : Calls Try.prog 8 #[frV f, S t, .int .u32 (cut : Int)] w fun e w' => e = .returned (.bool true) ∧ Below w.heap.size w w' := by
  obtain ⟨W1, hW1⟩ : ∃ W, W = w.alloc (.cells (frC f) 34) := ⟨_, rfl⟩
  have H1 : Hid (Row W1 w.heap.size (frC f) 34 ∧ Below w.heap.size w W1) := Lib.hid (by rw [hW1]; exact ⟨row_new _ _ _, (Below.refl _ _).alloc (Nat.le_refl _) _⟩)
  have HA := Lib.hid (awake15_any (C.up H1.out.2))
  have hlN := run_len_S (P := Try.prog) Try.underlying9 3 f.data
  have hlM := run_len_S (P := Try.prog) Try.underlying9 3 t
  have HY : Hid (∀ W, Below w.heap.size w W → f.data.length ≤ 70000 → Calls Try.prog 12 #[frV f] W fun e w' => e = .returned (.tuple #[.string ⟨#[]⟩, .int .i64 1]) ∧ Below W.heap.size W w') := Lib.hid fun W hb hl => by
    have := C.bytes f W hb (by omega)
    rw [show bytesV f = .tuple #[.string ⟨#[]⟩, .int .i64 1] by unfold bytesV; rw [if_neg (by rw [hok]; decide), if_neg (by rw [hok]; decide)]; rfl] at this
    exact this
  obtain ⟨N, hN⟩ : ∃ N, N = f.data.length := ⟨_, rfl⟩
  obtain ⟨M, hM⟩ : ∃ M, M = t.length := ⟨_, rfl⟩
  rw [← hN] at hlN HY
  rw [← hM] at hlM
  have hcase := no_why hok
  have nk := fun x y w' => grd_key .neq f.key key0 x y w'
  have ek := fun w' => neq_key f.key key0 w'
  have hz : kC key0 = #[.int .u8 0, .int .u8 0, .int .u8 0, .int .u8 0] := rfl
  rw [hz] at nk ek
  clear C hN hM hok hz
  obtain ⟨fin, rsv, op, m, ⟨k0, k1, k2, k3⟩, data⟩ := f
  unfold frV at HY ⊢
  unfold frC at hW1 H1 HY ⊢
  unfold kC at nk ek
  dsimp only at *
  rw [hW1] at HA
  go_enter Try.func8, Try.ntmps8
  go_wp2_with fail
  refine HA.out.mono ?_
  rintro e W2 ⟨rfl, hB2⟩
  rw [← hW1] at hB2
  clear HA hW1
  have hr2 := H1.out.1.below hB2 H1.out.1.lt
  have H2 := Lib.hid (And.intro hr2 (H1.out.2.trans (hB2.mono H1.out.2.size)))
  have c0 : W2.cell? ⟨w.heap.size, 0, none⟩ = some (.bool fin) := cell_of_row W2 _ 0 _ _ (0, 0) hr2
  have c1 : W2.cell? ⟨w.heap.size, 1, none⟩ = some (.int .i64 rsv) := cell_of_row W2 _ 1 _ _ (0, 0) hr2
  have c2 : W2.cell? ⟨w.heap.size, 2, none⟩ = some (.int .i64 op) := cell_of_row W2 _ 2 _ _ (0, 0) hr2
  have c3 : W2.cell? ⟨w.heap.size, 3, none⟩ = some (.bool m) := cell_of_row W2 _ 3 _ _ (0, 0) hr2
  have c4 : W2.cell? ⟨w.heap.size, 4, none⟩ = some (B k0) := cell_of_row W2 _ 4 _ _ (0, 0) hr2
  have c5 : W2.cell? ⟨w.heap.size, 5, none⟩ = some (B k1) := cell_of_row W2 _ 5 _ _ (0, 0) hr2
  have c6 : W2.cell? ⟨w.heap.size, 6, none⟩ = some (B k2) := cell_of_row W2 _ 6 _ _ (0, 0) hr2
  have c7 : W2.cell? ⟨w.heap.size, 7, none⟩ = some (B k3) := cell_of_row W2 _ 7 _ _ (0, 0) hr2
  have c8 : W2.cell? ⟨w.heap.size, 8, none⟩ = some (S data) := cell_of_row W2 _ 8 _ _ (0, 0) hr2
  clear hr2 hB2 H1
  by_cases hbig : 70000 < N
  · have g1 : decide ((70000 : Int) < (N : Int)) = true := decide_eq_true (by omega)
    have g1' : decide ((N : Int) > 70000) = true := decide_eq_true (by omega)
    go_wp2
    go_ret
    exact ⟨rfl, H2.out.2⟩
  have g1 : decide ((70000 : Int) < (N : Int)) = false := decide_eq_false (by omega)
  have g1' : decide ((N : Int) > 70000) = false := decide_eq_false (by omega)
  by_cases hbig2 : 300 < M
  · have g2 : decide ((300 : Int) < (M : Int)) = true := decide_eq_true (by omega)
    have g2' : decide ((M : Int) > 300) = true := decide_eq_true (by omega)
    go_wp2
    go_ret
    exact ⟨rfl, H2.out.2⟩
  have g2 : decide ((300 : Int) < (M : Int)) = false := decide_eq_false (by omega)
  have g2' : decide ((M : Int) > 300) = false := decide_eq_false (by omega)
  have HC := Lib.hid (HY.out W2 H2.out.2 (by omega))
  go_wp2_with fail
  refine HC.out.mono ?_
  rintro e W3 ⟨rfl, hB3⟩
  clear HC c0 c1 c2 c3 c4 c5 c6 c7 c8
  have hr3 := H2.out.1.below hB3 H2.out.1.lt
  have HE := Lib.hid (H2.out.2.trans (hB3.mono H2.out.2.size))
  have c0 : W3.cell? ⟨w.heap.size, 0, none⟩ = some (.bool fin) := cell_of_row W3 _ 0 _ _ (0, 0) hr3
  have c1 : W3.cell? ⟨w.heap.size, 1, none⟩ = some (.int .i64 rsv) := cell_of_row W3 _ 1 _ _ (0, 0) hr3
  have c2 : W3.cell? ⟨w.heap.size, 2, none⟩ = some (.int .i64 op) := cell_of_row W3 _ 2 _ _ (0, 0) hr3
  have c3 : W3.cell? ⟨w.heap.size, 3, none⟩ = some (.bool m) := cell_of_row W3 _ 3 _ _ (0, 0) hr3
  have c4 : W3.cell? ⟨w.heap.size, 4, none⟩ = some (B k0) := cell_of_row W3 _ 4 _ _ (0, 0) hr3
  have c5 : W3.cell? ⟨w.heap.size, 5, none⟩ = some (B k1) := cell_of_row W3 _ 5 _ _ (0, 0) hr3
  have c6 : W3.cell? ⟨w.heap.size, 6, none⟩ = some (B k2) := cell_of_row W3 _ 6 _ _ (0, 0) hr3
  have c7 : W3.cell? ⟨w.heap.size, 7, none⟩ = some (B k3) := cell_of_row W3 _ 7 _ _ (0, 0) hr3
  have c8 : W3.cell? ⟨w.heap.size, 8, none⟩ = some (S data) := cell_of_row W3 _ 8 _ _ (0, 0) hr3
  clear hr3 hB3 H2
  by_cases h0 : rsv < 0
  · have g0 : decide (rsv < 0) = true := decide_eq_true h0
    clear hcase nk ek
    go_wp2
    go_ret
    exact ⟨rfl, HE.out⟩
  have a0 : decide (rsv < 0) = false := decide_eq_false h0
  by_cases h1 : 7 < rsv
  · have a1 : decide (7 < rsv) = true := decide_eq_true h1
    have e1 : decide (rsv > 7) = true := decide_eq_true h1
    clear hcase nk ek
    go_wp2
    go_ret
    exact ⟨rfl, HE.out⟩
  have a1 : decide (7 < rsv) = false := decide_eq_false h1
  have e1 : decide (rsv > 7) = false := decide_eq_false h1
  by_cases h2 : op < 0
  · have a2 : decide (op < 0) = true := decide_eq_true h2
    clear hcase nk ek
    go_wp2
    go_ret
    exact ⟨rfl, HE.out⟩
  have a2 : decide (op < 0) = false := decide_eq_false h2
  by_cases h3 : 15 < op
  · have a3 : decide (15 < op) = true := decide_eq_true h3
    have e3 : decide (op > 15) = true := decide_eq_true h3
    clear hcase nk ek
    go_wp2
    go_ret
    exact ⟨rfl, HE.out⟩
  have a3 : decide (15 < op) = false := decide_eq_false h3
  have e3 : decide (op > 15) = false := decide_eq_false h3
  obtain ⟨rfl, hK⟩ : m = false ∧ (⟨k0, k1, k2, k3⟩ : Key4) ≠ key0 := by
    rcases hcase with h | h | h | h | h
    · exact absurd h h0
    · exact absurd h h1
    · exact absurd h h2
    · exact absurd h h3
    · exact h
  have hk := key_ne hK
  dsimp only at hk
  have hkb : (k0 == 0 && (k1 == 0 && (k2 == 0 && k3 == 0))) = false := by
    rw [Bool.eq_false_iff]
    intro e
    simp only [Bool.and_eq_true, beq_iff_eq] at e
    rcases hk with h | h | h | h
    · exact h e.1
    · exact h e.2.1
    · exact h e.2.2.1
    · exact h e.2.2.2
  simp only [key0] at ek
  rw [hkb] at ek
  simp only [Bool.not_false] at ek
  clear hcase hk hkb hK
  go_wp2
  go_ret
  exact ⟨rfl, HE.out⟩
end Go.Proofs.Ytepamoikoinhdaa
