/- FramesKnown (stage 16) walked, over any package of frames as they come. (mkhl.py writes it.) -/
import Derived.Test.YtlmolmmhkddpaaaHi
namespace Go.Proofs.Ytlmolmmhkddpaaa
open Go.RowKit
attribute [local go_sem] store_one B_match B_store S_match S_store

def failsL : List (List UInt8) := [[129, 2], [131, 128, 0, 0, 0, 0], [9, 128, 0, 0, 0, 0], [193, 128, 0, 0, 0, 0], [129, 254, 0, 5, 0, 0, 0, 0], [136, 254, 0, 126, 0, 0, 0, 0], [130, 255, 128, 0, 0, 0, 0, 0, 0, 0, 0, 0, 0, 0]]
def failsC : Array Value := #[.string ⟨#[129, 2]⟩, .string ⟨#[131, 128, 0, 0, 0, 0]⟩, .string ⟨#[9, 128, 0, 0, 0, 0]⟩, .string ⟨#[193, 128, 0, 0, 0, 0]⟩, .string ⟨#[129, 254, 0, 5, 0, 0, 0, 0]⟩, .string ⟨#[136, 254, 0, 126, 0, 0, 0, 0]⟩, .string ⟨#[130, 255, 128, 0, 0, 0, 0, 0, 0, 0, 0, 0, 0, 0]⟩]
theorem fails_get (i : Nat) (f : List UInt8) (h : failsL[i]? = some f) : failsC[i]? = some (S f) := by
  have hi : i < 7 := (List.getElem?_eq_some_iff.1 h).1
  have : i = 0 ∨ i = 1 ∨ i = 2 ∨ i = 3 ∨ i = 4 ∨ i = 5 ∨ i = 6 := by omega
  rcases this with rfl | rfl | rfl | rfl | rfl | rfl | rfl <;> (simp [failsL] at h; subst h; rfl)
theorem fails_next (i : Nat) (f : List UInt8) (h : failsL[i]? = some f) : nextF ((fresh16 true).feed f) = some (failE, ⟨true, true, none, []⟩) ∧ f.length ≤ 100 := by
  have hi : i < 7 := (List.getElem?_eq_some_iff.1 h).1
  have : i = 0 ∨ i = 1 ∨ i = 2 ∨ i = 3 ∨ i = 4 ∨ i = 5 ∨ i = 6 := by omega
  rcases this with rfl | rfl | rfl | rfl | rfl | rfl | rfl <;> (simp [failsL] at h; subst h; exact ⟨by kernel_rfl, by decide⟩)
def knS : List UInt8 := [137, 128, 0, 0, 0, 0]
theorem kn_told : toldF [] ((fresh16 true).feed knS) = [⟨1, 9, true, 0, []⟩, ⟨3, 0, false, 0, []⟩] := by kernel_rfl
set_option maxRecDepth 100000 in
set_option maxHeartbeats 4000000 in
theorem known16_any {w : World} {zr : Array Value} {RA : World → (Nat → Prop) → Nat → Fst → Prop} (C : FramesI w zr RA) : Calls Try.prog 3 #[] w fun e w' => e = .returned (.bool true) ∧ Below w.heap.size w w' := by
  have HN := Lib.hid (C.new true w (Below.refl _ _))
  go_enter Try.func3, Try.ntmps3
  go_wp2_with fail
  refine HN.out.mono ?_
  rintro e W1 ⟨g, F1, rfl, hR1, hF1, hB1⟩
  have H1 : Hid (AtR RA w W1 F1 g (fresh16 true)) := Lib.hid ⟨hR1, hB1, hF1⟩
  clear hR1 hF1 hB1 HN
  have HC := Lib.hid (C.feed knS H1.out.1 H1.out.2.1 (by decide))
  go_wp2_with fail
  refine HC.out.mono ?_
  rintro e W2 ⟨rfl, F2, hR, hm⟩
  have H2 := Lib.hid (H1.out.moves hR hm)
  clear hR hm HC H1
  have HC := Lib.hid (told16_new C H2.out (by decide))
  rw [kn_told] at HC
  go_wp2_with fail
  refine HC.out.mono ?_
  rintro e W3 ⟨V3, F3, rfl, hrow, hat, hm⟩
  obtain ⟨W4, hW4⟩ : ∃ W, W = W3.alloc (.cells failsC 9) := ⟨_, rfl⟩
  obtain ⟨b, hb⟩ : ∃ b, b = W3.heap.size := ⟨_, rfl⟩
  have hal : Below W3.heap.size W3 W4 := by rw [hW4]; exact (Below.refl _ _).alloc (Nat.le_refl _) _
  have H4 : Hid (EvR 29 w.heap.size V3 [⟨1, 9, true, 0, []⟩, ⟨3, 0, false, 0, []⟩] W4 ∧ Below w.heap.size w W4 ∧ Row W4 b failsC 9) := Lib.hid ⟨hrow.1.below hal, hat.2.1.trans (hal.mono hat.2.1.size), by rw [hW4, hb]; exact row_new _ _ _⟩
  have C4 := Lib.hid (C.up H4.out.2.1)
  unfold failsC at hW4
  clear hrow hat hm HC H2 hal
  go_wp2
  rw [← hW4, ← hb]
  clear hW4 hb
  have nfail : ∀ (e : Ev × Fst), True := fun _ => trivial
  go_loopw [4] (fun iv wr => ∃ i : Nat, i ≤ 7 ∧ iv = .int .i64 (i : Int) ∧ Hid (Below W4.heap.size W4 wr)) (fun iv _ => 7 - (intOf iv).toNat)
  case atStart => exact ⟨0, by omega, rfl, Lib.hid (Below.refl _ _)⟩
  case round =>
    obtain ⟨i, hi, rfl, HB⟩ := hrel
    by_cases hlt : i < 7
    · have g1 : decide ((i : Int) < 7) = true := decide_eq_true (by omega)
      obtain ⟨f, hf⟩ : ∃ f, failsL[i]? = some f := ⟨failsL[i]'hlt, List.getElem?_eq_getElem _⟩
      obtain ⟨hn, hfl⟩ := fails_next i f hf
      have hix : ∀ W, (Instr.indexAt 27 (.slice (some ⟨b, 0, none⟩) 7 7) (.int .i64 (i : Int))).run Try.prog W = .ok (.pointer (some ⟨b, i, none⟩)) W := fun W => by
        have h := run_index_at (P := Try.prog) Try.underlying27 (fun w => Try.sizeOf9 w) b 0 7 7 i hlt W
        rw [Nat.zero_add, Nat.mul_one] at h
        exact h
      have HFG := Lib.hid (And.intro (fails_get i f hf) hfl)
      have hv1 : nextV ((fresh16 true).feed f) = .tuple #[.agg #[.int .i64 4, .int .i64 0, .bool false, .int .i64 0, S []], .bool true] := by unfold nextV; rw [hn]; rfl
      have hv2 : nextS ((fresh16 true).feed f) = ⟨true, true, none, []⟩ := by unfold nextS; rw [hn]
      have HV := Lib.hid (And.intro hv1 hv2)
      have hw1 : IntKind.i64.wrap ((i : Int) + 1) = (i : Int) + 1 := by rw [IntKind.wrap_i64]; omega
      have eq1 : ∀ W, (Op.equalIn 10000 29 (.agg #[.int .i64 4, .int .i64 0, .bool false, .int .i64 0, .string ⟨#[]⟩]) (.agg #[.int .i64 4, .int .i64 0, .bool false, .int .i64 0, .string ⟨#[]⟩])).run Try.prog W = .ok true W := fun W => eqin_evF ⟨4, 0, false, 0, []⟩ W
      have gq1 : ∀ x y W, (eqGuard .neq 29 x y (.agg #[.int .i64 4, .int .i64 0, .bool false, .int .i64 0, .string ⟨#[]⟩]) (.agg #[.int .i64 4, .int .i64 0, .bool false, .int .i64 0, .string ⟨#[]⟩])).run Try.prog W = .ok () W := fun x y W => run_eqGuard_agg W .neq 29 x y _ _ (by kernel_rfl)
      clear hn hf hfl hv1 hv2
      have HC := Lib.hid (C4.out.new true wr HB.out)
      go_wp2_with fail
      refine HC.out.mono ?_
      rintro e V1 ⟨gx, Fx, rfl, hR, hF, hB⟩
      have K1 : Hid (AtR RA W4 V1 Fx gx (fresh16 true)) := Lib.hid ⟨hR, HB.out.trans (hB.mono HB.out.size), fun k hk => Nat.le_trans HB.out.size (hF k hk)⟩
      clear hR hF hB HC
      have y0 : V1.cell? ⟨b, i, none⟩ = some (S f) := by rw [cell_of_row V1 _ i _ _ (0, 0) (H4.out.2.2.below K1.out.2.1 H4.out.2.2.lt)]; exact HFG.out.1
      have HC := Lib.hid (C4.out.feed f K1.out.1 K1.out.2.1 (by have := HFG.out.2; show 0 + f.length ≤ 100000; omega))
      go_wp2_with fail
      refine HC.out.mono ?_
      rintro e V2 ⟨rfl, Fy, hR, hm⟩
      have K2 := Lib.hid (K1.out.moves hR hm)
      clear hR hm HC K1 y0
      have HC := Lib.hid (C4.out.next K2.out.1 K2.out.2.1)
      rw [HV.out.1, HV.out.2] at HC
      go_wp2_with fail
      refine HC.out.mono ?_
      rintro e V3' ⟨rfl, Fz, hR, hm⟩
      have hat := K2.out.moves hR hm
      obtain ⟨V4, hV4⟩ : ∃ W, W = V3'.alloc (.cells #[.int .i64 4, .int .i64 0, .bool false, .int .i64 0, S []] 29) := ⟨_, rfl⟩
      have hal : Below V3'.heap.size V3' V4 := by rw [hV4]; exact (Below.refl _ _).alloc (Nat.le_refl _) _
      have K4 : Hid (AtR RA W4 V4 Fz gx ⟨true, true, none, []⟩ ∧ BoxR V4 Fz V3'.heap.size #[.int .i64 4, .int .i64 0, .bool false, .int .i64 0, S []] 29) := Lib.hid ⟨hat.below C4.out hal, by rw [hV4]; exact BoxR.new C4.out hat.1 _ _⟩
      clear hR hm HC hat hal K2
      have HC := Lib.hid (C4.out.feed [129, 128, 0, 0, 0, 0] K4.out.1.1 K4.out.1.2.1 (by decide))
      rw [feed_bad rfl, hV4] at HC
      go_wp2_with fail
      refine HC.out.mono ?_
      rintro e V5 ⟨rfl, Fu, hR, hm⟩
      rw [← hV4] at hm
      have K5 := Lib.hid (And.intro (K4.out.1.moves hR hm) (K4.out.2.moves hm))
      clear hR hm HC K4 hV4
      have hn2 : nextF ⟨true, true, none, []⟩ = none := by unfold nextF; rw [if_pos rfl]
      have hv3 : nextV ⟨true, true, none, []⟩ = .tuple #[.agg #[.int .i64 0, .int .i64 0, .bool false, .int .i64 0, S []], .bool false] := by unfold nextV; rw [hn2]; rfl
      have hv4 : nextS ⟨true, true, none, []⟩ = ⟨true, true, none, []⟩ := by unfold nextS; rw [hn2]
      have HC := Lib.hid (C4.out.next K5.out.1.1 K5.out.1.2.1)
      rw [hv3, hv4] at HC
      clear hn2 hv3 hv4
      go_wp2_with fail
      refine HC.out.mono ?_
      rintro e V6 ⟨rfl, Fv, hR, hm⟩
      have hat := K5.out.1.moves hR hm
      obtain ⟨V7, hV7⟩ : ∃ W, W = V6.alloc (.cells #[.int .i64 0, .int .i64 0, .bool false, .int .i64 0, S []] 29) := ⟨_, rfl⟩
      have hal : Below V6.heap.size V6 V7 := by rw [hV7]; exact (Below.refl _ _).alloc (Nat.le_refl _) _
      have K7 := Lib.hid (And.intro (hat.below C4.out hal) ((K5.out.2.moves hm).below hal))
      clear hR hm HC hat hal K5
      have c0 : V7.cell? ⟨V3'.heap.size, 0, none⟩ = some (.int .i64 4) := cell_of_row V7 _ 0 _ _ (0, 0) K7.out.2.1
      have c1 : V7.cell? ⟨V3'.heap.size, 1, none⟩ = some (.int .i64 0) := cell_of_row V7 _ 1 _ _ (0, 0) K7.out.2.1
      have c2 : V7.cell? ⟨V3'.heap.size, 2, none⟩ = some (.bool false) := cell_of_row V7 _ 2 _ _ (0, 0) K7.out.2.1
      have c3 : V7.cell? ⟨V3'.heap.size, 3, none⟩ = some (.int .i64 0) := cell_of_row V7 _ 3 _ _ (0, 0) K7.out.2.1
      have c4 : V7.cell? ⟨V3'.heap.size, 4, none⟩ = some (.string ⟨#[]⟩) := cell_of_row V7 _ 4 _ _ (0, 0) K7.out.2.1
      have HC := Lib.hid (C4.out.bad K7.out.1.1 K7.out.1.2.1)
      rw [hV7] at HC c0 c1 c2 c3 c4
      dsimp only at HC
      go_wp2_with fail
      refine HC.out.mono ?_
      rintro e V8 ⟨rfl, hB⟩
      rw [← hV7] at hB
      have K8 := Lib.hid (K7.out.1.below C4.out hB)
      clear hB HC K7 hV7 c0 c1 c2 c3 c4
      have HC := Lib.hid (C4.out.idle K8.out.1 K8.out.2.1)
      rw [show (Fst.mk true true none []).idle = false from rfl] at HC
      go_wp2_with fail
      refine HC.out.mono ?_
      rintro e V9 ⟨rfl, hB⟩
      have HB9 := Lib.hid (K8.out.2.1.trans (hB.mono K8.out.2.1.size))
      clear hB HC K8
      go_wp2
      exact ⟨⟨i + 1, by omega, by go_num, Lib.hid HB9.out⟩, by simp [intOf]; omega⟩
    · have g1 : decide ((i : Int) < 7) = false := decide_eq_false (by omega)
      have HA := Lib.hid (awake16_any (C4.out.up HB.out))
      go_wp2_with fail
      refine HA.out.mono ?_
      rintro e V1 ⟨rfl, hB⟩
      have hb1 := HB.out.trans (hB.mono HB.out.size)
      have hev := H4.out.1.below hb1
      have hle := hev.len Try.underlying25 3
      obtain ⟨a3, c3, hv, hcell⟩ := hev.form
      obtain ⟨g3, rfl, -, -, y⟩ := hcell (by simp)
      rw [hv] at hle
      subst hv
      have hi0 := fun W => indexEv Try.underlying25 (fun w => Try.sizeOf29 w) g3 2 c3 0 (by omega) W
      have hi1 := fun W => indexEv Try.underlying25 (fun w => Try.sizeOf29 w) g3 2 c3 1 (by omega) W
      have y00 : V1.cell? ⟨g3, 0, none⟩ = some (.int .i64 1) := (y 0 _ 0 _ rfl rfl).1
      have y01 : V1.cell? ⟨g3, 1, none⟩ = some (.int .i64 9) := (y 0 _ 1 _ rfl rfl).1
      have y02 : V1.cell? ⟨g3, 2, none⟩ = some (.bool true) := (y 0 _ 2 _ rfl rfl).1
      have y03 : V1.cell? ⟨g3, 3, none⟩ = some (.int .i64 0) := (y 0 _ 3 _ rfl rfl).1
      have y04 : V1.cell? ⟨g3, 4, none⟩ = some (.string ⟨#[]⟩) := (y 0 _ 4 _ rfl rfl).1
      have y10 : V1.cell? ⟨g3, 5, none⟩ = some (.int .i64 3) := (y 1 _ 0 _ rfl rfl).1
      have y11 : V1.cell? ⟨g3, 6, none⟩ = some (.int .i64 0) := (y 1 _ 1 _ rfl rfl).1
      have y12 : V1.cell? ⟨g3, 7, none⟩ = some (.bool false) := (y 1 _ 2 _ rfl rfl).1
      have y13 : V1.cell? ⟨g3, 8, none⟩ = some (.int .i64 0) := (y 1 _ 3 _ rfl rfl).1
      have y14 : V1.cell? ⟨g3, 9, none⟩ = some (.string ⟨#[]⟩) := (y 1 _ 4 _ rfl rfl).1
      have eq1 : ∀ W, (Op.equalIn 10000 29 (.agg #[.int .i64 1, .int .i64 9, .bool true, .int .i64 0, .string ⟨#[]⟩]) (.agg #[.int .i64 1, .int .i64 9, .bool true, .int .i64 0, .string ⟨#[]⟩])).run Try.prog W = .ok true W := fun W => eqin_evF ⟨1, 9, true, 0, []⟩ W
      have gq1 : ∀ x y W, (eqGuard .eql 29 x y (.agg #[.int .i64 1, .int .i64 9, .bool true, .int .i64 0, .string ⟨#[]⟩]) (.agg #[.int .i64 1, .int .i64 9, .bool true, .int .i64 0, .string ⟨#[]⟩])).run Try.prog W = .ok () W := fun x y W => run_eqGuard_agg W .eql 29 x y _ _ (by kernel_rfl)
      have eq2 : ∀ W, (Op.equalIn 10000 29 (.agg #[.int .i64 3, .int .i64 0, .bool false, .int .i64 0, .string ⟨#[]⟩]) (.agg #[.int .i64 3, .int .i64 0, .bool false, .int .i64 0, .string ⟨#[]⟩])).run Try.prog W = .ok true W := fun W => eqin_evF ⟨3, 0, false, 0, []⟩ W
      have gq2 : ∀ x y W, (eqGuard .eql 29 x y (.agg #[.int .i64 3, .int .i64 0, .bool false, .int .i64 0, .string ⟨#[]⟩]) (.agg #[.int .i64 3, .int .i64 0, .bool false, .int .i64 0, .string ⟨#[]⟩])).run Try.prog W = .ok () W := fun x y W => run_eqGuard_agg W .eql 29 x y _ _ (by kernel_rfl)
      have HBL := Lib.hid (H4.out.2.1.trans (hb1.mono H4.out.2.1.size))
      clear HA hB hb1 hev y hcell
      go_wp2
      go_ret
      exact ⟨rfl, HBL.out⟩
end Go.Proofs.Ytlmolmmhkddpaaa
