/- FieldGets walked, over any package that does what is asked of it. -/
import Derived.Test.YtccccpbaolegcaaDoorF7
namespace Go.Proofs.YtccccpbaolegcaaDoor
open Go.RowKit
attribute [local go_sem] store_one S_match S_store

/-- How long the first k fields are. -/
def sumF (nm vl : Nat → List UInt8) : Nat → Nat
  | 0 => 0
  | k + 1 => sumF nm vl k + min (nm k).length 10001 + min (vl k).length 10001
theorem sumF_le (nm vl : Nat → List UInt8) : ∀ k, sumF nm vl k ≤ k * 20002
  | 0 => by simp [sumF]
  | k + 1 => by have := sumF_le nm vl k; simp only [sumF]; omega
theorem sumF_mono (nm vl : Nat → List UInt8) : ∀ (k j : Nat), j < k → min (nm j).length 10001 ≤ sumF nm vl k
  | 0, _, h => absurd h (Nat.not_lt_zero _)
  | k + 1, j, h => by
    rw [sumF]
    rcases Nat.lt_or_ge j k with h1 | h1
    · have := sumF_mono nm vl k j h1; omega
    · obtain rfl : j = k := by omega
      omega
theorem Flds.below {w w' : World} {V : Value} {n b o : Nat} {nm vl : Nat → List UInt8} (h : Flds w V n b o nm vl) (hb : Below w.heap.size w w') : Flds w' V n b o nm vl := by
  obtain ⟨⟨v, hc, hv⟩, h1, h2⟩ := h
  exact ⟨⟨v, ⟨hc.len, hc.index, fun i j hi hj => by rw [hb.cell (World.block_lt_of_cell? w _ (hc.cell i j hi hj))]; exact hc.cell i j hi hj⟩, hv⟩, h1, h2⟩
set_option maxRecDepth 100000 in
set_option maxHeartbeats 2000000 in
theorem gets_any (F : FieldI) (V : Value) (n b o : Nat) (nm vl : Nat → List UInt8) (t : List UInt8) (w : World) (hV : ∃ v, CameS Tryd.prog w 36 V n b o 2 v ∧ ∀ i, i < n → v i 0 = S (nm i) ∧ v i 1 = S (vl i)) (hl : ∀ i, i < n → (nm i).length ≤ maxLen ∧ (vl i).length ≤ maxLen) (_ht : t.length ≤ maxLen) :
    Calls Tryd.prog 5 #[V, S t] w fun e w' => e = .returned (.bool true) ∧ Below w.heap.size w w' := by
  obtain ⟨v, hc, hv⟩ := hV
  have hlenV := hc.len 3
  have hlenT := run_len_S (P := Tryd.prog) Tryd.underlying9 3 t
  have hml : maxLen = 9223372036854775807 ∨ maxLen ≤ 9223372036854775807 := by simp [maxLen]
  have HC := Lib.hid (And.intro hc (And.intro hv hl))
  clear hc hv hl
  go_enter Tryd.func5, Tryd.ntmps5
  go_wp2_with fail
  refine (awake_any F w).mono ?_
  rintro e W0 ⟨rfl, hb0⟩
  have HB := Lib.hid hb0
  clear hb0
  go_wp2
  go_loopw [5, 6] (fun tv iv wr => ∃ i : Nat, i ≤ n ∧ i ≤ 101 ∧ iv = .int .i64 (i : Int) ∧ tv = .int .i64 (sumF nm vl i : Int) ∧ Drawn W0 wr) (fun _ iv _ => n - (intOf iv).toNat)
  case atStart => exact ⟨0, Nat.zero_le _, Nat.zero_le _, rfl, rfl, Drawn.refl _⟩
  case round =>
    obtain ⟨i, hi, hi1, rfl, rfl, hD⟩ := hrel
    have htl := sumF_le nm vl i
    by_cases hgo : i < n ∧ i ≤ 100
    · obtain ⟨hlt, h100⟩ := hgo
      have hix := HC.out.1.index i hlt
      have hbw : b < w.heap.size := by
        have := HC.out.1.cell i 0 hlt (by omega)
        exact World.block_lt_of_cell? w _ this
      have hcell : ∀ j, j < 2 → wr.cell? ⟨b, o + i * 2 + j, none⟩ = some (if j = 0 then S (nm i) else S (vl i)) := fun j hj => by
        rw [hD.cell, World.cell?_of_block (HB.out.block b hbw), HC.out.1.cell i j hlt hj]
        rcases Nat.lt_or_ge j 1 with h | h
        · obtain rfl : j = 0 := by omega
          rw [(HC.out.2.1 i hlt).1]; rfl
        · obtain rfl : j = 1 := by omega
          rw [(HC.out.2.1 i hlt).2]; rfl
      have c0 : wr.cell? ⟨b, o + i * 2, none⟩ = some (S (nm i)) := hcell 0 (by omega)
      have c1 : wr.cell? ⟨b, o + i * 2 + 1, none⟩ = some (S (vl i)) := hcell 1 (by omega)
      have hl0 := run_len_S (P := Tryd.prog) Tryd.underlying9 3 (nm i)
      have hl1 := run_len_S (P := Tryd.prog) Tryd.underlying9 3 (vl i)
      obtain ⟨A, hA⟩ : ∃ A, A = min (nm i).length 10001 := ⟨_, rfl⟩
      obtain ⟨B', hB'⟩ : ∃ B', B' = min (vl i).length 10001 := ⟨_, rfl⟩
      have hm0 : ∀ w, (Builtin.min_ #[3, 3] 3 #[.int .i64 ((nm i).length : Int), .int .i64 10001]).run Tryd.prog w = .ok (.int .i64 (A : Int)) w := fun w => by
        rw [run_min_int2, hA, Nat.min_def]; congr 2; split <;> split <;> omega
      have hm1 : ∀ w, (Builtin.min_ #[3, 3] 3 #[.int .i64 ((vl i).length : Int), .int .i64 10001]).run Tryd.prog w = .ok (.int .i64 (B' : Int)) w := fun w => by
        rw [run_min_int2, hB', Nat.min_def]; congr 2; split <;> split <;> omega
      have hsm : sumF nm vl (i + 1) = sumF nm vl i + A + B' := by rw [sumF, hA, hB']
      have hAb : A ≤ 10001 ∧ B' ≤ 10001 := by omega
      have HS := Lib.hid (And.intro hsm hD)
      clear hsm hD hcell hA hB'
      generalize sumF nm vl i = T at *
      generalize (nm i).length = L0 at *
      generalize (vl i).length = L1 at *
      generalize o + i * 2 = q at *
      have hw1 : IntKind.i64.wrap ((T : Int) + (A : Int)) = (T : Int) + (A : Int) := by rw [IntKind.wrap_i64]; omega
      have hw2 : IntKind.i64.wrap ((T : Int) + (A : Int) + (B' : Int)) = (T : Int) + (A : Int) + (B' : Int) := by rw [IntKind.wrap_i64]; omega
      have hd1 : decide ((i : Int) < (n : Int)) = true := decide_eq_true (by omega)
      have hd2 : decide ((i : Int) ≤ 100) = true := decide_eq_true (by omega)
      go_wp2
      go_quiet (fail)
      go_wp2
      exact ⟨⟨i + 1, by omega, by omega, by go_num, by rw [HS.out.1]; go_num, HS.out.2.trans ⟨_, rfl⟩⟩, by simp [intOf]; omega⟩
    · have HE : Hid (Below w.heap.size w wr) := Lib.hid (HB.out.trans (hD.below.mono HB.out.size))
      have HD := Lib.hid hD
      clear hD
      by_cases hlt : i < n
      · have hi101 : i = 101 := by omega
        have hd1 : decide ((i : Int) < (n : Int)) = true := decide_eq_true (by omega)
        have hd2 : decide ((i : Int) ≤ 100) = false := decide_eq_false (by omega)
        have hd3 : decide ((100 : Int) < (n : Int)) = true := decide_eq_true (by omega)
        clear hgo hi101 htl
        go_wp2
        go_ret
        exact ⟨rfl, HE.out⟩
      · obtain rfl : i = n := by omega
        have hd1 : decide ((i : Int) < (i : Int)) = false := decide_eq_false (by omega)
        by_cases h100 : 100 < i
        · have hd3 : decide ((100 : Int) < (i : Int)) = true := decide_eq_true (by omega)
          clear hgo htl hlt
          go_wp2
          go_ret
          exact ⟨rfl, HE.out⟩
        · have hd3 : decide ((100 : Int) < (i : Int)) = false := decide_eq_false (by omega)
          by_cases hT : 10000 < sumF nm vl i
          · have hd4 : decide ((10000 : Int) < (sumF nm vl i : Int)) = true := decide_eq_true (by omega)
            clear hgo htl hlt hT
            go_wp2
            go_ret
            exact ⟨rfl, HE.out⟩
          · have hd4 : decide ((10000 : Int) < (sumF nm vl i : Int)) = false := decide_eq_false (by omega)
            by_cases h300 : 300 < t.length
            · have hd5 : decide ((300 : Int) < (t.length : Int)) = true := decide_eq_true (by omega)
              clear hgo htl hlt hT h300
              go_wp2
              go_ret
              exact ⟨rfl, HE.out⟩
            · have hd5 : decide ((300 : Int) < (t.length : Int)) = false := decide_eq_false (by omega)
              have hF : Flds wr V i b o nm vl := Flds.below (w := w) ⟨⟨_, HC.out.1, HC.out.2.1⟩, by omega, fun j hj => by have := sumF_mono nm vl i j hj; omega⟩ HE.out
              have h1 := F.get V i b o nm vl t wr (by omega) hF
              have HF := Lib.hid hF
              have ht3 : t.length ≤ 100000 := by omega
              have hgl := getR_le nm vl t i i
              clear hF hgo htl hlt hT h300
              obtain ⟨G, hG⟩ : ∃ G, G = getR nm vl t i i := ⟨_, rfl⟩
              rw [← hG] at h1 hgl
              have HG := Lib.hid hG
              clear hG
              obtain ⟨g1, g2⟩ := G
              go_wp2_with fail
              refine h1.mono ?_
              rintro e W2 ⟨rfl, hb2⟩
              have h2 := get_any V i b o nm vl t ht3 W2 (HF.out.below hb2)
              rw [← HG.out] at h2
              have HE2 := Lib.hid (HE.out.trans (hb2.mono HE.out.size))
              clear h1 hb2
              go_wp2_with fail
              refine h2.mono ?_
              rintro e W3 ⟨rfl, hD3⟩
              have HE3 := Lib.hid (HE2.out.trans (hD3.below.mono HE2.out.size))
              have hq : binOp .eql 9 (S g1) (S g1) = pure (.bool true) := by rw [eql_S]; simp
              have hg := guard_S 9
              have hq2 : ((g2 : Int) == (g2 : Int)) = true := by simp
              clear h2 hD3
              go_wp2
              go_ret
              exact ⟨rfl, HE3.out⟩
end Go.Proofs.YtccccpbaolegcaaDoor
