/- The walk of Great: acts that came in. -/
import Derived.Test.YtkekjcdhlkhhoaaL1
import Derived.Test.YtkekjcdhlkhhoaaGen4
namespace Go.Proofs.Ytkekjcdhlkhhoaa
open Go.RowKit
attribute [local go_sem] store_one S_match S_store

/-- The acts that came in: what is done, a number, a text. -/
structure Acts (w : World) (V : Value) (n b o : Nat) (d m : Nat → Int) (s : Nat → List UInt8) : Prop where
  came : ∃ v, CameS Try.prog w 40 V n b o 3 v ∧ ∀ i, i < n → v i 0 = .int .i64 (d i) ∧ v i 1 = .int .i64 (m i) ∧ v i 2 = S (s i)
  long : ∀ i, i < n → (s i).length ≤ maxLen
/-- How long their texts are, up to the first k. -/
def texts (s : Nat → List UInt8) : Nat → Nat
  | 0 => 0
  | k + 1 => texts s k + min (s k).length 20001
theorem texts_le (s : Nat → List UInt8) : ∀ k, texts s k ≤ k * 20001
  | 0 => by simp [texts]
  | k + 1 => by have := texts_le s k; simp only [texts]; omega
def greatB (n : Nat) (s : Nat → List UInt8) : Bool := decide (400 < n) || decide (20000 < texts s (min n 401))

set_option maxRecDepth 100000 in
set_option maxHeartbeats 400000 in
theorem great_any (V : Value) (n b o : Nat) (d m : Nat → Int) (s : Nat → List UInt8) (w : World) (h : Acts w V n b o d m s) : Calls Try.prog 17 #[V] w fun e w' => e = .returned (.bool (greatB n s)) ∧ w = w' := by
  obtain ⟨v, hc, hv⟩ := h.came
  have hlenV := hc.len 3
  have HC := Lib.hid (And.intro hc (And.intro hv h.long))
  clear hc hv
  go_enter Try.func17, Try.ntmps17
  go_wp2
  go_loop [3, 4] (fun tv iv => ∃ i : Nat, i ≤ n ∧ i ≤ 401 ∧ iv = .int .i64 i ∧ tv = .int .i64 (texts s i)) (fun _ iv => n - (intOf iv).toNat)
  case atStart => exact ⟨0, Nat.zero_le _, Nat.zero_le _, rfl, rfl⟩
  case round =>
    obtain ⟨i, hi, hi3, rfl, rfl⟩ := hrel
    have htl := texts_le s i
    by_cases hlt : i < n
    · by_cases h3 : i ≤ 400
      · have hidx := HC.out.1.index i hlt
        have hcell : w.cell? ⟨b, o + i * 3 + 2, none⟩ = some (S (s i)) := by
          rw [HC.out.1.cell i 2 hlt (by omega), (HC.out.2.1 i hlt).2.2]
        have hlenS := run_len_S (P := Try.prog) Try.underlying9 3 (s i)
        have hll := HC.out.2.2 i hlt
        have hts : texts s (i + 1) = texts s i + min (s i).length 20001 := rfl
        have HT := Lib.hid hts
        clear hts
        generalize texts s i = T at *
        generalize (s i).length = L at *
        go_wp2
        refine ⟨⟨i + 1, by omega, by omega, by go_num, ?_⟩, by simp [intOf]; omega⟩
        rw [HT.out, Nat.min_def]
        congr 1
        split <;> split <;> omega
      · have hi401 : i = 401 := by omega
        have hg : greatB n s = true := by simp [greatB]; left; omega
        have hb1 : decide ((i : Int) ≤ 400) = false := decide_eq_false (by omega)
        have hb2 : decide ((400 : Int) < (n : Int)) = true := decide_eq_true (by omega)
        clear h3
        go_wp2
        all_goals first | (exfalso; omega) | skip
        go_ret
        exact ⟨by first | rfl | (rw [hg]; rfl) | (simp [hg]), rfl⟩
    · have hin : i = n := by omega
      have hg : greatB n s = (decide ((400 : Int) < (n : Int)) || decide ((20000 : Int) < (texts s i : Int))) := by
        have h1 : decide ((400 : Int) < (n : Int)) = decide (400 < n) := by congr 1; apply propext; omega
        have h2 : decide ((20000 : Int) < (texts s i : Int)) = decide (20000 < texts s i) := by congr 1; apply propext; omega
        rw [h1, h2, greatB, Nat.min_eq_left (by omega), hin]
      by_cases h400 : (400 : Int) < (n : Int)
      · have hb1 : decide ((400 : Int) < (n : Int)) = true := decide_eq_true h400
        rw [hb1, Bool.true_or] at hg
        go_wp2
        all_goals first | (exfalso; omega) | skip
        go_ret
        exact ⟨by first | rfl | (rw [hg]; rfl) | (simp [hg]), rfl⟩
      · have hb1 : decide ((400 : Int) < (n : Int)) = false := decide_eq_false h400
        go_wp2
        all_goals first | (exfalso; omega) | skip
        go_ret
        exact ⟨by first | rfl | (rw [hg]; rfl) | (simp [hg]), rfl⟩
end Go.Proofs.Ytkekjcdhlkhhoaa
