/- The walks of the document's Reads, Rune and Runes. -/
import Derived.Test.YtmamklahnpmgjaaS3
namespace Go.Proofs.Ytmamklahnpmgjaa
open Go.RowKit
attribute [local go_sem] store_one B_match B_store

theorem oneF_le (t : List UInt8) : ∀ (ls : List (List (UInt8 × UInt8))) (m : Nat), (∀ l ∈ ls, l.length ≤ 4) → oneF ls t m ≤ 4 ∧ oneF ls t m ≤ t.length
  | [], m, _ => by simp only [oneF]; omega
  | l :: ls, m, h => by
    have h1 := h l (by simp)
    have h2 := pre_le l t
    have ih := oneF_le t ls (max m (pre l t)) (fun x hx => h x (by simp [hx]))
    rw [oneF]
    split
    · rename_i e; omega
    · split
      · omega
      · exact ih
theorem oneF_ge (t : List UInt8) : ∀ (ls : List (List (UInt8 × UInt8))) (m : Nat), m ≤ 4 → (∀ l ∈ ls, l.length ≤ 4) → -5 ≤ oneF ls t m
  | [], m, hm, _ => by simp only [oneF]; omega
  | l :: ls, m, hm, h => by
    have h1 := h l (by simp)
    have h2 := pre_le l t
    have ih := oneF_ge t ls (max m (pre l t)) (by omega) (fun x hx => h x (by simp [hx]))
    rw [oneF]
    split
    · omega
    · split
      · omega
      · exact ih
theorem shp_four : ∀ l ∈ shp, l.length ≤ 4 := by decide
/-- How many bytes the character at a place has. -/
def one (s : List UInt8) (p : Nat) : Int := oneF shp (s.drop p) 0
theorem one_le (s : List UInt8) (p : Nat) : one s p ≤ 4 ∧ one s p ≤ (s.length - p : Nat) := by
  have := oneF_le (s.drop p) shp 0 shp_four
  rw [List.length_drop] at this
  exact this
theorem one_ge (s : List UInt8) (p : Nat) : -5 ≤ one s p := oneF_ge _ _ _ (by omega) shp_four

/-- How many bytes there are ahead of the first bad one, whether there is one, whether all is a text. -/
def reads (s : List UInt8) (p : Nat) : Int × Bool × Bool :=
  if h : p < s.length ∧ 0 < one s p then reads s (p + (one s p).toNat)
  else if p < s.length then (if one s p = 0 then ((s.length : Int), false, false) else ((p : Int) - 1 - one s p, true, false))
  else ((p : Int), false, true)
termination_by s.length - p
decreasing_by omega
theorem reads_go {s : List UInt8} {p n : Nat} (h : p < s.length) (hn : one s p = (n : Int)) (h0 : 0 < n) : reads s p = reads s (p + n) := by
  rw [reads, dif_pos ⟨h, by omega⟩, hn]; simp
theorem reads_part {s : List UInt8} {p : Nat} (h : p < s.length) (hn : one s p = 0) : reads s p = ((s.length : Int), false, false) := by
  rw [reads, dif_neg (by omega), if_pos h, if_pos hn]
theorem reads_bad {s : List UInt8} {p : Nat} (h : p < s.length) (hn : one s p < 0) : reads s p = ((p : Int) - 1 - one s p, true, false) := by
  rw [reads, dif_neg (by omega), if_pos h, if_neg (by omega)]
theorem reads_end {s : List UInt8} {p : Nat} (h : ¬ p < s.length) : reads s p = ((p : Int), false, true) := by
  rw [reads, dif_neg (by omega), if_neg h]

def readsV (r : Int × Bool × Bool) : Value := .tuple #[.int .i64 r.1, .bool r.2.1, .bool r.2.2]
set_option maxRecDepth 100000 in
set_option maxHeartbeats 4000000 in
theorem reads_any (s : List UInt8) (hs : s.length < 1000000000) (w : World) : Calls Try.prog 16 #[S s] w fun e w' => e = .returned (readsV (reads s 0)) ∧ Below w.heap.size w w' := by
  have hlenS := run_len_S (P := Try.prog) Try.underlying9 3 s
  go_enter Try.func16, Try.ntmps16
  go_wp2
  go_loopw [2] (fun pv wr => ∃ p : Nat, p ≤ s.length ∧ pv = .int .i64 p ∧ reads s 0 = reads s p ∧ Below w.heap.size w wr) (fun pv _ => s.length - (intOf pv).toNat)
  case atStart => exact ⟨0, Nat.zero_le _, rfl, rfl, Below.refl _ _⟩
  case round =>
    obtain ⟨p, hp, rfl, hr, hB⟩ := hrel
    have HB := Lib.hid hB
    have hsz := hB.size
    clear hB
    by_cases hlt : p < s.length
    · have h1 := one_le s p
      have h2 := one_ge s p
      have hcall := one_any s p hp hs wr
      rw [show oneF shp (s.drop p) 0 = one s p from rfl] at hcall
      by_cases h0 : one s p = 0
      · have HR := Lib.hid (hr.trans (reads_part hlt h0))
        rw [h0] at hcall
        have HC := Lib.hid hcall
        clear hr h0 hcall h1 h2
        go_wp2_with fail
        refine HC.out.mono ?_
        rintro e W2 ⟨rfl, B2⟩
        go_wp2
        go_ret3
        exact ⟨by rw [HR.out]; rfl, HB.out.trans (B2.mono hsz)⟩
      · by_cases hn : one s p < 0
        · have HR := Lib.hid (hr.trans (reads_bad hlt hn))
          have h0b : (one s p == 0) = false := by rw [beq_eq_false_iff_ne]; exact h0
          have HC := Lib.hid hcall
          clear hr h0 hcall h1
          generalize one s p = z at *
          go_wp2_with fail
          refine HC.out.mono ?_
          rintro e W2 ⟨rfl, B2⟩
          go_wp2
          go_ret3
          exact ⟨by rw [HR.out]; rfl, HB.out.trans (B2.mono hsz)⟩
        · obtain ⟨n, hz⟩ : ∃ n : Nat, one s p = (n : Int) := ⟨(one s p).toNat, by omega⟩
          have hn0 : 0 < n := by omega
          have HR := Lib.hid (hr.trans (reads_go hlt hz hn0))
          rw [hz] at hcall h1
          have h0b : ((n : Int) == 0) = false := by rw [beq_eq_false_iff_ne]; omega
          have h0c : (n == 0) = false := by rw [beq_eq_false_iff_ne]; omega
          have HC := Lib.hid hcall
          clear hr h0 hcall hz hn h2
          go_wp2_with fail
          refine HC.out.mono ?_
          rintro e W2 ⟨rfl, B2⟩
          go_wp2
          go_roundw
          case rel => exact ⟨p + n, by omega, by go_num, HR.out, HB.out.trans (B2.mono hsz)⟩
          case measure => simp [intOf]; omega
    · have HR := Lib.hid (hr.trans (reads_end hlt))
      clear hr
      go_wp2
      go_ret3
      exact ⟨by rw [HR.out]; rfl, HB.out⟩
end Go.Proofs.Ytmamklahnpmgjaa
