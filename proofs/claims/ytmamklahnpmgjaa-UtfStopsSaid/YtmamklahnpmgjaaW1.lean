/- The walks of the package's begin, behind and read. -/
import Derived.Test.YtmamklahnpmgjaaM1
import Derived.Test.YtmamklahnpmgjaaGen3
import Derived.Deep.QuietTactic
import Derived.BigQuiet
namespace Go.Proofs.Ytmamklahnpmgjaa
open Go.RowKit
attribute [local go_sem] store_one

/-- What begin tells, as the switch has it. -/
def beg (x : Nat) : Nat × Nat × Nat × Bool :=
  if x ≤ 127 then (0, 0, 0, true) else if 194 ≤ x ∧ x ≤ 223 then (1, 128, 191, true) else if x = 224 then (2, 160, 191, true) else if x = 237 then (2, 128, 159, true)
  else if 225 ≤ x ∧ x ≤ 239 then (2, 128, 191, true) else if x = 240 then (3, 144, 191, true) else if 241 ≤ x ∧ x ≤ 243 then (3, 128, 191, true) else if x = 244 then (3, 128, 143, true) else (0, 0, 0, false)
def begV (b : Nat × Nat × Nat × Bool) : Value := .tuple #[.agg #[.int .i64 b.1, .int .u8 b.2.1, .int .u8 b.2.2.1], .bool b.2.2.2]
set_option maxRecDepth 100000 in
set_option maxHeartbeats 2000000 in
theorem begin_any (x : Nat) (hx : x < 256) (w : World) : Calls Try.prog 29 #[.int .u8 (x : Int)] w fun e w' => e = .returned (begV (beg x)) ∧ Below w.heap.size w w' := by
  go_enter Try.func29, Try.ntmps29
  go_wp2
  all_goals refine bodyPost_ret (results_row_tmp rfl _ _ w.heap.size 38 _ (0, 0) _ rfl (heap_alloc_last w _) Try.underlying38 rfl (by kernel_rfl)) rfl ?_
  all_goals refine ⟨?_, (Below.refl _ _).alloc (Nat.le_refl _) _⟩
  all_goals (try simp only [beq_iff_eq, beq_eq_false_iff_ne, ne_eq] at *)
  all_goals (unfold beg; repeat (first | rw [if_pos (by omega)] | rw [if_neg (by omega)]))
  all_goals rfl
/-- What begin tells is what is waited for behind a first byte. -/
theorem beg_next (c : UInt8) : ∃ n lo hi, beg c.toNat = (n, lo, hi, (nextF [] c).isSome) ∧ lo < 256 ∧ hi < 256 ∧ ∀ T, nextF [] c = some T → T.length = n ∧ ∀ ab, T.head? = some ab → ab.1.toNat = lo ∧ ab.2.toNat = hi := by
  have hw := fun ab => within_nat ab c
  have hc := c.toNat_lt
  have hx : ∀ (x : Nat), x = c.toNat → ∃ n lo hi, beg x = (n, lo, hi, (nextF [] c).isSome) ∧ lo < 256 ∧ hi < 256 ∧ ∀ T, nextF [] c = some T → T.length = n ∧ ∀ ab, T.head? = some ab → ab.1.toNat = lo ∧ ab.2.toNat = hi := by
    intro x hx
    rw [nextF]
    simp only [shp, List.find?, headFits]
    have fit : ∀ (a b : UInt8), (a.toNat ≤ x ∧ x ≤ b.toNat) → within (a, b) c = true := fun a b h => (hw (a, b)).2 (by rw [← hx]; exact h)
    have off : ∀ (a b : UInt8), (x < a.toNat ∨ b.toNat < x) → within (a, b) c = false := fun a b h => by
      rw [Bool.eq_false_iff]; intro h'; have := (hw (a, b)).1 h'; simp only at this; omega
    have hb : beg x = beg x := rfl
    unfold beg
    by_cases h1 : x ≤ 127
    · rw [if_pos h1, fit 0 127 (by simp; omega)]
      exact ⟨_, _, _, rfl, by omega, by omega, fun T h => by obtain rfl := Option.some.inj h; exact ⟨rfl, fun ab h => by cases h⟩⟩
    rw [if_neg h1, off 0 127 (by simp; omega)]
    by_cases h2 : 194 ≤ x ∧ x ≤ 223
    · rw [if_pos h2, fit 194 223 (by simp; omega)]
      exact ⟨_, _, _, rfl, by omega, by omega, fun T h => by obtain rfl := Option.some.inj h; exact ⟨rfl, fun ab h => by obtain rfl := Option.some.inj h; exact ⟨rfl, rfl⟩⟩⟩
    rw [if_neg h2, off 194 223 (by simp; omega)]
    by_cases h3 : x = 224
    · rw [if_pos h3, fit 224 224 (by simp; omega)]
      exact ⟨_, _, _, rfl, by omega, by omega, fun T h => by obtain rfl := Option.some.inj h; exact ⟨rfl, fun ab h => by obtain rfl := Option.some.inj h; exact ⟨rfl, rfl⟩⟩⟩
    rw [if_neg h3, off 224 224 (by simp; omega)]
    by_cases h4 : x = 237
    · rw [if_pos h4, off 225 236 (by simp; omega), fit 237 237 (by simp; omega)]
      exact ⟨_, _, _, rfl, by omega, by omega, fun T h => by obtain rfl := Option.some.inj h; exact ⟨rfl, fun ab h => by obtain rfl := Option.some.inj h; exact ⟨rfl, rfl⟩⟩⟩
    rw [if_neg h4, off 237 237 (by simp; omega)]
    by_cases h5 : 225 ≤ x ∧ x ≤ 239
    · rw [if_pos h5]
      by_cases h6 : x ≤ 236
      · rw [fit 225 236 (by simp; omega)]
        exact ⟨_, _, _, rfl, by omega, by omega, fun T h => by obtain rfl := Option.some.inj h; exact ⟨rfl, fun ab h => by obtain rfl := Option.some.inj h; exact ⟨rfl, rfl⟩⟩⟩
      · rw [off 225 236 (by simp; omega), fit 238 239 (by simp; omega)]
        exact ⟨_, _, _, rfl, by omega, by omega, fun T h => by obtain rfl := Option.some.inj h; exact ⟨rfl, fun ab h => by obtain rfl := Option.some.inj h; exact ⟨rfl, rfl⟩⟩⟩
    rw [if_neg h5, off 225 236 (by simp; omega), off 238 239 (by simp; omega)]
    by_cases h6 : x = 240
    · rw [if_pos h6, fit 240 240 (by simp; omega)]
      exact ⟨_, _, _, rfl, by omega, by omega, fun T h => by obtain rfl := Option.some.inj h; exact ⟨rfl, fun ab h => by obtain rfl := Option.some.inj h; exact ⟨rfl, rfl⟩⟩⟩
    rw [if_neg h6, off 240 240 (by simp; omega)]
    by_cases h7 : 241 ≤ x ∧ x ≤ 243
    · rw [if_pos h7, fit 241 243 (by simp; omega)]
      exact ⟨_, _, _, rfl, by omega, by omega, fun T h => by obtain rfl := Option.some.inj h; exact ⟨rfl, fun ab h => by obtain rfl := Option.some.inj h; exact ⟨rfl, rfl⟩⟩⟩
    rw [if_neg h7, off 241 243 (by simp; omega)]
    by_cases h8 : x = 244
    · rw [if_pos h8, fit 244 244 (by simp; omega)]
      exact ⟨_, _, _, rfl, by omega, by omega, fun T h => by obtain rfl := Option.some.inj h; exact ⟨rfl, fun ab h => by obtain rfl := Option.some.inj h; exact ⟨rfl, rfl⟩⟩⟩
    rw [if_neg h8, off 244 244 (by simp; omega)]
    exact ⟨_, _, _, rfl, by omega, by omega, fun T h => by cases h⟩
  exact hx _ rfl

/-- A begun character as a value: what is waited for, and between which bounds. -/
def GV (n lo hi : Nat) : Value := .agg #[.int .i64 n, .int .u8 lo, .int .u8 hi]
/-- These tell what is waited for. -/
structure Waits (T : List (UInt8 × UInt8)) (n lo hi : Nat) : Prop where
  len : T.length = n
  low : lo < 256
  high : hi < 256
  head : ∀ ab, T.head? = some ab → ab.1.toNat = lo ∧ ab.2.toNat = hi
def isSomeNext (T : List (UInt8 × UInt8)) (c : UInt8) : Bool := (nextF T c).isSome
theorem begun_any (c : UInt8) (w : World) : Calls Try.prog 29 #[B c] w fun e w' => (∃ n lo hi, e = .returned (.tuple #[GV n lo hi, .bool (nextF [] c).isSome]) ∧ ∀ T, nextF [] c = some T → Waits T n lo hi) ∧ Below w.heap.size w w' := by
  refine (begin_any c.toNat c.toNat_lt w).mono ?_
  rintro e w' ⟨rfl, hB⟩
  obtain ⟨n, lo, hi, hb, h1, h2, h3⟩ := beg_next c
  refine ⟨⟨n, lo, hi, by rw [hb]; rfl, fun T hT => ⟨(h3 T hT).1, h1, h2, (h3 T hT).2⟩⟩, hB⟩

end Go.Proofs.Ytmamklahnpmgjaa
