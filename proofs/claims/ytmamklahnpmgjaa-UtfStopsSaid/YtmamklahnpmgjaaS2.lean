/- The document's One: which shape a character has. -/
import Derived.Test.YtmamklahnpmgjaaS1
import Derived.Deep.QuietTactic
import Derived.BigQuiet
namespace Go.Proofs.Ytmamklahnpmgjaa
open Go.RowKit

/-- How many bytes fit a shape's first bounds. -/
def pre : List (UInt8 × UInt8) → List UInt8 → Nat
  | (a, b) :: l, c :: t => if a ≤ c ∧ c ≤ b then pre l t + 1 else 0
  | _, _ => 0
def oneF : List (List (UInt8 × UInt8)) → List UInt8 → Nat → Int
  | [], _, most => -1 - (most : Int)
  | l :: ls, t, most => if pre l t = l.length then (l.length : Int) else if pre l t = t.length then 0 else oneF ls t (max most (pre l t))
theorem pre_le : ∀ (l : List (UInt8 × UInt8)) (t : List UInt8), pre l t ≤ l.length ∧ pre l t ≤ t.length
  | [], t => by simp [pre]
  | (a, b) :: l, [] => by simp [pre]
  | (a, b) :: l, c :: t => by
    have := pre_le l t
    unfold pre
    split <;> simp only [List.length_cons] <;> omega
/-- Does byte n fit bound n? -/
def fitsAt (l : List (UInt8 × UInt8)) (t : List UInt8) (n : Nat) : Prop := ∃ ab c, l[n]? = some ab ∧ t[n]? = some c ∧ ab.1 ≤ c ∧ c ≤ ab.2
theorem pre_more : ∀ (l : List (UInt8 × UInt8)) (t : List UInt8) (n : Nat), n < pre l t → fitsAt l t n
  | [], t, n, h => by simp [pre] at h
  | (a, b) :: l, [], n, h => by simp [pre] at h
  | (a, b) :: l, c :: t, n, h => by
    unfold pre at h
    split at h
    · rename_i hc
      cases n with
      | zero => exact ⟨(a, b), c, rfl, rfl, hc.1, hc.2⟩
      | succ n =>
        obtain ⟨ab, c', h1, h2, h3⟩ := pre_more l t n (by omega)
        exact ⟨ab, c', h1, h2, h3⟩
    · omega
theorem pre_end : ∀ (l : List (UInt8 × UInt8)) (t : List UInt8), ¬ fitsAt l t (pre l t)
  | [], t => fun ⟨_, _, h, _⟩ => by simp at h
  | (a, b) :: l, [] => fun ⟨_, _, _, h, _⟩ => by simp at h
  | (a, b) :: l, c :: t => by
    unfold pre
    split
    · rintro ⟨ab, c', h1, h2, h3⟩
      exact pre_end l t ⟨ab, c', h1, h2, h3⟩
    · rename_i hc
      rintro ⟨ab, c', h1, h2, h3⟩
      obtain rfl := Option.some.inj h1
      obtain rfl := Option.some.inj h2
      exact hc h3

theorem flat_get : ∀ (l : List (UInt8 × UInt8)) (n : Nat) (ab : UInt8 × UInt8), l[n]? = some ab → (flat l)[2 * n]? = some (B ab.1) ∧ (flat l)[2 * n + 1]? = some (B ab.2)
  | [], n, ab, h => by simp at h
  | (a, b) :: l, 0, ab, h => by obtain rfl := Option.some.inj h; exact ⟨rfl, rfl⟩
  | (a, b) :: l, n + 1, ab, h => by
    have := flat_get l n ab h
    rw [show 2 * (n + 1) = 2 * n + 1 + 1 by omega]
    exact this
theorem heads_get (g : Nat) : ∀ (ls : List (List (UInt8 × UInt8))) (i k : Nat) (l : List (UInt8 × UInt8)), ls[k]? = some l → (heads g i ls)[k]? = some (.slice (some ⟨g + 1 + (i + k), 0, none⟩) l.length l.length)
  | [], i, k, l, h => by simp at h
  | l0 :: ls, i, 0, l, h => by obtain rfl := Option.some.inj h; rfl
  | l0 :: ls, i, k + 1, l, h => by
    have := heads_get g ls (i + 1) k l h
    rw [show i + (k + 1) = i + 1 + k by omega]
    exact this

/-- What is met at shape i, bound n. -/
theorem Shapes.at {w : World} {g : Nat} (h : Shapes w g) {i : Nat} {l : List (UInt8 × UInt8)} (hi : shp[i]? = some l) :
    w.cell? ⟨g + 10, i, none⟩ = some (.slice (some ⟨g + 1 + i, 0, none⟩) l.length l.length) ∧
      ∀ n ab, l[n]? = some ab → w.cell? ⟨g + 1 + i, n * 2, none⟩ = some (B ab.1) ∧ w.cell? ⟨g + 1 + i, n * 2 + 1, none⟩ = some (B ab.2) := by
  obtain ⟨h1, h2⟩ := h
  refine ⟨?_, fun n ab hn => ?_⟩
  · rw [cell_of_row w (g + 10) i _ 57 (0, 0) h2]
    have := heads_get g shp 0 i l hi
    rw [Nat.zero_add] at this
    simpa using this
  · have hf := flat_get l n ab hn
    rw [Nat.mul_comm 2 n] at hf
    have hr := h1 i l hi
    exact ⟨by rw [cell_of_row w _ _ _ 58 (0, 0) hr]; simpa using hf.1, by rw [cell_of_row w _ _ _ 58 (0, 0) hr]; simpa using hf.2⟩

theorem B_leq (t : TypeId) (x y : UInt8) : binOp .leq t (B x) (B y) = pure (.bool (decide (x ≤ y))) := by
  simp [B, binOp, Op.intCmp, UInt8.le_iff_toNat_le]
theorem B_geq (t : TypeId) (x y : UInt8) : binOp .geq t (B x) (B y) = pure (.bool (decide (y ≤ x))) := by
  simp [B, binOp, Op.intCmp, UInt8.le_iff_toNat_le]
theorem guard_leq (t : TypeId) (a b : Operand) (x y : UInt8) : eqGuard .leq t a b (B x) (B y) = pure () := rfl
theorem guard_geq (t : TypeId) (a b : Operand) (x y : UInt8) : eqGuard .geq t a b (B x) (B y) = pure () := rfl
end Go.Proofs.Ytmamklahnpmgjaa
