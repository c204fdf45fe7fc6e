/- TrieKnown walked, over any package of tries. (mktk.py writes it.) -/
import Derived.Test.YtgoaljnfegaldaaDoorTk1
import Derived.BigQuiet
import Derived.Deep.QuietTactic
namespace Go.Proofs.YtgoaljnfegaldaaDoor
open Go.RowKit
attribute [local go_sem] store_one S_match S_store

def knPats : List Txt := [[47], [47, 97, 47, 58, 120], [47, 97, 47, 98], [47, 97, 47, 58, 120, 47, 99], [47, 42, 97, 108, 108]]
def knEnts : Ents Int := [([47], 1), ([47, 97, 47, 58, 120], 2), ([47, 97, 47, 98], 3), ([47, 97, 47, 58, 120, 47, 99], 4), ([47, 42, 97, 108, 108], 5)]
theorem kn_add : ∀ i : Fin 5, ∃ p, knPats[i.1]? = some p ∧ p.length ≤ 200 ∧ addE 6 (knEnts.take i.1) p ((i.1 : Int) + 1) = (0, knEnts.take (i.1 + 1)) := by
  have h : ∀ i : Fin 5, (knPats[i.1]?.getD []).length ≤ 200 ∧ addE 6 (knEnts.take i.1) (knPats[i.1]?.getD []) ((i.1 : Int) + 1) = (0, knEnts.take (i.1 + 1)) := by decide
  intro i
  refine ⟨knPats[i.1]?.getD [], ?_, h i⟩
  have hl : i.1 < knPats.length := i.2
  rw [List.getElem?_eq_getElem hl]; rfl
/-- The table's rows, as they lie. -/
def rowW (W : World) : World := (((((((W.alloc (.cells #[.string ⟨#[97]⟩, .string ⟨#[98]⟩] 9)).alloc (.cells #[.string ⟨#[97]⟩, .string ⟨#[122]⟩] 9)).alloc (.cells #[.string ⟨#[97]⟩, .string ⟨#[98]⟩, .string ⟨#[99]⟩] 9)).alloc (.cells #[.string ⟨#[97]⟩, .string ⟨#[98]⟩, .string ⟨#[100]⟩] 9)).alloc (.cells #[.string ⟨#[97]⟩, .string ⟨#[]⟩] 9)).alloc (.cells #[.string ⟨#[]⟩] 9)).alloc (.cells #[.slice none 0 0, .int .i64 1, .string ⟨#[]⟩, .string ⟨#[]⟩, .slice (some ⟨W.heap.size, 0, none⟩) 2 2, .int .i64 3, .string ⟨#[]⟩, .string ⟨#[]⟩, .slice (some ⟨W.heap.size + 1, 0, none⟩) 2 2, .int .i64 2, .string ⟨#[120]⟩, .string ⟨#[122]⟩, .slice (some ⟨W.heap.size + 1 + 1, 0, none⟩) 3 3, .int .i64 4, .string ⟨#[120]⟩, .string ⟨#[98]⟩, .slice (some ⟨W.heap.size + 1 + 1 + 1, 0, none⟩) 3 3, .int .i64 5, .string ⟨#[97, 108, 108]⟩, .string ⟨#[97, 47, 98, 47, 100]⟩, .slice (some ⟨W.heap.size + 1 + 1 + 1 + 1, 0, none⟩) 2 2, .int .i64 5, .string ⟨#[97, 108, 108]⟩, .string ⟨#[97, 47]⟩, .slice (some ⟨W.heap.size + 1 + 1 + 1 + 1 + 1, 0, none⟩) 1 1, .int .i64 5, .string ⟨#[97, 108, 108]⟩, .string ⟨#[]⟩] 44))
def knRows : List (List Txt × Nat × Txt × Txt) := [([], 0, [], []), ([[97], [98]], 2, [], []), ([[97], [122]], 1, [120], [122]), ([[97], [98], [99]], 3, [120], [98]), ([[97], [98], [100]], 4, [97, 108, 108], [97, 47, 98, 47, 100]), ([[97], []], 4, [97, 108, 108], [97, 47]), ([[]], 4, [97, 108, 108], [])]
theorem kn_rows (W : World) : Below W.heap.size W (rowW W) ∧ ∀ i : Nat, i < 7 → ∃ path j n v V b, knRows[i]? = some (path, j, n, v) ∧ (rowW W).cell? ⟨W.heap.size + 1 + 1 + 1 + 1 + 1 + 1, i * 4, none⟩ = some V ∧ (rowW W).cell? ⟨W.heap.size + 1 + 1 + 1 + 1 + 1 + 1, i * 4 + 1, none⟩ = some (.int .i64 ((j : Int) + 1)) ∧
    (rowW W).cell? ⟨W.heap.size + 1 + 1 + 1 + 1 + 1 + 1, i * 4 + 2, none⟩ = some (S n) ∧ (rowW W).cell? ⟨W.heap.size + 1 + 1 + 1 + 1 + 1 + 1, i * 4 + 3, none⟩ = some (S v) ∧ TA (rowW W) V path b 0 := by
  unfold rowW
  obtain ⟨w1, hw1⟩ : ∃ w, w = W.alloc (.cells #[.string ⟨#[97]⟩, .string ⟨#[98]⟩] 9) := ⟨_, rfl⟩
  rw [← hw1]
  have s1 : w1.heap.size = W.heap.size + 1 := by rw [hw1, alloc_size]
  have r0 : Row w1 (W.heap.size) #[.string ⟨#[97]⟩, .string ⟨#[98]⟩] 9 := by
    have h := row_new W #[.string ⟨#[97]⟩, .string ⟨#[98]⟩] 9
    rw [← hw1] at h
    exact h
  have B1 : Below W.heap.size W w1 := by rw [hw1]; exact (Below.refl _ W).alloc (Nat.le_refl _) _
  obtain ⟨w2, hw2⟩ : ∃ w, w = w1.alloc (.cells #[.string ⟨#[97]⟩, .string ⟨#[122]⟩] 9) := ⟨_, rfl⟩
  rw [← hw2]
  have s2 : w2.heap.size = W.heap.size + 1 + 1 := by rw [hw2, alloc_size, s1]
  have r1 : Row w2 (W.heap.size + 1) #[.string ⟨#[97]⟩, .string ⟨#[122]⟩] 9 := by
    have h := row_new w1 #[.string ⟨#[97]⟩, .string ⟨#[122]⟩] 9
    rw [← hw2, s1] at h
    exact h
  replace r0 := r0.alloc (.cells #[.string ⟨#[97]⟩, .string ⟨#[122]⟩] 9)
  rw [← hw2] at r0
  have B2 : Below W.heap.size W w2 := by rw [hw2]; exact B1.alloc (by omega) _
  obtain ⟨w3, hw3⟩ : ∃ w, w = w2.alloc (.cells #[.string ⟨#[97]⟩, .string ⟨#[98]⟩, .string ⟨#[99]⟩] 9) := ⟨_, rfl⟩
  rw [← hw3]
  have s3 : w3.heap.size = W.heap.size + 1 + 1 + 1 := by rw [hw3, alloc_size, s2]
  have r2 : Row w3 (W.heap.size + 1 + 1) #[.string ⟨#[97]⟩, .string ⟨#[98]⟩, .string ⟨#[99]⟩] 9 := by
    have h := row_new w2 #[.string ⟨#[97]⟩, .string ⟨#[98]⟩, .string ⟨#[99]⟩] 9
    rw [← hw3, s2] at h
    exact h
  replace r0 := r0.alloc (.cells #[.string ⟨#[97]⟩, .string ⟨#[98]⟩, .string ⟨#[99]⟩] 9)
  rw [← hw3] at r0
  replace r1 := r1.alloc (.cells #[.string ⟨#[97]⟩, .string ⟨#[98]⟩, .string ⟨#[99]⟩] 9)
  rw [← hw3] at r1
  have B3 : Below W.heap.size W w3 := by rw [hw3]; exact B2.alloc (by omega) _
  obtain ⟨w4, hw4⟩ : ∃ w, w = w3.alloc (.cells #[.string ⟨#[97]⟩, .string ⟨#[98]⟩, .string ⟨#[100]⟩] 9) := ⟨_, rfl⟩
  rw [← hw4]
  have s4 : w4.heap.size = W.heap.size + 1 + 1 + 1 + 1 := by rw [hw4, alloc_size, s3]
  have r3 : Row w4 (W.heap.size + 1 + 1 + 1) #[.string ⟨#[97]⟩, .string ⟨#[98]⟩, .string ⟨#[100]⟩] 9 := by
    have h := row_new w3 #[.string ⟨#[97]⟩, .string ⟨#[98]⟩, .string ⟨#[100]⟩] 9
    rw [← hw4, s3] at h
    exact h
  replace r0 := r0.alloc (.cells #[.string ⟨#[97]⟩, .string ⟨#[98]⟩, .string ⟨#[100]⟩] 9)
  rw [← hw4] at r0
  replace r1 := r1.alloc (.cells #[.string ⟨#[97]⟩, .string ⟨#[98]⟩, .string ⟨#[100]⟩] 9)
  rw [← hw4] at r1
  replace r2 := r2.alloc (.cells #[.string ⟨#[97]⟩, .string ⟨#[98]⟩, .string ⟨#[100]⟩] 9)
  rw [← hw4] at r2
  have B4 : Below W.heap.size W w4 := by rw [hw4]; exact B3.alloc (by omega) _
  obtain ⟨w5, hw5⟩ : ∃ w, w = w4.alloc (.cells #[.string ⟨#[97]⟩, .string ⟨#[]⟩] 9) := ⟨_, rfl⟩
  rw [← hw5]
  have s5 : w5.heap.size = W.heap.size + 1 + 1 + 1 + 1 + 1 := by rw [hw5, alloc_size, s4]
  have r4 : Row w5 (W.heap.size + 1 + 1 + 1 + 1) #[.string ⟨#[97]⟩, .string ⟨#[]⟩] 9 := by
    have h := row_new w4 #[.string ⟨#[97]⟩, .string ⟨#[]⟩] 9
    rw [← hw5, s4] at h
    exact h
  replace r0 := r0.alloc (.cells #[.string ⟨#[97]⟩, .string ⟨#[]⟩] 9)
  rw [← hw5] at r0
  replace r1 := r1.alloc (.cells #[.string ⟨#[97]⟩, .string ⟨#[]⟩] 9)
  rw [← hw5] at r1
  replace r2 := r2.alloc (.cells #[.string ⟨#[97]⟩, .string ⟨#[]⟩] 9)
  rw [← hw5] at r2
  replace r3 := r3.alloc (.cells #[.string ⟨#[97]⟩, .string ⟨#[]⟩] 9)
  rw [← hw5] at r3
  have B5 : Below W.heap.size W w5 := by rw [hw5]; exact B4.alloc (by omega) _
  obtain ⟨w6, hw6⟩ : ∃ w, w = w5.alloc (.cells #[.string ⟨#[]⟩] 9) := ⟨_, rfl⟩
  rw [← hw6]
  have s6 : w6.heap.size = W.heap.size + 1 + 1 + 1 + 1 + 1 + 1 := by rw [hw6, alloc_size, s5]
  have r5 : Row w6 (W.heap.size + 1 + 1 + 1 + 1 + 1) #[.string ⟨#[]⟩] 9 := by
    have h := row_new w5 #[.string ⟨#[]⟩] 9
    rw [← hw6, s5] at h
    exact h
  replace r0 := r0.alloc (.cells #[.string ⟨#[]⟩] 9)
  rw [← hw6] at r0
  replace r1 := r1.alloc (.cells #[.string ⟨#[]⟩] 9)
  rw [← hw6] at r1
  replace r2 := r2.alloc (.cells #[.string ⟨#[]⟩] 9)
  rw [← hw6] at r2
  replace r3 := r3.alloc (.cells #[.string ⟨#[]⟩] 9)
  rw [← hw6] at r3
  replace r4 := r4.alloc (.cells #[.string ⟨#[]⟩] 9)
  rw [← hw6] at r4
  have B6 : Below W.heap.size W w6 := by rw [hw6]; exact B5.alloc (by omega) _
  obtain ⟨w7, hw7⟩ : ∃ w, w = w6.alloc (.cells #[.slice none 0 0, .int .i64 1, .string ⟨#[]⟩, .string ⟨#[]⟩, .slice (some ⟨W.heap.size, 0, none⟩) 2 2, .int .i64 3, .string ⟨#[]⟩, .string ⟨#[]⟩, .slice (some ⟨W.heap.size + 1, 0, none⟩) 2 2, .int .i64 2, .string ⟨#[120]⟩, .string ⟨#[122]⟩, .slice (some ⟨W.heap.size + 1 + 1, 0, none⟩) 3 3, .int .i64 4, .string ⟨#[120]⟩, .string ⟨#[98]⟩, .slice (some ⟨W.heap.size + 1 + 1 + 1, 0, none⟩) 3 3, .int .i64 5, .string ⟨#[97, 108, 108]⟩, .string ⟨#[97, 47, 98, 47, 100]⟩, .slice (some ⟨W.heap.size + 1 + 1 + 1 + 1, 0, none⟩) 2 2, .int .i64 5, .string ⟨#[97, 108, 108]⟩, .string ⟨#[97, 47]⟩, .slice (some ⟨W.heap.size + 1 + 1 + 1 + 1 + 1, 0, none⟩) 1 1, .int .i64 5, .string ⟨#[97, 108, 108]⟩, .string ⟨#[]⟩] 44) := ⟨_, rfl⟩
  rw [← hw7]
  have s7 : w7.heap.size = W.heap.size + 1 + 1 + 1 + 1 + 1 + 1 + 1 := by rw [hw7, alloc_size, s6]
  have r6 : Row w7 (W.heap.size + 1 + 1 + 1 + 1 + 1 + 1) #[.slice none 0 0, .int .i64 1, .string ⟨#[]⟩, .string ⟨#[]⟩, .slice (some ⟨W.heap.size, 0, none⟩) 2 2, .int .i64 3, .string ⟨#[]⟩, .string ⟨#[]⟩, .slice (some ⟨W.heap.size + 1, 0, none⟩) 2 2, .int .i64 2, .string ⟨#[120]⟩, .string ⟨#[122]⟩, .slice (some ⟨W.heap.size + 1 + 1, 0, none⟩) 3 3, .int .i64 4, .string ⟨#[120]⟩, .string ⟨#[98]⟩, .slice (some ⟨W.heap.size + 1 + 1 + 1, 0, none⟩) 3 3, .int .i64 5, .string ⟨#[97, 108, 108]⟩, .string ⟨#[97, 47, 98, 47, 100]⟩, .slice (some ⟨W.heap.size + 1 + 1 + 1 + 1, 0, none⟩) 2 2, .int .i64 5, .string ⟨#[97, 108, 108]⟩, .string ⟨#[97, 47]⟩, .slice (some ⟨W.heap.size + 1 + 1 + 1 + 1 + 1, 0, none⟩) 1 1, .int .i64 5, .string ⟨#[97, 108, 108]⟩, .string ⟨#[]⟩] 44 := by
    have h := row_new w6 #[.slice none 0 0, .int .i64 1, .string ⟨#[]⟩, .string ⟨#[]⟩, .slice (some ⟨W.heap.size, 0, none⟩) 2 2, .int .i64 3, .string ⟨#[]⟩, .string ⟨#[]⟩, .slice (some ⟨W.heap.size + 1, 0, none⟩) 2 2, .int .i64 2, .string ⟨#[120]⟩, .string ⟨#[122]⟩, .slice (some ⟨W.heap.size + 1 + 1, 0, none⟩) 3 3, .int .i64 4, .string ⟨#[120]⟩, .string ⟨#[98]⟩, .slice (some ⟨W.heap.size + 1 + 1 + 1, 0, none⟩) 3 3, .int .i64 5, .string ⟨#[97, 108, 108]⟩, .string ⟨#[97, 47, 98, 47, 100]⟩, .slice (some ⟨W.heap.size + 1 + 1 + 1 + 1, 0, none⟩) 2 2, .int .i64 5, .string ⟨#[97, 108, 108]⟩, .string ⟨#[97, 47]⟩, .slice (some ⟨W.heap.size + 1 + 1 + 1 + 1 + 1, 0, none⟩) 1 1, .int .i64 5, .string ⟨#[97, 108, 108]⟩, .string ⟨#[]⟩] 44
    rw [← hw7, s6] at h
    exact h
  replace r0 := r0.alloc (.cells #[.slice none 0 0, .int .i64 1, .string ⟨#[]⟩, .string ⟨#[]⟩, .slice (some ⟨W.heap.size, 0, none⟩) 2 2, .int .i64 3, .string ⟨#[]⟩, .string ⟨#[]⟩, .slice (some ⟨W.heap.size + 1, 0, none⟩) 2 2, .int .i64 2, .string ⟨#[120]⟩, .string ⟨#[122]⟩, .slice (some ⟨W.heap.size + 1 + 1, 0, none⟩) 3 3, .int .i64 4, .string ⟨#[120]⟩, .string ⟨#[98]⟩, .slice (some ⟨W.heap.size + 1 + 1 + 1, 0, none⟩) 3 3, .int .i64 5, .string ⟨#[97, 108, 108]⟩, .string ⟨#[97, 47, 98, 47, 100]⟩, .slice (some ⟨W.heap.size + 1 + 1 + 1 + 1, 0, none⟩) 2 2, .int .i64 5, .string ⟨#[97, 108, 108]⟩, .string ⟨#[97, 47]⟩, .slice (some ⟨W.heap.size + 1 + 1 + 1 + 1 + 1, 0, none⟩) 1 1, .int .i64 5, .string ⟨#[97, 108, 108]⟩, .string ⟨#[]⟩] 44)
  rw [← hw7] at r0
  replace r1 := r1.alloc (.cells #[.slice none 0 0, .int .i64 1, .string ⟨#[]⟩, .string ⟨#[]⟩, .slice (some ⟨W.heap.size, 0, none⟩) 2 2, .int .i64 3, .string ⟨#[]⟩, .string ⟨#[]⟩, .slice (some ⟨W.heap.size + 1, 0, none⟩) 2 2, .int .i64 2, .string ⟨#[120]⟩, .string ⟨#[122]⟩, .slice (some ⟨W.heap.size + 1 + 1, 0, none⟩) 3 3, .int .i64 4, .string ⟨#[120]⟩, .string ⟨#[98]⟩, .slice (some ⟨W.heap.size + 1 + 1 + 1, 0, none⟩) 3 3, .int .i64 5, .string ⟨#[97, 108, 108]⟩, .string ⟨#[97, 47, 98, 47, 100]⟩, .slice (some ⟨W.heap.size + 1 + 1 + 1 + 1, 0, none⟩) 2 2, .int .i64 5, .string ⟨#[97, 108, 108]⟩, .string ⟨#[97, 47]⟩, .slice (some ⟨W.heap.size + 1 + 1 + 1 + 1 + 1, 0, none⟩) 1 1, .int .i64 5, .string ⟨#[97, 108, 108]⟩, .string ⟨#[]⟩] 44)
  rw [← hw7] at r1
  replace r2 := r2.alloc (.cells #[.slice none 0 0, .int .i64 1, .string ⟨#[]⟩, .string ⟨#[]⟩, .slice (some ⟨W.heap.size, 0, none⟩) 2 2, .int .i64 3, .string ⟨#[]⟩, .string ⟨#[]⟩, .slice (some ⟨W.heap.size + 1, 0, none⟩) 2 2, .int .i64 2, .string ⟨#[120]⟩, .string ⟨#[122]⟩, .slice (some ⟨W.heap.size + 1 + 1, 0, none⟩) 3 3, .int .i64 4, .string ⟨#[120]⟩, .string ⟨#[98]⟩, .slice (some ⟨W.heap.size + 1 + 1 + 1, 0, none⟩) 3 3, .int .i64 5, .string ⟨#[97, 108, 108]⟩, .string ⟨#[97, 47, 98, 47, 100]⟩, .slice (some ⟨W.heap.size + 1 + 1 + 1 + 1, 0, none⟩) 2 2, .int .i64 5, .string ⟨#[97, 108, 108]⟩, .string ⟨#[97, 47]⟩, .slice (some ⟨W.heap.size + 1 + 1 + 1 + 1 + 1, 0, none⟩) 1 1, .int .i64 5, .string ⟨#[97, 108, 108]⟩, .string ⟨#[]⟩] 44)
  rw [← hw7] at r2
  replace r3 := r3.alloc (.cells #[.slice none 0 0, .int .i64 1, .string ⟨#[]⟩, .string ⟨#[]⟩, .slice (some ⟨W.heap.size, 0, none⟩) 2 2, .int .i64 3, .string ⟨#[]⟩, .string ⟨#[]⟩, .slice (some ⟨W.heap.size + 1, 0, none⟩) 2 2, .int .i64 2, .string ⟨#[120]⟩, .string ⟨#[122]⟩, .slice (some ⟨W.heap.size + 1 + 1, 0, none⟩) 3 3, .int .i64 4, .string ⟨#[120]⟩, .string ⟨#[98]⟩, .slice (some ⟨W.heap.size + 1 + 1 + 1, 0, none⟩) 3 3, .int .i64 5, .string ⟨#[97, 108, 108]⟩, .string ⟨#[97, 47, 98, 47, 100]⟩, .slice (some ⟨W.heap.size + 1 + 1 + 1 + 1, 0, none⟩) 2 2, .int .i64 5, .string ⟨#[97, 108, 108]⟩, .string ⟨#[97, 47]⟩, .slice (some ⟨W.heap.size + 1 + 1 + 1 + 1 + 1, 0, none⟩) 1 1, .int .i64 5, .string ⟨#[97, 108, 108]⟩, .string ⟨#[]⟩] 44)
  rw [← hw7] at r3
  replace r4 := r4.alloc (.cells #[.slice none 0 0, .int .i64 1, .string ⟨#[]⟩, .string ⟨#[]⟩, .slice (some ⟨W.heap.size, 0, none⟩) 2 2, .int .i64 3, .string ⟨#[]⟩, .string ⟨#[]⟩, .slice (some ⟨W.heap.size + 1, 0, none⟩) 2 2, .int .i64 2, .string ⟨#[120]⟩, .string ⟨#[122]⟩, .slice (some ⟨W.heap.size + 1 + 1, 0, none⟩) 3 3, .int .i64 4, .string ⟨#[120]⟩, .string ⟨#[98]⟩, .slice (some ⟨W.heap.size + 1 + 1 + 1, 0, none⟩) 3 3, .int .i64 5, .string ⟨#[97, 108, 108]⟩, .string ⟨#[97, 47, 98, 47, 100]⟩, .slice (some ⟨W.heap.size + 1 + 1 + 1 + 1, 0, none⟩) 2 2, .int .i64 5, .string ⟨#[97, 108, 108]⟩, .string ⟨#[97, 47]⟩, .slice (some ⟨W.heap.size + 1 + 1 + 1 + 1 + 1, 0, none⟩) 1 1, .int .i64 5, .string ⟨#[97, 108, 108]⟩, .string ⟨#[]⟩] 44)
  rw [← hw7] at r4
  replace r5 := r5.alloc (.cells #[.slice none 0 0, .int .i64 1, .string ⟨#[]⟩, .string ⟨#[]⟩, .slice (some ⟨W.heap.size, 0, none⟩) 2 2, .int .i64 3, .string ⟨#[]⟩, .string ⟨#[]⟩, .slice (some ⟨W.heap.size + 1, 0, none⟩) 2 2, .int .i64 2, .string ⟨#[120]⟩, .string ⟨#[122]⟩, .slice (some ⟨W.heap.size + 1 + 1, 0, none⟩) 3 3, .int .i64 4, .string ⟨#[120]⟩, .string ⟨#[98]⟩, .slice (some ⟨W.heap.size + 1 + 1 + 1, 0, none⟩) 3 3, .int .i64 5, .string ⟨#[97, 108, 108]⟩, .string ⟨#[97, 47, 98, 47, 100]⟩, .slice (some ⟨W.heap.size + 1 + 1 + 1 + 1, 0, none⟩) 2 2, .int .i64 5, .string ⟨#[97, 108, 108]⟩, .string ⟨#[97, 47]⟩, .slice (some ⟨W.heap.size + 1 + 1 + 1 + 1 + 1, 0, none⟩) 1 1, .int .i64 5, .string ⟨#[97, 108, 108]⟩, .string ⟨#[]⟩] 44)
  rw [← hw7] at r5
  have B7 : Below W.heap.size W w7 := by rw [hw7]; exact B6.alloc (by omega) _
  refine ⟨B7, fun i hi => ?_⟩
  have hc : i = 0 ∨ i = 1 ∨ i = 2 ∨ i = 3 ∨ i = 4 ∨ i = 5 ∨ i = 6 := by omega
  rcases hc with rfl | rfl | rfl | rfl | rfl | rfl | rfl
  · exact ⟨[], 0, [], [], .slice none 0 0, 0, rfl, cell_of_row w7 _ 0 _ _ (0, 0) r6, cell_of_row w7 _ 1 _ _ (0, 0) r6, cell_of_row w7 _ 2 _ _ (0, 0) r6, cell_of_row w7 _ 3 _ _ (0, 0) r6, ta_nil w7 none 0⟩
  · exact ⟨[[97], [98]], 2, [], [], .slice (some ⟨W.heap.size, 0, none⟩) 2 2, W.heap.size, rfl, cell_of_row w7 _ 4 _ _ (0, 0) r6, cell_of_row w7 _ 5 _ _ (0, 0) r6, cell_of_row w7 _ 6 _ _ (0, 0) r6, cell_of_row w7 _ 7 _ _ (0, 0) r6, ta_row (l := [[97], [98]]) (n := 2) (c := 2) r0 rfl⟩
  · exact ⟨[[97], [122]], 1, [120], [122], .slice (some ⟨W.heap.size + 1, 0, none⟩) 2 2, W.heap.size + 1, rfl, cell_of_row w7 _ 8 _ _ (0, 0) r6, cell_of_row w7 _ 9 _ _ (0, 0) r6, cell_of_row w7 _ 10 _ _ (0, 0) r6, cell_of_row w7 _ 11 _ _ (0, 0) r6, ta_row (l := [[97], [122]]) (n := 2) (c := 2) r1 rfl⟩
  · exact ⟨[[97], [98], [99]], 3, [120], [98], .slice (some ⟨W.heap.size + 1 + 1, 0, none⟩) 3 3, W.heap.size + 1 + 1, rfl, cell_of_row w7 _ 12 _ _ (0, 0) r6, cell_of_row w7 _ 13 _ _ (0, 0) r6, cell_of_row w7 _ 14 _ _ (0, 0) r6, cell_of_row w7 _ 15 _ _ (0, 0) r6, ta_row (l := [[97], [98], [99]]) (n := 3) (c := 3) r2 rfl⟩
  · exact ⟨[[97], [98], [100]], 4, [97, 108, 108], [97, 47, 98, 47, 100], .slice (some ⟨W.heap.size + 1 + 1 + 1, 0, none⟩) 3 3, W.heap.size + 1 + 1 + 1, rfl, cell_of_row w7 _ 16 _ _ (0, 0) r6, cell_of_row w7 _ 17 _ _ (0, 0) r6, cell_of_row w7 _ 18 _ _ (0, 0) r6, cell_of_row w7 _ 19 _ _ (0, 0) r6, ta_row (l := [[97], [98], [100]]) (n := 3) (c := 3) r3 rfl⟩
  · exact ⟨[[97], []], 4, [97, 108, 108], [97, 47], .slice (some ⟨W.heap.size + 1 + 1 + 1 + 1, 0, none⟩) 2 2, W.heap.size + 1 + 1 + 1 + 1, rfl, cell_of_row w7 _ 20 _ _ (0, 0) r6, cell_of_row w7 _ 21 _ _ (0, 0) r6, cell_of_row w7 _ 22 _ _ (0, 0) r6, cell_of_row w7 _ 23 _ _ (0, 0) r6, ta_row (l := [[97], []]) (n := 2) (c := 2) r4 rfl⟩
  · exact ⟨[[]], 4, [97, 108, 108], [], .slice (some ⟨W.heap.size + 1 + 1 + 1 + 1 + 1, 0, none⟩) 1 1, W.heap.size + 1 + 1 + 1 + 1 + 1, rfl, cell_of_row w7 _ 24 _ _ (0, 0) r6, cell_of_row w7 _ 25 _ _ (0, 0) r6, cell_of_row w7 _ 26 _ _ (0, 0) r6, cell_of_row w7 _ 27 _ _ (0, 0) r6, ta_row (l := [[]]) (n := 1) (c := 1) r5 rfl⟩
/-- What each row finds. -/
theorem kn_finds : ∀ i : Fin 7, ∃ path j n v p, knRows[i.1]? = some (path, j, n, v) ∧ knPats[j]? = some p ∧ j < 5 ∧ PathOk path ∧ bestB knEnts path (p, (j : Int) + 1) = true ∧ fdF (some (p, ((j : Int) + 1))) path = if n = [] then [] else [(n, v)] := by
  have h : ∀ i : Fin 7, (fun r : List Txt × Nat × Txt × Txt => r.2.1 < 5 ∧ (r.1.length ≤ 12 ∧ ∀ s ∈ r.1, s.length ≤ 40) ∧ bestB knEnts r.1 (knPats[r.2.1]?.getD [], (r.2.1 : Int) + 1) = true ∧ fdF (some (knPats[r.2.1]?.getD [], ((r.2.1 : Int) + 1))) r.1 = if r.2.2.1 = [] then [] else [(r.2.2.1, r.2.2.2)]) (knRows[i.1]?.getD ([], 0, [], [])) := by decide
  intro i
  have hl : i.1 < knRows.length := i.2
  have hi := h i
  rw [List.getElem?_eq_getElem hl] at hi ⊢
  obtain ⟨h1, h2, h3, h4⟩ := hi
  have hj : (knRows[i.1]).2.1 < knPats.length := h1
  exact ⟨_, _, _, _, knPats[(knRows[i.1]).2.1]?.getD [], rfl, (by have e := List.getElem?_eq_getElem hj; show knPats[(knRows[i.1]).2.1]? = some ((knPats[(knRows[i.1]).2.1]?).getD []); rw [e]; rfl), h1, h2, h3, h4⟩
def kn6 : Ents Int := [([47], 1), ([47, 97, 47, 58, 120], 2), ([47, 97, 47, 98], 3), ([47, 97, 47, 58, 120, 47, 99], 4), ([47, 42, 97, 108, 108], 5), ([47, 58, 113], 6)]
def kn7 : Ents Int := [([47], 1), ([47, 97, 47, 58, 120], 2), ([47, 97, 47, 98], 33), ([47, 97, 47, 58, 120, 47, 99], 4), ([47, 42, 97, 108, 108], 5), ([47, 58, 113], 6)]
def knBad : List Txt := [[47, 97, 47, 58, 120, 47, 58, 120], [97], [], [47, 97, 47, 47, 98], [47, 42, 97, 108, 108, 47, 98], [47, 97, 47], [47, 58], [47, 42], [47, 58, 97, 45, 98], [47, 58, 120, 47, 42, 120]]
theorem kn_bad : ∀ i : Fin 10, ∃ p, knBad[i.1]? = some p ∧ p.length ≤ 200 ∧ segsF p = none := by
  have h : ∀ i : Fin 10, (knBad[i.1]?.getD []).length ≤ 200 ∧ segsF (knBad[i.1]?.getD []) = none := by decide
  intro i
  have hl : i.1 < knBad.length := i.2
  refine ⟨knBad[i.1]?.getD [], by rw [List.getElem?_eq_getElem hl]; rfl, h i⟩
set_option maxRecDepth 100000 in
set_option maxHeartbeats 2000000 in
theorem known12_any {w : World} {RA : World → (Nat → Prop) → Nat → Int → Ents Int → Prop} (C : IntI w RA) (D : IntM w RA) (R : RightI w) : Calls Tryd.prog 6 #[] w fun e w' => e = .returned (.bool true) ∧ Below w.heap.size w w' := by
  have HC := Lib.hid C
  have HD := Lib.hid D
  have HR := Lib.hid R
  clear C D R
  have HM := Lib.hid (OneT.make HC.out 6 (by decide) (Below.refl _ w))
  go_enter Tryd.func6, Tryd.ntmps6
  go_wp2_with fail
  refine HM.out.mono ?_
  rintro e W1 ⟨g, rfl, hT⟩
  have HK := Lib.hid (KepT.of HC.out hT (.cells #[.string ⟨#[47]⟩, .string ⟨#[47, 97, 47, 58, 120]⟩, .string ⟨#[47, 97, 47, 98]⟩, .string ⟨#[47, 97, 47, 58, 120, 47, 99]⟩, .string ⟨#[47, 42, 97, 108, 108]⟩] 9))
  have HL := Lib.hid (ta_row (l := knPats) (n := 5) (c := 5) (row_new W1 #[.string ⟨#[47]⟩, .string ⟨#[47, 97, 47, 58, 120]⟩, .string ⟨#[47, 97, 47, 98]⟩, .string ⟨#[47, 97, 47, 58, 120, 47, 99]⟩, .string ⟨#[47, 42, 97, 108, 108]⟩] 9) rfl)
  clear hT HM
  go_wp2_with fail
  obtain ⟨b1, hb1⟩ : ∃ b, b = W1.heap.size := ⟨_, rfl⟩
  obtain ⟨W2, hW2⟩ : ∃ W, W = W1.alloc (.cells #[.string ⟨#[47]⟩, .string ⟨#[47, 97, 47, 58, 120]⟩, .string ⟨#[47, 97, 47, 98]⟩, .string ⟨#[47, 97, 47, 58, 120, 47, 99]⟩, .string ⟨#[47, 42, 97, 108, 108]⟩] 9) := ⟨_, rfl⟩
  rw [← hb1, ← hW2] at HL HK
  rw [← hb1, ← hW2]
  clear hb1 hW2
  go_loopw [3] (fun iv wr => ∃ i : Nat, i ≤ 5 ∧ iv = .int .i64 (i : Int) ∧ Hid (KepT RA w g 6 (knEnts.take i) (fun k => k = b1) W2 wr)) (fun iv _ => 5 - (intOf iv).toNat)
  case atStart => exact ⟨0, by omega, rfl, HK⟩
  case round =>
    obtain ⟨i, hi, rfl, HT⟩ := hrel
    have hw1 : IntKind.i64.wrap ((i : Int) + 1) = (i : Int) + 1 := by rw [IntKind.wrap_i64]; omega
    by_cases hlt : i < 5
    case pos =>
      have hz : decide ((i : Int) < 5) = true := decide_eq_true (by omega)
      obtain ⟨p, hp, hpl, hadd⟩ := kn_add ⟨i, hlt⟩
      have hix : ∀ w', (Instr.indexAt 22 (.slice (some ⟨b1, 0, none⟩) 5 5) (.int .i64 (i : Int))).run Tryd.prog w' = .ok (.pointer (some ⟨b1, i, none⟩)) w' := by
        have := HL.out.index i hlt
        rwa [Nat.zero_add] at this
      have hcell : wr.cell? ⟨b1, i, none⟩ = some (S p) := by
        have := HL.out.cell i p hp
        rw [Nat.zero_add] at this
        rw [HT.out.cell rfl i]; exact this
      have ha := KepT.add HC.out HT.out p ((i : Int) + 1) hpl
      have hadd : addE 6 (knEnts.take i) p ((i : Int) + 1) = (0, knEnts.take (i + 1)) := hadd
      rw [hadd] at ha
      have HA := Lib.hid ha
      clear ha hp hpl hadd
      go_wp2_with (first
        | (go_at_call 15; refine HA.out.mono ?_; rintro e W5 ⟨rfl, h5⟩; have H5 := Lib.hid h5; clear h5)
        | fail)
      exact ⟨⟨i + 1, by omega, by go_num, H5⟩, by simp [intOf]; omega⟩
    case neg =>
      have hz : decide ((i : Int) < 5) = false := decide_eq_false (by omega)
      have HT5 : Hid (KepT RA w g 6 knEnts (fun k => k = b1) W2 wr) := Lib.hid (by
        have := HT.out
        rwa [show i = 5 by omega] at this)
      clear hw1 HK HT
      go_wp2_with fail
      have HRW := Lib.hid (kn_rows wr)
      obtain ⟨b4, hb4⟩ : ∃ b, b = wr.heap.size + 1 + 1 + 1 + 1 + 1 + 1 := ⟨_, rfl⟩
      obtain ⟨W3, hW3⟩ : ∃ W, W = rowW wr := ⟨_, rfl⟩
      rw [← hb4, ← hW3] at HRW
      have HT3 : Hid (KepT RA w g 6 knEnts (fun k => k = b1) W2 W3) := Lib.hid (KepT.below HC.out HT5.out HRW.out.1)
      unfold rowW at hW3
      rw [← hW3]
      simp only [← hb4]
      clear hW3 hb4 HT5
      go_loopw [5] (fun iv wz => ∃ i : Nat, i ≤ 7 ∧ iv = .int .i64 (i : Int) ∧ Hid (KepT RA w g 6 knEnts (fun k => k = b1) W2 wz ∧ Below W3.heap.size W3 wz)) (fun iv _ => 7 - (intOf iv).toNat)
      case atStart => exact ⟨0, by omega, rfl, Lib.hid ⟨HT3.out, Below.refl _ _⟩⟩
      case round =>
        obtain ⟨i7, hi7, rfl, HT⟩ := hrel
        have hw7 : IntKind.i64.wrap ((i7 : Int) + 1) = (i7 : Int) + 1 := by rw [IntKind.wrap_i64]; omega
        by_cases hlt7 : i7 < 7
        case pos =>
          have hz7 : decide ((i7 : Int) < 7) = true := decide_eq_true (by omega)
          obtain ⟨path, j, n, v, V, b, hrow, cV, cx, cn, cv, hTA⟩ := HRW.out.2 i7 hlt7
          obtain ⟨path', j', n', v', p, hrow', hp, hj5, hok, hbest, hfd⟩ := kn_finds ⟨i7, hlt7⟩
          have hrow' : knRows[i7]? = some (path', j', n', v') := hrow'
          rw [hrow] at hrow'
          injection hrow' with hrow'
          injection hrow' with e1 hrow'
          injection hrow' with e2 hrow'
          injection hrow' with e3 e4
          subst e1 e2 e3 e4
          obtain ⟨kk, hkk⟩ : ∃ k, k = i7 * 4 := ⟨_, rfl⟩
          rw [← hkk] at cV cx cn cv
          have hix : ∀ w', (Instr.indexAt 45 (.slice (some ⟨b4, 0, none⟩) 7 7) (.int .i64 (i7 : Int))).run Tryd.prog w' = .ok (.pointer (some ⟨b4, kk, none⟩)) w' := fun w' => by
            have := run_index_at (P := Tryd.prog) Tryd.underlying45 (fun w => Tryd.sizeOf44 w) b4 0 7 7 i7 hlt7 w'
            rwa [Nat.zero_add, ← hkk] at this
          have up : ∀ {W : World} {q : Nat} {x : Value}, Below W3.heap.size W3 W → W3.cell? ⟨b4, q, none⟩ = some x → W.cell? ⟨b4, q, none⟩ = some x := fun hb hx => by rw [hb.cell (World.block_lt_of_cell? _ _ hx)]; exact hx
          have HUP := Lib.hid (And.intro cV (And.intro cx (And.intro cn cv)))
          have cV0 := up HT.out.2 cV
          have hf := KepT.find HC.out HT.out.1 (hTA.below HT.out.2) hok (best_of hbest)
          rw [hfd, show iV (fdX 0 (some (p, (j : Int) + 1))) = .int .i64 ((j : Int) + 1) from rfl, show S (fdP (some (p, (j : Int) + 1))) = S p from rfl] at hf
          have HF := Lib.hid hf
          have HP := Lib.hid hp
          have HJ := Lib.hid hj5
          have HU := Lib.hid (fun (W : World) (q : Nat) (x : Value) (a : Below W3.heap.size W3 W) (b : W3.cell? ⟨b4, q, none⟩ = some x) => up a b)
          clear hf hrow hp hj5 hok hbest hfd hTA cV cx cn cv hkk up
          go_wp2_with fail
          refine HF.out.mono ?_
          rintro e W5 ⟨VF, gf, o', rfl, hFA, hT5, hB5⟩
          have H5 := Lib.hid (And.intro hT5 (HT.out.2.trans (hB5.mono HT.out.2.size)))
          have cx5 : W5.cell? ⟨b4, kk + 1, none⟩ = some (.int .i64 ((j : Int) + 1)) := HU.out _ _ _ H5.out.2 HUP.out.2.1
          have cn5 : W5.cell? ⟨b4, kk + 2, none⟩ = some (S n) := HU.out _ _ _ H5.out.2 HUP.out.2.2.1
          have cv5 : W5.cell? ⟨b4, kk + 3, none⟩ = some (S v) := HU.out _ _ _ H5.out.2 HUP.out.2.2.2
          have cp5 : W5.cell? ⟨b1, j, none⟩ = some (S p) := by
            have := HL.out.cell j p HP.out
            rw [Nat.zero_add] at this
            rw [H5.out.1.cell rfl j]; exact this
          have hixj : ∀ w', (Instr.indexAt 22 (.slice (some ⟨b1, 0, none⟩) 5 5) (.int .i64 (j : Int))).run Tryd.prog w' = .ok (.pointer (some ⟨b1, j, none⟩)) w' := by
            have := HL.out.index j HJ.out
            rwa [Nat.zero_add] at this
          have hwj1 : IntKind.i64.wrap ((j : Int) + 1 - 1) = (j : Int) := by have := HJ.out; rw [IntKind.wrap_i64]; omega
          have hwj : IntKind.i64.wrap (j : Int) = (j : Int) := by have := HJ.out; rw [IntKind.wrap_i64]; omega
          have hwj2 : wrap64 (j : Int) = (j : Int) := by have := HJ.out; unfold wrap64; omega
          have q1 : binOp .neq 9 (S p) (S p) = pure (.bool false) := by rw [neql_S]; simp
          have n1 : ∀ x y, eqGuard .neq 9 x y (S p) (S p) = pure () := fun x y => nguard_S 9 x y p p
          clear hB5 hT5 cV0
          have HFA := Lib.hid hFA
          clear hFA
          go_wp2
          clear cx5 cp5 hixj hwj1 hwj hwj2 q1 n1
          obtain ⟨W6, hW6⟩ : ∃ W, W = W5 := ⟨_, rfl⟩
          have qn := eql_S 9 n []
          have qm := neql_S 9 n []
          have gn : ∀ x y, eqGuard .eql 9 x y (S n) (.string ⟨#[]⟩) = pure () := fun x y => guard_S 9 x y n []
          have gm : ∀ x y, eqGuard .neq 9 x y (S n) (.string ⟨#[]⟩) = pure () := fun x y => nguard_S 9 x y n []
          have hlit : (S [] : Value) = .string ⟨#[]⟩ := rfl
          rw [hlit] at qn qm
          by_cases hn : n = []
          · rw [show (n == []) = true by rw [hn]; rfl] at qn
            rw [show (n != []) = false by rw [hn]; rfl] at qm
            have hl0 : ∀ w', (Builtin.len_ #[30] 3 #[VF]).run Tryd.prog w' = .ok (.int .i64 0) w' := by
              have := HFA.out.len 3
              rw [if_pos hn] at this
              exact this
            clear hn hW6 hlit cv5
            go_quiet (fail)
            have H6 : Hid (KepT RA w g 6 knEnts (fun k => k = b1) W2 (W5.drewN nq) ∧ Below W3.heap.size W3 (W5.drewN nq)) := Lib.hid ⟨KepT.below HC.out H5.out.1 (below_drewN _ _), H5.out.2.trans ((below_drewN W5 nq).mono H5.out.2.size)⟩
            go_wp2
            exact ⟨⟨i7 + 1, by omega, by go_num, H6⟩, by simp [intOf]; omega⟩
          · rw [show (n == []) = false from beq_eq_false_iff_ne.2 hn] at qn
            rw [show (n != []) = true from bne_iff_ne.2 hn] at qm
            have hfa := HFA.out
            rw [if_neg hn] at hfa
            have hl1 : ∀ w', (Builtin.len_ #[30] 3 #[VF]).run Tryd.prog w' = .ok (.int .i64 1) w' := hfa.len 3
            obtain ⟨ko, hko⟩ : ∃ k, k = o' + 0 * 2 := ⟨_, rfl⟩
            have hx0 : ∀ w', (Instr.indexAt 30 VF (.int .i64 0)).run Tryd.prog w' = .ok (.pointer (some ⟨gf, ko, none⟩)) w' := by rw [hko]; exact hfa.index 0 Nat.zero_lt_one
            have hcf := hfa.cell 0 (n, v) rfl
            rw [← hko] at hcf
            have c0 : W5.cell? ⟨gf, ko, none⟩ = some (S n) := hcf.1
            have c1 : W5.cell? ⟨gf, ko + 1, none⟩ = some (S v) := hcf.2
            have e1 := eq_self n
            have e2 := eq_self v
            clear hn hW6 hlit hfa hcf hko
            go_quiet (fail)
            have H6 : Hid (KepT RA w g 6 knEnts (fun k => k = b1) W2 (W5.drewN nq) ∧ Below W3.heap.size W3 (W5.drewN nq)) := Lib.hid ⟨KepT.below HC.out H5.out.1 (below_drewN _ _), H5.out.2.trans ((below_drewN W5 nq).mono H5.out.2.size)⟩
            go_wp2
            exact ⟨⟨i7 + 1, by omega, by go_num, H6⟩, by simp [intOf]; omega⟩
        case neg =>
          have hz7 : decide ((i7 : Int) < 7) = false := decide_eq_false (by omega)
          have HT7 := Lib.hid (KepT.of HC.out HT.out.1.one (.cells #[.string ⟨#[47, 97, 47, 58, 120, 47, 58, 120]⟩, .string ⟨#[97]⟩, .string ⟨#[]⟩, .string ⟨#[47, 97, 47, 47, 98]⟩, .string ⟨#[47, 42, 97, 108, 108, 47, 98]⟩, .string ⟨#[47, 97, 47]⟩, .string ⟨#[47, 58]⟩, .string ⟨#[47, 42]⟩, .string ⟨#[47, 58, 97, 45, 98]⟩, .string ⟨#[47, 58, 120, 47, 42, 120]⟩] 9))
          have HL7 := Lib.hid (ta_row (l := knBad) (n := 10) (c := 10) (row_new wr #[.string ⟨#[47, 97, 47, 58, 120, 47, 58, 120]⟩, .string ⟨#[97]⟩, .string ⟨#[]⟩, .string ⟨#[47, 97, 47, 47, 98]⟩, .string ⟨#[47, 42, 97, 108, 108, 47, 98]⟩, .string ⟨#[47, 97, 47]⟩, .string ⟨#[47, 58]⟩, .string ⟨#[47, 42]⟩, .string ⟨#[47, 58, 97, 45, 98]⟩, .string ⟨#[47, 58, 120, 47, 42, 120]⟩] 9) rfl)
          clear hw7 HT HT3 HL HRW
          go_wp2_with fail
          obtain ⟨b9, hb9⟩ : ∃ b, b = wr.heap.size := ⟨_, rfl⟩
          obtain ⟨W4, hW4⟩ : ∃ W, W = wr.alloc (.cells #[.string ⟨#[47, 97, 47, 58, 120, 47, 58, 120]⟩, .string ⟨#[97]⟩, .string ⟨#[]⟩, .string ⟨#[47, 97, 47, 47, 98]⟩, .string ⟨#[47, 42, 97, 108, 108, 47, 98]⟩, .string ⟨#[47, 97, 47]⟩, .string ⟨#[47, 58]⟩, .string ⟨#[47, 42]⟩, .string ⟨#[47, 58, 97, 45, 98]⟩, .string ⟨#[47, 58, 120, 47, 42, 120]⟩] 9) := ⟨_, rfl⟩
          rw [← hb9, ← hW4] at HL7 HT7
          rw [← hb9, ← hW4]
          clear hb9 hW4
          go_loopw [11] (fun iv wz => ∃ i : Nat, i ≤ 10 ∧ iv = .int .i64 (i : Int) ∧ Hid (KepT RA w g 6 knEnts (fun k => k = b9) W4 wz)) (fun iv _ => 10 - (intOf iv).toNat)
          case atStart => exact ⟨0, by omega, rfl, HT7⟩
          case round =>
            obtain ⟨i9, hi9, rfl, HT⟩ := hrel
            have hw9 : IntKind.i64.wrap ((i9 : Int) + 1) = (i9 : Int) + 1 := by rw [IntKind.wrap_i64]; omega
            by_cases hlt9 : i9 < 10
            case pos =>
              have hz9 : decide ((i9 : Int) < 10) = true := decide_eq_true (by omega)
              obtain ⟨p, hp, hpl, hseg⟩ := kn_bad ⟨i9, hlt9⟩
              have hix : ∀ w', (Instr.indexAt 22 (.slice (some ⟨b9, 0, none⟩) 10 10) (.int .i64 (i9 : Int))).run Tryd.prog w' = .ok (.pointer (some ⟨b9, i9, none⟩)) w' := by
                have := HL7.out.index i9 hlt9
                rwa [Nat.zero_add] at this
              have h0 : W4.cell? ⟨b9, i9, none⟩ = some (S p) := by
                have := HL7.out.cell i9 p hp
                rwa [Nat.zero_add] at this
              have HCE : Hid (∀ W, KepT RA w g 6 knEnts (fun k => k = b9) W4 W → W.cell? ⟨b9, i9, none⟩ = some (S p)) := Lib.hid (fun W h => by rw [h.cell rfl i9]; exact h0)
              have hcell := HCE.out wr HT.out
              have hr1 := HR.out p wr hpl HT.out.bel
              rw [show (segsF p).isSome = false by rw [hseg]; rfl] at hr1
              have HR1 := Lib.hid hr1
              have HAD : Hid (∀ W, KepT RA w g 6 knEnts (fun k => k = b9) W4 W → Calls Tryd.prog 15 #[.pointer (some ⟨g, 0, none⟩), S p, .int .i64 9] W fun e W' => e = .returned (.int .i64 8) ∧ KepT RA w g 6 knEnts (fun k => k = b9) W4 W') := Lib.hid (fun W h => by
                have := KepT.add HC.out h p (9 : Int) hpl
                rw [show addE 6 knEnts p (9 : Int) = (8, knEnts) by unfold addE; rw [hseg]] at this
                exact this)
              have HSE : Hid (∀ W, KepT RA w g 6 knEnts (fun k => k = b9) W4 W → Calls Tryd.prog 18 #[.pointer (some ⟨g, 0, none⟩), S p, .int .i64 9] W fun e W' => e = .returned (.int .i64 8) ∧ KepT RA w g 6 knEnts (fun k => k = b9) W4 W') := Lib.hid (fun W h => by
                have := KepT.set HD.out h p (9 : Int) hpl
                rw [show setE knEnts p (9 : Int) = (8, knEnts) by unfold setE; rw [hseg]; rfl] at this
                exact this)
              clear hp hpl hseg h0 hr1
              go_wp2_with fail
              refine HR1.out.mono ?_
              rintro e W5 ⟨rfl, hB5⟩
              have H5 := Lib.hid (KepT.below HC.out HT.out hB5)
              have hc5 := HCE.out W5 H5.out
              clear hB5 hcell
              go_wp2_with fail
              refine (HAD.out W5 H5.out).mono ?_
              rintro e W6 ⟨rfl, h6⟩
              have H6 := Lib.hid h6
              have hc6 := HCE.out W6 h6
              clear h6 hc5
              go_wp2_with fail
              refine (HSE.out W6 H6.out).mono ?_
              rintro e W7 ⟨rfl, h7⟩
              have H7 := Lib.hid h7
              clear h7 hc6
              go_wp2
              exact ⟨⟨i9 + 1, by omega, by go_num, H7⟩, by simp [intOf]; omega⟩
            case neg =>
              have hz9 : decide ((i9 : Int) < 10) = false := decide_eq_false (by omega)
              clear hw9 HT7 HL7
              generalize (fun k => k = b9) = K9 at *
              have ha := KepT.add HC.out HT.out [47, 97, 47, 58, 121] (9 : Int) (by decide)
              rw [show addE 6 knEnts [47, 97, 47, 58, 121] (9 : Int) = (5, knEnts) by decide] at ha
              have HA := Lib.hid ha
              clear ha
              go_wp2_with fail
              refine HA.out.mono ?_
              rintro e X5 ⟨rfl, hT⟩
              have Z5 := Lib.hid hT
              clear hT HA
              have ha := KepT.add HC.out Z5.out [47, 58, 113] (6 : Int) (by decide)
              rw [show addE 6 knEnts [47, 58, 113] (6 : Int) = (0, kn6) by decide] at ha
              have HA := Lib.hid ha
              clear ha
              go_wp2_with fail
              refine HA.out.mono ?_
              rintro e X6 ⟨rfl, hT⟩
              have Z6 := Lib.hid hT
              clear hT HA
              have ha := KepT.add HC.out Z6.out [47, 122] (7 : Int) (by decide)
              rw [show addE 6 kn6 [47, 122] (7 : Int) = (6, kn6) by decide] at ha
              have HA := Lib.hid ha
              clear ha
              go_wp2_with fail
              refine HA.out.mono ?_
              rintro e X7 ⟨rfl, hT⟩
              have Z7 := Lib.hid hT
              clear hT HA
              have ha := KepT.set HD.out Z7.out [47, 97, 47, 58, 121] (9 : Int) (by decide)
              rw [show setE kn6 [47, 97, 47, 58, 121] (9 : Int) = (4, kn6) by decide] at ha
              have HA := Lib.hid ha
              clear ha
              go_wp2_with fail
              refine HA.out.mono ?_
              rintro e X8 ⟨rfl, hT⟩
              have Z8 := Lib.hid hT
              clear hT HA
              have ha := KepT.set HD.out Z8.out [47, 97, 47, 98] (33 : Int) (by decide)
              rw [show setE kn6 [47, 97, 47, 98] (33 : Int) = (0, kn7) by decide] at ha
              have HA := Lib.hid ha
              clear ha
              go_wp2_with fail
              refine HA.out.mono ?_
              rintro e X9 ⟨rfl, hT⟩
              have Z9 := Lib.hid hT
              clear hT HA
              have ha := KepT.get HC.out HD.out Z9.out [47, 97, 47, 98] (by decide)
              rw [show getE kn7 [47, 97, 47, 98] = some 33 by decide] at ha
              have HA := Lib.hid ha
              clear ha
              go_wp2_with fail
              refine HA.out.mono ?_
              rintro e X10 ⟨rfl, hT⟩
              have Z10 := Lib.hid hT
              clear hT HA
              have ha := KepT.get HC.out HD.out Z10.out [47, 97, 47, 58, 121] (by decide)
              rw [show getE kn7 [47, 97, 47, 58, 121] = none by decide] at ha
              have HA := Lib.hid ha
              clear ha
              go_wp2_with fail
              refine HA.out.mono ?_
              rintro e X11 ⟨rfl, hT⟩
              have Z11 := Lib.hid hT
              clear hT HA
              have HBQ : Hid (Below X11.heap.size X11 (X11.alloc (.cells #[.string ⟨#[]⟩, .string ⟨#[98]⟩] 9))) := Lib.hid ((Below.refl _ X11).alloc (Nat.le_refl _) _)
              have hf := KepT.find HC.out (KepT.below HC.out Z11.out HBQ.out) (path := [[], [98]]) (V := .slice (some ⟨X11.heap.size, 0, none⟩) 2 2) (ta_row (row_new X11 #[.string ⟨#[]⟩, .string ⟨#[98]⟩] 9) rfl) (by unfold PathOk; decide) (r := some ([47, 42, 97, 108, 108], (5 : Int))) (best_of (by decide))
              have HF := Lib.hid hf
              clear hf
              go_wp2_with fail
              refine HF.out.mono ?_
              rintro e Y1 ⟨VF, gf, o', rfl, _, hT, _⟩
              have Z := Lib.hid hT
              clear hT HF HBQ
              have HLE := Lib.hid (KepT.len HC.out HD.out Z.out)
              go_wp2_with fail
              refine HLE.out.mono ?_
              rintro e Y2 ⟨rfl, hT⟩
              have Z2 := Lib.hid hT
              clear hT HLE
              have HW := Lib.hid (wakes12_any (HC.out.up Z2.out.bel) (HR.out.up Z2.out.bel))
              rw [show ((kn7.length : Nat) : Int) = 6 from rfl]
              go_wp2_with fail
              refine HW.out.mono ?_
              rintro e Y3 ⟨rfl, hB⟩
              have HE := Lib.hid (Z2.out.bel.trans (hB.mono Z2.out.bel.size))
              clear hB HW
              go_wp2
              go_ret
              exact ⟨rfl, HE.out⟩
end Go.Proofs.YtgoaljnfegaldaaDoor
