/- The document's own way back: what its bits come to. -/
import Derived.Test.YtclnefackjonpaaMath3
namespace Go.Proofs.Ytclnefackjonpaa

/-- The letters of a text, no fillers. -/
def cor : List UInt8 → List UInt8
  | [] => []
  | [x] => [ltr (x.toNat / 4), ltr (x.toNat % 4 * 16)]
  | [x, y] => [ltr (x.toNat / 4), ltr (x.toNat % 4 * 16 + y.toNat / 16), ltr (y.toNat % 16 * 4)]
  | x :: y :: z :: r => [ltr (x.toNat / 4), ltr (x.toNat % 4 * 16 + y.toNat / 16), ltr (y.toNat % 16 * 4 + z.toNat / 64), ltr (z.toNat % 64)] ++ cor r
theorem enc_cor : ∀ s : List UInt8, ∃ n, enc s = cor s ++ List.replicate n 61
  | [] => ⟨0, rfl⟩
  | [x] => ⟨2, by rw [enc, quad1, cor]; rfl⟩
  | [x, y] => ⟨1, by rw [enc, quad2, cor]; rfl⟩
  | x :: y :: z :: r => by
    obtain ⟨n, h⟩ := enc_cor r
    exact ⟨n, by rw [enc3, quad3, h, cor, List.append_assoc]⟩
theorem cor_letters : ∀ s : List UInt8, ∀ c ∈ cor s, ∃ n, n < 64 ∧ c = ltr n
  | [], c, h => by simp [cor] at h
  | [x], c, h => by
    have hx := x.toNat_lt
    rw [cor] at h
    simp only [List.mem_cons, List.not_mem_nil, or_false] at h
    rcases h with rfl | rfl
    · exact ⟨_, by omega, rfl⟩
    · exact ⟨_, by omega, rfl⟩
  | [x, y], c, h => by
    have hx := x.toNat_lt
    have hy := y.toNat_lt
    rw [cor] at h
    simp only [List.mem_cons, List.not_mem_nil, or_false] at h
    rcases h with rfl | rfl | rfl
    · exact ⟨_, by omega, rfl⟩
    · exact ⟨_, by omega, rfl⟩
    · exact ⟨_, by omega, rfl⟩
  | x :: y :: z :: r, c, h => by
    have hx := x.toNat_lt
    have hy := y.toNat_lt
    have hz := z.toNat_lt
    rw [cor] at h
    simp only [List.cons_append, List.nil_append, List.mem_cons] at h
    rcases h with rfl | rfl | rfl | rfl | h
    · exact ⟨_, by omega, rfl⟩
    · exact ⟨_, by omega, rfl⟩
    · exact ⟨_, by omega, rfl⟩
    · exact ⟨_, by omega, rfl⟩
    · exact cor_letters r c h
theorem num_ltr' (n : Nat) (h : n < 64) : num (ltr n) = n := by rw [num, num_ltr n h]; rfl

theorem oct1 (x y : Nat) (h : x < 256) (hy : y < 256) :
    hor [x / 4 / 32 % 2, x / 4 / 16 % 2, x / 4 / 8 % 2, x / 4 / 4 % 2, x / 4 / 2 % 2, x / 4 % 2, (x % 4 * 16 + y / 16) / 32 % 2, (x % 4 * 16 + y / 16) / 16 % 2] = x := by
  simp only [hor, List.foldl_cons, List.foldl_nil]; omega
theorem oct1' (x : Nat) (h : x < 256) :
    hor [x / 4 / 32 % 2, x / 4 / 16 % 2, x / 4 / 8 % 2, x / 4 / 4 % 2, x / 4 / 2 % 2, x / 4 % 2, (x % 4 * 16) / 32 % 2, (x % 4 * 16) / 16 % 2] = x := by
  simp only [hor, List.foldl_cons, List.foldl_nil]; omega
theorem oct2 (x y z : Nat) (hy : y < 256) (hz : z < 256) :
    hor [(x % 4 * 16 + y / 16) / 8 % 2, (x % 4 * 16 + y / 16) / 4 % 2, (x % 4 * 16 + y / 16) / 2 % 2, (x % 4 * 16 + y / 16) % 2,
      (y % 16 * 4 + z / 64) / 32 % 2, (y % 16 * 4 + z / 64) / 16 % 2, (y % 16 * 4 + z / 64) / 8 % 2, (y % 16 * 4 + z / 64) / 4 % 2] = y := by
  simp only [hor, List.foldl_cons, List.foldl_nil]; omega
theorem oct2' (x y : Nat) (hy : y < 256) :
    hor [(x % 4 * 16 + y / 16) / 8 % 2, (x % 4 * 16 + y / 16) / 4 % 2, (x % 4 * 16 + y / 16) / 2 % 2, (x % 4 * 16 + y / 16) % 2,
      (y % 16 * 4) / 32 % 2, (y % 16 * 4) / 16 % 2, (y % 16 * 4) / 8 % 2, (y % 16 * 4) / 4 % 2] = y := by
  simp only [hor, List.foldl_cons, List.foldl_nil]; omega
theorem oct3 (y z : Nat) (hz : z < 256) :
    hor [(y % 16 * 4 + z / 64) / 2 % 2, (y % 16 * 4 + z / 64) % 2, z % 64 / 32 % 2, z % 64 / 16 % 2, z % 64 / 8 % 2, z % 64 / 4 % 2, z % 64 / 2 % 2, z % 64 % 2] = z := by
  simp only [hor, List.foldl_cons, List.foldl_nil]; omega

theorem oc_cor : ∀ s : List UInt8, oc (bl (cor s)) = s
  | [] => rfl
  | [x] => by
    have hx := x.toNat_lt
    rw [cor, bl_cons, bl_cons, num_ltr' _ (by omega), num_ltr' _ (by omega), bn6, bn6]
    simp only [List.cons_append, List.nil_append]
    rw [oc_cons, oct1' _ hx]
    simp [oc, bl]
  | [x, y] => by
    have hx := x.toNat_lt
    have hy := y.toNat_lt
    rw [cor, bl_cons, bl_cons, bl_cons, num_ltr' _ (by omega), num_ltr' _ (by omega), num_ltr' _ (by omega), bn6, bn6, bn6]
    simp only [List.cons_append, List.nil_append]
    rw [oc_cons, oc_cons, oct1 _ _ hx hy, oct2' _ _ hy]
    simp [oc, bl]
  | x :: y :: z :: r => by
    have hx := x.toNat_lt
    have hy := y.toNat_lt
    have hz := z.toNat_lt
    have ih := oc_cor r
    rw [cor]
    simp only [List.cons_append, List.nil_append]
    rw [bl_cons, bl_cons, bl_cons, bl_cons, num_ltr' _ (by omega), num_ltr' _ (by omega), num_ltr' _ (by omega), num_ltr' _ (by omega), bn6, bn6, bn6, bn6]
    simp only [List.cons_append, List.nil_append]
    rw [oc_cons, oc_cons, oc_cons, oct1 _ _ hx hy, oct2 _ _ _ hy hz, oct3 _ _ hz, ih]
    simp

/-- From place k on a text has but fillers; it has none ahead of that. -/
def Bare (s : List UInt8) (k : Nat) : Prop := k ≤ s.length ∧ (∀ i c, k ≤ i → s[i]? = some c → c = 61) ∧ (∀ c, 0 < k → s[k - 1]? = some c → c ≠ 61)
theorem bare_cor {s b : List UInt8} {k : Nat} (h : Bare s k) (hd : dec s = some b) : s.take k = cor b := by
  have he := forth s b hd
  obtain ⟨n, hn⟩ := enc_cor b
  obtain ⟨h1, h2, h3⟩ := h
  have hs : s = cor b ++ List.replicate n 61 := by rw [← he, hn]
  have hl : s.length = (cor b).length + n := by rw [hs, List.length_append, List.length_replicate]
  have hne : ∀ i (hi : i < (cor b).length), (cor b)[i] ≠ 61 := fun i hi e => by
    obtain ⟨m, hm, e2⟩ := cor_letters b _ (List.getElem_mem hi)
    exact ltr_ne m hm (by rw [← e2, e])
  rcases Nat.lt_trichotomy k (cor b).length with hk | hk | hk
  · exfalso
    refine hne k hk (h2 k _ (Nat.le_refl _) ?_)
    rw [hs, List.getElem?_append_left hk, List.getElem?_eq_getElem hk]
  · rw [hs, hk, List.take_left]
  · exfalso
    refine h3 61 (by omega) ?_ rfl
    rw [hs, List.getElem?_append_right (by omega), List.getElem?_replicate, if_pos (by omega)]
theorem bare_bad {s : List UInt8} {k j : Nat} {c : UInt8} (h : Bare s k) (hc : (s.take k)[j]? = some c) (hn : numO c = none) : dec s = none := by
  cases hd : dec s with
  | none => rfl
  | some b =>
    rw [bare_cor h hd] at hc
    obtain ⟨m, hm, e⟩ := cor_letters b c (List.mem_of_getElem? hc)
    rw [e, num_ltr m hm] at hn
    cases hn
theorem bare_no {s : List UInt8} {k : Nat} (h : Bare s k) (hn : enc (oc (bl (s.take k))) ≠ s) : dec s = none := by
  cases hd : dec s with
  | none => rfl
  | some b =>
    rw [bare_cor h hd, oc_cor] at hn
    exact absurd (forth s b hd) hn
theorem bare_yes {s : List UInt8} {k : Nat} (hn : enc (oc (bl (s.take k))) = s) : dec s = some (oc (bl (s.take k))) := by
  have := back (oc (bl (s.take k)))
  rw [hn] at this
  exact this
end Go.Proofs.Ytclnefackjonpaa
