/- Bodies that were made in chunks; what stands in a text, in order. -/
import Derived.Test.YtocekbfnefajhaaDoorCm1
namespace Go.Proofs.YtocekbfnefajhaaDoor
open Go.RowKit

theorem endCR_snoc (l : List UInt8) (c : UInt8) : endCR (l ++ [c]) = (c == 13) := by
  unfold endCR; rw [List.getLast?_append]; simp
theorem endCR_no {l : List UInt8} (h : 13 ∉ l) : endCR l = false := by
  rcases List.eq_nil_or_concat l with rfl | ⟨p, c, rfl⟩
  · rfl
  · rw [List.concat_eq_append, endCR_snoc, beq_eq_false_iff_ne]
    rintro rfl
    exact h (by simp)
theorem run_head_text : ∀ (t cur d : List UInt8), 13 ∉ cur → 13 ∉ t → 10 ∉ t → cur.length + t.length ≤ 2048 → (⟨.head cur, d⟩ : Cst).run t = (t.length, ⟨.head (cur ++ t), d⟩)
  | [], cur, d, _, _, _, _ => by simp [Cst.run]
  | c :: t, cur, d, h1, h2, h3, h4 => by
    have hc13 : c ≠ 13 := fun e => h2 (by rw [e]; exact .head _)
    have hc10 : (c == 10) = false := beq_eq_false_iff_ne.2 fun e => h3 (by rw [e]; exact .head _)
    simp only [List.length_cons] at h4
    have hs : (⟨.head cur, d⟩ : Cst).step c = ⟨.head (cur ++ [c]), d⟩ := by
      unfold Cst.step
      dsimp only
      rw [endCR_no h1, hc10, if_neg (fun h => h rfl), if_neg Bool.false_ne_true, if_neg (by omega)]
    rw [run_cons rfl, hs, run_head_text t (cur ++ [c]) d (fun h => by
      rcases List.mem_append.1 h with h | h
      · exact h1 h
      · exact hc13 (List.mem_singleton.1 h).symm) (fun h => h2 (.tail _ h)) (fun h => h3 (.tail _ h)) (by rw [List.length_append, List.length_singleton]; omega)]
    rw [List.append_assoc]; rfl
/-- A head's line. -/
theorem run_head_line {t d : List UInt8} (h2 : 13 ∉ t) (h3 : 10 ∉ t) (h4 : t.length ≤ 2047) : (⟨.head [], d⟩ : Cst).run (t ++ [13, 10]) = (t.length + 2, ⟨headF t d, d⟩) := by
  rw [run_append, run_head_text t [] d List.not_mem_nil h2 h3 (by simp; omega)]
  have hs : (⟨.head ([] ++ t), d⟩ : Cst).step 13 = ⟨.head (t ++ [13]), d⟩ := by
    unfold Cst.step
    dsimp only
    rw [List.nil_append, endCR_no h2, show ((13 : UInt8) == 10) = false from rfl, if_neg (fun h => h rfl), if_neg Bool.false_ne_true, if_neg (by omega)]
  have hs2 : (⟨.head (t ++ [13]), d⟩ : Cst).step 10 = ⟨headF t d, d⟩ := by
    unfold Cst.step
    dsimp only
    rw [endCR_snoc, show ((13 : UInt8) == 13) = true from rfl, show ((10 : UInt8) == 10) = true from rfl, if_neg (fun h => h rfl), if_pos rfl, List.dropLast_concat]
  have e : (⟨.head ([] ++ t), d⟩ : Cst).run [13, 10] = (2, ⟨headF t d, d⟩) := by
    rw [run_cons rfl, hs, run_cons rfl, hs2]; rfl
  rw [e]
theorem run_body : ∀ (x d : List UInt8), x ≠ [] → (⟨.body x.length, d⟩ : Cst).run x = (x.length, ⟨.cr, d ++ x⟩)
  | [], _, h => absurd rfl h
  | [c], d, _ => rfl
  | c :: c' :: x, d, _ => by
    have hs : (⟨.body (c :: c' :: x).length, d⟩ : Cst).step c = ⟨.body (c' :: x).length, d ++ [c]⟩ := by
      unfold Cst.step
      dsimp only
      rw [if_neg (by simp)]; rfl
    rw [run_cons rfl, hs, run_body (c' :: x) (d ++ [c]) (by simp), List.append_assoc]; rfl
/-- A whole chunk. -/
theorem run_chunk {t d x : List UInt8} (h2 : 13 ∉ t) (h3 : 10 ∉ t) (h4 : t.length ≤ 2047) (hx : x ≠ []) (hz : sizeF t = some x.length) (hd : d.length + x.length ≤ 4096) :
    (⟨.head [], d⟩ : Cst).run ((t ++ [13, 10]) ++ (x ++ [13, 10])) = (t.length + 2 + (x.length + 2), ⟨.head [], d ++ x⟩) := by
  have hH : headF t d = .body x.length := by
    unfold headF
    rw [hz]
    dsimp only
    rw [if_neg (by omega), if_neg (fun h => hx (List.length_eq_zero_iff.1 h))]
  have e : (⟨.cr, d ++ x⟩ : Cst).run [13, 10] = (2, ⟨.head [], d ++ x⟩) := rfl
  rw [run_append, run_head_line h2 h3 h4, hH]
  dsimp only
  rw [run_append, run_body x d hx]
  dsimp only
  rw [e]
theorem run_last (d : List UInt8) (hd : d.length ≤ 4096) : (⟨.head [], d⟩ : Cst).run [48, 13, 10] = (3, ⟨.tail [] 0 0, d⟩) := by
  have := run_head_line (t := [48]) (d := d) (by decide) (by decide) (by decide)
  have hH : headF [48] d = .tail [] 0 0 := by
    unfold headF
    rw [show sizeF [48] = some 0 by decide]
    dsimp only
    rw [if_neg (by omega), if_pos rfl]
  rw [hH] at this
  exact this
theorem run_end (d : List UInt8) (k f : Nat) (hk : k + 2 ≤ 2048) : (⟨.tail [] k f, d⟩ : Cst).run [13, 10] = (2, ⟨.done, d⟩) := by
  have hs : (⟨.tail [] k f, d⟩ : Cst).step 13 = ⟨.tail [13] (k + 1) f, d⟩ := by
    unfold Cst.step; dsimp only; rw [if_neg (by omega)]; rfl
  have hs2 : (⟨.tail [13] (k + 1) f, d⟩ : Cst).step 10 = ⟨.done, d⟩ := by
    unfold Cst.step; dsimp only; rw [if_neg (by omega)]; rfl
  rw [run_cons rfl, hs, run_cons rfl, hs2]; rfl
/-- Sum: none, CR LF. -/
def sumL : List UInt8 := [83, 117, 109, 58, 32, 110, 111, 110, 101, 13, 10]
theorem run_sum (d : List UInt8) : (⟨.tail [] 0 0, d⟩ : Cst).run sumL = (11, ⟨.tail [] 11 1, d⟩) := by rfl

/-! Numerals of 16. -/
def hexC (n : Nat) : UInt8 := if n < 10 then UInt8.ofNat (48 + n) else UInt8.ofNat (87 + n)
def hexF : Nat → Nat → List UInt8
  | 0, n => [hexC n]
  | f + 1, n => if n < 16 then [hexC n] else hexF f (n / 16) ++ [hexC (n % 16)]
def hexT (n : Nat) : List UInt8 := hexF 3 n
/-- What may stand behind a size. -/
def nameL : List UInt8 := [59, 110, 97, 109, 101, 61, 118, 97, 108, 117, 101]
theorem hexN_C : ∀ n : Fin 16, hexN (hexC n.1) = some n.1 ∧ hexC n.1 ≠ 59 ∧ hexC n.1 ≠ 13 ∧ hexC n.1 ≠ 10 := by decide +kernel
theorem hexF_len : ∀ f n, (hexF f n).length ≤ f + 1 ∧ 1 ≤ (hexF f n).length
  | 0, n => by simp [hexF]
  | f + 1, n => by
    rw [hexF]
    split
    · simp
    · have := hexF_len f (n / 16)
      rw [List.length_append, List.length_singleton]; omega
theorem hexF_mem : ∀ f n, n < 16 ^ (f + 1) → ∀ c ∈ hexF f n, ∃ k : Fin 16, c = hexC k.1
  | 0, n, h, c, hc => by
    rw [hexF] at hc
    exact ⟨⟨n, by simpa using h⟩, List.mem_singleton.1 hc⟩
  | f + 1, n, h, c, hc => by
    rw [hexF] at hc
    split at hc
    · exact ⟨⟨n, by omega⟩, List.mem_singleton.1 hc⟩
    · rcases List.mem_append.1 hc with hc | hc
      · exact hexF_mem f (n / 16) (by rw [Nat.pow_succ] at h; omega) c hc
      · exact ⟨⟨n % 16, by omega⟩, List.mem_singleton.1 hc⟩
theorem size_hex : ∀ (f n : Nat) (k x : Nat) (r : List UInt8), n < 16 ^ (f + 1) → k + (hexF f n).length ≤ 8 → sizeGo k x (hexF f n ++ r) = sizeGo (k + (hexF f n).length) (16 ^ (hexF f n).length * x + n) r
  | 0, n, k, x, r, h, hk => by
    have hn : n < 16 := by simpa using h
    have hc := hexN_C ⟨n, hn⟩
    rw [hexF] at hk ⊢
    simp only [List.length_singleton] at hk ⊢
    rw [List.singleton_append, sizeGo, if_neg hc.2.1, hc.1]
    dsimp only
    rw [if_neg (by omega)]
  | f + 1, n, k, x, r, h, hk => by
    rw [hexF] at hk ⊢
    split
    · rename_i hn
      rw [if_pos hn] at hk
      have hc := hexN_C ⟨n, hn⟩
      simp only [List.length_singleton] at hk ⊢
      rw [List.singleton_append, sizeGo, if_neg hc.2.1, hc.1]
      dsimp only
      rw [if_neg (by omega)]
    · rename_i hn
      rw [if_neg hn] at hk
      rw [List.length_append, List.length_singleton] at hk
      have hc := hexN_C ⟨n % 16, by omega⟩
      rw [List.append_assoc, size_hex f (n / 16) k x _ (by rw [Nat.pow_succ] at h; omega) (by omega), List.singleton_append, sizeGo, if_neg hc.2.1, hc.1]
      dsimp only
      rw [if_neg (by omega), List.length_append, List.length_singleton]
      have e : 16 * (16 ^ (hexF f (n / 16)).length * x + n / 16) + n % 16 = 16 ^ ((hexF f (n / 16)).length + 1) * x + n := by
        rw [Nat.pow_succ, Nat.mul_add, ← Nat.mul_assoc, Nat.mul_comm 16 (16 ^ _)]; omega
      rw [e, Nat.add_assoc]
theorem size_plain {n : Nat} (h : n < 65536) : sizeF (hexT n) = some n := by
  have hl := hexF_len 3 n
  have := size_hex 3 n 0 0 [] h (by omega)
  rw [List.append_nil] at this
  unfold sizeF hexT
  rw [this, sizeGo, if_neg (by omega)]; simp
theorem size_great {n : Nat} (h : n < 65536) : sizeF (([48] ++ hexT n) ++ nameL) = some n := by
  have hl := hexF_len 3 n
  have e : sizeF (([48] ++ hexT n) ++ nameL) = sizeGo 1 0 (hexT n ++ nameL) := by
    unfold sizeF
    rw [List.append_assoc, List.singleton_append, sizeGo, if_neg (by decide), show hexN 48 = some 0 by decide]
    dsimp only
    rw [if_neg (by omega)]
  unfold hexT at *
  rw [e, size_hex 3 n 1 0 nameL h (by omega), nameL, sizeGo, if_pos rfl, if_neg (by omega), if_neg (by decide)]
  simp
theorem hex_plain {n : Nat} (h : n < 65536) : 13 ∉ hexT n ∧ 10 ∉ hexT n := by
  refine ⟨fun hm => ?_, fun hm => ?_⟩
  · obtain ⟨k, hk⟩ := hexF_mem 3 n h _ hm
    exact (hexN_C k).2.2.1 hk.symm
  · obtain ⟨k, hk⟩ := hexF_mem 3 n h _ hm
    exact (hexN_C k).2.2.2 hk.symm
/-! A text that stands in another one, in order. -/
def greedy : List UInt8 → List UInt8 → List UInt8
  | [], _ => []
  | w, [] => w
  | a :: w, c :: s => if c = a then greedy w s else greedy (a :: w) s
theorem greedy_sub : ∀ (s w : List UInt8), w.Sublist s → greedy w s = []
  | [], w, h => by
    rw [List.sublist_nil.1 h, greedy]
  | c :: s, [], _ => by rw [greedy]
  | c :: s, a :: w, h => by
    rw [greedy]
    split
    · rename_i hc
      subst hc
      exact greedy_sub s w (List.cons_sublist_cons.1 h)
    · rename_i hc
      refine greedy_sub s (a :: w) ?_
      cases h with
      | cons _ h => exact h
      | cons_cons _ h => exact absurd rfl hc
end Go.Proofs.YtocekbfnefajhaaDoor
