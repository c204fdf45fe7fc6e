/- The document's Parse of a request's line walked. -/
import Derived.Test.YtmklgjbfdaleiaaDoorLd
import Derived.Test.YtmklgjbfdaleiaaDoorGen3
namespace Go.Proofs.YtmklgjbfdaleiaaDoor
open Go.RowKit
attribute [local go_sem] store_one S_match S_store eguard_BN nguard_BN

theorem results_tmp4 {fn : Func} {t u v x : Tmp} (h : fn.results = #[.tmp t, .tmp u, .tmp v, .tmp x]) (tmps : Array Value) (P : Program) (w : World) :
    (results fn tmps).run P w = .ok (.tuple #[tmps.getD t undef, tmps.getD u undef, tmps.getD v undef, tmps.getD x undef]) w := by
  simp [results, h, go_sem]
theorem while_stop {p : UInt8 → Bool} {s : List UInt8} {i : Nat} (h : (s.take i).all p = true) (hc : ∀ c, s[i]? = some c → p c = false) : s.takeWhile p = s.take i := by
  have e : s = s.take i ++ s.drop i := (List.take_append_drop i s).symm
  conv => lhs; rw [e]
  rw [List.takeWhile_append_of_pos (by simpa using h)]
  cases hd : s.drop i with
  | nil => simp
  | cons c r =>
    have hcc := hc c (by
      have := congrArg (fun l => l[0]?) hd
      simpa using this)
    rw [List.takeWhile_cons, hcc]; simp
theorem line_none {s : List UInt8} (h : (s.takeWhile (notB 32)).length = s.length) : lineF s = ([], [], 0, false) := by
  unfold lineF
  simp only
  rw [h, List.drop_of_length_le (by omega), if_neg]
  rintro ⟨_, h⟩
  exact h rfl
theorem line_eq {s : List UInt8} {i j : Nat} (h1 : (s.take i).all (notB 32) = true) (h2 : s[i]? = some 32) (h3 : ((s.drop (i + 1)).take (j - (i + 1))).all visB = true) (hij : i + 1 ≤ j) (hj : j ≤ s.length) (h4 : ∀ c, s[j]? = some c → visB c = false) :
    lineF s = if tokF (s.take i) = true ∧ i + 1 < j then (if s.drop j = http0 then (s.take i, (s.drop (i + 1)).take (j - (i + 1)), 10, true) else if s.drop j = http1 then (s.take i, (s.drop (i + 1)).take (j - (i + 1)), 11, true) else ([], [], 0, false)) else ([], [], 0, false) := by
  have hil : i < s.length := (List.getElem?_eq_some_iff.1 h2).1
  have e1 : s.takeWhile (notB 32) = s.take i := while_stop h1 (fun c hc => by rw [h2] at hc; cases hc; rfl)
  have e2 : (s.drop (i + 1)).takeWhile visB = (s.drop (i + 1)).take (j - (i + 1)) := while_stop h3 (fun c hc => by
    rw [List.getElem?_drop, show i + 1 + (j - (i + 1)) = j by omega] at hc; exact h4 c hc)
  have l1 : (s.take i).length = i := by rw [List.length_take]; omega
  have l2 : ((s.drop (i + 1)).take (j - (i + 1))).length = j - (i + 1) := by rw [List.length_take, List.length_drop]; omega
  have e3 : (s.drop (i + 1)).drop (j - (i + 1)) = s.drop j := by rw [List.drop_drop, show i + 1 + (j - (i + 1)) = j by omega]
  unfold lineF
  simp only
  rw [e1, l1, e2, l2, e3]
  have e4 : ((s.drop (i + 1)).take (j - (i + 1)) ≠ []) ↔ i + 1 < j := by
    rw [ne_eq, ← List.length_eq_zero_iff, l2]; omega
  by_cases hc : tokF (s.take i) = true ∧ i + 1 < j
  · rw [if_pos hc, if_pos ⟨hc.1, e4.2 hc.2⟩]
  · rw [if_neg hc, if_neg (fun h => hc ⟨h.1, e4.1 h.2⟩)]
theorem vis_facts (c : UInt8) : (visB c = true ∧ decide ((33 : Int) ≤ (c.toNat : Int)) = true ∧ decide ((c.toNat : Int) ≤ 126) = true) ∨ (visB c = false ∧ decide ((33 : Int) ≤ (c.toNat : Int)) = false) ∨
    (visB c = false ∧ decide ((33 : Int) ≤ (c.toNat : Int)) = true ∧ decide ((c.toNat : Int) ≤ 126) = false) := by
  unfold visB
  by_cases h1 : 33 ≤ c.toNat
  · by_cases h2 : c.toNat ≤ 126
    · exact .inl ⟨by simp [h1, h2], decide_eq_true (by omega), decide_eq_true (by omega)⟩
    · exact .inr (.inr ⟨by simp [h2], decide_eq_true (by omega), decide_eq_false (by omega)⟩)
  · exact .inr (.inl ⟨by simp [h1], decide_eq_false (by omega)⟩)
end Go.Proofs.YtmklgjbfdaleiaaDoor
