/- The landed package of paths as list functions: a path cut at its slashes, each piece read. -/
import Derived.Test.YtmklgjbfdaleiaaDoorAm1
import Derived.Lib.SplitLaws
import Derived.Lib.CountLaws
import Derived.Lib.IndexMore
namespace Go.Proofs.YtmklgjbfdaleiaaDoor
open Go.RowKit

/-- What stands between the slashes. -/
def pcsF : List UInt8 → List UInt8 → List (List UInt8)
  | cur, [] => [cur]
  | cur, c :: r => if c = 47 then cur :: pcsF [] r else pcsF (cur ++ [c]) r
/-- A piece, read; pd: a percent sign was read, and a digit. -/
def rdM : Option (Option UInt8) → List UInt8 → List UInt8
  | none, [] => []
  | some _, [] => []
  | none, c :: r => if c = 37 then rdM (some none) r else c :: rdM none r
  | some none, x :: r => rdM (some (some x)) r
  | some (some x), y :: r => byteH x y :: rdM none r
def rdF (s : List UInt8) : List UInt8 := rdM none s
theorem rd_nil : rdF [] = [] := rfl
theorem rd_on {c : UInt8} {r : List UInt8} (h : c ≠ 37) : rdF (c :: r) = c :: rdF r := by unfold rdF; rw [rdM, if_neg h]
theorem rd_pct (x y : UInt8) (r : List UInt8) : rdF (37 :: x :: y :: r) = byteH x y :: rdF r := by unfold rdF; rw [rdM, if_pos rfl, rdM, rdM]
theorem pcs_cur : ∀ (s cur : List UInt8), ∃ p ps, pcsF [] s = p :: ps ∧ pcsF cur s = (cur ++ p) :: ps
  | [], cur => ⟨[], [], rfl, by rw [pcsF, List.append_nil]⟩
  | c :: r, cur => by
    by_cases h : c = 47
    · exact ⟨[], pcsF [] r, by rw [pcsF, if_pos h], by rw [pcsF, if_pos h, List.append_nil]⟩
    · obtain ⟨p, ps, h1, h2⟩ := pcs_cur r [c]
      obtain ⟨p', ps', h3, h4⟩ := pcs_cur r (cur ++ [c])
      rw [h1] at h3
      injection h3 with e1 e2
      subst e1 e2
      exact ⟨c :: p, ps, by rw [pcsF, if_neg h, List.nil_append, h2]; rfl, by rw [pcsF, if_neg h, h4, List.append_assoc]; rfl⟩
theorem pcs_sep (r : List UInt8) : pcsF [] (47 :: r) = [] :: pcsF [] r := by rw [pcsF, if_pos rfl]
theorem pcs_on {c : UInt8} {r p : List UInt8} {ps : List (List UInt8)} (h : c ≠ 47) (hr : pcsF [] r = p :: ps) : pcsF [] (c :: r) = (c :: p) :: ps := by
  obtain ⟨p', ps', h1, h2⟩ := pcs_cur r [c]
  rw [hr] at h1
  injection h1 with e1 e2
  subst e1 e2
  rw [pcsF, if_neg h, List.nil_append, h2]; rfl
theorem pcs_some (s : List UInt8) : ∃ p ps, pcsF [] s = p :: ps := by obtain ⟨p, ps, h, _⟩ := pcs_cur s []; exact ⟨p, ps, h⟩
/-- Are all pieces segments that may be? -/
def allMay (l : List (List UInt8)) : Bool := l.all fun p => mayS (rdF p)
theorem spl_pcs : ∀ (n : Nat) (s seg p : List UInt8) (ps : List (List UInt8)), s.length ≤ n → okT s = true → pcsF [] s = p :: ps →
    splG seg s = if (mayS (seg ++ rdF p) && allMay ps) = true then some ((seg ++ rdF p) :: ps.map rdF) else none
  | n, s, seg, p, ps, hn, ho, hp => by
    rcases okT_cases ho with rfl | ⟨c, r, rfl, hc, _, hr⟩ | ⟨x, y, r, rfl, hx, hy, hr⟩
    · rw [pcsF] at hp
      injection hp with e1 e2
      subst e1 e2
      rw [spl_end, rd_nil, List.append_nil]
      simp [allMay]
    · obtain ⟨m, rfl⟩ : ∃ m, n = m + 1 := ⟨n - 1, by simp at hn; omega⟩
      have hm : r.length ≤ m := by simp at hn; omega
      by_cases h : c = 47
      · subst h
        rw [pcs_sep] at hp
        injection hp with e1 e2
        subst e1 e2
        obtain ⟨q, qs, hq⟩ := pcs_some r
        rw [spl_sep, spl_pcs m r [] q qs hm hr hq, rd_nil, List.append_nil, hq]
        simp only [allMay, List.nil_append, List.all_cons, List.map_cons]
        by_cases h1 : mayS seg = true <;> by_cases h2 : (mayS (rdF q) && qs.all fun p => mayS (rdF p)) = true <;> simp [h1, h2]
      · obtain ⟨q, qs, hq⟩ := pcs_some r
        rw [pcs_on h hq] at hp
        injection hp with e1 e2
        subst e1 e2
        rw [spl_on h hc, spl_pcs m r (seg ++ [c]) q qs hm hr hq, rd_on hc, List.append_assoc]
        rfl
    · obtain ⟨q, qs, hq⟩ := pcs_some r
      obtain ⟨m, rfl⟩ : ∃ m, n = m + 1 := ⟨n - 1, by simp at hn; omega⟩
      have hm : r.length ≤ m := by simp at hn; omega
      rw [pcs_on (by decide) (pcs_on (hex_not47 x hx) (pcs_on (hex_not47 y hy) hq))] at hp
      injection hp with e1 e2
      subst e1 e2
      rw [spl_pct, spl_pcs m r (seg ++ [byteH x y]) q qs hm hr hq, rd_pct, List.append_assoc]
      rfl
/-- Each piece of what is well written is. -/
theorem pcs_ok : ∀ (n : Nat) (s : List UInt8), s.length ≤ n → okT s = true → ∀ p ∈ pcsF [] s, okT p = true ∧ p.length ≤ s.length
  | n, s, hn, ho => by
    rcases okT_cases ho with rfl | ⟨c, r, rfl, hc, hv, hr⟩ | ⟨x, y, r, rfl, hx, hy, hr⟩
    · intro p hp
      obtain rfl : p = [] := by simpa [pcsF] using hp
      exact ⟨rfl, Nat.le_refl _⟩
    · obtain ⟨m, rfl⟩ : ∃ m, n = m + 1 := ⟨n - 1, by simp at hn; omega⟩
      have ih := pcs_ok m r (by simp at hn; omega) hr
      intro p hp
      by_cases h : c = 47
      · subst h
        rw [pcs_sep] at hp
        rcases List.mem_cons.1 hp with rfl | h2
        · exact ⟨rfl, Nat.zero_le _⟩
        · exact ⟨(ih p h2).1, Nat.le_succ_of_le (ih p h2).2⟩
      · obtain ⟨q, qs, hq⟩ := pcs_some r
        rw [pcs_on h hq] at hp
        rw [hq] at ih
        rcases List.mem_cons.1 hp with rfl | h2
        · have := ih q (List.mem_cons_self ..)
          exact ⟨by rw [okT_one hc, hv, this.1]; rfl, by simp; exact this.2⟩
        · have := ih p (List.mem_cons_of_mem _ h2)
          exact ⟨this.1, Nat.le_succ_of_le this.2⟩
    · obtain ⟨m, rfl⟩ : ∃ m, n = m + 1 := ⟨n - 1, by simp at hn; omega⟩
      have ih := pcs_ok m r (by simp at hn; omega) hr
      intro p hp
      obtain ⟨q, qs, hq⟩ := pcs_some r
      rw [pcs_on (by decide) (pcs_on (hex_not47 x hx) (pcs_on (hex_not47 y hy) hq))] at hp
      rw [hq] at ih
      rcases List.mem_cons.1 hp with rfl | h2
      · have := ih q (List.mem_cons_self ..)
        exact ⟨by rw [okT_pct hx hy]; exact this.1, by simp; exact this.2⟩
      · have := ih p (List.mem_cons_of_mem _ h2)
        exact ⟨this.1, by simp; omega⟩
theorem pcs_len : ∀ (s cur : List UInt8), (pcsF cur s).length ≤ s.length + 1
  | [], cur => by simp [pcsF]
  | c :: r, cur => by
    rw [pcsF]
    split
    · have := pcs_len r []
      simp only [List.length_cons]; omega
    · have := pcs_len r (cur ++ [c])
      simp only [List.length_cons]; omega
/-- The split, by pieces. -/
theorem splitF_pcs {s : List UInt8} (h : pathOk s) : splitF s = if allMay (pcsF [] (s.drop 1)) = true then some ((pcsF [] (s.drop 1)).map rdF) else none := by
  unfold splitF
  rw [if_pos h]
  obtain ⟨p, ps, hp⟩ := pcs_some (s.drop 1)
  have ho : okT (s.drop 1) = true := by
    obtain ⟨h0, _, h2, _⟩ := h
    cases s with
    | nil => rfl
    | cons c r =>
      have hc : c = 47 := by simpa using h0
      subst hc
      rw [okT_one (by decide), Bool.and_eq_true] at h2
      exact h2.2
  rw [spl_pcs _ _ [] p ps (Nat.le_refl _) ho hp, hp]
  rfl
theorem pcs_index : ∀ (s cur : List UInt8), (Lib.index s [47] = -1 → pcsF cur s = [cur ++ s]) ∧ ∀ i : Nat, Lib.index s [47] = (i : Int) → pcsF cur s = (cur ++ s.take i) :: pcsF [] (s.drop (i + 1))
  | [], cur => ⟨fun _ => by rw [pcsF, List.append_nil], fun i h => by
      have e : Lib.index [] [47] = -1 := rfl
      rw [e] at h; omega⟩
  | c :: r, cur => by
    obtain ⟨i1, i2⟩ := pcs_index r (cur ++ [c])
    have hge := Lib.index_ge r [47]
    rw [Lib.index_one, Lib.indexByte]
    rw [Lib.index_one] at i1 i2 hge
    by_cases h : c = 47
    · subst h
      rw [if_pos (by simp)]
      refine ⟨fun e => absurd e (by decide), fun i e => ?_⟩
      obtain rfl : i = 0 := by omega
      rw [pcsF, if_pos rfl]; simp
    · rw [if_neg (by simpa using h)]
      rw [pcsF, if_neg h]
      by_cases hm : Lib.indexByte r 47 = -1
      · rw [if_pos (beq_iff_eq.2 hm)]
        exact ⟨fun _ => by rw [i1 hm, List.append_assoc]; rfl, fun i e => by omega⟩
      · rw [if_neg (fun e => hm (beq_iff_eq.1 e))]
        refine ⟨fun e => by omega, fun i e => ?_⟩
        obtain ⟨j, rfl⟩ : ∃ j, i = j + 1 := ⟨i - 1, by omega⟩
        rw [i2 j (by omega), List.append_assoc]
        rfl
theorem split_pcs : ∀ (n : Nat) (s : List UInt8), s.length ≤ n → Lib.splitK [47] 0 (Lib.count s [47]) s = pcsF [] s
  | n, s, hn => by
    have hge := Lib.index_ge s [47]
    obtain ⟨i1, i2⟩ := pcs_index s []
    by_cases hm : Lib.index s [47] = -1
    · rw [Lib.count_miss hm, i1 hm]; rfl
    · obtain ⟨j, hj⟩ : ∃ j : Nat, Lib.index s [47] = j := ⟨(Lib.index s [47]).toNat, by omega⟩
      have hne : s ≠ [] := by rintro rfl; exact hm rfl
      have hpos : 0 < s.length := List.length_pos_iff.2 hne
      rw [Lib.count_hit (by simp) hj, Nat.add_comm, Lib.splitK, if_neg (fun e => hm (beq_iff_eq.1 e)), hj, i2 j hj]
      have hl : ([47] : List UInt8).length = 1 := rfl
      rw [hl, Int.toNat_natCast, Nat.add_zero, List.nil_append]
      obtain ⟨m, rfl⟩ : ∃ m, n = m + 1 := ⟨n - 1, by omega⟩
      rw [split_pcs m (s.drop (j + 1)) (by rw [List.length_drop]; omega)]
end Go.Proofs.YtmklgjbfdaleiaaDoor
