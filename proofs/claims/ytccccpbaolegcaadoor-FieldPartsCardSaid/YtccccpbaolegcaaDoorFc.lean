/- Blanks, and what is left without them; pads walked. -/
import Derived.Test.YtccccpbaolegcaaDoorFb
namespace Go.Proofs.YtccccpbaolegcaaDoor
open Go.RowKit
attribute [local go_sem] store_one S_match S_store

theorem taken_all {p : UInt8 → Bool} {s : List UInt8} : ∀ c ∈ s.takeWhile p, p c = true := by
  induction s with
  | nil => intro c hc; cases hc
  | cons a t ih =>
    intro c hc
    rw [List.takeWhile_cons] at hc
    split at hc
    · rename_i ha
      rcases List.mem_cons.1 hc with rfl | h
      · exact ha
      · exact ih c h
    · cases hc
theorem drop_blank {p s : List UInt8} (h : p.all blankB = true) : (p ++ s).dropWhile blankB = s.dropWhile blankB := List.dropWhile_append_of_pos (fun a ha => List.all_eq_true.1 h a ha)
theorem drop_all {p : List UInt8} (h : p.all blankB = true) : p.dropWhile blankB = [] := by
  have := drop_blank (s := []) h
  rwa [List.append_nil] at this
theorem bare_front {p s : List UInt8} (h : p.all blankB = true) : bareF (p ++ s) = bareF s := by unfold bareF; rw [drop_blank h]
theorem drop_some {s : List UInt8} (h : s.dropWhile blankB ≠ []) (q : List UInt8) : (s ++ q).dropWhile blankB = s.dropWhile blankB ++ q := by
  induction s with
  | nil => exact absurd rfl h
  | cons c r ih =>
    rw [List.cons_append, List.dropWhile_cons, List.dropWhile_cons]
    rw [List.dropWhile_cons] at h
    split
    · rename_i hc
      rw [if_pos hc] at h
      exact ih h
    · rfl
theorem bare_back {s q : List UInt8} (h : q.all blankB = true) : bareF (s ++ q) = bareF s := by
  by_cases hs : s.dropWhile blankB = []
  · have hall : s.all blankB = true := by
      rw [List.all_eq_true]
      intro c hc
      have := List.takeWhile_append_dropWhile (p := blankB) (l := s)
      rw [hs, List.append_nil] at this
      rw [← this] at hc
      exact taken_all c hc
    rw [bare_front hall]
    unfold bareF
    rw [drop_all h, hs]
  · unfold bareF
    rw [drop_some hs, List.reverse_append, drop_blank (by rw [List.all_reverse]; exact h)]
/-- No blanks at the ends. -/
structure Clean (v : List UInt8) : Prop where
  first : ∀ c r, v = c :: r → blankB c = false
  last : ∀ r c, v = r ++ [c] → blankB c = false
theorem head_drop {s : List UInt8} {c : UInt8} {r : List UInt8} (h : s.dropWhile blankB = c :: r) : blankB c = false := by
  induction s with
  | nil => cases h
  | cons a t ih =>
    rw [List.dropWhile_cons] at h
    split at h
    · exact ih h
    · rename_i hc
      cases h
      simpa using hc
theorem clean_bare (s : List UInt8) : Clean (bareF s) := by
  constructor
  · intro c r h
    unfold bareF at h
    have h1 := congrArg List.reverse h
    rw [List.reverse_reverse, List.reverse_cons] at h1
    have h2 := List.takeWhile_append_dropWhile (p := blankB) (l := (s.dropWhile blankB).reverse)
    rw [h1, ← List.append_assoc] at h2
    have h3 := congrArg List.reverse h2
    rw [List.reverse_reverse, List.reverse_append, List.reverse_singleton, List.singleton_append] at h3
    exact head_drop h3.symm
  · intro r c h
    unfold bareF at h
    have h1 := congrArg List.reverse h
    rw [List.reverse_reverse, List.reverse_append, List.reverse_singleton, List.singleton_append] at h1
    exact head_drop h1
theorem clean_self {v : List UInt8} (h : Clean v) : bareF v = v := by
  cases v with
  | nil => rfl
  | cons c r =>
    rw [bareF_stop (h.first c r rfl)]
    rcases List.eq_nil_or_concat (c :: r) with h1 | ⟨p, d, h1⟩
    · cases h1
    · rw [List.concat_eq_append] at h1
      rw [h1]
      exact backF_stop (h.last p d h1)
theorem bare_pads {p v q : List UInt8} (hp : p.all blankB = true) (hq : q.all blankB = true) (h : Clean v) : bareF (p ++ v ++ q) = v := by
  rw [bare_back hq, bare_front hp, clean_self h]
theorem bare_sub (s : List UInt8) : (bareF s).Sublist s := by
  unfold bareF
  have h1 := (List.dropWhile_sublist (p := blankB) (l := (s.dropWhile blankB).reverse)).reverse
  rw [List.reverse_reverse] at h1
  exact h1.trans (List.dropWhile_sublist (p := blankB))
theorem blank_ok {p : List UInt8} (h : p.all blankB = true) : p.any badB = false := by
  rw [List.any_eq_false]
  intro c hc
  have := List.all_eq_true.1 h c hc
  unfold blankB at this
  unfold badB
  rw [Bool.or_eq_true, beq_iff_eq, beq_iff_eq] at this
  rcases this with h1 | h1 <;> rw [h1] <;> decide
theorem any_sub {s t : List UInt8} (h : s.Sublist t) (ht : t.any badB = false) : s.any badB = false := by
  rw [List.any_eq_false] at *
  exact fun c hc => ht c (h.subset hc)
theorem colon_tok : tokB 58 = false := by decide
/-- A name, a colon, and what stands behind. -/
theorem name_of {n r : List UInt8} (h : n.all tokB = true) : nameLen (n ++ 58 :: r) = n.length := by
  refine nameLen_stop (by rw [List.take_left]; exact h) (by simp) (fun c hc => ?_)
  rw [List.getElem?_append_right (Nat.le_refl _), Nat.sub_self] at hc
  cases hc
  exact colon_tok
theorem parse_of {n r : List UInt8} (h : tokF n = true) (hr : r.any badB = false) : parseF (n ++ 58 :: r) = (n, bareF r, true) := by
  unfold tokF at h
  rw [Bool.and_eq_true, decide_eq_true_eq] at h
  have hn := name_of (r := r) h.1
  have hd : (n ++ 58 :: r).drop (n.length + 1) = r := by
    rw [List.drop_append, List.drop_of_length_le (by omega), show n.length + 1 - n.length = 1 by omega]; rfl
  unfold parseF
  rw [hn, hd, if_neg, List.take_left]
  rintro (h1 | h1 | h1)
  · omega
  · rw [List.getElem?_append_right (Nat.le_refl _), Nat.sub_self] at h1
    exact h1 rfl
  · rw [hr] at h1; cases h1
/-- What a line that is a field's says. -/
theorem parse_true {s n v : List UInt8} (h : parseF s = (n, v, true)) : tokF n = true ∧ Clean v ∧ v.any badB = false ∧ n.length ≤ s.length ∧ v.length ≤ s.length ∧ n = s.takeWhile tokB := by
  unfold parseF at h
  split at h
  · cases h
  · rename_i hn
    cases h
    have h1 : nameLen s ≠ 0 := fun e => hn (.inl e)
    have h3 : ¬ (s.drop (nameLen s + 1)).any badB = true := fun e => hn (.inr (.inr e))
    have hl : nameLen s ≤ s.length := by unfold nameLen; exact (List.takeWhile_sublist (p := tokB)).length_le
    have htk : s.take (nameLen s) = s.takeWhile tokB := by
      have e := List.takeWhile_append_dropWhile (p := tokB) (l := s)
      have : s.take (nameLen s) = (s.takeWhile tokB ++ s.dropWhile tokB).take (s.takeWhile tokB).length := by rw [e]; rfl
      rw [this, List.take_left]
    refine ⟨?_, clean_bare _, any_sub (bare_sub _) (by simpa using h3), ?_, ?_, htk⟩
    · unfold tokF
      rw [htk, Bool.and_eq_true, decide_eq_true_eq]
      exact ⟨by rw [List.all_eq_true]; exact fun c hc => taken_all c hc, by unfold nameLen at h1; omega⟩
    · rw [List.length_take]; omega
    · have := bareF_le (s.drop (nameLen s + 1))
      rw [List.length_drop] at this; omega
/-- Blanks by a number. -/
def padB (n i : Nat) : UInt8 := if (n + i) % 2 = 0 then 32 else 9
def padF (n k : Nat) : List UInt8 := (List.range k).map (padB n)
theorem padF_next (n k : Nat) : padF n (k + 1) = padF n k ++ [padB n k] := by unfold padF; rw [List.range_succ, List.map_append]; rfl
theorem padF_blank (n k : Nat) : (padF n k).all blankB = true := by
  unfold padF
  rw [List.all_map, List.all_eq_true]
  intro i _
  show blankB (padB n i) = true
  unfold padB; split <;> decide
theorem padF_len (n k : Nat) : (padF n k).length = k := by unfold padF; simp
set_option maxRecDepth 100000 in
set_option maxHeartbeats 2000000 in
theorem pads_any (n : Nat) (hn : n ≤ 255) (w : World) : Calls Tryd.prog 23 #[.int .u8 (n : Int)] w fun e w' => e = .returned (S (padF n (n % 5))) ∧ Below w.heap.size w w' := by
  obtain ⟨m, hm⟩ : ∃ m, m = n % 5 := ⟨_, rfl⟩
  rw [← hm]
  have hm5 : m < 5 := by omega
  have hmod : (n : Int) % 5 = (m : Int) := by omega
  clear hm
  go_enter Tryd.func23, Tryd.ntmps23
  go_wp2
  go_loopw [3, 4] (fun sv iv wr => ∃ i : Nat, i ≤ m ∧ iv = .int .u8 (i : Int) ∧ sv = S (padF n i) ∧ Below w.heap.size w wr) (fun _ iv _ => m - (intOf iv).toNat)
  case atStart => exact ⟨0, Nat.zero_le _, rfl, rfl, Below.refl _ _⟩
  case round =>
    obtain ⟨i, hi, rfl, rfl, hB⟩ := hrel
    by_cases hlt : i < m
    · obtain ⟨x, hx⟩ : ∃ x, x = (padB n i).toNat := ⟨_, rfl⟩
      have hix : ∀ h, ((⟨#[32, 9]⟩ : ByteArray)[(n + i) % 2]'h).toNat = x := fun h => by
        rw [hx]
        unfold padB
        rcases Nat.mod_two_eq_zero_or_one (n + i) with h0 | h0
        · rw [if_pos h0]; simp only [h0]; rfl
        · rw [if_neg (by omega)]; simp only [h0]; rfl
      have hcv : ∀ q, (convert 38 9 (.slice (some ⟨wr.heap.size, 0, none⟩) 1 q)).run Tryd.prog (wr.alloc (.cells #[.int .u8 (x : Int)] 5)) = .ok (S [padB n i]) (wr.alloc (.cells #[.int .u8 (x : Int)] 5)) := fun q => by
        rw [hx]
        refine run_convert_bytes_back (P := Tryd.prog) _ 38 9 5 ⟨wr.heap.size, 0, none⟩ q [padB n i] Tryd.underlying38 Tryd.underlying5 Tryd.underlying9 (fun j hj => ?_)
        obtain rfl : j = 0 := by simpa using hj
        rw [Addr.add_mid]
        exact cell_of_row _ _ 0 _ 5 (0, 0) (row_new wr #[B (padB n i)] 5)
      obtain ⟨X, hX⟩ : ∃ X, X = [padB n i] := ⟨_, rfl⟩
      obtain ⟨Y, hY⟩ : ∃ Y, Y = padF n i := ⟨_, rfl⟩
      have hY2 : Y ++ X = padF n (i + 1) := by rw [hX, hY, padF_next]
      have ha : binOp .add 9 (S Y) (S X) = pure (S (Y ++ X)) := S_add 9 Y X (by rw [hY, hX, padF_len, List.length_singleton]; omega)
      obtain ⟨Z, hZ⟩ : ∃ Z, Y ++ X = Z := ⟨_, rfl⟩
      rw [hZ] at ha hY2
      rw [← hX] at hcv
      rw [← hY]
      have HB : Hid (Below w.heap.size w (wr.alloc (.cells #[.int .u8 (x : Int)] 5)) ∧ Z = padF n (i + 1)) := Lib.hid ⟨hB.alloc hB.size _, hY2⟩
      clear hB hX hY hY2 hZ hx
      have h256 : ((n : Int) + i) % 256 % 2 = ((n : Int) + i) % 2 := by omega
      have hi1 : ((i : Int) + 1) % 256 = ((i + 1 : Nat) : Int) := by omega
      go_wp2
      refine ⟨⟨i + 1, hlt, by rw [Int.natCast_add]; rfl, by rw [HB.out.2], HB.out.1⟩, ?_⟩
      simp only [intOf]; omega
    · obtain rfl : i = m := by omega
      have HN := Lib.hid hB
      clear hB
      go_wp2
      go_ret
      exact ⟨rfl, HN.out⟩
end Go.Proofs.YtccccpbaolegcaaDoor
