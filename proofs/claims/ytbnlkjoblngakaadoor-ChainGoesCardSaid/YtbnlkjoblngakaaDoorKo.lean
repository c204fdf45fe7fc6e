/- The document's plain, low and own (stage 13) walked. (mkko.py writes it.) -/
import Derived.Test.YtbnlkjoblngakaaDoorKn
namespace Go.Proofs.YtbnlkjoblngakaaDoor
open Go.RowKit Go.Shelf
attribute [local go_sem] store_one S_match S_store eguard_BN nguard_BN

theorem B_lss13 (t : TypeId) (x : UInt8) (k : Int) : binOp .lss t (B x) (.int .u8 k) = pure (.bool (decide ((x.toNat : Int) < k))) := rfl
theorem backF_le (s : List UInt8) : (backF s).length ≤ s.length := by
  unfold backF
  have h := (List.dropWhile_sublist (p := blankB) (l := s.reverse)).length_le
  rw [List.length_reverse] at h ⊢
  exact h
theorem bare_ends {s : List UInt8} {a b : UInt8} (ha : s[0]? = some a) (hb : s[s.length - 1]? = some b) : (s == bareF s) = (!blankB a && !blankB b) := by
  obtain ⟨r, rfl⟩ : ∃ r, s = a :: r := by
    cases s with
    | nil => simp at ha
    | cons x r => simp at ha; exact ⟨r, by rw [ha]⟩
  cases h1 : blankB a with
  | true =>
    rw [Bool.not_true, Bool.false_and, beq_eq_false_iff_ne]
    intro e
    rw [bareF_front h1] at e
    have := bareF_le r
    have h2 := congrArg List.length e
    simp only [List.length_cons] at h2; omega
  | false =>
    rw [bareF_stop h1, Bool.not_false, Bool.true_and]
    obtain ⟨t, ht⟩ : ∃ t, a :: r = t ++ [b] := by
      have hne : a :: r ≠ [] := by simp
      refine ⟨(a :: r).dropLast, ?_⟩
      have h3 : (a :: r).getLast hne = b := by
        rw [List.getLast_eq_getElem]
        have := List.getElem?_eq_some_iff.1 hb
        exact this.2
      rw [← h3, List.dropLast_concat_getLast]
    rw [ht]
    cases h2 : blankB b with
    | true =>
      rw [backF_end h2, Bool.not_true, beq_eq_false_iff_ne]
      intro e
      have := backF_le t
      have h4 := congrArg List.length e
      simp only [List.length_append, List.length_cons, List.length_nil] at h4; omega
    | false => rw [backF_stop h2]; simp
set_option maxRecDepth 100000 in
set_option maxHeartbeats 4000000 in
theorem plain13_any (s : List UInt8) (hs : s.length ≤ 100000) (w : World) : Calls Tryd.prog 28 #[S s] w fun e w' => e = .returned (.bool (plainV s)) ∧ w' = w := by
  have hlenS := run_len_S (P := Tryd.prog) Tryd.underlying9 3 s
  go_enter Tryd.func28, Tryd.ntmps28
  go_wp2
  go_loopw [3] (fun iv wr => ∃ i : Nat, i ≤ s.length ∧ iv = .int .i64 (i : Int) ∧ wr = w ∧ (s.take i).all (fun c => !badB c) = true) (fun iv _ => s.length - (intOf iv).toNat)
  case atStart => exact ⟨0, by omega, rfl, rfl, rfl⟩
  case round =>
    obtain ⟨i, hi, rfl, rfl, hn⟩ := hrel
    by_cases hlt : i < s.length
    · obtain ⟨c, hc⟩ : ∃ c, s[i]? = some c := ⟨s[i], List.getElem?_eq_getElem hlt⟩
      have hidx : ∀ w, (Instr.index 9 (S s) (.int .i64 (i : Int))).run Tryd.prog w = .ok (B c) w := fun w => index_S (P := Tryd.prog) Tryd.underlying9 s i c hc w
      have hnx := all_take_next hc hn
      clear hn hc
      have h1 := B_neqN 5 c 9
      have h2 := B_lss13 5 c 32
      have h3 := B_eqlN 5 c 127
      rcases bad_facts c with ⟨hb, f1, -⟩ | ⟨hb, f1, -, f2, -⟩ | ⟨hb, f1, -, f2, -, f3, -⟩ | ⟨hb, f1, -, f2, -, f3, -⟩
      · rw [hb] at hnx
        rw [f1] at h1
        clear h2
        clear h3
        have HN := Lib.hid hnx
        clear hnx hb f1
        go_wp2
        exact ⟨⟨i + 1, by omega, by go_num, by trivial, HN.out⟩, by simp [intOf]; omega⟩
      · rw [hb] at hnx
        rw [f1] at h1
        rw [f2] at h2
        clear h3
        have HN : Hid (plainV s = false) := Lib.hid (by unfold plainV; rw [all_of_take hnx, Bool.false_and])
        clear hnx hb f1 f2
        go_wp2
        go_ret
        exact ⟨by rw [HN.out]; rfl, rfl⟩
      · rw [hb] at hnx
        rw [f1] at h1
        rw [f2] at h2
        rw [f3] at h3
        have HN : Hid (plainV s = false) := Lib.hid (by unfold plainV; rw [all_of_take hnx, Bool.false_and])
        clear hnx hb f1 f2 f3
        go_wp2
        go_ret
        exact ⟨by rw [HN.out]; rfl, rfl⟩
      · rw [hb] at hnx
        rw [f1] at h1
        rw [f2] at h2
        rw [f3] at h3
        have HN := Lib.hid hnx
        clear hnx hb f1 f2 f3
        go_wp2
        exact ⟨⟨i + 1, by omega, by go_num, by trivial, HN.out⟩, by simp [intOf]; omega⟩
    · obtain rfl : i = s.length := by omega
      rw [List.take_length] at hn
      have HN : Hid (plainV s = (s == bareF s)) := Lib.hid (by unfold plainV; rw [hn, Bool.true_and])
      clear hn
      have q := empty_S s
      have n := eguard_E s
      by_cases h0 : 0 < s.length
      · rw [decide_eq_true h0] at q
        obtain ⟨a, ha⟩ : ∃ c, s[0]? = some c := ⟨s[0], List.getElem?_eq_getElem h0⟩
        obtain ⟨b, hb⟩ : ∃ c, s[s.length - 1]? = some c := ⟨s[s.length - 1], List.getElem?_eq_getElem (by omega)⟩
        have hia : ∀ w, (Instr.index 9 (S s) (.int .i64 0)).run Tryd.prog w = .ok (B a) w := fun w => index_S (P := Tryd.prog) Tryd.underlying9 s 0 a ha w
        have hib : ∀ w, (Instr.index 9 (S s) (.int .i64 ((s.length : Int) - 1))).run Tryd.prog w = .ok (B b) w := fun w => by
          have := index_S (P := Tryd.prog) Tryd.underlying9 s (s.length - 1) b hb w
          rwa [show ((s.length - 1 : Nat) : Int) = (s.length : Int) - 1 by omega] at this
        have hw : IntKind.i64.wrap ((s.length : Int) - 1) = (s.length : Int) - 1 := by rw [IntKind.wrap_i64]; omega
        have HE : Hid (plainV s = (!blankB a && !blankB b)) := Lib.hid (by rw [HN.out, bare_ends ha hb])
        have qa9 := B_neqN 5 a 9
        have qa32 := B_neqN 5 a 32
        have qb9 := B_neqN 5 b 9
        have qb32 := B_neqN 5 b 32
        clear ha hb hlt hi HN
        by_cases ta9 : a.toNat = 9
        · have HF : Hid (plainV s = false) := Lib.hid (by rw [HE.out]; unfold blankB; rw [ta9]; simp)
          rw [bne_eq_false_iff_eq.2 (by omega)] at qa9
          clear HE ta9 qa32 qb9 qb32
          go_wp2
          go_ret
          exact ⟨by rw [HF.out]; rfl, rfl⟩
        by_cases ta32 : a.toNat = 32
        · have HF : Hid (plainV s = false) := Lib.hid (by rw [HE.out]; unfold blankB; rw [ta32]; simp)
          rw [bne_iff_ne.2 (by omega)] at qa9
          rw [bne_eq_false_iff_eq.2 (by omega)] at qa32
          clear HE ta9 ta32 qb9 qb32
          go_wp2
          go_ret
          exact ⟨by rw [HF.out]; rfl, rfl⟩
        by_cases tb9 : b.toNat = 9
        · have HF : Hid (plainV s = false) := Lib.hid (by rw [HE.out]; unfold blankB; rw [tb9]; simp)
          rw [bne_iff_ne.2 (by omega)] at qa9
          rw [bne_iff_ne.2 (by omega)] at qa32
          rw [bne_eq_false_iff_eq.2 (by omega)] at qb9
          clear HE ta9 ta32 tb9 qb32
          go_wp2
          go_ret
          exact ⟨by rw [HF.out]; rfl, rfl⟩
        by_cases tb32 : b.toNat = 32
        · have HF : Hid (plainV s = false) := Lib.hid (by rw [HE.out]; unfold blankB; rw [tb32]; simp)
          rw [bne_iff_ne.2 (by omega)] at qa9
          rw [bne_iff_ne.2 (by omega)] at qa32
          rw [bne_iff_ne.2 (by omega)] at qb9
          rw [bne_eq_false_iff_eq.2 (by omega)] at qb32
          clear HE ta9 ta32 tb9 tb32
          go_wp2
          go_ret
          exact ⟨by rw [HF.out]; rfl, rfl⟩
        have HF : Hid (plainV s = true) := Lib.hid (by rw [HE.out]; unfold blankB; simp [ta9, ta32, tb9, tb32])
        rw [bne_iff_ne.2 (by omega)] at qa9
        rw [bne_iff_ne.2 (by omega)] at qa32
        rw [bne_iff_ne.2 (by omega)] at qb9
        rw [bne_iff_ne.2 (by omega)] at qb32
        clear HE ta9 ta32 tb9 tb32
        go_wp2
        go_ret
        exact ⟨by rw [HF.out]; rfl, rfl⟩
      · rw [decide_eq_false h0] at q
        have HF : Hid (plainV s = true) := Lib.hid (by
          obtain rfl : s = [] := List.length_eq_zero_iff.1 (by omega)
          rw [HN.out]; rfl)
        clear hlt hi HN
        go_wp2
        go_ret
        exact ⟨by rw [HF.out]; rfl, rfl⟩
theorem set_self13 {α : Type} {l : List α} {i : Nat} {x : α} (h : l[i]? = some x) : l.set i x = l := by
  obtain ⟨hi, rfl⟩ := List.getElem?_eq_some_iff.1 h
  exact List.set_getElem_self hi
theorem low_next {s : List UInt8} {i : Nat} {c : UInt8} (h : s[i]? = some c) : ((s.take i).map lowB ++ s.drop i).set i (lowB c) = (s.take (i + 1)).map lowB ++ s.drop (i + 1) := by
  obtain ⟨hi, rfl⟩ := List.getElem?_eq_some_iff.1 h
  rw [List.take_succ_eq_append_getElem hi, List.map_append, List.map_singleton, List.append_assoc, List.singleton_append, List.drop_eq_getElem_cons hi]
  rw [List.set_append_right _ _ (by rw [List.length_map, List.length_take]; omega)]
  rw [show i - ((s.take i).map lowB).length = 0 by rw [List.length_map, List.length_take]; omega, List.set_cons_zero]
theorem low_at {s : List UInt8} {i : Nat} {c : UInt8} (h : s[i]? = some c) : ((s.take i).map lowB ++ s.drop i)[i]? = some c := by
  obtain ⟨hi, rfl⟩ := List.getElem?_eq_some_iff.1 h
  rw [List.getElem?_append_right (by rw [List.length_map, List.length_take]; omega)]
  rw [show i - ((s.take i).map lowB).length = 0 by rw [List.length_map, List.length_take]; omega, List.drop_eq_getElem_cons hi, List.getElem?_cons_zero]
theorem low_len (s : List UInt8) (i : Nat) : ((s.take i).map lowB ++ s.drop i).length = s.length := by
  rw [List.length_append, List.length_map, List.length_take, List.length_drop]; omega
set_option maxRecDepth 100000 in
set_option maxHeartbeats 1000000 in
theorem low13_any (s : List UInt8) (hs : s.length ≤ 100000) (w : World) : Calls Tryd.prog 42 #[S s] w fun e w' => e = .returned (S (s.map lowB)) ∧ Below w.heap.size w w' := by
  have hO := own_bytes (w := w) (e := 5) s (by omega)
  have hcv := run_bytes (P := Tryd.prog) (ts := 9) (t := 84) (e := 5) Tryd.underlying9 Tryd.underlying84 Tryd.underlying5 s w
  have hB0 : Below w.heap.size w (Lib.bytesWorld w 5 ⟨s.toArray⟩) := below_grown (Below.refl _ _) (grown_bytes _ none) (fun _ h => by cases h) (Nat.le_refl _)
  obtain ⟨g, hg⟩ : ∃ g, g = w.heap.size := ⟨_, rfl⟩
  obtain ⟨q, hq⟩ : ∃ q, q = grownCap w s.length 0 5 := ⟨_, rfl⟩
  obtain ⟨N, hN⟩ : ∃ N, N = s.length := ⟨_, rfl⟩
  obtain ⟨W1, hW1⟩ : ∃ W, W = Lib.bytesWorld w 5 ⟨s.toArray⟩ := ⟨_, rfl⟩
  rw [← hq, ← hW1, ← hg, ← hN] at hO hcv
  rw [← hW1] at hB0
  have HG := Lib.hid hg
  have HN := Lib.hid hN
  have HI : Hid (Own g (.slice (some ⟨g, 0, none⟩) N q) (((s.take 0).map lowB ++ s.drop 0).map B) W1 ∧ Below w.heap.size w W1) := Lib.hid ⟨by simpa using hO, hB0⟩
  have hlN : ∀ w', (Builtin.len_ #[84] 3 #[.slice (some ⟨g, 0, none⟩) N q]).run Tryd.prog w' = .ok (.int .i64 (N : Int)) w' := fun w' => by simp [Builtin.len_, run_underlying Tryd.underlying84, Result.andThen, goInt]
  rw [← hN] at hs
  clear hq hN hW1 hO hB0 hg
  go_enter Tryd.func42, Tryd.ntmps42
  go_wp2
  clear hcv
  go_loopw [4] (fun iv wr => ∃ i : Nat, i ≤ N ∧ iv = .int .i64 (i : Int) ∧ Hid (Own g (.slice (some ⟨g, 0, none⟩) N q) (((s.take i).map lowB ++ s.drop i).map B) wr ∧ Below w.heap.size w wr)) (fun iv _ => N - (intOf iv).toNat)
  case atStart => exact ⟨0, Nat.zero_le _, rfl, HI⟩
  case round =>
    obtain ⟨i, hi, rfl, HJ⟩ := hrel
    by_cases hlt : i < N
    · have g1 : decide ((i : Int) < (N : Int)) = true := decide_eq_true (by omega)
      obtain ⟨c, hc⟩ : ∃ c, s[i]? = some c := ⟨s[i]'(by have := HN.out; omega), List.getElem?_eq_getElem _⟩
      have hw1 : IntKind.i64.wrap ((i : Int) + 1) = (i : Int) + 1 := by rw [IntKind.wrap_i64]; omega
      have hlen : ((((s.take i).map lowB ++ s.drop i).map B)).length = N := by rw [List.length_map, low_len]; exact HN.out.symm
      have hO := HJ.out.1
      rw [← hlen] at hO
      obtain ⟨hs1, hs2, hs3⟩ := own_set hO i (B (lowB c)) (by omega)
      rw [List.getElem?_map, low_at hc, Option.map_some] at hs2
      rw [hlen] at hs1
      have hix : ∀ w', (Instr.indexAt 84 (.slice (some ⟨g, 0, none⟩) N q) (.int .i64 (i : Int))).run Tryd.prog w' = .ok (.pointer (some ⟨g, i, none⟩)) w' := fun w' => by
        have := run_index_at (P := Tryd.prog) Tryd.underlying84 (fun w => Tryd.sizeOf5 w) g 0 N q i hlt w'
        simpa using this
      have HE : Hid (Own g (.slice (some ⟨g, 0, none⟩) N q) (((s.take (i + 1)).map lowB ++ s.drop (i + 1)).map B) (wr.setCell ⟨g, i, none⟩ (B (lowB c))) ∧ Below w.heap.size w (wr.setCell ⟨g, i, none⟩ (B (lowB c)))) :=
        Lib.hid ⟨by rw [← low_next hc, List.map_set]; exact hs1, HJ.out.2.setCell (p := ⟨g, i, none⟩) (by have := HG.out; show w.heap.size ≤ g; omega) _⟩
      have HK : lowB c = c → Hid (Own g (.slice (some ⟨g, 0, none⟩) N q) (((s.take (i + 1)).map lowB ++ s.drop (i + 1)).map B) wr ∧ Below w.heap.size w wr) := fun he =>
        Lib.hid ⟨by rw [← low_next hc, he, List.map_set, set_self13 (by rw [List.getElem?_map, low_at hc]; rfl)]; exact HJ.out.1, HJ.out.2⟩
      have h1 := B_geq 5 c 65
      have h2 := B_leq 5 c 90
      clear hs1 hO hlen hc HJ
      by_cases ha : 65 ≤ c.toNat
      · by_cases hb : c.toNat ≤ 90
        · have hl : lowB c = c + 32 := by unfold lowB; rw [if_pos ⟨ha, hb⟩]
          have h3 : binOp .add 5 (B c) (.int .u8 32) = pure (.int .u8 ((c + 32).toNat : Int)) := B_add32 5 c hb
          rw [decide_eq_true (by omega)] at h1 h2
          rw [hl] at HE
          clear hl ha hb HK
          go_wp2
          exact ⟨⟨i + 1, by omega, by go_num, HE⟩, by simp [intOf]; omega⟩
        · have hl : lowB c = c := by unfold lowB; rw [if_neg (fun h => hb h.2)]
          have HK2 := HK hl
          rw [decide_eq_true (by omega)] at h1
          rw [decide_eq_false (by omega)] at h2
          clear hl ha hb HE HK
          go_wp2
          exact ⟨⟨i + 1, by omega, by go_num, HK2⟩, by simp [intOf]; omega⟩
      · have hl : lowB c = c := by unfold lowB; rw [if_neg (fun h => ha h.1)]
        have HK2 := HK hl
        rw [decide_eq_false (by omega)] at h1
        clear hl ha h2 HE HK
        go_wp2
        exact ⟨⟨i + 1, by omega, by go_num, HK2⟩, by simp [intOf]; omega⟩
    · have g1 : decide ((i : Int) < (N : Int)) = false := decide_eq_false (by omega)
      obtain rfl : i = N := by omega
      have hO := HJ.out.1
      rw [show (s.take i).map lowB ++ s.drop i = s.map lowB by rw [HN.out, List.take_length, List.drop_length, List.append_nil]] at hO
      have ht := own_text (P := Tryd.prog) (ts := 9) (t := 84) (e := 5) Tryd.underlying9 Tryd.underlying84 Tryd.underlying5 hO
      have HE := Lib.hid HJ.out.2
      clear hO HJ
      go_wp2
      go_ret
      exact ⟨rfl, HE.out⟩
end Go.Proofs.YtbnlkjoblngakaaDoor
