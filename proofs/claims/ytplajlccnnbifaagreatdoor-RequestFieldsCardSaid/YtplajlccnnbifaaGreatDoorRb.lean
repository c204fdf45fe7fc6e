/- The document's lines (stage 9) walked. (mkrb.py writes it.) -/
import Derived.Test.YtplajlccnnbifaaGreatDoorRa
import Derived.Test.YtplajlccnnbifaaGreatDoorCn
import Derived.Test.YtplajlccnnbifaaGreatDoorQv
namespace Go.Proofs.YtplajlccnnbifaaGreatDoor
open Go.RowKit
attribute [local go_sem] store_one S_match S_store eguard_BN nguard_BN

theorem lns_end (cur : List UInt8) : lnsF cur [] = [cur] := by rw [lnsF]
theorem lns_last (cur : List UInt8) (c : UInt8) : lnsF cur [c] = [cur ++ [c]] := by rw [lnsF]
theorem lns_cut (cur r : List UInt8) : lnsF cur (13 :: 10 :: r) = cur :: lnsF [] r := by rw [lnsF, if_pos ⟨rfl, rfl⟩]
theorem lns_on {cur r : List UInt8} {c d : UInt8} (h : ¬ (c = 13 ∧ d = 10)) : lnsF cur (c :: d :: r) = lnsF (cur ++ [c]) (d :: r) := by rw [lnsF, if_neg h]
/-- What holds between two bytes. -/
def Lns (s : List UInt8) (done : List (List UInt8)) (a i : Nat) : Prop :=
  (a ≤ i ∧ i ≤ s.length ∧ (i < s.length ∨ s.length = 0) ∧ lnsF [] s = done ++ lnsF (curL s a i) (s.drop i)) ∨ (a = i + 1 ∧ i < s.length ∧ s[i]? = some 10 ∧ lnsF [] s = done ++ lnsF [] (s.drop a))
theorem lns_fin {s : List UInt8} {done : List (List UInt8)} {a i : Nat} (h : Lns s done a i) (hi : s.length ≤ i + 1) : lnsF [] s = done ++ [s.drop a] ∧ a ≤ s.length := by
  rcases h with ⟨h1, h2, h3, h4⟩ | ⟨h1, h2, h3, h4⟩
  · refine ⟨?_, by omega⟩
    rw [h4]
    rcases h3 with h3 | h3
    · have hl : i + 1 = s.length := by omega
      obtain ⟨c, hc⟩ : ∃ c, s[i]? = some c := ⟨s[i], List.getElem?_eq_getElem h3⟩
      have e1 : s.drop i = [c] := by
        rw [List.drop_eq_getElem_cons h3, (List.getElem?_eq_some_iff.1 hc).2, List.drop_of_length_le (by omega)]
      rw [e1, lns_last, ← cur_next hc h1]
      unfold curL
      rw [List.take_of_length_le (by rw [List.length_drop]; omega)]
    · have e0 : s = [] := List.length_eq_zero_iff.1 h3
      subst e0
      have : i = 0 := by simpa using h2
      subst this
      have : a = 0 := by omega
      subst this
      rw [show curL ([] : List UInt8) 0 0 = [] from rfl, show ([] : List UInt8).drop 0 = [] from rfl, lns_end]
  · have : s.drop a = [] := List.drop_of_length_le (by omega)
    rw [this, lns_end] at h4
    rw [this]
    exact ⟨h4, by omega⟩
theorem lns_count : ∀ (n : Nat) (s cur : List UInt8), s.length ≤ n → (lnsF cur s).length ≤ s.length + 1
  | _, [], cur, _ => by rw [lns_end]; simp
  | _, [c], cur, _ => by rw [lns_last]; simp
  | 0, c :: d :: r, cur, h => by simp at h
  | n + 1, c :: d :: r, cur, h => by
    simp only [List.length_cons] at h
    by_cases hc : c = 13 ∧ d = 10
    · obtain ⟨rfl, rfl⟩ := hc
      rw [lns_cut]
      have := lns_count n r [] (by omega)
      simp only [List.length_cons]
      omega
    · rw [lns_on hc]
      have := lns_count n (d :: r) (cur ++ [c]) (by simp; omega)
      simp only [List.length_cons] at this ⊢
      omega
theorem lns_le : ∀ (n : Nat) (s cur l : List UInt8), s.length ≤ n → l ∈ lnsF cur s → l.length ≤ cur.length + s.length
  | _, [], cur, l, _, h => by rw [lns_end, List.mem_singleton] at h; rw [h]; simp
  | _, [c], cur, l, _, h => by rw [lns_last, List.mem_singleton] at h; rw [h]; simp
  | 0, c :: d :: r, cur, l, h, _ => by simp at h
  | n + 1, c :: d :: r, cur, l, h, hm => by
    simp only [List.length_cons] at h
    by_cases hc : c = 13 ∧ d = 10
    · obtain ⟨rfl, rfl⟩ := hc
      rw [lns_cut] at hm
      rcases List.mem_cons.1 hm with rfl | hm
      · omega
      · have := lns_le n r [] l (by omega) hm
        simp only [List.length_cons, List.length_nil] at this ⊢
        omega
    · rw [lns_on hc] at hm
      have := lns_le n (d :: r) (cur ++ [c]) l (by simp; omega) hm
      simp only [List.length_cons, List.length_append, List.length_nil] at this ⊢
      omega
set_option maxRecDepth 100000 in
set_option maxHeartbeats 1000000 in
theorem dlines_any (s : List UInt8) (hs : s.length ≤ 100000) (w : World) : Calls Tryz.prog 49 #[S s] w fun e w' => ∃ v, e = .returned v ∧ Own w.heap.size v ((lnsF [] s).map S) w' ∧ Below w.heap.size w w' := by
  have hlenS := run_len_S (P := Tryz.prog) Tryz.underlying9 3 s
  obtain ⟨L, hL⟩ : ∃ L, L = s.length := ⟨_, rfl⟩
  rw [← hL] at hlenS hs
  have HL := Lib.hid hL
  clear hL
  go_enter Tryz.func49, Tryz.ntmps49
  go_wp2
  go_loopw [3, 4, 5] (fun vv av iv wr => ∃ (a i : Nat) (done : List (List UInt8)), i ≤ L ∧ av = .int .i64 (a : Int) ∧ iv = .int .i64 (i : Int) ∧ done.length ≤ i ∧ Own w.heap.size vv (done.map S) wr ∧ Below w.heap.size w wr ∧ Lns s done a i) (fun _ _ iv _ => L - (intOf iv).toNat)
  case atStart => exact ⟨0, 0, [], by omega, rfl, rfl, by simp, .inl ⟨rfl, rfl⟩, Below.refl _ _, .inl ⟨Nat.le_refl _, Nat.zero_le _, by omega, by rw [cur_start]; rfl⟩⟩
  case round =>
    obtain ⟨a, i, done, hi, rfl, rfl, hdl, ho, hB, hp⟩ := hrel
    have hw1 : IntKind.i64.wrap ((i : Int) + 1) = (i : Int) + 1 := by rw [IntKind.wrap_i64]; omega
    have hw2 : IntKind.i64.wrap ((i : Int) + 2) = (i : Int) + 2 := by rw [IntKind.wrap_i64]; omega
    by_cases hlt : i + 1 < L
    · have g1 : decide ((i : Int) + 1 < (L : Int)) = true := decide_eq_true (by omega)
      obtain ⟨c, hc⟩ : ∃ c, s[i]? = some c := ⟨s[i]'(by have := HL.out; omega), List.getElem?_eq_getElem _⟩
      obtain ⟨d, hd⟩ : ∃ d, s[i + 1]? = some d := ⟨s[i + 1]'(by have := HL.out; omega), List.getElem?_eq_getElem _⟩
      have hidx : ∀ w, (Instr.index 9 (S s) (.int .i64 (i : Int))).run Tryz.prog w = .ok (B c) w := fun w => index_S (P := Tryz.prog) Tryz.underlying9 s i c hc w
      have hidy : ∀ w, (Instr.index 9 (S s) (.int .i64 ((i : Int) + 1))).run Tryz.prog w = .ok (B d) w := fun w => by
        have := index_S (P := Tryz.prog) Tryz.underlying9 s (i + 1) d hd w
        rwa [show ((i + 1 : Nat) : Int) = (i : Int) + 1 by omega] at this
      have q1 : binOp .eql 5 (B c) (.int .u8 13) = pure (.bool (c == 13)) := B_eql 5 c 13
      have q2 : binOp .eql 5 (B d) (.int .u8 10) = pure (.bool (d == 10)) := B_eql 5 d 10
      have hdr : s.drop i = c :: s.drop (i + 1) := by rw [List.drop_eq_getElem_cons (by have := HL.out; omega), (List.getElem?_eq_some_iff.1 hc).2]
      have hdr2 : s.drop (i + 1) = d :: s.drop (i + 2) := by rw [List.drop_eq_getElem_cons (by have := HL.out; omega), (List.getElem?_eq_some_iff.1 hd).2]
      rcases hp with ⟨h1, h2, h3, h4⟩ | ⟨h1, h2, h3, h4⟩
      · by_cases h13 : c = 13
        · rw [show (c == 13) = true from beq_iff_eq.2 h13] at q1
          by_cases h10 : d = 10
          · rw [show (d == 10) = true from beq_iff_eq.2 h10] at q2
            have HN : Hid (Lns s (done ++ [curL s a i]) (i + 2) (i + 1)) := Lib.hid (.inr ⟨rfl, by have := HL.out; omega, by rw [hd, h10], by rw [h4, hdr, hdr2, h13, h10, lns_cut, List.append_assoc]; rfl⟩)
            have hsl : ∀ w, (Instr.slice 9 (S s) (some (.int .i64 (a : Int))) (some (.int .i64 (i : Int))) none).run Tryz.prog w = .ok (S (curL s a i)) w := fun w => slice_mid (P := Tryz.prog) Tryz.underlying9 s a i h1 (by have := HL.out; omega) w
            have HO := Lib.hid (And.intro ho hB)
            have hlen : (done.map S).length < 1000000000000 := by rw [List.length_map]; omega
            have hsz := hB.size
            have hltt := ho.lt
            clear hB hc hd hdr hdr2 h4 h3 h13 h10
            generalize curL s a i = P at *
            go_wp2_with (at_builtin; refine wpList_add rfl 78 9 (.tmp 24) (.tmp 29) rfl Tryz.underlying78 elem9 w.heap.size wr _ rfl (done.map S) ho (S P) rfl _ rfl rfl rfl hlen hsz ?_; intro v' W2 o2 g2 _)
            exact ⟨⟨i + 2, i + 1, done ++ [P], by omega, by go_num, by go_num, by rw [List.length_append, List.length_singleton]; omega, by rw [List.map_append, List.map_singleton]; exact o2, HO.out.2.grown g2 hsz (fun k e => (hltt k e).1), HN.out⟩, by simp [intOf]; omega⟩
          · rw [show (d == 10) = false from beq_eq_false_iff_ne.2 h10] at q2
            have HN : Hid (Lns s done a (i + 1)) := Lib.hid (.inl ⟨by omega, by have := HL.out; omega, .inl (by have := HL.out; omega), by rw [h4, hdr, hdr2, lns_on (fun e => h10 e.2), cur_next hc h1]⟩)
            have HO := Lib.hid (And.intro ho hB)
            clear ho hB hc hd hdr hdr2 h4 h3 h13 h10
            go_wp2
            exact ⟨⟨a, i + 1, done, by omega, rfl, by go_num, by omega, HO.out.1, HO.out.2, HN.out⟩, by simp [intOf]; omega⟩
        · rw [show (c == 13) = false from beq_eq_false_iff_ne.2 h13] at q1
          have HN : Hid (Lns s done a (i + 1)) := Lib.hid (.inl ⟨by omega, by have := HL.out; omega, .inl (by have := HL.out; omega), by rw [h4, hdr, hdr2, lns_on (fun e => h13 e.1), cur_next hc h1]⟩)
          have HO := Lib.hid (And.intro ho hB)
          clear ho hB hc hd hdr hdr2 h4 h3 h13 q2
          go_wp2
          exact ⟨⟨a, i + 1, done, by omega, rfl, by go_num, by omega, HO.out.1, HO.out.2, HN.out⟩, by simp [intOf]; omega⟩
      · have h13 : c ≠ 13 := by rintro rfl; rw [hc] at h3; cases h3
        rw [show (c == 13) = false from beq_eq_false_iff_ne.2 h13] at q1
        have HN : Hid (Lns s done a (i + 1)) := Lib.hid (.inl ⟨by omega, by have := HL.out; omega, .inl (by have := HL.out; omega), by rw [h4, h1, cur_start]⟩)
        have HO := Lib.hid (And.intro ho hB)
        clear ho hB hc hd hdr hdr2 h4 h3 h13 q2 h1
        go_wp2
        exact ⟨⟨a, i + 1, done, by omega, rfl, by go_num, by omega, HO.out.1, HO.out.2, HN.out⟩, by simp [intOf]; omega⟩
    · have g1 : decide ((i : Int) + 1 < (L : Int)) = false := decide_eq_false (by omega)
      obtain ⟨hf, hal⟩ := lns_fin hp (by have := HL.out; omega)
      have HF := Lib.hid hf
      have hsl : ∀ w, (Instr.slice 9 (S s) (some (.int .i64 (a : Int))) none none).run Tryz.prog w = .ok (S (s.drop a)) w := fun w => slice_drop (P := Tryz.prog) Tryz.underlying9 s a hal w
      have HB := Lib.hid hB
      have hlen : (done.map S).length < 1000000000000 := by rw [List.length_map]; omega
      have hsz := hB.size
      have hltt := ho.lt
      clear hp hf hal hB
      generalize s.drop a = P at *
      go_wp2_with (at_builtin; refine wpList_add rfl 78 9 (.tmp 33) (.tmp 37) rfl Tryz.underlying78 elem9 w.heap.size wr _ rfl (done.map S) ho (S P) rfl _ rfl rfl rfl hlen hsz ?_; intro v' W2 o2 g2 _)
      go_ret
      exact ⟨_, rfl, by rw [HF.out, List.map_append, List.map_singleton]; exact o2, HB.out.grown g2 hsz (fun k e => (hltt k e).1)⟩
end Go.Proofs.YtplajlccnnbifaaGreatDoor
