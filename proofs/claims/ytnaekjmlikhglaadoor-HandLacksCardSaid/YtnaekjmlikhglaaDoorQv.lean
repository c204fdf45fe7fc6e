/- The document's Alike, Parts, Has walked. (mkref06.py writes it.) -/
import Derived.Test.YtnaekjmlikhglaaDoorQr
import Derived.Test.YtnaekjmlikhglaaDoorGen9
namespace Go.Proofs.YtnaekjmlikhglaaDoor
open Go.RowKit
attribute [local go_sem] store_one S_match S_store

set_option maxRecDepth 100000 in
set_option maxHeartbeats 400000 in
theorem low_any (c : UInt8) (w : World) : Calls Tryd.prog 60 #[B c] w fun e w' => e = .returned (B (lowB c)) ∧ w' = w := by
  have h1 := B_geq 5 c 65
  have h2 := B_leq 5 c 90
  by_cases ha : 65 ≤ c.toNat
  · by_cases hb : c.toNat ≤ 90
    · have hl : lowB c = c + 32 := by unfold lowB; rw [if_pos ⟨ha, hb⟩]
      have h3 := B_add32 5 c hb
      rw [decide_eq_true (by omega)] at h1 h2
      rw [hl]
      clear hl ha hb
      go_enter Tryd.func60, Tryd.ntmps60
      go_wp2
      go_ret
      exact ⟨rfl, rfl⟩
    · have hl : lowB c = c := by unfold lowB; rw [if_neg (fun h => hb h.2)]
      rw [decide_eq_true (by omega)] at h1
      rw [decide_eq_false (by omega)] at h2
      rw [hl]
      clear hl ha hb
      go_enter Tryd.func60, Tryd.ntmps60
      go_wp2
      go_ret
      exact ⟨rfl, rfl⟩
  · have hl : lowB c = c := by unfold lowB; rw [if_neg (fun h => ha h.1)]
    rw [decide_eq_false (by omega)] at h1
    rw [hl]
    clear hl ha h2
    go_enter Tryd.func60, Tryd.ntmps60
    go_wp2
    go_ret
    exact ⟨rfl, rfl⟩
set_option maxRecDepth 100000 in
set_option maxHeartbeats 400000 in
theorem alike_any (a b : List UInt8) (ha : a.length ≤ 100000) (_hb : b.length ≤ 100000) (w : World) : Calls Tryd.prog 49 #[S a, S b] w fun e w' => e = .returned (.bool (alikeF a b)) ∧ Drawn w w' := by
  have hla := run_len_S (P := Tryd.prog) Tryd.underlying9 3 a
  have hlb := run_len_S (P := Tryd.prog) Tryd.underlying9 3 b
  have HC : Hid (∀ z w, Calls Tryd.prog 60 #[B z] w fun e w' => e = .returned (.int .u8 ((lowB z).toNat : Int)) ∧ Drawn w w') := Lib.hid fun z w => (low_any z w).mono (by rintro e w' ⟨he, rfl⟩; exact ⟨he, Drawn.refl _⟩)
  by_cases hne : a.length = b.length
  · have hq : ((a.length : Int) != (b.length : Int)) = false := by rw [hne]; simp
    have hq' : (a.length != b.length) = false := by rw [hne]; simp
    obtain ⟨L, hL⟩ : ∃ L, L = a.length := ⟨_, rfl⟩
    rw [← hne, ← hL] at hlb
    rw [← hL] at hla
    have HL := Lib.hid (And.intro hL hne)
    rw [← hL] at ha
    clear hq hq' hL hne
    have hq : ((L : Int) != (L : Int)) = false := by simp
    go_enter Tryd.func49, Tryd.ntmps49
    go_wp2
    go_loopw [5] (fun iv wr => ∃ i : Nat, i ≤ L ∧ iv = .int .i64 (i : Int) ∧ Drawn w wr ∧ (a.take i).map lowB = (b.take i).map lowB) (fun iv _ => L - (intOf iv).toNat)
    case atStart => exact ⟨0, Nat.zero_le _, rfl, Drawn.refl _, rfl⟩
    case round =>
      obtain ⟨i, hi, rfl, hD, hm⟩ := hrel
      by_cases hlt : i < L
      · obtain ⟨x, hx⟩ : ∃ x, a[i]? = some x := ⟨a[i]'(by have := HL.out.1; omega), List.getElem?_eq_getElem _⟩
        obtain ⟨y, hy⟩ : ∃ y, b[i]? = some y := ⟨b[i]'(by have := HL.out; omega), List.getElem?_eq_getElem _⟩
        have hix : ∀ w, (Instr.index 9 (S a) (.int .i64 (i : Int))).run Tryd.prog w = .ok (B x) w := fun w => index_S (P := Tryd.prog) Tryd.underlying9 a i x hx w
        have hiy : ∀ w, (Instr.index 9 (S b) (.int .i64 (i : Int))).run Tryd.prog w = .ok (B y) w := fun w => index_S (P := Tryd.prog) Tryd.underlying9 b i y hy w
        have hn := neqN (lowB x) (lowB y)
        by_cases he : lowB x = lowB y
        · have HN := Lib.hid (And.intro hD (map_take_next hx hy hm he))
          rw [beq_iff_eq.2 he, Bool.not_true] at hn
          clear hD hm hx hy he
          go_wp2
          go_quiet (first | (go_at_call 60; exact Calls.quiet_of (HC.out _ _)))
          go_wp2
          exact ⟨⟨i + 1, by omega, by go_num, HN.out.1.trans ⟨_, rfl⟩, HN.out.2⟩, by simp [intOf]; omega⟩
        · have HN := Lib.hid (And.intro hD (alike_stop hx hy he))
          rw [beq_eq_false_iff_ne.2 he, Bool.not_false] at hn
          clear hD hm hx hy he
          go_wp2
          go_quiet (first | (go_at_call 60; exact Calls.quiet_of (HC.out _ _)))
          go_wp2
          go_ret
          exact ⟨by rw [HN.out.2]; rfl, HN.out.1.trans ⟨_, rfl⟩⟩
      · obtain rfl : i = L := by omega
        have HN : Hid (Drawn w wr ∧ alikeF a b = true) := Lib.hid ⟨hD, by
          rw [List.take_of_length_le (by have := HL.out.1; omega), List.take_of_length_le (by have := HL.out; omega)] at hm
          unfold alikeF; rw [hm]; simp⟩
        clear hm hD
        go_wp2
        go_ret
        exact ⟨by rw [HN.out.2]; rfl, HN.out.1⟩
  · have hq : ((a.length : Int) != (b.length : Int)) = true := by rw [bne_iff_ne]; omega
    have hq' : (a.length != b.length) = true := by rw [bne_iff_ne]; exact hne
    have HN := Lib.hid (alike_len hne)
    clear hne
    go_enter Tryd.func49, Tryd.ntmps49
    go_wp2
    go_ret
    exact ⟨by rw [HN.out]; rfl, Drawn.refl _⟩
theorem mid_next {s : List UInt8} {a i : Nat} {c : UInt8} (hc : s[i]? = some c) (ha : a ≤ i) : (s.drop a).take (i + 1 - a) = (s.drop a).take (i - a) ++ [c] := by
  have hc2 : (s.drop a)[i - a]? = some c := by rw [List.getElem?_drop, show a + (i - a) = i by omega]; exact hc
  obtain ⟨hi, rfl⟩ := List.getElem?_eq_some_iff.1 hc2
  rw [show i + 1 - a = (i - a) + 1 by omega, List.take_succ_eq_append_getElem hi]
theorem elem9 : Elem Tryd.prog 9 := elem_of (z := .string ⟨#[]⟩) (n := 16) (by kernel_rfl) (by omega) rfl
/-- What holds between two pieces. -/
def Pts (s : List UInt8) (w : World) (v : Value) (a i : Nat) (W : World) : Prop :=
  ∃ done : List (List UInt8), done.length ≤ i ∧ a ≤ i ∧ Own w.heap.size v (done.map S) W ∧ Below w.heap.size w W ∧
    ((i ≤ s.length ∧ partsF s = done ++ ptsF ((s.drop a).take (i - a)) (s.drop i)) ∨ (i = s.length + 1 ∧ partsF s = done))
set_option maxRecDepth 100000 in
set_option maxHeartbeats 1000000 in
theorem parts_any (s : List UInt8) (hs : s.length ≤ 100000) (w : World) : Calls Tryd.prog 61 #[S s] w fun e w' => ∃ v, e = .returned v ∧ Own w.heap.size v ((partsF s).map S) w' ∧ Below w.heap.size w w' := by
  have hlenS := run_len_S (P := Tryd.prog) Tryd.underlying9 3 s
  go_enter Tryd.func61, Tryd.ntmps61
  go_wp2
  go_loopw [3, 4, 5] (fun vv av iv wr => ∃ a i : Nat, a ≤ s.length + 1 ∧ i ≤ s.length + 1 ∧ av = .int .i64 (a : Int) ∧ iv = .int .i64 (i : Int) ∧ Pts s w vv a i wr) (fun _ _ iv _ => s.length + 1 - (intOf iv).toNat)
  case atStart => exact ⟨0, 0, by omega, by omega, rfl, rfl, [], by simp, Nat.le_refl _, .inl ⟨rfl, rfl⟩, Below.refl _ _, .inl ⟨Nat.zero_le _, rfl⟩⟩
  case round =>
    obtain ⟨a, i, ha1, hi1, rfl, rfl, done, hdl, ha, ho, hB, hp⟩ := hrel
    rcases hp with ⟨hi, hp⟩ | ⟨hi, hp⟩
    · by_cases hlt : i < s.length
      · obtain ⟨c, hc⟩ : ∃ c, s[i]? = some c := ⟨s[i], List.getElem?_eq_getElem hlt⟩
        obtain ⟨x, hx⟩ : ∃ x : Nat, x = c.toNat := ⟨_, rfl⟩
        have hidx : ∀ w, (Instr.index 9 (S s) (.int .i64 (i : Int))).run Tryd.prog w = .ok (.int .u8 (x : Int)) w := fun w => by
          rw [hx]; exact index_S (P := Tryd.prog) Tryd.underlying9 s i c hc w
        have hdr : s.drop i = c :: s.drop (i + 1) := by rw [List.drop_eq_getElem_cons hlt, (List.getElem?_eq_some_iff.1 hc).2]
        have hmid := mid_next hc ha
        have hne1 : ((i : Int) == (s.length : Int)) = false := by rw [beq_eq_false_iff_ne]; omega
        have hne1' : (i == s.length) = false := by rw [beq_eq_false_iff_ne]; omega
        have hle : decide ((i : Int) ≤ (s.length : Int)) = true := decide_eq_true (by omega)
        have hcf := comma_facts c
        rw [← hx] at hcf
        rw [hdr] at hp
        rcases hcf with ⟨h44, hq, hq'⟩ | ⟨h44, hq, hq'⟩
        · have hnext : ∀ done', done' = done ++ keepF ((s.drop a).take (i - a)) → (i + 1 ≤ s.length ∧ partsF s = done' ++ ptsF ((s.drop (i + 1)).take (i + 1 - (i + 1))) (s.drop (i + 1))) ∨ (i + 1 = s.length + 1 ∧ partsF s = done') := fun done' hd => .inl ⟨by omega, by
            rw [hp, h44, pts_comma, hd, Nat.sub_self, List.take_zero, List.append_assoc]⟩
          clear hp hmid hdr hc hx h44
          have hsl : ∀ w, (Instr.slice 9 (S s) (some (.int .i64 (a : Int))) (some (.int .i64 (i : Int))) none).run Tryd.prog w = .ok (S ((s.drop a).take (i - a))) w := fun w => slice_mid (P := Tryd.prog) Tryd.underlying9 s a i ha (by omega) w
          have HBA : Hid (∀ w, Calls Tryd.prog 71 #[S ((s.drop a).take (i - a))] w fun e w' => e = .returned (S (bareF ((s.drop a).take (i - a)))) ∧ w' = w) := Lib.hid fun w => bare_any _ (by rw [List.length_take, List.length_drop]; omega) w
          have hgd : ∀ x y, eqGuard .neq 9 x y (S (bareF ((s.drop a).take (i - a)))) (.string ⟨#[]⟩) = pure () := fun x y => nguard_S 9 x y _ []
          by_cases he : bareF ((s.drop a).take (i - a)) = []
          · have hne : binOp .neq 9 (S (bareF ((s.drop a).take (i - a)))) (.string ⟨#[]⟩) = pure (.bool false) := by
              rw [he]; exact (neql_S 9 [] []).trans (by simp)
            have HN := Lib.hid (hnext done (by rw [keep_none he, List.append_nil]))
            have HO := Lib.hid (And.intro ho hB)
            clear hnext ho hB he
            generalize bareF ((s.drop a).take (i - a)) = P at *
            generalize (s.drop a).take (i - a) = D at *
            go_wp2_with fail
            refine (HBA.out _).mono ?_
            rintro e w1 ⟨rfl, hw1⟩
            obtain rfl := hw1.symm
            clear hw1
            go_wp2
            exact ⟨⟨i + 1, i + 1, by omega, by omega, by go_num, by go_num, ⟨done, by omega, Nat.le_refl _, HO.out.1, HO.out.2, HN.out⟩⟩, by simp [intOf]; omega⟩
          · have hne : binOp .neq 9 (S (bareF ((s.drop a).take (i - a)))) (.string ⟨#[]⟩) = pure (.bool true) :=
              (neql_S 9 _ []).trans (by rw [bne_iff_ne.2 he])
            have HN := Lib.hid (hnext (done ++ [bareF ((s.drop a).take (i - a))]) (by rw [keep_some he]))
            have HO := Lib.hid (And.intro ho hB)
            have hlen : (done.map S).length < 1000000000000 := by rw [List.length_map]; omega
            have hsz := hB.size
            have hlt := ho.lt
            clear hnext hB he
            generalize bareF ((s.drop a).take (i - a)) = P at *
            generalize (s.drop a).take (i - a) = D at *
            go_wp2_with fail
            refine (HBA.out _).mono ?_
            rintro e w1 ⟨rfl, hw1⟩
            obtain rfl := hw1.symm
            clear hw1
            go_wp2_with (at_builtin; refine wpList_add rfl 50 9 (.tmp 30) (.tmp 32) rfl Tryd.underlying50 elem9 w.heap.size wr _ rfl (done.map S) ho (S P) rfl _ rfl rfl rfl hlen hsz ?_; intro v' W2 o2 g2 _)
            exact ⟨⟨i + 1, i + 1, by omega, by omega, by go_num, by go_num, ⟨done ++ [P], by rw [List.length_append, List.length_singleton]; omega, Nat.le_refl _, by rw [List.map_append, List.map_singleton]; exact o2, HO.out.2.grown g2 hsz (fun k e => (hlt k e).1), HN.out⟩⟩, by simp [intOf]; omega⟩
        · have HN : Hid (Pts s w u3 a (i + 1) wr) := Lib.hid ⟨done, by omega, by omega, ho, hB, .inl ⟨by omega, by rw [hp, pts_more _ _ h44, hmid]⟩⟩
          clear hp hmid hdr hc hx h44 ho hB
          go_wp2
          exact ⟨⟨a, i + 1, by omega, by omega, by go_num, by go_num, HN.out⟩, by simp [intOf]; omega⟩
      · have hil : i = s.length := by omega
        have hq : ((i : Int) == (s.length : Int)) = true := by rw [beq_iff_eq]; omega
        have hq' : (i == s.length) = true := by rw [beq_iff_eq]; exact hil
        have hle : decide ((i : Int) ≤ (s.length : Int)) = true := decide_eq_true (by omega)
        have hnext : ∀ done', done' = done ++ keepF ((s.drop a).take (i - a)) → (i + 1 ≤ s.length ∧ partsF s = done' ++ ptsF ((s.drop (i + 1)).take (i + 1 - (i + 1))) (s.drop (i + 1))) ∨ (i + 1 = s.length + 1 ∧ partsF s = done') := fun done' hd => .inr ⟨by omega, by
          rw [hp, List.drop_of_length_le (by omega : s.length ≤ i), ptsF, hd]⟩
        clear hp hil hlt
        have hsl : ∀ w, (Instr.slice 9 (S s) (some (.int .i64 (a : Int))) (some (.int .i64 (i : Int))) none).run Tryd.prog w = .ok (S ((s.drop a).take (i - a))) w := fun w => slice_mid (P := Tryd.prog) Tryd.underlying9 s a i ha (by omega) w
        have HBA : Hid (∀ w, Calls Tryd.prog 71 #[S ((s.drop a).take (i - a))] w fun e w' => e = .returned (S (bareF ((s.drop a).take (i - a)))) ∧ w' = w) := Lib.hid fun w => bare_any _ (by rw [List.length_take, List.length_drop]; omega) w
        have hgd : ∀ x y, eqGuard .neq 9 x y (S (bareF ((s.drop a).take (i - a)))) (.string ⟨#[]⟩) = pure () := fun x y => nguard_S 9 x y _ []
        by_cases he : bareF ((s.drop a).take (i - a)) = []
        · have hne : binOp .neq 9 (S (bareF ((s.drop a).take (i - a)))) (.string ⟨#[]⟩) = pure (.bool false) := by
            rw [he]; exact (neql_S 9 [] []).trans (by simp)
          have HN := Lib.hid (hnext done (by rw [keep_none he, List.append_nil]))
          have HO := Lib.hid (And.intro ho hB)
          clear hnext ho hB he
          generalize bareF ((s.drop a).take (i - a)) = P at *
          generalize (s.drop a).take (i - a) = D at *
          go_wp2_with fail
          refine (HBA.out _).mono ?_
          rintro e w1 ⟨rfl, hw1⟩
          obtain rfl := hw1.symm
          clear hw1
          go_wp2
          exact ⟨⟨i + 1, i + 1, by omega, by omega, by go_num, by go_num, ⟨done, by omega, Nat.le_refl _, HO.out.1, HO.out.2, HN.out⟩⟩, by simp [intOf]; omega⟩
        · have hne : binOp .neq 9 (S (bareF ((s.drop a).take (i - a)))) (.string ⟨#[]⟩) = pure (.bool true) :=
            (neql_S 9 _ []).trans (by rw [bne_iff_ne.2 he])
          have HN := Lib.hid (hnext (done ++ [bareF ((s.drop a).take (i - a))]) (by rw [keep_some he]))
          have HO := Lib.hid (And.intro ho hB)
          have hlen : (done.map S).length < 1000000000000 := by rw [List.length_map]; omega
          have hsz := hB.size
          have hlt := ho.lt
          clear hnext hB he
          generalize bareF ((s.drop a).take (i - a)) = P at *
          generalize (s.drop a).take (i - a) = D at *
          go_wp2_with fail
          refine (HBA.out _).mono ?_
          rintro e w1 ⟨rfl, hw1⟩
          obtain rfl := hw1.symm
          clear hw1
          go_wp2_with (at_builtin; refine wpList_add rfl 50 9 (.tmp 30) (.tmp 32) rfl Tryd.underlying50 elem9 w.heap.size wr _ rfl (done.map S) ho (S P) rfl _ rfl rfl rfl hlen hsz ?_; intro v' W2 o2 g2 _)
          exact ⟨⟨i + 1, i + 1, by omega, by omega, by go_num, by go_num, ⟨done ++ [P], by rw [List.length_append, List.length_singleton]; omega, Nat.le_refl _, by rw [List.map_append, List.map_singleton]; exact o2, HO.out.2.grown g2 hsz (fun k e => (hlt k e).1), HN.out⟩⟩, by simp [intOf]; omega⟩
    · subst hi
      have HN : Hid (Own w.heap.size u3 ((partsF s).map S) wr ∧ Below w.heap.size w wr) := Lib.hid ⟨by rw [hp]; exact ho, hB⟩
      have hle : decide (((s.length + 1 : Nat) : Int) ≤ (s.length : Int)) = false := decide_eq_false (by omega)
      have hle2 : decide ((s.length : Int) + 1 ≤ (s.length : Int)) = false := decide_eq_false (by omega)
      clear hp ho hB
      go_wp2
      go_ret
      exact ⟨_, rfl, HN.out⟩
theorem any_take_next {q : List UInt8 → Bool} {l : List (List UInt8)} {i : Nat} {x : List UInt8} (hx : l[i]? = some x) (h : (l.take i).any q = false) : (l.take (i + 1)).any q = q x := by
  obtain ⟨hi, rfl⟩ := List.getElem?_eq_some_iff.1 hx
  rw [List.take_succ_eq_append_getElem hi, List.any_append, h, Bool.false_or]; simp
set_option maxRecDepth 100000 in
set_option maxHeartbeats 1000000 in
theorem has_any (s t : List UInt8) (hs : s.length ≤ 100000) (ht : t.length ≤ 100000) (w : World) : Calls Tryd.prog 50 #[S s, S t] w fun e w' => e = .returned (.bool (hasF s t)) ∧ Below w.heap.size w w' := by
  have HP := Lib.hid (parts_any s hs w)
  have hpl : ∀ p ∈ partsF s, p.length ≤ s.length := fun p h => parts_le h
  have hcnt : (partsF s).length ≤ s.length + 1 := pts_count s []
  have HD : Hid (hasF s t = (partsF s).any fun p => alikeF p t) := Lib.hid rfl
  generalize partsF s = ps at *
  go_enter Tryd.func50, Tryd.ntmps50
  go_wp2_with fail
  refine HP.out.mono ?_
  rintro e W1 ⟨v, rfl, ho, hB⟩
  have hlen := own_len ho 50 9 3 Tryd.underlying50
  rw [List.length_map] at hlen
  obtain ⟨ad, hidx, hcell⟩ := own_cells ho Tryd.underlying50 (fun w => Tryd.sizeOf9 w)
  rw [List.length_map] at hidx hcell
  have HO := Lib.hid (And.intro ho (And.intro hB (And.intro hcell hpl)))
  have HI := Lib.hid hidx
  clear ho hB hidx hcell hpl
  obtain ⟨N, hN⟩ : ∃ N, N = ps.length := ⟨_, rfl⟩
  rw [← hN] at hlen hcnt
  have HN := Lib.hid hN
  clear hN
  go_wp2
  go_loopw [6] (fun iv wr => ∃ i : Nat, i ≤ N ∧ iv = .int .i64 (i : Int) ∧ Drawn W1 wr ∧ (ps.take i).any (fun p => alikeF p t) = false) (fun iv _ => N - (intOf iv).toNat)
  case atStart => exact ⟨0, Nat.zero_le _, rfl, Drawn.refl _, rfl⟩
  case round =>
    obtain ⟨i, hi, rfl, hD, hn⟩ := hrel
    by_cases hlt : i < N
    · have hNo := HN.out
      obtain ⟨p, hp⟩ : ∃ p, ps[i]? = some p := ⟨ps[i]'(by omega), List.getElem?_eq_getElem _⟩
      have hix := HI.out i (by omega)
      have hc : wr.cell? (ad i) = some (S p) := by
        rw [hD.cell, (HO.out.2.2.1 i (by omega)).2.2.1, List.getElem?_map, hp]; rfl
      have hnx := any_take_next hp hn
      have hmem : p ∈ ps := List.mem_of_getElem? hp
      have HA := Lib.hid (alike_any p t (by have := HO.out.2.2.2 p hmem; omega) ht wr)
      clear hn hp
      cases hb : alikeF p t with
      | true =>
        rw [hb] at hnx HA
        have HF : Hid (hasF s t = true) := Lib.hid (by rw [HD.out, ← List.take_append_drop (i + 1) ps, List.any_append, hnx, Bool.true_or])
        have HDD := Lib.hid hD
        clear hnx hD hb hmem hNo
        go_wp2_with fail
        refine HA.out.mono ?_
        rintro e W2 ⟨rfl, hD2⟩
        go_wp2
        go_ret
        exact ⟨by rw [HF.out]; rfl, HO.out.2.1.trans (((HDD.out.trans hD2).below).mono HO.out.2.1.size)⟩
      | false =>
        rw [hb] at hnx HA
        have HF := Lib.hid hnx
        have HDD := Lib.hid hD
        clear hnx hD hb hmem hNo
        go_wp2_with fail
        refine HA.out.mono ?_
        rintro e W2 ⟨rfl, hD2⟩
        go_wp2
        exact ⟨⟨i + 1, by omega, by go_num, HDD.out.trans hD2, HF.out⟩, by simp [intOf]; omega⟩
    · obtain rfl : i = N := by omega
      have HF : Hid (hasF s t = false ∧ Drawn W1 wr) := Lib.hid ⟨by rw [HD.out, ← hn, List.take_of_length_le (by have := HN.out; omega)], hD⟩
      clear hn hD
      go_wp2
      go_ret
      exact ⟨by rw [HF.out.1]; rfl, HO.out.2.1.trans (HF.out.2.below.mono HO.out.2.1.size)⟩
end Go.Proofs.YtnaekjmlikhglaaDoor
