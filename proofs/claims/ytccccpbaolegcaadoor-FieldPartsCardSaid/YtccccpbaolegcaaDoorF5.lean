/- The reference's Parts and Has walked. -/
import Derived.Test.YtccccpbaolegcaaDoorF4
namespace Go.Proofs.YtccccpbaolegcaaDoor
open Go.RowKit
attribute [local go_sem] store_one S_match S_store

/-- What is left of a piece, if something is. -/
def keepF (p : List UInt8) : List (List UInt8) := if bareF p = [] then [] else [bareF p]
/-- The parts of what stands before and what is to come. -/
def ptsF : List UInt8 → List UInt8 → List (List UInt8)
  | cur, [] => keepF cur
  | cur, c :: r => if c = 44 then keepF cur ++ ptsF [] r else ptsF (cur ++ [c]) r
def partsF (s : List UInt8) : List (List UInt8) := ptsF [] s
theorem pts_comma (cur r : List UInt8) : ptsF cur (44 :: r) = keepF cur ++ ptsF [] r := by rw [ptsF, if_pos rfl]
theorem pts_more {c : UInt8} (cur r : List UInt8) (h : c ≠ 44) : ptsF cur (c :: r) = ptsF (cur ++ [c]) r := by rw [ptsF, if_neg h]
theorem keep_some {p : List UInt8} (h : bareF p ≠ []) : keepF p = [bareF p] := by rw [keepF, if_neg h]
theorem keep_none {p : List UInt8} (h : bareF p = []) : keepF p = [] := by rw [keepF, if_pos h]
theorem pts_count : ∀ (r cur : List UInt8), (ptsF cur r).length ≤ r.length + 1
  | [], cur => by rw [ptsF, keepF]; split <;> simp
  | c :: r, cur => by
    rw [ptsF]
    split
    · have := pts_count r []
      rw [List.length_append, List.length_cons]
      have h1 : (keepF cur).length ≤ 1 := by rw [keepF]; split <;> simp
      omega
    · have := pts_count r (cur ++ [c])
      rw [List.length_cons]; omega
theorem mid_next {s : List UInt8} {a i : Nat} {c : UInt8} (hc : s[i]? = some c) (ha : a ≤ i) : (s.drop a).take (i + 1 - a) = (s.drop a).take (i - a) ++ [c] := by
  have hc2 : (s.drop a)[i - a]? = some c := by rw [List.getElem?_drop, show a + (i - a) = i by omega]; exact hc
  obtain ⟨hi, rfl⟩ := List.getElem?_eq_some_iff.1 hc2
  rw [show i + 1 - a = (i - a) + 1 by omega, List.take_succ_eq_append_getElem hi]
theorem comma_facts (c : UInt8) : (c = 44 ∧ ((c.toNat : Int) == 44) = true ∧ (c.toNat == 44) = true) ∨ (c ≠ 44 ∧ ((c.toNat : Int) == 44) = false ∧ (c.toNat == 44) = false) := by
  by_cases h : c = 44
  · subst h; exact .inl ⟨rfl, rfl, rfl⟩
  · have h2 : c.toNat ≠ 44 := fun e => h (UInt8.toNat_inj.1 (by rw [e]; rfl))
    exact .inr ⟨h, by rw [beq_eq_false_iff_ne]; omega, by rw [beq_eq_false_iff_ne]; exact h2⟩
theorem elem9 : Elem Tryd.prog 9 := elem_of (z := .string ⟨#[]⟩) (n := 16) (by kernel_rfl) (by omega) rfl
/-- What holds between two pieces. -/
def Pts (s : List UInt8) (w : World) (v : Value) (a i : Nat) (W : World) : Prop :=
  ∃ done : List (List UInt8), done.length ≤ i ∧ a ≤ i ∧ Own w.heap.size v (done.map S) W ∧ Below w.heap.size w W ∧
    ((i ≤ s.length ∧ partsF s = done ++ ptsF ((s.drop a).take (i - a)) (s.drop i)) ∨ (i = s.length + 1 ∧ partsF s = done))
set_option maxRecDepth 100000 in
set_option maxHeartbeats 1000000 in
theorem parts_any (s : List UInt8) (hs : s.length ≤ 100000) (w : World) : Calls Tryd.prog 21 #[S s] w fun e w' => ∃ v, e = .returned v ∧ Own w.heap.size v ((partsF s).map S) w' ∧ Below w.heap.size w w' := by
  have hlenS := run_len_S (P := Tryd.prog) Tryd.underlying9 3 s
  go_enter Tryd.func21, Tryd.ntmps21
  go_wp2
  go_loopw [3, 4, 5] (fun vv av iv wr => ∃ a i : Nat, a ≤ s.length + 1 ∧ i ≤ s.length + 1 ∧ av = .int .i64 (a : Int) ∧ iv = .int .i64 (i : Int) ∧ Pts s w vv a i wr) (fun _ _ iv _ => s.length + 1 - (intOf iv).toNat)
  case atStart => exact ⟨0, 0, by omega, by omega, rfl, rfl, [], by simp, Nat.le_refl _, .inl ⟨rfl, rfl⟩, Below.refl _ _, .inl ⟨Nat.zero_le _, rfl⟩⟩
  case round =>
    obtain ⟨a, i, ha1, hi1, rfl, rfl, done, hdl, ha, ho, hB, hp⟩ := hrel
    rcases hp with ⟨hi, hp⟩ | ⟨hi, hp⟩
    · by_cases hlt : i < s.length
      · obtain ⟨c, hc⟩ : ∃ c, s[i]? = some c := ⟨s[i], List.getElem?_eq_getElem hlt⟩
        obtain ⟨x, hx⟩ : ∃ x : Nat, x = c.toNat := ⟨_, rfl⟩
        have hidx : ∀ w, (Instr.index 9 (S s) (.int .i64 (i : Int))).run Tryd.prog w = .ok (.int .u8 (x : Int)) w := fun w => by
          rw [hx]; exact index_S (P := Tryd.prog) Tryd.underlying9 s i c hc w
        have hdr : s.drop i = c :: s.drop (i + 1) := by rw [List.drop_eq_getElem_cons hlt, (List.getElem?_eq_some_iff.1 hc).2]
        have hmid := mid_next hc ha
        have hne1 : ((i : Int) == (s.length : Int)) = false := by rw [beq_eq_false_iff_ne]; omega
        have hne1' : (i == s.length) = false := by rw [beq_eq_false_iff_ne]; omega
        have hle : decide ((i : Int) ≤ (s.length : Int)) = true := decide_eq_true (by omega)
        have hcf := comma_facts c
        rw [← hx] at hcf
        rw [hdr] at hp
        rcases hcf with ⟨h44, hq, hq'⟩ | ⟨h44, hq, hq'⟩
        · have hnext : ∀ done', done' = done ++ keepF ((s.drop a).take (i - a)) → (i + 1 ≤ s.length ∧ partsF s = done' ++ ptsF ((s.drop (i + 1)).take (i + 1 - (i + 1))) (s.drop (i + 1))) ∨ (i + 1 = s.length + 1 ∧ partsF s = done') := fun done' hd => .inl ⟨by omega, by
            rw [hp, h44, pts_comma, hd, Nat.sub_self, List.take_zero, List.append_assoc]⟩
          clear hp hmid hdr hc hx h44
          have hsl : ∀ w, (Instr.slice 9 (S s) (some (.int .i64 (a : Int))) (some (.int .i64 (i : Int))) none).run Tryd.prog w = .ok (S ((s.drop a).take (i - a))) w := fun w => slice_mid (P := Tryd.prog) Tryd.underlying9 s a i ha (by omega) w
          have HBA : Hid (∀ w, Calls Tryd.prog 32 #[S ((s.drop a).take (i - a))] w fun e w' => e = .returned (S (bareF ((s.drop a).take (i - a)))) ∧ w' = w) := Lib.hid fun w => bare_any _ (by rw [List.length_take, List.length_drop]; omega) w
          have hgd : ∀ x y, eqGuard .neq 9 x y (S (bareF ((s.drop a).take (i - a)))) (.string ⟨#[]⟩) = pure () := fun x y => nguard_S 9 x y _ []
          by_cases he : bareF ((s.drop a).take (i - a)) = []
          · have hne : binOp .neq 9 (S (bareF ((s.drop a).take (i - a)))) (.string ⟨#[]⟩) = pure (.bool false) := by
              rw [he]; exact (neql_S 9 [] []).trans (by simp)
            have HN := Lib.hid (hnext done (by rw [keep_none he, List.append_nil]))
            have HO := Lib.hid (And.intro ho hB)
            clear hnext ho hB he
            generalize bareF ((s.drop a).take (i - a)) = P at *
            generalize (s.drop a).take (i - a) = D at *
            go_wp2_with fail
            refine (HBA.out _).mono ?_
            rintro e w1 ⟨rfl, hw1⟩
            obtain rfl := hw1.symm
            clear hw1
            go_wp2
            exact ⟨⟨i + 1, i + 1, by omega, by omega, by go_num, by go_num, ⟨done, by omega, Nat.le_refl _, HO.out.1, HO.out.2, HN.out⟩⟩, by simp [intOf]; omega⟩
          · have hne : binOp .neq 9 (S (bareF ((s.drop a).take (i - a)))) (.string ⟨#[]⟩) = pure (.bool true) :=
              (neql_S 9 _ []).trans (by rw [bne_iff_ne.2 he])
            have HN := Lib.hid (hnext (done ++ [bareF ((s.drop a).take (i - a))]) (by rw [keep_some he]))
            have HO := Lib.hid (And.intro ho hB)
            have hlen : (done.map S).length < 1000000000000 := by rw [List.length_map]; omega
            have hsz := hB.size
            have hlt := ho.lt
            clear hnext hB he
            generalize bareF ((s.drop a).take (i - a)) = P at *
            generalize (s.drop a).take (i - a) = D at *
            go_wp2_with fail
            refine (HBA.out _).mono ?_
            rintro e w1 ⟨rfl, hw1⟩
            obtain rfl := hw1.symm
            clear hw1
            go_wp2_with (at_builtin; refine wpList_add rfl 34 9 (.tmp 30) (.tmp 32) rfl Tryd.underlying34 elem9 w.heap.size wr _ rfl (done.map S) ho (S P) rfl _ rfl rfl rfl hlen hsz ?_; intro v' W2 o2 g2 _)
            exact ⟨⟨i + 1, i + 1, by omega, by omega, by go_num, by go_num, ⟨done ++ [P], by rw [List.length_append, List.length_singleton]; omega, Nat.le_refl _, by rw [List.map_append, List.map_singleton]; exact o2, HO.out.2.grown g2 hsz (fun k e => (hlt k e).1), HN.out⟩⟩, by simp [intOf]; omega⟩
        · have HN : Hid (Pts s w u3 a (i + 1) wr) := Lib.hid ⟨done, by omega, by omega, ho, hB, .inl ⟨by omega, by rw [hp, pts_more _ _ h44, hmid]⟩⟩
          clear hp hmid hdr hc hx h44 ho hB
          go_wp2
          exact ⟨⟨a, i + 1, by omega, by omega, by go_num, by go_num, HN.out⟩, by simp [intOf]; omega⟩
      · have hil : i = s.length := by omega
        have hq : ((i : Int) == (s.length : Int)) = true := by rw [beq_iff_eq]; omega
        have hq' : (i == s.length) = true := by rw [beq_iff_eq]; exact hil
        have hle : decide ((i : Int) ≤ (s.length : Int)) = true := decide_eq_true (by omega)
        have hnext : ∀ done', done' = done ++ keepF ((s.drop a).take (i - a)) → (i + 1 ≤ s.length ∧ partsF s = done' ++ ptsF ((s.drop (i + 1)).take (i + 1 - (i + 1))) (s.drop (i + 1))) ∨ (i + 1 = s.length + 1 ∧ partsF s = done') := fun done' hd => .inr ⟨by omega, by
          rw [hp, List.drop_of_length_le (by omega : s.length ≤ i), ptsF, hd]⟩
        clear hp hil hlt
        have hsl : ∀ w, (Instr.slice 9 (S s) (some (.int .i64 (a : Int))) (some (.int .i64 (i : Int))) none).run Tryd.prog w = .ok (S ((s.drop a).take (i - a))) w := fun w => slice_mid (P := Tryd.prog) Tryd.underlying9 s a i ha (by omega) w
        have HBA : Hid (∀ w, Calls Tryd.prog 32 #[S ((s.drop a).take (i - a))] w fun e w' => e = .returned (S (bareF ((s.drop a).take (i - a)))) ∧ w' = w) := Lib.hid fun w => bare_any _ (by rw [List.length_take, List.length_drop]; omega) w
        have hgd : ∀ x y, eqGuard .neq 9 x y (S (bareF ((s.drop a).take (i - a)))) (.string ⟨#[]⟩) = pure () := fun x y => nguard_S 9 x y _ []
        by_cases he : bareF ((s.drop a).take (i - a)) = []
        · have hne : binOp .neq 9 (S (bareF ((s.drop a).take (i - a)))) (.string ⟨#[]⟩) = pure (.bool false) := by
            rw [he]; exact (neql_S 9 [] []).trans (by simp)
          have HN := Lib.hid (hnext done (by rw [keep_none he, List.append_nil]))
          have HO := Lib.hid (And.intro ho hB)
          clear hnext ho hB he
          generalize bareF ((s.drop a).take (i - a)) = P at *
          generalize (s.drop a).take (i - a) = D at *
          go_wp2_with fail
          refine (HBA.out _).mono ?_
          rintro e w1 ⟨rfl, hw1⟩
          obtain rfl := hw1.symm
          clear hw1
          go_wp2
          exact ⟨⟨i + 1, i + 1, by omega, by omega, by go_num, by go_num, ⟨done, by omega, Nat.le_refl _, HO.out.1, HO.out.2, HN.out⟩⟩, by simp [intOf]; omega⟩
        · have hne : binOp .neq 9 (S (bareF ((s.drop a).take (i - a)))) (.string ⟨#[]⟩) = pure (.bool true) :=
            (neql_S 9 _ []).trans (by rw [bne_iff_ne.2 he])
          have HN := Lib.hid (hnext (done ++ [bareF ((s.drop a).take (i - a))]) (by rw [keep_some he]))
          have HO := Lib.hid (And.intro ho hB)
          have hlen : (done.map S).length < 1000000000000 := by rw [List.length_map]; omega
          have hsz := hB.size
          have hlt := ho.lt
          clear hnext hB he
          generalize bareF ((s.drop a).take (i - a)) = P at *
          generalize (s.drop a).take (i - a) = D at *
          go_wp2_with fail
          refine (HBA.out _).mono ?_
          rintro e w1 ⟨rfl, hw1⟩
          obtain rfl := hw1.symm
          clear hw1
          go_wp2_with (at_builtin; refine wpList_add rfl 34 9 (.tmp 30) (.tmp 32) rfl Tryd.underlying34 elem9 w.heap.size wr _ rfl (done.map S) ho (S P) rfl _ rfl rfl rfl hlen hsz ?_; intro v' W2 o2 g2 _)
          exact ⟨⟨i + 1, i + 1, by omega, by omega, by go_num, by go_num, ⟨done ++ [P], by rw [List.length_append, List.length_singleton]; omega, Nat.le_refl _, by rw [List.map_append, List.map_singleton]; exact o2, HO.out.2.grown g2 hsz (fun k e => (hlt k e).1), HN.out⟩⟩, by simp [intOf]; omega⟩
    · subst hi
      have HN : Hid (Own w.heap.size u3 ((partsF s).map S) wr ∧ Below w.heap.size w wr) := Lib.hid ⟨by rw [hp]; exact ho, hB⟩
      have hle : decide (((s.length + 1 : Nat) : Int) ≤ (s.length : Int)) = false := decide_eq_false (by omega)
      have hle2 : decide ((s.length : Int) + 1 ≤ (s.length : Int)) = false := decide_eq_false (by omega)
      clear hp ho hB
      go_wp2
      go_ret
      exact ⟨_, rfl, HN.out⟩
end Go.Proofs.YtccccpbaolegcaaDoor
