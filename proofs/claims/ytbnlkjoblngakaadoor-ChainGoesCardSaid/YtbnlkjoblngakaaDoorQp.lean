/- The landed field's Parse walked. -/
import Derived.Test.YtbnlkjoblngakaaDoorQg
import Derived.Test.YtbnlkjoblngakaaDoorGen3
import Derived.Shelf.Strings.SlTrimAscii
import Derived.Shelf.RegionOpenPlain
namespace Go.Proofs.YtbnlkjoblngakaaDoor
open Go.RowKit
attribute [local go_sem] store_one S_match S_store eguard_BN nguard_BN

set_option maxRecDepth 100000 in
set_option maxHeartbeats 1000000 in
theorem invalue_any (c : UInt8) (w : World) : Calls Tryd.prog 52 #[B c] w fun e w' => e = .returned (.bool (valB c)) ∧ w' = w := by
  have h1 := B_eqlN 5 c 9
  have h2 := B_geq 5 c 32
  have h3 := B_neqN 5 c 127
  have hcs : c.toNat = 9 ∨ (c.toNat ≠ 9 ∧ c.toNat < 32) ∨ (32 ≤ c.toNat ∧ c.toNat = 127) ∨ (32 ≤ c.toNat ∧ c.toNat ≠ 127) := by omega
  rcases hcs with a | a | a | a
  · have hv : valB c = true := by unfold valB badB; simp; omega
    rw [show ((c.toNat : Int) == 9) = true by rw [beq_iff_eq]; omega] at h1
    rw [hv]
    clear h2 h3 a hv
    go_enter Tryd.func52, Tryd.ntmps52
    go_wp2
    go_ret
    exact ⟨rfl, rfl⟩
  · have hv : valB c = false := by unfold valB badB; simp; omega
    rw [show ((c.toNat : Int) == 9) = false by rw [beq_eq_false_iff_ne]; omega] at h1
    rw [decide_eq_false (by omega)] at h2
    rw [hv]
    clear h3 a hv
    go_enter Tryd.func52, Tryd.ntmps52
    go_wp2
    go_ret
    exact ⟨rfl, rfl⟩
  · have hv : valB c = false := by unfold valB badB; simp; omega
    rw [show ((c.toNat : Int) == 9) = false by rw [beq_eq_false_iff_ne]; omega] at h1
    rw [decide_eq_true (by omega)] at h2
    rw [show ((c.toNat : Int) != 127) = false by rw [bne_eq_false_iff_eq]; omega] at h3
    rw [hv]
    clear a hv
    go_enter Tryd.func52, Tryd.ntmps52
    go_wp2
    go_ret
    exact ⟨rfl, rfl⟩
  · have hv : valB c = true := by unfold valB badB; simp; omega
    rw [show ((c.toNat : Int) == 9) = false by rw [beq_eq_false_iff_ne]; omega] at h1
    rw [decide_eq_true (by omega)] at h2
    rw [show ((c.toNat : Int) != 127) = true by rw [bne_iff_ne]; omega] at h3
    rw [hv]
    clear a hv
    go_enter Tryd.func52, Tryd.ntmps52
    go_wp2
    go_ret
    exact ⟨rfl, rfl⟩
theorem all_val (s : List UInt8) (hs : s.length ≤ 100000) (w : World) : Calls Tryd.prog 38 #[S s, .func (.func 52) #[] #[]] w fun e w' => e = .returned (.bool (s.all valB)) ∧ w' = w :=
  all_any invalue_any (enters_of Tryd.func52 (by kernel_rfl) rfl) s hs w
theorem index_S1 (s : List UInt8) (k : UInt8) (w : World) : Calls Tryd.prog 78 #[S s, S [k]] w fun e w' => e = .returned (.int .i64 (Lib.indexByte s k)) ∧ w' = w :=
  Tryd.stringslite_Index_one ⟨s.toArray⟩ k w
set_option maxRecDepth 100000 in
set_option maxHeartbeats 400000 in
theorem cut34_hit (k : UInt8) (a b : List UInt8) (h : k ∉ a) (hs : a.length + b.length ≤ 100000) (w : World) :
    Calls Tryd.prog 68 #[S (a ++ k :: b), S [k]] w fun e w' => e = .returned (.tuple #[S a, S b, .bool true]) ∧ Drawn w w' := by
  have hix := index_S1 (a ++ k :: b) k w
  rw [index_hit b h] at hix
  have hl := run_len_S (P := Tryd.prog) Tryd.underlying9 3 [k]
  have hln : (a ++ k :: b).length = a.length + b.length + 1 := by simp; omega
  have hs1 := slice_take (P := Tryd.prog) Tryd.underlying9 (a ++ k :: b) a.length (by omega)
  have hs2 := slice_drop (P := Tryd.prog) Tryd.underlying9 (a ++ k :: b) (a.length + 1) (by omega)
  rw [List.take_left] at hs1
  rw [show (a ++ k :: b).drop (a.length + 1) = b by rw [List.drop_append]; simp] at hs2
  generalize a ++ k :: b = T at *
  generalize hn : a.length = n at *
  have hn5 : n ≤ 100000 := by omega
  have hs3 : ∀ w, (Instr.slice 9 (S T) (some (.int .i64 ((n : Int) + 1))) none none).run Tryd.prog w = .ok (S b) w := fun w => by
    have := hs2 w
    rwa [show ((n + 1 : Nat) : Int) = (n : Int) + 1 by omega] at this
  have hg : decide ((0 : Int) ≤ (n : Int)) = true := decide_eq_true (by omega)
  have hl1 : ∀ w, (Builtin.len_ #[9] 3 #[S [k]]).run Tryd.prog w = .ok (.int .i64 1) w := hl
  clear hl hln h hn hs hs2
  go_enter Tryd.func68, Tryd.ntmps68
  go_wp2_with fail
  refine hix.mono ?_
  rintro e w1 ⟨rfl, rfl⟩
  go_wp2
  have hmx : Tryd.prog.follows .mixedOrders = true := by kernel_rfl
  go_region_o
  go_wp2
  go_ret3
  exact ⟨rfl, 1, rfl⟩
set_option maxRecDepth 100000 in
set_option maxHeartbeats 400000 in
theorem cut34_miss (k : UInt8) (s : List UInt8) (h : k ∉ s) (w : World) :
    Calls Tryd.prog 68 #[S s, S [k]] w fun e w' => e = .returned (.tuple #[S s, S [], .bool false]) ∧ Drawn w w' := by
  have hix := index_S1 s k w
  rw [index_miss h] at hix
  clear h
  go_enter Tryd.func68, Tryd.ntmps68
  go_wp2_with fail
  refine hix.mono ?_
  rintro e w1 ⟨rfl, rfl⟩
  go_wp2
  go_ret3
  exact ⟨rfl, 0, rfl⟩
/-- strings.Cut at one byte. -/
theorem cut_hit (k : UInt8) (a b : List UInt8) (h : k ∉ a) (hs : a.length + b.length ≤ 100000) (w : World) :
    Calls Tryd.prog 51 #[S (a ++ k :: b), S [k]] w fun e w' => e = .returned (.tuple #[S a, S b, .bool true]) ∧ Drawn w w' := by
  have hc := cut34_hit k a b h hs w
  generalize a ++ k :: b = T at *
  clear h hs
  go_enter Tryd.func51, Tryd.ntmps51
  go_wp2_with fail
  refine hc.mono ?_
  rintro e w1 ⟨rfl, hD⟩
  go_wp2
  go_ret3
  exact ⟨rfl, hD⟩
theorem cut_miss (k : UInt8) (s : List UInt8) (h : k ∉ s) (w : World) :
    Calls Tryd.prog 51 #[S s, S [k]] w fun e w' => e = .returned (.tuple #[S s, S [], .bool false]) ∧ Drawn w w' := by
  have hc := cut34_miss k s h w
  clear h
  go_enter Tryd.func51, Tryd.ntmps51
  go_wp2_with fail
  refine hc.mono ?_
  rintro e w1 ⟨rfl, hD⟩
  go_wp2
  go_ret3
  exact ⟨rfl, hD⟩
theorem trim_any (s : List UInt8) (hs : s.length ≤ 100000) (w : World) : Calls Tryd.prog 53 #[S s, S [9, 32]] w fun e w' => e = .returned (S (bareF s)) ∧ Below w.heap.size w w' := by
  have h := Any.strings_Trim_laid Tryd.lays160 (by kernel_rfl) ⟨s.toArray⟩ ⟨#[9, 32]⟩ w (by show s.length ≤ _; omega) (by decide) (Go.Proofs.ascii_of_all (by decide))
  rw [← trim_bare]
  exact h
/-- A result of a struct of two texts, and one more. -/
theorem struct_end {fn : Func} {p u : Tmp} {i : TypeInfo} (hi : Tryd.prog.info? 53 = some i) (hs : i.size = 2) (h : fn.results = #[.cell p 53, .tmp u]) (tmps : Array Value) (w : World) (g : Nat) (cs : Array Value) (hp : tmps.getD p undef = .pointer (some ⟨g, 0, none⟩)) (hg : Row w g cs 53) (h2 : cs.size = 2) :
    (results fn tmps).run Tryd.prog w = .ok (.tuple #[.agg cs, tmps.getD u undef]) w :=
  results_row_tmp h tmps w g 53 cs (0, 0) _ hp hg Tryd.underlying53 rfl (by rw [hi, Option.map_some, hs, h2])
theorem infoFld : ∃ i, Tryd.prog.info? 53 = some i ∧ i.size = 2 := by
  have h : (Tryd.prog.info? 53).map (·.size) = some 2 := by kernel_rfl
  cases hi : Tryd.prog.info? 53 with
  | none => simp [hi] at h
  | some i => exact ⟨i, rfl, by simpa [hi] using h⟩
set_option maxRecDepth 100000 in
set_option maxHeartbeats 1000000 in
theorem parse10_any (s : List UInt8) (hs : s.length ≤ 100000) (w : World) : Calls Tryd.prog 34 #[S s] w fun e w' => e = .returned (parseV (parseF s)) ∧ Below w.heap.size w w' := by
  obtain ⟨i23, hi23, hs23⟩ := infoFld
  obtain ⟨W1, hW1⟩ : ∃ W1, W1 = w.alloc (.cells #[.string ⟨#[]⟩, .string ⟨#[]⟩] 53) := ⟨_, rfl⟩
  obtain ⟨b, hb⟩ : ∃ b, b = w.heap.size := ⟨_, rfl⟩
  have hr1 : Row W1 b #[.string ⟨#[]⟩, .string ⟨#[]⟩] 53 := by rw [hW1, hb]; exact row_new w _ _
  have hb1 : Below b w W1 := by rw [hW1, hb]; exact (Below.refl _ w).alloc (Nat.le_refl _) _
  have HI := Lib.hid (And.intro hi23 hs23)
  have hend : Hid (∀ (W : World) (n v : List UInt8) (k : Bool) (tmps : Array Value), Row W b #[.string ⟨#[]⟩, .string ⟨#[]⟩] 53 → Below b w W → tmps.getD 2 undef = .pointer (some ⟨b, 0, none⟩) → tmps.getD 3 undef = .bool k → parseF s = (n, v, k) →
      bodyPost Tryd.prog Tryd.f34 (fun e w' => e = .returned (parseV (parseF s)) ∧ Below w.heap.size w w') .ret { tmps := tmps, defers := [] } ((W.setCell ⟨b, 0, none⟩ (S n)).setCell ⟨b, 1, none⟩ (S v))) := Lib.hid fun W n v k tmps hr hB h2 h3 hp => by
    refine bodyPost_ret (struct_end HI.out.1 HI.out.2 rfl _ _ b _ h2 ((hr.set 0 (S n)).set 1 (S v)) rfl) rfl ?_
    rw [hp]
    refine ⟨by rw [h3]; rfl, ?_⟩
    rw [← hb]
    exact (hB.setCell (p := ⟨b, 0, none⟩) (Nat.le_refl _) _).setCell (p := ⟨b, 1, none⟩) (Nat.le_refl _) _
  have H1 := Lib.hid (And.intro hr1 (And.intro hb1 hb))
  clear hr1 hb1 hi23 hs23
  have lit58 : S [58] = .string ⟨#[58]⟩ := rfl
  rcases cut_cases 58 s with ⟨n, r, rfl, hab⟩ | hm
  · have hl : n.length + r.length ≤ 100000 := by rw [List.length_append, List.length_cons] at hs; omega
    have hc := cut_hit 58 n r hab hl W1
    have hP := parse_cut n r hab
    have HT := Lib.hid (token15_any n (by omega))
    have HV := Lib.hid (all_val r (by omega))
    have HM : Hid (∀ w, Calls Tryd.prog 53 #[S r, .string ⟨#[9, 32]⟩] w fun e w' => e = .returned (S (bareF r)) ∧ Below w.heap.size w w') := Lib.hid (trim_any r (by omega))
    rw [lit58] at hc
    generalize n ++ 58 :: r = T at *
    clear hs hab hl lit58
    have HC := Lib.hid hc
    clear hc
    cases ht : tokF n with
    | false =>
      rw [ht, Bool.false_and, if_neg Bool.false_ne_true] at hP
      rw [ht] at HT
      have HP := Lib.hid hP
      clear hP ht HV HM
      go_enter Tryd.func34, Tryd.ntmps34
      go_wp2_with fail
      rw [← hb, ← hW1]
      clear hb hW1
      refine HC.out.mono ?_
      rintro e W2 ⟨rfl, hD⟩
      have HD := Lib.hid hD
      clear hD
      go_wp2_with fail
      refine (HT.out W2).mono ?_
      rintro e w1 ⟨rfl, hw1⟩
      obtain rfl := hw1.symm
      have hr2 := H1.out.1.below HD.out.below H1.out.1.lt
      have r0 : W2.cell? ⟨b, 0, none⟩ = some (.string ⟨#[]⟩) := cell_of_row W2 _ 0 _ 53 (0, 0) hr2
      have r1 : W2.cell? ⟨b, 1, none⟩ = some (.string ⟨#[]⟩) := cell_of_row W2 _ 1 _ 53 (0, 0) hr2
      have f0 : W2.frozen? ⟨b, 0, none⟩ = false := Row.frozen hr2 0
      have f1 : W2.frozen? ⟨b, 1, none⟩ = false := Row.frozen hr2 1
      have HR := Lib.hid hr2
      clear hr2
      go_wp2
      exact hend.out _ [] [] false _ HR.out (H1.out.2.1.trans (HD.out.below.mono (by have := H1.out.1.lt; omega))) rfl rfl HP.out
    | true =>
      rw [ht, Bool.true_and] at hP
      rw [ht] at HT
      cases hv : r.all valB with
      | false =>
        rw [hv, if_neg Bool.false_ne_true] at hP
        rw [hv] at HV
        have HP := Lib.hid hP
        clear hP ht hv HM
        go_enter Tryd.func34, Tryd.ntmps34
        go_wp2_with fail
        rw [← hb, ← hW1]
        clear hb hW1
        refine HC.out.mono ?_
        rintro e W2 ⟨rfl, hD⟩
        have HD := Lib.hid hD
        clear hD
        go_wp2_with fail
        refine (HT.out W2).mono ?_
        rintro e w1 ⟨rfl, hw1⟩
        obtain rfl := hw1.symm
        go_wp2_with fail
        refine (HV.out W2).mono ?_
        rintro e w2 ⟨rfl, hw2⟩
        obtain rfl := hw2.symm
        have hr2 := H1.out.1.below HD.out.below H1.out.1.lt
        have r0 : W2.cell? ⟨b, 0, none⟩ = some (.string ⟨#[]⟩) := cell_of_row W2 _ 0 _ 53 (0, 0) hr2
        have r1 : W2.cell? ⟨b, 1, none⟩ = some (.string ⟨#[]⟩) := cell_of_row W2 _ 1 _ 53 (0, 0) hr2
        have f0 : W2.frozen? ⟨b, 0, none⟩ = false := Row.frozen hr2 0
        have f1 : W2.frozen? ⟨b, 1, none⟩ = false := Row.frozen hr2 1
        have HR := Lib.hid hr2
        clear hr2
        go_wp2
        exact hend.out _ [] [] false _ HR.out (H1.out.2.1.trans (HD.out.below.mono (by have := H1.out.1.lt; omega))) rfl rfl HP.out
      | true =>
        rw [hv, if_pos rfl] at hP
        rw [hv] at HV
        have HP := Lib.hid hP
        clear hP ht hv
        go_enter Tryd.func34, Tryd.ntmps34
        go_wp2_with fail
        rw [← hb, ← hW1]
        clear hb hW1
        refine HC.out.mono ?_
        rintro e W2 ⟨rfl, hD⟩
        have HD := Lib.hid hD
        clear hD
        go_wp2_with fail
        refine (HT.out W2).mono ?_
        rintro e w1 ⟨rfl, hw1⟩
        obtain rfl := hw1.symm
        go_wp2_with fail
        refine (HV.out W2).mono ?_
        rintro e w2 ⟨rfl, hw2⟩
        obtain rfl := hw2.symm
        go_wp2_with fail
        refine (HM.out W2).mono ?_
        rintro e w3 ⟨rfl, hB⟩
        have hr2 := H1.out.1.below HD.out.below H1.out.1.lt
        have hr3 := hr2.below hB hr2.lt
        have HB3 : Hid (Below b w w3) := Lib.hid ((H1.out.2.1.trans (HD.out.below.mono (by have := H1.out.1.lt; omega))).trans (hB.mono (by have := hr2.lt; omega)))
        have r0 : w3.cell? ⟨b, 0, none⟩ = some (.string ⟨#[]⟩) := cell_of_row w3 _ 0 _ 53 (0, 0) hr3
        have r1 : w3.cell? ⟨b, 1, none⟩ = some (.string ⟨#[]⟩) := cell_of_row w3 _ 1 _ 53 (0, 0) hr3
        have f0 : w3.frozen? ⟨b, 0, none⟩ = false := Row.frozen hr3 0
        have f1 : w3.frozen? ⟨b, 1, none⟩ = false := Row.frozen hr3 1
        have HR := Lib.hid hr3
        clear hr2 hr3 hB
        go_wp2
        exact hend.out _ n (bareF r) true _ HR.out HB3.out rfl rfl HP.out
  · have hc := cut_miss 58 s hm W1
    have HP := Lib.hid (parse_miss hm)
    rw [lit58] at hc
    have HC := Lib.hid hc
    clear hc hm lit58
    go_enter Tryd.func34, Tryd.ntmps34
    go_wp2_with fail
    rw [← hb, ← hW1]
    clear hb hW1
    refine HC.out.mono ?_
    rintro e W2 ⟨rfl, hD⟩
    have HD := Lib.hid hD
    have hr2 := H1.out.1.below HD.out.below H1.out.1.lt
    have r0 : W2.cell? ⟨b, 0, none⟩ = some (.string ⟨#[]⟩) := cell_of_row W2 _ 0 _ 53 (0, 0) hr2
    have r1 : W2.cell? ⟨b, 1, none⟩ = some (.string ⟨#[]⟩) := cell_of_row W2 _ 1 _ 53 (0, 0) hr2
    have f0 : W2.frozen? ⟨b, 0, none⟩ = false := Row.frozen hr2 0
    have f1 : W2.frozen? ⟨b, 1, none⟩ = false := Row.frozen hr2 1
    have HR := Lib.hid hr2
    clear hD hr2
    go_wp2
    exact hend.out _ [] [] false _ HR.out (H1.out.2.1.trans (HD.out.below.mono (by have := H1.out.1.lt; omega))) rfl rfl HP.out
end Go.Proofs.YtbnlkjoblngakaaDoor
