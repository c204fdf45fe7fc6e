/- The landed Token walked. -/
import Derived.Test.YtbnlkjoblngakaaDoorQb
import Derived.Test.YtbnlkjoblngakaaDoorShelf
import Derived.Shelf.Small.Strs
namespace Go.Proofs.YtbnlkjoblngakaaDoor
open Go.RowKit
attribute [local go_sem] store_one S_match S_store eguard_BN nguard_BN

theorem mark_any (c : UInt8) (w : World) : Calls Tryd.prog 56 #[.string ⟨#[33, 35, 36, 37, 38, 39, 42, 43, 45, 46, 94, 95, 96, 124, 126]⟩, B c] w fun e w' => e = .returned (.int .i64 (Lib.indexByte markL c)) ∧ w' = w := by
  have h := Any.strings_IndexByte Tryd.lays137 ⟨#[33, 35, 36, 37, 38, 39, 42, 43, 45, 46, 94, 95, 96, 124, 126]⟩ (c.toNat : Int) w
  have e : (c.toNat : Int).toNat.toUInt8 = c := by simp
  rw [e] at h
  exact h
set_option maxRecDepth 100000 in
set_option maxHeartbeats 1000000 in
theorem intoken_any (c : UInt8) (w : World) : Calls Tryd.prog 39 #[B c] w fun e w' => e = .returned (.bool (tokB c)) ∧ w' = w := by
  have h1 := B_geq 5 c 65
  have h2 := B_leq 5 c 90
  have h3 := B_geq 5 c 97
  have h4 := B_leq 5 c 122
  have h5 := B_geq 5 c 48
  have h6 := B_leq 5 c 57
  have hE : inTok c.toNat = ((decide (65 ≤ c.toNat) && decide (c.toNat ≤ 90) || decide (97 ≤ c.toNat) && decide (c.toNat ≤ 122)) || (decide (48 ≤ c.toNat) && decide (c.toNat ≤ 57)) || markL.contains c) := by
    unfold inTok; simp only [UInt8.ofNat_toNat]
  rw [Lib.contains_iff_indexByte] at hE
  obtain ⟨j, hj⟩ : ∃ j, j = Lib.indexByte markL c := ⟨_, rfl⟩
  have hmk := mark_any c
  rw [← hj] at hE hmk
  have HM := Lib.hid hmk
  rw [tok_eq, hE]
  clear hE hmk hj
  have fin : ∀ (tk : Bool), Calls Tryd.prog 39 #[B c] w (fun e w' => e = .returned (.bool tk) ∧ w' = w) → ((decide (65 ≤ c.toNat) && decide (c.toNat ≤ 90) || decide (97 ≤ c.toNat) && decide (c.toNat ≤ 122)) || (decide (48 ≤ c.toNat) && decide (c.toNat ≤ 57)) || decide (0 ≤ j)) = tk →
      Calls Tryd.prog 39 #[B c] w (fun e w' => e = .returned (.bool ((decide (65 ≤ c.toNat) && decide (c.toNat ≤ 90) || decide (97 ≤ c.toNat) && decide (c.toNat ≤ 122)) || (decide (48 ≤ c.toNat) && decide (c.toNat ≤ 57)) || decide (0 ≤ j))) ∧ w' = w) := fun tk h e => by rw [e]; exact h
  have hcs : c.toNat < 48 ∨ (48 ≤ c.toNat ∧ c.toNat ≤ 57) ∨ (57 < c.toNat ∧ c.toNat < 65) ∨ (65 ≤ c.toNat ∧ c.toNat ≤ 90) ∨ (90 < c.toNat ∧ c.toNat < 97) ∨ (97 ≤ c.toNat ∧ c.toNat ≤ 122) ∨ 122 < c.toNat := by omega
  rcases hcs with a | a | a | a | a | a | a
  · refine fin (decide (0 ≤ j)) ?_ (by simp; omega)
    rw [decide_eq_false (by omega)] at h1 h3 h5
    clear h2 h4 h6 a fin
    go_enter Tryd.func39, Tryd.ntmps39
    go_wp2_with fail
    refine (HM.out w).mono ?_
    rintro e w1 ⟨rfl, rfl⟩
    go_wp2
    go_ret
    exact ⟨rfl, rfl⟩
  · refine fin (true) ?_ (by simp; omega)
    rw [decide_eq_false (by omega)] at h1 h3
    rw [decide_eq_true (by omega)] at h5 h6
    clear h2 h4 a fin
    go_enter Tryd.func39, Tryd.ntmps39
    go_wp2
    go_ret
    exact ⟨rfl, rfl⟩
  · refine fin (decide (0 ≤ j)) ?_ (by simp; omega)
    rw [decide_eq_false (by omega)] at h1 h3 h6
    rw [decide_eq_true (by omega)] at h5
    clear h2 h4 a fin
    go_enter Tryd.func39, Tryd.ntmps39
    go_wp2_with fail
    refine (HM.out w).mono ?_
    rintro e w1 ⟨rfl, rfl⟩
    go_wp2
    go_ret
    exact ⟨rfl, rfl⟩
  · refine fin (true) ?_ (by simp; omega)
    rw [decide_eq_true (by omega)] at h1 h2
    rw [decide_eq_true (by omega)] at h5
    rw [decide_eq_false (by omega)] at h6
    clear h3 h4 a fin
    go_enter Tryd.func39, Tryd.ntmps39
    go_wp2
    go_ret
    exact ⟨rfl, rfl⟩
  · refine fin (decide (0 ≤ j)) ?_ (by simp; omega)
    rw [decide_eq_true (by omega)] at h1 h5
    rw [decide_eq_false (by omega)] at h2 h3 h6
    clear h4 a fin
    go_enter Tryd.func39, Tryd.ntmps39
    go_wp2_with fail
    refine (HM.out w).mono ?_
    rintro e w1 ⟨rfl, rfl⟩
    go_wp2
    go_ret
    exact ⟨rfl, rfl⟩
  · refine fin (true) ?_ (by simp; omega)
    rw [decide_eq_true (by omega)] at h1 h3 h4 h5
    rw [decide_eq_false (by omega)] at h2 h6
    clear a fin
    go_enter Tryd.func39, Tryd.ntmps39
    go_wp2
    go_ret
    exact ⟨rfl, rfl⟩
  · refine fin (decide (0 ≤ j)) ?_ (by simp; omega)
    rw [decide_eq_true (by omega)] at h1 h3 h5
    rw [decide_eq_false (by omega)] at h2 h4 h6
    clear a fin
    go_enter Tryd.func39, Tryd.ntmps39
    go_wp2_with fail
    refine (HM.out w).mono ?_
    rintro e w1 ⟨rfl, rfl⟩
    go_wp2
    go_ret
    exact ⟨rfl, rfl⟩
set_option maxRecDepth 100000 in
set_option maxHeartbeats 400000 in
/-- All of a text's bytes asked. -/
theorem all_any {f : Nat} {p : UInt8 → Bool} (hf : ∀ c w, Calls Tryd.prog f #[B c] w fun e w' => e = .returned (.bool (p c)) ∧ w' = w) (he : ∀ args w, (callFunc f args).run Tryd.prog w = .ok (.enter f args) w)
    (s : List UInt8) (hs : s.length ≤ 100000) (w : World) : Calls Tryd.prog 38 #[S s, .func (.func f) #[] #[]] w fun e w' => e = .returned (.bool (s.all p)) ∧ w' = w := by
  have hlenS := run_len_S (P := Tryd.prog) Tryd.underlying9 3 s
  have HF := Lib.hid hf
  obtain ⟨L, hL⟩ : ∃ L, L = s.length := ⟨_, rfl⟩
  rw [← hL] at hlenS hs
  have HL := Lib.hid hL
  clear hf hL
  go_enter Tryd.func38, Tryd.ntmps38
  go_wp2
  go_loopw [8] (fun iv wr => ∃ i : Nat, i ≤ L ∧ iv = .int .i64 (i : Int) ∧ wr = w ∧ (s.take i).all p = true) (fun iv _ => L - (intOf iv).toNat)
  case atStart => exact ⟨0, by omega, rfl, rfl, rfl⟩
  case round =>
    obtain ⟨i, hi, rfl, rfl, hn⟩ := hrel
    by_cases hlt : i < L
    · obtain ⟨c, hc⟩ : ∃ c, s[i]? = some c := ⟨s[i]'(by have := HL.out; omega), List.getElem?_eq_getElem _⟩
      have hidx : ∀ w, (Instr.index 9 (S s) (.int .i64 (i : Int))).run Tryd.prog w = .ok (B c) w := fun w => index_S (P := Tryd.prog) Tryd.underlying9 s i c hc w
      have hnx := all_take_next hc hn
      have HF2 := Lib.hid (HF.out c wr)
      clear hn hc
      cases hb : p c with
      | true =>
        have HN := Lib.hid (hnx.trans hb)
        have HB := Lib.hid hb
        clear hnx hb
        go_wp2_with fail
        refine HF2.out.mono ?_
        rintro e w1 ⟨rfl, hw1⟩
        obtain rfl := hw1.symm
        rw [HB.out]
        go_wp2
        exact ⟨⟨i + 1, by omega, by go_num, by trivial, HN.out⟩, by simp [intOf]; omega⟩
      | false =>
        have HN : Hid (s.all p = false) := Lib.hid (by rw [hb] at hnx; exact all_of_take hnx)
        have HB := Lib.hid hb
        clear hnx hb
        go_wp2_with fail
        refine HF2.out.mono ?_
        rintro e w1 ⟨rfl, hw1⟩
        obtain rfl := hw1.symm
        rw [HB.out]
        go_wp2
        go_ret
        exact ⟨by rw [HN.out]; rfl, rfl⟩
    · obtain rfl : i = L := by omega
      have HN : Hid (s.all p = true) := Lib.hid (by rw [HL.out, List.take_length] at hn; exact hn)
      clear hn
      go_wp2
      go_ret
      exact ⟨by rw [HN.out]; rfl, rfl⟩
theorem all_tok (s : List UInt8) (hs : s.length ≤ 100000) (w : World) : Calls Tryd.prog 38 #[S s, .func (.func 39) #[] #[]] w fun e w' => e = .returned (.bool (s.all tokB)) ∧ w' = w :=
  all_any intoken_any (enters_of Tryd.func39 (by kernel_rfl) rfl) s hs w
set_option maxRecDepth 100000 in
set_option maxHeartbeats 400000 in
theorem token15_any (s : List UInt8) (hs : s.length ≤ 100000) (w : World) : Calls Tryd.prog 25 #[S s] w fun e w' => e = .returned (.bool (tokF s)) ∧ w' = w := by
  have hc := all_tok s hs w
  have hn : binOp .neq 9 (S s) (.string ⟨#[]⟩) = pure (.bool (s != [])) := neql_S 9 s []
  have hg : ∀ x y, eqGuard .neq 9 x y (S s) (.string ⟨#[]⟩) = pure () := fun x y => nguard_S 9 x y s []
  unfold tokF
  cases s with
  | nil =>
    rw [show (([] : List UInt8) != []) = false from rfl] at hn
    go_enter Tryd.func25, Tryd.ntmps25
    go_wp2
    go_ret
    exact ⟨rfl, rfl⟩
  | cons c r =>
    rw [show ((c :: r) != []) = true from rfl] at hn
    have e : ((c :: r).all tokB && decide (0 < (c :: r).length)) = (c :: r).all tokB := by simp
    rw [e]
    generalize c :: r = s at *
    have HC := Lib.hid hc
    clear hc e
    go_enter Tryd.func25, Tryd.ntmps25
    go_wp2_with fail
    refine HC.out.mono ?_
    rintro e w1 ⟨rfl, rfl⟩
    go_wp2
    go_ret
    exact ⟨rfl, rfl⟩
end Go.Proofs.YtbnlkjoblngakaaDoor
