/- The landed package's bytes: what is in a token, in a value, and a small letter; all of a text's bytes asked. -/
import Derived.Test.YtccccpbaolegcaaDoorF3
import Derived.Test.YtccccpbaolegcaaDoorF4
import Derived.Test.YtccccpbaolegcaaDoorShelf
import Derived.Shelf.Small.Strs
import Derived.Shelf.Strings.SlTrimAscii
import Derived.Lib.IndexAny
namespace Go.Proofs.YtccccpbaolegcaaDoor
open Go.RowKit
attribute [local go_sem] store_one S_match S_store

/-- A token's characters that are neither letters nor digits. -/
def markL : List UInt8 := [33, 35, 36, 37, 38, 39, 42, 43, 45, 46, 94, 95, 96, 124, 126]
def inTok (n : Nat) : Bool := (decide (65 ≤ n) && decide (n ≤ 90) || decide (97 ≤ n) && decide (n ≤ 122)) || (decide (48 ≤ n) && decide (n ≤ 57)) || markL.contains (UInt8.ofNat n)
theorem tok_small : ∀ n : Fin 256, tokB (UInt8.ofNat n.1) = inTok n.1 := by decide +kernel
theorem tok_eq (c : UInt8) : tokB c = inTok c.toNat := by
  have := tok_small ⟨c.toNat, c.toNat_lt⟩
  simp only [UInt8.ofNat_toNat] at this
  exact this
theorem mark_any (c : UInt8) (w : World) : Calls Tryd.prog 42 #[.string ⟨#[33, 35, 36, 37, 38, 39, 42, 43, 45, 46, 94, 95, 96, 124, 126]⟩, B c] w fun e w' => e = .returned (.int .i64 (Lib.indexByte markL c)) ∧ w' = w := by
  have h := Any.strings_IndexByte Tryd.lays137 ⟨#[33, 35, 36, 37, 38, 39, 42, 43, 45, 46, 94, 95, 96, 124, 126]⟩ (c.toNat : Int) w
  have e : (c.toNat : Int).toNat.toUInt8 = c := by simp
  rw [e] at h
  exact h
set_option maxRecDepth 100000 in
set_option maxHeartbeats 1000000 in
theorem intoken_any (c : UInt8) (w : World) : Calls Tryd.prog 29 #[B c] w fun e w' => e = .returned (.bool (tokB c)) ∧ w' = w := by
  have h1 := B_geq 5 c 65
  have h2 := B_leq 5 c 90
  have h3 := B_geq 5 c 97
  have h4 := B_leq 5 c 122
  have h5 := B_geq 5 c 48
  have h6 := B_leq 5 c 57
  have hE : inTok c.toNat = ((decide (65 ≤ c.toNat) && decide (c.toNat ≤ 90) || decide (97 ≤ c.toNat) && decide (c.toNat ≤ 122)) || (decide (48 ≤ c.toNat) && decide (c.toNat ≤ 57)) || markL.contains c) := by
    unfold inTok; simp only [UInt8.ofNat_toNat]
  rw [Lib.contains_iff_indexByte] at hE
  obtain ⟨j, hj⟩ : ∃ j, j = Lib.indexByte markL c := ⟨_, rfl⟩
  have hmk := mark_any c
  rw [← hj] at hE hmk
  have HM := Lib.hid hmk
  rw [tok_eq, hE]
  clear hE hmk hj
  have fin : ∀ (tk : Bool), Calls Tryd.prog 29 #[B c] w (fun e w' => e = .returned (.bool tk) ∧ w' = w) → ((decide (65 ≤ c.toNat) && decide (c.toNat ≤ 90) || decide (97 ≤ c.toNat) && decide (c.toNat ≤ 122)) || (decide (48 ≤ c.toNat) && decide (c.toNat ≤ 57)) || decide (0 ≤ j)) = tk →
      Calls Tryd.prog 29 #[B c] w (fun e w' => e = .returned (.bool ((decide (65 ≤ c.toNat) && decide (c.toNat ≤ 90) || decide (97 ≤ c.toNat) && decide (c.toNat ≤ 122)) || (decide (48 ≤ c.toNat) && decide (c.toNat ≤ 57)) || decide (0 ≤ j))) ∧ w' = w) := fun tk h e => by rw [e]; exact h
  have hcs : c.toNat < 48 ∨ (48 ≤ c.toNat ∧ c.toNat ≤ 57) ∨ (57 < c.toNat ∧ c.toNat < 65) ∨ (65 ≤ c.toNat ∧ c.toNat ≤ 90) ∨ (90 < c.toNat ∧ c.toNat < 97) ∨ (97 ≤ c.toNat ∧ c.toNat ≤ 122) ∨ 122 < c.toNat := by omega
  rcases hcs with a | a | a | a | a | a | a
  · refine fin (decide (0 ≤ j)) ?_ (by simp; omega)
    rw [decide_eq_false (by omega)] at h1 h3 h5
    clear h2 h4 h6 a fin
    go_enter Tryd.func29, Tryd.ntmps29
    go_wp2_with fail
    refine (HM.out w).mono ?_
    rintro e w1 ⟨rfl, rfl⟩
    go_wp2
    go_ret
    exact ⟨rfl, rfl⟩
  · refine fin (true) ?_ (by simp; omega)
    rw [decide_eq_false (by omega)] at h1 h3
    rw [decide_eq_true (by omega)] at h5 h6
    clear h2 h4 a fin
    go_enter Tryd.func29, Tryd.ntmps29
    go_wp2
    go_ret
    exact ⟨rfl, rfl⟩
  · refine fin (decide (0 ≤ j)) ?_ (by simp; omega)
    rw [decide_eq_false (by omega)] at h1 h3 h6
    rw [decide_eq_true (by omega)] at h5
    clear h2 h4 a fin
    go_enter Tryd.func29, Tryd.ntmps29
    go_wp2_with fail
    refine (HM.out w).mono ?_
    rintro e w1 ⟨rfl, rfl⟩
    go_wp2
    go_ret
    exact ⟨rfl, rfl⟩
  · refine fin (true) ?_ (by simp; omega)
    rw [decide_eq_true (by omega)] at h1 h2
    rw [decide_eq_true (by omega)] at h5
    rw [decide_eq_false (by omega)] at h6
    clear h3 h4 a fin
    go_enter Tryd.func29, Tryd.ntmps29
    go_wp2
    go_ret
    exact ⟨rfl, rfl⟩
  · refine fin (decide (0 ≤ j)) ?_ (by simp; omega)
    rw [decide_eq_true (by omega)] at h1 h5
    rw [decide_eq_false (by omega)] at h2 h3 h6
    clear h4 a fin
    go_enter Tryd.func29, Tryd.ntmps29
    go_wp2_with fail
    refine (HM.out w).mono ?_
    rintro e w1 ⟨rfl, rfl⟩
    go_wp2
    go_ret
    exact ⟨rfl, rfl⟩
  · refine fin (true) ?_ (by simp; omega)
    rw [decide_eq_true (by omega)] at h1 h3 h4 h5
    rw [decide_eq_false (by omega)] at h2 h6
    clear a fin
    go_enter Tryd.func29, Tryd.ntmps29
    go_wp2
    go_ret
    exact ⟨rfl, rfl⟩
  · refine fin (decide (0 ≤ j)) ?_ (by simp; omega)
    rw [decide_eq_true (by omega)] at h1 h3 h5
    rw [decide_eq_false (by omega)] at h2 h4 h6
    clear a fin
    go_enter Tryd.func29, Tryd.ntmps29
    go_wp2_with fail
    refine (HM.out w).mono ?_
    rintro e w1 ⟨rfl, rfl⟩
    go_wp2
    go_ret
    exact ⟨rfl, rfl⟩

theorem eguard_BN (o1 o2 : Operand) (x : UInt8) (k : Int) : eqGuard .eql 5 o1 o2 (B x) (.int .u8 k) = pure () := rfl
theorem nguard_BN (o1 o2 : Operand) (x : UInt8) (k : Int) : eqGuard .neq 5 o1 o2 (B x) (.int .u8 k) = pure () := rfl
attribute [local go_sem] eguard_BN nguard_BN
theorem B_neqN (t : TypeId) (x : UInt8) (k : Int) : binOp .neq t (B x) (.int .u8 k) = pure (.bool ((x.toNat : Int) != k)) := rfl
theorem B_eqlN (t : TypeId) (x : UInt8) (k : Int) : binOp .eql t (B x) (.int .u8 k) = pure (.bool ((x.toNat : Int) == k)) := rfl
/-- What may stand in a value. -/
def valB (c : UInt8) : Bool := !(badB c)
set_option maxRecDepth 100000 in
set_option maxHeartbeats 1000000 in
theorem invalue_any (c : UInt8) (w : World) : Calls Tryd.prog 26 #[B c] w fun e w' => e = .returned (.bool (valB c)) ∧ w' = w := by
  have h1 := B_eqlN 5 c 9
  have h2 := B_geq 5 c 32
  have h3 := B_neqN 5 c 127
  have hcs : c.toNat = 9 ∨ (c.toNat ≠ 9 ∧ c.toNat < 32) ∨ (32 ≤ c.toNat ∧ c.toNat = 127) ∨ (32 ≤ c.toNat ∧ c.toNat ≠ 127) := by omega
  rcases hcs with a | a | a | a
  · have hv : valB c = true := by unfold valB badB; simp; omega
    rw [show ((c.toNat : Int) == 9) = true by rw [beq_iff_eq]; omega] at h1
    rw [hv]
    clear h2 h3 a hv
    go_enter Tryd.func26, Tryd.ntmps26
    go_wp2
    go_ret
    exact ⟨rfl, rfl⟩
  · have hv : valB c = false := by unfold valB badB; simp; omega
    rw [show ((c.toNat : Int) == 9) = false by rw [beq_eq_false_iff_ne]; omega] at h1
    rw [decide_eq_false (by omega)] at h2
    rw [hv]
    clear h3 a hv
    go_enter Tryd.func26, Tryd.ntmps26
    go_wp2
    go_ret
    exact ⟨rfl, rfl⟩
  · have hv : valB c = false := by unfold valB badB; simp; omega
    rw [show ((c.toNat : Int) == 9) = false by rw [beq_eq_false_iff_ne]; omega] at h1
    rw [decide_eq_true (by omega)] at h2
    rw [show ((c.toNat : Int) != 127) = false by rw [bne_eq_false_iff_eq]; omega] at h3
    rw [hv]
    clear a hv
    go_enter Tryd.func26, Tryd.ntmps26
    go_wp2
    go_ret
    exact ⟨rfl, rfl⟩
  · have hv : valB c = true := by unfold valB badB; simp; omega
    rw [show ((c.toNat : Int) == 9) = false by rw [beq_eq_false_iff_ne]; omega] at h1
    rw [decide_eq_true (by omega)] at h2
    rw [show ((c.toNat : Int) != 127) = true by rw [bne_iff_ne]; omega] at h3
    rw [hv]
    clear a hv
    go_enter Tryd.func26, Tryd.ntmps26
    go_wp2
    go_ret
    exact ⟨rfl, rfl⟩

theorem B_sub65 (t : TypeId) (x : UInt8) (h : 65 ≤ x.toNat) : binOp .sub t (B x) (.int .u8 65) = pure (.int .u8 ((x.toNat : Int) - 65)) := by
  have := x.toNat_lt
  have hw : IntKind.u8.wrap ((x.toNat : Int) - 65) = (x.toNat : Int) - 65 := by rw [IntKind.wrap_u8]; omega
  simp only [B]
  show pure (Value.int .u8 (IntKind.u8.wrap ((x.toNat : Int) - 65))) = _
  rw [hw]
theorem add97 (t : TypeId) (x : UInt8) (h : 65 ≤ x.toNat) (h2 : x.toNat ≤ 90) : binOp .add t (.int .u8 ((x.toNat : Int) - 65)) (.int .u8 97) = pure (B (x + 32)) := by
  have e : ((x + 32).toNat : Int) = (x.toNat : Int) + 32 := by rw [UInt8.toNat_add]; show (((x.toNat + 32) % 256 : Nat) : Int) = _; omega
  have hw : IntKind.u8.wrap ((x.toNat : Int) - 65 + 97) = (x.toNat : Int) + 32 := by rw [IntKind.wrap_u8]; omega
  simp only [B, e]
  show pure (Value.int .u8 (IntKind.u8.wrap ((x.toNat : Int) - 65 + 97))) = _
  rw [hw]
set_option maxRecDepth 100000 in
set_option maxHeartbeats 400000 in
theorem small_any (c : UInt8) (w : World) : Calls Tryd.prog 30 #[B c] w fun e w' => e = .returned (B (lowB c)) ∧ w' = w := by
  have h1 := B_geq 5 c 65
  have h2 := B_leq 5 c 90
  by_cases ha : 65 ≤ c.toNat
  · by_cases hb : c.toNat ≤ 90
    · have hl : lowB c = c + 32 := by unfold lowB; rw [if_pos ⟨ha, hb⟩]
      have h3 := B_sub65 5 c ha
      have h4 := add97 5 c ha hb
      rw [decide_eq_true (by omega)] at h1 h2
      rw [hl]
      generalize hz : (c.toNat : Int) - 65 = z at h3 h4
      clear hl ha hb hz
      go_enter Tryd.func30, Tryd.ntmps30
      go_wp2
      go_ret
      exact ⟨rfl, rfl⟩
    · have hl : lowB c = c := by unfold lowB; rw [if_neg (fun h => hb h.2)]
      rw [decide_eq_true (by omega)] at h1
      rw [decide_eq_false (by omega)] at h2
      rw [hl]
      clear hl ha hb
      go_enter Tryd.func30, Tryd.ntmps30
      go_wp2
      go_ret
      exact ⟨rfl, rfl⟩
  · have hl : lowB c = c := by unfold lowB; rw [if_neg (fun h => ha h.1)]
    rw [decide_eq_false (by omega)] at h1
    rw [hl]
    clear hl ha h2
    go_enter Tryd.func30, Tryd.ntmps30
    go_wp2
    go_ret
    exact ⟨rfl, rfl⟩

set_option maxRecDepth 100000 in
set_option maxHeartbeats 400000 in
/-- All of a text's bytes asked. -/
theorem all_any {f : Nat} {p : UInt8 → Bool} (hf : ∀ c w, Calls Tryd.prog f #[B c] w fun e w' => e = .returned (.bool (p c)) ∧ w' = w) (he : ∀ args w, (callFunc f args).run Tryd.prog w = .ok (.enter f args) w)
    (s : List UInt8) (hs : s.length ≤ 100000) (w : World) : Calls Tryd.prog 25 #[S s, .func (.func f) #[] #[]] w fun e w' => e = .returned (.bool (s.all p)) ∧ w' = w := by
  have hlenS := run_len_S (P := Tryd.prog) Tryd.underlying9 3 s
  have HF := Lib.hid hf
  obtain ⟨L, hL⟩ : ∃ L, L = s.length := ⟨_, rfl⟩
  rw [← hL] at hlenS hs
  have HL := Lib.hid hL
  clear hf hL
  go_enter Tryd.func25, Tryd.ntmps25
  go_wp2
  go_loopw [8] (fun iv wr => ∃ i : Nat, i ≤ L ∧ iv = .int .i64 (i : Int) ∧ wr = w ∧ (s.take i).all p = true) (fun iv _ => L - (intOf iv).toNat)
  case atStart => exact ⟨0, by omega, rfl, rfl, rfl⟩
  case round =>
    obtain ⟨i, hi, rfl, rfl, hn⟩ := hrel
    by_cases hlt : i < L
    · obtain ⟨c, hc⟩ : ∃ c, s[i]? = some c := ⟨s[i]'(by have := HL.out; omega), List.getElem?_eq_getElem _⟩
      have hidx : ∀ w, (Instr.index 9 (S s) (.int .i64 (i : Int))).run Tryd.prog w = .ok (B c) w := fun w => index_S (P := Tryd.prog) Tryd.underlying9 s i c hc w
      have hnx := all_take_next hc hn
      have HF2 := Lib.hid (HF.out c wr)
      clear hn hc
      cases hb : p c with
      | true =>
        have HN := Lib.hid (hnx.trans hb)
        have HB := Lib.hid hb
        clear hnx hb
        go_wp2_with fail
        refine HF2.out.mono ?_
        rintro e w1 ⟨rfl, hw1⟩
        obtain rfl := hw1.symm
        rw [HB.out]
        go_wp2
        exact ⟨⟨i + 1, by omega, by go_num, by trivial, HN.out⟩, by simp [intOf]; omega⟩
      | false =>
        have HN : Hid (s.all p = false) := Lib.hid (by rw [hb] at hnx; exact all_of_take hnx)
        have HB := Lib.hid hb
        clear hnx hb
        go_wp2_with fail
        refine HF2.out.mono ?_
        rintro e w1 ⟨rfl, hw1⟩
        obtain rfl := hw1.symm
        rw [HB.out]
        go_wp2
        go_ret
        exact ⟨by rw [HN.out]; rfl, rfl⟩
    · obtain rfl : i = L := by omega
      have HN : Hid (s.all p = true) := Lib.hid (by rw [HL.out, List.take_length] at hn; exact hn)
      clear hn
      go_wp2
      go_ret
      exact ⟨by rw [HN.out]; rfl, rfl⟩
theorem all_tok (s : List UInt8) (hs : s.length ≤ 100000) (w : World) : Calls Tryd.prog 25 #[S s, .func (.func 29) #[] #[]] w fun e w' => e = .returned (.bool (s.all tokB)) ∧ w' = w :=
  all_any intoken_any (enters_of Tryd.func29 (by kernel_rfl) rfl) s hs w
theorem all_val (s : List UInt8) (hs : s.length ≤ 100000) (w : World) : Calls Tryd.prog 25 #[S s, .func (.func 26) #[] #[]] w fun e w' => e = .returned (.bool (s.all valB)) ∧ w' = w :=
  all_any invalue_any (enters_of Tryd.func26 (by kernel_rfl) rfl) s hs w
end Go.Proofs.YtccccpbaolegcaaDoor
