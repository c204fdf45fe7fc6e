/- The walks of New, Feed, Bad, At and Whole. -/
import Derived.Test.YtmamklahnpmgjaaW3
namespace Go.Proofs.Ytmamklahnpmgjaa
open Go.RowKit
attribute [local go_sem] store_one

theorem new_any (w : World) : Calls Try.prog 10 #[] w fun e w' => e = .returned (.pointer (some ⟨w.heap.size, 0, none⟩)) ∧ ChkAt w' w.heap.size Chk.start ∧ Below w.heap.size w w' := by
  go_enter Try.func10, Try.ntmps10
  go_wp2
  go_ret
  exact ⟨rfl, ⟨Chk.Ok.start, 0, 0, row_new _ _ _, rfl, by omega, by omega, fun ab h => by cases h⟩, (Below.refl _ _).alloc (Nat.le_refl _) _⟩

section
variable (k : Chk) (g : Nat) (w : World)
theorem bad_any (hk : ChkAt w g k) : Calls Try.prog 13 #[.pointer (some ⟨g, 0, none⟩)] w fun e w' => e = .returned (.bool k.bad) ∧ w = w' := by
  obtain ⟨h0, lo, hi, hr, hw⟩ := hk
  have c4 : w.cell? ⟨g, 4, none⟩ = some (.bool k.bad) := cell_of_row w _ 4 _ 40 (0, 0) hr
  clear h0 hr hw
  generalize k.bad = b at *
  go_enter Try.func13, Try.ntmps13
  go_wp2
  go_ret
  exact ⟨rfl, rfl⟩
theorem at_any (hk : ChkAt w g k) : Calls Try.prog 14 #[.pointer (some ⟨g, 0, none⟩)] w fun e w' => e = .returned (.int .i64 k.n) ∧ w = w' := by
  obtain ⟨h0, lo, hi, hr, hw⟩ := hk
  have c4 : w.cell? ⟨g, 0, none⟩ = some (.int .i64 k.n) := cell_of_row w _ 0 _ 40 (0, 0) hr
  clear h0 hr hw
  go_enter Try.func14, Try.ntmps14
  go_wp2
  go_ret
  exact ⟨rfl, rfl⟩
/-- Was no byte bad, and is nothing waited for? -/
def Chk.whole (k : Chk) : Bool := !k.bad && k.T.isEmpty
theorem whole_any (hk : ChkAt w g k) : Calls Try.prog 17 #[.pointer (some ⟨g, 0, none⟩)] w fun e w' => e = .returned (.bool k.whole) ∧ w = w' := by
  obtain ⟨h0, lo, hi, hr, hw⟩ := hk
  have c4 : w.cell? ⟨g, 4, none⟩ = some (.bool k.bad) := cell_of_row w _ 4 _ 40 (0, 0) hr
  have c1 : w.cell? ⟨g, 1, none⟩ = some (.int .i64 k.T.length) := cell_of_row w _ 1 _ 40 (0, 0) hr
  have HW : Hid (k.whole = (!k.bad && ((k.T.length : Int) == 0))) := Lib.hid (by
    unfold Chk.whole
    cases k.T with
    | nil => rfl
    | cons a T => simp; intro _; omega)
  clear h0 hr hw
  generalize k.T.length = L at *
  cases hb : k.bad with
  | true =>
    rw [hb] at c4 HW
    clear hb
    go_enter Try.func17, Try.ntmps17
    go_wp2
    go_ret
    exact ⟨by rw [HW.out]; rfl, rfl⟩
  | false =>
    rw [hb] at c4 HW
    clear hb
    go_enter Try.func17, Try.ntmps17
    go_wp2
    go_ret
    exact ⟨by rw [HW.out]; rfl, rfl⟩
end
/-- Of a nil check, and of a text: what is told. -/
theorem bad_nil (w : World) : Calls Try.prog 13 #[.pointer none] w fun e w' => e = .returned (.bool true) ∧ w = w' := by
  go_enter Try.func13, Try.ntmps13
  go_wp2
  go_ret
  exact ⟨rfl, rfl⟩
theorem at_nil (w : World) : Calls Try.prog 14 #[.pointer none] w fun e w' => e = .returned (.int .i64 0) ∧ w = w' := by
  go_enter Try.func14, Try.ntmps14
  go_wp2
  go_ret
  exact ⟨rfl, rfl⟩
theorem whole_nil (w : World) : Calls Try.prog 17 #[.pointer none] w fun e w' => e = .returned (.bool false) ∧ w = w' := by
  go_enter Try.func17, Try.ntmps17
  go_wp2
  go_ret
  exact ⟨rfl, rfl⟩
theorem feed_nil (s : List UInt8) (w : World) : Calls Try.prog 11 #[.pointer none, S s] w fun e w' => e = .returned (.bool false) ∧ w = w' := by
  go_enter Try.func11, Try.ntmps11
  go_wp2
  go_ret
  exact ⟨rfl, rfl⟩

theorem feed_n : ∀ (s : List UInt8) (k : Chk), (feed k s).n ≤ k.n + s.length
  | [], k => by simp [feed]
  | c :: r, k => by
    cases hb : k.bad with
    | true => rw [feed_bad hb]; omega
    | false =>
      rw [feed_cons hb]
      have := feed_n r (k.read c)
      have h1 : (k.read c).n ≤ k.n + 1 := by unfold Chk.read; split <;> simp
      rw [List.length_cons]; omega
theorem feed_take_succ (s : List UInt8) (k : Chk) (i : Nat) (c : UInt8) (hc : s[i]? = some c) (hb : (feed k (s.take i)).bad = false) : feed k (s.take (i + 1)) = (feed k (s.take i)).read c := by
  rw [List.take_add_one, hc, Option.toList_some, feed_snoc _ _ _ hb]

set_option maxRecDepth 100000 in
set_option maxHeartbeats 2000000 in
theorem feed_any (s : List UInt8) (k : Chk) (g : Nat) (w : World) (hk : ChkAt w g k) (hs : k.n + s.length < 1000000000) :
    Calls Try.prog 11 #[.pointer (some ⟨g, 0, none⟩), S s] w fun e w' => e = .returned (.bool (!(feed k s).bad)) ∧ ChkAt w' g (feed k s) ∧ Keeps g w w' := by
  have hlenS := run_len_S (P := Try.prog) Try.underlying9 3 s
  go_enter Try.func11, Try.ntmps11
  go_wp2
  go_loopw [5] (fun iv wr => ∃ i : Nat, i ≤ s.length ∧ iv = .int .i64 i ∧ ChkAt wr g (feed k (s.take i)) ∧ Keeps g w wr) (fun iv _ => s.length - (intOf iv).toNat)
  case atStart => exact ⟨0, Nat.zero_le _, rfl, by rw [List.take_zero]; exact hk, Keeps.refl _ _⟩
  case round =>
    obtain ⟨i, hi, rfl, hc, hK⟩ := hrel
    have hn := feed_n (s.take i) k
    rw [List.length_take] at hn
    obtain ⟨h0, lo, hi', hr, hw⟩ := id hc
    have c4 : wr.cell? ⟨g, 4, none⟩ = some (.bool (feed k (s.take i)).bad) := cell_of_row wr _ 4 _ 40 (0, 0) hr
    clear h0 hr hw
    have HC := Lib.hid (And.intro hc hK)
    clear hc hK
    by_cases hlt : i < s.length
    · obtain ⟨c, hci⟩ : ∃ c, s[i]? = some c := ⟨s[i], List.getElem?_eq_getElem hlt⟩
      have hidx : ∀ w, (Instr.index 9 (S s) (.int .i64 (i : Int))).run Try.prog w = .ok (B c) w := fun w => index_S (P := Try.prog) Try.underlying9 s i c hci w
      cases hb : (feed k (s.take i)).bad with
      | true =>
        rw [hb] at c4
        have HR : Hid (feed k s = feed k (s.take i)) := Lib.hid (by
          have := feed_append (s.take i) (s.drop i) k
          rw [List.take_append_drop, feed_bad hb] at this
          exact this)
        have HB := Lib.hid hb
        clear hci hidx hb
        go_wp2
        go_ret
        exact ⟨by rw [HR.out, HB.out]; rfl, by rw [HR.out]; exact HC.out⟩
      | false =>
        rw [hb] at c4
        have HR := Lib.hid (feed_take_succ s k i c hci hb)
        clear hci hb
        go_wp2_with fail
        refine (read_any (feed k (s.take i)) g c wr HC.out.1 (by omega)).mono ?_
        rintro e W2 ⟨rfl, hc2, hK2⟩
        go_wp2
        go_roundw
        case rel => exact ⟨i + 1, by omega, by go_num, by rw [HR.out]; exact hc2, HC.out.2.trans hK2⟩
        case measure => simp [intOf]; omega
    · obtain rfl : i = s.length := by omega
      have HT : Hid (s.take s.length = s) := Lib.hid List.take_length
      rw [HT.out] at HC c4 hn
      have HB : Hid (∃ b, b = (feed k s).bad) := Lib.hid ⟨_, rfl⟩
      obtain ⟨b, hb⟩ := HB.out
      rw [← hb] at c4
      clear HB
      go_wp2
      go_ret
      exact ⟨by rw [← hb]; rfl, HC.out⟩
end Go.Proofs.Ytmamklahnpmgjaa
