/- The reference's Alike walked. -/
import Derived.Test.YtccccpbaolegcaaDoorF2
namespace Go.Proofs.YtccccpbaolegcaaDoor
open Go.RowKit
attribute [local go_sem] store_one S_match S_store

def alikeF (a b : List UInt8) : Bool := a.map lowB == b.map lowB
theorem alike_len {a b : List UInt8} (h : a.length ≠ b.length) : alikeF a b = false := by
  unfold alikeF
  rw [beq_eq_false_iff_ne]
  intro e
  have := congrArg List.length e
  rw [List.length_map, List.length_map] at this
  exact h this
theorem map_take_next {a b : List UInt8} {i : Nat} {x y : UInt8} (hx : a[i]? = some x) (hy : b[i]? = some y) (h : (a.take i).map lowB = (b.take i).map lowB) (e : lowB x = lowB y) : (a.take (i + 1)).map lowB = (b.take (i + 1)).map lowB := by
  obtain ⟨hi, rfl⟩ := List.getElem?_eq_some_iff.1 hx
  obtain ⟨hj, rfl⟩ := List.getElem?_eq_some_iff.1 hy
  rw [List.take_succ_eq_append_getElem hi, List.take_succ_eq_append_getElem hj, List.map_append, List.map_append, h, List.map_singleton, List.map_singleton, e]
theorem alike_stop {a b : List UInt8} {i : Nat} {x y : UInt8} (hx : a[i]? = some x) (hy : b[i]? = some y) (e : lowB x ≠ lowB y) : alikeF a b = false := by
  unfold alikeF
  rw [beq_eq_false_iff_ne]
  intro h
  have h1 := congrArg (fun l => l[i]?) h
  simp only [List.getElem?_map, hx, hy, Option.map_some, Option.some.injEq] at h1
  exact e h1
theorem neqN (x y : UInt8) : ((x.toNat : Int) != (y.toNat : Int)) = !(x == y) := by
  rw [bne, beqB]
set_option maxRecDepth 100000 in
set_option maxHeartbeats 400000 in
theorem alike_any (a b : List UInt8) (ha : a.length ≤ 100000) (_hb : b.length ≤ 100000) (w : World) : Calls Tryd.prog 19 #[S a, S b] w fun e w' => e = .returned (.bool (alikeF a b)) ∧ Drawn w w' := by
  have hla := run_len_S (P := Tryd.prog) Tryd.underlying9 3 a
  have hlb := run_len_S (P := Tryd.prog) Tryd.underlying9 3 b
  have HC : Hid (∀ z w, Calls Tryd.prog 33 #[B z] w fun e w' => e = .returned (.int .u8 ((lowB z).toNat : Int)) ∧ Drawn w w') := Lib.hid fun z w => (low_any z w).mono (by rintro e w' ⟨he, rfl⟩; exact ⟨he, Drawn.refl _⟩)
  by_cases hne : a.length = b.length
  · have hq : ((a.length : Int) != (b.length : Int)) = false := by rw [hne]; simp
    have hq' : (a.length != b.length) = false := by rw [hne]; simp
    obtain ⟨L, hL⟩ : ∃ L, L = a.length := ⟨_, rfl⟩
    rw [← hne, ← hL] at hlb
    rw [← hL] at hla
    have HL := Lib.hid (And.intro hL hne)
    rw [← hL] at ha
    clear hq hq' hL hne
    have hq : ((L : Int) != (L : Int)) = false := by simp
    go_enter Tryd.func19, Tryd.ntmps19
    go_wp2
    go_loopw [5] (fun iv wr => ∃ i : Nat, i ≤ L ∧ iv = .int .i64 (i : Int) ∧ Drawn w wr ∧ (a.take i).map lowB = (b.take i).map lowB) (fun iv _ => L - (intOf iv).toNat)
    case atStart => exact ⟨0, Nat.zero_le _, rfl, Drawn.refl _, rfl⟩
    case round =>
      obtain ⟨i, hi, rfl, hD, hm⟩ := hrel
      by_cases hlt : i < L
      · obtain ⟨x, hx⟩ : ∃ x, a[i]? = some x := ⟨a[i]'(by have := HL.out.1; omega), List.getElem?_eq_getElem _⟩
        obtain ⟨y, hy⟩ : ∃ y, b[i]? = some y := ⟨b[i]'(by have := HL.out; omega), List.getElem?_eq_getElem _⟩
        have hix : ∀ w, (Instr.index 9 (S a) (.int .i64 (i : Int))).run Tryd.prog w = .ok (B x) w := fun w => index_S (P := Tryd.prog) Tryd.underlying9 a i x hx w
        have hiy : ∀ w, (Instr.index 9 (S b) (.int .i64 (i : Int))).run Tryd.prog w = .ok (B y) w := fun w => index_S (P := Tryd.prog) Tryd.underlying9 b i y hy w
        have hn := neqN (lowB x) (lowB y)
        by_cases he : lowB x = lowB y
        · have HN := Lib.hid (And.intro hD (map_take_next hx hy hm he))
          rw [beq_iff_eq.2 he, Bool.not_true] at hn
          clear hD hm hx hy he
          go_wp2
          go_quiet (first | (go_at_call 33; exact Calls.quiet_of (HC.out _ _)))
          go_wp2
          exact ⟨⟨i + 1, by omega, by go_num, HN.out.1.trans ⟨_, rfl⟩, HN.out.2⟩, by simp [intOf]; omega⟩
        · have HN := Lib.hid (And.intro hD (alike_stop hx hy he))
          rw [beq_eq_false_iff_ne.2 he, Bool.not_false] at hn
          clear hD hm hx hy he
          go_wp2
          go_quiet (first | (go_at_call 33; exact Calls.quiet_of (HC.out _ _)))
          go_wp2
          go_ret
          exact ⟨by rw [HN.out.2]; rfl, HN.out.1.trans ⟨_, rfl⟩⟩
      · obtain rfl : i = L := by omega
        have HN : Hid (Drawn w wr ∧ alikeF a b = true) := Lib.hid ⟨hD, by
          rw [List.take_of_length_le (by have := HL.out.1; omega), List.take_of_length_le (by have := HL.out; omega)] at hm
          unfold alikeF; rw [hm]; simp⟩
        clear hm hD
        go_wp2
        go_ret
        exact ⟨by rw [HN.out.2]; rfl, HN.out.1⟩
  · have hq : ((a.length : Int) != (b.length : Int)) = true := by rw [bne_iff_ne]; omega
    have hq' : (a.length != b.length) = true := by rw [bne_iff_ne]; exact hne
    have HN := Lib.hid (alike_len hne)
    clear hne
    go_enter Tryd.func19, Tryd.ntmps19
    go_wp2
    go_ret
    exact ⟨by rw [HN.out]; rfl, Drawn.refl _⟩
end Go.Proofs.YtccccpbaolegcaaDoor
