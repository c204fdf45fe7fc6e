/- The walk of the document's Runes. -/
import Derived.Test.YtmamklahnpmgjaaS5
namespace Go.Proofs.Ytmamklahnpmgjaa
open Go.RowKit
attribute [local go_sem] store_one B_match B_store

/-- Places and numbers, from a place on. -/
def runesF (s : List UInt8) (p : Nat) : List Nat × List Nat :=
  if h : p < s.length ∧ 0 < one s p then (p :: (runesF s (p + (one s p).toNat)).1, runeN ((s.drop p).take (one s p).toNat) :: (runesF s (p + (one s p).toNat)).2) else ([], [])
termination_by s.length - p
decreasing_by all_goals omega
theorem runes_go {s : List UInt8} {p n : Nat} (h : p < s.length) (hn : one s p = (n : Int)) (h0 : 0 < n) : runesF s p = (p :: (runesF s (p + n)).1, runeN ((s.drop p).take n) :: (runesF s (p + n)).2) := by
  rw [runesF, dif_pos ⟨h, by omega⟩, hn]; simp
theorem runes_stop {s : List UInt8} {p : Nat} (h : ¬ (p < s.length ∧ 0 < one s p)) : runesF s p = ([], []) := by
  rw [runesF, dif_neg h]
theorem elem3 : Elem Try.prog 3 := elem_of (z := .int .i64 0) (n := 8) (by kernel_rfl) (by omega) rfl

/-- Two slices of one's own, in blocks of their own. -/
def Two (base : Nat) (pv lv : Value) (ps ls : List Nat) (w : World) : Prop :=
  Own base pv (ps.map IC) w ∧ Own base lv (ls.map IC) w ∧ (∀ g, pv.ownBlock = some g → lv.ownBlock ≠ some g)
theorem Two.below {base : Nat} {pv lv : Value} {ps ls : List Nat} {w w' : World} (h : Two base pv lv ps ls w) (hb : Below w.heap.size w w') : Two base pv lv ps ls w' :=
  ⟨h.1.below hb (fun g hg => (h.1.lt g hg).2), h.2.1.below hb (fun g hg => (h.2.1.lt g hg).2), h.2.2⟩
theorem Two.left {base : Nat} {pv lv pv' : Value} {ps ls ps' : List Nat} {w w' : World} (h : Two base pv lv ps ls w) (ho : Own base pv' (ps'.map IC) w') (hg : w.grownBy w' pv.ownBlock) (hf : pv'.ownBlock = pv.ownBlock ∨ ∃ g, pv'.ownBlock = some g ∧ w.heap.size ≤ g) : Two base pv' lv ps' ls w' := by
  refine ⟨ho, h.2.1.grown hg (fun k hk e => h.2.2 k e.symm hk), fun g hg2 hl => ?_⟩
  rcases hf with hf | ⟨g', hf, hle⟩
  · exact h.2.2 g (by rw [← hf]; exact hg2) hl
  · have := (h.2.1.lt g hl).2
    rw [hf] at hg2
    obtain rfl := Option.some.inj hg2
    omega
theorem Two.right {base : Nat} {pv lv lv' : Value} {ps ls ls' : List Nat} {w w' : World} (h : Two base pv lv ps ls w) (ho : Own base lv' (ls'.map IC) w') (hg : w.grownBy w' lv.ownBlock) (hf : lv'.ownBlock = lv.ownBlock ∨ ∃ g, lv'.ownBlock = some g ∧ w.heap.size ≤ g) : Two base pv lv' ps ls' w' := by
  refine ⟨h.1.grown hg (fun k hk e => h.2.2 k hk e.symm), ho, fun g hg2 hl => ?_⟩
  rcases hf with hf | ⟨g', hf, hle⟩
  · exact h.2.2 g hg2 (by rw [← hf]; exact hl)
  · have := (h.1.lt g hg2).2
    rw [hf] at hl
    obtain rfl := Option.some.inj hl
    omega

def SomeRunes (s : List UInt8) (w : World) (e : Ending) (w' : World) : Prop :=
  ∃ pv lv, e = .returned (.tuple #[pv, lv]) ∧ Two w.heap.size pv lv (runesF s 0).1 (runesF s 0).2 w' ∧ Below w.heap.size w w'
set_option maxRecDepth 100000 in
set_option maxHeartbeats 4000000 in
theorem runes_any (s : List UInt8) (hs : s.length < 1000000000) (w : World) : Calls Try.prog 18 #[S s] w (SomeRunes s w) := by
  have hlenS := run_len_S (P := Try.prog) Try.underlying9 3 s
  go_enter Try.func18, Try.ntmps18
  go_wp2
  go_loopw [4, 5, 6] (fun pv lv av wr => ∃ p ps ls, p ≤ s.length ∧ av = .int .i64 (p : Nat) ∧ Two w.heap.size pv lv ps ls wr ∧ runesF s 0 = (ps ++ (runesF s p).1, ls ++ (runesF s p).2) ∧ ps.length ≤ p ∧ ls.length ≤ p ∧ Below w.heap.size w wr) (fun _ _ av _ => s.length - (intOf av).toNat)
  case atStart => exact ⟨0, [], [], Nat.zero_le _, rfl, ⟨.inl ⟨rfl, rfl⟩, .inl ⟨rfl, rfl⟩, fun g h => by cases h⟩, rfl, Nat.le_refl _, Nat.le_refl _, Below.refl _ _⟩
  case round =>
    obtain ⟨p, ps, ls, hp, rfl, hT, hr, hps, hls, hB⟩ := hrel
    have hsz := hB.size
    have HB := Lib.hid (And.intro hT hB)
    clear hT hB
    by_cases hlt : p < s.length
    · have h1 := one_le s p
      have hcall := one_any s p hp hs wr
      rw [show oneF shp (s.drop p) 0 = one s p from rfl] at hcall
      by_cases h0 : 0 < one s p
      · obtain ⟨n, hz⟩ : ∃ n : Nat, one s p = (n : Int) := ⟨(one s p).toNat, by omega⟩
        have hn0 : 0 < n := by omega
        rw [hz] at h1 hcall
        have hn4 : n ≤ 4 := by omega
        have hpn : p + n ≤ s.length := by omega
        have hd := runes_go hlt hz hn0
        obtain ⟨a, t, hat⟩ : ∃ a t, (s.drop p).take n = a :: t := by
          cases hx : (s.drop p).take n with
          | nil =>
            have := congrArg List.length hx
            rw [List.length_take, List.length_drop, List.length_nil] at this; omega
          | cons a t => exact ⟨a, t, rfl⟩
        have ht3 : t.length ≤ 3 := by
          have := congrArg List.length hat
          rw [List.length_take, List.length_cons] at this; omega
        have hsl : ∀ w, (Instr.slice 9 (S s) (some (.int .i64 (p : Int))) (some (.int .i64 ((p : Int) + (n : Int)))) none).run Try.prog w = .ok (S (a :: t)) w := fun w => by
          have := slice_mid (P := Try.prog) Try.underlying9 s p (p + n) (by omega) hpn w
          rw [Nat.add_sub_cancel_left, hat, show ((p + n : Nat) : Int) = (p : Int) + (n : Int) by omega] at this
          exact this
        have HR : Hid (runesF s 0 = ((ps ++ [p]) ++ (runesF s (p + n)).1, (ls ++ [runeN (a :: t)]) ++ (runesF s (p + n)).2)) := Lib.hid (by
          rw [hr, hd, hat]; simp)
        have hnp : decide ((n : Int) ≤ 0) = false := by rw [decide_eq_false_iff_not]; omega
        have HC := Lib.hid hcall
        clear hr hd hz hat hcall h0 h1
        go_wp2_with fail
        refine HC.out.mono ?_
        rintro e W2 ⟨rfl, B2⟩
        have hT2 := HB.out.1.below B2
        have hB2 := HB.out.2.trans (B2.mono hsz)
        have hsz2 := hB2.size
        have HB2 := Lib.hid (And.intro hT2 hB2)
        have hTo := hT2.1
        clear hT2 hB2 HB HC B2
        go_wp2_with (first
          | (at_builtin; refine wpList_add_num rfl 29 3 (.tmp 17) (.tmp 19) rfl Try.underlying29 elem3 w.heap.size W2 _ rfl ps hTo p _ rfl rfl rfl (by omega) hsz2 ?_; intro v3 W3 o3 g3 f3)
          | fail)
        have hT3 := HB2.out.1.left o3 g3 f3
        have hB3 : Below w.heap.size w W3 := below_own HB2.out.2 HB2.out.1.1 g3 (Nat.le_refl _) hsz2
        refine (rune_any a t ht3 W3).mono ?_
        rintro e W4 ⟨rfl, rfl⟩
        have hTo3 := hT3.2.1
        have hsz3 := hB3.size
        have HB3 := Lib.hid (And.intro hT3 hB3)
        clear hT3 hB3 HB2 o3 g3 f3 hTo
        go_wp2_with (first
          | (at_builtin; refine wpList_add_num rfl 29 3 (.tmp 21) (.tmp 29) rfl Try.underlying29 elem3 w.heap.size W3 _ rfl ls hTo3 (runeN (a :: t)) _ rfl rfl rfl (by omega) hsz3 ?_; intro v5 W5 o5 g5 f5)
          | fail)
        go_roundw
        case rel => exact ⟨p + n, ps ++ [p], ls ++ [runeN (a :: t)], hpn, by go_num, HB3.out.1.right o5 g5 f5, HR.out, by rw [List.length_append, List.length_singleton]; omega, by rw [List.length_append, List.length_singleton]; omega,
          below_own HB3.out.2 HB3.out.1.2.1 g5 (Nat.le_refl _) hsz3⟩
        case measure => simp [intOf]; omega
      · have hd := runes_stop (s := s) (p := p) (fun h => h0 h.2)
        have HR : Hid (runesF s 0 = (ps, ls)) := Lib.hid (by rw [hr, hd]; simp)
        have hge := one_ge s p
        have hle : one s p ≤ 0 := by omega
        have HC := Lib.hid hcall
        clear hr hd hcall h0 h1
        generalize one s p = z at *
        go_wp2_with fail
        refine HC.out.mono ?_
        rintro e W2 ⟨rfl, B2⟩
        go_wp2
        go_ret2
        refine ⟨_, _, rfl, ?_, HB.out.2.trans (B2.mono hsz)⟩
        rw [HR.out]
        exact HB.out.1.below B2
    · have hd := runes_stop (s := s) (p := p) (fun h => hlt h.1)
      have HR : Hid (runesF s 0 = (ps, ls)) := Lib.hid (by rw [hr, hd]; simp)
      clear hr hd
      go_wp2
      go_ret2
      refine ⟨_, _, rfl, ?_, HB.out.2⟩
      rw [HR.out]
      exact HB.out.1
end Go.Proofs.Ytmamklahnpmgjaa
