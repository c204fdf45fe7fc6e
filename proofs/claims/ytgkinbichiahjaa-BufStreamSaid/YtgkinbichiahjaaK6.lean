/- Find walked. -/
import Derived.Test.YtgkinbichiahjaaK5
import Derived.Test.YtgkinbichiahjaaShelf
namespace Go.Proofs.Ytgkinbichiahjaa
open Go.RowKit
attribute [local go_sem] store_one S_match S_store

theorem occ_iff (x s : List UInt8) (i : Nat) : Lib.occAt x s i = true ↔ (x.drop i).take s.length = s := by
  unfold Lib.occAt
  rw [List.isPrefixOf_iff_prefix, List.prefix_iff_eq_take]
  exact eq_comm
theorem findF_index (x s : List UInt8) : ∀ (n i : Nat), x.length + 1 - i = n → i ≤ x.length + 1 → Lib.NoOcc x s i → findF x s i = Lib.index x s := by
  intro n
  induction n with
  | zero =>
    intro i hn hi hno
    have h0 := hno 0 (by omega)
    rw [findF, if_neg (by omega)]
    cases s with
    | nil => simp [Lib.occAt] at h0
    | cons c t => exact (Lib.index_past (by simp) hno (by simp only [List.length_cons]; omega)).symm
  | succ n ih =>
    intro i hn hi hno
    rw [findF]
    by_cases h : i + s.length ≤ x.length
    · rw [if_pos h]
      by_cases he : (x.drop i).take s.length = s
      · rw [if_pos he]
        exact (Lib.index_hit hno (by omega) ((occ_iff x s i).2 he)).symm
      · rw [if_neg he]
        refine ih (i + 1) (by omega) (by omega) (hno.succ ?_)
        rw [Bool.eq_false_iff]
        exact fun ho => he ((occ_iff x s i).1 ho)
    · rw [if_neg h]
      by_cases hs : s = []
      · subst hs
        have h0 := hno 0 (by simp at h; omega)
        simp [Lib.occAt] at h0
      · exact (Lib.index_past hs hno (by omega)).symm
theorem findF_zero (x s : List UInt8) : findF x s 0 = Lib.index x s := findF_index x s _ 0 rfl (by omega) (Lib.NoOcc.zero x s)

/-- The longest text that the search takes as it likes. -/
def MaxAt (w : World) : Prop := ∃ m, w.cell? ⟨0, 0, none⟩ = some (.int .i64 m)
theorem MaxAt.below {w w' : World} {b : Nat} (h : MaxAt w) (hb : Below b w w') (h0 : 0 < b) : MaxAt w' := by
  obtain ⟨m, hm⟩ := h
  exact ⟨m, by rw [hb.cell (p := ⟨0, 0, none⟩) h0]; exact hm⟩
theorem MaxAt.pos {w : World} (h : MaxAt w) : 0 < w.heap.size := by
  obtain ⟨m, hm⟩ := h
  exact World.block_lt_of_cell? w _ hm
theorem WaitV.below {w w' : World} {V : Value} {x : List UInt8} (h : WaitV w V x) (hb : Below w.heap.size w w') : WaitV w' V x := by
  obtain ⟨a, c, hV, hc, hn, hcell⟩ := h
  refine ⟨a, c, hV, hc, hn, fun i hi => ?_⟩
  obtain ⟨k, o, ha, hcl⟩ := hcell i hi
  exact ⟨k, o, ha, by rw [hb.cell (World.block_lt_of_cell? w _ hcl)]; exact hcl⟩
theorem num_bytes (x : List UInt8) : Lib.bytesOf (x.map fun b => (b.toNat : Int)) = x := by
  simp [Lib.bytesOf, Function.comp_def]
theorem num_range (x : List UInt8) : ∀ n ∈ x.map (fun b => (b.toNat : Int)), 0 ≤ n ∧ n < 256 := by
  intro n hn
  obtain ⟨b, _, rfl⟩ := List.mem_map.1 hn
  have := b.toNat_lt
  omega
theorem num_get (x : List UInt8) (i : Nat) (h : i < x.length) : Value.int .u8 ((x.map fun b => (b.toNat : Int)).getD i 0) = B x[i] := by
  rw [List.getD_eq_getElem?_getD, List.getElem?_map, List.getElem?_eq_getElem h]; rfl

theorem index_any (V : Value) (x s : List UInt8) (W : World) (k2 c2 : Nat) (hV : WaitV W V x) (h2 : ∀ i (h : i < s.length), W.cell? ⟨k2, i, none⟩ = some (B s[i])) (hx : x.length < 4294967281) (hs : s.length ≤ 9223372036854775807) (hm : MaxAt W) :
    Calls Try.prog 21 #[V, .slice (some ⟨k2, 0, none⟩) s.length c2] W fun e w' => e = .returned (.int .i64 (findF x s 0)) ∧ Drawn W w' := by
  obtain ⟨a, c, rfl, hc, hn, hcell⟩ := hV
  obtain ⟨m, hm⟩ := hm
  rw [findF_zero]
  cases a with
  | none =>
    obtain rfl := hn rfl
    have h0 : x = [] := List.length_eq_zero_iff.1 (by omega)
    subst h0
    refine (Try.bytes_Index_nil (some ⟨k2, 0, none⟩) s.length c2 W hs (fun h1 => ⟨k2, 0, _, rfl, h2 0 (by omega)⟩)).mono ?_
    rintro e w' ⟨rfl, rfl⟩
    refine ⟨?_, Drawn.refl _⟩
    cases s <;> rfl
  | some a =>
    have := Try.bytes_Index_at a ⟨k2, 0, none⟩ x.length c s.length c2 (x.map fun b => (b.toNat : Int)) (s.map fun b => (b.toNat : Int)) m W (by simp) (by simp) (num_range x) (num_range s)
      (fun i hi => by
        obtain ⟨k, o, ha, hcl⟩ := hcell i hi
        cases ha
        rw [Addr.add_mid, num_get x i hi]; exact hcl)
      (fun i hi => by rw [Addr.add_mid, Nat.zero_add, num_get s i hi]; exact h2 i hi) hc hx hs hm
    rw [num_bytes, num_bytes] at this
    exact this

theorem BufAt.below {w w' : World} {g : Nat} {A : Nat → Prop} {mk : Bool} {m : Nat} {x : List UInt8} (h : BufAt w g A mk m x) (hb : Below w.heap.size w w') : BufAt w' g A mk m x := by
  obtain ⟨⟨v, pre, hl, ha, hp⟩, h1, h2, h3⟩ := h
  refine ⟨⟨v, pre, ⟨hl.1.below hb hl.1.lt, ?_⟩, ha, hp⟩, h1, h2, fun k hk => Nat.lt_of_lt_of_le (h3 k hk) hb.size⟩
  exact hl.2.kept (row := none) ⟨hb.os, hb.tape, hb.output, hb.size, fun k hk _ => hb.block k hk⟩ (by cases v.ownBlock <;> simp)
theorem Spare.of_below {g : Nat} {A : Nat → Prop} {w w' : World} (h : Below w.heap.size w w') (old : ∀ k, A k → k < w.heap.size) : Spare g A w w' :=
  ⟨h.os, h.tape, h.output, h.size, fun k hk _ => h.block k (old k hk)⟩

set_option maxRecDepth 100000 in
set_option maxHeartbeats 1000000 in
theorem find_any (g : Nat) (A : Nat → Prop) (m : Nat) (x s : List UInt8) (w : World) (h : BufAt w g A true m x) (hs : s.length < 1000000000000) (hm : MaxAt w) :
    Calls Try.prog 10 #[.pointer (some ⟨g, 0, none⟩), S s] w fun e w' => e = .returned (.int .i64 (findF x s 0)) ∧ Below w.heap.size w w' := by
  have c0 := h.made
  have hcv := fun W => run_bytes (P := Try.prog) Try.underlying9 Try.underlying38 Try.underlying5 s W
  go_enter Try.func10, Try.ntmps10
  go_wp2_with fail
  refine (waiting_any g A true m x w h).mono ?_
  rintro e W1 ⟨V, rfl, hV, hD⟩
  have HW := Lib.hid (And.intro hV (And.intro hD h))
  clear hV hD
  go_wp2_with fail
  have hb1 : Below W1.heap.size W1 (Lib.bytesWorld W1 5 ⟨s.toArray⟩) := ⟨rfl, rfl, rfl, by rw [Lib.bytesWorld_size]; omega, fun k hk => Lib.bytesWorld_at_old W1 5 _ k hk⟩
  have hb0 := HW.out.2.1.below
  have hsz : W1.heap.size = w.heap.size := by rw [HW.out.2.1.heap]
  have hown := own_bytes (w := W1) (e := 5) s hs
  have hcell : ∀ i (h : i < s.length), (Lib.bytesWorld W1 5 ⟨s.toArray⟩).cell? ⟨W1.heap.size, i, none⟩ = some (B s[i]) := fun i hi => by
    rcases hown with ⟨h, _⟩ | ⟨g', c', he, _, _, _, _, hc, _⟩
    · cases h
    · simp only [Value.slice.injEq, Option.some.injEq, Addr.mk.injEq] at he
      obtain ⟨⟨rfl, _⟩, _⟩ := he
      have := hc i (B s[i]) (by rw [List.getElem?_map, List.getElem?_eq_getElem hi]; rfl)
      rwa [Nat.zero_add] at this
  refine (index_any V x s _ _ _ ((HW.out.1.below hb0).below hb1) hcell (by have := HW.out.2.2.fits; have := HW.out.2.2.most; omega) (by omega) ((hm.below hb0 hm.pos).below hb1 (by rw [hsz]; exact hm.pos))).mono ?_
  rintro e W2 ⟨rfl, hD2⟩
  have HB : Hid (Below w.heap.size w W2) := Lib.hid ((hb0.trans (by rw [hsz] at hb1; exact hb1)).trans (hD2.below.mono (by rw [Lib.bytesWorld_size]; omega)))
  clear hb0 hb1 hcell hown hD2
  go_wp2
  go_ret
  exact ⟨rfl, HB.out⟩

set_option maxRecDepth 100000 in
set_option maxHeartbeats 400000 in
theorem find_bare (g : Nat) (A : Nat → Prop) (m : Nat) (x s : List UInt8) (w : World) (h : BufAt w g A false m x) :
    Calls Try.prog 10 #[.pointer (some ⟨g, 0, none⟩), S s] w fun e w' => e = .returned (.int .i64 (-1)) ∧ w' = w := by
  have c0 := h.made
  go_enter Try.func10, Try.ntmps10
  go_wp2
  go_ret
  exact ⟨rfl, rfl⟩
end Go.Proofs.Ytgkinbichiahjaa
