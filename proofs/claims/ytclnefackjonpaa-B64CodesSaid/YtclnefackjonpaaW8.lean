/- The walk of B64Joins. -/
import Derived.Test.YtclnefackjonpaaW7
namespace Go.Proofs.Ytclnefackjonpaa
open Go.RowKit
attribute [local go_sem] store_one B_match B_store

theorem B_eql (t : TypeId) (x y : UInt8) : binOp .eql t (B x) (B y) = pure (.bool (x == y)) := by
  have e : ((x.toNat : Int) == (y.toNat : Int)) = (x == y) := by
    rw [Bool.eq_iff_iff, beq_iff_eq, beq_iff_eq]
    exact ⟨fun h => UInt8.toNat_inj.1 (by omega), fun h => by rw [h]⟩
  simp [B, binOp, Op.intCmp]
  exact congrArg (fun b => (pure (Value.bool b) : Sem Value)) e
theorem eguard_B (t : TypeId) (a b : Operand) (x y : UInt8) : eqGuard .eql t a b (B x) (B y) = pure () := rfl
theorem run_take_slice (r : List UInt8) (m : Nat) (hm : m ≤ r.length) (w : World) : (Instr.slice 9 (S r) none (some (.int .i64 (m : Int))) none).run Try.prog w = .ok (S (r.take m)) w := by
  have h := run_take_S r m hm w
  rw [run_sliceAt_string w 9 _ _ _ _ Try.underlying9] at h
  exact h
theorem set_ne (x : List UInt8) (i : Nat) (c ch : UInt8) (hx : x[i]? = some ch) (h : ch ≠ c) : x.set i c ≠ x := by
  intro e
  have hi := (List.getElem?_eq_some_iff.1 hx).1
  have : (x.set i c)[i]? = some c := by rw [List.getElem?_set_self hi]
  rw [e, hx] at this
  exact h (Option.some.inj this)
theorem own_set {w : World} {base g cap : Nat} {x : List UInt8} (h : Own base (.slice (some ⟨g, 0, none⟩) x.length cap) (x.map B) w) (i : Nat) (c : UInt8) (hi : i < x.length) :
    Own base (.slice (some ⟨g, 0, none⟩) x.length cap) ((x.set i c).map B) (w.setCell ⟨g, i, none⟩ (B c)) ∧ w.cell? ⟨g, i, none⟩ = some (B (x[i]?.getD 0)) ∧ w.frozen? ⟨g, i, none⟩ = false := by
  rcases h with ⟨h, _⟩ | ⟨g', cap', he, h1, h2, h3, h4, h5, h6⟩
  · cases h
  · simp only [Value.slice.injEq, Option.some.injEq, Addr.mk.injEq] at he
    obtain ⟨⟨rfl, _⟩, _, rfl⟩ := he
    rw [List.length_map] at h3
    have hc := h5 i (B (x[i]?.getD 0)) (by rw [List.getElem?_map, List.getElem?_eq_getElem hi]; rfl)
    rw [Nat.zero_add] at hc
    have hf := (h6 i (by omega)).2
    rw [Nat.zero_add] at hf
    refine ⟨.inr ⟨g, cap, by rw [List.length_map, List.length_set], h1, by simpa [World.setCell] using h2, by rw [List.length_map, List.length_set]; exact h3, h4, fun j u hu => ?_, fun j hj => ?_⟩, hc, hf⟩
    · rw [Nat.zero_add]
      by_cases hj : i = j
      · subst hj
        rw [List.getElem?_map, List.getElem?_set_self hi] at hu
        obtain rfl := Option.some.inj hu
        exact World.cell?_setCell_same _ _ _ hc
      · rw [World.cell?_setCell_other (h := show (⟨g, i, none⟩ : Addr) ≠ ⟨g, j, none⟩ by intro h; simp only [Addr.mk.injEq] at h; omega)]
        rw [List.getElem?_map, List.getElem?_set_ne hj, ← List.getElem?_map] at hu
        have := h5 j u hu
        rwa [Nat.zero_add] at this
    · obtain ⟨hc2, hf2⟩ := h6 j hj
      refine ⟨?_, by simpa using hf2⟩
      obtain ⟨u0, hu0⟩ := Option.isSome_iff_exists.1 hc2
      obtain ⟨v', hv'⟩ := cell?_setCell_some (p := ⟨g, i, none⟩) (x := B c) hu0
      rw [hv']; rfl

set_option maxRecDepth 100000 in
set_option maxHeartbeats 4000000 in
theorem joins_any (s0 t : List UInt8) (a : Nat) (c : UInt8) (ha : a < 65536) (w : World) : Calls Try.prog 6 #[S s0, S t, .int .u16 (a : Int), B c] w fun e w' => e = .returned (.bool true) ∧ Below w.heap.size w w' := by
  have hlenS := run_len_S 3
  have k0 : Value.string ⟨#[]⟩ = S [] := rfl
  have hgd := guard_S
  have hng := nguard_S
  have hgB := eguard_B 5
  go_enter Try.func6, Try.ntmps6
  go_wp2_with fail
  refine (awake_any w).mono ?_
  rintro e W1 ⟨rfl, C1⟩
  by_cases h1 : 3000 < s0.length
  · have hb1 : decide (3000 < (s0.length : Int)) = true := by simp; omega
    go_wp2
    go_ret
    exact ⟨rfl, C1⟩
  have hb1 : decide (3000 < (s0.length : Int)) = false := by simp; omega
  by_cases h2 : 3000 < t.length
  · have hb2 : decide (3000 < (t.length : Int)) = true := by simp; omega
    go_wp2
    go_ret
    exact ⟨rfl, C1⟩
  have hb2 : decide (3000 < (t.length : Int)) = false := by simp; omega
  obtain ⟨m, hm⟩ : ∃ m, m = s0.length / 3 * 3 := ⟨_, rfl⟩
  have hmI : (s0.length : Int) / 3 * 3 = (m : Int) := by omega
  have hsl := run_take_slice s0 m (by omega)
  obtain ⟨s, hs⟩ : ∃ s, s = s0.take m := ⟨_, rfl⟩
  have hsn : s.length = m := by rw [hs, List.length_take]; omega
  have hs3 : s.length % 3 = 0 := by omega
  have hsm : s.length ≤ 3000 := by omega
  rw [← hs] at hsl
  have happ := Lib.hid (enc_append s t hs3)
  clear hs hsn hm hs3
  have hadd := S_add 9 s t (by omega)
  have hel1 := enc_length s
  have hel2 := enc_length t
  have hadd2 := S_add 9 (enc s) (enc t) (by omega)
  rw [← happ.out] at hadd2
  clear hel1 hel2
  have hstl : (s ++ t).length ≤ 6000 := by rw [List.length_append]; omega
  have hbk := Lib.hid (back (s ++ t))
  obtain ⟨u, hu⟩ : ∃ u, u = s ++ t := ⟨_, rfl⟩
  rw [← hu] at hadd hadd2 hstl hbk
  have hxl := enc_length u
  have hxl2 : (enc u).length ≤ 10000 := by omega
  clear hxl hu happ
  have hneq := neql_S 9 (enc u) (enc u)
  rw [bne_self_eq_false] at hneq
  go_wp2_with fail
  refine (encode_any u (by omega) W1).mono ?_
  rintro e W2 ⟨rfl, B2⟩
  have C2 := C1.trans (B2.mono C1.size)
  clear B2 C1
  go_wp2_with fail
  refine (encode_any s (by omega) W2).mono ?_
  rintro e W3 ⟨rfl, B3⟩
  have C3 := C2.trans (B3.mono C2.size)
  clear B3 C2
  go_wp2_with fail
  refine (encode_any t (by omega) W3).mono ?_
  rintro e W4 ⟨rfl, B4⟩
  have C4 := C3.trans (B4.mono C3.size)
  clear B4 C3
  have hdx : ∀ y, dec y = some u → enc u = y := fun y h => forth y u h
  have HDX := Lib.hid hdx
  clear hdx
  generalize enc u = x at *
  by_cases hx0 : x.length = 0
  · have hb0 : (((x.length : Nat) : Int) == 0) = true := by simp; exact List.eq_nil_of_length_eq_zero hx0
    go_wp2
    go_ret
    exact ⟨rfl, C4⟩
  have hb0 : (((x.length : Nat) : Int) == 0) = false := by simp; exact fun e => hx0 (by rw [e]; rfl)
  obtain ⟨i, hi⟩ : ∃ i, i = a % x.length := ⟨_, rfl⟩
  have hil : i < x.length := by rw [hi]; exact Nat.mod_lt _ (by omega)
  have hmod : (a : Int) % (x.length : Int) = (i : Int) := by rw [hi]; simp
  obtain ⟨ch, hch⟩ : ∃ ch, x[i]? = some ch := ⟨x[i], List.getElem?_eq_getElem hil⟩
  have hidx : ∀ w, (Instr.index 9 (S x) (.int .i64 (i : Int))).run Try.prog w = .ok (B ch) w := fun w => index_text ⟨x.toArray⟩ x rfl i ch hch w
  have hHI := Lib.hid hi
  clear hi
  have heqB := B_eql 5 ch c
  by_cases hcc : ch = c
  · have hcb : (ch == c) = true := by rw [hcc]; exact beq_self_eq_true c
    rw [hcb] at heqB
    clear hcc hcb hch
    go_wp2
    go_ret
    exact ⟨rfl, C4⟩
  have hcb : (ch == c) = false := by rw [beq_eq_false_iff_ne]; exact hcc
  rw [hcb] at heqB
  have hcv := run_bytes x W4
  have hown := own_bytes (w := W4) x (by omega)
  have hC5 : Below w.heap.size w (Lib.bytesWorld W4 5 ⟨x.toArray⟩) := C4.trans ⟨rfl, rfl, rfl, by rw [Lib.bytesWorld_size]; omega, fun k hk => Lib.bytesWorld_at_old W4 5 _ k (by have := C4.size; omega)⟩
  obtain ⟨hos, hcell, hfrz⟩ := own_set hown i c hil
  have hC6 : Below w.heap.size w ((Lib.bytesWorld W4 5 ⟨x.toArray⟩).setCell ⟨W4.heap.size, i, none⟩ (B c)) := hC5.setCell C4.size _
  have hne := set_ne x i c ch hch hcc
  have hxs : (x.set i c).length ≤ 10000 := by rw [List.length_set]; exact hxl2
  have htext := own_text hos
  have hstore := B_store Try.prog (Lib.bytesWorld W4 5 ⟨x.toArray⟩) ⟨W4.heap.size, i, none⟩ c
  obtain ⟨z, hz⟩ : ∃ z, z = x.set i c := ⟨_, rfl⟩
  rw [← hz] at hne hxs htext
  generalize grownCap W4 x.length 0 5 = cp at *
  have H1 := Lib.hid hC6
  clear hC6 hC5 hos hown hcc hcb hch hx0 hz
  generalize Lib.bytesWorld W4 5 ⟨x.toArray⟩ = W5 at *
  go_wp2_with fail
  refine (decode_any z (by omega) _).mono ?_
  rintro e W6 ⟨rfl, B6⟩
  have C6 := H1.out.trans (B6.mono H1.out.size)
  clear B6 htext hstore hcv hcell hfrz
  cases hd : dec z with
  | none =>
    rw [ans_none]
    have he := eql_S 9 [] []
    rw [beq_self_eq_true] at he
    clear hd
    go_wp2
    go_ret
    exact ⟨rfl, C6⟩
  | some y =>
    rw [ans_some]
    have hyu : y ≠ u := fun e => hne (HDX.out z (by rw [hd, e])).symm
    have hn2 := neql_S 9 y u
    rw [show (y != u) = true from bne_iff_ne.2 hyu] at hn2
    clear hd hyu
    go_wp2
    go_ret
    exact ⟨rfl, C6⟩
end Go.Proofs.Ytclnefackjonpaa
