/- The walk of Decode. -/
import Derived.Test.YtnaekjmlikhglaaDoorNbW4
namespace Go.Proofs.YtnaekjmlikhglaaDoor.bb
open Go.RowKit
attribute [local go_sem] store_one B_match B_store

/-- A slice with something in it doesn't lie where a string's iterator does. -/
theorem own_iter {w : World} {base : Nat} {v : Value} {xs : List Value} {K : Nat} {s : ByteArray} {p : Nat} (h : Own base v xs w) (hx : xs ≠ []) (hk : w.heap[K]? = some (.stringIter s p)) : v.ownBlock ≠ some K := by
  obtain ⟨g, cap, rfl, _, _, hc⟩ := h.form hx
  intro e
  obtain rfl : g = K := Option.some.inj e
  cases xs with
  | nil => exact hx rfl
  | cons y r =>
    have := hc 0 y rfl
    rw [World.cell?, Nat.zero_add] at this
    simp only [hk] at this
    cases this

/-- What the next rune of a text comes to. -/
theorem next_rune (w : World) (K : Nat) (L : List UInt8) (k : Nat) (c : UInt8) (hk : w.heap[K]? = some (.stringIter ⟨L.toArray⟩ k)) (hc : L[k]? = some c) :
    ∃ r wd : Nat, (∀ ty, (Instr.next (.pointer (some ⟨K, 0, none⟩)) true ty).run Tryd.prog w = .ok (.tuple #[.bool true, .int .i64 (k : Int), .int .i32 (r : Int)]) (w.iterAt K ⟨L.toArray⟩ (k + wd))) ∧
      r ≤ 1114111 ∧ numI r = (match numO c with | some x => (x : Int) | none => -1) ∧ (numO c ≠ none → wd = 1) := by
  obtain ⟨hlt, hcc⟩ := List.getElem?_eq_some_iff.1 hc
  have hs : k < (⟨L.toArray⟩ : ByteArray).size := by rw [S_size]; exact hlt
  have hb : ((⟨L.toArray⟩ : ByteArray)[k]'hs) = c := by rw [← hcc]; rfl
  by_cases h : c.toNat < 128
  · refine ⟨c.toNat, 1, fun ty => ?_, by omega, ?_, fun _ => rfl⟩
    · have := Lib.run_next_ascii_at (P := Tryd.prog) w K ⟨L.toArray⟩ k ty hk hs (by rw [hb]; exact h)
      rw [hb] at this; exact this
    · rw [numI, if_pos h]
      have e : UInt8.ofNat c.toNat = c := by simp
      rw [e]
      cases numO c <;> rfl
  · have hg : ((⟨L.toArray⟩ : ByteArray).get! k) = c := by
      rw [← hb]
      show L.toArray[k]! = L.toArray[k]
      rw [getElem!_pos]
    obtain ⟨h1, h2⟩ := decode_ge ⟨L.toArray⟩ k (by rw [hg]; omega)
    refine ⟨(Utf8.decode ⟨L.toArray⟩ k).1, (Utf8.decode ⟨L.toArray⟩ k).2, fun ty => Lib.run_next_any_at (P := Tryd.prog) w K ⟨L.toArray⟩ k ty hk hs, h2, ?_, fun hn => ?_⟩
    · have hno : numO c = none := by
        cases hx : numO c with
        | none => rfl
        | some x =>
          obtain ⟨l0, e0⟩ := num_some hx
          have := alpha_ascii (ltr x) (by
            have := List.mem_of_getElem? (alpha_get ⟨x, l0⟩)
            exact this)
          rw [e0] at this; omega
      rw [numI, if_neg (by omega), hno]
    · exfalso
      apply hn
      cases hx : numO c with
      | none => rfl
      | some x =>
        obtain ⟨l0, e0⟩ := num_some hx
        have := alpha_ascii (ltr x) (List.mem_of_getElem? (alpha_get ⟨x, l0⟩))
        rw [e0] at this; omega

theorem convN (n : Nat) (w : World) : (convert 3 5 (.int .i64 (n : Int))).run Tryd.prog w = .ok (B (UInt8.ofNat n)) w := by
  have h1 := Tryd.underlying5
  have h2 := Tryd.underlying3
  have e : IntKind.u8.wrap (n : Int) = ((UInt8.ofNat n).toNat : Int) := by rw [IntKind.wrap_u8, UInt8.toNat_ofNat']; omega
  simp [convert, B, run_underlying h1, run_underlying h2, e, go_sem]

attribute [local go_sem] convN
theorem or_bits (b x : Nat) (hb : b < 64) (hx : x < 64) : bits .or .i64 ((b : Int) * 64) (x : Int) = ((b * 64 + x : Nat) : Int) := by
  rw [i64_or6 _ _ (by omega) (by omega) (by omega) (by omega) (by omega)]; omega
theorem and_bits0 (X : Nat) (h : X < 4096) : bits .and .i64 (X : Int) 0 = 0 := by
  have := bits_mask .i64 62 (by decide) wraps_i64 0 (by decide) (X : Int) (by omega) (by omega)
  simpa using this
theorem and_bits2 (X : Nat) (h : X < 4096) : bits .and .i64 (X : Int) 3 = ((X % 4 : Nat) : Int) := by
  have := bits_mask .i64 62 (by decide) wraps_i64 2 (by decide) (X : Int) (by omega) (by omega)
  simpa using this
theorem and_bits4 (X : Nat) (h : X < 4096) : bits .and .i64 (X : Int) 15 = ((X % 16 : Nat) : Int) := by
  have := bits_mask .i64 62 (by decide) wraps_i64 4 (by decide) (X : Int) (by omega) (by omega)
  simpa using this

theorem byte_cell1 (q : Nat) : (#[Value.int .u8 ((q : Int) % 256)] : Array Value) = #[B (UInt8.ofNat q)] := by
  have e : ((UInt8.ofNat q).toNat : Int) = (q : Int) % 256 := by rw [UInt8.toNat_ofNat']; omega
  rw [B, e]
theorem byte_cell2 (q : Nat) (h : q < 256) : (#[Value.int .u8 (q : Int)] : Array Value) = #[B (UInt8.ofNat q)] := by
  have e : ((UInt8.ofNat q).toNat : Int) = (q : Int) := by rw [UInt8.toNat_ofNat']; omega
  rw [B, e]

/-- What holds while letters are read. -/
def Reading (w : World) (L : List UInt8) (K : Nat) (k : Nat) (v : Value) (b n : Nat) (out : List UInt8) (wr : World) : Prop :=
  k ≤ L.length ∧ runs (L.take k) = some (b, n, out) ∧ Good k (b, n, out) ∧ Own w.heap.size v (out.map B) wr ∧ v.ownBlock ≠ some K ∧ wr.heap[K]? = some (.stringIter ⟨L.toArray⟩ k) ∧ Below w.heap.size w wr ∧ w.heap.size ≤ K

theorem iter_pos {W : World} {K : Nat} {s : ByteArray} {p : Nat} (h : W.heap[K]? = some (.stringIter s p)) : W.iterPos K = p := by
  simp only [World.iterPos, h]
theorem Reading.mk {w : World} {L : List UInt8} {K k : Nat} {v : Value} {b n : Nat} {out : List UInt8} {wr : World} {st : St} (h1 : k ≤ L.length) (h2 : runs (L.take k) = some st) (h3 : Good k st) (e : st = (b, n, out))
    (h4 : Own w.heap.size v (out.map B) wr) (h5 : v.ownBlock ≠ some K) (h6 : wr.heap[K]? = some (.stringIter ⟨L.toArray⟩ k)) (h7 : Below w.heap.size w wr) (h8 : w.heap.size ≤ K) : Reading w L K k v b n out wr := by
  subst e; exact ⟨h1, h2, h3, h4, h5, h6, h7, h8⟩


set_option maxRecDepth 100000 in
set_option maxHeartbeats 2000000 in
theorem decode_any (t : List UInt8) (ht : t.length < 1000000000) (w : World) : Calls Tryd.prog 48 #[S t] w fun e w' => e = .returned (ans (dec t)) ∧ Below w.heap.size w w' := by
  have hlenS := run_len_S 3 t
  by_cases hm : t.length % 4 = 0
  · have hmI : ((((t.length : Nat) : Int) % 4) != 0) = false := by simp; omega
    have HM := Lib.hid hm
    clear hm
    go_enter Tryd.func48, Tryd.ntmps48
    obtain ⟨c, hc⟩ : ∃ c : Nat, c = t.length / 4 * 3 := ⟨_, rfl⟩
    have hce : ((t.length : Int) / 4 * 3) = (c : Int) := by omega
    have hcl : c < 1000000000000 := by omega
    clear hc
    go_wp2_with (first
      | (refine wpList_make_bytes rfl (.tmp 17) (by with_reducible rfl) c rfl hcl w.heap.size (Nat.le_refl _) ?_; intro v1 W1 o1 g1)
      | fail)
    refine (without_any t ht W1).mono ?_
    rintro e W2 ⟨rfl, rfl⟩
    have HL := Lib.hid (strip_le t)
    have HD : Hid (dec t = fin (runs (strip t))) := Lib.hid (by rw [dec, if_pos HM.out])
    have hsz := g1.size
    have hKown : v1.ownBlock ≠ some W1.heap.size := fun e => by have := (o1.lt _ e).2; omega
    have hB1 : Below w.heap.size w W1 := below_grown (Below.refl _ _) g1 (fun _ h => by cases h) (Nat.le_refl _)
    generalize strip t = L at *
    have hI : Reading w L W1.heap.size 0 v1 0 0 [] (W1.iter ⟨L.toArray⟩ 0) :=
      ⟨Nat.zero_le _, by rw [List.take_zero]; rfl, ⟨.inl rfl, by decide, Nat.le_refl _⟩, o1.alloc _, hKown, World.iter_heap _ _ _, hB1.alloc hsz _, hsz⟩
    have HI := Lib.hid hI
    clear hI o1 g1 hB1
    have hS : S L = .string ⟨L.toArray⟩ := rfl
    rw [hS]
    go_wp2
    generalize W1.heap.size = K at *
    go_loopw [4, 5, 6] (fun vv bv nv wr => ∃ k b n out, bv = .int .i64 (b : Nat) ∧ nv = .int .i64 (n : Nat) ∧ Reading w L K k vv b n out wr) (fun _ _ _ wr => L.length - wr.iterPos K)
    case atStart => exact ⟨0, 0, 0, [], rfl, rfl, HI.out⟩
    case round =>
      obtain ⟨k, b, n, out, rfl, rfl, hR⟩ := hrel
      have HR := Lib.hid hR
      obtain ⟨hk, hruns, hgood, hown, hne, hit, hbel, hKb⟩ := hR
      by_cases hlt : k < L.length
      · obtain ⟨c1, hc1⟩ : ∃ c1, L[k]? = some c1 := ⟨L[k], List.getElem?_eq_getElem hlt⟩
        obtain ⟨r, wd, hnx, hr, hnum, hwd⟩ := next_rune wr K L k c1 hit hc1
        cases hx : numO c1 with
        | none =>
          rw [hx] at hnum
          have hnum2 : numI r = -1 := hnum
          have HF : Hid (dec t = none) := Lib.hid (by rw [HD.out, runs_bad L k c1 hc1 hx]; rfl)
          have HB := Lib.hid (Lib.below_iterAt hbel hKb ⟨L.toArray⟩ (k + wd))
          clear hnum hwd hx hc1 hit hne hruns hgood
          go_wp2_with (first
            | (go_at_call 59; refine (rune_any r hr _).mono ?_; rintro e W3 ⟨rfl, B3⟩; rw [hnum2])
            | fail)
          go_ret2
          exact ⟨by rw [HF.out]; rfl, HB.out.trans (B3.mono HB.out.size)⟩
        | some x =>
          rw [hx] at hnum
          have hnum2 : numI r = (x : Int) := hnum
          obtain rfl : wd = 1 := hwd (by rw [hx]; exact fun h => by cases h)
          obtain ⟨hx64, _⟩ := num_some hx
          have HB := Lib.hid (Lib.below_iterAt hbel hKb ⟨L.toArray⟩ (k + 1))
          have HIT := Lib.hid (Lib.iterAt_heap wr K ⟨L.toArray⟩ k (k + 1) hit)
          have HSN : Hid (runs (L.take (k + 1)) = some (step1 b n out x)) := Lib.hid (by
            rw [List.take_add_one, hc1, Option.toList_some, runs_snoc, hruns, step_good _ _ _ _ _ hx])
          have HG := Lib.hid (good_step hgood x hx64)
          obtain ⟨g1, g2, g3⟩ := hgood
          simp only at g1 g2 g3
          have hOW : Own w.heap.size u4 (out.map B) (wr.iterAt K ⟨L.toArray⟩ (k + 1)) :=
            hown.of_block (by rw [Lib.iterAt_size]; exact Nat.le_refl _) (fun g hg => Lib.iterAt_other wr K g ⟨L.toArray⟩ (k + 1) (fun e => hne (by rw [hg, e])))
          have HO := Lib.hid hOW
          have HNE := Lib.hid hne
          clear hnum hwd hx hc1 hit hne hruns hown hbel
          have hor := or_bits b x (by rcases g1 with rfl | rfl | rfl | rfl <;> simp at g2 <;> omega) hx64
          rcases g1 with rfl | rfl | rfl | rfl
          · rw [show (((0 : Nat) : Int)) = 0 from rfl]
            go_wp2_with (first
              | (go_at_call 59; refine (rune_any r hr _).mono ?_; rintro e W3 ⟨rfl, B3⟩; rw [hnum2])
              | fail)
            have hI3 : W3.heap[K]? = some (.stringIter ⟨L.toArray⟩ (k + 1)) := (B3.block K (Array.getElem?_eq_some_iff.1 HIT.out).1).trans HIT.out
            refine ⟨⟨k + 1, b * 64 + x, 6, out, by push_cast; rfl, rfl, Reading.mk hlt HSN.out HG.out rfl (HO.out.below B3 (fun g hg => (HO.out.lt g hg).2)) HNE.out hI3 (HB.out.trans (B3.mono HB.out.size)) hKb⟩, ?_⟩
            have hi0 : wr.iterPos K = k := by
              have := HR.out
              exact iter_pos this.2.2.2.2.2.1
            rw [iter_pos hI3, hi0]
            omega
          · rw [show ((((2 : Nat)) : Int)) = 2 from rfl]
            have hX : b * 64 + x < 4096 := by simp at g2; omega
            have hE : Hid (step1 b 2 out x = (0, 0, out ++ [UInt8.ofNat (b * 64 + x)])) := Lib.hid (by simp [step1]; omega)
            generalize b * 64 + x = X at *
            have hand := and_bits0 X hX
            obtain ⟨q, hq⟩ : ∃ q, q = X := ⟨_, rfl⟩
            subst hq
            go_wp2_with (first
              | (go_at_call 59; refine (rune_any r hr _).mono ?_; rintro e W3 ⟨rfl, B3⟩; rw [hnum2]; have hO3 := HO.out.below B3 (fun g hg => (HO.out.lt g hg).2))
              | (at_builtin; refine wpList_add_byte rfl (.tmp 39) (.tmp 44) rfl w.heap.size W3 _ rfl out hO3 (UInt8.ofNat q) _ (by first | rfl | exact byte_cell1 q | exact byte_cell2 q (by omega)) rfl rfl (by have := HL.out; omega) (Nat.le_trans HB.out.size B3.size) ?_; intro v4 W4 o4 g4)
              | fail)
            have hI3 : W3.heap[K]? = some (.stringIter ⟨L.toArray⟩ (k + 1)) := (B3.block K (Array.getElem?_eq_some_iff.1 HIT.out).1).trans HIT.out
            have hI4 : W4.heap[K]? = some (.stringIter ⟨L.toArray⟩ (k + 1)) := (g4.block K (Array.getElem?_eq_some_iff.1 hI3).1 (fun h => HNE.out h.symm)).trans hI3
            refine ⟨⟨k + 1, 0, 0, out ++ [UInt8.ofNat q], rfl, rfl, Reading.mk hlt HSN.out HG.out hE.out o4 (own_iter o4 (by simp) hI4) hI4 (below_own (HB.out.trans (B3.mono HB.out.size)) hO3 g4 (Nat.le_refl _) (Nat.le_trans HB.out.size B3.size)) hKb⟩, ?_⟩
            have hi0 : wr.iterPos K = k := by
              have := HR.out
              exact iter_pos this.2.2.2.2.2.1
            rw [iter_pos hI4, hi0]
            omega
          · rw [show ((((4 : Nat)) : Int)) = 4 from rfl]
            have hX : b * 64 + x < 1024 := by simp at g2; omega
            have hE : Hid (step1 b 4 out x = ((b * 64 + x) % 4, 2, out ++ [UInt8.ofNat ((b * 64 + x) / 4)])) := Lib.hid (by simp [step1])
            generalize b * 64 + x = X at *
            have hand := and_bits2 X (by omega)
            obtain ⟨q, hq⟩ : ∃ q, q = X / 4 := ⟨_, rfl⟩
            have hq1 : (X : Int) / 4 = (q : Int) := by omega
            rw [← hq] at hE
            clear hq
            generalize X % 4 = m at *
            go_wp2_with (first
              | (go_at_call 59; refine (rune_any r hr _).mono ?_; rintro e W3 ⟨rfl, B3⟩; rw [hnum2]; have hO3 := HO.out.below B3 (fun g hg => (HO.out.lt g hg).2))
              | (at_builtin; refine wpList_add_byte rfl (.tmp 39) (.tmp 44) rfl w.heap.size W3 _ rfl out hO3 (UInt8.ofNat q) _ (by first | rfl | exact byte_cell1 q | exact byte_cell2 q (by omega)) rfl rfl (by have := HL.out; omega) (Nat.le_trans HB.out.size B3.size) ?_; intro v4 W4 o4 g4)
              | fail)
            have hI3 : W3.heap[K]? = some (.stringIter ⟨L.toArray⟩ (k + 1)) := (B3.block K (Array.getElem?_eq_some_iff.1 HIT.out).1).trans HIT.out
            have hI4 : W4.heap[K]? = some (.stringIter ⟨L.toArray⟩ (k + 1)) := (g4.block K (Array.getElem?_eq_some_iff.1 hI3).1 (fun h => HNE.out h.symm)).trans hI3
            refine ⟨⟨k + 1, m, 2, out ++ [UInt8.ofNat q], rfl, rfl, Reading.mk hlt HSN.out HG.out hE.out o4 (own_iter o4 (by simp) hI4) hI4 (below_own (HB.out.trans (B3.mono HB.out.size)) hO3 g4 (Nat.le_refl _) (Nat.le_trans HB.out.size B3.size)) hKb⟩, ?_⟩
            have hi0 : wr.iterPos K = k := by
              have := HR.out
              exact iter_pos this.2.2.2.2.2.1
            rw [iter_pos hI4, hi0]
            omega
          · rw [show ((((6 : Nat)) : Int)) = 6 from rfl]
            have hX : b * 64 + x < 4096 := by simp at g2; omega
            have hE : Hid (step1 b 6 out x = ((b * 64 + x) % 16, 4, out ++ [UInt8.ofNat ((b * 64 + x) / 16)])) := Lib.hid (by simp [step1])
            generalize b * 64 + x = X at *
            have hand := and_bits4 X hX
            obtain ⟨q, hq⟩ : ∃ q, q = X / 16 := ⟨_, rfl⟩
            have hq1 : (X : Int) / 16 = (q : Int) := by omega
            rw [← hq] at hE
            clear hq
            generalize X % 16 = m at *
            go_wp2_with (first
              | (go_at_call 59; refine (rune_any r hr _).mono ?_; rintro e W3 ⟨rfl, B3⟩; rw [hnum2]; have hO3 := HO.out.below B3 (fun g hg => (HO.out.lt g hg).2))
              | (at_builtin; refine wpList_add_byte rfl (.tmp 39) (.tmp 44) rfl w.heap.size W3 _ rfl out hO3 (UInt8.ofNat q) _ (by first | rfl | exact byte_cell1 q | exact byte_cell2 q (by omega)) rfl rfl (by have := HL.out; omega) (Nat.le_trans HB.out.size B3.size) ?_; intro v4 W4 o4 g4)
              | fail)
            have hI3 : W3.heap[K]? = some (.stringIter ⟨L.toArray⟩ (k + 1)) := (B3.block K (Array.getElem?_eq_some_iff.1 HIT.out).1).trans HIT.out
            have hI4 : W4.heap[K]? = some (.stringIter ⟨L.toArray⟩ (k + 1)) := (g4.block K (Array.getElem?_eq_some_iff.1 hI3).1 (fun h => HNE.out h.symm)).trans hI3
            refine ⟨⟨k + 1, m, 4, out ++ [UInt8.ofNat q], rfl, rfl, Reading.mk hlt HSN.out HG.out hE.out o4 (own_iter o4 (by simp) hI4) hI4 (below_own (HB.out.trans (B3.mono HB.out.size)) hO3 g4 (Nat.le_refl _) (Nat.le_trans HB.out.size B3.size)) hKb⟩, ?_⟩
            have hi0 : wr.iterPos K = k := by
              have := HR.out
              exact iter_pos this.2.2.2.2.2.1
            rw [iter_pos hI4, hi0]
            omega
      · obtain rfl : k = L.length := by omega
        rw [List.take_length] at hruns
        have hnx := Lib.run_next_end_at (P := Tryd.prog) wr K ⟨L.toArray⟩ L.length 0 hit (by rw [S_size]; exact Nat.lt_irrefl _)
        by_cases hb0 : b = 0
        · have hF : Hid (dec t = some out) := Lib.hid (by rw [HD.out, hruns, hb0]; rfl)
          have hbI : (((b : Nat) : Int) != 0) = false := by simp; exact hb0
          have HO := Lib.hid hown
          have htext := own_text hown
          clear hit hne hruns hgood hown hb0
          go_wp2
          go_ret2
          exact ⟨by rw [hF.out]; rfl, hbel⟩
        · have hF : Hid (dec t = none) := Lib.hid (by
            rw [HD.out, hruns]
            obtain ⟨b', rfl⟩ := Nat.exists_eq_succ_of_ne_zero hb0
            rfl)
          have hbI : (((b : Nat) : Int) != 0) = true := by simp; exact hb0
          clear hit hne hruns hgood hown hb0
          go_wp2
          go_ret2
          exact ⟨by rw [hF.out]; rfl, hbel⟩
  · have hmI : ((((t.length : Nat) : Int) % 4) != 0) = true := by simp; omega
    have hF : Hid (dec t = none) := Lib.hid (by rw [dec, if_neg hm])
    clear hm
    go_enter Tryd.func48, Tryd.ntmps48
    go_wp2
    go_ret2
    exact ⟨by rw [hF.out]; rfl, Below.refl _ _⟩
end Go.Proofs.YtnaekjmlikhglaaDoor.bb
