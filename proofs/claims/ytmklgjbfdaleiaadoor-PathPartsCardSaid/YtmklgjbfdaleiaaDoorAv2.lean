/- Whether a text has a slash or a byte 0: strings.ContainsAny walked, at any text. -/
import Derived.Test.YtmklgjbfdaleiaaDoorAv1
import Derived.Test.YtmklgjbfdaleiaaDoorQb
import Derived.Test.YtmklgjbfdaleiaaDoorShelf
import Derived.Deep.QuietTactic
import Derived.BigQuiet
import Derived.WalkMore
import Derived.Laws.RangeAny
import Derived.Lib.DecodeN
import Derived.Shelf.Strings.IndexAnyAll
namespace Go.Proofs.YtmklgjbfdaleiaaDoor
open Go.RowKit
attribute [local go_sem] store_one B_match B_store S_match S_store eguard_BN nguard_BN

/-- A slash, or a byte 0. -/
def badC (c : UInt8) : Bool := c == 47 || c == 0
theorem byteIn_none (t : ByteArray) (c : UInt8) (h : ∀ b ∈ t.data.toList, b ≠ c) (w : World) : Calls Tryd.prog 40 #[.string t, B c] w fun e w' => e = .returned (.int .i64 (-1)) ∧ w' = w := by
  refine (Tryd.strings_IndexByte t (c.toNat : Int) w).mono ?_
  rintro e w' ⟨rfl, rfl⟩
  have e2 : (c.toNat : Int).toNat.toUInt8 = c := by simp
  have e3 : ∀ (l : List UInt8), (∀ b ∈ l, b ≠ c) → Lib.indexByte l c = -1 := by
    intro l
    induction l with
    | nil => intro _; rfl
    | cons x r ih =>
      intro h
      have hx := h x (by simp)
      have := ih (fun b hb => h b (by simp [hb]))
      unfold Lib.indexByte
      simp [hx, this]
  rw [e2, e3 _ h]
  exact ⟨rfl, rfl⟩
set_option maxRecDepth 100000 in
set_option maxHeartbeats 2000000 in
theorem rune_valid2 (s : ByteArray) (ha : ∀ b ∈ s.data.toList, b.toNat < 128) (h2 : s.size = 2) (r : Nat) (h128 : 128 ≤ r) (hr : r ≤ 1114111) (hne : r ≠ 65533) (hv : Lib.validRune (r : Int) = true) (w : World) :
    Calls Tryd.prog 59 #[.string s, .int .i32 (r : Int)] w fun e w' => e = .returned (.int .i64 (-1)) ∧ Below w.heap.size w w' := by
  have hv2 : Utf8.valid (r : Int) = true := by rw [validRune_eq]; exact hv
  obtain ⟨e1, e2, e3⟩ := encode_facts (r : Int) hv2 (by omega)
  obtain ⟨n, hn⟩ : ∃ n, (Utf8.encode (r : Int)).size = n + 1 := ⟨(Utf8.encode (r : Int)).size - 1, by omega⟩
  obtain ⟨c, hc128, hc⟩ : ∃ c : UInt8, 128 ≤ c.toNat ∧ (Utf8.encode (r : Int)).data.toList[n]? = some c :=
    ⟨(Utf8.encode (r : Int))[n]'(by omega), by simpa [hn] using e3 (by omega), get_text _ n (by omega)⟩
  have i2 : ∀ w, (Instr.index 9 (.string (Utf8.encode (r : Int))) (.int .i64 (n : Int))).run Tryd.prog w = .ok (B c) w := fun w => index_text Tryd.underlying9 _ _ rfl n c hc w
  have hsz : ((Utf8.encode (r : Int)).size : Int) = (n : Int) + 1 := by omega
  have hge : ¬ (r : Int) < 128 := by omega
  have hrne : ((r : Int) == 65533) = false := by rw [beq_eq_false_iff_ne]; omega
  have hn3 : n ≤ 3 := by omega
  have HV := Lib.hid hv
  clear hv
  by_cases hns : n < s.size
  · obtain ⟨x, hx128, hx⟩ : ∃ x : UInt8, x.toNat < 128 ∧ s.data.toList[n]? = some x := ⟨s[n]'(by omega), ha _ (mem_text s n (by omega)), get_text s n (by omega)⟩
    have i1 : ∀ w, (Instr.index 9 (.string s) (.int .i64 (n : Int))).run Tryd.prog w = .ok (B x) w := fun w => index_text Tryd.underlying9 _ _ rfl n x hx w
    clear hn h2
    clear hc hx e3 hne hv2 e1 e2
    have HX := Lib.hid hx128
    go_enter Tryd.func59, Tryd.ntmps59
    go_wp2_with (first
      | (go_at_call 71; refine (Tryd.utf8_ValidRune _ _).mono ?_; rintro e w' ⟨rfl, hw⟩; rw [HV.out, hw]; clear hw)
      | fail)
    have hxc : x ≠ c := by intro e; rw [e] at hx128; omega
    have hneq := B_neq 5 x c hxc
    have hgd := nguard_B 5
    go_step3
    go_wp2
    refine wp_loop_rounds 1 ?_
    rw [rounds_succ]
    go_wp2
    go_step3
    go_wp2
    have hb0 : (0 : Int) ≤ (n : Int) := Int.natCast_nonneg _
    have hb1 : (n : Int) < (s.size : Int) := by omega
    have hb2 : (n : Int) < (n : Int) + 1 := by omega
    go_quiet (fail)
    go_wp2
    have hBW : Below w.heap.size w (w.drewN nq) := below_drewN w nq
    generalize w.drewN nq = W at *
    go_quiet ((go_at_call 40; exact Calls.quiet_of_same (byteIn_none _ c (fun b hb e => by rw [e] at hb; have := ha _ (mem_extract hb); omega) _)))
    go_wp2
    rw [Exit.noGoto_ret]
    go_wp2
    rw [Exit.noGoto_ret]
    go_wp2
    go_ret
    exact ⟨rfl, hBW.trans ((below_drewN W nq).mono hBW.size)⟩
  · have hb1 : ¬ (n : Int) < (s.size : Int) := by omega
    clear hn h2 hns ha
    clear hc e3 hne hv2 e1 e2
    go_enter Tryd.func59, Tryd.ntmps59
    go_wp2_with (first
      | (go_at_call 71; refine (Tryd.utf8_ValidRune _ _).mono ?_; rintro e w' ⟨rfl, hw⟩; rw [HV.out, hw]; clear hw)
      | fail)
    go_step3
    go_wp2
    refine wp_loop_rounds 1 ?_
    rw [rounds_succ]
    clear hsz hge hn3 hc128 h128 hr hrne i2 HV
    go_wp2
    rw [Exit.noGoto_ret]
    go_wp2
    go_ret
    exact ⟨rfl, Below.refl _ _⟩

set_option maxRecDepth 100000 in
set_option maxHeartbeats 2000000 in
theorem rune_bad2 (s : ByteArray) (r : Nat) (h128 : 128 ≤ r) (hr : r ≤ 1114111) (hne : r ≠ 65533) (hv : Lib.validRune (r : Int) = false) (w : World) :
    Calls Tryd.prog 59 #[.string s, .int .i32 (r : Int)] w fun e w' => e = .returned (.int .i64 (-1)) ∧ Below w.heap.size w w' := by
  have hge : ¬ (r : Int) < 128 := by omega
  have hrne : ((r : Int) == 65533) = false := by rw [beq_eq_false_iff_ne]; omega
  have HV := Lib.hid hv
  clear hv hne
  go_enter Tryd.func59, Tryd.ntmps59
  go_wp2_with (first
    | (go_at_call 71; refine (Tryd.utf8_ValidRune _ _).mono ?_; rintro e w' ⟨rfl, hw⟩; rw [HV.out, hw]; clear hw)
    | fail)
  go_ret
  exact ⟨rfl, Below.refl _ _⟩

set_option maxRecDepth 100000 in
set_option maxHeartbeats 2000000 in
theorem rune_error2 (s : ByteArray) (ha : ∀ b ∈ s.data.toList, b.toNat < 128) (w : World) :
    Calls Tryd.prog 59 #[.string s, .int .i32 65533] w fun e w' => e = .returned (.int .i64 (-1)) ∧ Below w.heap.size w w' := by
  have HA := Lib.hid ha
  clear ha
  go_enter Tryd.func59, Tryd.ntmps59
  go_wp2
  go_loopw [5] (fun _ wr => ∃ pos, pos ≤ s.size ∧ wr = w.iter s pos) (fun _ wr => s.size - wr.iterPos w.heap.size)
  case atStart => exact ⟨0, Nat.zero_le _, rfl⟩
  case round =>
    obtain ⟨pos, hp, rfl⟩ := hrel
    by_cases hlt : pos < s.size
    · have hnx := run_next_ascii (P := Tryd.prog) w s pos 0 hlt (HA.out _ (mem_text s pos hlt))
      have hb := HA.out _ (mem_text s pos hlt)
      have hsn : (((s[pos]'hlt).toNat : Int) == 65533) = false := by rw [beq_eq_false_iff_ne]; omega
      go_wp2
      exact ⟨⟨pos + 1, by omega, rfl⟩, by rw [World.iterPos_iter, World.iterPos_iter]; omega⟩
    · have hnx := run_next_end (P := Tryd.prog) w s pos 0 hlt
      go_wp2
      go_ret
      exact ⟨rfl, (Below.refl _ _).alloc (Nat.le_refl _) _⟩
theorem bad_ascii : ∀ b ∈ (⟨#[47, 0]⟩ : ByteArray).data.toList, b.toNat < 128 := by decide +kernel
theorem runeB_any (r : Nat) (h128 : 128 ≤ r) (hr : r ≤ 1114111) (w : World) :
    Calls Tryd.prog 59 #[.string ⟨#[47, 0]⟩, .int .i32 (r : Int)] w fun e w' => e = .returned (.int .i64 (-1)) ∧ Below w.heap.size w w' := by
  by_cases hne : r = 65533
  · subst hne
    exact rune_error2 _ bad_ascii w
  · cases hv : Lib.validRune (r : Int) with
    | true => exact rune_valid2 _ bad_ascii (by decide) r h128 hr hne hv w
    | false => exact rune_bad2 _ r h128 hr hne hv w

theorem decode_geA (s : ByteArray) (i : Nat) (h : 128 ≤ (s.get! i).toNat) : 128 ≤ (Utf8.decode s i).1 ∧ (Utf8.decode s i).1 ≤ 1114111 := by
  rw [Lib.decode_at]
  generalize (s.get! i).toNat = b0 at *
  generalize (s.get! (i + 1)).toNat = b1
  generalize (s.get! (i + 2)).toNat = b2
  generalize (s.get! (i + 3)).toNat = b3
  generalize s.size - i = n
  unfold Lib.decodeN
  repeat' split
  all_goals (constructor <;> simp only <;> omega)
/-- What a rune that is no ASCII takes: bytes that aren't, either. -/
theorem decode_span (s : ByteArray) (i : Nat) (h : 128 ≤ (s.get! i).toNat) (hi : i < s.size) : 1 ≤ (Utf8.decode s i).2 ∧ i + (Utf8.decode s i).2 ≤ s.size ∧ ∀ j, j < (Utf8.decode s i).2 → 128 ≤ (s.get! (i + j)).toNat := by
  rw [Lib.decode_at]
  have e0 : i + 0 = i := rfl
  obtain ⟨b0, h0⟩ : ∃ b, b = (s.get! i).toNat := ⟨_, rfl⟩
  obtain ⟨b1, h1⟩ : ∃ b, b = (s.get! (i + 1)).toNat := ⟨_, rfl⟩
  obtain ⟨b2, h2⟩ : ∃ b, b = (s.get! (i + 2)).toNat := ⟨_, rfl⟩
  obtain ⟨b3, h3⟩ : ∃ b, b = (s.get! (i + 3)).toNat := ⟨_, rfl⟩
  have hj : ∀ j, j < 4 → (s.get! (i + j)).toNat = if j = 0 then b0 else if j = 1 then b1 else if j = 2 then b2 else b3 := by
    intro j hj
    have : j = 0 ∨ j = 1 ∨ j = 2 ∨ j = 3 := by omega
    rcases this with rfl | rfl | rfl | rfl
    · rw [if_pos rfl, h0, Nat.add_zero]
    · rw [h1]; rfl
    · rw [h2]; rfl
    · rw [h3]; rfl
  rw [← h0] at h ⊢
  rw [← h1, ← h2, ← h3]
  clear h0 h1 h2 h3
  obtain ⟨n, hn⟩ : ∃ n, n = s.size - i := ⟨_, rfl⟩
  rw [← hn]
  have key : ∀ k, (Lib.decodeN n b0 b1 b2 b3).2 = k → 1 ≤ k ∧ k ≤ n ∧ k ≤ 4 ∧ (2 ≤ k → 128 ≤ b1) ∧ (3 ≤ k → 128 ≤ b2) ∧ (4 ≤ k → 128 ≤ b3) := by
    intro k hk
    unfold Lib.decodeN at hk
    repeat' split at hk
    all_goals (simp only at hk; omega)
  obtain ⟨k1, k2, k3, k4, k5, k6⟩ := key _ rfl
  refine ⟨k1, by omega, fun j hjk => ?_⟩
  rw [hj j (by omega)]
  split
  · exact h
  · split
    · exact k4 (by omega)
    · split
      · exact k5 (by omega)
      · exact k6 (by omega)

theorem bad_byte : ∀ c : UInt8, decide (0 ≤ Lib.indexByte [47, 0] c) = badC c := fun c => by
  have := all_bytes (p := fun c => decide (0 ≤ Lib.indexByte [47, 0] c) == badC c) (by decide +kernel) c
  exact beq_iff_eq.1 this
theorem bad_get (L : List UInt8) (n : Nat) (h : n < L.length) : ((⟨L.toArray⟩ : ByteArray).get! n) = L[n] := by
  show L.toArray[n]! = L[n]
  rw [getElem!_pos _ _ (by simpa using h)]
  simp

set_option maxRecDepth 100000 in
set_option maxHeartbeats 2000000 in
theorem any_short (L : List UInt8) (h8 : L.length ≤ 8) (w : World) :
    Calls Tryd.prog 46 #[S L, .string ⟨#[47, 0]⟩] w fun e w' => ∃ k : Int, e = .returned (.int .i64 k) ∧ decide (0 ≤ k) = L.any badC ∧ Below w.heap.size w w' := by
  have hlen := run_len_S (P := Tryd.prog) Tryd.underlying9 3 L
  have h8z : decide ((8 : Int) < (L.length : Int)) = false := decide_eq_false (by omega)
  have hS : S L = .string ⟨L.toArray⟩ := rfl
  rw [hS] at hlen ⊢
  go_enter Tryd.func46, Tryd.ntmps46
  go_wp2_with (first
    | (go_at_call 60; refine (Tryd.strings_shouldUseASCIISet _ _).mono ?_; rintro e w' ⟨rfl, hw⟩; rw [hw, h8z])
    | fail)
  obtain ⟨K, hK⟩ : ∃ K, K = w.heap.size := ⟨_, rfl⟩
  have HI : Hid ((w.iter ⟨L.toArray⟩ 0).heap[K]? = some (.stringIter ⟨L.toArray⟩ 0) ∧ Below w.heap.size w (w.iter ⟨L.toArray⟩ 0)) := Lib.hid ⟨by rw [hK]; exact World.iter_heap _ _ _, (Below.refl _ _).alloc (Nat.le_refl _) _⟩
  rw [← hK]
  have HK := Lib.hid (Nat.le_of_eq hK.symm : w.heap.size ≤ K)
  clear hK
  go_loopw [9, 10] (fun _ _ wr => ∃ k, k ≤ L.length ∧ Hid (wr.heap[K]? = some (.stringIter ⟨L.toArray⟩ k) ∧ Below w.heap.size w wr ∧ (L.take k).any badC = false)) (fun _ _ wr => L.length - wr.iterPos K)
  case atStart => exact ⟨0, Nat.zero_le _, Lib.hid ⟨HI.out.1, HI.out.2, rfl⟩⟩
  case round =>
    obtain ⟨k, hk, HR⟩ := hrel
    obtain ⟨hit, hbel, hno⟩ := HR.out
    have HB := Lib.hid hbel
    have HN := Lib.hid hno
    have hKb := HK.out
    have hi0 : wr.iterPos K = k := by simp only [World.iterPos, hit]
    have HP := Lib.hid hi0
    clear hbel hno hi0
    by_cases hlt : k < L.length
    · obtain ⟨c, hc⟩ : ∃ c, L[k]? = some c := ⟨L[k], List.getElem?_eq_getElem hlt⟩
      obtain ⟨_, hcc⟩ := List.getElem?_eq_some_iff.1 hc
      have hs : k < (⟨L.toArray⟩ : ByteArray).size := by rw [S_size]; exact hlt
      have hb : ((⟨L.toArray⟩ : ByteArray)[k]'hs) = c := by rw [← hcc]; rfl
      have HT : Hid ((L.take (k + 1)).any badC = badC c) := Lib.hid (by rw [List.take_add_one, hc, Option.toList_some, List.any_append, HN.out]; simp)
      have HA : Hid (badC c = true → L.any badC = true) := Lib.hid (fun h => List.any_eq_true.2 ⟨c, List.mem_of_getElem? hc, h⟩)
      by_cases h128 : c.toNat < 128
      · have hnx := fun ty => Lib.run_next_ascii_at (P := Tryd.prog) wr K ⟨L.toArray⟩ k ty hit hs (by rw [hb]; exact h128)
        simp only [hb] at hnx
        have HB2 := Lib.hid (Lib.below_iterAt HB.out hKb ⟨L.toArray⟩ (k + 1))
        have HIT := Lib.hid (Lib.iterAt_heap wr K ⟨L.toArray⟩ k (k + 1) hit)
        have hq := bad_byte c
        have hback : ((c.toNat : Int)).toNat.toUInt8 = c := by simp
        have hir := fun W => Tryd.strings_IndexRune_ascii ⟨#[47, 0]⟩ (c.toNat : Int) W (by omega) (by omega)
        rw [hback] at hir
        obtain ⟨v, hv⟩ : ∃ v : Int, v = Lib.indexByte [47, 0] c := ⟨_, rfl⟩
        have HIR := Lib.hid (fun W => (hir W).mono fun e w' (h : e = .returned (.int .i64 (Lib.indexByte [47, 0] c)) ∧ w' = W) => (show e = .returned (.int .i64 v) ∧ w' = W by rw [hv]; exact h))
        rw [← hv] at hq
        clear hir hback hv hb hs hc hcc hit
        cases hbc : badC c with
        | false =>
          rw [hbc] at hq
          have HT2 : Hid ((L.take (k + 1)).any badC = false) := Lib.hid (by rw [HT.out, hbc])
          clear hbc
          go_wp2_with (first
            | (go_at_call 59; refine (HIR.out _).mono ?_; rintro e w' ⟨rfl, hw⟩; rw [hw])
            | fail)
          refine ⟨⟨k + 1, by omega, Lib.hid ⟨HIT.out, HB2.out, HT2.out⟩⟩, ?_⟩
          have e1 : (wr.iterAt K ⟨L.toArray⟩ (k + 1)).iterPos K = k + 1 := by simp only [World.iterPos, HIT.out]
          rw [e1, HP.out]; omega
        | true =>
          rw [hbc] at hq
          have HT2 : Hid (L.any badC = true) := Lib.hid (HA.out hbc)
          clear hbc
          go_wp2_with (first
            | (go_at_call 59; refine (HIR.out _).mono ?_; rintro e w' ⟨rfl, hw⟩; rw [hw])
            | fail)
          go_ret
          exact ⟨_, rfl, by rw [HT2.out]; exact decide_eq_true (by omega), HB2.out⟩
      · have hg : ((⟨L.toArray⟩ : ByteArray).get! k) = c := by rw [bad_get L k hlt, hcc]
        obtain ⟨d1, d2⟩ := decode_geA ⟨L.toArray⟩ k (by rw [hg]; omega)
        obtain ⟨q1, q2, q3⟩ := decode_span ⟨L.toArray⟩ k (by rw [hg]; omega) hs
        rw [S_size] at q2
        have hnx := fun ty => Lib.run_next_any_at (P := Tryd.prog) wr K ⟨L.toArray⟩ k ty hit hs
        generalize (Utf8.decode ⟨L.toArray⟩ k).1 = r at *
        generalize (Utf8.decode ⟨L.toArray⟩ k).2 = wd at *
        have HB2 := Lib.hid (Lib.below_iterAt HB.out hKb ⟨L.toArray⟩ (k + wd))
        have HIT := Lib.hid (Lib.iterAt_heap wr K ⟨L.toArray⟩ k (k + wd) hit)
        have HT2 : Hid ((L.take (k + wd)).any badC = false) := Lib.hid (by
          rw [List.any_eq_false]
          intro b hbm
          obtain ⟨i, hi⟩ := List.mem_iff_getElem?.1 hbm
          have hil : i < k + wd := by
            have := (List.getElem?_eq_some_iff.1 hi).1
            rw [List.length_take] at this; omega
          rw [List.getElem?_take_of_lt hil] at hi
          by_cases hik : i < k
          · have := HN.out
            rw [List.any_eq_false] at this
            exact this b (List.mem_iff_getElem?.2 ⟨i, by rw [List.getElem?_take_of_lt hik]; exact hi⟩)
          · have h3 := q3 (i - k) (by omega)
            rw [show k + (i - k) = i by omega, bad_get L i (by omega)] at h3
            have h4 := (List.getElem?_eq_some_iff.1 hi).2
            rw [h4] at h3
            unfold badC
            have n1 : b ≠ 47 := by rintro rfl; exact absurd h3 (by decide)
            have n2 : b ≠ 0 := by rintro rfl; exact absurd h3 (by decide)
            simp [n1, n2])
        have HIR := Lib.hid (fun W => runeB_any r d1 d2 W)
        clear hb hs hc hcc hit hg q3 HT HA h128
        go_wp2_with (first
          | (go_at_call 59; refine (HIR.out _).mono ?_; rintro e W3 ⟨rfl, hw⟩)
          | fail)
        have hI3 : W3.heap[K]? = some (.stringIter ⟨L.toArray⟩ (k + wd)) := (hw.block K (Array.getElem?_eq_some_iff.1 HIT.out).1).trans HIT.out
        refine ⟨⟨k + wd, q2, Lib.hid ⟨hI3, HB2.out.trans (hw.mono HB2.out.size), HT2.out⟩⟩, ?_⟩
        have e1 : W3.iterPos K = k + wd := by simp only [World.iterPos, hI3]
        rw [e1, HP.out]; omega
    · obtain rfl : k = L.length := by omega
      rw [List.take_length] at HN
      have hnx := fun ty => Lib.run_next_end_at (P := Tryd.prog) wr K ⟨L.toArray⟩ L.length ty hit (by rw [S_size]; exact Nat.lt_irrefl _)
      clear hit
      go_wp2
      go_ret
      exact ⟨_, rfl, by rw [HN.out]; rfl, HB.out⟩
theorem any_bad : ∀ L : List UInt8, decide (0 ≤ Lib.indexAny L [47, 0]) = L.any badC
  | [] => rfl
  | c :: r => by
    have ih := any_bad r
    have hc := bad_byte c
    rw [← Lib.contains_iff_indexByte] at hc
    have hge := Lib.indexAny_ge [47, 0] r
    unfold Lib.indexAny
    rw [List.any_cons, ← hc]
    cases h : ([47, 0] : List UInt8).contains c with
    | true => simp
    | false =>
      rw [Bool.false_or, ← ih]
      simp only [Bool.false_eq_true, if_false]
      split
      · rename_i h1
        have h1 := beq_iff_eq.1 h1
        rw [h1]
      · rename_i h1
        have h1 : ¬ Lib.indexAny r [47, 0] = -1 := fun e => h1 (beq_iff_eq.2 e)
        rw [decide_eq_true (by omega), decide_eq_true (by omega)]
theorem any_long (L : List UInt8) (h8 : 8 < L.length) (hl : L.length ≤ 100000) (w : World) :
    Calls Tryd.prog 46 #[S L, .string ⟨#[47, 0]⟩] w fun e w' => ∃ k : Int, e = .returned (.int .i64 k) ∧ decide (0 ≤ k) = L.any badC ∧ Below w.heap.size w w' := by
  have hsz := S_size L
  have h116 : (Tryd.prog.info? (Tryd.lays153_ren.t 116)).map (fun i => (i.zero, i.size)) = some (some (.agg (Array.replicate 256 (.bool false))), 256) := by kernel_rfl
  refine (Any.strings_IndexAny_long Tryd.lays153 (zero_of_info h116).1 (zero_of_info h116).2 ⟨L.toArray⟩ ⟨#[47, 0]⟩ w (by decide) (by omega) (by omega) (by decide) (fun j b hb => bad_ascii b (List.mem_of_getElem? hb))).mono ?_
  rintro e w' ⟨rfl, rfl⟩
  exact ⟨_, rfl, any_bad L, ((Below.refl _ _).alloc (Nat.le_refl _) _).alloc (by simp) _⟩
set_option maxRecDepth 100000 in
set_option maxHeartbeats 400000 in
theorem containsany_any (L : List UInt8) (hl : L.length ≤ 100000) (w : World) :
    Calls Tryd.prog 32 #[S L, .string ⟨#[47, 0]⟩] w fun e w' => e = .returned (.bool (L.any badC)) ∧ Below w.heap.size w w' := by
  have h : ∀ W, Calls Tryd.prog 46 #[S L, .string ⟨#[47, 0]⟩] W fun e w' => ∃ k : Int, e = .returned (.int .i64 k) ∧ decide (0 ≤ k) = L.any badC ∧ Below W.heap.size W w' := fun W => by
    by_cases h8 : L.length ≤ 8
    · exact any_short L h8 W
    · exact any_long L (by omega) hl W
  have H := Lib.hid h
  clear h hl
  go_enter Tryd.func32, Tryd.ntmps32
  go_wp2_with (first
    | (go_at_call 46; refine (H.out _).mono ?_; rintro e w' ⟨k, rfl, hk, hw⟩)
    | fail)
  go_ret
  exact ⟨by first | rw [hk] | (rw [← hk]; rfl) | (congr 2), hw⟩
set_option maxRecDepth 100000 in
set_option maxHeartbeats 400000 in
/-- The landed right. -/
theorem right_any (L : List UInt8) (hl : L.length ≤ 100000) (w : World) :
    Calls Tryd.prog 19 #[S L] w fun e w' => e = .returned (.bool (mayS L)) ∧ Below w.heap.size w w' := by
  have hE : mayS L = (L != [46] && (L != [46, 46] && !(L.any badC))) := by
    unfold mayS
    have : L.all (fun c => c != 47 && c != 0) = !(L.any badC) := by
      rw [List.not_any_eq_all_not]
      congr 1
      funext c
      unfold badC
      cases h1 : (c == 47) <;> cases h2 : (c == 0) <;> simp [h1, h2, bne]
    rw [this]
    cases (L.any badC) <;> cases (L != [46]) <;> cases (L != [46, 46]) <;> rfl
  have q1 : binOp .neq 9 (S L) (.string ⟨#[46]⟩) = pure (.bool (L != [46])) := neql_S 9 L [46]
  have n1 : ∀ x y, eqGuard .neq 9 x y (S L) (.string ⟨#[46]⟩) = pure () := fun x y => nguard_S 9 x y L [46]
  have q2 : binOp .neq 9 (S L) (.string ⟨#[46, 46]⟩) = pure (.bool (L != [46, 46])) := neql_S 9 L [46, 46]
  have n2 : ∀ x y, eqGuard .neq 9 x y (S L) (.string ⟨#[46, 46]⟩) = pure () := fun x y => nguard_S 9 x y L [46, 46]
  have H := Lib.hid (fun W => containsany_any L hl W)
  rw [hE]
  clear hE hl
  generalize L.any badC = b at *
  cases h1 : (L != [46]) <;> rw [h1] at q1 <;> cases h2 : (L != [46, 46]) <;> rw [h2] at q2 <;> clear h1 h2
  all_goals
    go_enter Tryd.func19, Tryd.ntmps19
    go_wp2_with (first
      | (go_at_call 32; refine (H.out _).mono ?_; rintro e w' ⟨rfl, hw⟩)
      | fail)
    go_ret
    first | exact ⟨rfl, Below.refl _ _⟩ | exact ⟨by cases b <;> rfl, hw⟩
end Go.Proofs.YtmklgjbfdaleiaaDoor
