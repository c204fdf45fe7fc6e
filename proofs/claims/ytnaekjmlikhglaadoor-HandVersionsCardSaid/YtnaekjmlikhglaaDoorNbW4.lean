/- Texts of this proof, one behind the other. -/
import Derived.Test.YtnaekjmlikhglaaDoorNbW2
import Derived.Test.YtnaekjmlikhglaaDoorShelf
import Derived.Deep.QuietTactic
import Derived.BigQuiet
import Derived.WalkMore
import Derived.Lib.DecodeN
/- The walk of strings.IndexRune at a rune that is no ASCII: it stands in no text of ASCII. -/
namespace Go.Proofs.YtnaekjmlikhglaaDoor.bb
open Go.RowKit

theorem indexByte_none : ∀ (l : List UInt8) (c : UInt8), (∀ b ∈ l, b ≠ c) → Lib.indexByte l c = -1
  | [], c, _ => rfl
  | x :: r, c, h => by
    have hx := h x (by simp)
    have ih := indexByte_none r c (fun b hb => h b (by simp [hb]))
    unfold Lib.indexByte
    simp [hx, ih]

theorem B_neq (t : TypeId) (x y : UInt8) (h : x ≠ y) : binOp .neq t (B x) (B y) = pure (.bool true) := by
  have e : (x.toNat : Int) ≠ (y.toNat : Int) := fun e => h (UInt8.toNat_inj.1 (by omega))
  simp [B, binOp, Op.intCmp]
  exact congrArg (fun b => (pure (Value.bool b) : Sem Value)) (bne_iff_ne.2 e)
theorem guard_B (t : TypeId) (a b : Operand) (x y : UInt8) : eqGuard .neq t a b (B x) (B y) = pure () := rfl
theorem below_drewN (w : World) (n : Nat) : Below w.heap.size w (w.drewN n) := ⟨rfl, rfl, rfl, Nat.le_refl _, fun _ _ => rfl⟩
theorem byte_none (t : ByteArray) (c : UInt8) (h : ∀ b ∈ t.data.toList, b ≠ c) (w : World) : Calls Tryd.prog 67 #[.string t, B c] w fun e w' => e = .returned (.int .i64 (-1)) ∧ w' = w := by
  refine (Tryd.strings_IndexByte t (c.toNat : Int) w).mono ?_
  rintro e w' ⟨rfl, rfl⟩
  have e2 : (c.toNat : Int).toNat.toUInt8 = c := by simp
  rw [e2, indexByte_none _ _ h]
  exact ⟨rfl, rfl⟩
theorem mem_text (s : ByteArray) (n : Nat) (h : n < s.size) : s[n] ∈ s.data.toList := Array.getElem_mem_toList (xs := s.data) h
theorem get_text (s : ByteArray) (n : Nat) (h : n < s.size) : s.data.toList[n]? = some s[n] := by
  rw [Array.getElem?_toList]
  exact Array.getElem?_eq_getElem h

set_option maxRecDepth 100000 in
set_option maxHeartbeats 2000000 in
theorem rune_valid (s : ByteArray) (ha : ∀ b ∈ s.data.toList, b.toNat < 128) (h4 : 4 ≤ s.size) (hmax : s.size < 1000000) (r : Nat) (h128 : 128 ≤ r) (hr : r ≤ 1114111) (hne : r ≠ 65533) (hv : Lib.validRune (r : Int) = true) (w : World) :
    Calls Tryd.prog 59 #[.string s, .int .i32 (r : Int)] w fun e w' => e = .returned (.int .i64 (-1)) ∧ Below w.heap.size w w' := by
  have hv2 : Utf8.valid (r : Int) = true := by rw [validRune_eq]; exact hv
  obtain ⟨e1, e2, e3⟩ := encode_facts (r : Int) hv2 (by omega)
  obtain ⟨n, hn⟩ : ∃ n, (Utf8.encode (r : Int)).size = n + 1 := ⟨(Utf8.encode (r : Int)).size - 1, by omega⟩
  obtain ⟨c, hc128, hc⟩ : ∃ c : UInt8, 128 ≤ c.toNat ∧ (Utf8.encode (r : Int)).data.toList[n]? = some c :=
    ⟨(Utf8.encode (r : Int))[n]'(by omega), by simpa [hn] using e3 (by omega), get_text _ n (by omega)⟩
  have i2 : ∀ w, (Instr.index 9 (.string (Utf8.encode (r : Int))) (.int .i64 (n : Int))).run Tryd.prog w = .ok (B c) w := fun w => index_text _ _ rfl n c hc w
  obtain ⟨x, hx128, hx⟩ : ∃ x : UInt8, x.toNat < 128 ∧ s.data.toList[n]? = some x := ⟨s[n]'(by omega), ha _ (mem_text s n (by omega)), get_text s n (by omega)⟩
  have i1 : ∀ w, (Instr.index 9 (.string s) (.int .i64 (n : Int))).run Tryd.prog w = .ok (B x) w := fun w => index_text _ _ rfl n x hx w
  have hsz : ((Utf8.encode (r : Int)).size : Int) = (n : Int) + 1 := by omega
  have hge : ¬ (r : Int) < 128 := by omega
  have hrne : ((r : Int) == 65533) = false := by rw [beq_eq_false_iff_ne]; omega
  have hn3 : n ≤ 3 := by omega
  have hns : n < s.size := by omega
  clear hn
  clear hc hx e3 hne hv2 e1 e2
  have HV := Lib.hid hv
  clear hv
  have HX := Lib.hid hx128
  go_enter Tryd.func59, Tryd.ntmps59
  go_wp2_with (first
    | (go_at_call 68; refine (Tryd.utf8_ValidRune _ _).mono ?_; rintro e w' ⟨rfl, hw⟩; rw [HV.out, hw]; clear hw)
    | fail)
  have hxc : x ≠ c := by intro e; rw [e] at hx128; omega
  have hneq := B_neq 5 x c hxc
  have hgd := guard_B 5
  go_step3
  go_wp2
  refine wp_loop_rounds 1 ?_
  rw [rounds_succ]
  go_wp2
  go_step3
  go_wp2
  have hb0 : (0 : Int) ≤ (n : Int) := Int.natCast_nonneg _
  have hb1 : (n : Int) < (s.size : Int) := by omega
  have hb2 : (n : Int) < (n : Int) + 1 := by omega
  go_quiet (fail)
  go_wp2
  have hBW : Below w.heap.size w (w.drewN nq) := below_drewN w nq
  generalize w.drewN nq = W at *
  go_quiet ((go_at_call 67; exact Calls.quiet_of_same (byte_none _ c (fun b hb e => by rw [e] at hb; have := ha _ (mem_extract hb); omega) _)))
  go_wp2
  rw [Exit.noGoto_ret]
  go_wp2
  rw [Exit.noGoto_ret]
  go_wp2
  go_ret
  exact ⟨rfl, hBW.trans ((below_drewN W nq).mono hBW.size)⟩

set_option maxRecDepth 100000 in
set_option maxHeartbeats 2000000 in
theorem rune_bad (s : ByteArray) (r : Nat) (h128 : 128 ≤ r) (hr : r ≤ 1114111) (hne : r ≠ 65533) (hv : Lib.validRune (r : Int) = false) (w : World) :
    Calls Tryd.prog 59 #[.string s, .int .i32 (r : Int)] w fun e w' => e = .returned (.int .i64 (-1)) ∧ Below w.heap.size w w' := by
  have hge : ¬ (r : Int) < 128 := by omega
  have hrne : ((r : Int) == 65533) = false := by rw [beq_eq_false_iff_ne]; omega
  have HV := Lib.hid hv
  clear hv hne
  go_enter Tryd.func59, Tryd.ntmps59
  go_wp2_with (first
    | (go_at_call 68; refine (Tryd.utf8_ValidRune _ _).mono ?_; rintro e w' ⟨rfl, hw⟩; rw [HV.out, hw]; clear hw)
    | fail)
  go_ret
  exact ⟨rfl, Below.refl _ _⟩

set_option maxRecDepth 100000 in
set_option maxHeartbeats 2000000 in
theorem rune_error (s : ByteArray) (ha : ∀ b ∈ s.data.toList, b.toNat < 128) (w : World) :
    Calls Tryd.prog 59 #[.string s, .int .i32 65533] w fun e w' => e = .returned (.int .i64 (-1)) ∧ Below w.heap.size w w' := by
  have HA := Lib.hid ha
  clear ha
  go_enter Tryd.func59, Tryd.ntmps59
  go_wp2
  go_loopw [5] (fun _ wr => ∃ pos, pos ≤ s.size ∧ wr = w.iter s pos) (fun _ wr => s.size - wr.iterPos w.heap.size)
  case atStart => exact ⟨0, Nat.zero_le _, rfl⟩
  case round =>
    obtain ⟨pos, hp, rfl⟩ := hrel
    by_cases hlt : pos < s.size
    · have hnx := run_next_ascii (P := Tryd.prog) w s pos 0 hlt (HA.out _ (mem_text s pos hlt))
      have hb := HA.out _ (mem_text s pos hlt)
      have hsn : (((s[pos]'hlt).toNat : Int) == 65533) = false := by rw [beq_eq_false_iff_ne]; omega
      go_wp2
      exact ⟨⟨pos + 1, by omega, rfl⟩, by rw [World.iterPos_iter, World.iterPos_iter]; omega⟩
    · have hnx := run_next_end (P := Tryd.prog) w s pos 0 hlt
      go_wp2
      go_ret
      exact ⟨rfl, (Below.refl _ _).alloc (Nat.le_refl _) _⟩

/-- The number of a rune as a letter, or what tells that it is none. -/
def numI (r : Nat) : Int := if r < 128 then (match numO (UInt8.ofNat r) with | some x => (x : Int) | none => -1) else -1
theorem alpha_ascii : ∀ b ∈ alpha, b.toNat < 128 := by decide +kernel
theorem byte_num : ∀ k : Fin 128, Lib.indexByte alpha (UInt8.ofNat k.val) = numI k.val := by decide +kernel

theorem rune_any (r : Nat) (hr : r ≤ 1114111) (w : World) :
    Calls Tryd.prog 59 #[.string ⟨#[65, 66, 67, 68, 69, 70, 71, 72, 73, 74, 75, 76, 77, 78, 79, 80, 81, 82, 83, 84, 85, 86, 87, 88, 89, 90, 97, 98, 99, 100, 101, 102, 103, 104, 105, 106, 107, 108, 109, 110, 111, 112, 113, 114, 115, 116, 117, 118, 119, 120, 121, 122, 48, 49, 50, 51, 52, 53, 54, 55, 56, 57, 43, 47]⟩, .int .i32 (r : Int)] w
      fun e w' => e = .returned (.int .i64 (numI r)) ∧ Below w.heap.size w w' := by
  by_cases h128 : r < 128
  · refine (Tryd.strings_IndexRune_ascii _ _ w (Int.natCast_nonneg _) (by omega)).mono ?_
    rintro e w' ⟨rfl, rfl⟩
    have h := byte_num ⟨r, h128⟩
    refine ⟨?_, Below.refl _ _⟩
    rw [← h]
    rfl
  · have hn : numI r = -1 := by rw [numI, if_neg h128]
    rw [hn]
    by_cases hne : r = 65533
    · subst hne
      exact rune_error _ alpha_ascii w
    · cases hv : Lib.validRune (r : Int) with
      | true => exact rune_valid _ alpha_ascii (by decide) (by decide) r (by omega) hr hne hv w
      | false => exact rune_bad _ r (by omega) hr hne hv w
end Go.Proofs.YtnaekjmlikhglaaDoor.bb
/- The walks of withoutFiller and Decode. -/
namespace Go.Proofs.YtnaekjmlikhglaaDoor.bb
open Go.RowKit

theorem suffix_one (l : List UInt8) : Lib.trimSuffix l [61] = strip1 l := by
  rcases List.eq_nil_or_concat l with rfl | ⟨r, c, rfl⟩
  · rfl
  · rw [List.concat_eq_append, strip1_one]
    unfold Lib.trimSuffix Lib.hasSuffix
    have e : ([61] : List UInt8).isSuffixOf (r ++ [c]) = (61 == c) := by
      simp [List.isSuffixOf, List.isPrefixOf]
    rw [e]
    by_cases h : c = 61
    · subst h; simp
    · have h2 : ¬ 61 = c := fun e => h e.symm
      simp [h, h2]

theorem strip1_le (l : List UInt8) : (strip1 l).length ≤ l.length := by unfold strip1; split <;> simp
theorem without_any (t : List UInt8) (ht : t.length < 1000000000) (w : World) : Calls Tryd.prog 58 #[S t] w fun e w' => e = .returned (S (strip t)) ∧ w = w' := by
  have hs (l : List UInt8) (hl : l.length < 1000000000) (w : World) : Calls Tryd.prog 66 #[S l, .string ⟨#[61]⟩] w fun e w' => e = .returned (S (strip1 l)) ∧ w' = w := by
    refine (Tryd.strings_TrimSuffix ⟨l.toArray⟩ ⟨#[61]⟩ w (by rw [S_size]; omega)).mono ?_
    rintro e w' ⟨rfl, rfl⟩
    rw [← suffix_one]
    exact ⟨rfl, rfl⟩
  have h1 : (strip1 t).length < 1000000000 := Nat.lt_of_le_of_lt (strip1_le t) ht
  go_enter Tryd.func58, Tryd.ntmps58
  go_wp2_with fail
  refine (hs t ht w).mono ?_
  rintro e w' ⟨rfl, hw⟩
  rw [hw]
  clear hw
  go_wp2_with fail
  refine (hs (strip1 t) h1 w).mono ?_
  rintro e w' ⟨rfl, hw⟩
  rw [hw]
  clear hw
  go_wp2
  go_ret
  exact ⟨rfl, rfl⟩

theorem decode_ge (s : ByteArray) (i : Nat) (h : 128 ≤ (s.get! i).toNat) : 128 ≤ (Utf8.decode s i).1 ∧ (Utf8.decode s i).1 ≤ 1114111 := by
  rw [Lib.decode_at]
  generalize (s.get! i).toNat = b0 at *
  generalize (s.get! (i + 1)).toNat = b1
  generalize (s.get! (i + 2)).toNat = b2
  generalize (s.get! (i + 3)).toNat = b3
  generalize s.size - i = n
  unfold Lib.decodeN
  repeat' split
  all_goals (constructor <;> simp only <;> omega)
end Go.Proofs.YtnaekjmlikhglaaDoor.bb
