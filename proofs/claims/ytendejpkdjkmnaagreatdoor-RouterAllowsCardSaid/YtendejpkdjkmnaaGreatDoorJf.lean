/- Texts of this proof that several statements share, one behind the other. -/
import Derived.Test.YtendejpkdjkmnaaGreatDoorJb
import Derived.Lib.SplitLaws
import Derived.Lib.CountLaws
import Derived.Lib.IndexMore
import Derived.Test.YtendejpkdjkmnaaGreatDoorJc
import Derived.Test.YtendejpkdjkmnaaGreatDoorShelf
import Derived.Deep.QuietTactic
import Derived.BigQuiet
import Derived.WalkMore
import Derived.Laws.RangeAny
import Derived.Lib.DecodeN
import Derived.Shelf.Strings.IndexAnyAll
import Derived.Test.YtendejpkdjkmnaaGreatDoorProg
import Derived.Shelf.RegionOpenPlain
import Derived.Test.YtendejpkdjkmnaaGreatDoorJa
import Derived.Lib.ConvBytes
import Derived.Deep.AppendLies
import Derived.Test.YtendejpkdjkmnaaGreatDoorJe
import Derived.Shelf.Strings.SlTrimAscii
/- The landed package of paths as list functions: a path cut at its slashes, each piece read. -/
namespace Go.Proofs.YtendejpkdjkmnaaGreatDoor
open Go.RowKit

/-- What stands between the slashes. -/
def pcsF : List UInt8 → List UInt8 → List (List UInt8)
  | cur, [] => [cur]
  | cur, c :: r => if c = 47 then cur :: pcsF [] r else pcsF (cur ++ [c]) r
/-- A piece, read; pd: a percent sign was read, and a digit. -/
def rdM : Option (Option UInt8) → List UInt8 → List UInt8
  | none, [] => []
  | some _, [] => []
  | none, c :: r => if c = 37 then rdM (some none) r else c :: rdM none r
  | some none, x :: r => rdM (some (some x)) r
  | some (some x), y :: r => byteH x y :: rdM none r
def rdF (s : List UInt8) : List UInt8 := rdM none s
theorem rd_nil : rdF [] = [] := rfl
theorem rd_on {c : UInt8} {r : List UInt8} (h : c ≠ 37) : rdF (c :: r) = c :: rdF r := by unfold rdF; rw [rdM, if_neg h]
theorem rd_pct (x y : UInt8) (r : List UInt8) : rdF (37 :: x :: y :: r) = byteH x y :: rdF r := by unfold rdF; rw [rdM, if_pos rfl, rdM, rdM]
theorem pcs_cur : ∀ (s cur : List UInt8), ∃ p ps, pcsF [] s = p :: ps ∧ pcsF cur s = (cur ++ p) :: ps
  | [], cur => ⟨[], [], rfl, by rw [pcsF, List.append_nil]⟩
  | c :: r, cur => by
    by_cases h : c = 47
    · exact ⟨[], pcsF [] r, by rw [pcsF, if_pos h], by rw [pcsF, if_pos h, List.append_nil]⟩
    · obtain ⟨p, ps, h1, h2⟩ := pcs_cur r [c]
      obtain ⟨p', ps', h3, h4⟩ := pcs_cur r (cur ++ [c])
      rw [h1] at h3
      injection h3 with e1 e2
      subst e1 e2
      exact ⟨c :: p, ps, by rw [pcsF, if_neg h, List.nil_append, h2]; rfl, by rw [pcsF, if_neg h, h4, List.append_assoc]; rfl⟩
theorem pcs_sep (r : List UInt8) : pcsF [] (47 :: r) = [] :: pcsF [] r := by rw [pcsF, if_pos rfl]
theorem pcs_on {c : UInt8} {r p : List UInt8} {ps : List (List UInt8)} (h : c ≠ 47) (hr : pcsF [] r = p :: ps) : pcsF [] (c :: r) = (c :: p) :: ps := by
  obtain ⟨p', ps', h1, h2⟩ := pcs_cur r [c]
  rw [hr] at h1
  injection h1 with e1 e2
  subst e1 e2
  rw [pcsF, if_neg h, List.nil_append, h2]; rfl
theorem pcs_some (s : List UInt8) : ∃ p ps, pcsF [] s = p :: ps := by obtain ⟨p, ps, h, _⟩ := pcs_cur s []; exact ⟨p, ps, h⟩
/-- Are all pieces segments that may be? -/
def allMay (l : List (List UInt8)) : Bool := l.all fun p => mayS (rdF p)
theorem spl_pcs : ∀ (n : Nat) (s seg p : List UInt8) (ps : List (List UInt8)), s.length ≤ n → okT s = true → pcsF [] s = p :: ps →
    splG seg s = if (mayS (seg ++ rdF p) && allMay ps) = true then some ((seg ++ rdF p) :: ps.map rdF) else none
  | n, s, seg, p, ps, hn, ho, hp => by
    rcases okT_cases ho with rfl | ⟨c, r, rfl, hc, _, hr⟩ | ⟨x, y, r, rfl, hx, hy, hr⟩
    · rw [pcsF] at hp
      injection hp with e1 e2
      subst e1 e2
      rw [spl_end, rd_nil, List.append_nil]
      simp [allMay]
    · obtain ⟨m, rfl⟩ : ∃ m, n = m + 1 := ⟨n - 1, by simp at hn; omega⟩
      have hm : r.length ≤ m := by simp at hn; omega
      by_cases h : c = 47
      · subst h
        rw [pcs_sep] at hp
        injection hp with e1 e2
        subst e1 e2
        obtain ⟨q, qs, hq⟩ := pcs_some r
        rw [spl_sep, spl_pcs m r [] q qs hm hr hq, rd_nil, List.append_nil, hq]
        simp only [allMay, List.nil_append, List.all_cons, List.map_cons]
        by_cases h1 : mayS seg = true <;> by_cases h2 : (mayS (rdF q) && qs.all fun p => mayS (rdF p)) = true <;> simp [h1, h2]
      · obtain ⟨q, qs, hq⟩ := pcs_some r
        rw [pcs_on h hq] at hp
        injection hp with e1 e2
        subst e1 e2
        rw [spl_on h hc, spl_pcs m r (seg ++ [c]) q qs hm hr hq, rd_on hc, List.append_assoc]
        rfl
    · obtain ⟨q, qs, hq⟩ := pcs_some r
      obtain ⟨m, rfl⟩ : ∃ m, n = m + 1 := ⟨n - 1, by simp at hn; omega⟩
      have hm : r.length ≤ m := by simp at hn; omega
      rw [pcs_on (by decide) (pcs_on (hex_not47 x hx) (pcs_on (hex_not47 y hy) hq))] at hp
      injection hp with e1 e2
      subst e1 e2
      rw [spl_pct, spl_pcs m r (seg ++ [byteH x y]) q qs hm hr hq, rd_pct, List.append_assoc]
      rfl
/-- Each piece of what is well written is. -/
theorem pcs_ok : ∀ (n : Nat) (s : List UInt8), s.length ≤ n → okT s = true → ∀ p ∈ pcsF [] s, okT p = true ∧ p.length ≤ s.length
  | n, s, hn, ho => by
    rcases okT_cases ho with rfl | ⟨c, r, rfl, hc, hv, hr⟩ | ⟨x, y, r, rfl, hx, hy, hr⟩
    · intro p hp
      obtain rfl : p = [] := by simpa [pcsF] using hp
      exact ⟨rfl, Nat.le_refl _⟩
    · obtain ⟨m, rfl⟩ : ∃ m, n = m + 1 := ⟨n - 1, by simp at hn; omega⟩
      have ih := pcs_ok m r (by simp at hn; omega) hr
      intro p hp
      by_cases h : c = 47
      · subst h
        rw [pcs_sep] at hp
        rcases List.mem_cons.1 hp with rfl | h2
        · exact ⟨rfl, Nat.zero_le _⟩
        · exact ⟨(ih p h2).1, Nat.le_succ_of_le (ih p h2).2⟩
      · obtain ⟨q, qs, hq⟩ := pcs_some r
        rw [pcs_on h hq] at hp
        rw [hq] at ih
        rcases List.mem_cons.1 hp with rfl | h2
        · have := ih q (List.mem_cons_self ..)
          exact ⟨by rw [okT_one hc, hv, this.1]; rfl, by simp; exact this.2⟩
        · have := ih p (List.mem_cons_of_mem _ h2)
          exact ⟨this.1, Nat.le_succ_of_le this.2⟩
    · obtain ⟨m, rfl⟩ : ∃ m, n = m + 1 := ⟨n - 1, by simp at hn; omega⟩
      have ih := pcs_ok m r (by simp at hn; omega) hr
      intro p hp
      obtain ⟨q, qs, hq⟩ := pcs_some r
      rw [pcs_on (by decide) (pcs_on (hex_not47 x hx) (pcs_on (hex_not47 y hy) hq))] at hp
      rw [hq] at ih
      rcases List.mem_cons.1 hp with rfl | h2
      · have := ih q (List.mem_cons_self ..)
        exact ⟨by rw [okT_pct hx hy]; exact this.1, by simp; exact this.2⟩
      · have := ih p (List.mem_cons_of_mem _ h2)
        exact ⟨this.1, by simp; omega⟩
theorem pcs_len : ∀ (s cur : List UInt8), (pcsF cur s).length ≤ s.length + 1
  | [], cur => by simp [pcsF]
  | c :: r, cur => by
    rw [pcsF]
    split
    · have := pcs_len r []
      simp only [List.length_cons]; omega
    · have := pcs_len r (cur ++ [c])
      simp only [List.length_cons]; omega
/-- The split, by pieces. -/
theorem splitF_pcs {s : List UInt8} (h : pathOk s) : splitF s = if allMay (pcsF [] (s.drop 1)) = true then some ((pcsF [] (s.drop 1)).map rdF) else none := by
  unfold splitF
  rw [if_pos h]
  obtain ⟨p, ps, hp⟩ := pcs_some (s.drop 1)
  have ho : okT (s.drop 1) = true := by
    obtain ⟨h0, _, h2, _⟩ := h
    cases s with
    | nil => rfl
    | cons c r =>
      have hc : c = 47 := by simpa using h0
      subst hc
      rw [okT_one (by decide), Bool.and_eq_true] at h2
      exact h2.2
  rw [spl_pcs _ _ [] p ps (Nat.le_refl _) ho hp, hp]
  rfl
theorem pcs_index : ∀ (s cur : List UInt8), (Lib.index s [47] = -1 → pcsF cur s = [cur ++ s]) ∧ ∀ i : Nat, Lib.index s [47] = (i : Int) → pcsF cur s = (cur ++ s.take i) :: pcsF [] (s.drop (i + 1))
  | [], cur => ⟨fun _ => by rw [pcsF, List.append_nil], fun i h => by
      have e : Lib.index [] [47] = -1 := rfl
      rw [e] at h; omega⟩
  | c :: r, cur => by
    obtain ⟨i1, i2⟩ := pcs_index r (cur ++ [c])
    have hge := Lib.index_ge r [47]
    rw [Lib.index_one, Lib.indexByte]
    rw [Lib.index_one] at i1 i2 hge
    by_cases h : c = 47
    · subst h
      rw [if_pos (by simp)]
      refine ⟨fun e => absurd e (by decide), fun i e => ?_⟩
      obtain rfl : i = 0 := by omega
      rw [pcsF, if_pos rfl]; simp
    · rw [if_neg (by simpa using h)]
      rw [pcsF, if_neg h]
      by_cases hm : Lib.indexByte r 47 = -1
      · rw [if_pos (beq_iff_eq.2 hm)]
        exact ⟨fun _ => by rw [i1 hm, List.append_assoc]; rfl, fun i e => by omega⟩
      · rw [if_neg (fun e => hm (beq_iff_eq.1 e))]
        refine ⟨fun e => by omega, fun i e => ?_⟩
        obtain ⟨j, rfl⟩ : ∃ j, i = j + 1 := ⟨i - 1, by omega⟩
        rw [i2 j (by omega), List.append_assoc]
        rfl
theorem split_pcs : ∀ (n : Nat) (s : List UInt8), s.length ≤ n → Lib.splitK [47] 0 (Lib.count s [47]) s = pcsF [] s
  | n, s, hn => by
    have hge := Lib.index_ge s [47]
    obtain ⟨i1, i2⟩ := pcs_index s []
    by_cases hm : Lib.index s [47] = -1
    · rw [Lib.count_miss hm, i1 hm]; rfl
    · obtain ⟨j, hj⟩ : ∃ j : Nat, Lib.index s [47] = j := ⟨(Lib.index s [47]).toNat, by omega⟩
      have hne : s ≠ [] := by rintro rfl; exact hm rfl
      have hpos : 0 < s.length := List.length_pos_iff.2 hne
      rw [Lib.count_hit (by simp) hj, Nat.add_comm, Lib.splitK, if_neg (fun e => hm (beq_iff_eq.1 e)), hj, i2 j hj]
      have hl : ([47] : List UInt8).length = 1 := rfl
      rw [hl, Int.toNat_natCast, Nat.add_zero, List.nil_append]
      obtain ⟨m, rfl⟩ : ∃ m, n = m + 1 := ⟨n - 1, by omega⟩
      rw [split_pcs m (s.drop (j + 1)) (by rw [List.length_drop]; omega)]
end Go.Proofs.YtendejpkdjkmnaaGreatDoor
/- Whether a text has a slash or a byte 0: strings.ContainsAny walked, at any text. -/
namespace Go.Proofs.YtendejpkdjkmnaaGreatDoor
open Go.RowKit
attribute [local go_sem] store_one B_match B_store S_match S_store eguard_BN nguard_BN

/-- A slash, or a byte 0. -/
def badC (c : UInt8) : Bool := c == 47 || c == 0
theorem byteIn_none (t : ByteArray) (c : UInt8) (h : ∀ b ∈ t.data.toList, b ≠ c) (w : World) : Calls Tryz.prog 63 #[.string t, B c] w fun e w' => e = .returned (.int .i64 (-1)) ∧ w' = w := by
  refine (Tryz.strings_IndexByte t (c.toNat : Int) w).mono ?_
  rintro e w' ⟨rfl, rfl⟩
  have e2 : (c.toNat : Int).toNat.toUInt8 = c := by simp
  have e3 : ∀ (l : List UInt8), (∀ b ∈ l, b ≠ c) → Lib.indexByte l c = -1 := by
    intro l
    induction l with
    | nil => intro _; rfl
    | cons x r ih =>
      intro h
      have hx := h x (by simp)
      have := ih (fun b hb => h b (by simp [hb]))
      unfold Lib.indexByte
      simp [hx, this]
  rw [e2, e3 _ h]
  exact ⟨rfl, rfl⟩
set_option maxRecDepth 100000 in
set_option maxHeartbeats 2000000 in
theorem rune_valid2 (s : ByteArray) (ha : ∀ b ∈ s.data.toList, b.toNat < 128) (h2 : s.size = 2) (r : Nat) (h128 : 128 ≤ r) (hr : r ≤ 1114111) (hne : r ≠ 65533) (hv : Lib.validRune (r : Int) = true) (w : World) :
    Calls Tryz.prog 118 #[.string s, .int .i32 (r : Int)] w fun e w' => e = .returned (.int .i64 (-1)) ∧ Below w.heap.size w w' := by
  have hv2 : Utf8.valid (r : Int) = true := by rw [validRune_eq]; exact hv
  obtain ⟨e1, e2, e3⟩ := encode_facts (r : Int) hv2 (by omega)
  obtain ⟨n, hn⟩ : ∃ n, (Utf8.encode (r : Int)).size = n + 1 := ⟨(Utf8.encode (r : Int)).size - 1, by omega⟩
  obtain ⟨c, hc128, hc⟩ : ∃ c : UInt8, 128 ≤ c.toNat ∧ (Utf8.encode (r : Int)).data.toList[n]? = some c :=
    ⟨(Utf8.encode (r : Int))[n]'(by omega), by simpa [hn] using e3 (by omega), get_text _ n (by omega)⟩
  have i2 : ∀ w, (Instr.index 9 (.string (Utf8.encode (r : Int))) (.int .i64 (n : Int))).run Tryz.prog w = .ok (B c) w := fun w => index_text Tryz.underlying9 _ _ rfl n c hc w
  have hsz : ((Utf8.encode (r : Int)).size : Int) = (n : Int) + 1 := by omega
  have hge : ¬ (r : Int) < 128 := by omega
  have hrne : ((r : Int) == 65533) = false := by rw [beq_eq_false_iff_ne]; omega
  have hn3 : n ≤ 3 := by omega
  have HV := Lib.hid hv
  clear hv
  by_cases hns : n < s.size
  · obtain ⟨x, hx128, hx⟩ : ∃ x : UInt8, x.toNat < 128 ∧ s.data.toList[n]? = some x := ⟨s[n]'(by omega), ha _ (mem_text s n (by omega)), get_text s n (by omega)⟩
    have i1 : ∀ w, (Instr.index 9 (.string s) (.int .i64 (n : Int))).run Tryz.prog w = .ok (B x) w := fun w => index_text Tryz.underlying9 _ _ rfl n x hx w
    clear hn h2
    clear hc hx e3 hne hv2 e1 e2
    have HX := Lib.hid hx128
    go_enter Tryz.func118, Tryz.ntmps118
    go_wp2_with (first
      | (go_at_call 130; refine (Tryz.utf8_ValidRune _ _).mono ?_; rintro e w' ⟨rfl, hw⟩; rw [HV.out, hw]; clear hw)
      | fail)
    have hxc : x ≠ c := by intro e; rw [e] at hx128; omega
    have hneq := B_neq 5 x c hxc
    have hgd := nguard_B 5
    go_step3
    go_wp2
    refine wp_loop_rounds 1 ?_
    rw [rounds_succ]
    go_wp2
    go_step3
    go_wp2
    have hb0 : (0 : Int) ≤ (n : Int) := Int.natCast_nonneg _
    have hb1 : (n : Int) < (s.size : Int) := by omega
    have hb2 : (n : Int) < (n : Int) + 1 := by omega
    go_quiet (fail)
    go_wp2
    have hBW : Below w.heap.size w (w.drewN nq) := below_drewN w nq
    generalize w.drewN nq = W at *
    go_quiet ((go_at_call 63; exact Calls.quiet_of_same (byteIn_none _ c (fun b hb e => by rw [e] at hb; have := ha _ (mem_extract hb); omega) _)))
    go_wp2
    rw [Exit.noGoto_ret]
    go_wp2
    rw [Exit.noGoto_ret]
    go_wp2
    go_ret
    exact ⟨rfl, hBW.trans ((below_drewN W nq).mono hBW.size)⟩
  · have hb1 : ¬ (n : Int) < (s.size : Int) := by omega
    clear hn h2 hns ha
    clear hc e3 hne hv2 e1 e2
    go_enter Tryz.func118, Tryz.ntmps118
    go_wp2_with (first
      | (go_at_call 130; refine (Tryz.utf8_ValidRune _ _).mono ?_; rintro e w' ⟨rfl, hw⟩; rw [HV.out, hw]; clear hw)
      | fail)
    go_step3
    go_wp2
    refine wp_loop_rounds 1 ?_
    rw [rounds_succ]
    clear hsz hge hn3 hc128 h128 hr hrne i2 HV
    go_wp2
    rw [Exit.noGoto_ret]
    go_wp2
    go_ret
    exact ⟨rfl, Below.refl _ _⟩

set_option maxRecDepth 100000 in
set_option maxHeartbeats 2000000 in
theorem rune_bad2 (s : ByteArray) (r : Nat) (h128 : 128 ≤ r) (hr : r ≤ 1114111) (hne : r ≠ 65533) (hv : Lib.validRune (r : Int) = false) (w : World) :
    Calls Tryz.prog 118 #[.string s, .int .i32 (r : Int)] w fun e w' => e = .returned (.int .i64 (-1)) ∧ Below w.heap.size w w' := by
  have hge : ¬ (r : Int) < 128 := by omega
  have hrne : ((r : Int) == 65533) = false := by rw [beq_eq_false_iff_ne]; omega
  have HV := Lib.hid hv
  clear hv hne
  go_enter Tryz.func118, Tryz.ntmps118
  go_wp2_with (first
    | (go_at_call 130; refine (Tryz.utf8_ValidRune _ _).mono ?_; rintro e w' ⟨rfl, hw⟩; rw [HV.out, hw]; clear hw)
    | fail)
  go_ret
  exact ⟨rfl, Below.refl _ _⟩

set_option maxRecDepth 100000 in
set_option maxHeartbeats 2000000 in
theorem rune_error2 (s : ByteArray) (ha : ∀ b ∈ s.data.toList, b.toNat < 128) (w : World) :
    Calls Tryz.prog 118 #[.string s, .int .i32 65533] w fun e w' => e = .returned (.int .i64 (-1)) ∧ Below w.heap.size w w' := by
  have HA := Lib.hid ha
  clear ha
  go_enter Tryz.func118, Tryz.ntmps118
  go_wp2
  go_loopw [5] (fun _ wr => ∃ pos, pos ≤ s.size ∧ wr = w.iter s pos) (fun _ wr => s.size - wr.iterPos w.heap.size)
  case atStart => exact ⟨0, Nat.zero_le _, rfl⟩
  case round =>
    obtain ⟨pos, hp, rfl⟩ := hrel
    by_cases hlt : pos < s.size
    · have hnx := run_next_ascii (P := Tryz.prog) w s pos 0 hlt (HA.out _ (mem_text s pos hlt))
      have hb := HA.out _ (mem_text s pos hlt)
      have hsn : (((s[pos]'hlt).toNat : Int) == 65533) = false := by rw [beq_eq_false_iff_ne]; omega
      go_wp2
      exact ⟨⟨pos + 1, by omega, rfl⟩, by rw [World.iterPos_iter, World.iterPos_iter]; omega⟩
    · have hnx := run_next_end (P := Tryz.prog) w s pos 0 hlt
      go_wp2
      go_ret
      exact ⟨rfl, (Below.refl _ _).alloc (Nat.le_refl _) _⟩
theorem bad_ascii : ∀ b ∈ (⟨#[47, 0]⟩ : ByteArray).data.toList, b.toNat < 128 := by decide +kernel
theorem runeB_any (r : Nat) (h128 : 128 ≤ r) (hr : r ≤ 1114111) (w : World) :
    Calls Tryz.prog 118 #[.string ⟨#[47, 0]⟩, .int .i32 (r : Int)] w fun e w' => e = .returned (.int .i64 (-1)) ∧ Below w.heap.size w w' := by
  by_cases hne : r = 65533
  · subst hne
    exact rune_error2 _ bad_ascii w
  · cases hv : Lib.validRune (r : Int) with
    | true => exact rune_valid2 _ bad_ascii (by decide) r h128 hr hne hv w
    | false => exact rune_bad2 _ r h128 hr hne hv w

theorem decode_geA (s : ByteArray) (i : Nat) (h : 128 ≤ (s.get! i).toNat) : 128 ≤ (Utf8.decode s i).1 ∧ (Utf8.decode s i).1 ≤ 1114111 := by
  rw [Lib.decode_at]
  generalize (s.get! i).toNat = b0 at *
  generalize (s.get! (i + 1)).toNat = b1
  generalize (s.get! (i + 2)).toNat = b2
  generalize (s.get! (i + 3)).toNat = b3
  generalize s.size - i = n
  unfold Lib.decodeN
  repeat' split
  all_goals (constructor <;> simp only <;> omega)
/-- What a rune that is no ASCII takes: bytes that aren't, either. -/
theorem decode_span (s : ByteArray) (i : Nat) (h : 128 ≤ (s.get! i).toNat) (hi : i < s.size) : 1 ≤ (Utf8.decode s i).2 ∧ i + (Utf8.decode s i).2 ≤ s.size ∧ ∀ j, j < (Utf8.decode s i).2 → 128 ≤ (s.get! (i + j)).toNat := by
  rw [Lib.decode_at]
  have e0 : i + 0 = i := rfl
  obtain ⟨b0, h0⟩ : ∃ b, b = (s.get! i).toNat := ⟨_, rfl⟩
  obtain ⟨b1, h1⟩ : ∃ b, b = (s.get! (i + 1)).toNat := ⟨_, rfl⟩
  obtain ⟨b2, h2⟩ : ∃ b, b = (s.get! (i + 2)).toNat := ⟨_, rfl⟩
  obtain ⟨b3, h3⟩ : ∃ b, b = (s.get! (i + 3)).toNat := ⟨_, rfl⟩
  have hj : ∀ j, j < 4 → (s.get! (i + j)).toNat = if j = 0 then b0 else if j = 1 then b1 else if j = 2 then b2 else b3 := by
    intro j hj
    have : j = 0 ∨ j = 1 ∨ j = 2 ∨ j = 3 := by omega
    rcases this with rfl | rfl | rfl | rfl
    · rw [if_pos rfl, h0, Nat.add_zero]
    · rw [h1]; rfl
    · rw [h2]; rfl
    · rw [h3]; rfl
  rw [← h0] at h ⊢
  rw [← h1, ← h2, ← h3]
  clear h0 h1 h2 h3
  obtain ⟨n, hn⟩ : ∃ n, n = s.size - i := ⟨_, rfl⟩
  rw [← hn]
  have key : ∀ k, (Lib.decodeN n b0 b1 b2 b3).2 = k → 1 ≤ k ∧ k ≤ n ∧ k ≤ 4 ∧ (2 ≤ k → 128 ≤ b1) ∧ (3 ≤ k → 128 ≤ b2) ∧ (4 ≤ k → 128 ≤ b3) := by
    intro k hk
    unfold Lib.decodeN at hk
    repeat' split at hk
    all_goals (simp only at hk; omega)
  obtain ⟨k1, k2, k3, k4, k5, k6⟩ := key _ rfl
  refine ⟨k1, by omega, fun j hjk => ?_⟩
  rw [hj j (by omega)]
  split
  · exact h
  · split
    · exact k4 (by omega)
    · split
      · exact k5 (by omega)
      · exact k6 (by omega)

theorem bad_byte : ∀ c : UInt8, decide (0 ≤ Lib.indexByte [47, 0] c) = badC c := fun c => by
  have := all_bytes (p := fun c => decide (0 ≤ Lib.indexByte [47, 0] c) == badC c) (by decide +kernel) c
  exact beq_iff_eq.1 this
theorem bad_get (L : List UInt8) (n : Nat) (h : n < L.length) : ((⟨L.toArray⟩ : ByteArray).get! n) = L[n] := by
  show L.toArray[n]! = L[n]
  rw [getElem!_pos _ _ (by simpa using h)]
  simp

set_option maxRecDepth 100000 in
set_option maxHeartbeats 2000000 in
theorem any_short (L : List UInt8) (h8 : L.length ≤ 8) (w : World) :
    Calls Tryz.prog 97 #[S L, .string ⟨#[47, 0]⟩] w fun e w' => ∃ k : Int, e = .returned (.int .i64 k) ∧ decide (0 ≤ k) = L.any badC ∧ Below w.heap.size w w' := by
  have hlen := run_len_S (P := Tryz.prog) Tryz.underlying9 3 L
  have h8z : decide ((8 : Int) < (L.length : Int)) = false := decide_eq_false (by omega)
  have hS : S L = .string ⟨L.toArray⟩ := rfl
  rw [hS] at hlen ⊢
  go_enter Tryz.func97, Tryz.ntmps97
  go_wp2_with (first
    | (go_at_call 119; refine (Tryz.strings_shouldUseASCIISet _ _).mono ?_; rintro e w' ⟨rfl, hw⟩; rw [hw, h8z])
    | fail)
  obtain ⟨K, hK⟩ : ∃ K, K = w.heap.size := ⟨_, rfl⟩
  have HI : Hid ((w.iter ⟨L.toArray⟩ 0).heap[K]? = some (.stringIter ⟨L.toArray⟩ 0) ∧ Below w.heap.size w (w.iter ⟨L.toArray⟩ 0)) := Lib.hid ⟨by rw [hK]; exact World.iter_heap _ _ _, (Below.refl _ _).alloc (Nat.le_refl _) _⟩
  rw [← hK]
  have HK := Lib.hid (Nat.le_of_eq hK.symm : w.heap.size ≤ K)
  clear hK
  go_loopw [9, 10] (fun _ _ wr => ∃ k, k ≤ L.length ∧ Hid (wr.heap[K]? = some (.stringIter ⟨L.toArray⟩ k) ∧ Below w.heap.size w wr ∧ (L.take k).any badC = false)) (fun _ _ wr => L.length - wr.iterPos K)
  case atStart => exact ⟨0, Nat.zero_le _, Lib.hid ⟨HI.out.1, HI.out.2, rfl⟩⟩
  case round =>
    obtain ⟨k, hk, HR⟩ := hrel
    obtain ⟨hit, hbel, hno⟩ := HR.out
    have HB := Lib.hid hbel
    have HN := Lib.hid hno
    have hKb := HK.out
    have hi0 : wr.iterPos K = k := by simp only [World.iterPos, hit]
    have HP := Lib.hid hi0
    clear hbel hno hi0
    by_cases hlt : k < L.length
    · obtain ⟨c, hc⟩ : ∃ c, L[k]? = some c := ⟨L[k], List.getElem?_eq_getElem hlt⟩
      obtain ⟨_, hcc⟩ := List.getElem?_eq_some_iff.1 hc
      have hs : k < (⟨L.toArray⟩ : ByteArray).size := by rw [S_size]; exact hlt
      have hb : ((⟨L.toArray⟩ : ByteArray)[k]'hs) = c := by rw [← hcc]; rfl
      have HT : Hid ((L.take (k + 1)).any badC = badC c) := Lib.hid (by rw [List.take_add_one, hc, Option.toList_some, List.any_append, HN.out]; simp)
      have HA : Hid (badC c = true → L.any badC = true) := Lib.hid (fun h => List.any_eq_true.2 ⟨c, List.mem_of_getElem? hc, h⟩)
      by_cases h128 : c.toNat < 128
      · have hnx := fun ty => Lib.run_next_ascii_at (P := Tryz.prog) wr K ⟨L.toArray⟩ k ty hit hs (by rw [hb]; exact h128)
        simp only [hb] at hnx
        have HB2 := Lib.hid (Lib.below_iterAt HB.out hKb ⟨L.toArray⟩ (k + 1))
        have HIT := Lib.hid (Lib.iterAt_heap wr K ⟨L.toArray⟩ k (k + 1) hit)
        have hq := bad_byte c
        have hback : ((c.toNat : Int)).toNat.toUInt8 = c := by simp
        have hir := fun W => Tryz.strings_IndexRune_ascii ⟨#[47, 0]⟩ (c.toNat : Int) W (by omega) (by omega)
        rw [hback] at hir
        obtain ⟨v, hv⟩ : ∃ v : Int, v = Lib.indexByte [47, 0] c := ⟨_, rfl⟩
        have HIR := Lib.hid (fun W => (hir W).mono fun e w' (h : e = .returned (.int .i64 (Lib.indexByte [47, 0] c)) ∧ w' = W) => (show e = .returned (.int .i64 v) ∧ w' = W by rw [hv]; exact h))
        rw [← hv] at hq
        clear hir hback hv hb hs hc hcc hit
        cases hbc : badC c with
        | false =>
          rw [hbc] at hq
          have HT2 : Hid ((L.take (k + 1)).any badC = false) := Lib.hid (by rw [HT.out, hbc])
          clear hbc
          go_wp2_with (first
            | (go_at_call 118; refine (HIR.out _).mono ?_; rintro e w' ⟨rfl, hw⟩; rw [hw])
            | fail)
          refine ⟨⟨k + 1, by omega, Lib.hid ⟨HIT.out, HB2.out, HT2.out⟩⟩, ?_⟩
          have e1 : (wr.iterAt K ⟨L.toArray⟩ (k + 1)).iterPos K = k + 1 := by simp only [World.iterPos, HIT.out]
          rw [e1, HP.out]; omega
        | true =>
          rw [hbc] at hq
          have HT2 : Hid (L.any badC = true) := Lib.hid (HA.out hbc)
          clear hbc
          go_wp2_with (first
            | (go_at_call 118; refine (HIR.out _).mono ?_; rintro e w' ⟨rfl, hw⟩; rw [hw])
            | fail)
          go_ret
          exact ⟨_, rfl, by rw [HT2.out]; exact decide_eq_true (by omega), HB2.out⟩
      · have hg : ((⟨L.toArray⟩ : ByteArray).get! k) = c := by rw [bad_get L k hlt, hcc]
        obtain ⟨d1, d2⟩ := decode_geA ⟨L.toArray⟩ k (by rw [hg]; omega)
        obtain ⟨q1, q2, q3⟩ := decode_span ⟨L.toArray⟩ k (by rw [hg]; omega) hs
        rw [S_size] at q2
        have hnx := fun ty => Lib.run_next_any_at (P := Tryz.prog) wr K ⟨L.toArray⟩ k ty hit hs
        generalize (Utf8.decode ⟨L.toArray⟩ k).1 = r at *
        generalize (Utf8.decode ⟨L.toArray⟩ k).2 = wd at *
        have HB2 := Lib.hid (Lib.below_iterAt HB.out hKb ⟨L.toArray⟩ (k + wd))
        have HIT := Lib.hid (Lib.iterAt_heap wr K ⟨L.toArray⟩ k (k + wd) hit)
        have HT2 : Hid ((L.take (k + wd)).any badC = false) := Lib.hid (by
          rw [List.any_eq_false]
          intro b hbm
          obtain ⟨i, hi⟩ := List.mem_iff_getElem?.1 hbm
          have hil : i < k + wd := by
            have := (List.getElem?_eq_some_iff.1 hi).1
            rw [List.length_take] at this; omega
          rw [List.getElem?_take_of_lt hil] at hi
          by_cases hik : i < k
          · have := HN.out
            rw [List.any_eq_false] at this
            exact this b (List.mem_iff_getElem?.2 ⟨i, by rw [List.getElem?_take_of_lt hik]; exact hi⟩)
          · have h3 := q3 (i - k) (by omega)
            rw [show k + (i - k) = i by omega, bad_get L i (by omega)] at h3
            have h4 := (List.getElem?_eq_some_iff.1 hi).2
            rw [h4] at h3
            unfold badC
            have n1 : b ≠ 47 := by rintro rfl; exact absurd h3 (by decide)
            have n2 : b ≠ 0 := by rintro rfl; exact absurd h3 (by decide)
            simp [n1, n2])
        have HIR := Lib.hid (fun W => runeB_any r d1 d2 W)
        clear hb hs hc hcc hit hg q3 HT HA h128
        go_wp2_with (first
          | (go_at_call 118; refine (HIR.out _).mono ?_; rintro e W3 ⟨rfl, hw⟩)
          | fail)
        have hI3 : W3.heap[K]? = some (.stringIter ⟨L.toArray⟩ (k + wd)) := (hw.block K (Array.getElem?_eq_some_iff.1 HIT.out).1).trans HIT.out
        refine ⟨⟨k + wd, q2, Lib.hid ⟨hI3, HB2.out.trans (hw.mono HB2.out.size), HT2.out⟩⟩, ?_⟩
        have e1 : W3.iterPos K = k + wd := by simp only [World.iterPos, hI3]
        rw [e1, HP.out]; omega
    · obtain rfl : k = L.length := by omega
      rw [List.take_length] at HN
      have hnx := fun ty => Lib.run_next_end_at (P := Tryz.prog) wr K ⟨L.toArray⟩ L.length ty hit (by rw [S_size]; exact Nat.lt_irrefl _)
      clear hit
      go_wp2
      go_ret
      exact ⟨_, rfl, by rw [HN.out]; rfl, HB.out⟩
theorem any_bad : ∀ L : List UInt8, decide (0 ≤ Lib.indexAny L [47, 0]) = L.any badC
  | [] => rfl
  | c :: r => by
    have ih := any_bad r
    have hc := bad_byte c
    rw [← Lib.contains_iff_indexByte] at hc
    have hge := Lib.indexAny_ge [47, 0] r
    unfold Lib.indexAny
    rw [List.any_cons, ← hc]
    cases h : ([47, 0] : List UInt8).contains c with
    | true => simp
    | false =>
      rw [Bool.false_or, ← ih]
      simp only [Bool.false_eq_true, if_false]
      split
      · rename_i h1
        have h1 := beq_iff_eq.1 h1
        rw [h1]
      · rename_i h1
        have h1 : ¬ Lib.indexAny r [47, 0] = -1 := fun e => h1 (beq_iff_eq.2 e)
        rw [decide_eq_true (by omega), decide_eq_true (by omega)]
theorem any_long (L : List UInt8) (h8 : 8 < L.length) (hl : L.length ≤ 100000) (w : World) :
    Calls Tryz.prog 97 #[S L, .string ⟨#[47, 0]⟩] w fun e w' => ∃ k : Int, e = .returned (.int .i64 k) ∧ decide (0 ≤ k) = L.any badC ∧ Below w.heap.size w w' := by
  have hsz := S_size L
  have h116 : (Tryz.prog.info? (Tryz.lays153_ren.t 116)).map (fun i => (i.zero, i.size)) = some (some (.agg (Array.replicate 256 (.bool false))), 256) := by kernel_rfl
  refine (Any.strings_IndexAny_long Tryz.lays153 (zero_of_info h116).1 (zero_of_info h116).2 ⟨L.toArray⟩ ⟨#[47, 0]⟩ w (by decide) (by omega) (by omega) (by decide) (fun j b hb => bad_ascii b (List.mem_of_getElem? hb))).mono ?_
  rintro e w' ⟨rfl, rfl⟩
  exact ⟨_, rfl, any_bad L, ((Below.refl _ _).alloc (Nat.le_refl _) _).alloc (by simp) _⟩
set_option maxRecDepth 100000 in
set_option maxHeartbeats 400000 in
theorem containsany_any (L : List UInt8) (hl : L.length ≤ 100000) (w : World) :
    Calls Tryz.prog 73 #[S L, .string ⟨#[47, 0]⟩] w fun e w' => e = .returned (.bool (L.any badC)) ∧ Below w.heap.size w w' := by
  have h : ∀ W, Calls Tryz.prog 97 #[S L, .string ⟨#[47, 0]⟩] W fun e w' => ∃ k : Int, e = .returned (.int .i64 k) ∧ decide (0 ≤ k) = L.any badC ∧ Below W.heap.size W w' := fun W => by
    by_cases h8 : L.length ≤ 8
    · exact any_short L h8 W
    · exact any_long L (by omega) hl W
  have H := Lib.hid h
  clear h hl
  go_enter Tryz.func73, Tryz.ntmps73
  go_wp2_with (first
    | (go_at_call 97; refine (H.out _).mono ?_; rintro e w' ⟨k, rfl, hk, hw⟩)
    | fail)
  go_ret
  exact ⟨by first | rw [hk] | (rw [← hk]; rfl) | (congr 2), hw⟩
set_option maxRecDepth 100000 in
set_option maxHeartbeats 400000 in
/-- The landed right. -/
theorem pright_any (L : List UInt8) (hl : L.length ≤ 100000) (w : World) :
    Calls Tryz.prog 50 #[S L] w fun e w' => e = .returned (.bool (mayS L)) ∧ Below w.heap.size w w' := by
  have hE : mayS L = (L != [46] && (L != [46, 46] && !(L.any badC))) := by
    unfold mayS
    have : L.all (fun c => c != 47 && c != 0) = !(L.any badC) := by
      rw [List.not_any_eq_all_not]
      congr 1
      funext c
      unfold badC
      cases h1 : (c == 47) <;> cases h2 : (c == 0) <;> simp [h1, h2, bne]
    rw [this]
    cases (L.any badC) <;> cases (L != [46]) <;> cases (L != [46, 46]) <;> rfl
  have q1 : binOp .neq 9 (S L) (.string ⟨#[46]⟩) = pure (.bool (L != [46])) := neql_S 9 L [46]
  have n1 : ∀ x y, eqGuard .neq 9 x y (S L) (.string ⟨#[46]⟩) = pure () := fun x y => nguard_S 9 x y L [46]
  have q2 : binOp .neq 9 (S L) (.string ⟨#[46, 46]⟩) = pure (.bool (L != [46, 46])) := neql_S 9 L [46, 46]
  have n2 : ∀ x y, eqGuard .neq 9 x y (S L) (.string ⟨#[46, 46]⟩) = pure () := fun x y => nguard_S 9 x y L [46, 46]
  have H := Lib.hid (fun W => containsany_any L hl W)
  rw [hE]
  clear hE hl
  generalize L.any badC = b at *
  cases h1 : (L != [46]) <;> rw [h1] at q1 <;> cases h2 : (L != [46, 46]) <;> rw [h2] at q2 <;> clear h1 h2
  all_goals
    go_enter Tryz.func50, Tryz.ntmps50
    go_wp2_with (first
      | (go_at_call 73; refine (H.out _).mono ?_; rintro e w' ⟨rfl, hw⟩)
      | fail)
    go_ret
    first | exact ⟨rfl, Below.refl _ _⟩ | exact ⟨by cases b <;> rfl, hw⟩
end Go.Proofs.YtendejpkdjkmnaaGreatDoor
/- What is asked of the package of paths. -/
namespace Go.Proofs.YtendejpkdjkmnaaGreatDoor
open Go.RowKit

/-- What Split hands back. -/
def SplitV (o : Option (List (List UInt8))) (w : World) (e : Ending) (w' : World) : Prop :=
  ∃ V, e = .returned (.tuple #[V, .bool o.isSome]) ∧ Own w.heap.size V ((o.getD []).map S) w' ∧ Below w.heap.size w w'
def joinV (o : Option (List UInt8)) : Value := match o with
  | none => .tuple #[S [], .bool false]
  | some s => .tuple #[S s, .bool true]
/-- line.Target, for what is joined. -/
def TargetI : Prop := ∀ (s : List UInt8) (w : World), s.length ≤ 100000 → Calls Tryz.prog 46 #[S s] w fun e w' => e = .returned (targetV (targetF s)) ∧ Below w.heap.size w w'
end Go.Proofs.YtendejpkdjkmnaaGreatDoor
/- A reply's line, and what the statements ask of it. -/
namespace Go.Proofs.YtendejpkdjkmnaaGreatDoor
open Go.RowKit

/-- HTTP/1.1 and a blank. -/
def httpS : List UInt8 := [72, 84, 84, 80, 47, 49, 46, 49, 32]
def digB (c : UInt8) : Bool := decide (48 ≤ c.toNat) && decide (c.toNat ≤ 57)
def codeN (a b c : UInt8) : Nat := 100 * (a.toNat - 48) + 10 * (b.toNat - 48) + (c.toNat - 48)
def statusF (s : List UInt8) : Nat × List UInt8 × Bool :=
  match s.drop 9 with
  | a :: b :: c :: 32 :: r => if s.take 9 = httpS ∧ digB a = true ∧ digB b = true ∧ digB c = true ∧ 49 ≤ a.toNat ∧ a.toNat ≤ 53 ∧ r.any badB = false then (codeN a b c, r, true) else (0, [], false)
  | _ => (0, [], false)
def statusV (p : Nat × List UInt8 × Bool) : Value := .tuple #[.int .i64 (p.1 : Int), S p.2.1, .bool p.2.2]
/-- The three digits of a code. -/
def dig3 (n : Nat) : List UInt8 := [UInt8.ofNat (48 + n / 100), UInt8.ofNat (48 + n / 10 % 10), UInt8.ofNat (48 + n % 10)]
theorem dec3 {n : Nat} (h1 : 100 ≤ n) (h2 : n ≤ 999) : Lib.decDigits n = dig3 n := by
  rw [Lib.decDigits, dif_neg (by omega), Lib.decDigits, dif_neg (by omega), Lib.decDigits, dif_pos (by omega)]
  unfold dig3
  have e : n / 10 / 10 = n / 100 := by omega
  rw [e]; rfl
theorem itoa3 {n : Nat} (h1 : 100 ≤ n) (h2 : n ≤ 999) : Lib.itoa (n : Int) = dig3 n := by
  unfold Lib.itoa
  rw [if_neg (by omega), show (n : Int).toNat = n by omega, dec3 h1 h2]
theorem dig_nat {k : Nat} (h : k ≤ 9) : (UInt8.ofNat (48 + k)).toNat = 48 + k := by
  rw [UInt8.toNat_ofNat']; omega
theorem status_false {s r : List UInt8} {c : Nat} (h : statusF s = (c, r, false)) : c = 0 ∧ r = [] := by
  unfold statusF at h
  split at h
  · split at h
    · cases h
    · cases h; exact ⟨rfl, rfl⟩
  · cases h; exact ⟨rfl, rfl⟩
theorem dig_of {a : UInt8} (h : digB a = true) : 48 ≤ a.toNat ∧ a.toNat ≤ 57 ∧ a = UInt8.ofNat (48 + (a.toNat - 48)) := by
  unfold digB at h
  rw [Bool.and_eq_true, decide_eq_true_eq, decide_eq_true_eq] at h
  refine ⟨h.1, h.2, ?_⟩
  rw [show 48 + (a.toNat - 48) = a.toNat by omega, UInt8.ofNat_toNat]
/-- What is read of a reply's line is put together as it. -/
theorem status_true {s r : List UInt8} {c : Nat} (h : statusF s = (c, r, true)) : 100 ≤ c ∧ c ≤ 599 ∧ r.any badB = false ∧ s = httpS ++ (dig3 c ++ 32 :: r) ∧ r.length ≤ s.length := by
  unfold statusF at h
  split at h
  · rename_i x a b c' r' hd
    split at h
    · rename_i hc
      obtain ⟨h9, ha, hb, hc', h1, h5, hr⟩ := hc
      cases h
      obtain ⟨a1, a2, a3⟩ := dig_of ha
      obtain ⟨b1, b2, b3⟩ := dig_of hb
      obtain ⟨c1, c2, c3⟩ := dig_of hc'
      have hs : s = httpS ++ (a :: b :: c' :: 32 :: r) := by rw [← h9, ← hd, List.take_append_drop]
      refine ⟨by unfold codeN; omega, by unfold codeN; omega, hr, ?_, by rw [hs]; simp; omega⟩
      have e1 : codeN a b c' / 100 = a.toNat - 48 := by unfold codeN; omega
      have e2 : codeN a b c' / 10 % 10 = b.toNat - 48 := by unfold codeN; omega
      have e3 : codeN a b c' % 10 = c'.toNat - 48 := by unfold codeN; omega
      rw [hs]
      unfold dig3
      rw [e1, e2, e3, ← a3, ← b3, ← c3]; rfl
    · cases h
  · cases h
/-- A code of three digits and a reason. -/
theorem status_code {n : Nat} (r : List UInt8) (h1 : 100 ≤ n) (h2 : n ≤ 999) : statusF (httpS ++ (dig3 n ++ 32 :: r)) = if n ≤ 599 ∧ r.any badB = false then (n, r, true) else (0, [], false) := by
  have hd : (httpS ++ (dig3 n ++ 32 :: r)).drop 9 = UInt8.ofNat (48 + n / 100) :: UInt8.ofNat (48 + n / 10 % 10) :: UInt8.ofNat (48 + n % 10) :: 32 :: r := rfl
  have ht : (httpS ++ (dig3 n ++ 32 :: r)).take 9 = httpS := rfl
  have ea := dig_nat (k := n / 100) (by omega)
  have eb := dig_nat (k := n / 10 % 10) (by omega)
  have ec := dig_nat (k := n % 10) (by omega)
  have dg : ∀ k, k ≤ 9 → digB (UInt8.ofNat (48 + k)) = true := fun k hk => by
    unfold digB; rw [dig_nat hk, decide_eq_true (by omega), decide_eq_true (by omega)]; rfl
  unfold statusF
  rw [hd]
  simp only
  rw [ht]
  have hcode : codeN (UInt8.ofNat (48 + n / 100)) (UInt8.ofNat (48 + n / 10 % 10)) (UInt8.ofNat (48 + n % 10)) = n := by unfold codeN; rw [ea, eb, ec]; omega
  rw [hcode]
  by_cases hc : n ≤ 599 ∧ r.any badB = false
  · rw [if_pos hc, if_pos ⟨rfl, dg _ (by omega), dg _ (by omega), dg _ (by omega), by rw [ea]; omega, by rw [ea]; omega, hc.2⟩]
  · rw [if_neg hc, if_neg]
    rintro ⟨_, _, _, _, _, h5, hr⟩
    rw [ea] at h5
    exact hc ⟨by omega, hr⟩
end Go.Proofs.YtendejpkdjkmnaaGreatDoor
/- The document's tokens walked. -/
namespace Go.Proofs.YtendejpkdjkmnaaGreatDoor
open Go.RowKit

section
attribute [local go_sem] store_one S_match S_store S_add eql_S guard_S neql_S nguard_S B_eql eguard_B
theorem tok_index (i : Nat) (x : UInt8) (hx : tokAll[i]? = some x) (w : World) : (Instr.index 9 (.string ⟨([65, 66, 67, 68, 69, 70, 71, 72, 73, 74, 75, 76, 77, 78, 79, 80, 81, 82, 83, 84, 85, 86, 87, 88, 89, 90, 97, 98, 99, 100, 101, 102, 103, 104, 105, 106, 107, 108].append [109, 110, 111, 112, 113, 114, 115, 116, 117, 118, 119, 120, 121, 122, 48, 49, 50, 51, 52, 53, 54, 55, 56, 57, 33, 35, 36, 37, 38, 39, 42, 43, 45, 46, 94, 95, 96, 124, 126]).toArray⟩) (.int .i64 (i : Int))).run Tryz.prog w = .ok (B x) w :=
  index_text Tryz.underlying9 _ tokAll rfl i x hx w
theorem lit_B (s : ByteArray) (i : Nat) (h : i < s.size) (x : UInt8) (hl : s.data.toList[i]? = some x) : Value.int .u8 (((s[i]'h).toNat : Nat) : Int) = B x := by
  have e : s[i]'h = x := by
    rw [get_text s i h] at hl
    exact Option.some.inj hl
  rw [e, B]
end
end Go.Proofs.YtendejpkdjkmnaaGreatDoor
/- The document's Token walked. -/
namespace Go.Proofs.YtendejpkdjkmnaaGreatDoor
open Go.RowKit
attribute [local go_sem] store_one S_match S_store
end Go.Proofs.YtendejpkdjkmnaaGreatDoor
/- The document's in, hex, and Status walked. -/
namespace Go.Proofs.YtendejpkdjkmnaaGreatDoor
open Go.RowKit
attribute [local go_sem] store_one S_match S_store eguard_BN nguard_BN

theorem B_lssN (t : TypeId) (x : UInt8) (k : Int) : binOp .lss t (B x) (.int .u8 k) = pure (.bool (decide ((x.toNat : Int) < k))) := rfl
theorem B_gtrN (t : TypeId) (x : UInt8) (k : Int) : binOp .gtr t (B x) (.int .u8 k) = pure (.bool (decide (k < (x.toNat : Int)))) := rfl
/-! The document's Status. -/
theorem status_short {s : List UInt8} (h : s.length < 13) : statusF s = (0, [], false) := by
  unfold statusF
  split
  · rename_i a b c r hd
    have := congrArg List.length hd
    simp at this
    omega
  · rfl
theorem four_of {s : List UInt8} (h : 13 ≤ s.length) : ∃ p a b c d r, s = p ++ (a :: b :: c :: d :: r) ∧ p.length = 9 ∧ p = s.take 9 := by
  have hd : s.drop 9 = s.drop 9 := rfl
  rcases h9 : s.drop 9 with _ | ⟨a, _ | ⟨b, _ | ⟨c, _ | ⟨d, r⟩⟩⟩⟩
  · have := congrArg List.length h9; simp at this; omega
  · have := congrArg List.length h9; simp at this; omega
  · have := congrArg List.length h9; simp at this; omega
  · have := congrArg List.length h9; simp at this; omega
  · exact ⟨s.take 9, a, b, c, d, r, by rw [← h9, List.take_append_drop], by rw [List.length_take]; omega, rfl⟩
/-- Of the first k digits the number. -/
def valN (x : Nat → UInt8) : Nat → Nat
  | 0 => 0
  | k + 1 => 10 * valN x k + (x k).toNat - 48
end Go.Proofs.YtendejpkdjkmnaaGreatDoor
/- The document's Parse of a request's line walked. -/
namespace Go.Proofs.YtendejpkdjkmnaaGreatDoor
open Go.RowKit
attribute [local go_sem] store_one S_match S_store eguard_BN nguard_BN

theorem results_tmp4 {fn : Func} {t u v x : Tmp} (h : fn.results = #[.tmp t, .tmp u, .tmp v, .tmp x]) (tmps : Array Value) (P : Program) (w : World) :
    (results fn tmps).run P w = .ok (.tuple #[tmps.getD t undef, tmps.getD u undef, tmps.getD v undef, tmps.getD x undef]) w := by
  simp [results, h, go_sem]
theorem while_stop {p : UInt8 → Bool} {s : List UInt8} {i : Nat} (h : (s.take i).all p = true) (hc : ∀ c, s[i]? = some c → p c = false) : s.takeWhile p = s.take i := by
  have e : s = s.take i ++ s.drop i := (List.take_append_drop i s).symm
  conv => lhs; rw [e]
  rw [List.takeWhile_append_of_pos (by simpa using h)]
  cases hd : s.drop i with
  | nil => simp
  | cons c r =>
    have hcc := hc c (by
      have := congrArg (fun l => l[0]?) hd
      simpa using this)
    rw [List.takeWhile_cons, hcc]; simp
theorem line_none {s : List UInt8} (h : (s.takeWhile (notB 32)).length = s.length) : lineF s = ([], [], 0, false) := by
  unfold lineF
  simp only
  rw [h, List.drop_of_length_le (by omega), if_neg]
  rintro ⟨_, h⟩
  exact h rfl
theorem line_eq {s : List UInt8} {i j : Nat} (h1 : (s.take i).all (notB 32) = true) (h2 : s[i]? = some 32) (h3 : ((s.drop (i + 1)).take (j - (i + 1))).all visB = true) (hij : i + 1 ≤ j) (hj : j ≤ s.length) (h4 : ∀ c, s[j]? = some c → visB c = false) :
    lineF s = if tokF (s.take i) = true ∧ i + 1 < j then (if s.drop j = http0 then (s.take i, (s.drop (i + 1)).take (j - (i + 1)), 10, true) else if s.drop j = http1 then (s.take i, (s.drop (i + 1)).take (j - (i + 1)), 11, true) else ([], [], 0, false)) else ([], [], 0, false) := by
  have hil : i < s.length := (List.getElem?_eq_some_iff.1 h2).1
  have e1 : s.takeWhile (notB 32) = s.take i := while_stop h1 (fun c hc => by rw [h2] at hc; cases hc; rfl)
  have e2 : (s.drop (i + 1)).takeWhile visB = (s.drop (i + 1)).take (j - (i + 1)) := while_stop h3 (fun c hc => by
    rw [List.getElem?_drop, show i + 1 + (j - (i + 1)) = j by omega] at hc; exact h4 c hc)
  have l1 : (s.take i).length = i := by rw [List.length_take]; omega
  have l2 : ((s.drop (i + 1)).take (j - (i + 1))).length = j - (i + 1) := by rw [List.length_take, List.length_drop]; omega
  have e3 : (s.drop (i + 1)).drop (j - (i + 1)) = s.drop j := by rw [List.drop_drop, show i + 1 + (j - (i + 1)) = j by omega]
  unfold lineF
  simp only
  rw [e1, l1, e2, l2, e3]
  have e4 : ((s.drop (i + 1)).take (j - (i + 1)) ≠ []) ↔ i + 1 < j := by
    rw [ne_eq, ← List.length_eq_zero_iff, l2]; omega
  by_cases hc : tokF (s.take i) = true ∧ i + 1 < j
  · rw [if_pos hc, if_pos ⟨hc.1, e4.2 hc.2⟩]
  · rw [if_neg hc, if_neg (fun h => hc ⟨h.1, e4.1 h.2⟩)]
theorem vis_facts (c : UInt8) : (visB c = true ∧ decide ((33 : Int) ≤ (c.toNat : Int)) = true ∧ decide ((c.toNat : Int) ≤ 126) = true) ∨ (visB c = false ∧ decide ((33 : Int) ≤ (c.toNat : Int)) = false) ∨
    (visB c = false ∧ decide ((33 : Int) ≤ (c.toNat : Int)) = true ∧ decide ((c.toNat : Int) ≤ 126) = false) := by
  unfold visB
  by_cases h1 : 33 ≤ c.toNat
  · by_cases h2 : c.toNat ≤ 126
    · exact .inl ⟨by simp [h1, h2], decide_eq_true (by omega), decide_eq_true (by omega)⟩
    · exact .inr (.inr ⟨by simp [h2], decide_eq_true (by omega), decide_eq_false (by omega)⟩)
  · exact .inr (.inl ⟨by simp [h1], decide_eq_false (by omega)⟩)
end Go.Proofs.YtendejpkdjkmnaaGreatDoor
/- The document's Target walked. (mklg.py writes it.) -/
namespace Go.Proofs.YtendejpkdjkmnaaGreatDoor
open Go.RowKit
attribute [local go_sem] store_one S_match S_store eguard_BN nguard_BN

/-- Where the first question mark is, of what stands ahead of i. -/
def Mark (s : List UInt8) (i : Nat) (v : Value) : Prop :=
  (v = .int .i64 (-1) ∧ 63 ∉ s.take i) ∨ ∃ m : Nat, v = .int .i64 (m : Int) ∧ m < i ∧ s[m]? = some 63 ∧ 63 ∉ s.take m
theorem mark_next {s : List UInt8} {i : Nat} {v : Value} {c : UInt8} (h : Mark s i v) (hc : s[i]? = some c) (h63 : c ≠ 63) : Mark s (i + 1) v := by
  rcases h with ⟨h1, h2⟩ | ⟨m, h1, h2, h3, h4⟩
  · refine .inl ⟨h1, ?_⟩
    obtain ⟨hi, rfl⟩ := List.getElem?_eq_some_iff.1 hc
    rw [List.take_succ_eq_append_getElem hi]
    intro hm
    rcases List.mem_append.1 hm with hm | hm
    · exact h2 hm
    · exact h63 (List.mem_singleton.1 hm).symm
  · exact .inr ⟨m, h1, by omega, h3, h4⟩
theorem target_short {s : List UInt8} (h : s[0]? ≠ some 47) : targetF s = ([], [], false) := by unfold targetF; rw [if_pos (.inl h)]
theorem B_neq47 (c : UInt8) (h : c ≠ 47) : ((c.toNat : Int) != 47) = true := by
  rw [bne_iff_ne]; intro e; exact h (UInt8.toNat_inj.1 (by rw [show (47 : UInt8).toNat = 47 from rfl]; omega))
theorem B_eql63 (c : UInt8) (h : c ≠ 63) : ((c.toNat : Int) == 63) = false := by
  rw [beq_eq_false_iff_ne]; intro e; exact h (UInt8.toNat_inj.1 (by rw [show (63 : UInt8).toNat = 63 from rfl]; omega))
theorem B_eql37 (c : UInt8) (h : c ≠ 37) : ((c.toNat : Int) == 37) = false := by
  rw [beq_eq_false_iff_ne]; intro e; exact h (UInt8.toNat_inj.1 (by rw [show (37 : UInt8).toNat = 37 from rfl]; omega))
end Go.Proofs.YtendejpkdjkmnaaGreatDoor
/- The document's May and hex, the law's same (stage 11) walked. (mkab.py writes it.) -/
namespace Go.Proofs.YtendejpkdjkmnaaGreatDoor
open Go.RowKit
attribute [local go_sem] store_one S_match S_store eguard_BN nguard_BN

def segB (c : UInt8) : Bool := c != 47 && c != 0
theorem may_def (s : List UInt8) : mayS s = (s.all segB && (s != [46] && s != [46, 46])) := rfl
theorem may_bad {s : List UInt8} {i : Nat} {c : UInt8} (hc : s[i]? = some c) (h : segB c = false) : mayS s = false := by
  rw [may_def, Bool.eq_false_iff]
  intro e
  rw [Bool.and_eq_true, List.all_eq_true] at e
  rw [e.1 c (List.mem_of_getElem? hc)] at h; cases h
theorem all_next {p : UInt8 → Bool} {s : List UInt8} {i : Nat} {c : UInt8} (hc : s[i]? = some c) (h : (s.take i).all p = true) (hp : p c = true) : (s.take (i + 1)).all p = true := by
  rw [List.take_add_one, hc, List.all_append, h]
  show (true && (p c && true)) = true
  rw [hp]; rfl
theorem B_eqk (c : UInt8) (k : Nat) (hk : k < 256) (h : c ≠ UInt8.ofNat k) : ((c.toNat : Int) == (k : Int)) = false := by
  rw [beq_eq_false_iff_ne]; intro e; exact h (UInt8.toNat_inj.1 (by rw [UInt8.toNat_ofNat_of_lt' (by simpa using hk)]; omega))
theorem hexN_at : ∀ (i : Nat) (c : UInt8), hexAll[i]? = some c → hexN c = if 15 < i then i - 6 else i := by
  have h : ∀ i : Fin 22, hexN (hexAll[i.1]'(i.2)) = if 15 < i.1 then i.1 - 6 else i.1 := by decide
  intro i c hc
  obtain ⟨hi, e⟩ := List.getElem?_eq_some_iff.1 hc
  have := h ⟨i, hi⟩
  rw [← e]; exact this
end Go.Proofs.YtendejpkdjkmnaaGreatDoor
/- The document's Split (stage 11) walked. (mkac.py writes it.) -/
namespace Go.Proofs.YtendejpkdjkmnaaGreatDoor
open Go.RowKit
attribute [local go_sem] store_one B_match B_store S_match S_store eguard_BN nguard_BN

theorem conv_byteA {W : World} {b : Nat} {c : UInt8} {q : Nat} (h : Row W b #[B c] 5) : (convert 49 9 (.slice (some ⟨b, 0, none⟩) 1 q)).run Tryz.prog W = .ok (S [c]) W := by
  refine run_convert_bytes_back (P := Tryz.prog) _ 49 9 5 ⟨b, 0, none⟩ q [c] Tryz.underlying49 Tryz.underlying5 Tryz.underlying9 (fun j hj => ?_)
  obtain rfl : j = 0 := by simpa using hj
  rw [Addr.add_mid]
  exact cell_of_row _ _ 0 _ 5 (0, 0) h
theorem elemT : Elem Tryz.prog 9 := elem_of (z := .string ⟨#[]⟩) (n := 16) (by kernel_rfl) (by omega) rfl
theorem drawn_belowA {w w' : World} (h : Drawn w w') : Below w.heap.size w w' := by obtain ⟨m, rfl⟩ := h; exact ⟨rfl, rfl, rfl, Nat.le_refl _, fun _ _ => rfl⟩
theorem hexN_le {c : UInt8} (h : hexB c = true) : hexN c ≤ 15 := by
  have := all_bytes (p := fun c => !hexB c || decide (hexN c ≤ 15)) (by decide +kernel) c
  simp only [h, Bool.not_true, Bool.false_or, decide_eq_true_eq] at this
  exact this
/-- How far a path is read. -/
structure SpAt (s : List UInt8) (L i : Nat) (seg : List UInt8) (done : List (List UInt8)) : Prop where
  st : (i ≤ L ∧ okT (s.drop i) = true ∧ splitF s = (splG seg (s.drop i)).map (done ++ ·)) ∨ (i = L + 1 ∧ splitF s = some done)
  few : done.length ≤ i
  short : seg.length ≤ i
/-- Segments so far, in a slice of one's own. -/
def TxAt (w : World) (v : Value) (l : List (List UInt8)) (W : World) : Prop := Own w.heap.size v (l.map S) W ∧ Below w.heap.size w W
theorem TxAt.below {w : World} {v : Value} {l : List (List UInt8)} {W W' : World} (h : TxAt w v l W) (hb : Below W.heap.size W W') : TxAt w v l W' :=
  ⟨h.1.below hb (fun k e => (h.1.lt k e).2), h.2.trans (hb.mono h.2.size)⟩
theorem sp_end {s seg : List UInt8} {L i : Nat} {done : List (List UInt8)} (h : SpAt s L i seg done) (hi : i = L) (hL : L = s.length) : (mayS seg = false → splitF s = none) ∧ (mayS seg = true → SpAt s L (i + 1) [] (done ++ [seg])) := by
  rcases h.st with ⟨_, _, h3⟩ | ⟨h1, _⟩
  · rw [hi, hL, List.drop_length, spl_end] at h3
    refine ⟨fun hm => by rw [h3, hm]; rfl, fun hm => ⟨.inr ⟨by omega, by rw [h3, hm]; rfl⟩, by rw [List.length_append, List.length_singleton]; have := h.few; omega, by simp⟩⟩
  · omega
theorem sp_sep {s seg : List UInt8} {L i : Nat} {done : List (List UInt8)} (h : SpAt s L i seg done) (hi : i < L) {c : UInt8} (hd : s.drop i = c :: s.drop (i + 1)) (hc : c = 47) : (mayS seg = false → splitF s = none) ∧ (mayS seg = true → SpAt s L (i + 1) [] (done ++ [seg])) := by
  subst hc
  rcases h.st with ⟨_, h2, h3⟩ | ⟨h1, _⟩
  · rw [hd, okT_one (by decide)] at h2
    rw [hd, spl_sep] at h3
    refine ⟨fun hm => by rw [h3, hm]; rfl, fun hm => ⟨.inl ⟨by omega, by simp at h2; exact h2.2, ?_⟩, by rw [List.length_append, List.length_singleton]; have := h.few; omega, by simp⟩⟩
    rw [h3, if_pos hm, Option.map_map]
    congr 1
    funext k
    simp
  · omega
theorem sp_on {s seg : List UInt8} {L i : Nat} {done : List (List UInt8)} (h : SpAt s L i seg done) (hi : i < L) {c : UInt8} (hd : s.drop i = c :: s.drop (i + 1)) (hc : c ≠ 47) (hp : c ≠ 37) : SpAt s L (i + 1) (seg ++ [c]) done := by
  rcases h.st with ⟨_, h2, h3⟩ | ⟨h1, _⟩
  · rw [hd, okT_one hp] at h2
    rw [hd, spl_on hc hp] at h3
    exact ⟨.inl ⟨by omega, by simp at h2; exact h2.2, h3⟩, by have := h.few; omega, by rw [List.length_append, List.length_singleton]; have := h.short; omega⟩
  · omega
theorem sp_pct {s seg : List UInt8} {L i : Nat} {done : List (List UInt8)} (h : SpAt s L i seg done) (hi : i < L) (hL : L = s.length) {c : UInt8} (hd : s.drop i = c :: s.drop (i + 1)) (hp : c = 37) :
    ∃ x y, s[i + 1]? = some x ∧ s[i + 2]? = some y ∧ hexB x = true ∧ hexB y = true ∧ i + 3 ≤ L ∧ SpAt s L (i + 3) (seg ++ [byteH x y]) done := by
  subst hp
  rcases h.st with ⟨_, h2, h3⟩ | ⟨h1, _⟩
  · rcases okT_cases h2 with e | ⟨d, r, e, hd1, _⟩ | ⟨x, y, r, e, hx, hy, hr⟩
    · rw [hd] at e; cases e
    · rw [hd] at e; injection e with e1 _; exact absurd e1.symm hd1
    · have e1 : s.drop (i + 1) = x :: y :: r := by rw [hd] at e; injection e
      have k1 : s[i + 1]? = some x := by
        have := congrArg (fun l => l[0]?) e1
        simpa [List.getElem?_drop] using this
      have k2 : s[i + 2]? = some y := by
        have := congrArg (fun l => l[1]?) e1
        simpa [List.getElem?_drop, Nat.add_assoc] using this
      have e3 : s.drop (i + 3) = r := by
        have := congrArg (List.drop 2) e1
        rw [List.drop_drop] at this
        simpa [Nat.add_assoc] using this
      have hl := congrArg List.length e1
      rw [List.length_drop, List.length_cons, List.length_cons] at hl
      refine ⟨x, y, k1, k2, hx, hy, by omega, ⟨.inl ⟨by omega, by rw [e3]; exact hr, ?_⟩, by have := h.few; omega, by rw [List.length_append, List.length_singleton]; have := h.short; omega⟩⟩
      rw [e, spl_pct] at h3
      rw [e3]; exact h3
  · omega
end Go.Proofs.YtendejpkdjkmnaaGreatDoor
/- The landed read: a piece of a path, read; strconv.ParseUint of two digits of sixteen walked. -/
namespace Go.Proofs.YtendejpkdjkmnaaGreatDoor
open Go.RowKit
attribute [local go_sem] store_one B_match B_store S_match S_store eguard_BN nguard_BN

/-- A digit of sixteen, made small. -/
def lowN (c : UInt8) : Nat := if c.toNat ≤ 57 then c.toNat else if c.toNat ≤ 70 then c.toNat + 32 else c.toNat
theorem lower_any (c : UInt8) (h : hexB c = true) (w : World) : Calls Tryz.prog 112 #[.int .u8 (c.toNat : Int)] w fun e w' => e = .returned (.int .u8 (lowN c : Int)) ∧ w' = w := by
  have hb : bits .or .u8 (c.toNat : Int) 32 = (lowN c : Int) := by
    have := all_bytes (p := fun c => !hexB c || decide (bits .or .u8 (c.toNat : Int) 32 = (lowN c : Int))) (by decide +kernel) c
    simpa [h] using this
  go_enter Tryz.func112, Tryz.ntmps112
  go_wp2
  go_ret
  exact ⟨rfl, rfl⟩
theorem hex_cases (c : UInt8) (h : hexB c = true) : (48 ≤ c.toNat ∧ c.toNat ≤ 57 ∧ hexN c = c.toNat - 48) ∨ (57 < c.toNat ∧ c.toNat ≠ 95 ∧ 97 ≤ lowN c ∧ lowN c ≤ 102 ∧ hexN c + 87 = lowN c) := by
  have := all_bytes (p := fun c => !hexB c || (decide (48 ≤ c.toNat ∧ c.toNat ≤ 57 ∧ hexN c = c.toNat - 48) || decide (57 < c.toNat ∧ c.toNat ≠ 95 ∧ 97 ≤ lowN c ∧ lowN c ≤ 102 ∧ hexN c + 87 = lowN c))) (by decide +kernel) c
  simpa [h] using this
/-- The value of the first k of two digits. -/
def valK (x y : UInt8) (k : Nat) : Nat := if k = 0 then 0 else if k = 1 then hexN x else 16 * hexN x + hexN y

set_option maxRecDepth 100000 in
set_option maxHeartbeats 2000000 in
theorem parse16in_any (x y : UInt8) (hx : hexB x = true) (hy : hexB y = true) (w : World) :
    Calls Tryz.prog 95 #[S [x, y], .int .i64 16, .int .i64 8] w fun e w' => e = .returned (.tuple #[.int .u64 ((16 * hexN x + hexN y : Nat) : Int), .nilIface]) ∧ Below w.heap.size w w' := by
  have hx15 := hexN_le hx
  have hy15 := hexN_le hy
  have hemp : (⟨#[x, y]⟩ : ByteArray).toList.isEmpty = false := by
    rw [Lib.toList_data]; rfl
  have hcv := Lib.run_convert_string_bytes (P := Tryz.prog) w 9 49 5 ⟨#[x, y]⟩ (u := .string) Tryz.underlying9 Tryz.underlying49 Tryz.underlying5
  have hB : ∀ j, j < 2 → (Lib.bytesWorld w 5 ⟨#[x, y]⟩).cell? ⟨w.heap.size, j, none⟩ = some (.int .u8 (([x, y] : List UInt8).getD j 0).toNat) := fun j hj => Lib.bytesWorld_cell w 5 ⟨#[x, y]⟩ j hj
  have hBW : Below w.heap.size w (Lib.bytesWorld w 5 ⟨#[x, y]⟩) := below_grown (Below.refl _ _) (grown_bytes _ none) (fun _ h => by cases h) (Nat.le_refl _)
  have hs2 : (⟨#[x, y]⟩ : ByteArray).size = 2 := rfl
  rw [hs2] at hcv
  obtain ⟨W1, hW1⟩ : ∃ W1, W1 = Lib.bytesWorld w 5 ⟨#[x, y]⟩ := ⟨_, rfl⟩
  rw [← hW1] at hcv hB hBW
  obtain ⟨q, hq⟩ : ∃ q, q = grownCap w 2 0 5 := ⟨_, rfl⟩
  rw [← hq] at hcv
  clear hW1 hs2 hq
  have hb : ∀ k, k < 2 → ∃ c : UInt8, hexB c = true ∧ W1.cell? ⟨w.heap.size, k, none⟩ = some (.int .u8 (c.toNat : Int)) ∧ valK x y k ≤ 15 ∧ valK x y (k + 1) = 16 * valK x y k + hexN c := by
    intro k hk
    have : k = 0 ∨ k = 1 := by omega
    rcases this with rfl | rfl
    · exact ⟨x, hx, hB 0 (by omega), by simp [valK], by simp [valK]⟩
    · exact ⟨y, hy, hB 1 (by omega), by simp [valK]; exact hx15, by simp [valK]⟩
  have hend : valK x y 2 = 16 * hexN x + hexN y := rfl
  have hzero : valK x y 0 = 0 := rfl
  rw [← hend]
  have hv255 : ∀ k, k ≤ 2 → valK x y k ≤ 255 := by
    intro k hk
    have : k = 0 ∨ k = 1 ∨ k = 2 := by omega
    rcases this with rfl | rfl | rfl <;> simp [valK] <;> omega
  generalize valK x y = val at *
  have HB := Lib.hid hb
  have HV := Lib.hid hv255
  have HBW := Lib.hid hBW
  have hmv : IntKind.u64.wrap (IntKind.u64.wrap 256 - 1) = 255 := by
    rw [IntKind.wrap_u64, IntKind.wrap_u64]
    decide
  have hS : S [x, y] = .string ⟨#[x, y]⟩ := rfl
  rw [hS]
  have HZ := Lib.hid hzero
  clear hb hv255 hB hBW hend hx15 hy15 hx hy hzero hS
  generalize w.heap.size = g at *
  go_enter Tryz.func95, Tryz.ntmps95
  go_wp2
  clear hcv hemp
  go_loop [12, 13, 101] (fun vu vn vi => ∃ (k : Nat) (a : Int), vu = .bool false ∧ vn = .int .u64 a ∧ vi = .int .i64 (k : Int) ∧ k ≤ 2 ∧ Hid (a = (val k : Int)))
    (fun _ _ vi => 2 - (intOf vi).toNat)
  case atStart => exact ⟨0, 0, rfl, rfl, rfl, by omega, Lib.hid (by rw [HZ.out]; rfl)⟩
  case round =>
    obtain ⟨k, a, rfl, rfl, rfl, hk, hh⟩ := hrel
    by_cases hkn : k < 2
    · obtain ⟨c, hc, hcell, h15, hnext⟩ := HB.out k hkn
      have a0 : 0 ≤ a := by rw [hh.out]; exact Int.natCast_nonneg _
      have a15 : a ≤ 15 := by rw [hh.out]; omega
      have HN : Hid ((val (k + 1) : Int) = 16 * a + (hexN c : Int)) := Lib.hid (by rw [hh.out]; omega)
      have HL := Lib.hid (fun W => lower_any c hc W)
      have hc256 : c.toNat < 256 := c.toNat_lt
      rcases hex_cases c hc with ⟨hd0, hd1, hd2⟩ | ⟨hd0, hd1, hd2, hd3, hd4⟩
      · have iov : a * 16 + ((c.toNat : Int) - 48) ≤ 255 := by omega
        have HN2 : Hid (a * 16 + ((c.toNat : Int) - 48) = (val (k + 1) : Int)) := Lib.hid (by rw [HN.out, hd2]; omega)
        clear hnext h15 hc hd2 hh
        go_wp2
        refine ⟨⟨k + 1, a * 16 + ((c.toNat : Int) - 48), rfl, (by first | rfl | (congr 1; omega)), (by first | rfl | (congr 1; omega)), by omega, HN2⟩, by simp [intOf]; omega⟩
      · obtain ⟨v, hv⟩ : ∃ v, v = lowN c := ⟨_, rfl⟩
        rw [← hv] at hd2 hd3 hd4 HL
        have iov : a * 16 + ((v : Int) - 97 + 10) ≤ 255 := by omega
        have h95 : ((c.toNat : Int) == 95) = false := by rw [beq_eq_false_iff_ne]; omega
        have HN2 : Hid (a * 16 + ((v : Int) - 97 + 10) = (val (k + 1) : Int)) := Lib.hid (by rw [HN.out]; omega)
        clear hnext h15 hc hd4 hv hd1 hh
        go_wp2_with (first
          | (go_at_call 112; refine (HL.out _).mono ?_; rintro e w' ⟨rfl, hw⟩; rw [hw]; clear hw)
          | fail)
        refine ⟨⟨k + 1, a * 16 + ((v : Int) - 97 + 10), rfl, (by first | rfl | (congr 1; omega)), (by first | rfl | (congr 1; omega)), by omega, HN2⟩, by simp [intOf]; omega⟩
    · have HE : Hid (a = (val 2 : Int)) := Lib.hid (by rw [hh.out, show k = 2 by omega])
      have hk2 : ¬ ((k : Int) < 2) := by omega
      clear hh hkn hk
      have e := HE.out
      subst e
      go_wp2
      go_ret2
      exact ⟨rfl, HBW.out⟩
set_option maxRecDepth 100000 in
set_option maxHeartbeats 400000 in
theorem parse16_any (x y : UInt8) (hx : hexB x = true) (hy : hexB y = true) (w : World) :
    Calls Tryz.prog 72 #[S [x, y], .int .i64 16, .int .i64 8] w fun e w' => e = .returned (.tuple #[.int .u64 ((16 * hexN x + hexN y : Nat) : Int), .nilIface]) ∧ Below w.heap.size w w' := by
  have H := Lib.hid (fun W => parse16in_any x y hx hy W)
  generalize 16 * hexN x + hexN y = v at *
  generalize S [x, y] = T at *
  clear hx hy
  go_enter Tryz.func72, Tryz.ntmps72
  go_wp2_with (first
    | (go_at_call 95; refine (H.out _).mono ?_; rintro e w' ⟨rfl, hw⟩)
    | fail)
  go_wp2
  first | (go_ret2; exact ⟨rfl, hw⟩) | exact ⟨rfl, hw⟩
theorem elemB : Elem Tryz.prog 5 := elem_of (z := .int .u8 0) (n := 1) (by kernel_rfl) (by omega) rfl
/-- Bytes so far, in a slice of one's own. -/
def OB (w : World) (v : Value) (l : List UInt8) (W : World) : Prop := Own w.heap.size v (l.map B) W ∧ Below w.heap.size w W
theorem OB.below {w : World} {v : Value} {l : List UInt8} {W W' : World} (h : OB w v l W) (hb : Below W.heap.size W W') : OB w v l W' :=
  ⟨h.1.below hb (fun k e => (h.1.lt k e).2), h.2.trans (hb.mono h.2.size)⟩
theorem OB.grown {w : World} {v v' : Value} {l l' : List UInt8} {W W' : World} (h : OB w v l W) (ho : Own w.heap.size v' (l'.map B) W') (hg : W.grownBy W' v.ownBlock) : OB w v' l' W' :=
  ⟨ho, below_own h.2 h.1 hg (Nat.le_refl _) h.2.size⟩
theorem conv_u64 (n : Nat) (h : n < 256) (w : World) : (convert 128 5 (.int .u64 (n : Int))).run Tryz.prog w = .ok (.int .u8 (n : Int)) w := by
  have e : IntKind.u8.wrap (n : Int) = (n : Int) := by rw [IntKind.wrap_u8]; omega
  simp [convert, run_underlying Tryz.underlying5, run_underlying Tryz.underlying128, e, go_sem]
set_option maxRecDepth 100000 in
set_option maxHeartbeats 2000000 in
theorem read_any (s : List UInt8) (ho : okT s = true) (hl : s.length ≤ 1000) (w : World) : Calls Tryz.prog 49 #[S s] w fun e w' => e = .returned (S (rdF s)) ∧ Below w.heap.size w w' := by
  have hlen := run_len_S (P := Tryz.prog) Tryz.underlying9 3 s
  obtain ⟨L, hL⟩ : ∃ L, L = s.length := ⟨_, rfl⟩
  rw [← hL] at hlen hl
  have HO := Lib.hid ho
  have HL := Lib.hid hL
  clear ho hL
  go_enter Tryz.func49, Tryz.ntmps49
  go_wp2_with (first
    | (refine wpList_make Tryz.underlying49 elemB rfl (.tmp 8) (by with_reducible rfl) L rfl (by omega) w.heap.size (Nat.le_refl _) ?_; intro v1 W1 o1 g1)
    | fail)
  have HI : Hid (OB w v1 [] W1) := Lib.hid ⟨o1, below_grown (Below.refl _ _) g1 (fun _ h => by cases h) (Nat.le_refl _)⟩
  clear o1 g1
  go_loopw [3, 4] (fun vv iv wr => ∃ (done : List UInt8) (i : Nat), iv = .int .i64 (i : Int) ∧ i ≤ L ∧ Hid (OB w vv done wr ∧ okT (s.drop i) = true ∧ rdF s = done ++ rdF (s.drop i) ∧ done.length ≤ i)) (fun _ iv _ => L - (intOf iv).toNat)
  case atStart => exact ⟨[], 0, rfl, by omega, Lib.hid ⟨HI.out, HO.out, rfl, Nat.le_refl _⟩⟩
  case round =>
    obtain ⟨done, i, rfl, hi, HR⟩ := hrel
    have hdl : done.length ≤ 1000 := by have := HR.out.2.2.2; omega
    have hw1 : IntKind.i64.wrap ((i : Int) + 1) = (i : Int) + 1 := by rw [IntKind.wrap_i64]; omega
    have hw2 : IntKind.i64.wrap ((i : Int) + 2) = (i : Int) + 2 := by rw [IntKind.wrap_i64]; omega
    have hw3 : IntKind.i64.wrap ((i : Int) + 3) = (i : Int) + 3 := by rw [IntKind.wrap_i64]; omega
    have hw21 : IntKind.i64.wrap ((i : Int) + 2 + 1) = (i : Int) + 2 + 1 := by rw [IntKind.wrap_i64]; omega
    by_cases hlt : i < L
    case neg =>
      obtain rfl : i = L := by omega
      have HE : Hid (rdF s = done) := Lib.hid (by
        have := HR.out.2.2.1
        rw [HL.out, List.drop_length, rd_nil, List.append_nil] at this
        exact this)
      have htx := own_text Tryz.underlying9 Tryz.underlying49 Tryz.underlying5 HR.out.1.1
      have HB := Lib.hid HR.out.1.2
      clear hw1 hw2 hw3 hw21
      go_wp2
      go_ret
      exact ⟨by rw [HE.out]; rfl, HB.out⟩
    case pos =>
      obtain ⟨c, hc⟩ : ∃ c, s[i]? = some c := ⟨s[i]'(by have := HL.out; omega), List.getElem?_eq_getElem _⟩
      have hidx : ∀ w, (Instr.index 9 (S s) (.int .i64 (i : Int))).run Tryz.prog w = .ok (B c) w := fun w => index_S (P := Tryz.prog) Tryz.underlying9 s i c hc w
      have hdr : s.drop i = c :: s.drop (i + 1) := by
        rw [List.drop_eq_getElem_cons (by rw [← HL.out]; exact hlt), (List.getElem?_eq_some_iff.1 hc).2]
      have p1 : binOp .neq 5 (B c) (.int .u8 37) = pure (.bool (c != 37)) := by
        show pure (Value.bool ((c.toNat : Int) != 37)) = _
        have := beqB c 37
        rw [bne, bne]
        congr 3
      by_cases h37 : c = 37
      case neg =>
        rw [show (c != 37) = true from bne_iff_ne.2 h37] at p1
        have HN : Hid (okT (s.drop (i + 1)) = true ∧ rdF s = (done ++ [c]) ++ rdF (s.drop (i + 1))) := Lib.hid (by
          have h1 := HR.out.2.1
          have h2 := HR.out.2.2.1
          rw [hdr] at h1 h2
          rw [okT_one h37, Bool.and_eq_true] at h1
          rw [rd_on h37] at h2
          exact ⟨h1.2, by rw [h2, List.append_assoc]; rfl⟩)
        have HOB := Lib.hid HR.out.1
        have HDL := Lib.hid HR.out.2.2.2
        clear hdr hc h37
        go_wp2_with (first
          | (at_builtin; refine wpList_add_byte rfl 49 5 (.tmp 20) (.tmp 24) rfl Tryz.underlying49 elemB w.heap.size wr _ rfl done HOB.out.1 c _ rfl rfl rfl (by omega) HOB.out.2.size ?_; intro v7 W7 o7 g7 _; have H7 : Hid (OB w v7 (done ++ [c]) W7) := Lib.hid (HOB.out.grown o7 g7); clear o7 g7)
          | fail)
        exact ⟨⟨done ++ [c], i + 1, by go_num, by omega, Lib.hid ⟨H7.out, HN.out.1, HN.out.2, by rw [List.length_append, List.length_singleton]; have := HDL.out; omega⟩⟩, by simp [intOf]; omega⟩
      case pos =>
        rw [show (c != 37) = false by rw [h37]; rfl] at p1
        obtain ⟨x, y, hx0, hy0, hxb, hyb, hi3, hdr3⟩ : ∃ x y, s[i + 1]? = some x ∧ s[i + 2]? = some y ∧ hexB x = true ∧ hexB y = true ∧ i + 3 ≤ L ∧ s.drop i = 37 :: x :: y :: s.drop (i + 3) ∧ okT (s.drop (i + 3)) = true := by
          rcases okT_cases HR.out.2.1 with e | ⟨d, r, e, hd1, _⟩ | ⟨x, y, r, e, hx, hy, hr⟩
          · rw [hdr] at e; cases e
          · rw [hdr] at e; injection e with e1 _; exact absurd (e1.symm.trans h37) hd1
          · have e1 : s.drop (i + 1) = x :: y :: r := by rw [hdr] at e; injection e
            have k1 : s[i + 1]? = some x := by
              have := congrArg (fun l => l[0]?) e1
              simpa [List.getElem?_drop] using this
            have k2 : s[i + 2]? = some y := by
              have := congrArg (fun l => l[1]?) e1
              simpa [List.getElem?_drop, Nat.add_assoc] using this
            have e3 : s.drop (i + 3) = r := by
              have := congrArg (List.drop 2) e1
              rw [List.drop_drop] at this
              simpa [Nat.add_assoc] using this
            have hll := congrArg List.length e1
            rw [List.length_drop, List.length_cons, List.length_cons] at hll
            exact ⟨x, y, k1, k2, hx, hy, by have := HL.out; omega, by rw [e, e3], by rw [e3]; exact hr⟩
        have hmid : ∀ w, (Instr.slice 9 (S s) (some (.int .i64 ((i : Int) + 1))) (some (.int .i64 ((i : Int) + 3))) none).run Tryz.prog w = .ok (S [x, y]) w := by
          intro w
          have h := slice_mid (P := Tryz.prog) Tryz.underlying9 s (i + 1) (i + 3) (by omega) (by rw [← HL.out]; exact hi3) w
          have e : (s.drop (i + 1)).take (i + 3 - (i + 1)) = [x, y] := by
            rw [show i + 3 - (i + 1) = 2 by omega]
            have e1 : s.drop (i + 1) = x :: y :: s.drop (i + 3) := by
              have := hdr3.1
              rw [hdr] at this
              injection this
            rw [e1]; rfl
          rw [e] at h
          exact h
        have hv : 16 * hexN x + hexN y < 256 := by have := hexN_le hxb; have := hexN_le hyb; omega
        have HP := Lib.hid (fun W => parse16_any x y hxb hyb W)
        have HN : Hid (okT (s.drop (i + 3)) = true ∧ rdF s = (done ++ [byteH x y]) ++ rdF (s.drop (i + 3))) := Lib.hid (by
          have h2 := HR.out.2.2.1
          rw [hdr3.1, rd_pct] at h2
          exact ⟨hdr3.2, by rw [h2, List.append_assoc]; rfl⟩)
        have hcv := fun w => conv_u64 (16 * hexN x + hexN y) hv w
        have hbh : Hid (#[Value.int .u8 (((16 * hexN x + hexN y : Nat) : Int))] = #[B (byteH x y)]) := Lib.hid (byte_cell2 _ hv)
        obtain ⟨v, hvv⟩ : ∃ v, v = 16 * hexN x + hexN y := ⟨_, rfl⟩
        rw [← hvv] at HP hbh
        simp only [← hvv] at hcv
        have HOB := Lib.hid HR.out.1
        have HDL := Lib.hid HR.out.2.2.2
        have H3 := Lib.hid hi3
        generalize hbb : byteH x y = b at *
        generalize S [x, y] = T at *
        clear hdr hc h37 hx0 hy0 hdr3 hv hvv hxb hyb hbb hi3
        go_wp2_with (first
          | (go_at_call 72; refine (HP.out _).mono ?_; rintro e W5 ⟨rfl, hw5⟩; have HO5 := Lib.hid (HOB.out.below hw5); clear hw5)
          | (at_builtin; refine wpList_add_byte rfl 49 5 (.tmp 36) (.tmp 39) rfl Tryz.underlying49 elemB w.heap.size W5 _ rfl done HO5.out.1 b _ hbh.out rfl rfl (by omega) HO5.out.2.size ?_; intro v7 W7 o7 g7 _; have H7 : Hid (OB w v7 (done ++ [b]) W7) := Lib.hid (HO5.out.grown o7 g7); clear o7 g7)
          | fail)
        exact ⟨⟨done ++ [b], i + 3, by go_num, by have := H3.out; omega, Lib.hid ⟨H7.out, HN.out.1, HN.out.2, by rw [List.length_append, List.length_singleton]; have := HDL.out; omega⟩⟩, by have := H3.out; simp [intOf]; omega⟩
end Go.Proofs.YtendejpkdjkmnaaGreatDoor
/- The document's Join (stage 11) walked. (mkad.py writes it.) -/
namespace Go.Proofs.YtendejpkdjkmnaaGreatDoor
open Go.RowKit
attribute [local go_sem] store_one B_match B_store S_match S_store eguard_BN nguard_BN

theorem slice_u8 (r : List UInt8) (m n : Nat) (hmn : m ≤ n) (hn : n ≤ r.length) (w : World) : (Instr.slice 9 (S r) (some (.int .u8 m)) (some (.int .u8 n)) none).run Tryz.prog w = .ok (S ((r.drop m).take (n - m))) w := by
  have e : (⟨r.toArray⟩ : ByteArray).extract m n = ⟨((r.drop m).take (n - m)).toArray⟩ := by
    apply ByteArray.ext
    rw [ByteArray.data_extract]; simp
  simp [Instr.slice, S, run_underlying Tryz.underlying9, Instr.sliceBounds, Instr.sliceBound, asIntOf, S_size, Result.andThen, hn, hmn, e, go_sem]
theorem quo_u8 (c : UInt8) : binOp .quo 5 (B c) (.int .u8 16) = pure (.int .u8 ((c.toNat / 16 : Nat) : Int)) := by
  have h := c.toNat_lt
  have e : IntKind.u8.wrap ((c.toNat : Int) / 16) = ((c.toNat / 16 : Nat) : Int) := by rw [IntKind.wrap_u8]; omega
  unfold B binOp
  simp [go_sem, e]
theorem rem_u8 (c : UInt8) : binOp .rem 5 (B c) (.int .u8 16) = pure (.int .u8 ((c.toNat % 16 : Nat) : Int)) := by
  unfold B binOp
  simp [go_sem]
  rw [Int.tmod_eq_emod_of_nonneg (by omega)]
theorem hexd_slice (q : Nat) (hq : q < 16) (w : World) : (Instr.slice 9 (.string ⟨#[48, 49, 50, 51, 52, 53, 54, 55, 56, 57, 65, 66, 67, 68, 69, 70]⟩) (some (.int .u8 (q : Int))) (some (.int .u8 ((q : Int) + 1))) none).run Tryz.prog w = .ok (S [hexD q]) w := by
  have h := slice_u8 [48, 49, 50, 51, 52, 53, 54, 55, 56, 57, 65, 66, 67, 68, 69, 70] q (q + 1) (by omega) (by show q + 1 ≤ 16; omega) w
  rw [show ((q + 1 : Nat) : Int) = (q : Int) + 1 by omega, show q + 1 - q = 1 by omega] at h
  have hd : ∀ q : Fin 16, ([48, 49, 50, 51, 52, 53, 54, 55, 56, 57, 65, 66, 67, 68, 69, 70].drop q.1).take 1 = [hexD q.1] := by decide
  rw [hd ⟨q, hq⟩] at h
  exact h
theorem own_index (i : Nat) (x : UInt8) (hx : ownAll[i]? = some x) (w : World) : (Instr.index 9 (.string ⟨([97, 98, 99, 100, 101, 102, 103, 104, 105, 106, 107, 108, 109, 110, 111, 112, 113, 114, 115, 116, 117, 118, 119, 120, 121, 122, 65, 66, 67, 68, 69, 70, 71].append [72, 73, 74, 75, 76, 77, 78, 79, 80, 81, 82, 83, 84, 85, 86, 87, 88, 89, 90, 48, 49, 50, 51, 52, 53, 54, 55, 56, 57, 45, 46, 95, 126]).toArray⟩) (.int .i64 (i : Int))).run Tryz.prog w = .ok (B x) w :=
  index_text Tryz.underlying9 _ ownAll rfl i x hx w
theorem lit_V (s : ByteArray) (i : Nat) (h : i < s.size) (x : UInt8) (hl : s.data.toList[i]? = some x) : Value.int .u8 (((s[i]'h).toNat : Nat) : Int) = B x := by
  have e : s[i]'h = x := by
    rw [get_text s i h] at hl
    exact Option.some.inj hl
  rw [e, B]
theorem join_next {l : List (List UInt8)} {i : Nat} {seg : List UInt8} (h : l[i]? = some seg) : joinS (l.take (i + 1)) = joinS (l.take i) ++ 47 :: encS seg := by
  rw [List.take_add_one, h]
  unfold joinS
  rw [List.flatMap_append]
  simp
theorem enc_next {s : List UInt8} {k : Nat} {c : UInt8} (h : s[k]? = some c) : encS (s.take (k + 1)) = encS (s.take k) ++ encC c := by
  rw [List.take_add_one, h]
  unfold encS
  rw [List.flatMap_append]
  simp
theorem joinS_app (a b : List (List UInt8)) : joinS (a ++ b) = joinS a ++ joinS b := by unfold joinS; rw [List.flatMap_append]
theorem encS_app (a b : List UInt8) : encS (a ++ b) = encS a ++ encS b := by unfold encS; rw [List.flatMap_append]
/-- What is written so far is a beginning. -/
theorem join_pre {l : List (List UInt8)} {i : Nat} {seg : List UInt8} (h : l[i]? = some seg) (k : Nat) : (joinS (l.take i) ++ 47 :: encS (seg.take k)).length ≤ (joinS l).length := by
  have e1 : joinS l = joinS (l.take (i + 1)) ++ joinS (l.drop (i + 1)) := by rw [← joinS_app, List.take_append_drop]
  have e2 : encS seg = encS (seg.take k) ++ encS (seg.drop k) := by rw [← encS_app, List.take_append_drop]
  rw [e1, join_next h, e2]
  simp only [List.length_append, List.length_cons]
  omega
theorem join_long {l : List (List UInt8)} (h : 512 < (joinS l).length) : joinF l = none := by
  unfold joinF
  rw [if_neg]
  rintro ⟨_, _, h3⟩
  omega
theorem join_bad {l : List (List UInt8)} {i : Nat} {seg : List UInt8} (h : l[i]? = some seg) (hm : mayS seg = false) : joinF l = none := by
  unfold joinF
  rw [if_neg]
  rintro ⟨_, h2, _⟩
  rw [h2 seg (List.mem_of_getElem? h)] at hm; cases hm
theorem sum_mem {l : List (List UInt8)} {s : List UInt8} (h : s ∈ l) : s.length ≤ sumL l := by
  unfold sumL
  induction l with
  | nil => cases h
  | cons x r ih =>
    rw [List.map_cons, List.sum_cons]
    rcases List.mem_cons.1 h with rfl | h
    · omega
    · have := ih h; omega
end Go.Proofs.YtendejpkdjkmnaaGreatDoor
/- The landed appendWritten and Join walked. (mkav4.py writes it.) -/
namespace Go.Proofs.YtendejpkdjkmnaaGreatDoor
open Go.RowKit
attribute [local go_sem] store_one B_match B_store S_match S_store eguard_BN nguard_BN

/-- One of the four marks that are written as they are. -/
def markB (c : UInt8) : Bool := decide (0 ≤ Lib.indexByte [45, 46, 95, 126] c)
theorem plain_is (c : UInt8) : plainB c = (decide (65 ≤ c.toNat ∧ c.toNat ≤ 90) || decide (97 ≤ c.toNat ∧ c.toNat ≤ 122) || decide (48 ≤ c.toNat ∧ c.toNat ≤ 57) || markB c) := by
  have := all_bytes (p := fun c => plainB c == (decide (65 ≤ c.toNat ∧ c.toNat ≤ 90) || decide (97 ≤ c.toNat ∧ c.toNat ≤ 122) || decide (48 ≤ c.toNat ∧ c.toNat ≤ 57) || markB c)) (by decide +kernel) c
  exact beq_iff_eq.1 this
/-! Slices of bytes with a mark. -/
theorem info5B : ∃ i, Tryz.prog.info? 5 = some i ∧ i.zero = some (Value.int .u8 0) ∧ i.size = 1 ∧ i.bytes = 1 := by
  have := (by kernel_rfl : (Tryz.prog.info? 5).map (fun i => (i.zero, i.size, i.bytes)) = some (some (Value.int .u8 0), 1, 1))
  cases hi : Tryz.prog.info? 5 with
  | none => rw [hi] at this; cases this
  | some i =>
    simp only [hi, Option.map_some, Option.some.injEq, Prod.mk.injEq] at this
    exact ⟨i, rfl, this.1, this.2.1, this.2.2⟩
theorem own_of_row5 {w : World} {b : Nat} {v : Value} {l : List UInt8} (h : w.ownsRow b 5 1 v l.length (l.map B)) : Own b v (l.map B) w := by
  rcases h.2 with ⟨rfl, h0⟩ | ⟨g, cap, cur, rfl, hb, hg, hn, hm, hs, ht⟩
  · have : l = [] := List.length_eq_zero_iff.1 h0
    subst this
    exact .inl ⟨rfl, rfl⟩
  · rw [Nat.mul_one] at hs ht
    refine .inr ⟨g, cap, by rw [List.length_map], hb, (Array.getElem?_eq_some_iff.1 hg).1, by rw [List.length_map]; exact hn, hm, fun j u hu => ?_, fun j hj => ?_⟩
    · rw [Nat.zero_add, cell_of_row w g j cur 5 (0, 0) hg]
      rw [← ht, List.getElem?_take] at hu
      split at hu
      · simpa using hu
      · cases hu
    · rw [Nat.zero_add]
      refine ⟨?_, frozen_of_row w g j cur 5 hg⟩
      rw [cell_of_row w g j cur 5 (0, 0) hg, Array.getElem?_eq_getElem (by omega)]; rfl
theorem row_lo {w : World} {b : Nat} {e : TypeId} {k n : Nat} {v : Value} {xs : List Value} (h : w.ownsRow b e k v n xs) : ∀ j, v.ownBlock = some j → b ≤ j := fun j hj => by
  rcases h.2 with ⟨rfl, _⟩ | ⟨g, cap, cur, rfl, hb, _⟩
  · cases hj
  · obtain rfl : g = j := by simpa [Value.ownBlock] using hj
    exact hb
/-- Bytes so far, in a marked slice from b on. -/
def RB (b : Nat) (w : World) (v : Value) (l : List UInt8) (W : World) : Prop := W.ownsRow b 5 1 v l.length (l.map B) ∧ Below b w W ∧ b ≤ W.heap.size
theorem RB.grown {b : Nat} {w : World} {v v' : Value} {l l' : List UInt8} {W W' : World} (h : RB b w v l W) (ho : W'.ownsRow b 5 1 v' l'.length (l'.map B)) (hg : W.grownBy W' v.ownBlock) : RB b w v' l' W' :=
  ⟨ho, below_grown h.2.1 hg (row_lo h.1) h.2.2, Nat.le_trans h.2.2 hg.size⟩
theorem RB.kept {b : Nat} {w : World} {v : Value} {l : List UInt8} {W W' : World} (h : RB b w v l W) (hb : Below W.heap.size W W') : RB b w v l W' :=
  ⟨⟨h.1.1, by
    rcases h.1.2 with h2 | ⟨g, cap, cur, rfl, h3, hg, h5⟩
    · exact .inl h2
    · exact .inr ⟨g, cap, cur, rfl, h3, (hb.block g (Array.getElem?_eq_some_iff.1 hg).1).trans hg, h5⟩⟩, h.2.1.trans (hb.mono h.2.2), Nat.le_trans h.2.2 hb.size⟩
theorem prun_addR {b : Nat} {w : World} {v : Value} {l : List UInt8} {W : World} (h : RB b w v l W) (ys : List UInt8) (hy : 0 < ys.length) (hl : l.length + ys.length ≤ 100000) (ty : TypeId) :
    ∃ v' W', (Builtin.append_ #[49, 49] ty #[v, .slice (some ⟨W.heap.size, 0, none⟩) ys.length ys.length]).run Tryz.prog (W.alloc (.cells (ys.map B).toArray 5)) = .ok v' W' ∧ RB b w v' (l ++ ys) W' := by
  obtain ⟨i, hi, hz, hsz, hby⟩ := info5B
  have hr := row_new W (ys.map B).toArray 5
  have h1 : RB b w v l (W.alloc (.cells (ys.map B).toArray 5)) := h.kept ((Below.refl _ _).alloc (Nat.le_refl _) _)
  obtain ⟨g, cap, w', hrun, ho, hg, -, -⟩ := run_append_lies (P := Tryz.prog) (W.alloc (.cells (ys.map B).toArray 5)) 49 ty b 5 i (.int .u8 0) 1 1 Tryz.underlying49 hi hz hsz hby rfl (by omega) v l.length (l.map B) h1.1 ⟨W.heap.size, 0, none⟩ ys.length ys.length (ys.map B) (by rw [List.length_map, Nat.mul_one]) (fun j u hu => by
    rw [Addr.add_mid]
    simp only [Nat.zero_add]
    rw [cell_of_row _ _ j _ _ _ hr]
    simpa using hu) (fun u hu => by
    obtain ⟨c, _, rfl⟩ := List.mem_map.1 hu
    rfl) hy (by simp only [maxLen]; omega) (by omega) h1.2.2 _ rfl
  refine ⟨_, w', hrun, h1.grown ?_ hg⟩
  rw [List.length_append, List.map_append]
  exact ho
theorem prun_addT {b : Nat} {w : World} {v : Value} {l : List UInt8} {W : World} (h : RB b w v l W) (c : UInt8) (hl : l.length ≤ 100000) (ty : TypeId) :
    ∃ v' W', (Builtin.append_ #[49, 9] ty #[v, .string ⟨#[c]⟩]).run Tryz.prog W = .ok v' W' ∧ RB b w v' (l ++ [c]) W' := by
  obtain ⟨i, hi, hz, hsz, hby⟩ := info5B
  have hs : (⟨#[c]⟩ : ByteArray).size = 1 := rfl
  have hc : Lib.strCells ⟨#[c]⟩ = [B c] := rfl
  obtain ⟨v', w', hrun, ho, hg, -⟩ := Lib.run_append_own_string (P := Tryz.prog) W b 49 9 ty 5 i Tryz.underlying49 Tryz.underlying9 hi hz hsz hby v l.length (l.map B) h.1 ⟨#[c]⟩ (by rw [hs]; simp only [maxLen]; omega) (by rw [hs]; omega) h.2.2
  rw [hs, hc] at ho
  refine ⟨v', w', hrun, h.grown ?_ hg⟩
  rw [List.length_append, List.map_append]
  exact ho
section
variable {ops : Array Oper} {rest : List Oper} {o : Oper} {a : Act} {w : World} {Q : Exit → Act → World → Prop}
theorem wpList_addR (hgd : o.guard = none) (s x : Operand) (ho : o.op = .call { callee := .builtin .append, args := #[s, x], argTypes := #[49, 49] }) {b : Nat} {w0 : World} {v : Value} {l : List UInt8} {W : World} (h : RB b w0 v l W) (hs : a.eval s = v) (y : UInt8)
    (cs : Array Value) (hcs : cs = #[B y]) (hw : w = W.alloc (.cells cs 5)) (H : Nat) (hH : W.heap.size = H) (hx : a.eval x = .slice (some ⟨H, 0, none⟩) 1 1) (hl : l.length ≤ 50000)
    (hK : ∀ v' W', RB b w0 v' (l ++ [y]) W' → wpList Tryz.prog ops Q rest (a.put o.dst v') W') : wpList Tryz.prog ops Q (o :: rest) a w := by
  subst hw hcs hs hH
  obtain ⟨v', W', hr, h2⟩ := prun_addR h [y] (by simp) (by simp; omega) o.type
  refine wpList_exec hgd v' W' ?_ (hK _ _ h2)
  have hr : (Builtin.append_ #[49, 49] o.type #[a.eval s, .slice (some ⟨W.heap.size, 0, none⟩) 1 1]).run Tryz.prog (W.alloc (.cells #[B y] 5)) = .ok v' W' := hr
  simp only [execOp, ho, resolve, invoke, builtin, Sem.run_bind, Sem.run_pure, Result.andThen_ok, List.map_toArray, List.map_cons, List.map_nil, hx, hr]
theorem wpList_addT (hgd : o.guard = none) (s x : Operand) (ho : o.op = .call { callee := .builtin .append, args := #[s, x], argTypes := #[49, 9] }) {b : Nat} {w0 : World} {v : Value} {l : List UInt8} (h : RB b w0 v l w) (hs : a.eval s = v) (y : UInt8) (hx : a.eval x = .string ⟨#[y]⟩) (hl : l.length ≤ 50000)
    (hK : ∀ v' W', RB b w0 v' (l ++ [y]) W' → wpList Tryz.prog ops Q rest (a.put o.dst v') W') : wpList Tryz.prog ops Q (o :: rest) a w := by
  subst hs
  obtain ⟨v', W', hr, h2⟩ := prun_addT h y (by omega) o.type
  refine wpList_exec hgd v' W' ?_ (hK _ _ h2)
  simp only [execOp, ho, resolve, invoke, builtin, Sem.run_bind, Sem.run_pure, Result.andThen_ok, List.map_toArray, List.map_cons, List.map_nil, hx, hr]
end
theorem exec_appendB {o : Oper} {a : Act} {w w' : World} {v V v' : Value} (s x : Operand) (ho : o.op = .call { callee := .builtin .append, args := #[s, x], argTypes := #[49, 49] }) (hs : a.eval s = v) (hx : a.eval x = V)
    (hr : (Builtin.append_ #[49, 49] o.type #[v, V]).run Tryz.prog w = .ok v' w') : (execOp a.eval o).run Tryz.prog w = .ok (.value v') w' := by
  simp only [execOp, ho, resolve, invoke, builtin, Sem.run_bind, Sem.run_pure, Result.andThen_ok, List.map_toArray, List.map_cons, List.map_nil, hs, hx, hr]
theorem shr_u8 (c : UInt8) : binOp .shr 5 (B c) (.int .u64 4) = pure (.int .u8 ((c.toNat / 16 : Nat) : Int)) := by
  have := all_bytes (p := fun c => decide (IntKind.u8.wrap ((c.toNat : Int) / 16) = ((c.toNat / 16 : Nat) : Int))) (by decide +kernel) c
  have e := of_decide_eq_true this
  unfold B binOp
  simp [go_sem]
theorem and_u8 (c : UInt8) : binOp .and 5 (B c) (.int .u8 15) = pure (.int .u8 ((c.toNat % 16 : Nat) : Int)) := by
  have := all_bytes (p := fun c => decide (bits .and .u8 (c.toNat : Int) 15 = ((c.toNat % 16 : Nat) : Int))) (by decide +kernel) c
  have e := of_decide_eq_true this
  unfold B binOp
  simp [go_sem, e]
theorem index_text8 {P : Program} {ts : TypeId} (hu : P.underlying ts = some .string) (s : ByteArray) (l : List UInt8) (hl : s.data.toList = l) (n : Nat) (x : UInt8) (hx : l[n]? = some x) (w : World) : (Instr.index ts (.string s) (.int .u8 (n : Int))).run P w = .ok (B x) w := by
  subst hl
  obtain ⟨hlt, rfl⟩ := List.getElem?_eq_some_iff.1 hx
  have hs : n < s.size := by
    have := hlt
    rw [Array.length_toList] at this
    exact this
  rw [run_index_string (w := w) ts s .u8 n hu, dif_pos ⟨Int.natCast_nonneg _, by omega⟩]
  simp [B]
  rfl
theorem hexd_index (q : Nat) (hq : q < 16) (w : World) : (Instr.index 9 (.string ⟨#[48, 49, 50, 51, 52, 53, 54, 55, 56, 57, 65, 66, 67, 68, 69, 70]⟩) (.int .u8 (q : Int))).run Tryz.prog w = .ok (B (hexD q)) w :=
  index_text8 Tryz.underlying9 _ [48, 49, 50, 51, 52, 53, 54, 55, 56, 57, 65, 66, 67, 68, 69, 70] rfl q (hexD q) ((by decide +kernel : ∀ n : Fin 16, ([48, 49, 50, 51, 52, 53, 54, 55, 56, 57, 65, 66, 67, 68, 69, 70] : List UInt8)[n.1]? = some (hexD n.1)) ⟨q, hq⟩) w
theorem encS_take {s : List UInt8} {i : Nat} {c : UInt8} (h : s[i]? = some c) : encS (s.take (i + 1)) = encS (s.take i) ++ encC c := by
  unfold encS
  rw [List.take_add_one, h, Option.toList_some, List.flatMap_append]
  simp
theorem encC_len (c : UInt8) : (encC c).length ≤ 3 := by unfold encC; split <;> simp
end Go.Proofs.YtendejpkdjkmnaaGreatDoor
/- What is asked of the package of lines; awake walked over it. -/
namespace Go.Proofs.YtendejpkdjkmnaaGreatDoor
open Go.RowKit
attribute [local go_sem] store_one S_match S_store

end Go.Proofs.YtendejpkdjkmnaaGreatDoor
/- The landed package's way, as list functions: what its loops tell is the document's answer. -/
namespace Go.Proofs.YtendejpkdjkmnaaGreatDoor
open Go.RowKit

/-! A request's line, cut at its blanks. -/
def hver0 : List UInt8 := [72, 84, 84, 80, 47, 49, 46, 48]
def hver1 : List UInt8 := [72, 84, 84, 80, 47, 49, 46, 49]
def verN (s : List UInt8) : Nat := if s = hver0 then 10 else if s = hver1 then 11 else 0
theorem line_miss {s : List UInt8} (h : 32 ∉ s) : lineF s = ([], [], 0, false) := by
  have hall : s.all (notB 32) = true := by
    rw [List.all_eq_true]; intro c hc; unfold notB; rw [bne_iff_ne]; rintro rfl; exact h hc
  have e : s.takeWhile (notB 32) = s := by
    have := List.takeWhile_append_of_pos (p := notB 32) (l₁ := s) (l₂ := []) (by simpa using hall)
    simpa using this
  unfold lineF
  simp only
  rw [e, List.drop_of_length_le (by omega)]
  rw [if_neg (by simp)]
theorem notin_all {k : UInt8} {a : List UInt8} (h : k ∉ a) : a.all (notB k) = true := by
  rw [List.all_eq_true]; intro c hc; unfold notB; rw [bne_iff_ne]; rintro rfl; exact h hc
theorem line_one {m r : List UInt8} (hm : 32 ∉ m) : lineF (m ++ 32 :: r) = if tokF m = true ∧ r.takeWhile visB ≠ [] then (if r.drop (r.takeWhile visB).length = http0 then (m, r.takeWhile visB, 10, true) else if r.drop (r.takeWhile visB).length = http1 then (m, r.takeWhile visB, 11, true) else ([], [], 0, false)) else ([], [], 0, false) := by
  unfold lineF
  simp only
  rw [take_while_stop (notin_all hm) rfl]
  have : (m ++ 32 :: r).drop (m.length + 1) = r := by rw [List.drop_append, List.drop_of_length_le (by omega), show m.length + 1 - m.length = 1 by omega]; rfl
  rw [this]
theorem drop_mem {k : UInt8} {r q : List UInt8} {n : Nat} (h : r.drop n = k :: q) : k ∈ r := by
  have : k ∈ r.drop n := by rw [h]; exact List.mem_cons_self
  exact List.mem_of_mem_drop this
theorem line_miss2 {m r : List UInt8} (hm : 32 ∉ m) (hr : 32 ∉ r) : lineF (m ++ 32 :: r) = ([], [], 0, false) := by
  rw [line_one hm]
  split
  · have n0 : ¬ (r.drop (r.takeWhile visB).length = http0) := fun e => hr (drop_mem (k := 32) (q := http0.tail) e)
    have n1 : ¬ (r.drop (r.takeWhile visB).length = http1) := fun e => hr (drop_mem (k := 32) (q := http1.tail) e)
    rw [if_neg n0, if_neg n1]
  · rfl
theorem while_drop (p : UInt8 → Bool) : ∀ (t : List UInt8), t.all p = false → ∀ q, ∃ c r, (t ++ q).drop ((t ++ q).takeWhile p).length = c :: r ∧ p c = false ∧ c ∈ t
  | [], h, _ => by cases h
  | c :: t, h, q => by
    cases hc : p c with
    | false =>
      refine ⟨c, t ++ q, ?_, hc, List.mem_cons_self⟩
      rw [List.cons_append, List.takeWhile_cons, hc]; rfl
    | true =>
      rw [List.all_cons, hc, Bool.true_and] at h
      obtain ⟨d, r, h1, h2, h3⟩ := while_drop p t h q
      refine ⟨d, r, ?_, h2, List.mem_cons_of_mem _ h3⟩
      rw [List.cons_append, List.takeWhile_cons, if_pos hc, List.length_cons, List.drop_succ_cons]
      exact h1
theorem line_two {m t l : List UInt8} (hm : 32 ∉ m) (ht : 32 ∉ t) : lineF (m ++ 32 :: (t ++ 32 :: l)) = if (tokF m && (t.all visB && t != []) && verN l != 0) = true then (m, t, verN l, true) else ([], [], 0, false) := by
  rw [line_one hm]
  cases hv : t.all visB with
  | false =>
    obtain ⟨c, r, h1, h2, h3⟩ := while_drop visB t hv (32 :: l)
    have hc : c ≠ 32 := fun e => ht (by rw [← e]; exact h3)
    rw [h1, Bool.false_and, Bool.and_false, Bool.false_and, if_neg Bool.false_ne_true]
    split
    · have n0 : ¬ (c :: r = http0) := fun e => hc (List.cons.inj (show c :: r = 32 :: http0.tail from e)).1
      have n1 : ¬ (c :: r = http1) := fun e => hc (List.cons.inj (show c :: r = 32 :: http1.tail from e)).1
      rw [if_neg n0, if_neg n1]
    · rfl
  | true =>
    have e1 : (t ++ 32 :: l).takeWhile visB = t := take_while_stop hv rfl
    have e2 : (t ++ 32 :: l).drop t.length = 32 :: l := List.drop_left
    rw [e1, e2]
    have h0 : (32 :: l = http0) = (l = hver0) := by unfold http0 hver0; simp
    have h1 : (32 :: l = http1) = (l = hver1) := by unfold http1 hver1; simp
    simp only [h0, h1]
    unfold verN
    by_cases a : tokF m = true
    · by_cases b : t = []
      · simp [a, b]
      · by_cases c : l = hver0
        · simp [a, b, c]
        · by_cases d : l = hver1
          · subst d
            have n10 : hver1 ≠ hver0 := by decide
            simp [a, b, n10]
          · simp [a, b, c, d]
    · simp [a]

/-! A target: each of its bytes is told, or begins an escape. -/
def escF : List UInt8 → Bool
  | c :: x :: y :: _ => c == 37 && hexB x && hexB y
  | _ => false
def wrF (p : UInt8 → Bool) : List UInt8 → Bool
  | [] => true
  | c :: r => (p c || escF (c :: r)) && wrF p r
def queryB (c : UInt8) : Bool := c == 63 || pathB c
theorem hex_path (c : UInt8) (h : hexB c = true) : pathB c = true := by
  have := all_bytes (p := fun c => !hexB c || pathB c) (by decide +kernel) c
  simpa [h] using this
theorem esc_not {c : UInt8} {r : List UInt8} (h : c ≠ 37) : escF (c :: r) = false := by
  match r with
  | [] => rfl
  | [_] => rfl
  | x :: y :: r =>
    have : escF (c :: x :: y :: r) = (c == 37 && hexB x && hexB y) := rfl
    rw [this, show (c == 37) = false from beq_eq_false_iff_ne.2 h]; rfl
/-- Any function that tells a path's characters, and of the others at most the question mark. -/
theorem wr_ok {p : UInt8 → Bool} (hp : ∀ c, c ≠ 63 → p c = pathB c) : ∀ (n : Nat) (s : List UInt8), s.length ≤ n → (63 ∈ s → p 63 = true) → wrF p s = okT s
  | 0, s, hn, _ => by
    obtain rfl := List.length_eq_zero_iff.1 (Nat.le_zero.1 hn); rfl
  | n + 1, [], _, _ => rfl
  | n + 1, c :: r, hn, hq => by
    simp only [List.length_cons] at hn
    have ih := wr_ok hp n r (by omega) (fun h => hq (List.mem_cons_of_mem _ h))
    by_cases hc : c = 37
    · subst hc
      have h37 : p 37 = false := by rw [hp 37 (by decide)]; exact path_pct
      rw [wrF, h37, Bool.false_or]
      by_cases hr : ∃ x y q, r = x :: y :: q ∧ hexB x = true ∧ hexB y = true
      · obtain ⟨x, y, q, rfl, hx, hy⟩ := hr
        rw [okT_pct hx hy, ih, okT_one (hex_not x hx).1, okT_one (hex_not y hy).1, hex_path x hx, hex_path y hy]
        simp [escF, hx, hy]
      · rw [okT_bad (fun x y q e he => hr ⟨x, y, q, e, he⟩)]
        have : escF (37 :: r) = false := by
          match r, hr with
          | [], _ => rfl
          | [_], _ => rfl
          | x :: y :: q, hr =>
            cases he : escF (37 :: x :: y :: q) with
            | false => rfl
            | true =>
              unfold escF at he
              simp only [beq_self_eq_true, Bool.true_and, Bool.and_eq_true] at he
              exact absurd ⟨x, y, q, rfl, he.1, he.2⟩ hr
        rw [this, Bool.false_and]
    · rw [wrF, esc_not hc, Bool.or_false, okT_one hc, ih]
      by_cases h63 : c = 63
      · subst h63
        rw [hq List.mem_cons_self]; rfl
      · rw [hp c h63, show (c == 63) = false from beq_eq_false_iff_ne.2 h63, Bool.false_or]
theorem wr_path {s : List UInt8} (h : 63 ∉ s) : wrF pathB s = okT s := wr_ok (fun _ _ => rfl) _ s (Nat.le_refl _) (fun e => absurd e h)
theorem wr_query (s : List UInt8) : wrF queryB s = okT s := wr_ok (fun c h => by unfold queryB; rw [show (c == 63) = false from beq_eq_false_iff_ne.2 h, Bool.false_or]) _ s (Nat.le_refl _) (fun _ => rfl)
theorem target_bad {s : List UInt8} (h : s[0]? ≠ some 47) : targetF s = ([], [], false) := by unfold targetF; rw [if_pos (.inl h)]
theorem targ_miss {s : List UInt8} (h0 : s[0]? = some 47) (hl : s.length ≤ 512) (hq : 63 ∉ s) : targetF s = if (wrF pathB s && wrF queryB []) = true then (s, [], true) else ([], [], false) := by
  rw [wr_path hq]
  cases ho : okT s with
  | true => rw [target_path h0 hl ho hq]; rfl
  | false => rw [target_none ho]; rfl
theorem targ_hit {a b : List UInt8} (h0 : (a ++ 63 :: b)[0]? = some 47) (hl : (a ++ 63 :: b).length ≤ 512) (hq : 63 ∉ a) : targetF (a ++ 63 :: b) = if (wrF pathB a && wrF queryB b) = true then (a, b, true) else ([], [], false) := by
  rw [wr_path hq, wr_query]
  have ha0 : 0 < a.length := by
    cases a with
    | nil => cases h0
    | cons => simp
  rw [List.getElem?_append_left ha0] at h0
  rw [List.length_append, List.length_cons] at hl
  cases ho : okT a with
  | false =>
    rw [target_none]
    · rfl
    · cases hab : okT (a ++ 63 :: b) with
      | false => rfl
      | true => rw [(okT_mark _ a b (Nat.le_refl _) hq hab).1] at ho; cases ho
  | true =>
    cases hob : okT b with
    | true =>
      have := target_query h0 (by omega) ho hob hq
      rw [show (a ++ [63]) ++ b = a ++ 63 :: b by simp] at this
      rw [this]; rfl
    | false =>
      rw [target_none]
      · rfl
      · rw [okT_append _ a _ (Nat.le_refl _) ho, okT_one (by decide), hob, Bool.and_false]

/-! A reply's line. -/
def codeOfF : List UInt8 → Nat
  | [a, b, c] => if digB a = true ∧ digB b = true ∧ digB c = true ∧ 49 ≤ a.toNat ∧ a.toNat ≤ 53 then codeN a b c else 0
  | _ => 0
theorem code_none {d : List UInt8} (h : d.length ≠ 3) : codeOfF d = 0 := by
  match d, h with
  | [], _ => rfl
  | [_], _ => rfl
  | [_, _], _ => rfl
  | [_, _, _], h => exact absurd rfl h
  | _ :: _ :: _ :: _ :: _, _ => rfl
theorem cut_same {k : UInt8} {a a' b b' : List UInt8} (h : a ++ k :: b = a' ++ k :: b') (ha : k ∉ a) (ha' : k ∉ a') : a = a' ∧ b = b' := by
  have e1 := take_while_stop (notin_all ha) (r := b) (c := k) (by unfold notB; simp)
  have e2 := take_while_stop (notin_all ha') (r := b') (c := k) (by unfold notB; simp)
  rw [h, e2] at e1
  subst e1
  exact ⟨rfl, (List.cons.inj (List.append_cancel_left h)).2⟩
theorem dig_ne {n : Nat} (h : n ≤ 9) : UInt8.ofNat (48 + n) ≠ 32 := fun e => by
  have := congrArg UInt8.toNat e
  rw [dig_nat h] at this
  have : 48 + n = 32 := this
  omega
theorem dig3_ne {n : Nat} (h1 : 100 ≤ n) (h2 : n ≤ 599) : 32 ∉ dig3 n := by
  unfold dig3
  simp only [List.mem_cons, List.not_mem_nil, or_false]
  rintro (e | e | e)
  · exact dig_ne (by omega) e.symm
  · exact dig_ne (by omega) e.symm
  · exact dig_ne (by omega) e.symm
theorem http_cut (r : List UInt8) : httpS ++ r = hver1 ++ 32 :: r := rfl
/-- Any answer that tells a reply's line is put together as it. -/
theorem status_no {s : List UInt8} (h : ∀ c r, 100 ≤ c → c ≤ 599 → r.any badB = false → s ≠ hver1 ++ 32 :: (dig3 c ++ 32 :: r)) : statusF s = (0, [], false) := by
  obtain ⟨⟨c, r, k⟩, hp⟩ : ∃ p, statusF s = p := ⟨_, rfl⟩
  cases k with
  | true =>
    obtain ⟨h1, h2, h3, h4, _⟩ := status_true hp
    exact absurd (h4.trans (http_cut _)) (h c r h1 h2 h3)
  | false => obtain ⟨rfl, rfl⟩ := status_false hp; exact hp
theorem stat_miss {s : List UInt8} (h : 32 ∉ s) : statusF s = (0, [], false) := status_no fun c r _ _ _ e => h (by rw [e]; simp)
theorem stat_miss2 {v r : List UInt8} (hv : 32 ∉ v) (hr : 32 ∉ r) : statusF (v ++ 32 :: r) = (0, [], false) := status_no fun c q _ _ _ e => by
  obtain ⟨_, e2⟩ := cut_same e hv (by decide)
  exact hr (by rw [e2]; simp)
theorem code_pos {d : List UInt8} (h : codeOfF d ≠ 0) : ∃ a b c, d = [a, b, c] ∧ digB a = true ∧ digB b = true ∧ digB c = true ∧ 49 ≤ a.toNat ∧ a.toNat ≤ 53 ∧ codeOfF d = codeN a b c := by
  match d, h with
  | [], h => exact absurd rfl h
  | [_], h => exact absurd rfl h
  | [_, _], h => exact absurd rfl h
  | [a, b, c], h =>
    have e : codeOfF [a, b, c] = if digB a = true ∧ digB b = true ∧ digB c = true ∧ 49 ≤ a.toNat ∧ a.toNat ≤ 53 then codeN a b c else 0 := rfl
    by_cases hc : digB a = true ∧ digB b = true ∧ digB c = true ∧ 49 ≤ a.toNat ∧ a.toNat ≤ 53
    · exact ⟨a, b, c, rfl, hc.1, hc.2.1, hc.2.2.1, hc.2.2.2.1, hc.2.2.2.2, by rw [e, if_pos hc]⟩
    · rw [e, if_neg hc] at h
      exact absurd rfl h
  | _ :: _ :: _ :: _ :: _, h => exact absurd rfl h
theorem code_dig3 {n : Nat} (h1 : 100 ≤ n) (h2 : n ≤ 599) : codeOfF (dig3 n) ≠ 0 := by
  have ea := dig_nat (k := n / 100) (by omega)
  have eb := dig_nat (k := n / 10 % 10) (by omega)
  have ec := dig_nat (k := n % 10) (by omega)
  have dg : ∀ k, k ≤ 9 → digB (UInt8.ofNat (48 + k)) = true := fun k hk => by
    unfold digB; rw [dig_nat hk, decide_eq_true (by omega), decide_eq_true (by omega)]; rfl
  have e : ∀ a b c : UInt8, codeOfF [a, b, c] = if digB a = true ∧ digB b = true ∧ digB c = true ∧ 49 ≤ a.toNat ∧ a.toNat ≤ 53 then codeN a b c else 0 := fun _ _ _ => rfl
  unfold dig3
  rw [e, if_pos ⟨dg _ (by omega), dg _ (by omega), dg _ (by omega), by rw [ea]; omega, by rw [ea]; omega⟩]
  unfold codeN
  rw [ea]; omega
theorem stat_two {v d r : List UInt8} (hv : 32 ∉ v) (hd : 32 ∉ d) : statusF (v ++ 32 :: (d ++ 32 :: r)) = if (v == hver1 && codeOfF d != 0 && r.all valB) = true then (codeOfF d, r, true) else (0, [], false) := by
  by_cases hc : (v == hver1 && codeOfF d != 0 && r.all valB) = true
  · rw [if_pos hc]
    simp only [Bool.and_eq_true, beq_iff_eq, bne_iff_ne] at hc
    obtain ⟨⟨rfl, h0⟩, hr⟩ := hc
    obtain ⟨a, b, c, rfl, ha, hb, hc', h1, h5, hcd⟩ := code_pos h0
    rw [hcd]
    have hbad : r.any badB = false := by rw [val_bad] at hr; simpa using hr
    unfold statusF
    have e1 : (hver1 ++ 32 :: ([a, b, c] ++ 32 :: r)).drop 9 = a :: b :: c :: 32 :: r := rfl
    have e2 : (hver1 ++ 32 :: ([a, b, c] ++ 32 :: r)).take 9 = httpS := rfl
    rw [e1, e2]
    simp only
    rw [if_pos ⟨trivial, ha, hb, hc', h1, h5, hbad⟩]
  · rw [if_neg hc]
    refine status_no fun c q h1 h2 hq e => hc ?_
    obtain ⟨rfl, e2⟩ := cut_same e hv (by decide)
    obtain ⟨rfl, rfl⟩ := cut_same e2 hd (dig3_ne h1 h2)
    simp only [Bool.and_eq_true, beq_iff_eq, bne_iff_ne]
    exact ⟨⟨trivial, code_dig3 h1 h2⟩, by rw [val_bad, hq]; rfl⟩
/-- What field.Parse tells of x: ahead of a text. -/
theorem parse_x (s : List UInt8) : (parseF (120 :: 58 :: s)).2.2 = s.all valB := by
  have h := parse_cut [120] s (by decide)
  rw [show ([120] : List UInt8) ++ 58 :: s = 120 :: 58 :: s from rfl] at h
  rw [h, show tokF [120] = true by decide, Bool.true_and]
  cases s.all valB <;> rfl
end Go.Proofs.YtendejpkdjkmnaaGreatDoor
/- The landed field's Parse walked. -/
namespace Go.Proofs.YtendejpkdjkmnaaGreatDoor
open Go.RowKit
attribute [local go_sem] store_one S_match S_store eguard_BN nguard_BN

theorem index_S1 (s : List UInt8) (k : UInt8) (w : World) : Calls Tryz.prog 107 #[S s, S [k]] w fun e w' => e = .returned (.int .i64 (Lib.indexByte s k)) ∧ w' = w :=
  Tryz.stringslite_Index_one ⟨s.toArray⟩ k w
set_option maxRecDepth 100000 in
set_option maxHeartbeats 400000 in
theorem cut34_hit (k : UInt8) (a b : List UInt8) (h : k ∉ a) (hs : a.length + b.length ≤ 100000) (w : World) :
    Calls Tryz.prog 89 #[S (a ++ k :: b), S [k]] w fun e w' => e = .returned (.tuple #[S a, S b, .bool true]) ∧ Drawn w w' := by
  have hix := index_S1 (a ++ k :: b) k w
  rw [index_hit b h] at hix
  have hl := run_len_S (P := Tryz.prog) Tryz.underlying9 3 [k]
  have hln : (a ++ k :: b).length = a.length + b.length + 1 := by simp; omega
  have hs1 := slice_take (P := Tryz.prog) Tryz.underlying9 (a ++ k :: b) a.length (by omega)
  have hs2 := slice_drop (P := Tryz.prog) Tryz.underlying9 (a ++ k :: b) (a.length + 1) (by omega)
  rw [List.take_left] at hs1
  rw [show (a ++ k :: b).drop (a.length + 1) = b by rw [List.drop_append]; simp] at hs2
  generalize a ++ k :: b = T at *
  generalize hn : a.length = n at *
  have hn5 : n ≤ 100000 := by omega
  have hs3 : ∀ w, (Instr.slice 9 (S T) (some (.int .i64 ((n : Int) + 1))) none none).run Tryz.prog w = .ok (S b) w := fun w => by
    have := hs2 w
    rwa [show ((n + 1 : Nat) : Int) = (n : Int) + 1 by omega] at this
  have hg : decide ((0 : Int) ≤ (n : Int)) = true := decide_eq_true (by omega)
  have hl1 : ∀ w, (Builtin.len_ #[9] 3 #[S [k]]).run Tryz.prog w = .ok (.int .i64 1) w := hl
  clear hl hln h hn hs hs2
  go_enter Tryz.func89, Tryz.ntmps89
  go_wp2_with fail
  refine hix.mono ?_
  rintro e w1 ⟨rfl, rfl⟩
  go_wp2
  have hmx : Tryz.prog.follows .mixedOrders = true := by kernel_rfl
  go_region_o
  go_wp2
  go_ret3
  exact ⟨rfl, 1, rfl⟩
set_option maxRecDepth 100000 in
set_option maxHeartbeats 400000 in
theorem cut34_miss (k : UInt8) (s : List UInt8) (h : k ∉ s) (w : World) :
    Calls Tryz.prog 89 #[S s, S [k]] w fun e w' => e = .returned (.tuple #[S s, S [], .bool false]) ∧ Drawn w w' := by
  have hix := index_S1 s k w
  rw [index_miss h] at hix
  clear h
  go_enter Tryz.func89, Tryz.ntmps89
  go_wp2_with fail
  refine hix.mono ?_
  rintro e w1 ⟨rfl, rfl⟩
  go_wp2
  go_ret3
  exact ⟨rfl, 0, rfl⟩
/-- strings.Cut at one byte. -/
theorem cut_hit (k : UInt8) (a b : List UInt8) (h : k ∉ a) (hs : a.length + b.length ≤ 100000) (w : World) :
    Calls Tryz.prog 66 #[S (a ++ k :: b), S [k]] w fun e w' => e = .returned (.tuple #[S a, S b, .bool true]) ∧ Drawn w w' := by
  have hc := cut34_hit k a b h hs w
  generalize a ++ k :: b = T at *
  clear h hs
  go_enter Tryz.func66, Tryz.ntmps66
  go_wp2_with fail
  refine hc.mono ?_
  rintro e w1 ⟨rfl, hD⟩
  go_wp2
  go_ret3
  exact ⟨rfl, hD⟩
theorem cut_miss (k : UInt8) (s : List UInt8) (h : k ∉ s) (w : World) :
    Calls Tryz.prog 66 #[S s, S [k]] w fun e w' => e = .returned (.tuple #[S s, S [], .bool false]) ∧ Drawn w w' := by
  have hc := cut34_miss k s h w
  clear h
  go_enter Tryz.func66, Tryz.ntmps66
  go_wp2_with fail
  refine hc.mono ?_
  rintro e w1 ⟨rfl, hD⟩
  go_wp2
  go_ret3
  exact ⟨rfl, hD⟩
/-- A result of a struct of two texts, and one more. -/
theorem struct_end {fn : Func} {p u : Tmp} {i : TypeInfo} (hi : Tryz.prog.info? 43 = some i) (hs : i.size = 2) (h : fn.results = #[.cell p 43, .tmp u]) (tmps : Array Value) (w : World) (g : Nat) (cs : Array Value) (hp : tmps.getD p undef = .pointer (some ⟨g, 0, none⟩)) (hg : Row w g cs 43) (h2 : cs.size = 2) :
    (results fn tmps).run Tryz.prog w = .ok (.tuple #[.agg cs, tmps.getD u undef]) w :=
  results_row_tmp h tmps w g 43 cs (0, 0) _ hp hg Tryz.underlying43 rfl (by rw [hi, Option.map_some, hs, h2])
theorem infoFld : ∃ i, Tryz.prog.info? 43 = some i ∧ i.size = 2 := by
  have h : (Tryz.prog.info? 43).map (·.size) = some 2 := by kernel_rfl
  cases hi : Tryz.prog.info? 43 with
  | none => simp [hi] at h
  | some i => exact ⟨i, rfl, by simpa [hi] using h⟩
end Go.Proofs.YtendejpkdjkmnaaGreatDoor
/- The landed package of lines walked: its bytes and its loops. (mklv.py writes it.) -/
namespace Go.Proofs.YtendejpkdjkmnaaGreatDoor
open Go.RowKit
attribute [local go_sem] store_one S_match S_store eguard_BN nguard_BN

theorem B_lss (t : TypeId) (x : UInt8) (k : Int) : binOp .lss t (B x) (.int .u8 k) = pure (.bool (decide ((x.toNat : Int) < k))) := rfl
theorem B_gtr (t : TypeId) (x : UInt8) (k : Int) : binOp .gtr t (B x) (.int .u8 k) = pure (.bool (decide (k < (x.toNat : Int)))) := rfl
theorem hex_small : ∀ n : Fin 256, hexB (UInt8.ofNat n.1) = ((decide (48 ≤ n.1) && decide (n.1 ≤ 57)) || (decide (97 ≤ n.1) && decide (n.1 ≤ 102)) || (decide (65 ≤ n.1) && decide (n.1 ≤ 70))) := by decide +kernel
theorem hex_eq (c : UInt8) : hexB c = ((decide (48 ≤ c.toNat) && decide (c.toNat ≤ 57)) || (decide (97 ≤ c.toNat) && decide (c.toNat ≤ 102)) || (decide (65 ≤ c.toNat) && decide (c.toNat ≤ 70))) := by
  have := hex_small ⟨c.toNat, c.toNat_lt⟩
  simp only [UInt8.ofNat_toNat] at this
  exact this
def pmarkL : List UInt8 := [45, 46, 95, 126, 33, 36, 38, 39, 40, 41, 42, 43, 44, 59, 61, 58, 64, 47]
theorem path_small : ∀ n : Fin 256, pathB (UInt8.ofNat n.1) = ((decide (65 ≤ n.1) && decide (n.1 ≤ 90)) || (decide (97 ≤ n.1) && decide (n.1 ≤ 122)) || (decide (48 ≤ n.1) && decide (n.1 ≤ 57)) || pmarkL.contains (UInt8.ofNat n.1)) := by decide +kernel
theorem path_eq (c : UInt8) : pathB c = ((decide (65 ≤ c.toNat) && decide (c.toNat ≤ 90)) || (decide (97 ≤ c.toNat) && decide (c.toNat ≤ 122)) || (decide (48 ≤ c.toNat) && decide (c.toNat ≤ 57)) || pmarkL.contains c) := by
  have := path_small ⟨c.toNat, c.toNat_lt⟩
  simp only [UInt8.ofNat_toNat] at this
  exact this

set_option maxRecDepth 100000 in
set_option maxHeartbeats 1000000 in
theorem inten_any (c : UInt8) (w : World) : Calls Tryz.prog 91 #[B c] w fun e w' => e = .returned (.bool (digB c)) ∧ w' = w := by
  have h1 := B_geq 5 c 48
  have h2 := B_leq 5 c 57
  rcases (by omega : c.toNat < 48 ∨ (48 ≤ c.toNat ∧ c.toNat ≤ 57) ∨ 57 < c.toNat) with a | a | a
  · rw [show digB c = false by unfold digB; simp; omega]
    rw [decide_eq_false (by omega)] at h1
    clear h2 a
    go_enter Tryz.func91, Tryz.ntmps91
    go_wp2
    go_ret
    exact ⟨rfl, rfl⟩
  · rw [show digB c = true by unfold digB; simp; omega]
    rw [decide_eq_true (by omega)] at h1 h2
    clear a
    go_enter Tryz.func91, Tryz.ntmps91
    go_wp2
    go_ret
    exact ⟨rfl, rfl⟩
  · rw [show digB c = false by unfold digB; simp; omega]
    rw [decide_eq_true (by omega)] at h1
    rw [decide_eq_false (by omega)] at h2
    clear a
    go_enter Tryz.func91, Tryz.ntmps91
    go_wp2
    go_ret
    exact ⟨rfl, rfl⟩
set_option maxRecDepth 100000 in
set_option maxHeartbeats 1000000 in
theorem insix_any (c : UInt8) (w : World) : Calls Tryz.prog 108 #[B c] w fun e w' => e = .returned (.bool (hexB c)) ∧ w' = w := by
  have h1 := B_geq 5 c 97
  have h2 := B_leq 5 c 102
  have h3 := B_geq 5 c 65
  have h4 := B_leq 5 c 70
  have HT := Lib.hid (fun w => inten_any c w)
  have hE := hex_eq c
  rcases (by omega : c.toNat < 48 ∨ (48 ≤ c.toNat ∧ c.toNat ≤ 57) ∨ (57 < c.toNat ∧ c.toNat < 65) ∨ (65 ≤ c.toNat ∧ c.toNat ≤ 70) ∨ (70 < c.toNat ∧ c.toNat < 97) ∨ (97 ≤ c.toNat ∧ c.toNat ≤ 102) ∨ 102 < c.toNat) with a | a | a | a | a | a | a
  · rw [show hexB c = false by rw [hE]; simp; omega]
    rw [decide_eq_false (by omega)] at h1 h3
    rw [show digB c = false by unfold digB; simp; omega] at HT
    clear h2 h4 a hE
    go_enter Tryz.func108, Tryz.ntmps108
    go_wp2_with fail
    refine (HT.out w).mono ?_
    rintro e w1 ⟨rfl, hw1⟩
    obtain rfl := hw1.symm
    clear hw1
    go_wp2
    go_ret
    exact ⟨rfl, rfl⟩
  · rw [show hexB c = true by rw [hE]; simp; omega]
    rw [show digB c = true by unfold digB; simp; omega] at HT
    clear h1 h2 h3 h4 a hE
    go_enter Tryz.func108, Tryz.ntmps108
    go_wp2_with fail
    refine (HT.out w).mono ?_
    rintro e w1 ⟨rfl, hw1⟩
    obtain rfl := hw1.symm
    clear hw1
    go_wp2
    go_ret
    exact ⟨rfl, rfl⟩
  · rw [show hexB c = false by rw [hE]; simp; omega]
    rw [decide_eq_false (by omega)] at h1 h3
    rw [show digB c = false by unfold digB; simp; omega] at HT
    clear h2 h4 a hE
    go_enter Tryz.func108, Tryz.ntmps108
    go_wp2_with fail
    refine (HT.out w).mono ?_
    rintro e w1 ⟨rfl, hw1⟩
    obtain rfl := hw1.symm
    clear hw1
    go_wp2
    go_ret
    exact ⟨rfl, rfl⟩
  · rw [show hexB c = true by rw [hE]; simp; omega]
    rw [decide_eq_false (by omega)] at h1
    rw [decide_eq_true (by omega)] at h3 h4
    rw [show digB c = false by unfold digB; simp; omega] at HT
    clear h2 a hE
    go_enter Tryz.func108, Tryz.ntmps108
    go_wp2_with fail
    refine (HT.out w).mono ?_
    rintro e w1 ⟨rfl, hw1⟩
    obtain rfl := hw1.symm
    clear hw1
    go_wp2
    go_ret
    exact ⟨rfl, rfl⟩
  · rw [show hexB c = false by rw [hE]; simp; omega]
    rw [decide_eq_false (by omega)] at h1
    rw [decide_eq_true (by omega)] at h3
    rw [decide_eq_false (by omega)] at h4
    rw [show digB c = false by unfold digB; simp; omega] at HT
    clear h2 a hE
    go_enter Tryz.func108, Tryz.ntmps108
    go_wp2_with fail
    refine (HT.out w).mono ?_
    rintro e w1 ⟨rfl, hw1⟩
    obtain rfl := hw1.symm
    clear hw1
    go_wp2
    go_ret
    exact ⟨rfl, rfl⟩
  · rw [show hexB c = true by rw [hE]; simp; omega]
    rw [decide_eq_true (by omega)] at h1 h2
    rw [show digB c = false by unfold digB; simp; omega] at HT
    clear h3 h4 a hE
    go_enter Tryz.func108, Tryz.ntmps108
    go_wp2_with fail
    refine (HT.out w).mono ?_
    rintro e w1 ⟨rfl, hw1⟩
    obtain rfl := hw1.symm
    clear hw1
    go_wp2
    go_ret
    exact ⟨rfl, rfl⟩
  · rw [show hexB c = false by rw [hE]; simp; omega]
    rw [decide_eq_true (by omega)] at h1 h3
    rw [decide_eq_false (by omega)] at h2 h4
    rw [show digB c = false by unfold digB; simp; omega] at HT
    clear a hE
    go_enter Tryz.func108, Tryz.ntmps108
    go_wp2_with fail
    refine (HT.out w).mono ?_
    rintro e w1 ⟨rfl, hw1⟩
    obtain rfl := hw1.symm
    clear hw1
    go_wp2
    go_ret
    exact ⟨rfl, rfl⟩
theorem pmark_any (c : UInt8) (w : World) : Calls Tryz.prog 63 #[.string ⟨#[45, 46, 95, 126, 33, 36, 38, 39, 40, 41, 42, 43, 44, 59, 61, 58, 64, 47]⟩, B c] w fun e w' => e = .returned (.int .i64 (Lib.indexByte pmarkL c)) ∧ w' = w := by
  have h := Any.strings_IndexByte Tryz.lays137 ⟨#[45, 46, 95, 126, 33, 36, 38, 39, 40, 41, 42, 43, 44, 59, 61, 58, 64, 47]⟩ (c.toNat : Int) w
  have e : (c.toNat : Int).toNat.toUInt8 = c := by simp
  rw [e] at h
  exact h
set_option maxRecDepth 100000 in
set_option maxHeartbeats 1000000 in
theorem inpath_any (c : UInt8) (w : World) : Calls Tryz.prog 68 #[B c] w fun e w' => e = .returned (.bool (pathB c)) ∧ w' = w := by
  have h1 := B_geq 5 c 65
  have h2 := B_leq 5 c 90
  have h3 := B_geq 5 c 97
  have h4 := B_leq 5 c 122
  have HT := Lib.hid (fun w => inten_any c w)
  have hE := path_eq c
  rw [Lib.contains_iff_indexByte] at hE
  obtain ⟨j, hj⟩ : ∃ j, j = Lib.indexByte pmarkL c := ⟨_, rfl⟩
  have hmk := pmark_any c
  rw [← hj] at hE hmk
  have HM := Lib.hid hmk
  clear hmk hj
  rcases (by omega : c.toNat < 48 ∨ (48 ≤ c.toNat ∧ c.toNat ≤ 57) ∨ (57 < c.toNat ∧ c.toNat < 65) ∨ (65 ≤ c.toNat ∧ c.toNat ≤ 90) ∨ (90 < c.toNat ∧ c.toNat < 97) ∨ (97 ≤ c.toNat ∧ c.toNat ≤ 122) ∨ 122 < c.toNat) with a | a | a | a | a | a | a
  · rw [show pathB c = decide (0 ≤ j) by rw [hE]; simp; omega]
    rw [decide_eq_false (by omega)] at h1 h3
    rw [show digB c = false by unfold digB; simp; omega] at HT
    clear h2 h4 a hE
    go_enter Tryz.func68, Tryz.ntmps68
    go_wp2_with fail
    refine (HT.out w).mono ?_
    rintro e w1 ⟨rfl, hw1⟩
    obtain rfl := hw1.symm
    clear hw1
    go_wp2_with fail
    refine (HM.out w).mono ?_
    rintro e w1 ⟨rfl, hw1⟩
    obtain rfl := hw1.symm
    clear hw1
    go_wp2
    go_ret
    exact ⟨rfl, rfl⟩
  · rw [show pathB c = true by rw [hE]; simp; omega]
    rw [decide_eq_false (by omega)] at h1 h3
    rw [show digB c = true by unfold digB; simp; omega] at HT
    clear h2 h4 a hE HM
    go_enter Tryz.func68, Tryz.ntmps68
    go_wp2_with fail
    refine (HT.out w).mono ?_
    rintro e w1 ⟨rfl, hw1⟩
    obtain rfl := hw1.symm
    clear hw1
    go_wp2
    go_ret
    exact ⟨rfl, rfl⟩
  · rw [show pathB c = decide (0 ≤ j) by rw [hE]; simp; omega]
    rw [decide_eq_false (by omega)] at h1 h3
    rw [show digB c = false by unfold digB; simp; omega] at HT
    clear h2 h4 a hE
    go_enter Tryz.func68, Tryz.ntmps68
    go_wp2_with fail
    refine (HT.out w).mono ?_
    rintro e w1 ⟨rfl, hw1⟩
    obtain rfl := hw1.symm
    clear hw1
    go_wp2_with fail
    refine (HM.out w).mono ?_
    rintro e w1 ⟨rfl, hw1⟩
    obtain rfl := hw1.symm
    clear hw1
    go_wp2
    go_ret
    exact ⟨rfl, rfl⟩
  · rw [show pathB c = true by rw [hE]; simp; omega]
    rw [decide_eq_true (by omega)] at h1 h2
    clear h3 h4 a hE HM HT
    go_enter Tryz.func68, Tryz.ntmps68
    go_wp2
    go_ret
    exact ⟨rfl, rfl⟩
  · rw [show pathB c = decide (0 ≤ j) by rw [hE]; simp; omega]
    rw [decide_eq_true (by omega)] at h1
    rw [decide_eq_false (by omega)] at h2 h3
    rw [show digB c = false by unfold digB; simp; omega] at HT
    clear h4 a hE
    go_enter Tryz.func68, Tryz.ntmps68
    go_wp2_with fail
    refine (HT.out w).mono ?_
    rintro e w1 ⟨rfl, hw1⟩
    obtain rfl := hw1.symm
    clear hw1
    go_wp2_with fail
    refine (HM.out w).mono ?_
    rintro e w1 ⟨rfl, hw1⟩
    obtain rfl := hw1.symm
    clear hw1
    go_wp2
    go_ret
    exact ⟨rfl, rfl⟩
  · rw [show pathB c = true by rw [hE]; simp; omega]
    rw [decide_eq_true (by omega)] at h1 h3 h4
    rw [decide_eq_false (by omega)] at h2
    clear a hE HM HT
    go_enter Tryz.func68, Tryz.ntmps68
    go_wp2
    go_ret
    exact ⟨rfl, rfl⟩
  · rw [show pathB c = decide (0 ≤ j) by rw [hE]; simp; omega]
    rw [decide_eq_true (by omega)] at h1 h3
    rw [decide_eq_false (by omega)] at h2 h4
    rw [show digB c = false by unfold digB; simp; omega] at HT
    clear a hE
    go_enter Tryz.func68, Tryz.ntmps68
    go_wp2_with fail
    refine (HT.out w).mono ?_
    rintro e w1 ⟨rfl, hw1⟩
    obtain rfl := hw1.symm
    clear hw1
    go_wp2_with fail
    refine (HM.out w).mono ?_
    rintro e w1 ⟨rfl, hw1⟩
    obtain rfl := hw1.symm
    clear hw1
    go_wp2
    go_ret
    exact ⟨rfl, rfl⟩
set_option maxRecDepth 100000 in
set_option maxHeartbeats 1000000 in
theorem inquery_any (c : UInt8) (w : World) : Calls Tryz.prog 69 #[B c] w fun e w' => e = .returned (.bool (queryB c)) ∧ w' = w := by
  have h1 := B_eqlN 5 c 63
  have HP := Lib.hid (fun w => inpath_any c w)
  by_cases a : c = 63
  · rw [show queryB c = true by rw [a]; rfl]
    rw [show ((c.toNat : Int) == 63) = true by rw [a]; rfl] at h1
    clear a HP
    go_enter Tryz.func69, Tryz.ntmps69
    go_wp2
    go_ret
    exact ⟨rfl, rfl⟩
  · rw [show queryB c = pathB c by unfold queryB; rw [show (c == 63) = false from beq_eq_false_iff_ne.2 a, Bool.false_or]]
    rw [show ((c.toNat : Int) == 63) = false by rw [beq_eq_false_iff_ne]; intro e; exact a (UInt8.toNat_inj.1 (by rw [show (63 : UInt8).toNat = 63 from rfl]; omega))] at h1
    clear a
    go_enter Tryz.func69, Tryz.ntmps69
    go_wp2_with fail
    refine (HP.out w).mono ?_
    rintro e w1 ⟨rfl, hw1⟩
    obtain rfl := hw1.symm
    clear hw1
    go_wp2
    go_ret
    exact ⟨rfl, rfl⟩
set_option maxRecDepth 100000 in
set_option maxHeartbeats 1000000 in
theorem escapes_any (s : List UInt8) (hs : s.length ≤ 100000) (w : World) : Calls Tryz.prog 90 #[S s] w fun e w' => e = .returned (.bool (escF s)) ∧ w' = w := by
  have hlen := run_len_S (P := Tryz.prog) Tryz.underlying9 3 s
  by_cases h2 : 2 < s.length
  · obtain ⟨c, x, y, r, rfl⟩ : ∃ c x y r, s = c :: x :: y :: r := by
      match s, h2 with
      | [], h => exact absurd h (by simp)
      | [_], h => exact absurd h (by simp)
      | [_, _], h => exact absurd h (by simp)
      | c :: x :: y :: r, _ => exact ⟨c, x, y, r, rfl⟩
    have g1 : decide ((2 : Int) < ((c :: x :: y :: r).length : Int)) = true := decide_eq_true (by omega)
    have i0 : ∀ w, (Instr.index 9 (S (c :: x :: y :: r)) (.int .i64 0)).run Tryz.prog w = .ok (B c) w := fun w => index_S (P := Tryz.prog) Tryz.underlying9 _ 0 c rfl w
    have i1 : ∀ w, (Instr.index 9 (S (c :: x :: y :: r)) (.int .i64 1)).run Tryz.prog w = .ok (B x) w := fun w => index_S (P := Tryz.prog) Tryz.underlying9 _ 1 x rfl w
    have i2 : ∀ w, (Instr.index 9 (S (c :: x :: y :: r)) (.int .i64 2)).run Tryz.prog w = .ok (B y) w := fun w => index_S (P := Tryz.prog) Tryz.underlying9 _ 2 y rfl w
    have HX := Lib.hid (fun w => insix_any x w)
    have HY := Lib.hid (fun w => insix_any y w)
    have q := B_eqlN 5 c 37
    have hE : escF (c :: x :: y :: r) = (c == 37 && hexB x && hexB y) := rfl
    rw [hE]
    clear hE h2
    generalize (c :: x :: y :: r) = s at *
    generalize s.length = L at *
    by_cases a : c = 37
    · rw [show ((c.toNat : Int) == 37) = true by rw [a]; rfl] at q
      rw [show (c == 37) = true by rw [a]; rfl, Bool.true_and]
      cases hx : hexB x with
      | true =>
        rw [hx] at HX
        rw [Bool.true_and]
        clear a hx
        go_enter Tryz.func90, Tryz.ntmps90
        go_wp2_with fail
        refine (HX.out w).mono ?_
        rintro e w1 ⟨rfl, hw1⟩
        obtain rfl := hw1.symm
        clear hw1
        go_wp2_with fail
        refine (HY.out w).mono ?_
        rintro e w1 ⟨rfl, hw1⟩
        obtain rfl := hw1.symm
        clear hw1
        go_wp2
        go_ret
        exact ⟨rfl, rfl⟩
      | false =>
        rw [hx] at HX
        rw [Bool.false_and]
        clear a hx HY
        go_enter Tryz.func90, Tryz.ntmps90
        go_wp2_with fail
        refine (HX.out w).mono ?_
        rintro e w1 ⟨rfl, hw1⟩
        obtain rfl := hw1.symm
        clear hw1
        go_wp2
        go_ret
        exact ⟨rfl, rfl⟩
    · rw [show ((c.toNat : Int) == 37) = false by rw [beq_eq_false_iff_ne]; intro e; exact a (UInt8.toNat_inj.1 (by rw [show (37 : UInt8).toNat = 37 from rfl]; omega))] at q
      rw [show (c == 37) = false from beq_eq_false_iff_ne.2 a, Bool.false_and, Bool.false_and]
      clear a HX HY
      go_enter Tryz.func90, Tryz.ntmps90
      go_wp2
      go_ret
      exact ⟨rfl, rfl⟩
  · have g1 : decide ((2 : Int) < (s.length : Int)) = false := decide_eq_false (by omega)
    have hE : escF s = false := by
      match s, h2 with
      | [], _ => rfl
      | [_], _ => rfl
      | [_, _], _ => rfl
      | c :: x :: y :: r, h => exact absurd (by simp) h
    rw [hE]
    clear hE h2
    go_enter Tryz.func90, Tryz.ntmps90
    go_wp2
    go_ret
    exact ⟨rfl, rfl⟩
set_option maxRecDepth 100000 in
set_option maxHeartbeats 1000000 in
theorem written_any {f : Nat} {p : UInt8 → Bool} (hf : ∀ c w, Calls Tryz.prog f #[B c] w fun e w' => e = .returned (.bool (p c)) ∧ w' = w) (he : ∀ args w, (callFunc f args).run Tryz.prog w = .ok (.enter f args) w)
    (s : List UInt8) (hs : s.length ≤ 100000) (w : World) : Calls Tryz.prog 67 #[S s, .func (.func f) #[] #[]] w fun e w' => e = .returned (.bool (wrF p s)) ∧ w' = w := by
  have hlenS := run_len_S (P := Tryz.prog) Tryz.underlying9 3 s
  have HF := Lib.hid hf
  obtain ⟨L, hL⟩ : ∃ L, L = s.length := ⟨_, rfl⟩
  rw [← hL] at hlenS hs
  have HL := Lib.hid hL
  clear hf hL
  go_enter Tryz.func67, Tryz.ntmps67
  go_wp2
  go_loopw [8] (fun iv wr => ∃ i : Nat, i ≤ L ∧ iv = .int .i64 (i : Int) ∧ wr = w ∧ wrF p s = wrF p (s.drop i)) (fun iv _ => L - (intOf iv).toNat)
  case atStart => exact ⟨0, by omega, rfl, rfl, rfl⟩
  case round =>
    obtain ⟨i, hi, rfl, rfl, hn⟩ := hrel
    by_cases hlt : i < L
    · obtain ⟨c, hc⟩ : ∃ c, s[i]? = some c := ⟨s[i]'(by have := HL.out; omega), List.getElem?_eq_getElem _⟩
      have hidx : ∀ w, (Instr.index 9 (S s) (.int .i64 (i : Int))).run Tryz.prog w = .ok (B c) w := fun w => index_S (P := Tryz.prog) Tryz.underlying9 s i c hc w
      have hsl : ∀ w, (Instr.slice 9 (S s) (some (.int .i64 (i : Int))) none none).run Tryz.prog w = .ok (S (s.drop i)) w := fun w => slice_drop (P := Tryz.prog) Tryz.underlying9 s i (by have := HL.out; omega) w
      have hdr : s.drop i = c :: s.drop (i + 1) := by
        rw [List.drop_eq_getElem_cons (by rw [← HL.out]; exact hlt), (List.getElem?_eq_some_iff.1 hc).2]
      have hnx : wrF p s = ((p c || escF (s.drop i)) && wrF p (s.drop (i + 1))) := by rw [hn, hdr]; rfl
      have HE := Lib.hid (fun w => escapes_any (s.drop i) (by rw [List.length_drop]; have := HL.out; omega) w)
      have HF2 := Lib.hid (HF.out c wr)
      clear hn hc hdr
      cases hb : p c with
      | true =>
        have HN : Hid (wrF p s = wrF p (s.drop (i + 1))) := Lib.hid (by rw [hnx, hb, Bool.true_or, Bool.true_and])
        have HB := Lib.hid hb
        clear hnx hb HE hsl
        go_wp2_with fail
        refine HF2.out.mono ?_
        rintro e w1 ⟨rfl, hw1⟩
        obtain rfl := hw1.symm
        rw [HB.out]
        clear hw1
        go_wp2
        exact ⟨⟨i + 1, by omega, by go_num, by trivial, HN.out⟩, by simp [intOf]; omega⟩
      | false =>
        have HB := Lib.hid hb
        cases hes : escF (s.drop i) with
        | true =>
          have HN : Hid (wrF p s = wrF p (s.drop (i + 1))) := Lib.hid (by rw [hnx, hb, hes, Bool.false_or, Bool.true_and])
          rw [hes] at HE
          clear hnx hb hes
          go_wp2_with fail
          refine HF2.out.mono ?_
          rintro e w1 ⟨rfl, hw1⟩
          obtain rfl := hw1.symm
          rw [HB.out]
          clear hw1
          go_wp2_with fail
          refine (HE.out _).mono ?_
          rintro e w1 ⟨rfl, hw1⟩
          obtain rfl := hw1.symm
          clear hw1
          go_wp2
          exact ⟨⟨i + 1, by omega, by go_num, by trivial, HN.out⟩, by simp [intOf]; omega⟩
        | false =>
          have HN : Hid (wrF p s = false) := Lib.hid (by rw [hnx, hb, hes, Bool.false_or, Bool.false_and])
          rw [hes] at HE
          clear hnx hb hes
          go_wp2_with fail
          refine HF2.out.mono ?_
          rintro e w1 ⟨rfl, hw1⟩
          obtain rfl := hw1.symm
          rw [HB.out]
          clear hw1
          go_wp2_with fail
          refine (HE.out _).mono ?_
          rintro e w1 ⟨rfl, hw1⟩
          obtain rfl := hw1.symm
          clear hw1
          go_wp2
          go_ret
          exact ⟨by rw [HN.out]; rfl, rfl⟩
    · obtain rfl : i = L := by omega
      have HN : Hid (wrF p s = true) := Lib.hid (by rw [hn, HL.out, List.drop_length]; rfl)
      clear hn
      go_wp2
      go_ret
      exact ⟨by rw [HN.out]; rfl, rfl⟩
theorem written_path (s : List UInt8) (hs : s.length ≤ 100000) (w : World) : Calls Tryz.prog 67 #[S s, .func (.func 68) #[] #[]] w fun e w' => e = .returned (.bool (wrF pathB s)) ∧ w' = w :=
  written_any inpath_any (enters_of Tryz.func68 (by kernel_rfl) rfl) s hs w
theorem written_query (s : List UInt8) (hs : s.length ≤ 100000) (w : World) : Calls Tryz.prog 67 #[S s, .func (.func 69) #[] #[]] w fun e w' => e = .returned (.bool (wrF queryB s)) ∧ w' = w :=
  written_any inquery_any (enters_of Tryz.func69 (by kernel_rfl) rfl) s hs w
theorem B_sub48 (t : TypeId) (x : UInt8) (h : 48 ≤ x.toNat) : binOp .sub t (B x) (.int .u8 48) = pure (B (x - 48)) := by
  have := x.toNat_lt
  have e : (x - 48).toNat = x.toNat - 48 := by rw [UInt8.toNat_sub_of_le _ _ (by rw [UInt8.le_iff_toNat_le]; exact h)]; rfl
  have hw : IntKind.u8.wrap ((x.toNat : Int) - 48) = ((x.toNat - 48 : Nat) : Int) := by rw [IntKind.wrap_u8]; omega
  simp only [B, e]
  show pure (Value.int .u8 (IntKind.u8.wrap ((x.toNat : Int) - 48))) = _
  rw [hw]
end Go.Proofs.YtendejpkdjkmnaaGreatDoor
/- The landed package of lines does what is asked of it: Parse, Target, Status. (mklz.py writes it.) -/
namespace Go.Proofs.YtendejpkdjkmnaaGreatDoor
open Go.RowKit
attribute [local go_sem] store_one S_match S_store eguard_BN nguard_BN
theorem results_t4 {fn : Func} {t u v x : Tmp} (h : fn.results = #[.tmp t, .tmp u, .tmp v, .tmp x]) (tmps : Array Value) (P : Program) (w : World) :
    (results fn tmps).run P w = .ok (.tuple #[tmps.getD t undef, tmps.getD u undef, tmps.getD v undef, tmps.getD x undef]) w := by
  simp [results, h, go_sem]

set_option maxRecDepth 100000 in
set_option maxHeartbeats 1000000 in
theorem ltarget_any (s : List UInt8) (w : World) (hs : s.length ≤ 100000) : Calls Tryz.prog 46 #[S s] w fun e w' => e = .returned (targetV (targetF s)) ∧ Below w.heap.size w w' := by
  have hlen := run_len_S (P := Tryz.prog) Tryz.underlying9 3 s
  by_cases h5 : 512 < s.length
  · have g1 : decide ((512 : Int) < (s.length : Int)) = true := decide_eq_true (by omega)
    rw [target_long h5]
    clear h5 hs
    go_enter Tryz.func46, Tryz.ntmps46
    go_wp2
    go_ret3
    exact ⟨rfl, Below.refl _ _⟩
  have g1 : decide ((512 : Int) < (s.length : Int)) = false := decide_eq_false (by omega)
  have hpf : ∀ w, Calls Tryz.prog 42 #[S s, .string ⟨#[47]⟩] w fun e w' => e = .returned (.bool (Lib.hasPrefix s [47])) ∧ w' = w := fun w => Any.strings_HasPrefix Tryz.lays99 ⟨s.toArray⟩ ⟨#[47]⟩ w
  have hpe : Lib.hasPrefix s [47] = (s[0]? == some 47) := by
    cases s with
    | nil => rfl
    | cons c r =>
      have e : Lib.hasPrefix (c :: r) [47] = ((47 : UInt8) == c) := by
        show ((47 : UInt8) == c && true) = _
        rw [Bool.and_true]
      rw [e, show ((c :: r)[0]? == some 47) = (c == 47) from rfl, Bool.eq_iff_iff, beq_iff_eq, beq_iff_eq]
      exact eq_comm
  rw [hpe] at hpf
  have HF := Lib.hid hpf
  clear hpf hpe
  by_cases h0 : s[0]? ≠ some 47

  · rw [target_bad h0]
    rw [show (s[0]? == some 47) = false from beq_eq_false_iff_ne.2 h0] at HF
    clear h5 h0 hs
    go_enter Tryz.func46, Tryz.ntmps46
    go_wp2_with fail
    refine (HF.out w).mono ?_
    rintro e w1 ⟨rfl, hw1⟩
    obtain rfl := hw1.symm
    clear hw1
    go_wp2
    go_ret3
    exact ⟨rfl, Below.refl _ _⟩
  replace h0 := Classical.not_not.1 h0
  rw [show (s[0]? == some 47) = true from beq_iff_eq.2 h0] at HF
  have fin : ∀ (a b : List UInt8) (b1 : Bool), a.length ≤ 100000 → b.length ≤ 100000 →
      (∀ w, Calls Tryz.prog 66 #[S s, .string ⟨#[63]⟩] w fun e w' => e = .returned (.tuple #[S a, S b, .bool b1]) ∧ Drawn w w') →
      targetF s = (if (wrF pathB a && wrF queryB b) = true then (a, b, true) else ([], [], false)) →
      Calls Tryz.prog 46 #[S s] w fun e w' => e = .returned (targetV (targetF s)) ∧ Below w.heap.size w w' := by
    intro a b b1 ha hb h1 hE
    rw [hE]
    have H1 := Lib.hid h1
    have H2 := Lib.hid (fun w => written_path a ha w)
    have H3 := Lib.hid (fun w => written_query b hb w)
    clear h1 hE hs h5 h0 ha hb
    cases x : wrF pathB a with
    | false =>
      rw [x] at H2
      rw [Bool.false_and, if_neg Bool.false_ne_true]
      clear x H3
      go_enter Tryz.func46, Tryz.ntmps46
      go_wp2_with fail
      refine (HF.out w).mono ?_
      rintro e w1 ⟨rfl, hw1⟩
      obtain rfl := hw1.symm
      clear hw1
      go_wp2_with fail
      refine (H1.out w).mono ?_
      rintro e W1 ⟨rfl, hd1⟩
      have D1 := Lib.hid hd1
      clear hd1 H1
      go_wp2_with fail
      refine (H2.out W1).mono ?_
      rintro e w1 ⟨rfl, hw1⟩
      obtain rfl := hw1.symm
      clear hw1
      go_wp2
      go_ret3
      exact ⟨rfl, D1.out.below⟩
    | true =>
      rw [x] at H2
      rw [Bool.true_and]
      cases y : wrF queryB b with
      | false =>
        rw [y] at H3
        rw [if_neg Bool.false_ne_true]
        clear x y
        go_enter Tryz.func46, Tryz.ntmps46
        go_wp2_with fail
        refine (HF.out w).mono ?_
        rintro e w1 ⟨rfl, hw1⟩
        obtain rfl := hw1.symm
        clear hw1
        go_wp2_with fail
        refine (H1.out w).mono ?_
        rintro e W1 ⟨rfl, hd1⟩
        have D1 := Lib.hid hd1
        clear hd1 H1
        go_wp2_with fail
        refine (H2.out W1).mono ?_
        rintro e w1 ⟨rfl, hw1⟩
        obtain rfl := hw1.symm
        clear hw1
        go_wp2_with fail
        refine (H3.out W1).mono ?_
        rintro e w1 ⟨rfl, hw1⟩
        obtain rfl := hw1.symm
        clear hw1
        go_wp2
        go_ret3
        exact ⟨rfl, D1.out.below⟩
      | true =>
        rw [y] at H3
        rw [if_pos rfl]
        clear x y
        go_enter Tryz.func46, Tryz.ntmps46
        go_wp2_with fail
        refine (HF.out w).mono ?_
        rintro e w1 ⟨rfl, hw1⟩
        obtain rfl := hw1.symm
        clear hw1
        go_wp2_with fail
        refine (H1.out w).mono ?_
        rintro e W1 ⟨rfl, hd1⟩
        have D1 := Lib.hid hd1
        clear hd1 H1
        go_wp2_with fail
        refine (H2.out W1).mono ?_
        rintro e w1 ⟨rfl, hw1⟩
        obtain rfl := hw1.symm
        clear hw1
        go_wp2_with fail
        refine (H3.out W1).mono ?_
        rintro e w1 ⟨rfl, hw1⟩
        obtain rfl := hw1.symm
        clear hw1
        go_wp2
        go_ret3
        exact ⟨rfl, D1.out.below⟩
  rcases cut_cases 63 s with ⟨a, b, rfl, hab⟩ | hm
  · have hl := hs
    rw [List.length_append, List.length_cons] at hl
    exact fin a b true (by omega) (by omega) (fun w => cut_hit 63 a b hab (by omega) w) (targ_hit h0 (by omega) hab)
  · exact fin s [] false hs (by simp) (fun w => cut_miss 63 s hm w) (targ_miss h0 (by omega) hm)
end Go.Proofs.YtendejpkdjkmnaaGreatDoor
