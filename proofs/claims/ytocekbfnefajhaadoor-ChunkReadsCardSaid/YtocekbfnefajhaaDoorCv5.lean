/- The landed sizeOf walked. -/
import Derived.Test.YtocekbfnefajhaaDoorCv4
import Derived.Test.YtocekbfnefajhaaDoorGen9
namespace Go.Proofs.YtocekbfnefajhaaDoor
open Go.RowKit
attribute [local go_sem] store_one S_match S_store eguard_BN nguard_BN

/-- What sizeOf hands back. -/
def szT (o : Option Nat) : Value := match o with
  | none => .tuple #[.int .i64 0, .bool false]
  | some n => .tuple #[.int .i64 (n : Int), .bool true]
set_option maxRecDepth 100000 in
set_option maxHeartbeats 1000000 in
theorem sizeof_cut (T a b : List UInt8) (fd : Bool) (hcut : ∀ w, Calls Tryd.prog 60 #[S T, S [59]] w fun e w' => e = .returned (.tuple #[S a, S b, .bool fd]) ∧ Drawn w w') (hb : b.length ≤ 90000) (w : World) :
    Calls Tryd.prog 56 #[S T] w fun e w' => e = .returned (szT (sizeL a b)) ∧ Below w.heap.size w w' := by
  have hlen := run_len_S (P := Tryd.prog) Tryd.underlying9 3 a
  have hcut' : ∀ w, Calls Tryd.prog 60 #[S T, .string ⟨#[59]⟩] w fun e w' => e = .returned (.tuple #[S a, S b, .bool fd]) ∧ Drawn w w' := hcut
  have HC := Lib.hid hcut'
  have HV := Lib.hid (isvalue_any b hb)
  clear hcut hcut' hb
  obtain ⟨O, hO⟩ : ∃ O, O = sizeL a b := ⟨_, rfl⟩
  rw [← hO]
  obtain ⟨L, hL⟩ : ∃ L, L = a.length := ⟨_, rfl⟩
  rw [← hL] at hlen
  obtain ⟨v, hv⟩ : ∃ v, v = b.any badB := ⟨_, rfl⟩
  rw [← hv] at HV
  have hOs : O = if L = 0 ∨ 8 < L ∨ v = true then none else digs 0 a := by
    rw [hO, sizeL, hv, hL]
  clear hO hv
  by_cases h0 : L = 0
  · have HO : Hid (O = none) := Lib.hid (by rw [hOs, if_pos (.inl h0)])
    clear hOs hL HV
    subst h0
    go_enter Tryd.func56, Tryd.ntmps56
    go_wp2_with fail
    refine (HC.out _).mono ?_
    rintro e W1 ⟨rfl, hD⟩
    have HD := Lib.hid hD
    clear hD
    go_wp2
    go_ret2
    exact ⟨by rw [HO.out]; rfl, HD.out.below⟩
  by_cases h8 : 8 < L
  · have HO : Hid (O = none) := Lib.hid (by rw [hOs, if_pos (.inr (.inl h8))])
    have hbe : ((L : Int) == 0) = false := by rw [beq_eq_false_iff_ne]; omega
    have hbg : decide ((L : Int) > 8) = true := decide_eq_true (by omega)
    have hbg' : decide ((8 : Int) < (L : Int)) = true := decide_eq_true (by omega)
    clear hOs hL HV h0 h8
    go_enter Tryd.func56, Tryd.ntmps56
    go_wp2_with fail
    refine (HC.out _).mono ?_
    rintro e W1 ⟨rfl, hD⟩
    have HD := Lib.hid hD
    clear hD
    go_wp2
    go_ret2
    exact ⟨by rw [HO.out]; rfl, HD.out.below⟩
  have hbe : ((L : Int) == 0) = false := by rw [beq_eq_false_iff_ne]; omega
  have hbg : decide ((L : Int) > 8) = false := decide_eq_false (by omega)
  have hbg' : decide ((8 : Int) < (L : Int)) = false := decide_eq_false (by omega)
  cases v with
  | true =>
    have HO : Hid (O = none) := Lib.hid (by rw [hOs, if_pos (.inr (.inr rfl))])
    clear hOs hL h0 h8
    go_enter Tryd.func56, Tryd.ntmps56
    go_wp2_with fail
    refine (HC.out _).mono ?_
    rintro e W1 ⟨rfl, hD⟩
    have HD := Lib.hid hD
    clear hD
    go_wp2_with fail
    refine (HV.out _).mono ?_
    rintro e W2 ⟨rfl, hB⟩
    have HB := Lib.hid (HD.out.below.trans (hB.mono HD.out.below.size))
    clear hB HD
    rw [Bool.not_true]
    go_wp2
    go_ret2
    exact ⟨by rw [HO.out]; rfl, HB.out⟩
  | false =>
    have hOd : O = digs 0 a := by rw [hOs, if_neg (fun h => h.elim h0 (fun h => h.elim h8 (fun h => by cases h)))]
    clear hOs
    have HL := Lib.hid (And.intro hL (And.intro hOd (by omega : L ≤ 8)))
    clear hL hOd h0
    go_enter Tryd.func56, Tryd.ntmps56
    go_wp2_with fail
    refine (HC.out _).mono ?_
    rintro e W1 ⟨rfl, hD⟩
    have HD := Lib.hid hD
    clear hD
    go_wp2_with fail
    refine (HV.out _).mono ?_
    rintro e W2 ⟨rfl, hB⟩
    have HB := Lib.hid (HD.out.below.trans (hB.mono HD.out.below.size))
    clear hB HD
    rw [Bool.not_false]
    go_wp2
    go_loopw [7, 32] (fun sv iv wr => ∃ i v : Nat, i ≤ L ∧ iv = .int .i64 (i : Int) ∧ sv = .int .i64 (v : Int) ∧ wr = W2 ∧ digs 0 (a.take i) = some v) (fun _ iv _ => L - (intOf iv).toNat)
    case atStart => exact ⟨0, 0, by omega, rfl, rfl, rfl, rfl⟩
    case round =>
      obtain ⟨i, v, hi, rfl, rfl, rfl, hdg⟩ := hrel
      by_cases hlt : i < L
      · obtain ⟨x, hx⟩ : ∃ x, a[i]? = some x := ⟨a[i]'(by have := HL.out.1; omega), List.getElem?_eq_getElem _⟩
        have hidx : ∀ w, (Instr.index 9 (S a) (.int .i64 (i : Int))).run Tryd.prog w = .ok (B x) w := fun w => index_S (P := Tryd.prog) Tryd.underlying9 a i x hx w
        have hdx := digit_any x
        unfold dgT at hdx
        have hvs : v < 4294967296 := digs_small hdg (by rw [List.length_take]; have := HL.out.2.2; omega)
        cases hh : hexN x with
        | none =>
          have HO : Hid (O = none) := Lib.hid (by rw [HL.out.2.1, digs_stop hx hh])
          rw [hh] at hdx
          dsimp only at hdx
          have HX := Lib.hid hdx
          clear hdx hh hx hdg
          go_wp2_with fail
          refine (HX.out _).mono ?_
          rintro e W3 ⟨rfl, rfl⟩
          go_wp2
          go_ret2
          exact ⟨by rw [HO.out]; rfl, HB.out⟩
        | some d =>
          have HN : Hid (digs 0 (a.take (i + 1)) = some (v * 16 + d)) := Lib.hid (by rw [digs_next hx hh hdg, Nat.mul_comm])
          have hd16 := hexN_lt hh
          rw [hh] at hdx
          dsimp only at hdx
          have hw7 : IntKind.i64.wrap ((v : Int) * 16) = (v : Int) * 16 := by rw [IntKind.wrap_i64]; omega
          have hw8 : IntKind.i64.wrap ((v : Int) * 16 + (d : Int)) = (v : Int) * 16 + (d : Int) := by rw [IntKind.wrap_i64]; omega
          have hw9 : IntKind.i64.wrap ((i : Int) + 1) = (i : Int) + 1 := by rw [IntKind.wrap_i64]; omega
          have HX := Lib.hid hdx
          clear hdx hh hx hdg
          go_wp2_with fail
          refine (HX.out _).mono ?_
          rintro e W3 ⟨rfl, rfl⟩
          go_wp2
          exact ⟨⟨i + 1, v * 16 + d, by omega, by go_num, by go_num, by trivial, HN.out⟩, by simp [intOf]; omega⟩
      · obtain rfl : i = L := by omega
        have HO : Hid (O = some v) := Lib.hid (by rw [HL.out.2.1, ← hdg, HL.out.1, List.take_length])
        clear hdg
        go_wp2
        go_ret2
        exact ⟨by rw [HO.out]; rfl, HB.out⟩
theorem sizeof_any (l : List UInt8) (hl : l.length ≤ 90000) (w : World) : Calls Tryd.prog 56 #[S l] w fun e w' => e = .returned (szT (sizeF l)) ∧ Below w.heap.size w w' := by
  rcases cut_cases 59 l with ⟨a, b, rfl, ha⟩ | ha
  · rw [size_hit b ha]
    exact sizeof_cut (a ++ 59 :: b) a b true (fun w => cut_hit 59 a b ha (by rw [List.length_append, List.length_cons] at hl; omega) w) (by rw [List.length_append, List.length_cons] at hl; omega) w
  · rw [size_miss ha]
    exact sizeof_cut l l [] false (fun w => cut_miss 59 l ha w) (by simp) w
end Go.Proofs.YtocekbfnefajhaaDoor
