/- Texts of this proof that several statements share, one behind the other. -/
import Derived.Test.YtfdbmbgpcioogaaGreatDoorJc
import Derived.Test.YtfdbmbgpcioogaaGreatDoorJa
import Derived.Test.YtfdbmbgpcioogaaGreatDoorJd
/- The document's Status walked. -/
namespace Go.Proofs.YtfdbmbgpcioogaaGreatDoor
open Go.RowKit
attribute [local go_sem] store_one S_match S_store eguard_BN nguard_BN

theorem status_eq {p r : List UInt8} {a b c d : UInt8} (h : p.length = 9) : statusF (p ++ (a :: b :: c :: d :: r)) =
    if p = httpS ∧ d = 32 ∧ digB a = true ∧ digB b = true ∧ digB c = true ∧ 49 ≤ a.toNat ∧ a.toNat ≤ 53 ∧ r.any badB = false then (codeN a b c, r, true) else (0, [], false) := by
  have hd : (p ++ (a :: b :: c :: d :: r)).drop 9 = a :: b :: c :: d :: r := by rw [← h, List.drop_left]
  have ht : (p ++ (a :: b :: c :: d :: r)).take 9 = p := by rw [← h, List.take_left]
  unfold statusF
  rw [hd]
  by_cases h32 : d = 32
  · subst h32
    simp only
    rw [ht]
    by_cases hc : p = httpS ∧ digB a = true ∧ digB b = true ∧ digB c = true ∧ 49 ≤ a.toNat ∧ a.toNat ≤ 53 ∧ r.any badB = false
    · rw [if_pos hc, if_pos ⟨hc.1, True.intro, hc.2⟩]
    · rw [if_neg hc, if_neg (fun h => hc ⟨h.1, h.2.2⟩)]
  · rw [if_neg (fun h => h32 h.2.1)]
    split
    · rename_i x y z w' e
      obtain ⟨_, e⟩ := List.cons.inj e
      obtain ⟨_, e⟩ := List.cons.inj e
      obtain ⟨_, e⟩ := List.cons.inj e
      obtain ⟨e, _⟩ := List.cons.inj e
      exact absurd e h32
    · rfl
def pick3 (a b c : UInt8) (k : Nat) : UInt8 := if k = 0 then a else if k = 1 then b else c
theorem val3 (a b c : UInt8) (ha : digB a = true) (hb : digB b = true) (hc : digB c = true) : valN (pick3 a b c) 3 = codeN a b c := by
  have h1 := dig_of ha
  have h2 := dig_of hb
  have h3 := dig_of hc
  show 10 * (10 * (10 * 0 + a.toNat - 48) + b.toNat - 48) + c.toNat - 48 = _
  unfold codeN
  omega
theorem conv53 (b : UInt8) (w : World) : (convert 5 3 (B b)).run Tryz.prog w = .ok (.int .i64 (b.toNat : Int)) w := by
  have := b.toNat_lt
  have e : IntKind.i64.wrap (b.toNat : Int) = (b.toNat : Int) := by rw [IntKind.wrap_i64]; omega
  simp [convert, B, run_underlying Tryz.underlying5, run_underlying Tryz.underlying3, e, go_sem]
set_option maxRecDepth 100000 in
set_option maxHeartbeats 2000000 in
theorem dstatus_any (s : List UInt8) (hs : s.length ≤ 100000) (w : World) : Calls Tryz.prog 42 #[S s] w fun e w' => e = .returned (statusV (statusF s)) ∧ Drawn w w' := by
  have hlen := run_len_S (P := Tryz.prog) Tryz.underlying9 3 s
  by_cases hsh : s.length < 13
  · rw [status_short hsh]
    have g1 : decide ((s.length : Int) < 13) = true := decide_eq_true (by omega)
    clear hsh hs
    go_enter Tryz.func42, Tryz.ntmps42
    go_wp2
    go_ret3
    exact ⟨rfl, Drawn.refl _⟩
  have g1 : decide ((s.length : Int) < 13) = false := decide_eq_false (by omega)
  obtain ⟨p, a, b, c, d, r, hsp, hp9, hpt⟩ := four_of (s := s) (by omega)
  have hF := status_eq (r := r) (a := a) (b := b) (c := c) (d := d) hp9
  rw [← hsp] at hF
  have hix : ∀ k, k < 3 → ∀ w, (Instr.index 9 (S s) (.int .i64 ((9 + k : Nat) : Int))).run Tryz.prog w = .ok (B (pick3 a b c k)) w := fun k hk w => by
    refine index_S (P := Tryz.prog) Tryz.underlying9 s (9 + k) _ ?_ w
    rw [hsp, List.getElem?_append_right (by omega), hp9, show 9 + k - 9 = k by omega]
    have : k = 0 ∨ k = 1 ∨ k = 2 := by omega
    rcases this with rfl | rfl | rfl <;> rfl
  have hi9 : ∀ w, (Instr.index 9 (S s) (.int .i64 9)).run Tryz.prog w = .ok (B a) w := hix 0 (by omega)
  have hi12 : ∀ w, (Instr.index 9 (S s) (.int .i64 12)).run Tryz.prog w = .ok (B d) w := fun w => by
    refine index_S (P := Tryz.prog) Tryz.underlying9 s 12 d ?_ w
    rw [hsp, List.getElem?_append_right (by omega), hp9]; rfl
  have hs9 : ∀ w, (Instr.slice 9 (S s) none (some (.int .i64 9)) none).run Tryz.prog w = .ok (S p) w := fun w => by
    have := slice_take (P := Tryz.prog) Tryz.underlying9 s 9 (by omega) w
    rw [← hpt] at this; exact this
  have hd13 : s.drop 13 = r := by
    rw [hsp, show 13 = p.length + 4 by omega, ← List.drop_drop, List.drop_left]; rfl
  have hs13 : ∀ w, (Instr.slice 9 (S s) (some (.int .i64 13)) none none).run Tryz.prog w = .ok (S r) w := fun w => by
    have := slice_drop (P := Tryz.prog) Tryz.underlying9 s 13 (by omega) w
    rw [hd13] at this; exact this
  have e1 : binOp .neq 9 (S p) (.string ⟨#[72, 84, 84, 80, 47, 49, 46, 49, 32]⟩) = pure (.bool (p != httpS)) := neql_S 9 p httpS
  have e2 : ∀ x y, eqGuard .neq 9 x y (S p) (.string ⟨#[72, 84, 84, 80, 47, 49, 46, 49, 32]⟩) = pure () := fun x y => nguard_S 9 x y p httpS
  have e3 := B_neqN 5 d 32
  have e4 := B_lssN 5 a 49
  have e5 := B_gtrN 5 a 53
  have HL : Hid (13 ≤ s.length ∧ s.length ≤ 100000) := Lib.hid ⟨by omega, hs⟩
  have HI := Lib.hid (And.intro hix hd13)
  have fin : Hid (∀ q : Nat × List UInt8 × Bool, statusF s = q → Calls Tryz.prog 42 #[S s] w (fun e w' => e = .returned (statusV q) ∧ Drawn w w') → Calls Tryz.prog 42 #[S s] w (fun e w' => e = .returned (statusV (statusF s)) ∧ Drawn w w')) :=
    Lib.hid fun q h1 h2 => by rw [h1]; exact h2
  clear hs hsh hsp hp9 hpt hix hd13
  by_cases h1 : p = httpS
  · rw [show (p != httpS) = false by rw [bne_eq_false_iff_eq]; exact h1] at e1
    by_cases h2 : d = 32
    · rw [show ((d.toNat : Int) != 32) = false by rw [bne_eq_false_iff_eq, h2]; rfl] at e3
      by_cases h3 : 49 ≤ a.toNat
      · rw [decide_eq_false (by omega)] at e4
        by_cases h4 : a.toNat ≤ 53
        · rw [decide_eq_false (by omega)] at e5
          have HF : Hid (statusF s = if digB a = true ∧ digB b = true ∧ digB c = true ∧ r.any badB = false then (codeN a b c, r, true) else (0, [], false)) := Lib.hid (by
            rw [hF]
            by_cases hc : digB a = true ∧ digB b = true ∧ digB c = true ∧ r.any badB = false
            · rw [if_pos hc, if_pos ⟨h1, h2, hc.1, hc.2.1, hc.2.2.1, h3, h4, hc.2.2.2⟩]
            · rw [if_neg hc, if_neg (fun h => hc ⟨h.2.2.1, h.2.2.2.1, h.2.2.2.2.1, h.2.2.2.2.2.2.2⟩)])
          clear hF h1 h2 h3 h4
          go_enter Tryz.func42, Tryz.ntmps42
          go_wp2
          go_loopw [5, 6] (fun nv iv wr => ∃ k : Nat, iv = .int .i64 ((9 + k : Nat) : Int) ∧ nv = .int .i64 (valN (pick3 a b c) k : Int) ∧ wr = w ∧ (∀ j, j < k → digB (pick3 a b c j) = true) ∧
            ((k = 0 ∧ valN (pick3 a b c) k = 0) ∨ (k = 1 ∧ valN (pick3 a b c) k ≤ 9) ∨ (k = 2 ∧ valN (pick3 a b c) k ≤ 99) ∨ (k = 3 ∧ valN (pick3 a b c) k ≤ 999))) (fun _ iv _ => (12 - intOf iv).toNat)
          case atStart => exact ⟨0, rfl, rfl, rfl, fun j h => absurd h (Nat.not_lt_zero _), .inl ⟨rfl, rfl⟩⟩
          case round =>
            obtain ⟨k, rfl, rfl, hw, hdg, hk⟩ := hrel
            subst hw
            by_cases hk3 : k < 3
            · have hidx := HI.out.1 k hk3
              have hval : valN (pick3 a b c) (k + 1) = 10 * valN (pick3 a b c) k + (pick3 a b c k).toNat - 48 := rfl
              have q1 := B_lssN 5 (pick3 a b c k) 48
              have q2 := B_gtrN 5 (pick3 a b c k) 57
              have q3 := conv53 (pick3 a b c k)
              cases hdk : digB (pick3 a b c k) with
              | true =>
                have hdd := dig_of hdk
                have hdn : ∀ j, j < k + 1 → digB (pick3 a b c j) = true := fun j hj => by
                  rcases Nat.lt_or_ge j k with h | h
                  · exact hdg j h
                  · obtain rfl : j = k := by omega
                    exact hdk
                rw [decide_eq_false (by omega)] at q1
                rw [decide_eq_false (by omega)] at q2
                obtain ⟨N, hN⟩ : ∃ N, N = valN (pick3 a b c) k := ⟨_, rfl⟩
                obtain ⟨y, hy⟩ : ∃ y, y = (pick3 a b c k).toNat := ⟨_, rfl⟩
                have hy2 : 48 ≤ y ∧ y ≤ 57 := by omega
                rw [← hN] at hval hk
                rw [← hN]
                rw [← hy] at q3 hval
                have w1 : IntKind.i64.wrap (10 * (N : Int)) = 10 * (N : Int) := by rw [IntKind.wrap_i64]; omega
                have w2 : IntKind.i64.wrap (10 * (N : Int) + (y : Int)) = 10 * (N : Int) + (y : Int) := by rw [IntKind.wrap_i64]; omega
                have w3 : IntKind.i64.wrap (10 * (N : Int) + (y : Int) - 48) = 10 * (N : Int) + (y : Int) - 48 := by rw [IntKind.wrap_i64]; omega
                have g9 : decide (((9 + k : Nat) : Int) < 12) = true := decide_eq_true (by omega)
                have hv2 : ((valN (pick3 a b c) (k + 1) : Nat) : Int) = 10 * (N : Int) + (y : Int) - 48 := by rw [hval]; omega
                have HH := Lib.hid (And.intro hdn (And.intro hv2 (And.intro hval hy2)))
                clear hdn hv2 hval hdd hdk hdg hN hy hy2
                generalize pick3 a b c k = z at *
                obtain ⟨K, hK⟩ : ∃ K, K = 9 + k := ⟨_, rfl⟩
                rw [← hK] at hidx g9
                rw [← hK]
                have HK := Lib.hid (And.intro hK (And.intro hk hk3))
                have hK2 : K < 100 := by omega
                clear hK hk hk3
                go_wp2
                refine ⟨⟨k + 1, ?_, by rw [HH.out.2.1], by trivial, HH.out.1, ?_⟩, ?_⟩
                · have := HK.out.1; congr 1; omega
                · have h1 := HK.out.2; have h2 := HH.out.2.2; omega
                · have := HK.out; simp [intOf]; omega
              | false =>
                have hno : ¬ (digB a = true ∧ digB b = true ∧ digB c = true ∧ r.any badB = false) := fun h => by
                  have : k = 0 ∨ k = 1 ∨ k = 2 := by omega
                  rcases this with rfl | rfl | rfl
                  · rw [show pick3 a b c 0 = a from rfl, h.1] at hdk; cases hdk
                  · rw [show pick3 a b c 1 = b from rfl, h.2.1] at hdk; cases hdk
                  · rw [show pick3 a b c 2 = c from rfl, h.2.2.1] at hdk; cases hdk
                have HN : Hid (statusF s = (0, [], false)) := Lib.hid (by rw [HF.out, if_neg hno])
                have hcs : (pick3 a b c k).toNat < 48 ∨ (48 ≤ (pick3 a b c k).toNat ∧ 57 < (pick3 a b c k).toNat) := by
                  unfold digB at hdk
                  rw [Bool.and_eq_false_iff, decide_eq_false_iff_not, decide_eq_false_iff_not] at hdk
                  omega
                have g9 : decide (((9 + k : Nat) : Int) < 12) = true := decide_eq_true (by omega)
                rcases hcs with hcs | hcs
                · rw [decide_eq_true (by omega)] at q1
                  clear hno hdk hdg hk hval hcs q2 q3
                  generalize pick3 a b c k = z at *
                  generalize 9 + k = K at *
                  go_wp2
                  go_ret3
                  exact ⟨by rw [HN.out]; rfl, Drawn.refl _⟩
                · rw [decide_eq_false (by omega)] at q1
                  rw [decide_eq_true (by omega)] at q2
                  clear hno hdk hdg hk hval hcs q3
                  generalize pick3 a b c k = z at *
                  generalize 9 + k = K at *
                  go_wp2
                  go_ret3
                  exact ⟨by rw [HN.out]; rfl, Drawn.refl _⟩
            · obtain rfl : k = 3 := by omega
              have hda := hdg 0 (by omega)
              have hdb := hdg 1 (by omega)
              have hdc := hdg 2 (by omega)
              have hv := val3 a b c hda hdb hdc
              have HG : Hid (statusF s = if r.any badB = false then (codeN a b c, r, true) else (0, [], false)) := Lib.hid (by
                rw [HF.out]
                by_cases hc : r.any badB = false
                · rw [if_pos ⟨hda, hdb, hdc, hc⟩, if_pos hc]
                · rw [if_neg (fun h => hc h.2.2.2), if_neg hc])
              rw [hv]
              rw [show ((9 + 3 : Nat) : Int) = 12 from rfl]
              clear hda hdb hdc hv hdg hk hk3 HF
              obtain ⟨N, hN⟩ : ∃ N, N = codeN a b c := ⟨_, rfl⟩
              rw [← hN] at HG
              rw [← hN]
              clear hN
              go_wp2
              go_loopw [7] (fun jv wx => ∃ j : Nat, 13 ≤ j ∧ j ≤ s.length ∧ jv = .int .i64 (j : Int) ∧ wx = wr ∧ ((s.drop 13).take (j - 13)).any badB = false) (fun jv _ => s.length - (intOf jv).toNat)
              case atStart => exact ⟨13, Nat.le_refl _, HL.out.1, rfl, rfl, by simp⟩
              case round =>
                obtain ⟨j, hj1, hj2, rfl, hwx, hbd⟩ := hrel
                subst hwx
                have hjb : j < 100001 := by have := HL.out; omega
                by_cases hjl : j < s.length
                · obtain ⟨d', hd⟩ : ∃ d, s[j]? = some d := ⟨s[j], List.getElem?_eq_getElem hjl⟩
                  obtain ⟨y, hy⟩ : ∃ y : Nat, y = d'.toNat := ⟨_, rfl⟩
                  have hidy : ∀ w, (Instr.index 9 (S s) (.int .i64 (j : Int))).run Tryz.prog w = .ok (.int .u8 (y : Int)) w := fun w => by
                    rw [hy]; exact index_S (P := Tryz.prog) Tryz.underlying9 s j d' hd w
                  have hnx := any_drop_next hd hj1 hbd
                  have hbf := bad_facts d'
                  rw [← hy] at hbf
                  clear hbd hd hy
                  rcases hbf with ⟨h1, h2, h3⟩ | ⟨h1, h2, h3, h4, h5⟩ | ⟨h1, h2, h3, h4, h5, h6, h7⟩ | ⟨h1, h2, h3, h4, h5, h6, h7⟩
                  · rw [h1] at hnx
                    have HN := Lib.hid hnx
                    clear hnx h1
                    go_wp2
                    exact ⟨⟨j + 1, by omega, by omega, by go_num, by trivial, HN.out⟩, by simp [intOf]; omega⟩
                  · rw [h1] at hnx
                    have HP : Hid (statusF s = (0, [], false)) := Lib.hid (by rw [HG.out, if_neg (by rw [← HI.out.2, any_of_take hnx]; exact Bool.noConfusion)])
                    clear hnx h1
                    go_wp2
                    go_ret3
                    exact ⟨by rw [HP.out]; rfl, Drawn.refl _⟩
                  · rw [h1] at hnx
                    have HP : Hid (statusF s = (0, [], false)) := Lib.hid (by rw [HG.out, if_neg (by rw [← HI.out.2, any_of_take hnx]; exact Bool.noConfusion)])
                    clear hnx h1
                    go_wp2
                    go_ret3
                    exact ⟨by rw [HP.out]; rfl, Drawn.refl _⟩
                  · rw [h1] at hnx
                    have HN := Lib.hid hnx
                    clear hnx h1
                    go_wp2
                    exact ⟨⟨j + 1, by omega, by omega, by go_num, by trivial, HN.out⟩, by simp [intOf]; omega⟩
                · obtain rfl : j = s.length := by omega
                  have HP : Hid (statusF s = (N, r, true)) := Lib.hid (by
                    rw [List.take_of_length_le (by rw [List.length_drop]; omega), HI.out.2] at hbd
                    rw [HG.out, if_pos hbd])
                  clear hbd
                  clear HI HL fin e1 e2 e3 e4 e5 hi9 hi12 hs9 g1 hj1 hj2 hjb hjl HG
                  go_wp2
                  have hmx : Tryz.prog.follows .mixedOrders = true := by kernel_rfl
                  go_region
                  go_wp2
                  go_ret3
                  exact ⟨by rw [HP.out]; rfl, 1, rfl⟩
        · rw [decide_eq_true (by omega)] at e5
          refine fin.out (0, [], false) (by rw [hF, if_neg (fun h => h4 h.2.2.2.2.2.2.1)]) ?_
          clear hF h1 h2 h3 h4 fin
          go_enter Tryz.func42, Tryz.ntmps42
          go_wp2
          go_ret3
          exact ⟨rfl, Drawn.refl _⟩
      · rw [decide_eq_true (by omega)] at e4
        refine fin.out (0, [], false) (by rw [hF, if_neg (fun h => h3 h.2.2.2.2.2.1)]) ?_
        clear hF h1 h2 h3 fin
        go_enter Tryz.func42, Tryz.ntmps42
        go_wp2
        go_ret3
        exact ⟨rfl, Drawn.refl _⟩
    · rw [show ((d.toNat : Int) != 32) = true by rw [bne_iff_ne]; intro h; exact h2 (UInt8.toNat_inj.1 (by rw [show (32 : UInt8).toNat = 32 from rfl]; omega))] at e3
      refine fin.out (0, [], false) (by rw [hF, if_neg (fun h => h2 h.2.1)]) ?_
      clear hF h1 h2 fin
      go_enter Tryz.func42, Tryz.ntmps42
      go_wp2
      go_ret3
      exact ⟨rfl, Drawn.refl _⟩
  · rw [show (p != httpS) = true by rw [bne_iff_ne]; exact h1] at e1
    refine fin.out (0, [], false) (by rw [hF, if_neg (fun h => h1 h.1)]) ?_
    clear hF h1 fin
    go_enter Tryz.func42, Tryz.ntmps42
    go_wp2
    go_ret3
    exact ⟨rfl, Drawn.refl _⟩
end Go.Proofs.YtfdbmbgpcioogaaGreatDoor
/- Lines out of a head, byte by byte. -/
namespace Go.Proofs.YtfdbmbgpcioogaaGreatDoor
open Go.RowKit

theorem endF_shortP : ∀ (s : List UInt8), s.length < 4 → endF s = none
  | [], _ => rfl
  | c :: r, h => by
    rw [endF, if_neg, endF_shortP r (by simp only [List.length_cons] at h; omega)]
    · rfl
    · intro e
      have := congrArg List.length e
      simp only [List.length_take, List.length_cons, List.length_nil] at this h
      omega
theorem endF_hereP {c : UInt8} {r : List UInt8} (h : (c :: r).take 4 = [13, 10, 13, 10]) : endF (c :: r) = some 4 := by rw [endF, if_pos h]
theorem endF_onP {c : UInt8} {r : List UInt8} (h : (c :: r).take 4 ≠ [13, 10, 13, 10]) : endF (c :: r) = (endF r).map (· + 1) := by rw [endF, if_neg h]
theorem lnP_end (cur : List UInt8) : lnsF cur [] = [cur] := by rw [lnsF]
theorem lnP_last (cur : List UInt8) (c : UInt8) : lnsF cur [c] = [cur ++ [c]] := by rw [lnsF]
theorem lnP_cut (cur r : List UInt8) : lnsF cur (13 :: 10 :: r) = cur :: lnsF [] r := by rw [lnsF, if_pos ⟨rfl, rfl⟩]
theorem lnP_on {cur r : List UInt8} {c d : UInt8} (h : ¬ (c = 13 ∧ d = 10)) : lnsF cur (c :: d :: r) = lnsF (cur ++ [c]) (d :: r) := by rw [lnsF, if_neg h]
theorem midP {s : List UInt8} {a i : Nat} {c : UInt8} (hc : s[i]? = some c) (ha : a ≤ i) : (s.drop a).take (i + 1 - a) = (s.drop a).take (i - a) ++ [c] := by
  have hc2 : (s.drop a)[i - a]? = some c := by rw [List.getElem?_drop, show a + (i - a) = i by omega]; exact hc
  obtain ⟨hi, rfl⟩ := List.getElem?_eq_some_iff.1 hc2
  rw [show i + 1 - a = (i - a) + 1 by omega, List.take_succ_eq_append_getElem hi]
/-- What holds between two bytes. -/
def LnsP (s : List UInt8) (done : List (List UInt8)) (a i : Nat) : Prop :=
  (a ≤ i ∧ i ≤ s.length ∧ (i < s.length ∨ s.length = 0) ∧ lnsF [] s = done ++ lnsF ((s.drop a).take (i - a)) (s.drop i)) ∨ (a = i + 1 ∧ i < s.length ∧ s[i]? = some 10 ∧ lnsF [] s = done ++ lnsF [] (s.drop a))
theorem lnsP_start (s : List UInt8) : LnsP s [] 0 0 := .inl ⟨Nat.le_refl _, Nat.zero_le _, by omega, by simp⟩
theorem lnsP_fin {s : List UInt8} {done : List (List UInt8)} {a i : Nat} (h : LnsP s done a i) (hi : s.length ≤ i + 1) : lnsF [] s = done ++ [s.drop a] ∧ a ≤ s.length := by
  rcases h with ⟨h1, h2, h3, h4⟩ | ⟨h1, h2, h3, h4⟩
  · refine ⟨?_, by omega⟩
    rw [h4]
    rcases h3 with h3 | h3
    · have hl : i + 1 = s.length := by omega
      obtain ⟨c, hc⟩ : ∃ c, s[i]? = some c := ⟨s[i], List.getElem?_eq_getElem h3⟩
      have e1 : s.drop i = [c] := by
        rw [List.drop_eq_getElem_cons h3, (List.getElem?_eq_some_iff.1 hc).2, List.drop_of_length_le (by omega)]
      rw [e1, lnP_last, ← midP hc h1]
      rw [List.take_of_length_le (by rw [List.length_drop]; omega)]
    · have e0 : s = [] := List.length_eq_zero_iff.1 h3
      subst e0
      simp [lnP_end]
  · have : s.drop a = [] := List.drop_of_length_le (by omega)
    rw [this, lnP_end] at h4
    rw [this]
    exact ⟨h4, by omega⟩
theorem lnsP_cut {s : List UInt8} {done : List (List UInt8)} {a i : Nat} (h : LnsP s done a i) (hc : s[i]? = some 13) (hd : s[i + 1]? = some 10) : a ≤ i ∧ LnsP s (done ++ [(s.drop a).take (i - a)]) (i + 2) (i + 1) := by
  have hil := (List.getElem?_eq_some_iff.1 hd).1
  have hdr : s.drop i = 13 :: s.drop (i + 1) := by rw [List.drop_eq_getElem_cons (by omega), (List.getElem?_eq_some_iff.1 hc).2]
  have hdr2 : s.drop (i + 1) = 10 :: s.drop (i + 2) := by rw [List.drop_eq_getElem_cons hil, (List.getElem?_eq_some_iff.1 hd).2]
  rcases h with ⟨h1, h2, h3, h4⟩ | ⟨h1, h2, h3, h4⟩
  · exact ⟨h1, .inr ⟨rfl, hil, hd, by rw [h4, hdr, hdr2, lnP_cut, List.append_assoc]; rfl⟩⟩
  · rw [h3] at hc; cases hc
theorem lnsP_on {s : List UInt8} {done : List (List UInt8)} {a i : Nat} {c d : UInt8} (h : LnsP s done a i) (hc : s[i]? = some c) (hd : s[i + 1]? = some d) (hn : ¬ (c = 13 ∧ d = 10)) : LnsP s done a (i + 1) := by
  have hil := (List.getElem?_eq_some_iff.1 hd).1
  have hdr : s.drop i = c :: s.drop (i + 1) := by rw [List.drop_eq_getElem_cons (by omega), (List.getElem?_eq_some_iff.1 hc).2]
  have hdr2 : s.drop (i + 1) = d :: s.drop (i + 2) := by rw [List.drop_eq_getElem_cons hil, (List.getElem?_eq_some_iff.1 hd).2]
  rcases h with ⟨h1, h2, h3, h4⟩ | ⟨h1, h2, h3, h4⟩
  · exact .inl ⟨by omega, by omega, .inl hil, by rw [h4, hdr, hdr2, lnP_on hn, midP hc h1]⟩
  · exact .inl ⟨by omega, by omega, .inl hil, by rw [h4, h1, Nat.sub_self, List.take_zero]⟩
theorem lns_leP : ∀ (n : Nat) (s cur l : List UInt8), s.length ≤ n → l ∈ lnsF cur s → l.length ≤ cur.length + s.length
  | _, [], cur, l, _, h => by rw [lnP_end, List.mem_singleton] at h; rw [h]; simp
  | _, [c], cur, l, _, h => by rw [lnP_last, List.mem_singleton] at h; rw [h]; simp
  | 0, c :: d :: r, cur, l, h, _ => by simp at h
  | n + 1, c :: d :: r, cur, l, h, hm => by
    simp only [List.length_cons] at h
    by_cases hc : c = 13 ∧ d = 10
    · obtain ⟨rfl, rfl⟩ := hc
      rw [lnP_cut] at hm
      rcases List.mem_cons.1 hm with rfl | hm
      · omega
      · have := lns_leP n r [] l (by omega) hm
        simp only [List.length_cons, List.length_nil] at this ⊢
        omega
    · rw [lnP_on hc] at hm
      have := lns_leP n (d :: r) (cur ++ [c]) l (by simp; omega) hm
      simp only [List.length_cons, List.length_append, List.length_nil] at this ⊢
      omega
end Go.Proofs.YtfdbmbgpcioogaaGreatDoor
/- The document's Read (stage 10) walked. (mkpg.py writes it.) -/
namespace Go.Proofs.YtfdbmbgpcioogaaGreatDoor
open Go.RowKit
attribute [local go_sem] store_one S_match S_store eguard_BN nguard_BN

def put3p (W : World) (b : Nat) (v0 v1 v2 : Value) : World := ((W.setCell ⟨b, 0, none⟩ v0).setCell ⟨b, 1, none⟩ v1).setCell ⟨b, 2, none⟩ v2
theorem put3p_row {W : World} {b : Nat} {t : TypeId} {x y z : Value} (h : Row W b #[x, y, z] t) (v0 v1 v2 : Value) : Row (put3p W b v0 v1 v2) b #[v0, v1, v2] t := ((h.set 0 v0).set 1 v1).set 2 v2
theorem put3p_below {n : Nat} {w W : World} {b : Nat} (h : Below n w W) (hb : n ≤ b) (v0 v1 v2 : Value) : Below n w (put3p W b v0 v1 v2) :=
  ((h.setCell (p := ⟨b, 0, none⟩) hb v0).setCell (p := ⟨b, 1, none⟩) hb v1).setCell (p := ⟨b, 2, none⟩) hb v2
theorem put3p_own {W : World} {base b : Nat} {e : TypeId} {k n : Nat} {v : Value} {xs : List Value} (h : W.ownsRow base e k v n xs) (hb : b < base) (v0 v1 v2 : Value) : (put3p W b v0 v1 v2).ownsRow base e k v n xs :=
  row_own_set (row_own_set (row_own_set h hb) hb) hb
theorem infoP : (Tryz.prog.info? 24).map (·.size) = some 3 := by kernel_rfl
/-- Four results, the first one a reply in a box. -/
theorem results_rp {fn : Func} {p u v x : Tmp} (h : fn.results = #[.cell p 24, .tmp u, .tmp v, .tmp x]) (tmps : Array Value) (w : World) (g : Nat) (cs : Array Value)
    (hp : tmps.getD p undef = .pointer (some ⟨g, 0, none⟩)) (hg : Row w g cs 24) (h3 : cs.size = 3) :
    (results fn tmps).run Tryz.prog w = .ok (.tuple #[.agg cs, tmps.getD u undef, tmps.getD v undef, tmps.getD x undef]) w := by
  have hp' : tmps[p]?.getD undef = .pointer (some ⟨g, 0, none⟩) := by simpa using hp
  simp [results, h, hp', asAddr, run_loadVar_row w g 24 24 cs (0, 0) _ hg Tryz.underlying24 rfl (by rw [infoP, h3])]
/-- The reply that is read, and its fields. -/
structure RdS (W4 : World) (b17 : Nat) (code : Nat) (fs : List Fld) (W : World) : Prop where
  ex : ∃ V, Row W b17 #[.int .i64 (code : Int), V, S []] 24 ∧ W.ownsRow (b17 + 1) 35 2 V fs.length (fcells fs)
  bel : Below W4.heap.size W4 W
  size : b17 + 1 ≤ W.heap.size
section
variable {W4 W W' : World} {b17 code : Nat} {fs : List Fld}
theorem RdS.below (h : RdS W4 b17 code fs W) (hb : Below W.heap.size W W') : RdS W4 b17 code fs W' := by
  obtain ⟨⟨V, h1, h2⟩, h3, h4⟩ := h
  exact ⟨⟨V, h1.below hb h1.lt, own_below h2 hb⟩, h3.trans (hb.mono h3.size), Nat.le_trans h4 hb.size⟩
theorem rds_grow {V V' : Value} {n u : List UInt8} (h1 : Row W b17 #[.int .i64 (code : Int), V, S []] 24) (h2 : W.ownsRow (b17 + 1) 35 2 V fs.length (fcells fs)) (h3 : Below W4.heap.size W4 W) (h4 : b17 + 1 ≤ W.heap.size) (hw : W4.heap.size ≤ b17)
    (o2 : W'.ownsRow (b17 + 1) 35 2 V' (fs.length + 1) (fcells fs ++ [S n, S u])) (g2 : W.grownBy W' V.ownBlock) : RdS W4 b17 code (fs ++ [(n, u)]) (W'.setCell ⟨b17, 1, none⟩ V') := by
  have hne : some b17 ≠ V.ownBlock := fun e => by have := (h2.lt b17 e.symm).1; omega
  have hr := row_grown h1 g2 hne
  refine ⟨⟨V', hr.set 1 V', ?_⟩, ?_, by simp [World.setCell]; exact Nat.le_trans h4 g2.size⟩
  · rw [fcells_snoc, List.length_append, List.length_singleton]
    exact row_own_set o2 (by omega)
  · refine Below.setCell ?_ (p := ⟨b17, 1, none⟩) hw _
    exact below_grown h3 g2 (fun k e => by have := (h2.lt k e).1; omega) h3.size
end
theorem goP_cons (code : Nat) (p : Ps) (l : List UInt8) (r : List (List UInt8)) : goP code p (l :: r) = match stepP code p l with
  | none => none
  | some q => goP code q r := by rw [goP]; cases stepP code p l <;> rfl
theorem szF_le {s : List UInt8} {k : Nat} (h : szF s = some k) : k ≤ 999999 := by
  unfold szF at h
  split at h
  · cases h
  · have hg : ∀ (s : List UInt8) (n j : Nat), n < 10 ^ j → ∀ k, szGo n s = some k → k < 10 ^ (j + s.length) := by
      intro s
      induction s with
      | nil => intro n j hn k h; cases h; exact hn
      | cons c r ih =>
        intro n j hn k h
        rw [szGo] at h
        split at h
        · have := ih _ (j + 1) (by rw [Nat.pow_succ]; omega) k h
          rw [List.length_cons, show j + (r.length + 1) = j + 1 + r.length by omega]; exact this
        · cases h
    have := hg s 0 0 (by omega) k h
    have h6 : 10 ^ (0 + s.length) ≤ 10 ^ 6 := Nat.pow_le_pow_right (by omega) (by omega)
    omega
set_option maxRecDepth 100000 in
set_option maxHeartbeats 8000000 in
theorem dread_any (s : List UInt8) (head : Bool) (hs : s.length ≤ 100000) (w : World) : Calls Tryz.prog 28 #[S s, .bool head] w fun e w' => ReadV (readF s head) e w w' := by
  have hlenS := run_len_S (P := Tryz.prog) Tryz.underlying9 3 s
  obtain ⟨L, hL⟩ : ∃ L, L = s.length := ⟨_, rfl⟩
  rw [← hL] at hlenS hs
  have HL := Lib.hid hL
  obtain ⟨RF, hRF⟩ : ∃ R, R = readF s head := ⟨_, rfl⟩
  rw [← hRF]
  have HNo : Hid (endF s = none → RF = if L < 65536 then .short else .form) := Lib.hid fun h => by rw [hRF, hL]; unfold readF; rw [h]
  have HSo : Hid (∀ e, endF s = some e → RF = match headP (lnsF [] (s.take (e - 4))) with
    | none => .form
    | some (c, p) => restP s e head c p) := Lib.hid fun e h => by rw [hRF]; unfold readF; rw [h]; rfl
  obtain ⟨b4, hb4⟩ : ∃ b, b = w.heap.size := ⟨_, rfl⟩
  obtain ⟨b8, hb8⟩ : ∃ b, b = w.heap.size + 1 := ⟨_, rfl⟩
  obtain ⟨W2, hW2⟩ : ∃ W, W = (w.alloc (.cells zeroRp 24)).alloc (.cells zeroRp 24) := ⟨_, rfl⟩
  have hW2' : W2 = (w.alloc (.cells #[.int .i64 0, .slice none 0 0, .string ⟨#[]⟩] 24)).alloc (.cells #[.int .i64 0, .slice none 0 0, .string ⟨#[]⟩] 24) := hW2
  have hr4 : Row W2 b4 zeroRp 24 := by rw [hW2, hb4]; exact (row_new w _ _).alloc _
  have hr8 : Row W2 b8 zeroRp 24 := by
    have := row_new (w.alloc (.cells zeroRp 24)) zeroRp 24
    rw [alloc_size] at this
    rw [hW2, hb8]; exact this
  have hB2 : Below w.heap.size w W2 := by rw [hW2]; exact ((Below.refl _ w).alloc (Nat.le_refl _) _).alloc (by simp) _
  have H2 := Lib.hid (And.intro hr4 (And.intro hr8 (And.intro hB2 hb4)))
  have hnone : Hid (∀ (W : World) (k : Int) (tmps : Array Value), (RF = .short ∧ k = 7) ∨ (RF = .form ∧ k = 8) → Below W2.heap.size W2 W → tmps.getD 4 undef = .pointer (some ⟨b4, 0, none⟩) → tmps.getD 5 undef = .bool false → tmps.getD 6 undef = .int .i64 0 → tmps.getD 7 undef = .int .i64 k →
      bodyPost Tryz.prog Tryz.f28 (fun e w' => ReadV RF e w w') .ret { tmps := tmps, defers := [] } (put3p W b4 (.int .i64 0) (.slice none 0 0) (.string ⟨#[]⟩))) := Lib.hid fun W k tmps hk hB h4 h5 h6 h7 => by
    have hr := H2.out.1.below hB H2.out.1.lt
    refine bodyPost_ret (results_rp rfl _ _ b4 _ h4 (put3p_row hr _ _ _) rfl) rfl ?_
    refine ⟨put3p_below (H2.out.2.2.1.trans (hB.mono H2.out.2.2.1.size)) (Nat.le_of_eq H2.out.2.2.2.symm) _ _ _, ?_⟩
    rw [h5, h6, h7]
    rcases hk with ⟨hk, rfl⟩ | ⟨hk, rfl⟩
    · rw [hk]; rfl
    · rw [hk]; rfl
  clear hL hRF hr4 hr8 hB2 hW2
  obtain ⟨EO, hEO⟩ : ∃ E, E = endF s := ⟨_, rfl⟩
  rw [← hEO] at HNo HSo
  go_enter Tryz.func28, Tryz.ntmps28
  go_wp2_with fail
  all_goals try rw [← hW2', ← hb8, ← hb4]
  clear hW2' hb4 hb8
  go_loopw [9, 10] (fun ev iv wr => ∃ i : Nat, i ≤ L ∧ ev = .int .i64 (-1) ∧ iv = .int .i64 (i : Int) ∧ wr = W2 ∧ Hid (EO = (endF (s.drop i)).map (· + i))) (fun _ iv _ => L - (intOf iv).toNat)
  case atStart => exact ⟨0, Nat.zero_le _, rfl, rfl, by trivial, Lib.hid (by rw [List.drop_zero, hEO]; cases endF s <;> rfl)⟩
  case round =>
    obtain ⟨i, hi, rfl, rfl, hwr, HN⟩ := hrel
    subst hwr
    clear hEO
    have hw4 : IntKind.i64.wrap ((i : Int) + 4) = (i : Int) + 4 := by rw [IntKind.wrap_i64]; omega
    have hw1 : IntKind.i64.wrap ((i : Int) + 1) = (i : Int) + 1 := by rw [IntKind.wrap_i64]; omega
    by_cases hlt : i + 4 ≤ L
    case neg =>
      have g1 : decide ((i : Int) + 4 ≤ (L : Int)) = false := decide_eq_false (by omega)
      have HE0 : Hid (EO = none) := Lib.hid (by rw [HN.out, endF_shortP _ (by rw [List.length_drop]; have := HL.out; omega)]; rfl)
      by_cases h6 : L < 65536
      · have g6 : decide ((L : Int) < 65536) = true := decide_eq_true (by omega)
        have H6 := Lib.hid h6
        clear h6
        have hr4 : Row wr b4 zeroRp 24 := H2.out.1.below (Below.refl _ _) H2.out.1.lt
        have hr8 : Row wr b8 zeroRp 24 := H2.out.2.1.below (Below.refl _ _) H2.out.2.1.lt
        have x0 : wr.cell? ⟨b8, 0, none⟩ = some (.int .i64 0) := cell_of_row _ _ 0 _ _ (0, 0) hr8
        have y0 : wr.cell? ⟨b4, 0, none⟩ = some (.int .i64 0) := cell_of_row _ _ 0 _ _ (0, 0) hr4
        have z0 : wr.frozen? ⟨b4, 0, none⟩ = false := Row.frozen hr4 0
        have x1 : wr.cell? ⟨b8, 1, none⟩ = some (.slice none 0 0) := cell_of_row _ _ 1 _ _ (0, 0) hr8
        have y1 : wr.cell? ⟨b4, 1, none⟩ = some (.slice none 0 0) := cell_of_row _ _ 1 _ _ (0, 0) hr4
        have z1 : wr.frozen? ⟨b4, 1, none⟩ = false := Row.frozen hr4 1
        have x2 : wr.cell? ⟨b8, 2, none⟩ = some (.string ⟨#[]⟩) := cell_of_row _ _ 2 _ _ (0, 0) hr8
        have y2 : wr.cell? ⟨b4, 2, none⟩ = some (.string ⟨#[]⟩) := cell_of_row _ _ 2 _ _ (0, 0) hr4
        have z2 : wr.frozen? ⟨b4, 2, none⟩ = false := Row.frozen hr4 2
        have HRF : Hid (RF = .short) := Lib.hid (by rw [HNo.out HE0.out, if_pos H6.out])
        have HBW := Lib.hid (show Below wr.heap.size wr wr from (Below.refl _ _))
        clear hr4 hr8
        go_wp2
        exact hnone.out wr 7 _ (.inl ⟨HRF.out, rfl⟩) HBW.out rfl rfl rfl rfl
      · have g6 : decide ((L : Int) < 65536) = false := decide_eq_false (by omega)
        have H6 := Lib.hid h6
        clear h6
        have hr4 : Row wr b4 zeroRp 24 := H2.out.1.below (Below.refl _ _) H2.out.1.lt
        have hr8 : Row wr b8 zeroRp 24 := H2.out.2.1.below (Below.refl _ _) H2.out.2.1.lt
        have x0 : wr.cell? ⟨b8, 0, none⟩ = some (.int .i64 0) := cell_of_row _ _ 0 _ _ (0, 0) hr8
        have y0 : wr.cell? ⟨b4, 0, none⟩ = some (.int .i64 0) := cell_of_row _ _ 0 _ _ (0, 0) hr4
        have z0 : wr.frozen? ⟨b4, 0, none⟩ = false := Row.frozen hr4 0
        have x1 : wr.cell? ⟨b8, 1, none⟩ = some (.slice none 0 0) := cell_of_row _ _ 1 _ _ (0, 0) hr8
        have y1 : wr.cell? ⟨b4, 1, none⟩ = some (.slice none 0 0) := cell_of_row _ _ 1 _ _ (0, 0) hr4
        have z1 : wr.frozen? ⟨b4, 1, none⟩ = false := Row.frozen hr4 1
        have x2 : wr.cell? ⟨b8, 2, none⟩ = some (.string ⟨#[]⟩) := cell_of_row _ _ 2 _ _ (0, 0) hr8
        have y2 : wr.cell? ⟨b4, 2, none⟩ = some (.string ⟨#[]⟩) := cell_of_row _ _ 2 _ _ (0, 0) hr4
        have z2 : wr.frozen? ⟨b4, 2, none⟩ = false := Row.frozen hr4 2
        have HRF : Hid (RF = .form) := Lib.hid (by rw [HNo.out HE0.out, if_neg H6.out])
        have HBW := Lib.hid (show Below wr.heap.size wr wr from (Below.refl _ _))
        clear hr4 hr8
        go_wp2
        exact hnone.out wr 8 _ (.inr ⟨HRF.out, rfl⟩) HBW.out rfl rfl rfl rfl
    have g1 : decide ((i : Int) + 4 ≤ (L : Int)) = true := decide_eq_true (by omega)
    obtain ⟨c, hc⟩ : ∃ c, s[i]? = some c := ⟨s[i]'(by have := HL.out; omega), List.getElem?_eq_getElem _⟩
    have hdr : s.drop i = c :: s.drop (i + 1) := by
      rw [List.drop_eq_getElem_cons (by rw [← HL.out]; omega), (List.getElem?_eq_some_iff.1 hc).2]
    have hsl : ∀ w, (Instr.slice 9 (S s) (some (.int .i64 (i : Int))) (some (.int .i64 ((i : Int) + 4))) none).run Tryz.prog w = .ok (S ((s.drop i).take 4)) w := fun w => by
      have := slice_mid (P := Tryz.prog) Tryz.underlying9 s i (i + 4) (by omega) (by have := HL.out; omega) w
      rwa [show i + 4 - i = 4 by omega, show ((i + 4 : Nat) : Int) = (i : Int) + 4 by omega] at this
    obtain ⟨X, hX⟩ : ∃ X, X = (s.drop i).take 4 := ⟨_, rfl⟩
    rw [← hX] at hsl
    have e0 : binOp .eql 9 (S X) (.string ⟨#[13, 10, 13, 10]⟩) = pure (.bool (X == [13, 10, 13, 10])) := eql_S 9 X [13, 10, 13, 10]
    have g0 : ∀ x y, eqGuard .eql 9 x y (S X) (.string ⟨#[13, 10, 13, 10]⟩) = pure () := fun x y => guard_S 9 x y X [13, 10, 13, 10]
    by_cases hx : X = [13, 10, 13, 10]
    case neg =>
      rw [show (X == [13, 10, 13, 10]) = false from beq_eq_false_iff_ne.2 hx] at e0
      have HX : Hid (EO = (endF (s.drop (i + 1))).map (· + (i + 1))) := Lib.hid (by
        rw [HN.out, hdr, endF_onP (by rw [← hdr, ← hX]; exact hx)]
        cases endF (s.drop (i + 1)) with
        | none => rfl
        | some k => show some (k + 1 + i) = some (k + (i + 1)); congr 1; omega)
      clear hc hdr hX hx HN
      go_wp2
      exact ⟨⟨i + 1, by omega, rfl, by go_num, by trivial, HX⟩, by simp [intOf]; omega⟩
    rw [show (X == [13, 10, 13, 10]) = true from beq_iff_eq.2 hx] at e0
    have HEO : Hid (EO = some (i + 4)) := Lib.hid (by
      rw [HN.out, hdr, endF_hereP (by rw [← hdr, ← hX]; exact hx)]
      show some (4 + i) = some (i + 4); congr 1; omega)
    obtain ⟨X1, hX1⟩ : ∃ X1, X1 = s.take i := ⟨_, rfl⟩
    have HRF0 : Hid (RF = match headP (lnsF [] X1) with
      | none => .form
      | some (c, p) => restP s (i + 4) head c p) := Lib.hid (by rw [HSo.out _ HEO.out, Nat.add_sub_cancel, ← hX1])
    have HX1 : Hid (X1.length = i ∧ X1 = s.take i) := Lib.hid ⟨by rw [hX1, List.length_take]; have := HL.out; omega, hX1⟩
    have hgi : decide ((i : Int) < 0) = false := decide_eq_false (by omega)
    have hiL : i + 4 ≤ L := hlt
    clear hc hdr hX hx HN HEO hX1 HNo HSo
    obtain ⟨W2, hW2⟩ : ∃ W, W = wr := ⟨_, rfl⟩
    subst hW2
    have HE := Lib.hid (show i + 4 ≤ L from hiL)
    clear hiL
    go_wp2_with fail
    clear hsl e0 g0
    go_loopw [11, 12, 13] (fun vv av iv wr => ∃ (a j : Nat) (done : List (List UInt8)), j ≤ i ∧ av = .int .i64 (a : Int) ∧ iv = .int .i64 (j : Int) ∧ done.length ≤ j ∧ Own W2.heap.size vv (done.map S) wr ∧ Below W2.heap.size W2 wr ∧ LnsP X1 done a j) (fun _ _ iv _ => i - (intOf iv).toNat)
    case atStart => exact ⟨0, 0, [], by omega, rfl, rfl, by simp, .inl ⟨rfl, rfl⟩, Below.refl _ _, lnsP_start X1⟩
    case round =>
      obtain ⟨a, j, done, hj, rfl, rfl, hdl, ho, hB, hp⟩ := hrel
      have hwj : IntKind.i64.wrap ((j : Int) + 1) = (j : Int) + 1 := by rw [IntKind.wrap_i64]; omega
      have hwj2 : IntKind.i64.wrap ((j : Int) + 2) = (j : Int) + 2 := by rw [IntKind.wrap_i64]; omega
      by_cases hlt2 : j + 1 < i
      case pos =>
        have g2 : decide ((j : Int) + 1 < (i : Int)) = true := decide_eq_true (by omega)
        obtain ⟨c, hc⟩ : ∃ c, s[j]? = some c := ⟨s[j]'(by have := HL.out; omega), List.getElem?_eq_getElem _⟩
        obtain ⟨d, hd⟩ : ∃ d, s[j + 1]? = some d := ⟨s[j + 1]'(by have := HL.out; omega), List.getElem?_eq_getElem _⟩
        have hidx : ∀ w, (Instr.index 9 (S s) (.int .i64 (j : Int))).run Tryz.prog w = .ok (B c) w := fun w => index_S (P := Tryz.prog) Tryz.underlying9 s j c hc w
        have hidy : ∀ w, (Instr.index 9 (S s) (.int .i64 ((j : Int) + 1))).run Tryz.prog w = .ok (B d) w := fun w => by
          have := index_S (P := Tryz.prog) Tryz.underlying9 s (j + 1) d hd w
          rwa [show ((j + 1 : Nat) : Int) = (j : Int) + 1 by omega] at this
        have hcX : X1[j]? = some c := by rw [HX1.out.2, List.getElem?_take_of_lt (by omega)]; exact hc
        have hdX : X1[j + 1]? = some d := by rw [HX1.out.2, List.getElem?_take_of_lt (by omega)]; exact hd
        have q1 : binOp .eql 5 (B c) (.int .u8 13) = pure (.bool (c == 13)) := B_eql 5 c 13
        have q2 : binOp .eql 5 (B d) (.int .u8 10) = pure (.bool (d == 10)) := B_eql 5 d 10
        by_cases h13 : c = 13
        · rw [show (c == 13) = true from beq_iff_eq.2 h13] at q1
          by_cases h10 : d = 10
          · rw [show (d == 10) = true from beq_iff_eq.2 h10] at q2
            rcases lnsP_cut hp (by rw [hcX, h13]) (by rw [hdX, h10]) with ⟨haj, hn⟩
            have HNX := Lib.hid hn
            have hsl : ∀ w, (Instr.slice 9 (S s) (some (.int .i64 (a : Int))) (some (.int .i64 (j : Int))) none).run Tryz.prog w = .ok (S ((X1.drop a).take (j - a))) w := fun w => by
              have e : (X1.drop a).take (j - a) = (s.drop a).take (j - a) := by rw [HX1.out.2, List.drop_take, List.take_take, Nat.min_eq_left (by omega)]
              rw [e]
              exact slice_mid (P := Tryz.prog) Tryz.underlying9 s a j haj (by have := HL.out; omega) w
            have HO := Lib.hid (And.intro ho hB)
            have hlen : (done.map S).length < 1000000000000 := by rw [List.length_map]; omega
            have hsz := hB.size
            have hltt := ho.lt
            clear hB hc hd hcX hdX hn h13 h10 hp
            generalize (X1.drop a).take (j - a) = P at *
            go_wp2_with (at_builtin; refine wpList_add rfl 53 9 (.tmp 63) (.tmp 68) rfl Tryz.underlying53 elem9 W2.heap.size wr _ rfl (done.map S) ho (S P) rfl _ rfl rfl rfl hlen hsz ?_; intro v' W3 o2 g2 _)
            exact ⟨⟨j + 2, j + 1, done ++ [P], by omega, by go_num, by go_num, by rw [List.length_append, List.length_singleton]; omega, by rw [List.map_append, List.map_singleton]; exact o2, HO.out.2.grown g2 hsz (fun k e => (hltt k e).1), HNX.out⟩, by simp [intOf]; omega⟩
          · rw [show (d == 10) = false from beq_eq_false_iff_ne.2 h10] at q2
            have HNX := Lib.hid (lnsP_on hp hcX hdX (fun e => h10 e.2))
            have HO := Lib.hid (And.intro ho hB)
            clear ho hB hc hd hcX hdX h13 h10 hp
            go_wp2
            exact ⟨⟨a, j + 1, done, by omega, rfl, by go_num, by omega, HO.out.1, HO.out.2, HNX.out⟩, by simp [intOf]; omega⟩
        · rw [show (c == 13) = false from beq_eq_false_iff_ne.2 h13] at q1
          have HNX := Lib.hid (lnsP_on hp hcX hdX (fun e => h13 e.1))
          have HO := Lib.hid (And.intro ho hB)
          clear ho hB hc hd hcX hdX h13 q2 hp
          go_wp2
          exact ⟨⟨a, j + 1, done, by omega, rfl, by go_num, by omega, HO.out.1, HO.out.2, HNX.out⟩, by simp [intOf]; omega⟩
      have g2 : decide ((j : Int) + 1 < (i : Int)) = false := decide_eq_false (by omega)
      obtain ⟨hf, hal⟩ := lnsP_fin hp (by have := HX1.out.1; omega)
      obtain ⟨P, hP⟩ : ∃ P, P = X1.drop a := ⟨_, rfl⟩
      rw [← hP] at hf
      have hsl : ∀ w, (Instr.slice 9 (S s) (some (.int .i64 (a : Int))) (some (.int .i64 (i : Int))) none).run Tryz.prog w = .ok (S P) w := fun w => by
        have e : X1.drop a = (s.drop a).take (i - a) := by rw [HX1.out.2, List.drop_take]
        rw [hP, e]
        exact slice_mid (P := Tryz.prog) Tryz.underlying9 s a i (by have := HX1.out.1; omega) (by have := HL.out; have := HE.out; omega) w
      obtain ⟨ls, hls⟩ : ∃ ls, ls = done ++ [P] := ⟨_, rfl⟩
      have HLS : Hid (lnsF [] X1 = ls) := Lib.hid (by rw [hf, hls])
      have hlsl : ls.length ≤ i + 1 := by rw [hls, List.length_append, List.length_singleton]; omega
      have hlen : (done.map S).length < 1000000000000 := by rw [List.length_map]; omega
      have hsz := hB.size
      have HHB := Lib.hid (And.intro hB ho)
      have HLL : Hid (∀ l ∈ ls, l.length ≤ i) := Lib.hid fun l hl => by
        have := lns_leP X1.length X1 [] l (Nat.le_refl _) (by rw [HLS.out]; exact hl)
        have h9 := HX1.out.1
        rw [List.length_nil, Nat.zero_add] at this
        omega
      clear hp hf hal hB hP hdl hj hlt2
      obtain ⟨l0, rest, hl0⟩ : ∃ l0 rest, ls = l0 :: rest := by
        cases ls with
        | nil => exact absurd hls (by simp)
        | cons a b => exact ⟨a, b, rfl⟩
      have HLE := Lib.hid (And.intro hl0 hls)
      have HRF1 : Hid (RF = match headP (l0 :: rest) with
        | none => .form
        | some (c, p) => restP s (i + 4) head c p) := Lib.hid (by rw [HRF0.out, HLS.out, hl0])
      have hl0l : l0.length ≤ 100000 := by have := HLL.out l0 (by rw [hl0]; exact List.mem_cons_self); have := HE.out; omega
      have hst := fun w => dstatus_any l0 hl0l w
      obtain ⟨⟨code, rsn, ok⟩, hSt⟩ : ∃ x, x = statusF l0 := ⟨_, rfl⟩
      rw [← hSt] at hst
      unfold statusV at hst
      dsimp only at hst
      have HST := Lib.hid hst
      have HSS := Lib.hid hSt
      have hcode : code ≤ 599 := by
        cases ok with
        | true => exact (status_true hSt.symm).2.1
        | false => have := (status_false hSt.symm).1; omega
      clear hst hSt hl0l
      go_wp2_with (first
        | (at_builtin; refine wpList_add rfl 53 9 (.tmp 72) (.tmp 77) rfl Tryz.underlying53 elem9 W2.heap.size wr _ rfl (done.map S) ho (S P) rfl _ rfl rfl rfl hlen hsz ?_
           intro v' W3 o2 g2 _
           have hB3 : Below W2.heap.size W2 W3 := HHB.out.1.grown g2 hsz (fun k e => (ho.lt k e).1)
           have o3 : Own W2.heap.size v' (ls.map S) W3 := by rw [HLE.out.2, List.map_append, List.map_singleton]; exact o2
           have H3 := Lib.hid (And.intro hB3 o3)
           obtain ⟨gl, cl, hvl, _, hgl, hrl⟩ := o3.shape (n := ls.length) (by rw [List.length_map]) (by rw [HLE.out.1]; simp)
           have hc0 : W3.cell? ⟨gl, 0, none⟩ = some (S l0) := by
             have := hrl 0 (S l0) (by rw [HLE.out.1]; rfl)
             rwa [Nat.zero_add] at this
           have hi0 : ∀ w', (Instr.indexAt 53 v' (.int .i64 0)).run Tryz.prog w' = .ok (.pointer (some ⟨gl, 0, none⟩)) w' := fun w' => by
             rw [hvl]
             have := run_index_at (P := Tryz.prog) Tryz.underlying53 (fun w => Tryz.sizeOf9 w) gl 0 ls.length cl 0 (by rw [HLE.out.1]; simp) w'
             simpa using this
           have HVL := Lib.hid (And.intro hvl (And.intro hgl hrl))
           clear o2 g2 hB3 o3 hvl hgl hrl)
        | fail)
      refine (HST.out W3).mono ?_
      rintro e W4 ⟨rfl, hD4⟩
      have H4 : Hid (Below W2.heap.size W2 W4 ∧ Own W2.heap.size v' (ls.map S) W4 ∧ W4.heap.size = W3.heap.size) := Lib.hid (by
        have hb := drawn_below hD4
        exact ⟨H3.out.1.trans (hb.mono H3.out.1.size), H3.out.2.below hb (fun k e => (H3.out.2.lt k e).2), by rw [hD4.heap]⟩)
      have hcl : ∀ (k : Nat) (l : List UInt8), ls[k]? = some l → ∀ W, Below W4.heap.size W4 W → W.cell? ⟨gl, k, none⟩ = some (S l) := fun k l hk W hW => by
        have h1 := HVL.out.2.2 k (S l) (by rw [List.getElem?_map, hk]; rfl)
        rw [Nat.zero_add] at h1
        rw [hW.cell (by rw [H4.out.2.2]; exact HVL.out.2.1), hD4.cell]; exact h1
      have HCL := Lib.hid hcl
      have hix : ∀ k, k < ls.length → ∀ w', (Instr.indexAt 53 v' (.int .i64 (k : Int))).run Tryz.prog w' = .ok (.pointer (some ⟨gl, k, none⟩)) w' := fun k hk w' => by
        rw [HVL.out.1]
        have := run_index_at (P := Tryz.prog) Tryz.underlying53 (fun w => Tryz.sizeOf9 w) gl 0 ls.length cl k hk w'
        rwa [Nat.mul_one, Nat.zero_add] at this
      have HIX := Lib.hid hix
      clear hD4 hcl hix hc0 hi0 ho hlen hsz
      cases ok with
      | false =>
        have hr4 : Row W4 b4 zeroRp 24 := H2.out.1.below H4.out.1 H2.out.1.lt
        have hr8 : Row W4 b8 zeroRp 24 := H2.out.2.1.below H4.out.1 H2.out.2.1.lt
        have x0 : W4.cell? ⟨b8, 0, none⟩ = some (.int .i64 0) := cell_of_row _ _ 0 _ _ (0, 0) hr8
        have y0 : W4.cell? ⟨b4, 0, none⟩ = some (.int .i64 0) := cell_of_row _ _ 0 _ _ (0, 0) hr4
        have z0 : W4.frozen? ⟨b4, 0, none⟩ = false := Row.frozen hr4 0
        have x1 : W4.cell? ⟨b8, 1, none⟩ = some (.slice none 0 0) := cell_of_row _ _ 1 _ _ (0, 0) hr8
        have y1 : W4.cell? ⟨b4, 1, none⟩ = some (.slice none 0 0) := cell_of_row _ _ 1 _ _ (0, 0) hr4
        have z1 : W4.frozen? ⟨b4, 1, none⟩ = false := Row.frozen hr4 1
        have x2 : W4.cell? ⟨b8, 2, none⟩ = some (.string ⟨#[]⟩) := cell_of_row _ _ 2 _ _ (0, 0) hr8
        have y2 : W4.cell? ⟨b4, 2, none⟩ = some (.string ⟨#[]⟩) := cell_of_row _ _ 2 _ _ (0, 0) hr4
        have z2 : W4.frozen? ⟨b4, 2, none⟩ = false := Row.frozen hr4 2
        have HRF : Hid (RF = .form) := Lib.hid (by rw [HRF1.out]; unfold headP; dsimp only; rw [← HSS.out, if_pos rfl])
        have HBW := Lib.hid (show Below W2.heap.size W2 W4 from H4.out.1)
        clear hr4 hr8
        go_wp2
        exact hnone.out W4 8 _ (.inr ⟨HRF.out, rfl⟩) HBW.out rfl rfl rfl rfl
      | true =>
      have HRF2 : Hid (RF = match (match goP code ⟨[], 0, 0, 0⟩ rest with
        | none => none
        | some p => if 1 < p.lens ∨ 1 < p.cls ∨ nobB code ≠ decide (p.lens = 0) then none else some (code, p)) with
        | none => .form
        | some (c, p) => restP s (i + 4) head c p) := Lib.hid (by rw [HRF1.out]; unfold headP; dsimp only; rw [← HSS.out, if_neg (by simp)]; rfl)
      have hlenL := own_len H4.out.2.1 53 9 3 Tryz.underlying53
      rw [List.length_map] at hlenL
      obtain ⟨NL, hNL⟩ : ∃ NL, NL = ls.length := ⟨_, rfl⟩
      rw [← hNL] at hlenL hlsl HIX
      have HNL := Lib.hid hNL
      obtain ⟨b17, hb17⟩ : ∃ b, b = W4.heap.size := ⟨_, rfl⟩
      obtain ⟨W5, hW5⟩ : ∃ W, W = W4.alloc (.cells #[.int .i64 (code : Int), .slice none 0 0, .string ⟨#[]⟩] 24) := ⟨_, rfl⟩
      have hS5 : RdS W4 b17 code [] W5 := ⟨⟨.slice none 0 0, by rw [hW5, hb17]; exact row_new _ _ _, World.ownsRow_nil _ _ _ _⟩, by rw [hW5]; exact (Below.refl _ W4).alloc (Nat.le_refl _) _, by rw [hW5, hb17, alloc_size]; exact Nat.le_refl _⟩
      have HS5 := Lib.hid hS5
      have HB17 := Lib.hid hb17
      have hiL : i ≤ 100000 := by have := HE.out; omega
      clear hS5 hNL HRF0 HRF1 HSS HST HHB hls hl0
      go_wp2_with fail
      all_goals try rw [← hW5, ← hb17]
      clear hW5 hb17
      go_loopw [18, 19, 20, 21] (fun x1 x2 x3 x4 wr => ∃ (p : Ps) (j : Nat), 1 ≤ j ∧ j ≤ NL ∧ x1 = .int .i64 (p.lens : Int) ∧ x2 = .int .i64 (p.cls : Int) ∧ x3 = .int .i64 (p.n : Int) ∧ x4 = .int .i64 (j : Int) ∧ p.lens ≤ j ∧ p.cls ≤ j ∧ p.n ≤ 999999 ∧ p.fs.length ≤ j ∧ Hid (RdS W4 b17 code p.fs wr ∧ goP code ⟨[], 0, 0, 0⟩ rest = goP code p (ls.drop j))) (fun _ _ _ jv _ => NL - (intOf jv).toNat)
      case atStart => exact ⟨⟨[], 0, 0, 0⟩, 1, Nat.le_refl _, by rw [HNL.out, HLE.out.1]; simp, rfl, rfl, rfl, rfl, Nat.zero_le _, Nat.zero_le _, Nat.zero_le _, Nat.zero_le _, Lib.hid ⟨HS5.out, by rw [HLE.out.1]; rfl⟩⟩
      case round =>
        obtain ⟨⟨pf, pl, pc, pn⟩, j, hj1, hjN, rfl, rfl, rfl, rfl, hpl, hpc, hpn, hpf, HR⟩ := hrel
        dsimp only at hpl hpc hpn hpf HR ⊢
        have hwj : IntKind.i64.wrap ((j : Int) + 1) = (j : Int) + 1 := by rw [IntKind.wrap_i64]; omega
        have hwl : IntKind.i64.wrap ((pl : Int) + 1) = (pl : Int) + 1 := by rw [IntKind.wrap_i64]; omega
        have hwc : IntKind.i64.wrap ((pc : Int) + 1) = (pc : Int) + 1 := by rw [IntKind.wrap_i64]; omega
        by_cases hlt3 : j < NL
        case pos =>
          have g3 : decide ((j : Int) < (NL : Int)) = true := decide_eq_true (by omega)
          obtain ⟨l, hl⟩ : ∃ l, ls[j]? = some l := ⟨ls[j]'(by have := HNL.out; omega), List.getElem?_eq_getElem _⟩
          have hlc := HCL.out j l hl wr HR.out.1.bel
          have hix := HIX.out j hlt3
          have hll : l.length ≤ 100000 := by have := HLL.out l (List.mem_of_getElem? hl); omega
          have hdrop : ls.drop j = l :: ls.drop (j + 1) := by
            rw [List.drop_eq_getElem_cons (by have := HNL.out; omega), (List.getElem?_eq_some_iff.1 hl).2]
          have HGO : Hid (goP code ⟨[], 0, 0, 0⟩ rest = match stepP code ⟨pf, pl, pc, pn⟩ l with
            | none => none
            | some q => goP code q (ls.drop (j + 1))) := Lib.hid (by rw [HR.out.2, hdrop, goP_cons])
          have hps := fun w => parse_any l hll w
          have hplen : (parseF l).1.length ≤ 100000 ∧ (parseF l).2.1.length ≤ 100000 := by
            obtain ⟨⟨a1, a2, a3⟩, ha⟩ : ∃ x, parseF l = x := ⟨_, rfl⟩
            rw [ha]
            cases a3 with
            | true => obtain ⟨_, _, _, h4, h5, _⟩ := parse_true ha; exact ⟨by dsimp only; omega, by dsimp only; omega⟩
            | false => obtain ⟨h4, h5⟩ := parse_no ha; subst h4 h5; simp
          have HSP : Hid (∀ x, parseF l = x → stepP code ⟨pf, pl, pc, pn⟩ l = if x.2.2 = false ∨ alikeF x.1 teL = true then none
            else if alikeF x.1 clL = true then match szF x.2.1 with
              | none => none
              | some k => some ⟨pf, pl + 1, pc, k⟩
            else if code ≠ 101 ∧ alikeF x.1 coL = true then if x.2.1 = closeL then some ⟨pf, pl, pc + 1, pn⟩ else none
            else some ⟨pf ++ [(x.1, x.2.1)], pl, pc, pn⟩) := Lib.hid fun x hx => by subst hx; rfl
          obtain ⟨⟨n, u, ok⟩, hp⟩ : ∃ x, parseF l = x := ⟨_, rfl⟩
          rw [hp] at hps hplen
          rw [show parseV (n, u, ok) = .tuple #[.agg #[S n, S u], .bool ok] from rfl] at hps
          have hsp := HSP.out _ hp
          dsimp only at hsp hplen
          have HPS := Lib.hid hps
          have HA1 := Lib.hid fun w => alike_bel n teL hplen.1 (by decide) w
          have HA2 := Lib.hid fun w => alike_bel n clL hplen.1 (by decide) w
          have HA3 := Lib.hid fun w => alike_bel n coL hplen.1 (by decide) w
          have HSZ := Lib.hid fun w => dsize_any u (by omega) w
          obtain ⟨a1, ha1⟩ : ∃ x, x = alikeF n teL := ⟨_, rfl⟩
          obtain ⟨a2, ha2⟩ : ∃ x, x = alikeF n clL := ⟨_, rfl⟩
          obtain ⟨a3, ha3⟩ : ∃ x, x = alikeF n coL := ⟨_, rfl⟩
          obtain ⟨sz, hsz⟩ : ∃ x, x = szF u := ⟨_, rfl⟩
          rw [← ha1] at HA1 hsp
          rw [← ha2] at HA2 hsp
          rw [← ha3] at HA3 hsp
          rw [← hsz] at HSZ hsp
          have HSZL : Hid (∀ k, sz = some k → k ≤ 999999) := Lib.hid fun k hk => szF_le (by rw [← hsz, hk])
          have HSTP := Lib.hid hsp
          have qn : binOp .neq 9 (S u) (.string ⟨#[99, 108, 111, 115, 101]⟩) = pure (.bool (u != [99, 108, 111, 115, 101])) := neql_S 9 u [99, 108, 111, 115, 101]
          have qg : ∀ x y, eqGuard .neq 9 x y (S u) (.string ⟨#[99, 108, 111, 115, 101]⟩) = pure () := fun x y => nguard_S 9 x y u [99, 108, 111, 115, 101]
          clear hps hplen hsp HSP hp hdrop hll hl ha1 ha2 ha3 hsz
          go_wp2_with fail
          refine (HPS.out wr).mono ?_
          rintro e W7 ⟨rfl, hB7⟩
          have H7 := Lib.hid (HR.out.1.below hB7)
          clear hB7 HPS HR hlc hix
          cases ok with
          | false =>
            have HNS : Hid (stepP code ⟨pf, pl, pc, pn⟩ l = none) := Lib.hid (by rw [HSTP.out]; rw [if_pos (.inl rfl)])
            have HB0 : Hid (Below W2.heap.size W2 (W7.alloc (.cells #[S n, S u] 35))) := Lib.hid (H4.out.1.trans ((H7.out.bel.alloc H7.out.bel.size _).mono H4.out.1.size))
            have hr4 : Row (W7.alloc (.cells #[S n, S u] 35)) b4 zeroRp 24 := H2.out.1.below HB0.out H2.out.1.lt
            have hr8 : Row (W7.alloc (.cells #[S n, S u] 35)) b8 zeroRp 24 := H2.out.2.1.below HB0.out H2.out.2.1.lt
            have x0 : (W7.alloc (.cells #[S n, S u] 35)).cell? ⟨b8, 0, none⟩ = some (.int .i64 0) := cell_of_row _ _ 0 _ _ (0, 0) hr8
            have y0 : (W7.alloc (.cells #[S n, S u] 35)).cell? ⟨b4, 0, none⟩ = some (.int .i64 0) := cell_of_row _ _ 0 _ _ (0, 0) hr4
            have z0 : (W7.alloc (.cells #[S n, S u] 35)).frozen? ⟨b4, 0, none⟩ = false := Row.frozen hr4 0
            have x1 : (W7.alloc (.cells #[S n, S u] 35)).cell? ⟨b8, 1, none⟩ = some (.slice none 0 0) := cell_of_row _ _ 1 _ _ (0, 0) hr8
            have y1 : (W7.alloc (.cells #[S n, S u] 35)).cell? ⟨b4, 1, none⟩ = some (.slice none 0 0) := cell_of_row _ _ 1 _ _ (0, 0) hr4
            have z1 : (W7.alloc (.cells #[S n, S u] 35)).frozen? ⟨b4, 1, none⟩ = false := Row.frozen hr4 1
            have x2 : (W7.alloc (.cells #[S n, S u] 35)).cell? ⟨b8, 2, none⟩ = some (.string ⟨#[]⟩) := cell_of_row _ _ 2 _ _ (0, 0) hr8
            have y2 : (W7.alloc (.cells #[S n, S u] 35)).cell? ⟨b4, 2, none⟩ = some (.string ⟨#[]⟩) := cell_of_row _ _ 2 _ _ (0, 0) hr4
            have z2 : (W7.alloc (.cells #[S n, S u] 35)).frozen? ⟨b4, 2, none⟩ = false := Row.frozen hr4 2
            have HRF : Hid (RF = .form) := Lib.hid (by rw [HRF2.out, HGO.out, HNS.out])
            have HBW := Lib.hid (show Below W2.heap.size W2 (W7.alloc (.cells #[S n, S u] 35)) from HB0.out)
            clear hr4 hr8
            go_wp2
            exact hnone.out (W7.alloc (.cells #[S n, S u] 35)) 8 _ (.inr ⟨HRF.out, rfl⟩) HBW.out rfl rfl rfl rfl
          | true =>
          have HS8 : Hid (RdS W4 b17 code pf (W7.alloc (.cells #[S n, S u] 35)) ∧ Row (W7.alloc (.cells #[S n, S u] 35)) W7.heap.size #[S n, S u] 35) := Lib.hid ⟨H7.out.below ((Below.refl _ W7).alloc (Nat.le_refl _) _), row_new W7 _ _⟩
          have k0 : (W7.alloc (.cells #[S n, S u] 35)).cell? ⟨W7.heap.size, 0, none⟩ = some (S n) := cell_of_row _ _ 0 _ 35 (0, 0) HS8.out.2
          go_wp2_with fail
          clear k0
          generalize hK : W7.heap.size = K at *
          refine (HA1.out _).mono ?_
          rintro e W9 ⟨rfl, hB⟩
          have H9 := Lib.hid (And.intro (HS8.out.1.below hB) (HS8.out.2.below hB HS8.out.2.lt))
          clear hB HS8 H7 hK
          cases a1 with
          | true =>
            have HNS : Hid (stepP code ⟨pf, pl, pc, pn⟩ l = none) := Lib.hid (by rw [HSTP.out]; rw [if_pos (.inr rfl)])
            have HB0 : Hid (Below W2.heap.size W2 W9) := Lib.hid (H4.out.1.trans ((H9.out.1.bel).mono H4.out.1.size))
            have hr4 : Row W9 b4 zeroRp 24 := H2.out.1.below HB0.out H2.out.1.lt
            have hr8 : Row W9 b8 zeroRp 24 := H2.out.2.1.below HB0.out H2.out.2.1.lt
            have x0 : W9.cell? ⟨b8, 0, none⟩ = some (.int .i64 0) := cell_of_row _ _ 0 _ _ (0, 0) hr8
            have y0 : W9.cell? ⟨b4, 0, none⟩ = some (.int .i64 0) := cell_of_row _ _ 0 _ _ (0, 0) hr4
            have z0 : W9.frozen? ⟨b4, 0, none⟩ = false := Row.frozen hr4 0
            have x1 : W9.cell? ⟨b8, 1, none⟩ = some (.slice none 0 0) := cell_of_row _ _ 1 _ _ (0, 0) hr8
            have y1 : W9.cell? ⟨b4, 1, none⟩ = some (.slice none 0 0) := cell_of_row _ _ 1 _ _ (0, 0) hr4
            have z1 : W9.frozen? ⟨b4, 1, none⟩ = false := Row.frozen hr4 1
            have x2 : W9.cell? ⟨b8, 2, none⟩ = some (.string ⟨#[]⟩) := cell_of_row _ _ 2 _ _ (0, 0) hr8
            have y2 : W9.cell? ⟨b4, 2, none⟩ = some (.string ⟨#[]⟩) := cell_of_row _ _ 2 _ _ (0, 0) hr4
            have z2 : W9.frozen? ⟨b4, 2, none⟩ = false := Row.frozen hr4 2
            have HRF : Hid (RF = .form) := Lib.hid (by rw [HRF2.out, HGO.out, HNS.out])
            have HBW := Lib.hid (show Below W2.heap.size W2 W9 from HB0.out)
            clear hr4 hr8
            go_wp2
            exact hnone.out W9 8 _ (.inr ⟨HRF.out, rfl⟩) HBW.out rfl rfl rfl rfl
          | false =>
          have k0 : W9.cell? ⟨K, 0, none⟩ = some (S n) := cell_of_row _ _ 0 _ 35 (0, 0) H9.out.2
          have k1 : W9.cell? ⟨K, 1, none⟩ = some (S u) := cell_of_row _ _ 1 _ 35 (0, 0) H9.out.2
          go_wp2_with fail
          clear k0 k1
          refine (HA2.out _).mono ?_
          rintro e W10 ⟨rfl, hB⟩
          have H10 := Lib.hid (And.intro (H9.out.1.below hB) (H9.out.2.below hB H9.out.2.lt))
          clear hB H9
          have k0 : W10.cell? ⟨K, 0, none⟩ = some (S n) := cell_of_row _ _ 0 _ 35 (0, 0) H10.out.2
          have k1 : W10.cell? ⟨K, 1, none⟩ = some (S u) := cell_of_row _ _ 1 _ 35 (0, 0) H10.out.2
          cases a2 with
          | true =>
            cases hz : sz with
            | none =>
              rw [hz] at HSZ HSTP
              clear hz
              go_wp2_with fail
              clear k0 k1
              refine (HSZ.out _).mono ?_
              rintro e W11 ⟨rfl, hW⟩
              rw [hW]
              clear hW
              have gm : decide ((-1 : Int) < 0) = true := rfl
              unfold optW
              dsimp only
              have HNS : Hid (stepP code ⟨pf, pl, pc, pn⟩ l = none) := Lib.hid (by rw [HSTP.out]; simp)
              have HB0 : Hid (Below W2.heap.size W2 W10) := Lib.hid (H4.out.1.trans ((H10.out.1.bel).mono H4.out.1.size))
              have hr4 : Row W10 b4 zeroRp 24 := H2.out.1.below HB0.out H2.out.1.lt
              have hr8 : Row W10 b8 zeroRp 24 := H2.out.2.1.below HB0.out H2.out.2.1.lt
              have x0 : W10.cell? ⟨b8, 0, none⟩ = some (.int .i64 0) := cell_of_row _ _ 0 _ _ (0, 0) hr8
              have y0 : W10.cell? ⟨b4, 0, none⟩ = some (.int .i64 0) := cell_of_row _ _ 0 _ _ (0, 0) hr4
              have z0 : W10.frozen? ⟨b4, 0, none⟩ = false := Row.frozen hr4 0
              have x1 : W10.cell? ⟨b8, 1, none⟩ = some (.slice none 0 0) := cell_of_row _ _ 1 _ _ (0, 0) hr8
              have y1 : W10.cell? ⟨b4, 1, none⟩ = some (.slice none 0 0) := cell_of_row _ _ 1 _ _ (0, 0) hr4
              have z1 : W10.frozen? ⟨b4, 1, none⟩ = false := Row.frozen hr4 1
              have x2 : W10.cell? ⟨b8, 2, none⟩ = some (.string ⟨#[]⟩) := cell_of_row _ _ 2 _ _ (0, 0) hr8
              have y2 : W10.cell? ⟨b4, 2, none⟩ = some (.string ⟨#[]⟩) := cell_of_row _ _ 2 _ _ (0, 0) hr4
              have z2 : W10.frozen? ⟨b4, 2, none⟩ = false := Row.frozen hr4 2
              have HRF : Hid (RF = .form) := Lib.hid (by rw [HRF2.out, HGO.out, HNS.out])
              have HBW := Lib.hid (show Below W2.heap.size W2 W10 from HB0.out)
              clear hr4 hr8
              go_wp2
              exact hnone.out W10 8 _ (.inr ⟨HRF.out, rfl⟩) HBW.out rfl rfl rfl rfl
            | some k =>
              rw [hz] at HSZ HSTP
              have hk9 : k ≤ 999999 := HSZL.out k hz
              clear hz
              go_wp2_with fail
              clear k0 k1
              refine (HSZ.out _).mono ?_
              rintro e W11 ⟨rfl, hW⟩
              rw [hW]
              clear hW
              unfold optW
              dsimp only
              have gm : decide ((k : Int) < 0) = false := decide_eq_false (by omega)
              have HG2 : Hid (goP code ⟨[], 0, 0, 0⟩ rest = goP code ⟨pf, pl + 1, pc, k⟩ (ls.drop (j + 1))) := Lib.hid (by rw [HGO.out, HSTP.out]; simp)
              go_wp2
              exact ⟨⟨⟨pf, pl + 1, pc, k⟩, j + 1, by omega, by omega, by go_num, rfl, rfl, by go_num, by dsimp only; omega, by dsimp only; omega, hk9, by dsimp only; omega, Lib.hid ⟨H10.out.1, HG2.out⟩⟩, by simp [intOf]; omega⟩
          | false =>
            by_cases hc101 : code = 101
            case pos =>
              have r1 : ((code : Int) != 101) = false := by rw [bne_eq_false_iff_eq]; omega
              have HC := Lib.hid hc101
              clear hc101
              obtain ⟨V, hr7, ho7⟩ := H10.out.1.ex
              have HNE : Hid (some b17 ≠ V.ownBlock) := Lib.hid fun e => by have := (ho7.lt b17 e.symm).1; omega
              have hb8 : b17 + 1 ≤ W10.heap.size := H10.out.1.size
              have hlf : pf.length < 1000000 := by omega
              have hone : ∀ x ∈ (#[S n, S u] : Array Value).toList, x.oneCell' = true := by
                intro x hx
                simp only [List.mem_cons, List.not_mem_nil, or_false] at hx
                rcases hx with rfl | rfl <;> rfl
              have c1 : W10.cell? ⟨b17, 1, none⟩ = some V := cell_of_row _ _ 1 _ 24 (0, 0) hr7
              have HRV := Lib.hid hr7
              have HOV := Lib.hid ho7
              have HG2 : Hid (goP code ⟨[], 0, 0, 0⟩ rest = goP code ⟨pf ++ [(n, u)], pl, pc, pn⟩ (ls.drop (j + 1))) := Lib.hid (by rw [HGO.out, HSTP.out]; simp [HC.out])
              have HW17 : Hid (W4.heap.size ≤ b17) := Lib.hid (by rw [HB17.out]; exact Nat.le_refl _)
              clear hr7 ho7
              go_wp2_with (first
                | (at_builtin; refine wpList_addK rfl 22 35 (.tmp 139) (.tmp 141) rfl Tryz.underlying22 eleF (by omega) (b17 + 1) W10 V rfl pf.length (fcells pf) HOV.out #[S n, S u] rfl hone rfl W10.heap.size rfl rfl hlf hb8 ?_
                   intro gg cap W12 o2 g2
                   have c49 : W12.cell? ⟨b17, 1, none⟩ = some V := cell_of_row _ _ 1 _ 24 (0, 0) (row_grown HRV.out g2 HNE.out)
                   have f49 : W12.frozen? ⟨b17, 1, none⟩ = false := Row.frozen (row_grown HRV.out g2 HNE.out) 1
                   have HX2 := Lib.hid (And.intro o2 g2)
                   clear o2 g2 c1)
                | fail)
              have HS : Hid (RdS W4 b17 code (pf ++ [(n, u)]) (W12.setCell ⟨b17, 1, none⟩ (.slice (some ⟨gg, 0, none⟩) (pf.length + 1) cap))) := Lib.hid (rds_grow HRV.out HOV.out H10.out.1.bel hb8 HW17.out HX2.out.1 HX2.out.2)
              exact ⟨⟨⟨pf ++ [(n, u)], pl, pc, pn⟩, j + 1, by omega, by omega, rfl, rfl, rfl, by go_num, by dsimp only; omega, by dsimp only; omega, hpn, by rw [List.length_append, List.length_singleton]; omega, Lib.hid ⟨HS.out, HG2.out⟩⟩, by simp [intOf]; omega⟩
            have r1 : ((code : Int) != 101) = true := by rw [bne_iff_ne]; omega
            have HC := Lib.hid hc101
            clear hc101
            go_wp2_with fail
            clear k0 k1
            refine (HA3.out _).mono ?_
            rintro e W11 ⟨rfl, hB⟩
            have H11 := Lib.hid (And.intro (H10.out.1.below hB) (H10.out.2.below hB H10.out.2.lt))
            clear hB H10
            have k0 : W11.cell? ⟨K, 0, none⟩ = some (S n) := cell_of_row _ _ 0 _ 35 (0, 0) H11.out.2
            have k1 : W11.cell? ⟨K, 1, none⟩ = some (S u) := cell_of_row _ _ 1 _ 35 (0, 0) H11.out.2
            cases a3 with
            | true =>
              by_cases hu : u = closeL
              case neg =>
                rw [show (u != [99, 108, 111, 115, 101]) = true from bne_iff_ne.2 hu] at qn
                have HU := Lib.hid hu
                clear hu
                have HNS : Hid (stepP code ⟨pf, pl, pc, pn⟩ l = none) := Lib.hid (by rw [HSTP.out]; simp [HC.out, HU.out])
                have HB0 : Hid (Below W2.heap.size W2 W11) := Lib.hid (H4.out.1.trans ((H11.out.1.bel).mono H4.out.1.size))
                have hr4 : Row W11 b4 zeroRp 24 := H2.out.1.below HB0.out H2.out.1.lt
                have hr8 : Row W11 b8 zeroRp 24 := H2.out.2.1.below HB0.out H2.out.2.1.lt
                have x0 : W11.cell? ⟨b8, 0, none⟩ = some (.int .i64 0) := cell_of_row _ _ 0 _ _ (0, 0) hr8
                have y0 : W11.cell? ⟨b4, 0, none⟩ = some (.int .i64 0) := cell_of_row _ _ 0 _ _ (0, 0) hr4
                have z0 : W11.frozen? ⟨b4, 0, none⟩ = false := Row.frozen hr4 0
                have x1 : W11.cell? ⟨b8, 1, none⟩ = some (.slice none 0 0) := cell_of_row _ _ 1 _ _ (0, 0) hr8
                have y1 : W11.cell? ⟨b4, 1, none⟩ = some (.slice none 0 0) := cell_of_row _ _ 1 _ _ (0, 0) hr4
                have z1 : W11.frozen? ⟨b4, 1, none⟩ = false := Row.frozen hr4 1
                have x2 : W11.cell? ⟨b8, 2, none⟩ = some (.string ⟨#[]⟩) := cell_of_row _ _ 2 _ _ (0, 0) hr8
                have y2 : W11.cell? ⟨b4, 2, none⟩ = some (.string ⟨#[]⟩) := cell_of_row _ _ 2 _ _ (0, 0) hr4
                have z2 : W11.frozen? ⟨b4, 2, none⟩ = false := Row.frozen hr4 2
                have HRF : Hid (RF = .form) := Lib.hid (by rw [HRF2.out, HGO.out, HNS.out])
                have HBW := Lib.hid (show Below W2.heap.size W2 W11 from HB0.out)
                clear hr4 hr8
                go_wp2
                exact hnone.out W11 8 _ (.inr ⟨HRF.out, rfl⟩) HBW.out rfl rfl rfl rfl
              rw [show (u != [99, 108, 111, 115, 101]) = false by rw [bne_eq_false_iff_eq]; exact hu] at qn
              have HG2 : Hid (goP code ⟨[], 0, 0, 0⟩ rest = goP code ⟨pf, pl, pc + 1, pn⟩ (ls.drop (j + 1))) := Lib.hid (by rw [HGO.out, HSTP.out]; simp [HC.out, hu])
              clear hu
              go_wp2
              exact ⟨⟨⟨pf, pl, pc + 1, pn⟩, j + 1, by omega, by omega, rfl, by go_num, rfl, by go_num, by dsimp only; omega, by dsimp only; omega, hpn, by dsimp only; omega, Lib.hid ⟨H11.out.1, HG2.out⟩⟩, by simp [intOf]; omega⟩
            | false =>
              obtain ⟨V, hr7, ho7⟩ := H11.out.1.ex
              have HNE : Hid (some b17 ≠ V.ownBlock) := Lib.hid fun e => by have := (ho7.lt b17 e.symm).1; omega
              have hb8 : b17 + 1 ≤ W11.heap.size := H11.out.1.size
              have hlf : pf.length < 1000000 := by omega
              have hone : ∀ x ∈ (#[S n, S u] : Array Value).toList, x.oneCell' = true := by
                intro x hx
                simp only [List.mem_cons, List.not_mem_nil, or_false] at hx
                rcases hx with rfl | rfl <;> rfl
              have c1 : W11.cell? ⟨b17, 1, none⟩ = some V := cell_of_row _ _ 1 _ 24 (0, 0) hr7
              have HRV := Lib.hid hr7
              have HOV := Lib.hid ho7
              have HG2 : Hid (goP code ⟨[], 0, 0, 0⟩ rest = goP code ⟨pf ++ [(n, u)], pl, pc, pn⟩ (ls.drop (j + 1))) := Lib.hid (by rw [HGO.out, HSTP.out]; simp)
              have HW17 : Hid (W4.heap.size ≤ b17) := Lib.hid (by rw [HB17.out]; exact Nat.le_refl _)
              clear hr7 ho7
              go_wp2_with (first
                | (at_builtin; refine wpList_addK rfl 22 35 (.tmp 139) (.tmp 141) rfl Tryz.underlying22 eleF (by omega) (b17 + 1) W11 V rfl pf.length (fcells pf) HOV.out #[S n, S u] rfl hone rfl W11.heap.size rfl rfl hlf hb8 ?_
                   intro gg cap W12 o2 g2
                   have c49 : W12.cell? ⟨b17, 1, none⟩ = some V := cell_of_row _ _ 1 _ 24 (0, 0) (row_grown HRV.out g2 HNE.out)
                   have f49 : W12.frozen? ⟨b17, 1, none⟩ = false := Row.frozen (row_grown HRV.out g2 HNE.out) 1
                   have HX2 := Lib.hid (And.intro o2 g2)
                   clear o2 g2 c1)
                | fail)
              have HS : Hid (RdS W4 b17 code (pf ++ [(n, u)]) (W12.setCell ⟨b17, 1, none⟩ (.slice (some ⟨gg, 0, none⟩) (pf.length + 1) cap))) := Lib.hid (rds_grow HRV.out HOV.out H11.out.1.bel hb8 HW17.out HX2.out.1 HX2.out.2)
              exact ⟨⟨⟨pf ++ [(n, u)], pl, pc, pn⟩, j + 1, by omega, by omega, rfl, rfl, rfl, by go_num, by dsimp only; omega, by dsimp only; omega, hpn, by rw [List.length_append, List.length_singleton]; omega, Lib.hid ⟨HS.out, HG2.out⟩⟩, by simp [intOf]; omega⟩
        obtain rfl : j = NL := by omega
        have g3 : decide ((j : Int) < (j : Int)) = false := decide_eq_false (by omega)
        obtain ⟨Wr, hWr⟩ : ∃ W, W = wr := ⟨_, rfl⟩
        subst hWr
        have HGO : Hid (goP code ⟨[], 0, 0, 0⟩ rest = some ⟨pf, pl, pc, pn⟩) := Lib.hid (by rw [HR.out.2, List.drop_of_length_le (by rw [HNL.out]; exact Nat.le_refl _)]; rfl)
        have HRF3 : Hid (RF = match (if 1 < pl ∨ 1 < pc ∨ nobB code ≠ decide (pl = 0) then none else some (code, (⟨pf, pl, pc, pn⟩ : Ps))) with
          | none => .form
          | some (c, p) => restP s (i + 4) head c p) := Lib.hid (by rw [HRF2.out, HGO.out])
        have HBW : Hid (Below W2.heap.size W2 Wr) := Lib.hid (H4.out.1.trans (HR.out.1.bel.mono H4.out.1.size))
        have HDB := Lib.hid fun W => dbare10_any (code : Int) W
        obtain ⟨nb, hnb⟩ : ∃ nb, nb = nobB (code : Int) := ⟨_, rfl⟩
        rw [← hnb] at HDB HRF3
        clear hnb HGO HRF2
        by_cases h1 : 1 < pl
        case pos =>
          have g5 : decide ((1 : Int) < (pl : Int)) = true := decide_eq_true (by omega)
          have Hh := Lib.hid h1
          clear h1
          have hr4 : Row Wr b4 zeroRp 24 := H2.out.1.below HBW.out H2.out.1.lt
          have hr8 : Row Wr b8 zeroRp 24 := H2.out.2.1.below HBW.out H2.out.2.1.lt
          have x0 : Wr.cell? ⟨b8, 0, none⟩ = some (.int .i64 0) := cell_of_row _ _ 0 _ _ (0, 0) hr8
          have y0 : Wr.cell? ⟨b4, 0, none⟩ = some (.int .i64 0) := cell_of_row _ _ 0 _ _ (0, 0) hr4
          have z0 : Wr.frozen? ⟨b4, 0, none⟩ = false := Row.frozen hr4 0
          have x1 : Wr.cell? ⟨b8, 1, none⟩ = some (.slice none 0 0) := cell_of_row _ _ 1 _ _ (0, 0) hr8
          have y1 : Wr.cell? ⟨b4, 1, none⟩ = some (.slice none 0 0) := cell_of_row _ _ 1 _ _ (0, 0) hr4
          have z1 : Wr.frozen? ⟨b4, 1, none⟩ = false := Row.frozen hr4 1
          have x2 : Wr.cell? ⟨b8, 2, none⟩ = some (.string ⟨#[]⟩) := cell_of_row _ _ 2 _ _ (0, 0) hr8
          have y2 : Wr.cell? ⟨b4, 2, none⟩ = some (.string ⟨#[]⟩) := cell_of_row _ _ 2 _ _ (0, 0) hr4
          have z2 : Wr.frozen? ⟨b4, 2, none⟩ = false := Row.frozen hr4 2
          have HRF : Hid (RF = .form) := Lib.hid (by rw [HRF3.out, if_pos (.inl Hh.out)])
          have HBW := Lib.hid (show Below W2.heap.size W2 Wr from HBW.out)
          clear hr4 hr8
          go_wp2
          exact hnone.out Wr 8 _ (.inr ⟨HRF.out, rfl⟩) HBW.out rfl rfl rfl rfl

        have g5 : decide ((1 : Int) < (pl : Int)) = false := decide_eq_false (by omega)
        by_cases h2 : 1 < pc
        case pos =>
          have g6 : decide ((1 : Int) < (pc : Int)) = true := decide_eq_true (by omega)
          have Hh := Lib.hid h2
          clear h2
          have hr4 : Row Wr b4 zeroRp 24 := H2.out.1.below HBW.out H2.out.1.lt
          have hr8 : Row Wr b8 zeroRp 24 := H2.out.2.1.below HBW.out H2.out.2.1.lt
          have x0 : Wr.cell? ⟨b8, 0, none⟩ = some (.int .i64 0) := cell_of_row _ _ 0 _ _ (0, 0) hr8
          have y0 : Wr.cell? ⟨b4, 0, none⟩ = some (.int .i64 0) := cell_of_row _ _ 0 _ _ (0, 0) hr4
          have z0 : Wr.frozen? ⟨b4, 0, none⟩ = false := Row.frozen hr4 0
          have x1 : Wr.cell? ⟨b8, 1, none⟩ = some (.slice none 0 0) := cell_of_row _ _ 1 _ _ (0, 0) hr8
          have y1 : Wr.cell? ⟨b4, 1, none⟩ = some (.slice none 0 0) := cell_of_row _ _ 1 _ _ (0, 0) hr4
          have z1 : Wr.frozen? ⟨b4, 1, none⟩ = false := Row.frozen hr4 1
          have x2 : Wr.cell? ⟨b8, 2, none⟩ = some (.string ⟨#[]⟩) := cell_of_row _ _ 2 _ _ (0, 0) hr8
          have y2 : Wr.cell? ⟨b4, 2, none⟩ = some (.string ⟨#[]⟩) := cell_of_row _ _ 2 _ _ (0, 0) hr4
          have z2 : Wr.frozen? ⟨b4, 2, none⟩ = false := Row.frozen hr4 2
          have HRF : Hid (RF = .form) := Lib.hid (by rw [HRF3.out, if_pos (.inr (.inl Hh.out))])
          have HBW := Lib.hid (show Below W2.heap.size W2 Wr from HBW.out)
          clear hr4 hr8
          go_wp2
          exact hnone.out Wr 8 _ (.inr ⟨HRF.out, rfl⟩) HBW.out rfl rfl rfl rfl

        have g6 : decide ((1 : Int) < (pc : Int)) = false := decide_eq_false (by omega)
        obtain ⟨z, hz⟩ : ∃ z, z = decide (pl = 0) := ⟨_, rfl⟩
        have g7 : ((pl : Int) == 0) = z := by rw [hz]; by_cases h : pl = 0 <;> simp [h]
        rw [← hz] at HRF3
        have HPC := Lib.hid (show pl ≤ 1 ∧ pc ≤ 1 by omega)
        have H12 := Lib.hid (And.intro h1 h2)
        clear hz h1 h2
        have bb : ∀ (x y : Bool) w, (binOp .neq 4 (.bool x) (.bool y)).run Tryz.prog w = .ok (.bool (x != y)) w := fun x y w => by cases x <;> cases y <;> rfl
        go_wp2_with fail
        refine (HDB.out _).mono ?_
        rintro e Wx ⟨rfl, hW⟩
        rw [hW]
        clear hW
        by_cases hne : nb = z
        case neg =>
          have g8 : (nb != z) = true := bne_iff_ne.2 hne
          have Hh := Lib.hid hne
          clear hne
          have hr4 : Row Wr b4 zeroRp 24 := H2.out.1.below HBW.out H2.out.1.lt
          have hr8 : Row Wr b8 zeroRp 24 := H2.out.2.1.below HBW.out H2.out.2.1.lt
          have x0 : Wr.cell? ⟨b8, 0, none⟩ = some (.int .i64 0) := cell_of_row _ _ 0 _ _ (0, 0) hr8
          have y0 : Wr.cell? ⟨b4, 0, none⟩ = some (.int .i64 0) := cell_of_row _ _ 0 _ _ (0, 0) hr4
          have z0 : Wr.frozen? ⟨b4, 0, none⟩ = false := Row.frozen hr4 0
          have x1 : Wr.cell? ⟨b8, 1, none⟩ = some (.slice none 0 0) := cell_of_row _ _ 1 _ _ (0, 0) hr8
          have y1 : Wr.cell? ⟨b4, 1, none⟩ = some (.slice none 0 0) := cell_of_row _ _ 1 _ _ (0, 0) hr4
          have z1 : Wr.frozen? ⟨b4, 1, none⟩ = false := Row.frozen hr4 1
          have x2 : Wr.cell? ⟨b8, 2, none⟩ = some (.string ⟨#[]⟩) := cell_of_row _ _ 2 _ _ (0, 0) hr8
          have y2 : Wr.cell? ⟨b4, 2, none⟩ = some (.string ⟨#[]⟩) := cell_of_row _ _ 2 _ _ (0, 0) hr4
          have z2 : Wr.frozen? ⟨b4, 2, none⟩ = false := Row.frozen hr4 2
          have HRF : Hid (RF = .form) := Lib.hid (by rw [HRF3.out, if_pos (.inr (.inr Hh.out))])
          have HBW := Lib.hid (show Below W2.heap.size W2 Wr from HBW.out)
          clear hr4 hr8
          go_wp2
          exact hnone.out Wr 8 _ (.inr ⟨HRF.out, rfl⟩) HBW.out rfl rfl rfl rfl

        have g8 : (nb != z) = false := by rw [bne_eq_false_iff_eq]; exact hne
        have HRF4 : Hid (RF = restP s (i + 4) head code ⟨pf, pl, pc, pn⟩) := Lib.hid (by rw [HRF3.out, if_neg (by rintro (h | h | h) <;> first | exact H12.out.1 h | exact H12.out.2 h | exact h hne)])
        clear hne HRF3
        obtain ⟨V, hr7, ho7⟩ := HR.out.1.ex
        obtain ⟨gf, hfl, hgf⟩ := flds_at ho7
        obtain ⟨fa, fc, rfl⟩ := hfl.form
        have HFL := Lib.hid (And.intro hr7 (And.intro ho7 (And.intro hfl hgf)))
        clear hr7 ho7 hfl hgf
        obtain ⟨m, hm⟩ : ∃ m : Nat, m = if head = true then 0 else pn := ⟨_, rfl⟩
        have hm9 : m ≤ 999999 := by rw [hm]; split <;> omega
        have HRF5 : Hid (RF = if s.length < i + 4 + m then .short else .ok code pf ((s.drop (i + 4)).take m) (decide (pc = 1)) (i + 4 + m)) := Lib.hid (by rw [HRF4.out, hm]; rfl)
        have HMM := Lib.hid hm
        clear HRF4 hm
        cases head with
        | true =>
          obtain rfl : m = 0 := by rw [HMM.out]; rfl
          have HRF6 : Hid (RF = if s.length < i + 4 then .short else .ok code pf ((s.drop (i + 4)).take 0) (decide (pc = 1)) (i + 4)) := Lib.hid HRF5.out
          clear HRF5
          have hw0 : IntKind.i64.wrap ((i : Int) + 4) = (i : Int) + 4 := by rw [IntKind.wrap_i64]; omega
          by_cases hsh : L < i + 4
          case pos =>
            have g9 : decide ((L : Int) < (i : Int) + 4) = true := decide_eq_true (by omega)
            have Hh := Lib.hid hsh
            clear hsh
            have hr4 : Row Wr b4 zeroRp 24 := H2.out.1.below HBW.out H2.out.1.lt
            have hr8 : Row Wr b8 zeroRp 24 := H2.out.2.1.below HBW.out H2.out.2.1.lt
            have x0 : Wr.cell? ⟨b8, 0, none⟩ = some (.int .i64 0) := cell_of_row _ _ 0 _ _ (0, 0) hr8
            have y0 : Wr.cell? ⟨b4, 0, none⟩ = some (.int .i64 0) := cell_of_row _ _ 0 _ _ (0, 0) hr4
            have z0 : Wr.frozen? ⟨b4, 0, none⟩ = false := Row.frozen hr4 0
            have x1 : Wr.cell? ⟨b8, 1, none⟩ = some (.slice none 0 0) := cell_of_row _ _ 1 _ _ (0, 0) hr8
            have y1 : Wr.cell? ⟨b4, 1, none⟩ = some (.slice none 0 0) := cell_of_row _ _ 1 _ _ (0, 0) hr4
            have z1 : Wr.frozen? ⟨b4, 1, none⟩ = false := Row.frozen hr4 1
            have x2 : Wr.cell? ⟨b8, 2, none⟩ = some (.string ⟨#[]⟩) := cell_of_row _ _ 2 _ _ (0, 0) hr8
            have y2 : Wr.cell? ⟨b4, 2, none⟩ = some (.string ⟨#[]⟩) := cell_of_row _ _ 2 _ _ (0, 0) hr4
            have z2 : Wr.frozen? ⟨b4, 2, none⟩ = false := Row.frozen hr4 2
            have HRF : Hid (RF = .short) := Lib.hid (by rw [HRF6.out, ← HL.out, if_pos Hh.out])
            have HBW := Lib.hid (show Below W2.heap.size W2 Wr from HBW.out)
            clear hr4 hr8
            go_wp2
            exact hnone.out Wr 7 _ (.inl ⟨HRF.out, rfl⟩) HBW.out rfl rfl rfl rfl

          have g9 : decide ((L : Int) < (i : Int) + 4) = false := decide_eq_false (by omega)
          obtain ⟨bd, hbd⟩ : ∃ bd, bd = (s.drop (i + 4)).take 0 := ⟨_, rfl⟩
          have HP : Hid (RF = .ok code pf bd (decide (pc = 1)) (i + 4)) := Lib.hid (by rw [HRF6.out, ← HL.out, if_neg hsh, hbd])
          have hslB : ∀ w, (Instr.slice 9 (S s) (some (.int .i64 ((i : Int) + 4))) (some (.int .i64 ((i : Int) + 4))) none).run Tryz.prog w = .ok (S bd) w := fun w => by
            have := slice_mid (P := Tryz.prog) Tryz.underlying9 s (i + 4) (i + 4) (by omega) (by have := HL.out; omega) w
            rwa [show i + 4 - (i + 4) = 0 by omega, show ((i + 4 : Nat) : Int) = (i : Int) + 4 by omega, ← hbd] at this
          obtain ⟨cb, hcb⟩ : ∃ cb, cb = decide (pc = 1) := ⟨_, rfl⟩
          have g10 : ((pc : Int) == 1) = cb := by rw [hcb]; by_cases h : pc = 1 <;> simp [h] <;> omega
          rw [← hcb] at HP
          clear hbd hcb hsh HRF6
          have hr4 : Row Wr b4 zeroRp 24 := H2.out.1.below HBW.out H2.out.1.lt
          have hn417 : b4 ≠ b17 := by have h1 := H2.out.1.lt; have h2 := H4.out.1.size; have h3 := HB17.out; omega
          have c0 : Wr.cell? ⟨b17, 0, none⟩ = some (.int .i64 (code : Int)) := cell_of_row _ _ 0 _ 24 (0, 0) HFL.out.1
          have c1 : Wr.cell? ⟨b17, 1, none⟩ = some (.slice fa pf.length fc) := cell_of_row _ _ 1 _ 24 (0, 0) HFL.out.1
          have c2 : Wr.cell? ⟨b17, 2, none⟩ = some (S []) := cell_of_row _ _ 2 _ 24 (0, 0) HFL.out.1
          have f2 : Wr.frozen? ⟨b17, 2, none⟩ = false := Row.frozen HFL.out.1 2
          obtain ⟨Wb, hWb⟩ : ∃ W, W = Wr.setCell ⟨b17, 2, none⟩ (S bd) := ⟨_, rfl⟩
          have hrb : Row Wb b17 #[.int .i64 (code : Int), .slice fa pf.length fc, S bd] 24 := by rw [hWb]; exact HFL.out.1.set 2 _
          have hrb4 : Row Wb b4 zeroRp 24 := by rw [hWb]; exact hr4.other hn417
          have hob : Wb.ownsRow (b17 + 1) 35 2 (.slice fa pf.length fc) pf.length (fcells pf) := by rw [hWb]; exact row_own_set HFL.out.2.1 (by omega)
          have hBb : Below W2.heap.size W2 Wb := by rw [hWb]; exact Below.setCell HBW.out (p := ⟨b17, 2, none⟩) (show W2.heap.size ≤ b17 by rw [HB17.out]; exact H4.out.1.size) _
          have hgood : Hid (∀ tmps : Array Value, tmps.getD 4 undef = .pointer (some ⟨b4, 0, none⟩) → tmps.getD 5 undef = .bool cb → tmps.getD 6 undef = .int .i64 ((i : Int) + 4) → tmps.getD 7 undef = .int .i64 0 →
              bodyPost Tryz.prog Tryz.f28 (fun e w' => ReadV RF e w w') .ret { tmps := tmps, defers := [] } (put3p (Wr.setCell ⟨b17, 2, none⟩ (S bd)) b4 (.int .i64 (code : Int)) (.slice fa pf.length fc) (S bd))) := Lib.hid fun tmps h4 h5 h6 h7 => by
            rw [← hWb]
            refine bodyPost_ret (results_rp rfl _ _ b4 _ h4 (put3p_row hrb4 _ _ _) rfl) rfl ?_
            refine ⟨put3p_below (H2.out.2.2.1.trans (hBb.mono H2.out.2.2.1.size)) (Nat.le_of_eq H2.out.2.2.2.symm) _ _ _, ?_⟩
            rw [HP.out]
            obtain ⟨g, hg, _⟩ := flds_at (put3p_own (b := b4) hob (by have := H2.out.1.lt; have := H4.out.1.size; have := HB17.out; omega) (.int .i64 (code : Int)) (.slice fa pf.length fc) (S bd))
            exact ⟨_, g, by rw [h5, h6, h7]; rfl, hg⟩
          have d0 : (Wr.setCell ⟨b17, 2, none⟩ (S bd)).cell? ⟨b17, 0, none⟩ = some (.int .i64 (code : Int)) := by rw [← hWb]; exact cell_of_row _ _ 0 _ 24 (0, 0) hrb
          have d1 : (Wr.setCell ⟨b17, 2, none⟩ (S bd)).cell? ⟨b17, 1, none⟩ = some (.slice fa pf.length fc) := by rw [← hWb]; exact cell_of_row _ _ 1 _ 24 (0, 0) hrb
          have d2 : (Wr.setCell ⟨b17, 2, none⟩ (S bd)).cell? ⟨b17, 2, none⟩ = some (S bd) := by rw [← hWb]; exact cell_of_row _ _ 2 _ 24 (0, 0) hrb
          have y0 : (Wr.setCell ⟨b17, 2, none⟩ (S bd)).cell? ⟨b4, 0, none⟩ = some (.int .i64 0) := by rw [← hWb]; exact cell_of_row _ _ 0 _ 24 (0, 0) hrb4
          have y1 : (Wr.setCell ⟨b17, 2, none⟩ (S bd)).cell? ⟨b4, 1, none⟩ = some (.slice none 0 0) := by rw [← hWb]; exact cell_of_row _ _ 1 _ 24 (0, 0) hrb4
          have y2 : (Wr.setCell ⟨b17, 2, none⟩ (S bd)).cell? ⟨b4, 2, none⟩ = some (.string ⟨#[]⟩) := by rw [← hWb]; exact cell_of_row _ _ 2 _ 24 (0, 0) hrb4
          have z0 : (Wr.setCell ⟨b17, 2, none⟩ (S bd)).frozen? ⟨b4, 0, none⟩ = false := by rw [← hWb]; exact Row.frozen hrb4 0
          have z1 : (Wr.setCell ⟨b17, 2, none⟩ (S bd)).frozen? ⟨b4, 1, none⟩ = false := by rw [← hWb]; exact Row.frozen hrb4 1
          have z2 : (Wr.setCell ⟨b17, 2, none⟩ (S bd)).frozen? ⟨b4, 2, none⟩ = false := by rw [← hWb]; exact Row.frozen hrb4 2
          clear hr4 hn417 hWb hrb hrb4 hob hBb
          go_wp2
          exact hgood.out _ rfl rfl rfl rfl
        | false =>
          obtain rfl : m = pn := by rw [HMM.out]; rfl
          have hw0 : IntKind.i64.wrap ((i : Int) + 4) = (i : Int) + 4 := by rw [IntKind.wrap_i64]; omega
          have hw5 : IntKind.i64.wrap ((i : Int) + 4 + (m : Int)) = (i : Int) + 4 + (m : Int) := by rw [IntKind.wrap_i64]; omega
          by_cases hsh : L < i + 4 + m
          case pos =>
            have g9 : decide ((L : Int) < (i : Int) + 4 + (m : Int)) = true := decide_eq_true (by omega)
            have Hh := Lib.hid hsh
            clear hsh
            have hr4 : Row Wr b4 zeroRp 24 := H2.out.1.below HBW.out H2.out.1.lt
            have hr8 : Row Wr b8 zeroRp 24 := H2.out.2.1.below HBW.out H2.out.2.1.lt
            have x0 : Wr.cell? ⟨b8, 0, none⟩ = some (.int .i64 0) := cell_of_row _ _ 0 _ _ (0, 0) hr8
            have y0 : Wr.cell? ⟨b4, 0, none⟩ = some (.int .i64 0) := cell_of_row _ _ 0 _ _ (0, 0) hr4
            have z0 : Wr.frozen? ⟨b4, 0, none⟩ = false := Row.frozen hr4 0
            have x1 : Wr.cell? ⟨b8, 1, none⟩ = some (.slice none 0 0) := cell_of_row _ _ 1 _ _ (0, 0) hr8
            have y1 : Wr.cell? ⟨b4, 1, none⟩ = some (.slice none 0 0) := cell_of_row _ _ 1 _ _ (0, 0) hr4
            have z1 : Wr.frozen? ⟨b4, 1, none⟩ = false := Row.frozen hr4 1
            have x2 : Wr.cell? ⟨b8, 2, none⟩ = some (.string ⟨#[]⟩) := cell_of_row _ _ 2 _ _ (0, 0) hr8
            have y2 : Wr.cell? ⟨b4, 2, none⟩ = some (.string ⟨#[]⟩) := cell_of_row _ _ 2 _ _ (0, 0) hr4
            have z2 : Wr.frozen? ⟨b4, 2, none⟩ = false := Row.frozen hr4 2
            have HRF : Hid (RF = .short) := Lib.hid (by rw [HRF5.out, ← HL.out, if_pos Hh.out])
            have HBW := Lib.hid (show Below W2.heap.size W2 Wr from HBW.out)
            clear hr4 hr8
            go_wp2
            exact hnone.out Wr 7 _ (.inl ⟨HRF.out, rfl⟩) HBW.out rfl rfl rfl rfl

          have g9 : decide ((L : Int) < (i : Int) + 4 + (m : Int)) = false := decide_eq_false (by omega)
          obtain ⟨bd, hbd⟩ : ∃ bd, bd = (s.drop (i + 4)).take m := ⟨_, rfl⟩
          have HP : Hid (RF = .ok code pf bd (decide (pc = 1)) (i + 4 + m)) := Lib.hid (by rw [HRF5.out, ← HL.out, if_neg hsh, hbd])
          have hslB : ∀ w, (Instr.slice 9 (S s) (some (.int .i64 ((i : Int) + 4))) (some (.int .i64 ((i : Int) + 4 + (m : Int)))) none).run Tryz.prog w = .ok (S bd) w := fun w => by
            have := slice_mid (P := Tryz.prog) Tryz.underlying9 s (i + 4) (i + 4 + m) (by omega) (by have := HL.out; omega) w
            rwa [show i + 4 + m - (i + 4) = m by omega, show ((i + 4 : Nat) : Int) = (i : Int) + 4 by omega, show ((i + 4 + m : Nat) : Int) = (i : Int) + 4 + (m : Int) by omega, ← hbd] at this
          obtain ⟨cb, hcb⟩ : ∃ cb, cb = decide (pc = 1) := ⟨_, rfl⟩
          have g10 : ((pc : Int) == 1) = cb := by rw [hcb]; by_cases h : pc = 1 <;> simp [h] <;> omega
          rw [← hcb] at HP
          clear hbd hcb hsh HRF5
          have hr4 : Row Wr b4 zeroRp 24 := H2.out.1.below HBW.out H2.out.1.lt
          have hn417 : b4 ≠ b17 := by have h1 := H2.out.1.lt; have h2 := H4.out.1.size; have h3 := HB17.out; omega
          have c0 : Wr.cell? ⟨b17, 0, none⟩ = some (.int .i64 (code : Int)) := cell_of_row _ _ 0 _ 24 (0, 0) HFL.out.1
          have c1 : Wr.cell? ⟨b17, 1, none⟩ = some (.slice fa pf.length fc) := cell_of_row _ _ 1 _ 24 (0, 0) HFL.out.1
          have c2 : Wr.cell? ⟨b17, 2, none⟩ = some (S []) := cell_of_row _ _ 2 _ 24 (0, 0) HFL.out.1
          have f2 : Wr.frozen? ⟨b17, 2, none⟩ = false := Row.frozen HFL.out.1 2
          obtain ⟨Wb, hWb⟩ : ∃ W, W = Wr.setCell ⟨b17, 2, none⟩ (S bd) := ⟨_, rfl⟩
          have hrb : Row Wb b17 #[.int .i64 (code : Int), .slice fa pf.length fc, S bd] 24 := by rw [hWb]; exact HFL.out.1.set 2 _
          have hrb4 : Row Wb b4 zeroRp 24 := by rw [hWb]; exact hr4.other hn417
          have hob : Wb.ownsRow (b17 + 1) 35 2 (.slice fa pf.length fc) pf.length (fcells pf) := by rw [hWb]; exact row_own_set HFL.out.2.1 (by omega)
          have hBb : Below W2.heap.size W2 Wb := by rw [hWb]; exact Below.setCell HBW.out (p := ⟨b17, 2, none⟩) (show W2.heap.size ≤ b17 by rw [HB17.out]; exact H4.out.1.size) _
          have hgood : Hid (∀ tmps : Array Value, tmps.getD 4 undef = .pointer (some ⟨b4, 0, none⟩) → tmps.getD 5 undef = .bool cb → tmps.getD 6 undef = .int .i64 ((i : Int) + 4 + (m : Int)) → tmps.getD 7 undef = .int .i64 0 →
              bodyPost Tryz.prog Tryz.f28 (fun e w' => ReadV RF e w w') .ret { tmps := tmps, defers := [] } (put3p (Wr.setCell ⟨b17, 2, none⟩ (S bd)) b4 (.int .i64 (code : Int)) (.slice fa pf.length fc) (S bd))) := Lib.hid fun tmps h4 h5 h6 h7 => by
            rw [← hWb]
            refine bodyPost_ret (results_rp rfl _ _ b4 _ h4 (put3p_row hrb4 _ _ _) rfl) rfl ?_
            refine ⟨put3p_below (H2.out.2.2.1.trans (hBb.mono H2.out.2.2.1.size)) (Nat.le_of_eq H2.out.2.2.2.symm) _ _ _, ?_⟩
            rw [HP.out]
            obtain ⟨g, hg, _⟩ := flds_at (put3p_own (b := b4) hob (by have := H2.out.1.lt; have := H4.out.1.size; have := HB17.out; omega) (.int .i64 (code : Int)) (.slice fa pf.length fc) (S bd))
            exact ⟨_, g, by rw [h5, h6, h7]; rfl, hg⟩
          have d0 : (Wr.setCell ⟨b17, 2, none⟩ (S bd)).cell? ⟨b17, 0, none⟩ = some (.int .i64 (code : Int)) := by rw [← hWb]; exact cell_of_row _ _ 0 _ 24 (0, 0) hrb
          have d1 : (Wr.setCell ⟨b17, 2, none⟩ (S bd)).cell? ⟨b17, 1, none⟩ = some (.slice fa pf.length fc) := by rw [← hWb]; exact cell_of_row _ _ 1 _ 24 (0, 0) hrb
          have d2 : (Wr.setCell ⟨b17, 2, none⟩ (S bd)).cell? ⟨b17, 2, none⟩ = some (S bd) := by rw [← hWb]; exact cell_of_row _ _ 2 _ 24 (0, 0) hrb
          have y0 : (Wr.setCell ⟨b17, 2, none⟩ (S bd)).cell? ⟨b4, 0, none⟩ = some (.int .i64 0) := by rw [← hWb]; exact cell_of_row _ _ 0 _ 24 (0, 0) hrb4
          have y1 : (Wr.setCell ⟨b17, 2, none⟩ (S bd)).cell? ⟨b4, 1, none⟩ = some (.slice none 0 0) := by rw [← hWb]; exact cell_of_row _ _ 1 _ 24 (0, 0) hrb4
          have y2 : (Wr.setCell ⟨b17, 2, none⟩ (S bd)).cell? ⟨b4, 2, none⟩ = some (.string ⟨#[]⟩) := by rw [← hWb]; exact cell_of_row _ _ 2 _ 24 (0, 0) hrb4
          have z0 : (Wr.setCell ⟨b17, 2, none⟩ (S bd)).frozen? ⟨b4, 0, none⟩ = false := by rw [← hWb]; exact Row.frozen hrb4 0
          have z1 : (Wr.setCell ⟨b17, 2, none⟩ (S bd)).frozen? ⟨b4, 1, none⟩ = false := by rw [← hWb]; exact Row.frozen hrb4 1
          have z2 : (Wr.setCell ⟨b17, 2, none⟩ (S bd)).frozen? ⟨b4, 2, none⟩ = false := by rw [← hWb]; exact Row.frozen hrb4 2
          clear hr4 hn417 hWb hrb hrb4 hob hBb
          go_wp2
          exact hgood.out _ rfl rfl rfl rfl
end Go.Proofs.YtfdbmbgpcioogaaGreatDoor
/- The law's example and awake (stage 10) walked. (mkph.py writes it.) -/
namespace Go.Proofs.YtfdbmbgpcioogaaGreatDoor
open Go.RowKit
attribute [local go_sem] store_one S_match S_store eguard_BN nguard_BN

/-- One result, a reply in a box. -/
theorem results_rp1 {fn : Func} {p : Tmp} (h : fn.results = #[.cell p 24]) (tmps : Array Value) (w : World) (g : Nat) (cs : Array Value)
    (hp : tmps.getD p undef = .pointer (some ⟨g, 0, none⟩)) (hg : Row w g cs 24) (h3 : cs.size = 3) :
    (results fn tmps).run Tryz.prog w = .ok (.agg cs) w := by
  have hp' : tmps[p]?.getD undef = .pointer (some ⟨g, 0, none⟩) := by simpa using hp
  simp [results, h, hp', asAddr, run_loadVar_row w g 24 24 cs (0, 0) _ hg Tryz.underlying24 rfl (by rw [infoP, h3])]
/-- Fields in a block of their own. -/
theorem fa_row {W : World} {g : Nat} {fs : List Fld} {c : Nat} (h : Row W g (fcells fs).toArray 35) : FA W (.slice (some ⟨g, 0, none⟩) fs.length c) fs g 0 := by
  refine ⟨fun T w' => by simp [Builtin.len_, run_underlying Tryz.underlying22, Result.andThen, goInt], fun i hi w' => ?_, fun i f hf => ?_, ⟨_, _, rfl⟩⟩
  · rw [Nat.zero_add]
    have := run_index_at (P := Tryz.prog) Tryz.underlying22 (fun w => Tryz.sizeOf35 w) g 0 fs.length c i hi w'
    rwa [Nat.zero_add] at this
  · obtain ⟨h1, h2⟩ := fcells_get fs i f hf
    rw [Nat.zero_add]
    exact ⟨by rw [cell_of_row W g _ _ _ (0, 0) h, List.getElem?_toArray]; exact h1, by rw [cell_of_row W g _ _ _ (0, 0) h, List.getElem?_toArray]; exact h2⟩
def exF : List Fld := [([65], [98])]
set_option maxRecDepth 100000 in
set_option maxHeartbeats 400000 in
theorem example_any (w : World) : Calls Tryz.prog 14 #[] w fun e w' => ∃ g, e = .returned (.agg (rpC 200 (.slice (some ⟨g, 0, none⟩) 1 1) [104, 105])) ∧ FA w' (.slice (some ⟨g, 0, none⟩) 1 1) exF g 0 ∧ Below w.heap.size w w' := by
  have hend : Hid (∀ tmps : Array Value, tmps.getD 0 undef = .pointer (some ⟨w.heap.size, 0, none⟩) → bodyPost Tryz.prog Tryz.f14 (fun e w' => ∃ g, e = .returned (.agg (rpC 200 (.slice (some ⟨g, 0, none⟩) 1 1) [104, 105])) ∧ FA w' (.slice (some ⟨g, 0, none⟩) 1 1) exF g 0 ∧ Below w.heap.size w w')
      .ret { tmps := tmps, defers := [] } ((w.alloc (.cells #[.int .i64 200, .slice (some ⟨w.heap.size + 1, 0, none⟩) 1 1, .string ⟨#[104, 105]⟩] 24)).alloc (.cells #[.string ⟨#[65]⟩, .string ⟨#[98]⟩] 35))) := Lib.hid fun tmps h0 => by
    have hr1 := (row_new w #[.int .i64 200, .slice (some ⟨w.heap.size + 1, 0, none⟩) 1 1, .string ⟨#[104, 105]⟩] 24).alloc (.cells #[.string ⟨#[65]⟩, .string ⟨#[98]⟩] 35)
    have hr2 := row_new (w.alloc (.cells #[.int .i64 200, .slice (some ⟨w.heap.size + 1, 0, none⟩) 1 1, .string ⟨#[104, 105]⟩] 24)) #[.string ⟨#[65]⟩, .string ⟨#[98]⟩] 35
    rw [alloc_size] at hr2
    refine bodyPost_ret (results_rp1 rfl _ _ w.heap.size _ h0 hr1 rfl) rfl ?_
    exact ⟨w.heap.size + 1, rfl, fa_row (fs := exF) hr2, ((Below.refl _ w).alloc (Nat.le_refl _) _).alloc (by simp) _⟩
  go_enter Tryz.func14, Tryz.ntmps14
  go_wp2
  exact hend.out _ rfl
def exL : List UInt8 := [72, 84, 84, 80, 47, 49, 46, 49, 32, 50, 48, 48, 32, 79, 75, 13, 10, 65, 58, 32, 98, 13, 10, 67, 111, 110, 116, 101, 110, 116, 45, 76, 101, 110, 103, 116, 104, 58, 32, 50, 13, 10, 67, 111, 110, 110, 101, 99, 116, 105, 111, 110, 58, 32, 99, 108, 111, 115, 101, 13, 10, 13, 10, 104, 105]
theorem ex_may : mayB 200 exF [104, 105] true = true := by decide
theorem ex_right : rightB 200 exF [104, 105] = true := by decide
theorem ex_bytes : bytesO 200 exF [104, 105] false true = some exL := by
  have h1 : Lib.decDigits (200 : Int).toNat = [50, 48, 48] := (dec3 (by decide) (by decide)).trans (by decide)
  have h2 : Lib.decDigits 2 = [50] := by rw [Lib.decDigits, dif_pos (by omega)]; rfl
  unfold bytesO
  rw [if_pos ex_may]
  unfold bytesB headB lnsR moreL lenF stL
  rw [h1]
  show some (joinE (_ :: List.map fieldL (exF ++ ((if nobB 200 = true then [] else [([67, 111, 110, 116, 101, 110, 116, 45, 76, 101, 110, 103, 116, 104], Lib.decDigits 2)]) ++ _))) ++ _ ++ _) = _
  rw [h2]; rfl
theorem ex_read (behind : List UInt8) : readF (exL ++ behind) false = .ok 200 exF [104, 105] true exL.length := by
  have h := read_bytes (head := false) (close := true) (right_iff.1 ex_right) (by decide) behind
  have e : bytesB 200 exF [104, 105] false true = exL := by
    have := ex_bytes
    unfold bytesO at this
    rw [if_pos ex_may] at this
    exact Option.some.inj this
  rw [e] at h; exact h
set_option maxRecDepth 100000 in
set_option maxHeartbeats 2000000 in
theorem awake10_any {w : World} (C : ReplyI w) : Calls Tryz.prog 5 #[] w fun e w' => e = .returned (.bool true) ∧ Below w.heap.size w w' := by
  have HC := Lib.hid C
  clear C
  obtain ⟨X, hX⟩ : ∃ X, X = exL := ⟨_, rfl⟩
  obtain ⟨N, hN⟩ : ∃ N, N = exL.length := ⟨_, rfl⟩
  have HX := Lib.hid (And.intro hX hN)
  have hNl : N ≤ 100 := by rw [hN]; decide
  have hlX := run_len_S (P := Tryz.prog) Tryz.underlying9 3 X
  rw [show X.length = N by rw [hX, hN]] at hlX
  have y1 : binOp .add 9 (S X) (.string ⟨#[98, 101, 104, 105, 110, 100]⟩) = pure (S (X ++ [98, 101, 104, 105, 110, 100])) := S_add 9 X [98, 101, 104, 105, 110, 100] (by rw [hX]; decide)
  obtain ⟨Y, hY⟩ : ∃ Y, Y = X ++ [98, 101, 104, 105, 110, 100] := ⟨_, rfl⟩
  rw [← hY] at y1
  have HY : Hid (readF Y false = .ok 200 exF [104, 105] true N ∧ Y.length ≤ 1000) := Lib.hid ⟨by rw [hY, hX, hN]; exact ex_read _, by rw [hY, hX]; decide⟩
  have eX : binOp .eql 9 (S X) (.string ⟨#[72, 84, 84, 80, 47, 49, 46, 49, 32, 50, 48, 48, 32, 79, 75, 13, 10, 65, 58, 32, 98, 13, 10, 67, 111, 110, 116, 101, 110, 116, 45, 76, 101, 110, 103, 116, 104, 58, 32, 50, 13, 10, 67, 111, 110, 110, 101, 99, 116, 105, 111, 110, 58, 32, 99, 108, 111, 115, 101, 13, 10, 13, 10, 104, 105]⟩) = pure (.bool true) := by rw [hX]; exact (eql_S 9 exL [72, 84, 84, 80, 47, 49, 46, 49, 32, 50, 48, 48, 32, 79, 75, 13, 10, 65, 58, 32, 98, 13, 10, 67, 111, 110, 116, 101, 110, 116, 45, 76, 101, 110, 103, 116, 104, 58, 32, 50, 13, 10, 67, 111, 110, 110, 101, 99, 116, 105, 111, 110, 58, 32, 99, 108, 111, 115, 101, 13, 10, 13, 10, 104, 105]).trans (by rw [show (exL == [72, 84, 84, 80, 47, 49, 46, 49, 32, 50, 48, 48, 32, 79, 75, 13, 10, 65, 58, 32, 98, 13, 10, 67, 111, 110, 116, 101, 110, 116, 45, 76, 101, 110, 103, 116, 104, 58, 32, 50, 13, 10, 67, 111, 110, 110, 101, 99, 116, 105, 111, 110, 58, 32, 99, 108, 111, 115, 101, 13, 10, 13, 10, 104, 105]) = true from by decide])
  have gX : ∀ x y, eqGuard .eql 9 x y (S X) (.string ⟨#[72, 84, 84, 80, 47, 49, 46, 49, 32, 50, 48, 48, 32, 79, 75, 13, 10, 65, 58, 32, 98, 13, 10, 67, 111, 110, 116, 101, 110, 116, 45, 76, 101, 110, 103, 116, 104, 58, 32, 50, 13, 10, 67, 111, 110, 110, 101, 99, 116, 105, 111, 110, 58, 32, 99, 108, 111, 115, 101, 13, 10, 13, 10, 104, 105]⟩) = pure () := fun x y => guard_S 9 x y X [72, 84, 84, 80, 47, 49, 46, 49, 32, 50, 48, 48, 32, 79, 75, 13, 10, 65, 58, 32, 98, 13, 10, 67, 111, 110, 116, 101, 110, 116, 45, 76, 101, 110, 103, 116, 104, 58, 32, 50, 13, 10, 67, 111, 110, 110, 101, 99, 116, 105, 111, 110, 58, 32, 99, 108, 111, 115, 101, 13, 10, 13, 10, 104, 105]
  clear hX hN hY
  go_enter Tryz.func5, Tryz.ntmps5
  go_wp2_with fail
  refine (example_any w).mono ?_
  rintro e W1 ⟨g1, rfl, hA1, hB1⟩
  have H1 := Lib.hid (And.intro hA1 hB1)
  clear hA1 hB1
  go_wp2_with fail
  refine (HC.out.bytes 200 exF [104, 105] false true _ g1 0 W1 H1.out.2 H1.out.1 (by decide)).mono ?_
  rintro e W2 ⟨rfl, hB2⟩
  rw [ex_bytes, ← HX.out.1]
  unfold bytesV
  dsimp only
  have H2 := Lib.hid (H1.out.2.trans (hB2.mono H1.out.2.size))
  clear hB2 H1
  go_wp2_with fail
  refine (HC.out.read Y false W2 H2.out (by have := HY.out.2; omega)).mono ?_
  rintro e W3 ⟨hB3, hv⟩
  rw [HY.out.1] at hv
  obtain ⟨V, g3, rfl, hf⟩ := hv
  obtain ⟨fa, fc, hV⟩ := hf.form
  rw [show exF.length = 1 from rfl] at hV
  subst hV
  have hB23 := H2.out.trans (hB3.mono H2.out.size)
  obtain ⟨b3, hb3⟩ : ∃ b, b = W3.heap.size := ⟨_, rfl⟩
  obtain ⟨W4, hW4⟩ : ∃ W, W = W3.alloc (.cells #[.int .i64 ((200 : Nat) : Int), .slice fa 1 fc, S [104, 105]] 24) := ⟨_, rfl⟩
  have hB4 : Below w.heap.size w W4 := by rw [hW4]; exact hB23.alloc hB23.size _
  have H4 := Lib.hid (And.intro hB4 (And.intro (show FldsAt W4 (.slice fa 1 fc) exF g3 by rw [hW4]; exact hf.below ((Below.refl _ W3).alloc (Nat.le_refl _) _)) (show Row W4 b3 #[.int .i64 ((200 : Nat) : Int), .slice fa 1 fc, S [104, 105]] 24 by rw [hW4, hb3]; exact row_new _ _ _)))
  have hW4' : W4 = W3.alloc (.cells #[.int .i64 200, .slice fa 1 fc, S [104, 105]] 24) := hW4
  unfold rpC
  rw [show ((200 : Nat) : Int) = 200 from rfl]
  clear hB3 hf hB23 hB4 hW4 H2
  go_wp2
  rw [← hW4', ← hb3]
  clear hW4' hb3
  obtain ⟨Wq, hWq⟩ : ∃ Wq, Wq = W4.drew := ⟨_, rfl⟩
  have hBq : Below W4.heap.size W4 Wq := by rw [hWq]; exact ⟨rfl, rfl, rfl, Nat.le_refl _, fun _ _ => rfl⟩
  have hSr : ∀ W, Below W4.heap.size W4 W → W.cell? ⟨b3, 0, none⟩ = some (.int .i64 200) ∧ W.cell? ⟨b3, 1, none⟩ = some (.slice fa 1 fc) ∧ W.cell? ⟨b3, 2, none⟩ = some (S [104, 105]) := fun W hW => by
    have hr := H4.out.2.2.below hW H4.out.2.2.lt
    exact ⟨cell_of_row W _ 0 _ _ (0, 0) hr, cell_of_row W _ 1 _ _ (0, 0) hr, cell_of_row W _ 2 _ _ (0, 0) hr⟩
  have HSR := Lib.hid hSr
  have hSQ := hSr Wq hBq
  have HQ := Lib.hid hBq
  clear hBq hSr
  refine wp_region_noPanic ?_
  refine wp_region_held_drew (S := fun W => W.cell? ⟨b3, 0, none⟩ = some (.int .i64 200) ∧ W.cell? ⟨b3, 1, none⟩ = some (.slice fa 1 fc) ∧ W.cell? ⟨b3, 2, none⟩ = some (S [104, 105])) (by kernel_rfl) (by rw [← hWq]; exact hSQ) (fun _ => ?_)
  rw [← hWq]
  clear hWq
  refine take_at (i := 0) (d := some 20) (v := .int .i64 0) rfl (by kernel_rfl) (by kernel_rfl) (by kernel_rfl) (fun _ _ _ h => h) (fun oi ho => ?_) hSQ ?_
  · obtain rfl := Option.some.inj ho
    exact Or.inl ⟨by rfl, fun wx hSw => by go_simp⟩
  simp only [Act.put, List.setIfInBounds_toArray, List.set_cons_zero, List.set_cons_succ]
  refine take_at (i := 1) (d := some 21) (v := .bool true) rfl (by kernel_rfl) (by kernel_rfl) (by kernel_rfl) (fun _ _ _ h => h) (fun oi ho => ?_) hSQ ?_
  · obtain rfl := Option.some.inj ho
    exact Or.inl ⟨by rfl, fun wx hSw => by go_simp⟩
  simp only [Act.put, List.setIfInBounds_toArray, List.set_cons_zero, List.set_cons_succ]
  refine take_at (i := 2) (d := some 22) (v := .bool true) rfl (by kernel_rfl) (by kernel_rfl) (by kernel_rfl) (fun _ _ _ h => h) (fun oi ho => ?_) hSQ ?_
  · obtain rfl := Option.some.inj ho
    exact Or.inl ⟨by rfl, fun wx hSw => by go_simp⟩
  simp only [Act.put, List.setIfInBounds_toArray, List.set_cons_zero, List.set_cons_succ]
  refine take_at (i := 3) (d := some 23) (v := .int .i64 0) rfl (by kernel_rfl) (by kernel_rfl) (by kernel_rfl) (fun _ _ _ h => h) (fun oi ho => ?_) hSQ ?_
  · obtain rfl := Option.some.inj ho
    exact Or.inl ⟨by rfl, fun wx hSw => by go_simp⟩
  simp only [Act.put, List.setIfInBounds_toArray, List.set_cons_zero, List.set_cons_succ]
  refine take_at (i := 4) (d := some 24) (v := .bool true) rfl (by kernel_rfl) (by kernel_rfl) (by kernel_rfl) (fun _ _ _ h => h) (fun oi ho => ?_) hSQ ?_
  · obtain rfl := Option.some.inj ho
    exact Or.inl ⟨by rfl, fun wx hSw => by go_simp⟩
  simp only [Act.put, List.setIfInBounds_toArray, List.set_cons_zero, List.set_cons_succ]
  refine take_at (i := 5) (d := some 25) (v := .bool true) rfl (by kernel_rfl) (by kernel_rfl) (by kernel_rfl) (fun _ _ _ h => h) (fun oi ho => ?_) hSQ ?_
  · obtain rfl := Option.some.inj ho
    exact Or.inl ⟨by rfl, fun wx hSw => by go_simp⟩
  simp only [Act.put, List.setIfInBounds_toArray, List.set_cons_zero, List.set_cons_succ]
  refine take_at (i := 6) (d := some 26) (v := .bool true) rfl (by kernel_rfl) (by kernel_rfl) (by kernel_rfl) (fun _ _ _ h => h) (fun oi ho => ?_) hSQ ?_
  · obtain rfl := Option.some.inj ho
    exact Or.inl ⟨by rfl, fun wx hSw => by go_simp⟩
  simp only [Act.put, List.setIfInBounds_toArray, List.set_cons_zero, List.set_cons_succ]
  refine take_at (i := 7) (d := some 27) (v := S X) rfl (by kernel_rfl) (by kernel_rfl) (by kernel_rfl) (fun _ _ _ h => h) (fun oi ho => ?_) hSQ ?_
  · obtain rfl := Option.some.inj ho
    exact Or.inl ⟨by rfl, fun wx hSw => by go_simp⟩
  simp only [Act.put, List.setIfInBounds_toArray, List.set_cons_zero, List.set_cons_succ]
  refine take_at (i := 8) (d := some 28) (v := .bool true) rfl (by kernel_rfl) (by kernel_rfl) (by kernel_rfl) (fun _ _ _ h => h) (fun oi ho => ?_) hSQ ?_
  · obtain rfl := Option.some.inj ho
    exact Or.inl ⟨by rfl, fun wx hSw => by go_simp⟩
  simp only [Act.put, List.setIfInBounds_toArray, List.set_cons_zero, List.set_cons_succ]
  refine take_at (i := 9) (d := some 29) (v := .bool true) rfl (by kernel_rfl) (by kernel_rfl) (by kernel_rfl) (fun _ _ _ h => h) (fun oi ho => ?_) hSQ ?_
  · obtain rfl := Option.some.inj ho
    exact Or.inl ⟨by rfl, fun wx hSw => by go_simp⟩
  simp only [Act.put, List.setIfInBounds_toArray, List.set_cons_zero, List.set_cons_succ]
  refine take_at (i := 10) (d := some 30) (v := .bool true) rfl (by kernel_rfl) (by kernel_rfl) (by kernel_rfl) (fun _ _ _ h => h) (fun oi ho => ?_) hSQ ?_
  · obtain rfl := Option.some.inj ho
    exact Or.inl ⟨by rfl, fun wx hSw => by go_simp⟩
  simp only [Act.put, List.setIfInBounds_toArray, List.set_cons_zero, List.set_cons_succ]
  refine take_at (i := 11) (d := some 31) (v := .bool true) rfl (by kernel_rfl) (by kernel_rfl) (by kernel_rfl) (fun _ _ _ h => h) (fun oi ho => ?_) hSQ ?_
  · obtain rfl := Option.some.inj ho
    exact Or.inl ⟨by rfl, fun wx hSw => by go_simp⟩
  simp only [Act.put, List.setIfInBounds_toArray, List.set_cons_zero, List.set_cons_succ]
  refine take_at (i := 12) (d := some 32) (v := .bool true) rfl (by kernel_rfl) (by kernel_rfl) (by kernel_rfl) (fun _ _ _ h => h) (fun oi ho => ?_) hSQ ?_
  · obtain rfl := Option.some.inj ho
    exact Or.inl ⟨by rfl, fun wx hSw => by go_simp⟩
  simp only [Act.put, List.setIfInBounds_toArray, List.set_cons_zero, List.set_cons_succ]
  refine take_at (i := 13) (d := some 33) (v := .bool true) rfl (by kernel_rfl) (by kernel_rfl) (by kernel_rfl) (fun _ _ _ h => h) (fun oi ho => ?_) hSQ ?_
  · obtain rfl := Option.some.inj ho
    exact Or.inl ⟨by rfl, fun wx hSw => by go_simp⟩
  simp only [Act.put, List.setIfInBounds_toArray, List.set_cons_zero, List.set_cons_succ]
  refine take_at (i := 14) (d := some 34) (v := .int .i64 (N : Int)) rfl (by kernel_rfl) (by kernel_rfl) (by kernel_rfl) (fun _ _ _ h => h) (fun oi ho => ?_) hSQ ?_
  · obtain rfl := Option.some.inj ho
    exact Or.inl ⟨by rfl, fun wx hSw => by go_simp⟩
  simp only [Act.put, List.setIfInBounds_toArray, List.set_cons_zero, List.set_cons_succ]
  refine take_at (i := 15) (d := some 35) (v := S X) rfl (by kernel_rfl) (by kernel_rfl) (by kernel_rfl) (fun _ _ _ h => h) (fun oi ho => ?_) hSQ ?_
  · obtain rfl := Option.some.inj ho
    exact Or.inl ⟨by rfl, fun wx hSw => by go_simp⟩
  simp only [Act.put, List.setIfInBounds_toArray, List.set_cons_zero, List.set_cons_succ]
  refine take_at (i := 16) (d := some 36) (v := .int .i64 (N : Int)) rfl (by kernel_rfl) (by kernel_rfl) (by kernel_rfl) (fun _ _ _ h => h) (fun oi ho => ?_) hSQ ?_
  · obtain rfl := Option.some.inj ho
    exact Or.inl ⟨by rfl, fun wx hSw => by go_simp⟩
  simp only [Act.put, List.setIfInBounds_toArray, List.set_cons_zero, List.set_cons_succ]
  refine take_at (i := 17) (d := some 37) (v := .bool true) rfl (by kernel_rfl) (by kernel_rfl) (by kernel_rfl) (fun _ _ _ h => h) (fun oi ho => ?_) hSQ ?_
  · obtain rfl := Option.some.inj ho
    exact Or.inl ⟨by rfl, fun wx hSw => by go_simp⟩
  simp only [Act.put, List.setIfInBounds_toArray, List.set_cons_zero, List.set_cons_succ]
  refine take_at (i := 18) (d := some 38) (v := .bool true) rfl (by kernel_rfl) (by kernel_rfl) (by kernel_rfl) (fun _ _ _ h => h) (fun oi ho => ?_) hSQ ?_
  · obtain rfl := Option.some.inj ho
    exact Or.inl ⟨by rfl, fun wx hSw => by go_simp⟩
  simp only [Act.put, List.setIfInBounds_toArray, List.set_cons_zero, List.set_cons_succ]
  refine take_at (i := 19) (d := some 39) (v := .bool true) rfl (by kernel_rfl) (by kernel_rfl) (by kernel_rfl) (fun _ _ _ h => h) (fun oi ho => ?_) hSQ ?_
  · obtain rfl := Option.some.inj ho
    exact Or.inl ⟨by rfl, fun wx hSw => by go_simp⟩
  simp only [Act.put, List.setIfInBounds_toArray, List.set_cons_zero, List.set_cons_succ]
  refine take_at (i := 20) (d := some 40) (v := .agg #[.int .i64 200, .slice fa 1 fc, S [104, 105]]) rfl (by kernel_rfl) (by kernel_rfl) (by kernel_rfl) (fun _ _ _ h => h) (fun oi ho => ?_) hSQ ?_
  · obtain rfl := Option.some.inj ho
    exact Or.inl ⟨by rfl, fun wx hSw => by obtain ⟨x0, x1, x2⟩ := hSw; go_simp⟩
  simp only [Act.put, List.setIfInBounds_toArray, List.set_cons_zero, List.set_cons_succ]
  refine ready_call (i := 21) (d := some 41) (f := 14) (args := #[]) rfl (by kernel_rfl) (fun oi ho => ?_) ?_
  · obtain rfl := Option.some.inj ho
    exact ⟨by rfl, by go_simp⟩
  refine (example_any Wq).mono ?_
  rintro e W5 ⟨g5, rfl, hA5, hB⟩
  have HQ5 := Lib.hid (HQ.out.trans (hB.mono HQ.out.size))
  have HA5 := Lib.hid hA5
  have hSQ5 := HSR.out W5 HQ5.out
  clear hSQ hB hA5 HQ
  refine ⟨_, rfl, hSQ5, ?_⟩
  simp only [Act.put, List.setIfInBounds_toArray, List.set_cons_zero, List.set_cons_succ]
  refine ready_call (i := 22) (d := some 42) (f := 16) (args := #[.agg #[.int .i64 200, .slice fa 1 fc, S [104, 105]], .agg (rpC 200 (.slice (some ⟨g5, 0, none⟩) 1 1) [104, 105])]) rfl (by kernel_rfl) (fun oi ho => ?_) ?_
  · obtain rfl := Option.some.inj ho
    exact ⟨by rfl, by go_simp⟩
  refine (dsame10_true 200 [104, 105] exF (.slice fa 1 fc) (.slice (some ⟨g5, 0, none⟩) 1 1) g3 0 g5 0 (by decide) W5 (H4.out.2.1.below HQ5.out).fa HA5.out).mono ?_
  rintro e W6 ⟨rfl, hB⟩
  have HQ6 := Lib.hid (HQ5.out.trans (hB.mono HQ5.out.size))
  have hSQ6 := HSR.out W6 HQ6.out
  clear hSQ5 hB HQ5 HA5
  refine ⟨_, rfl, hSQ6, ?_⟩
  simp only [Act.put, List.setIfInBounds_toArray, List.set_cons_zero, List.set_cons_succ]
  refine take_at (i := 23) (d := some 43) (v := .bool true) rfl (by kernel_rfl) (by kernel_rfl) (by kernel_rfl) (fun _ _ _ h => h) (fun oi ho => ?_) hSQ6 ?_
  · obtain rfl := Option.some.inj ho
    exact Or.inl ⟨by rfl, fun wx hSw => by go_simp⟩
  simp only [Act.put, List.setIfInBounds_toArray, List.set_cons_zero, List.set_cons_succ]
  refine take_at (i := 24) (d := some 44) (v := .bool true) rfl (by kernel_rfl) (by kernel_rfl) (by kernel_rfl) (fun _ _ _ h => h) (fun oi ho => ?_) hSQ6 ?_
  · obtain rfl := Option.some.inj ho
    exact Or.inl ⟨by rfl, fun wx hSw => by go_simp⟩
  simp only [Act.put, List.setIfInBounds_toArray, List.set_cons_zero, List.set_cons_succ]
  refine ready_call (i := 25) (d := some 45) (f := 14) (args := #[]) rfl (by kernel_rfl) (fun oi ho => ?_) ?_
  · obtain rfl := Option.some.inj ho
    exact ⟨by rfl, by go_simp⟩
  refine (example_any W6).mono ?_
  rintro e W7 ⟨g7, rfl, hA7, hB⟩
  have HQ7 := Lib.hid (HQ6.out.trans (hB.mono HQ6.out.size))
  have HA7 := Lib.hid hA7
  have hSQ7 := HSR.out W7 HQ7.out
  clear hSQ6 hB hA7 HQ6
  refine ⟨_, rfl, hSQ7, ?_⟩
  simp only [Act.put, List.setIfInBounds_toArray, List.set_cons_zero, List.set_cons_succ]
  refine ready_call (i := 26) (d := some 46) (f := 9) (args := #[.agg (rpC 200 (.slice (some ⟨g7, 0, none⟩) 1 1) [104, 105])]) rfl (by kernel_rfl) (fun oi ho => ?_) ?_
  · obtain rfl := Option.some.inj ho
    exact ⟨by rfl, by go_simp⟩
  refine (HC.out.right 200 exF [104, 105] _ g7 0 W7 (H4.out.1.trans (HQ7.out.mono H4.out.1.size)) HA7.out (by decide)).mono ?_
  rintro e W8 ⟨rfl, hB⟩
  rw [ex_right]
  have HQ8 := Lib.hid (HQ7.out.trans (hB.mono HQ7.out.size))
  have hSQ8 := HSR.out W8 HQ8.out
  clear hSQ7 hB HQ7 HA7
  refine ⟨_, rfl, hSQ8, ?_⟩
  simp only [Act.put, List.setIfInBounds_toArray, List.set_cons_zero, List.set_cons_succ]
  refine take_at (i := 27) (d := some 47) (v := .bool true) rfl (by kernel_rfl) (by kernel_rfl) (by kernel_rfl) (fun _ _ _ h => h) (fun oi ho => ?_) hSQ8 ?_
  · obtain rfl := Option.some.inj ho
    exact Or.inl ⟨by rfl, fun wx hSw => by go_simp⟩
  simp only [Act.put, List.setIfInBounds_toArray, List.set_cons_zero, List.set_cons_succ]
  refine take_at (i := 28) (d := some 48) (v := .bool true) rfl (by kernel_rfl) (by kernel_rfl) (by kernel_rfl) (fun _ _ _ h => h) (fun oi ho => ?_) hSQ8 ?_
  · obtain rfl := Option.some.inj ho
    exact Or.inl ⟨by rfl, fun wx hSw => by go_simp⟩
  simp only [Act.put, List.setIfInBounds_toArray, List.set_cons_zero, List.set_cons_succ]
  refine ready_call (i := 29) (d := some 49) (f := 11) (args := #[.int .i64 404]) rfl (by kernel_rfl) (fun oi ho => ?_) ?_
  · obtain rfl := Option.some.inj ho
    exact ⟨by rfl, by go_simp⟩
  refine (HC.out.reason 404 W8 (H4.out.1.trans (HQ8.out.mono H4.out.1.size))).mono ?_
  rintro e W9 ⟨rfl, hB⟩
  have HQ9 := Lib.hid (HQ8.out.trans (hB.mono HQ8.out.size))
  have hSQ9 := HSR.out W9 HQ9.out
  have eR : binOp .eql 9 (S (rsnF 404)) (.string ⟨#[78, 111, 116, 32, 70, 111, 117, 110, 100]⟩) = pure (.bool true) := (eql_S 9 (rsnF 404) [78, 111, 116, 32, 70, 111, 117, 110, 100]).trans (by rw [show (rsnF 404 == [78, 111, 116, 32, 70, 111, 117, 110, 100]) = true from by decide])
  have gR : ∀ x y, eqGuard .eql 9 x y (S (rsnF 404)) (.string ⟨#[78, 111, 116, 32, 70, 111, 117, 110, 100]⟩) = pure () := fun x y => guard_S 9 x y _ [78, 111, 116, 32, 70, 111, 117, 110, 100]
  clear hSQ8 hB HQ8
  refine ⟨_, rfl, hSQ9, ?_⟩
  simp only [Act.put, List.setIfInBounds_toArray, List.set_cons_zero, List.set_cons_succ]
  refine take_at (i := 30) (d := some 50) (v := .bool true) rfl (by kernel_rfl) (by kernel_rfl) (by kernel_rfl) (fun _ _ _ h => h) (fun oi ho => ?_) hSQ9 ?_
  · obtain rfl := Option.some.inj ho
    exact Or.inl ⟨by rfl, fun wx hSw => by go_simp⟩
  simp only [Act.put, List.setIfInBounds_toArray, List.set_cons_zero, List.set_cons_succ]
  refine take_at (i := 31) (d := some 51) (v := .bool true) rfl (by kernel_rfl) (by kernel_rfl) (by kernel_rfl) (fun _ _ _ h => h) (fun oi ho => ?_) hSQ9 ?_
  · obtain rfl := Option.some.inj ho
    exact Or.inl ⟨by rfl, fun wx hSw => by go_simp⟩
  simp only [Act.put, List.setIfInBounds_toArray, List.set_cons_zero, List.set_cons_succ]
  refine take_at (i := 32) (d := some 0) (v := .bool true) rfl (by kernel_rfl) (by kernel_rfl) (by kernel_rfl) (fun _ _ _ h => h) (fun oi ho => ?_) hSQ9 ?_
  · obtain rfl := Option.some.inj ho
    exact Or.inl ⟨by rfl, fun wx hSw => by go_simp⟩
  simp only [Act.put, List.setIfInBounds_toArray, List.set_cons_zero]
  refine wpAnyH_done (by kernel_rfl) ?_ _
  refine NoPanic.normal ?_
  have HE := Lib.hid (H4.out.1.trans (HQ9.out.mono H4.out.1.size))
  clear hSQ9
  go_wp2
  go_ret
  exact ⟨rfl, HE.out⟩
end Go.Proofs.YtfdbmbgpcioogaaGreatDoor
