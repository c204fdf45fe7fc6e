/- The document's Status walked. -/
import Derived.Test.YtemlbegafkmgbaaDoorLd
import Derived.Test.YtemlbegafkmgbaaDoorGen3
namespace Go.Proofs.YtemlbegafkmgbaaDoor
open Go.RowKit
attribute [local go_sem] store_one S_match S_store eguard_BN nguard_BN

theorem B_lssN (t : TypeId) (x : UInt8) (k : Int) : binOp .lss t (B x) (.int .u8 k) = pure (.bool (decide ((x.toNat : Int) < k))) := rfl
theorem B_gtrN (t : TypeId) (x : UInt8) (k : Int) : binOp .gtr t (B x) (.int .u8 k) = pure (.bool (decide (k < (x.toNat : Int)))) := rfl
theorem status_eq {p r : List UInt8} {a b c d : UInt8} (h : p.length = 9) : statusF (p ++ (a :: b :: c :: d :: r)) =
    if p = httpS ∧ d = 32 ∧ digB a = true ∧ digB b = true ∧ digB c = true ∧ 49 ≤ a.toNat ∧ a.toNat ≤ 53 ∧ r.any badB = false then (codeN a b c, r, true) else (0, [], false) := by
  have hd : (p ++ (a :: b :: c :: d :: r)).drop 9 = a :: b :: c :: d :: r := by rw [← h, List.drop_left]
  have ht : (p ++ (a :: b :: c :: d :: r)).take 9 = p := by rw [← h, List.take_left]
  unfold statusF
  rw [hd]
  by_cases h32 : d = 32
  · subst h32
    simp only
    rw [ht]
    by_cases hc : p = httpS ∧ digB a = true ∧ digB b = true ∧ digB c = true ∧ 49 ≤ a.toNat ∧ a.toNat ≤ 53 ∧ r.any badB = false
    · rw [if_pos hc, if_pos ⟨hc.1, True.intro, hc.2⟩]
    · rw [if_neg hc, if_neg (fun h => hc ⟨h.1, h.2.2⟩)]
  · rw [if_neg (fun h => h32 h.2.1)]
    split
    · rename_i x y z w' e
      obtain ⟨_, e⟩ := List.cons.inj e
      obtain ⟨_, e⟩ := List.cons.inj e
      obtain ⟨_, e⟩ := List.cons.inj e
      obtain ⟨e, _⟩ := List.cons.inj e
      exact absurd e h32
    · rfl
def pick3 (a b c : UInt8) (k : Nat) : UInt8 := if k = 0 then a else if k = 1 then b else c
theorem val3 (a b c : UInt8) (ha : digB a = true) (hb : digB b = true) (hc : digB c = true) : valN (pick3 a b c) 3 = codeN a b c := by
  have h1 := dig_of ha
  have h2 := dig_of hb
  have h3 := dig_of hc
  show 10 * (10 * (10 * 0 + a.toNat - 48) + b.toNat - 48) + c.toNat - 48 = _
  unfold codeN
  omega
theorem conv53 (b : UInt8) (w : World) : (convert 5 3 (B b)).run Tryd.prog w = .ok (.int .i64 (b.toNat : Int)) w := by
  have := b.toNat_lt
  have e : IntKind.i64.wrap (b.toNat : Int) = (b.toNat : Int) := by rw [IntKind.wrap_i64]; omega
  simp [convert, B, run_underlying Tryd.underlying5, run_underlying Tryd.underlying3, e, go_sem]
set_option maxRecDepth 100000 in
set_option maxHeartbeats 2000000 in
theorem dstatus_any (s : List UInt8) (hs : s.length ≤ 100000) (w : World) : Calls Tryd.prog 16 #[S s] w fun e w' => e = .returned (statusV (statusF s)) ∧ Drawn w w' := by
  have hlen := run_len_S (P := Tryd.prog) Tryd.underlying9 3 s
  by_cases hsh : s.length < 13
  · rw [status_short hsh]
    have g1 : decide ((s.length : Int) < 13) = true := decide_eq_true (by omega)
    clear hsh hs
    go_enter Tryd.func16, Tryd.ntmps16
    go_wp2
    go_ret3
    exact ⟨rfl, Drawn.refl _⟩
  have g1 : decide ((s.length : Int) < 13) = false := decide_eq_false (by omega)
  obtain ⟨p, a, b, c, d, r, hsp, hp9, hpt⟩ := four_of (s := s) (by omega)
  have hF := status_eq (r := r) (a := a) (b := b) (c := c) (d := d) hp9
  rw [← hsp] at hF
  have hix : ∀ k, k < 3 → ∀ w, (Instr.index 9 (S s) (.int .i64 ((9 + k : Nat) : Int))).run Tryd.prog w = .ok (B (pick3 a b c k)) w := fun k hk w => by
    refine index_S (P := Tryd.prog) Tryd.underlying9 s (9 + k) _ ?_ w
    rw [hsp, List.getElem?_append_right (by omega), hp9, show 9 + k - 9 = k by omega]
    have : k = 0 ∨ k = 1 ∨ k = 2 := by omega
    rcases this with rfl | rfl | rfl <;> rfl
  have hi9 : ∀ w, (Instr.index 9 (S s) (.int .i64 9)).run Tryd.prog w = .ok (B a) w := hix 0 (by omega)
  have hi12 : ∀ w, (Instr.index 9 (S s) (.int .i64 12)).run Tryd.prog w = .ok (B d) w := fun w => by
    refine index_S (P := Tryd.prog) Tryd.underlying9 s 12 d ?_ w
    rw [hsp, List.getElem?_append_right (by omega), hp9]; rfl
  have hs9 : ∀ w, (Instr.slice 9 (S s) none (some (.int .i64 9)) none).run Tryd.prog w = .ok (S p) w := fun w => by
    have := slice_take (P := Tryd.prog) Tryd.underlying9 s 9 (by omega) w
    rw [← hpt] at this; exact this
  have hd13 : s.drop 13 = r := by
    rw [hsp, show 13 = p.length + 4 by omega, ← List.drop_drop, List.drop_left]; rfl
  have hs13 : ∀ w, (Instr.slice 9 (S s) (some (.int .i64 13)) none none).run Tryd.prog w = .ok (S r) w := fun w => by
    have := slice_drop (P := Tryd.prog) Tryd.underlying9 s 13 (by omega) w
    rw [hd13] at this; exact this
  have e1 : binOp .neq 9 (S p) (.string ⟨#[72, 84, 84, 80, 47, 49, 46, 49, 32]⟩) = pure (.bool (p != httpS)) := neql_S 9 p httpS
  have e2 : ∀ x y, eqGuard .neq 9 x y (S p) (.string ⟨#[72, 84, 84, 80, 47, 49, 46, 49, 32]⟩) = pure () := fun x y => nguard_S 9 x y p httpS
  have e3 := B_neqN 5 d 32
  have e4 := B_lssN 5 a 49
  have e5 := B_gtrN 5 a 53
  have HL : Hid (13 ≤ s.length ∧ s.length ≤ 100000) := Lib.hid ⟨by omega, hs⟩
  have HI := Lib.hid (And.intro hix hd13)
  have fin : Hid (∀ q : Nat × List UInt8 × Bool, statusF s = q → Calls Tryd.prog 16 #[S s] w (fun e w' => e = .returned (statusV q) ∧ Drawn w w') → Calls Tryd.prog 16 #[S s] w (fun e w' => e = .returned (statusV (statusF s)) ∧ Drawn w w')) :=
    Lib.hid fun q h1 h2 => by rw [h1]; exact h2
  clear hs hsh hsp hp9 hpt hix hd13
  by_cases h1 : p = httpS
  · rw [show (p != httpS) = false by rw [bne_eq_false_iff_eq]; exact h1] at e1
    by_cases h2 : d = 32
    · rw [show ((d.toNat : Int) != 32) = false by rw [bne_eq_false_iff_eq, h2]; rfl] at e3
      by_cases h3 : 49 ≤ a.toNat
      · rw [decide_eq_false (by omega)] at e4
        by_cases h4 : a.toNat ≤ 53
        · rw [decide_eq_false (by omega)] at e5
          have HF : Hid (statusF s = if digB a = true ∧ digB b = true ∧ digB c = true ∧ r.any badB = false then (codeN a b c, r, true) else (0, [], false)) := Lib.hid (by
            rw [hF]
            by_cases hc : digB a = true ∧ digB b = true ∧ digB c = true ∧ r.any badB = false
            · rw [if_pos hc, if_pos ⟨h1, h2, hc.1, hc.2.1, hc.2.2.1, h3, h4, hc.2.2.2⟩]
            · rw [if_neg hc, if_neg (fun h => hc ⟨h.2.2.1, h.2.2.2.1, h.2.2.2.2.1, h.2.2.2.2.2.2.2⟩)])
          clear hF h1 h2 h3 h4
          go_enter Tryd.func16, Tryd.ntmps16
          go_wp2
          go_loopw [5, 6] (fun nv iv wr => ∃ k : Nat, iv = .int .i64 ((9 + k : Nat) : Int) ∧ nv = .int .i64 (valN (pick3 a b c) k : Int) ∧ wr = w ∧ (∀ j, j < k → digB (pick3 a b c j) = true) ∧
            ((k = 0 ∧ valN (pick3 a b c) k = 0) ∨ (k = 1 ∧ valN (pick3 a b c) k ≤ 9) ∨ (k = 2 ∧ valN (pick3 a b c) k ≤ 99) ∨ (k = 3 ∧ valN (pick3 a b c) k ≤ 999))) (fun _ iv _ => (12 - intOf iv).toNat)
          case atStart => exact ⟨0, rfl, rfl, rfl, fun j h => absurd h (Nat.not_lt_zero _), .inl ⟨rfl, rfl⟩⟩
          case round =>
            obtain ⟨k, rfl, rfl, hw, hdg, hk⟩ := hrel
            subst hw
            by_cases hk3 : k < 3
            · have hidx := HI.out.1 k hk3
              have hval : valN (pick3 a b c) (k + 1) = 10 * valN (pick3 a b c) k + (pick3 a b c k).toNat - 48 := rfl
              have q1 := B_lssN 5 (pick3 a b c k) 48
              have q2 := B_gtrN 5 (pick3 a b c k) 57
              have q3 := conv53 (pick3 a b c k)
              cases hdk : digB (pick3 a b c k) with
              | true =>
                have hdd := dig_of hdk
                have hdn : ∀ j, j < k + 1 → digB (pick3 a b c j) = true := fun j hj => by
                  rcases Nat.lt_or_ge j k with h | h
                  · exact hdg j h
                  · obtain rfl : j = k := by omega
                    exact hdk
                rw [decide_eq_false (by omega)] at q1
                rw [decide_eq_false (by omega)] at q2
                obtain ⟨N, hN⟩ : ∃ N, N = valN (pick3 a b c) k := ⟨_, rfl⟩
                obtain ⟨y, hy⟩ : ∃ y, y = (pick3 a b c k).toNat := ⟨_, rfl⟩
                have hy2 : 48 ≤ y ∧ y ≤ 57 := by omega
                rw [← hN] at hval hk
                rw [← hN]
                rw [← hy] at q3 hval
                have w1 : IntKind.i64.wrap (10 * (N : Int)) = 10 * (N : Int) := by rw [IntKind.wrap_i64]; omega
                have w2 : IntKind.i64.wrap (10 * (N : Int) + (y : Int)) = 10 * (N : Int) + (y : Int) := by rw [IntKind.wrap_i64]; omega
                have w3 : IntKind.i64.wrap (10 * (N : Int) + (y : Int) - 48) = 10 * (N : Int) + (y : Int) - 48 := by rw [IntKind.wrap_i64]; omega
                have g9 : decide (((9 + k : Nat) : Int) < 12) = true := decide_eq_true (by omega)
                have hv2 : ((valN (pick3 a b c) (k + 1) : Nat) : Int) = 10 * (N : Int) + (y : Int) - 48 := by rw [hval]; omega
                have HH := Lib.hid (And.intro hdn (And.intro hv2 (And.intro hval hy2)))
                clear hdn hv2 hval hdd hdk hdg hN hy hy2
                generalize pick3 a b c k = z at *
                obtain ⟨K, hK⟩ : ∃ K, K = 9 + k := ⟨_, rfl⟩
                rw [← hK] at hidx g9
                rw [← hK]
                have HK := Lib.hid (And.intro hK (And.intro hk hk3))
                have hK2 : K < 100 := by omega
                clear hK hk hk3
                go_wp2
                refine ⟨⟨k + 1, ?_, by rw [HH.out.2.1], by trivial, HH.out.1, ?_⟩, ?_⟩
                · have := HK.out.1; congr 1; omega
                · have h1 := HK.out.2; have h2 := HH.out.2.2; omega
                · have := HK.out; simp [intOf]; omega
              | false =>
                have hno : ¬ (digB a = true ∧ digB b = true ∧ digB c = true ∧ r.any badB = false) := fun h => by
                  have : k = 0 ∨ k = 1 ∨ k = 2 := by omega
                  rcases this with rfl | rfl | rfl
                  · rw [show pick3 a b c 0 = a from rfl, h.1] at hdk; cases hdk
                  · rw [show pick3 a b c 1 = b from rfl, h.2.1] at hdk; cases hdk
                  · rw [show pick3 a b c 2 = c from rfl, h.2.2.1] at hdk; cases hdk
                have HN : Hid (statusF s = (0, [], false)) := Lib.hid (by rw [HF.out, if_neg hno])
                have hcs : (pick3 a b c k).toNat < 48 ∨ (48 ≤ (pick3 a b c k).toNat ∧ 57 < (pick3 a b c k).toNat) := by
                  unfold digB at hdk
                  rw [Bool.and_eq_false_iff, decide_eq_false_iff_not, decide_eq_false_iff_not] at hdk
                  omega
                have g9 : decide (((9 + k : Nat) : Int) < 12) = true := decide_eq_true (by omega)
                rcases hcs with hcs | hcs
                · rw [decide_eq_true (by omega)] at q1
                  clear hno hdk hdg hk hval hcs q2 q3
                  generalize pick3 a b c k = z at *
                  generalize 9 + k = K at *
                  go_wp2
                  go_ret3
                  exact ⟨by rw [HN.out]; rfl, Drawn.refl _⟩
                · rw [decide_eq_false (by omega)] at q1
                  rw [decide_eq_true (by omega)] at q2
                  clear hno hdk hdg hk hval hcs q3
                  generalize pick3 a b c k = z at *
                  generalize 9 + k = K at *
                  go_wp2
                  go_ret3
                  exact ⟨by rw [HN.out]; rfl, Drawn.refl _⟩
            · obtain rfl : k = 3 := by omega
              have hda := hdg 0 (by omega)
              have hdb := hdg 1 (by omega)
              have hdc := hdg 2 (by omega)
              have hv := val3 a b c hda hdb hdc
              have HG : Hid (statusF s = if r.any badB = false then (codeN a b c, r, true) else (0, [], false)) := Lib.hid (by
                rw [HF.out]
                by_cases hc : r.any badB = false
                · rw [if_pos ⟨hda, hdb, hdc, hc⟩, if_pos hc]
                · rw [if_neg (fun h => hc h.2.2.2), if_neg hc])
              rw [hv]
              rw [show ((9 + 3 : Nat) : Int) = 12 from rfl]
              clear hda hdb hdc hv hdg hk hk3 HF
              obtain ⟨N, hN⟩ : ∃ N, N = codeN a b c := ⟨_, rfl⟩
              rw [← hN] at HG
              rw [← hN]
              clear hN
              go_wp2
              go_loopw [7] (fun jv wx => ∃ j : Nat, 13 ≤ j ∧ j ≤ s.length ∧ jv = .int .i64 (j : Int) ∧ wx = wr ∧ ((s.drop 13).take (j - 13)).any badB = false) (fun jv _ => s.length - (intOf jv).toNat)
              case atStart => exact ⟨13, Nat.le_refl _, HL.out.1, rfl, rfl, by simp⟩
              case round =>
                obtain ⟨j, hj1, hj2, rfl, hwx, hbd⟩ := hrel
                subst hwx
                have hjb : j < 100001 := by have := HL.out; omega
                by_cases hjl : j < s.length
                · obtain ⟨d', hd⟩ : ∃ d, s[j]? = some d := ⟨s[j], List.getElem?_eq_getElem hjl⟩
                  obtain ⟨y, hy⟩ : ∃ y : Nat, y = d'.toNat := ⟨_, rfl⟩
                  have hidy : ∀ w, (Instr.index 9 (S s) (.int .i64 (j : Int))).run Tryd.prog w = .ok (.int .u8 (y : Int)) w := fun w => by
                    rw [hy]; exact index_S (P := Tryd.prog) Tryd.underlying9 s j d' hd w
                  have hnx := any_drop_next hd hj1 hbd
                  have hbf := bad_facts d'
                  rw [← hy] at hbf
                  clear hbd hd hy
                  rcases hbf with ⟨h1, h2, h3⟩ | ⟨h1, h2, h3, h4, h5⟩ | ⟨h1, h2, h3, h4, h5, h6, h7⟩ | ⟨h1, h2, h3, h4, h5, h6, h7⟩
                  · rw [h1] at hnx
                    have HN := Lib.hid hnx
                    clear hnx h1
                    go_wp2
                    exact ⟨⟨j + 1, by omega, by omega, by go_num, by trivial, HN.out⟩, by simp [intOf]; omega⟩
                  · rw [h1] at hnx
                    have HP : Hid (statusF s = (0, [], false)) := Lib.hid (by rw [HG.out, if_neg (by rw [← HI.out.2, any_of_take hnx]; exact Bool.noConfusion)])
                    clear hnx h1
                    go_wp2
                    go_ret3
                    exact ⟨by rw [HP.out]; rfl, Drawn.refl _⟩
                  · rw [h1] at hnx
                    have HP : Hid (statusF s = (0, [], false)) := Lib.hid (by rw [HG.out, if_neg (by rw [← HI.out.2, any_of_take hnx]; exact Bool.noConfusion)])
                    clear hnx h1
                    go_wp2
                    go_ret3
                    exact ⟨by rw [HP.out]; rfl, Drawn.refl _⟩
                  · rw [h1] at hnx
                    have HN := Lib.hid hnx
                    clear hnx h1
                    go_wp2
                    exact ⟨⟨j + 1, by omega, by omega, by go_num, by trivial, HN.out⟩, by simp [intOf]; omega⟩
                · obtain rfl : j = s.length := by omega
                  have HP : Hid (statusF s = (N, r, true)) := Lib.hid (by
                    rw [List.take_of_length_le (by rw [List.length_drop]; omega), HI.out.2] at hbd
                    rw [HG.out, if_pos hbd])
                  clear hbd
                  clear HI HL fin e1 e2 e3 e4 e5 hi9 hi12 hs9 g1 hj1 hj2 hjb hjl HG
                  go_wp2
                  have hmx : Tryd.prog.follows .mixedOrders = true := by kernel_rfl
                  go_region
                  go_wp2
                  go_ret3
                  exact ⟨by rw [HP.out]; rfl, 1, rfl⟩
        · rw [decide_eq_true (by omega)] at e5
          refine fin.out (0, [], false) (by rw [hF, if_neg (fun h => h4 h.2.2.2.2.2.2.1)]) ?_
          clear hF h1 h2 h3 h4 fin
          go_enter Tryd.func16, Tryd.ntmps16
          go_wp2
          go_ret3
          exact ⟨rfl, Drawn.refl _⟩
      · rw [decide_eq_true (by omega)] at e4
        refine fin.out (0, [], false) (by rw [hF, if_neg (fun h => h3 h.2.2.2.2.2.1)]) ?_
        clear hF h1 h2 h3 fin
        go_enter Tryd.func16, Tryd.ntmps16
        go_wp2
        go_ret3
        exact ⟨rfl, Drawn.refl _⟩
    · rw [show ((d.toNat : Int) != 32) = true by rw [bne_iff_ne]; intro h; exact h2 (UInt8.toNat_inj.1 (by rw [show (32 : UInt8).toNat = 32 from rfl]; omega))] at e3
      refine fin.out (0, [], false) (by rw [hF, if_neg (fun h => h2 h.2.1)]) ?_
      clear hF h1 h2 fin
      go_enter Tryd.func16, Tryd.ntmps16
      go_wp2
      go_ret3
      exact ⟨rfl, Drawn.refl _⟩
  · rw [show (p != httpS) = true by rw [bne_iff_ne]; exact h1] at e1
    refine fin.out (0, [], false) (by rw [hF, if_neg (fun h => h1 h.1)]) ?_
    clear hF h1 fin
    go_enter Tryd.func16, Tryd.ntmps16
    go_wp2
    go_ret3
    exact ⟨rfl, Drawn.refl _⟩
end Go.Proofs.YtemlbegafkmgbaaDoor
