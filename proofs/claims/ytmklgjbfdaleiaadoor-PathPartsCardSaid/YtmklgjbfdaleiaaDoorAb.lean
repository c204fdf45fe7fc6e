/- The document's May and hex, the law's same (stage 11) walked. (mkab.py writes it.) -/
import Derived.Test.YtmklgjbfdaleiaaDoorAa
import Derived.Test.YtmklgjbfdaleiaaDoorLg
namespace Go.Proofs.YtmklgjbfdaleiaaDoor
open Go.RowKit
attribute [local go_sem] store_one S_match S_store eguard_BN nguard_BN

def segB (c : UInt8) : Bool := c != 47 && c != 0
theorem may_def (s : List UInt8) : mayS s = (s.all segB && (s != [46] && s != [46, 46])) := rfl
theorem may_bad {s : List UInt8} {i : Nat} {c : UInt8} (hc : s[i]? = some c) (h : segB c = false) : mayS s = false := by
  rw [may_def, Bool.eq_false_iff]
  intro e
  rw [Bool.and_eq_true, List.all_eq_true] at e
  rw [e.1 c (List.mem_of_getElem? hc)] at h; cases h
theorem all_next {p : UInt8 → Bool} {s : List UInt8} {i : Nat} {c : UInt8} (hc : s[i]? = some c) (h : (s.take i).all p = true) (hp : p c = true) : (s.take (i + 1)).all p = true := by
  rw [List.take_add_one, hc, List.all_append, h]
  show (true && (p c && true)) = true
  rw [hp]; rfl
theorem B_eqk (c : UInt8) (k : Nat) (hk : k < 256) (h : c ≠ UInt8.ofNat k) : ((c.toNat : Int) == (k : Int)) = false := by
  rw [beq_eq_false_iff_ne]; intro e; exact h (UInt8.toNat_inj.1 (by rw [UInt8.toNat_ofNat_of_lt' (by simpa using hk)]; omega))
set_option maxRecDepth 100000 in
set_option maxHeartbeats 1000000 in
theorem dmay11_any (s : List UInt8) (hs : s.length ≤ 1000000) (w : World) : Calls Tryd.prog 22 #[S s] w fun e w' => e = .returned (.bool (mayS s)) ∧ w' = w := by
  have hlen := run_len_S (P := Tryd.prog) Tryd.underlying9 3 s
  obtain ⟨L, hL⟩ : ∃ L, L = s.length := ⟨_, rfl⟩
  rw [← hL] at hlen hs
  have HL := Lib.hid hL
  clear hL
  obtain ⟨O, hO⟩ : ∃ O, O = mayS s := ⟨_, rfl⟩
  rw [← hO]
  have HO := Lib.hid hO
  clear hO
  have q1 : binOp .neq 9 (S s) (.string ⟨#[46]⟩) = pure (.bool (s != [46])) := neql_S 9 s [46]
  have n1 : ∀ x y, eqGuard .neq 9 x y (S s) (.string ⟨#[46]⟩) = pure () := fun x y => nguard_S 9 x y s [46]
  have q2 : binOp .neq 9 (S s) (.string ⟨#[46, 46]⟩) = pure (.bool (s != [46, 46])) := neql_S 9 s [46, 46]
  have n2 : ∀ x y, eqGuard .neq 9 x y (S s) (.string ⟨#[46, 46]⟩) = pure () := fun x y => nguard_S 9 x y s [46, 46]
  obtain ⟨x1, hx1⟩ : ∃ x, x = (s != [46]) := ⟨_, rfl⟩
  obtain ⟨x2, hx2⟩ : ∃ x, x = (s != [46, 46]) := ⟨_, rfl⟩
  rw [← hx1] at q1
  rw [← hx2] at q2
  have HO2 : Hid (s.all segB = true → O = (x1 && x2)) := Lib.hid fun h => by rw [HO.out, may_def, h, ← hx1, ← hx2]; rfl
  clear hx1 hx2
  go_enter Tryd.func22, Tryd.ntmps22
  go_wp2
  go_loopw [3] (fun iv wr => ∃ i : Nat, i ≤ L ∧ iv = .int .i64 (i : Int) ∧ wr = w ∧ Hid ((s.take i).all segB = true)) (fun iv _ => L - (intOf iv).toNat)
  case atStart => exact ⟨0, Nat.zero_le _, rfl, rfl, Lib.hid (by rw [List.take_zero]; rfl)⟩
  case round =>
    obtain ⟨i, hi, rfl, hwr, HR⟩ := hrel
    subst hwr
    by_cases hlt : i < L
    · obtain ⟨c, hc⟩ : ∃ c, s[i]? = some c := ⟨s[i]'(by have := HL.out; omega), List.getElem?_eq_getElem _⟩
      have hidx : ∀ w, (Instr.index 9 (S s) (.int .i64 (i : Int))).run Tryd.prog w = .ok (B c) w := fun w => index_S (P := Tryd.prog) Tryd.underlying9 s i c hc w
      have hw1 : IntKind.i64.wrap ((i : Int) + 1) = (i : Int) + 1 := by rw [IntKind.wrap_i64]; omega
      have p1 := B_eqlN 5 c 47
      have p2 := B_eqlN 5 c 0
      by_cases h47 : c = 47
      · rw [show ((c.toNat : Int) == 47) = true by rw [h47]; rfl] at p1
        have HP : Hid (O = false) := Lib.hid (by rw [HO.out]; exact may_bad hc (by rw [h47]; rfl))
        clear hc h47 p2
        go_wp2
        go_ret
        exact ⟨by rw [HP.out]; rfl, rfl⟩
      rw [show ((c.toNat : Int) == 47) = false from B_eqk c 47 (by decide) h47] at p1
      by_cases h0 : c = 0
      · rw [show ((c.toNat : Int) == 0) = true by rw [h0]; rfl] at p2
        have HP : Hid (O = false) := Lib.hid (by rw [HO.out]; exact may_bad hc (by rw [h0]; rfl))
        clear hc h47 h0
        go_wp2
        go_ret
        exact ⟨by rw [HP.out]; rfl, rfl⟩
      rw [show ((c.toNat : Int) == 0) = false from B_eqk c 0 (by decide) h0] at p2
      have HX := Lib.hid (all_next (p := segB) hc HR.out (by unfold segB; rw [bne_iff_ne.2 h47, bne_iff_ne.2 h0]; rfl))
      clear hc h47 h0
      go_wp2
      exact ⟨⟨i + 1, by omega, by go_num, by trivial, HX⟩, by simp [intOf]; omega⟩
    · obtain rfl : i = L := by omega
      have HP : Hid (O = (x1 && x2)) := Lib.hid (HO2.out (by have h := HR.out; rwa [HL.out, List.take_length] at h))
      cases x1 with
      | false =>
        go_wp2
        go_ret
        exact ⟨by rw [HP.out]; rfl, rfl⟩
      | true =>
        go_wp2
        go_ret
        exact ⟨by rw [HP.out]; rfl, rfl⟩
theorem hexN_at : ∀ (i : Nat) (c : UInt8), hexAll[i]? = some c → hexN c = if 15 < i then i - 6 else i := by
  have h : ∀ i : Fin 22, hexN (hexAll[i.1]'(i.2)) = if 15 < i.1 then i.1 - 6 else i.1 := by decide
  intro i c hc
  obtain ⟨hi, e⟩ := List.getElem?_eq_some_iff.1 hc
  have := h ⟨i, hi⟩
  rw [← e]; exact this
set_option maxRecDepth 100000 in
set_option maxHeartbeats 1000000 in
theorem dhex11_any (c : UInt8) (h : hexB c = true) (w : World) : Calls Tryd.prog 23 #[B c] w fun e w' => e = .returned (.int .i64 (hexN c : Int)) ∧ w' = w := by
  have HC := Lib.hid h
  clear h
  go_enter Tryd.func23, Tryd.ntmps23
  go_wp2
  go_loopw [3] (fun iv wr => ∃ i : Nat, i ≤ 22 ∧ iv = .int .i64 (i : Int) ∧ wr = w ∧ Hid (c ∉ hexAll.take i)) (fun iv _ => 22 - (intOf iv).toNat)
  case atStart => exact ⟨0, Nat.zero_le _, rfl, rfl, Lib.hid (by simp)⟩
  case round =>
    obtain ⟨i, hi, rfl, hwr, HR⟩ := hrel
    subst hwr
    by_cases hlt : i < 22
    · have g1 : decide ((i : Int) < 22) = true := decide_eq_true (by omega)
      obtain ⟨x, hx⟩ : ∃ x, hexAll[i]? = some x := ⟨hexAll[i]'hlt, List.getElem?_eq_getElem _⟩
      have hidx : ∀ w, (Instr.index 9 (.string ⟨#[48, 49, 50, 51, 52, 53, 54, 55, 56, 57, 97, 98, 99, 100, 101, 102, 65, 66, 67, 68, 69, 70]⟩) (.int .i64 (i : Int))).run Tryd.prog w = .ok (B x) w := fun w => index_S (P := Tryd.prog) Tryd.underlying9 hexAll i x hx w
      have hw1 : IntKind.i64.wrap ((i : Int) + 1) = (i : Int) + 1 := by rw [IntKind.wrap_i64]; omega
      have heq : binOp .eql 5 (B x) (B c) = pure (.bool (x == c)) := by
        show pure (Value.bool ((x.toNat : Int) == (c.toNat : Int))) = _
        rw [beqB]
      have hg : ∀ a b, eqGuard .eql 5 a b (B x) (B c) = pure () := fun a b => rfl
      by_cases hb : x = c
      · rw [show (x == c) = true from beq_iff_eq.2 hb] at heq
        have HV := Lib.hid (hexN_at i c (by rw [hx, hb]))
        clear hb hx
        by_cases h15 : 15 < i
        · have g2 : decide ((15 : Int) < (i : Int)) = true := decide_eq_true (by omega)
          have hw2 : IntKind.i64.wrap ((i : Int) - 6) = ((i - 6 : Nat) : Int) := by rw [IntKind.wrap_i64]; omega
          have HP : Hid (hexN c = i - 6) := Lib.hid (by rw [HV.out, if_pos h15])
          go_wp2
          go_ret
          exact ⟨by rw [HP.out]; rfl, rfl⟩
        · have g2 : decide ((15 : Int) < (i : Int)) = false := decide_eq_false (by omega)
          have HP : Hid (hexN c = i) := Lib.hid (by rw [HV.out, if_neg h15])
          go_wp2
          go_ret
          exact ⟨by rw [HP.out]; rfl, rfl⟩
      · rw [show (x == c) = false from beq_eq_false_iff_ne.2 hb] at heq
        have HX : Hid (c ∉ hexAll.take (i + 1)) := Lib.hid (by
          rw [List.take_add_one, hx]
          show c ∉ hexAll.take i ++ [x]
          rw [List.mem_append, List.mem_singleton]
          rintro (e | e)
          · exact HR.out e
          · exact hb e.symm)
        clear hb hx
        go_wp2
        exact ⟨⟨i + 1, by omega, by go_num, by trivial, HX⟩, by simp [intOf]; omega⟩
    · obtain rfl : i = 22 := by omega
      have h1 := HR.out
      have h2 : c ∈ hexAll := by have := HC.out; unfold hexB at this; simpa using this
      exact absurd h2 h1
set_option maxRecDepth 100000 in
set_option maxHeartbeats 1000000 in
theorem same11_true (l : List (List UInt8)) (hl : l.length ≤ 1000000) (Va Vb : Value) (ba oa bb ob : Nat) (w : World) (ha : TA w Va l ba oa) (hb : TA w Vb l bb ob) :
    Calls Tryd.prog 12 #[Va, Vb] w fun e w' => e = .returned (.bool true) ∧ Below w.heap.size w w' := by
  have hla := ha.len 3
  have hlb := hb.len 3
  obtain ⟨N, hN⟩ : ∃ N, N = l.length := ⟨_, rfl⟩
  rw [← hN] at hla hlb hl
  have HH := Lib.hid (And.intro ha (And.intro hb hN))
  clear ha hb hN
  have g0 : ((N : Int) != (N : Int)) = false := by simp
  go_enter Tryd.func12, Tryd.ntmps12
  go_wp2
  go_loopw [5] (fun iv wr => ∃ i : Nat, i ≤ N ∧ iv = .int .i64 (i : Int) ∧ Hid (Below w.heap.size w wr)) (fun iv _ => N - (intOf iv).toNat)
  case atStart => exact ⟨0, Nat.zero_le _, rfl, Lib.hid (Below.refl _ _)⟩
  case round =>
    obtain ⟨i, hi, rfl, HB⟩ := hrel
    by_cases hlt : i < N
    · have g1 : decide ((i : Int) < (N : Int)) = true := decide_eq_true (by omega)
      obtain ⟨x, hx⟩ : ∃ x, l[i]? = some x := ⟨l[i]'(by have := HH.out.2.2; omega), List.getElem?_eq_getElem _⟩
      have hia := HH.out.1.index i (by have := HH.out.2.2; omega)
      have hib := HH.out.2.1.index i (by have := HH.out.2.2; omega)
      have ca0 : wr.cell? ⟨ba, oa + i, none⟩ = some (S x) := (HH.out.1.below HB.out).cell i x hx
      have cb0 : wr.cell? ⟨bb, ob + i, none⟩ = some (S x) := (HH.out.2.1.below HB.out).cell i x hx
      obtain ⟨ka, hka⟩ : ∃ k, k = oa + i := ⟨_, rfl⟩
      obtain ⟨kb, hkb⟩ : ∃ k, k = ob + i := ⟨_, rfl⟩
      rw [← hka] at hia ca0
      rw [← hkb] at hib cb0
      have ea0 : wr.drew.cell? ⟨ba, ka, none⟩ = some (S x) := ca0
      have eb0 : wr.drew.cell? ⟨bb, kb, none⟩ = some (S x) := cb0
      have hw1 : IntKind.i64.wrap ((i : Int) + 1) = (i : Int) + 1 := by rw [IntKind.wrap_i64]; omega
      have q1 : binOp .neq 9 (S x) (S x) = pure (.bool false) := by rw [neql_S]; simp
      have n1 : ∀ a b, eqGuard .neq 9 a b (S x) (S x) = pure () := fun a b => nguard_S 9 a b x x
      clear hx hka hkb
      have hmx : Tryd.prog.follows .mixedOrders = true := by kernel_rfl
      go_wp2
      go_region
      go_wp2
      exact ⟨⟨i + 1, by omega, by go_num, Lib.hid (HB.out.trans ⟨rfl, rfl, rfl, Nat.le_refl _, fun _ _ => rfl⟩)⟩, by simp [intOf]; omega⟩
    · have g1 : decide ((i : Int) < (N : Int)) = false := decide_eq_false (by omega)
      go_wp2
      go_ret
      exact ⟨rfl, HB.out⟩
end Go.Proofs.YtmklgjbfdaleiaaDoor
