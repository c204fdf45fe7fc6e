/- The landed below of tries of ints walked. -/
import Derived.Test.YtgoaljnfegaldaaDoorTw0
import Derived.Test.YtgoaljnfegaldaaDoorQb
namespace Go.Proofs.YtgoaljnfegaldaaDoor
open Go.RowKit
attribute [local go_sem] store_one S_match S_store eguard_BN nguard_BN B_eqlN B_neqN

theorem zeroNi : ∀ w, (zeroValue 66).run Tryd.prog w = .ok (.pointer none) w := (zero_of_info (n := 1) (by kernel_rfl)).1
set_option maxRecDepth 100000 in
set_option maxHeartbeats 1000000 in
theorem belowi_any {w : World} {b o : Nat} {N : List Key → Option Nat} {M E : Option Nat} {k : List Key} {C : Nat} (h : NodeAt w b o N M E k C) (s : Txt) (hs : s ≠ []) (hl : s.length ≤ 1000000) :
    Calls Tryd.prog 38 #[.pointer (some ⟨b, o, none⟩), S s] w fun e w' => e = .returned (ptrO (N (k ++ [keyS s]))) ∧ w' = w := by
  obtain ⟨c, r, rfl⟩ : ∃ c r, s = c :: r := by
    cases s with
    | nil => exact absurd rfl hs
    | cons c r => exact ⟨c, r, rfl⟩
  have hix : ∀ w, (Instr.index 9 (S (c :: r)) (.int .i64 0)).run Tryd.prog w = .ok (B c) w := fun w => index_S Tryd.underlying9 (c :: r) 0 c rfl w
  have hpar := h.par.1
  have hrst := h.rst.1
  have hlit := h.lits.1
  have hlk := h.look Tryd.underlying65 zeroNi hl
  rw [key_head]
  generalize S (c :: r) = V at *
  clear h hs hl
  by_cases h1 : c = 58
  · subst h1
    rw [if_pos rfl]
    generalize ptrO (N (k ++ [.par])) = v at *
    go_enter Tryd.func38, Tryd.ntmps38
    go_wp2
    go_ret
    exact ⟨rfl, rfl⟩
  · rw [if_neg h1]
    have g1 : ((c.toNat : Int) == 58) = false := by
      have h2 : c.toNat ≠ 58 := fun e => h1 (UInt8.toNat_inj.1 (by rw [e]; rfl))
      rw [beq_eq_false_iff_ne]; omega
    by_cases h2 : c = 42
    · subst h2
      rw [if_pos rfl]
      generalize ptrO (N (k ++ [.rst])) = v at *
      go_enter Tryd.func38, Tryd.ntmps38
      go_wp2
      go_ret
      exact ⟨rfl, rfl⟩
    · rw [if_neg h2]
      have g2 : ((c.toNat : Int) == 42) = false := by
        have h3 : c.toNat ≠ 42 := fun e => h2 (UInt8.toNat_inj.1 (by rw [e]; rfl))
        rw [beq_eq_false_iff_ne]; omega
      generalize ptrO (N (k ++ [.lit (c :: r)])) = v at *
      generalize mapV M = mv at *
      clear h1 h2
      go_enter Tryd.func38, Tryd.ntmps38
      go_wp2
      go_ret
      exact ⟨rfl, rfl⟩
end Go.Proofs.YtgoaljnfegaldaaDoor
