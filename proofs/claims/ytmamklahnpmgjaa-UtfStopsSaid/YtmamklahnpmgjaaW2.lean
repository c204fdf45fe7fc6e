/- The walk of the package's behind. -/
import Derived.Test.YtmamklahnpmgjaaW1
namespace Go.Proofs.Ytmamklahnpmgjaa
open Go.RowKit
attribute [local go_sem] store_one

theorem size38 : (Try.prog.info? 38).map (·.size) = some 3 := by kernel_rfl
theorem results38 {fn : Func} {p u : Tmp} (h : fn.results = #[.cell p 38, .tmp u]) (tmps : Array Value) (w : World) (g : Nat) (a b c : Value) (hp : tmps.getD p undef = .pointer (some ⟨g, 0, none⟩)) (hg : w.heap[g]? = some (.cells #[a, b, c] 38 (0, 0))) :
    (results fn tmps).run Try.prog w = .ok (.tuple #[.agg #[a, b, c], tmps.getD u undef]) w :=
  results_row_tmp h tmps w g 38 #[a, b, c] (0, 0) _ hp hg Try.underlying38 rfl size38
theorem Waits.tail {ab : UInt8 × UInt8} {T : List (UInt8 × UInt8)} {n lo hi : Nat} (h : Waits (ab :: T) n lo hi) (hS : Same (ab :: T)) : Waits T (n - 1) 128 191 :=
  ⟨by have := h.len; rw [List.length_cons] at this; omega, by omega, by omega, fun x hx => by
    have : x ∈ T := List.mem_of_mem_head? hx
    rw [hS x this]; exact ⟨rfl, rfl⟩⟩
set_option maxRecDepth 100000 in
set_option maxHeartbeats 2000000 in
theorem behind_any (T : List (UInt8 × UInt8)) (n lo hi : Nat) (hT : Waits T n lo hi) (h3 : n ≤ 3) (hS : Same T) (c : UInt8) (w : World) :
    Calls Try.prog 26 #[GV n lo hi, B c] w fun e w' => (∃ n' lo' hi', e = .returned (.tuple #[GV n' lo' hi', .bool (nextF T c).isSome]) ∧ ∀ T', nextF T c = some T' → Waits T' n' lo' hi') ∧ Below w.heap.size w w' := by
  have hsz := Lib.hid size38
  cases T with
  | nil =>
    obtain rfl : n = 0 := by have := hT.len; simp at this; omega
    unfold GV
    go_enter Try.func26, Try.ntmps26
    go_wp2_with fail
    refine (begun_any c _).mono ?_
    rintro e W1 ⟨⟨n, lo', hi', rfl, hn⟩, hB⟩
    unfold GV
    have hr : Row W1 (w.heap.size + 1) #[.int .i64 0, .int .u8 0, .int .u8 0] 38 := by
      refine Row.below (w := (w.alloc (.cells #[.int .i64 0, .int .u8 lo, .int .u8 hi] 38)).alloc (.cells #[.int .i64 0, .int .u8 0, .int .u8 0] 38)) ?_ hB (by simp)
      have := row_new (w.alloc (.cells #[.int .i64 0, .int .u8 lo, .int .u8 hi] 38)) #[.int .i64 0, .int .u8 0, .int .u8 0] 38
      rw [alloc_size] at this
      exact this
    have hB' : Below w.heap.size w W1 := (((Below.refl _ w).alloc (Nat.le_refl _) _).alloc (by simp) _).trans (hB.mono (by simp; omega))
    have c0 : W1.cell? ⟨w.heap.size + 1, 0, none⟩ = some (.int .i64 0) := cell_of_row W1 _ 0 _ 38 (0, 0) hr
    have c1 : W1.cell? ⟨w.heap.size + 1, 1, none⟩ = some (.int .u8 0) := cell_of_row W1 _ 1 _ 38 (0, 0) hr
    have c2 : W1.cell? ⟨w.heap.size + 1, 2, none⟩ = some (.int .u8 0) := cell_of_row W1 _ 2 _ 38 (0, 0) hr
    have f0 := hr.frozen 0
    have f1 := hr.frozen 1
    have f2 := hr.frozen 2
    have HH := Lib.hid (And.intro hr (And.intro hB' hn))
    clear hr hB' hn hB
    go_wp2
    refine bodyPost_ret (results38 rfl _ _ (w.heap.size + 1) _ _ _ rfl (((HH.out.1.set 0 _).set 1 _).set 2 _)) rfl ?_
    exact ⟨⟨n, lo', hi', rfl, HH.out.2.2⟩, ((HH.out.2.1.setCell (p := ⟨w.heap.size + 1, 0, none⟩) (by simp) _).setCell (p := ⟨w.heap.size + 1, 1, none⟩) (by simp) _).setCell (p := ⟨w.heap.size + 1, 2, none⟩) (by simp) _⟩
  | cons ab T =>
    have hn0 : n ≠ 0 := by have := hT.len; rw [List.length_cons] at this; omega
    have hab := hT.head ab rfl
    have hw := within_nat ab c
    rw [hab.1, hab.2] at hw
    have hnx : nextF (ab :: T) c = if within ab c = true then some T else none := rfl
    have hnI : ((n : Int) == 0) = false := by rw [beq_eq_false_iff_ne]; omega
    have hI : Hid (IntKind.i64.wrap ((n : Int) - 1) = ((n - 1 : Nat) : Int)) := Lib.hid (by rw [IntKind.wrap_i64] <;> omega)
    have HT := Lib.hid (And.intro (hT.tail hS) (And.intro hw hnx))
    clear hT hS hab hw hnx
    obtain ⟨x, hx⟩ : ∃ x, x = c.toNat := ⟨_, rfl⟩
    unfold GV B
    rw [← hx]
    have HX := Lib.hid hx
    clear hx
    go_enter Try.func26, Try.ntmps26
    by_cases h1 : x < lo
    · have hc : decide ((x : Int) < (lo : Int)) = true := decide_eq_true (by omega)
      have hc' : decide (x < lo) = true := decide_eq_true (by omega)
      go_wp2
      refine bodyPost_ret (results38 rfl _ _ (w.heap.size + 1) _ _ _ rfl (alloc_at _ _ _ (by simp))) rfl ?_
      have hin : within ab c = false := by
        rw [Bool.eq_false_iff]; intro h; have := HT.out.2.1.1 h; have := HX.out; omega
      refine ⟨⟨0, 0, 0, by rw [HT.out.2.2, hin]; rfl, fun T' h => by rw [HT.out.2.2, hin] at h; cases h⟩, ((Below.refl _ w).alloc (Nat.le_refl _) _).alloc (by simp) _⟩
    · have hc : decide ((x : Int) < (lo : Int)) = false := decide_eq_false (by omega)
      have hc' : decide (x < lo) = false := decide_eq_false (by omega)
      by_cases h2 : hi < x
      · have hd : decide ((hi : Int) < (x : Int)) = true := decide_eq_true (by omega)
        have hd' : decide (hi < x) = true := decide_eq_true (by omega)
        go_wp2
        refine bodyPost_ret (results38 rfl _ _ (w.heap.size + 1) _ _ _ rfl (alloc_at _ _ _ (by simp))) rfl ?_
        have hin : within ab c = false := by
          rw [Bool.eq_false_iff]; intro h; have := HT.out.2.1.1 h; have := HX.out; omega
        refine ⟨⟨0, 0, 0, by rw [HT.out.2.2, hin]; rfl, fun T' h => by rw [HT.out.2.2, hin] at h; cases h⟩, ((Below.refl _ w).alloc (Nat.le_refl _) _).alloc (by simp) _⟩
      · have hd : decide ((hi : Int) < (x : Int)) = false := decide_eq_false (by omega)
        have hd' : decide (hi < x) = false := decide_eq_false (by omega)
        go_wp2
        refine bodyPost_ret (results38 rfl _ _ (w.heap.size + 1) _ _ _ rfl (alloc_at _ _ _ (by simp))) rfl ?_
        have hin : within ab c = true := by
          exact HT.out.2.1.2 (by have := HX.out; omega)
        rw [show (n : Int) - 1 = ((n - 1 : Nat) : Int) by omega]
        refine ⟨⟨n - 1, 128, 191, by rw [HT.out.2.2, hin]; rfl, fun T' h => by rw [HT.out.2.2, hin] at h; obtain rfl := Option.some.inj h; exact HT.out.1⟩, ((Below.refl _ w).alloc (Nat.le_refl _) _).alloc (by simp) _⟩
end Go.Proofs.Ytmamklahnpmgjaa
