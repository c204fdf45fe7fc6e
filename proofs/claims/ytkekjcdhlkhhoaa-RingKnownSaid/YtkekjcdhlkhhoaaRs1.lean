/- A ring of things of one kind in memory; Len, has and place walked. -/
import Derived.Test.YtkekjcdhlkhhoaaGen9
import Derived.Test.YtkekjcdhlkhhoaaL3
namespace Go.Proofs.Ytkekjcdhlkhhoaa
namespace Rs
open Go.RowKit
attribute [local go_sem] store_one S_match S_store

/-- The things' kind. -/
def K : Kind Try.prog (List UInt8) := kind1 46 9 (fun x => S x) [] Try.underlying46 (fun w => Try.sizeOf9 w)
  (by
    obtain ⟨i, z, h1, h2, h3, h4⟩ : ∃ i z, Try.prog.info? 9 = some i ∧ i.zero = some z ∧ i.size = 1 ∧ i.bytes ≤ 1024 ∧ z = .string ⟨#[]⟩ := by
      have h : (Try.prog.info? 9).map (fun i => (i.zero, i.size, i.bytes)) = some (some (.string ⟨#[]⟩), 1, 16) := by kernel_rfl
      cases hi : Try.prog.info? 9 with
      | none => simp [hi] at h
      | some i =>
        simp only [hi, Option.map_some, Option.some.injEq, Prod.mk.injEq] at h
        exact ⟨i, _, rfl, h.1, h.2.1, by omega, rfl⟩
    exact ⟨i, z, h1, h2, h3, h4.1, by rw [h4.2]; rfl⟩) _ Try.underlying9 rfl (fun _ => rfl) (fun _ => rfl)

/-- In block g lies a ring: room for m things; xs are in it; its slice v is the circle cs, and the first thing is at f. -/
structure Core (w : World) (g m : Nat) (v : Value) (f : Nat) (cs xs : List (List UInt8)) : Prop where
  row : Row w g #[.int .i64 (m : Int), v, .int .i64 (f : Int), .int .i64 (xs.length : Int)] 90
  lies : LiesK K w v cs
  off : ∀ k, v.ownBlock = some k → k ≠ g
  turned : Turned f cs xs
  cap : cs.length ≤ m
  most : m ≤ 65536
section
variable {w w' : World} {g m f : Nat} {v : Value} {cs xs : List (List UInt8)}
theorem Core.same (h : Core w g m v f cs xs) (hs : w.heap.size ≤ w'.heap.size) (hg : w'.heap[g]? = w.heap[g]?) (hv : ∀ k, v.ownBlock = some k → w'.heap[k]? = w.heap[k]?) : Core w' g m v f cs xs :=
  ⟨by unfold Row; rw [hg]; exact h.row, h.lies.same hs hv, h.off, h.turned, h.cap, h.most⟩
theorem Core.drawn (h : Core w g m v f cs xs) (hd : Drawn w w') : Core w' g m v f cs xs := by
  obtain ⟨n, rfl⟩ := hd
  exact h.same (Nat.le_refl _) rfl (fun _ _ => rfl)
theorem Core.below (h : Core w g m v f cs xs) (hb : Below w.heap.size w w') : Core w' g m v f cs xs :=
  h.same hb.size (hb.block g h.row.lt) (fun k hk => hb.block k (h.lies.lt k hk))
theorem Core.c0 (h : Core w g m v f cs xs) : w.cell? ⟨g, 0, none⟩ = some (.int .i64 (m : Int)) := cell_of_row w _ 0 _ 90 (0, 0) h.row
theorem Core.c1 (h : Core w g m v f cs xs) : w.cell? ⟨g, 1, none⟩ = some v := cell_of_row w _ 1 _ 90 (0, 0) h.row
theorem Core.c2 (h : Core w g m v f cs xs) : w.cell? ⟨g, 2, none⟩ = some (.int .i64 (f : Int)) := cell_of_row w _ 2 _ 90 (0, 0) h.row
theorem Core.c3 (h : Core w g m v f cs xs) : w.cell? ⟨g, 3, none⟩ = some (.int .i64 (xs.length : Int)) := cell_of_row w _ 3 _ 90 (0, 0) h.row
theorem Core.few (h : Core w g m v f cs xs) : xs.length ≤ cs.length ∧ cs.length ≤ 65536 ∧ (f < cs.length ∨ f = 0 ∧ cs.length = 0) := ⟨h.turned.1, by have := h.cap; have := h.most; omega, h.turned.2.1⟩
end

set_option maxRecDepth 100000 in
set_option maxHeartbeats 400000 in
theorem len_core {g m : Nat} {v : Value} {f : Nat} {cs xs : List (List UInt8)} {w : World} (h : Core w g m v f cs xs) :
    Calls Try.prog 20 #[.pointer (some ⟨g, 0, none⟩)] w fun e w' => e = .returned (.int .i64 (xs.length : Int)) ∧ w' = w := by
  have c3 := h.c3
  clear h
  go_enter Try.func20, Try.ntmps20
  go_wp2
  go_ret
  exact ⟨rfl, rfl⟩
set_option maxRecDepth 100000 in
set_option maxHeartbeats 400000 in
theorem len_nil (w : World) :
    Calls Try.prog 20 #[.pointer none] w fun e w' => e = .returned (.int .i64 0) ∧ w' = w := by
  go_enter Try.func20, Try.ntmps20
  go_wp2
  go_ret
  exact ⟨rfl, rfl⟩
set_option maxRecDepth 100000 in
set_option maxHeartbeats 400000 in
/-- Whether a thing stands at i, of a ring (or none) of so many. -/
theorem has_of {p : Option Addr} {n : Nat} {w : World} (hl : Calls Try.prog 20 #[.pointer p] w fun e w' => e = .returned (.int .i64 (n : Int)) ∧ w' = w) (i : Int) (b : Bool) (hb : (decide (0 ≤ i) && decide (i < (n : Int))) = b) :
    Calls Try.prog 49 #[.pointer p, .int .i64 i] w fun e w' => e = .returned (.bool b) ∧ w' = w := by
  by_cases h0 : 0 ≤ i
  · have hd : decide (0 ≤ i) = true := decide_eq_true h0
    rw [hd, Bool.true_and] at hb
    clear h0
    go_enter Try.func49, Try.ntmps49
    go_wp2_with fail
    refine hl.mono ?_
    rintro e w' ⟨rfl, rfl⟩
    go_wp2
    go_ret
    exact ⟨rfl, rfl⟩
  · have hd : decide (0 ≤ i) = false := decide_eq_false h0
    rw [hd, Bool.false_and] at hb
    subst hb
    clear h0
    go_enter Try.func49, Try.ntmps49
    go_wp2
    go_ret
    exact ⟨rfl, rfl⟩
set_option maxRecDepth 100000 in
set_option maxHeartbeats 400000 in
theorem place_of {g C f : Nat} {v : Value} {w : World} (c1 : w.cell? ⟨g, 1, none⟩ = some v) (c2 : w.cell? ⟨g, 2, none⟩ = some (.int .i64 (f : Int))) (hlen : ∀ W, (Builtin.len_ #[46] 3 #[v]).run Try.prog W = .ok (.int .i64 (C : Int)) W) (hf : f ≤ 65536) (i : Nat) (hi : i ≤ 65536) (hc : 0 < C) :
    Calls Try.prog 50 #[.pointer (some ⟨g, 0, none⟩), .int .i64 (i : Int)] w fun e w' => e = .returned (.int .i64 (((f + i) % C : Nat) : Int)) ∧ Drawn w w' := by
  have hw : IntKind.i64.wrap ((f : Int) + (i : Int)) = ((f + i : Nat) : Int) := by rw [IntKind.wrap_i64]; omega
  have hC0 : ((C : Int) == 0) = false := by rw [beq_eq_false_iff_ne]; omega
  go_enter Try.func50, Try.ntmps50
  go_wp2
  go_quiet (fail)
  go_wp2
  go_ret
  exact ⟨rfl, ⟨_, rfl⟩⟩
theorem place_core {g m : Nat} {v : Value} {f : Nat} {cs xs : List (List UInt8)} {w : World} (h : Core w g m v f cs xs) (i : Nat) (hi : i ≤ 65536) (hc : 0 < cs.length) :
    Calls Try.prog 50 #[.pointer (some ⟨g, 0, none⟩), .int .i64 (i : Int)] w fun e w' => e = .returned (.int .i64 (((f + i) % cs.length : Nat) : Int)) ∧ Drawn w w' :=
  place_of h.c1 h.c2 (h.lies.len 3) (by have := h.few; omega) i hi hc
end Rs
end Go.Proofs.Ytkekjcdhlkhhoaa
