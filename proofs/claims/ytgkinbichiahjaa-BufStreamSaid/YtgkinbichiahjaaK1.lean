/- The buffer in memory; waiting, Len, Room and Peek walked. -/
import Derived.Test.YtgkinbichiahjaaR1
import Derived.Lib.AppendStr
namespace Go.Proofs.Ytgkinbichiahjaa
open Go.RowKit
attribute [local go_sem] store_one

/-- In block g lies a buffer's row (made or not): room for m bytes; its slice v holds pre, that is gone, and x. -/
def LooseAt (w : World) (g : Nat) (mk : Bool) (m : Nat) (v : Value) (pre x : List UInt8) : Prop :=
  Row w g #[.bool mk, .int .i64 (m : Int), v, .int .i64 (pre.length : Int)] 40 ∧ w.ownsRow 0 5 1 v (pre ++ x).length ((pre ++ x).map B)
/-- In block g lies a buffer (made or not): room for m bytes, x in it. The blocks of A are not its bytes'. -/
structure BufAt (w : World) (g : Nat) (A : Nat → Prop) (mk : Bool) (m : Nat) (x : List UInt8) : Prop where
  lies : ∃ (v : Value) (pre : List UInt8), LooseAt w g mk m v pre x ∧ (∀ k, v.ownBlock = some k → ¬ A k ∧ k ≠ g) ∧ pre.length ≤ x.length
  fits : x.length ≤ m
  most : m ≤ 1073741824
  old : ∀ k, A k → k < w.heap.size
/-- The blocks of A, but g, are as they were. -/
structure Spare (g : Nat) (A : Nat → Prop) (w w' : World) : Prop where
  os : w'.os = w.os
  tape : w'.tape = w.tape
  output : w'.output = w.output
  size : w.heap.size ≤ w'.heap.size
  block : ∀ k, A k → k ≠ g → w'.heap[k]? = w.heap[k]?
theorem Spare.refl (g : Nat) (A : Nat → Prop) (w : World) : Spare g A w w := ⟨rfl, rfl, rfl, Nat.le_refl _, fun _ _ _ => rfl⟩
theorem Spare.trans {g : Nat} {A : Nat → Prop} {w w' w'' : World} (h : Spare g A w w') (k : Spare g A w' w'') : Spare g A w w'' :=
  ⟨k.os.trans h.os, k.tape.trans h.tape, k.output.trans h.output, Nat.le_trans h.size k.size, fun i hi hn => (k.block i hi hn).trans (h.block i hi hn)⟩
theorem Spare.of_drawn {g : Nat} {A : Nat → Prop} {w w' : World} (h : Drawn w w') : Spare g A w w' := by
  obtain ⟨n, rfl⟩ := h; exact ⟨rfl, rfl, rfl, Nat.le_refl _, fun _ _ _ => rfl⟩
theorem Spare.of_keeps {g : Nat} {A : Nat → Prop} {w w' : World} (h : Keeps g w w') (old : ∀ k, A k → k < w.heap.size) : Spare g A w w' :=
  ⟨h.os, h.tape, h.output, h.size, fun k hk hn => h.block k (old k hk) hn⟩
/-- What waits, as a slice. -/
def WaitV (w : World) (V : Value) (x : List UInt8) : Prop :=
  ∃ a c, V = .slice a x.length c ∧ x.length ≤ c ∧ (a = none → c = 0) ∧ ∀ i (h : i < x.length), ∃ k o, a = some ⟨k, o, none⟩ ∧ w.cell? ⟨k, o + i, none⟩ = some (B x[i])

theorem own38 {w : World} {v : Value} {n : Nat} {xs : List Value} (h : w.ownsRow 0 5 1 v n xs) (hn : 0 < n) : ∃ k c cur, v = .slice (some ⟨k, 0, none⟩) n c ∧ w.heap[k]? = some (.cells cur 5 (0, 0)) ∧ n ≤ c ∧ ∀ j u, xs[j]? = some u → w.cell? ⟨k, j, none⟩ = some u := by
  have h' := h
  rcases h.2 with ⟨_, h0⟩ | ⟨k, c, cur, rfl, _, hk, hc, _⟩
  · omega
  · refine ⟨k, c, cur, rfl, hk, hc, fun j u hu => ?_⟩
    have := h'.cells (g := k) rfl j u hu
    rwa [Addr.add_mid, Nat.zero_add] at this
theorem slice_from (W : World) (a : Option Addr) (n c p : Nat) (hp : p ≤ n) (hn : n ≤ c) :
    (Instr.slice 38 (.slice a n c) (some (.int .i64 (p : Int))) none none).run Try.prog W = .ok (.slice (if c = p then a else a.map (·.add p)) (n - p) (c - p)) W := by
  simp [Instr.slice, run_underlying Try.underlying38, Instr.sliceBounds, run_sliceBound, Result.andThen, Try.sizeOf5, hp]
theorem slice_upto (W : World) (a : Option Addr) (n c k : Nat) (hk : k ≤ c) :
    (Instr.slice 38 (.slice a n c) none (some (.int .i64 (k : Int))) none).run Try.prog W = .ok (.slice a k c) W := by
  have : (Option.map (fun x : Addr => x.add 0) a) = a := by cases a <;> simp [Addr.add]
  simp [Instr.slice, run_underlying Try.underlying38, Instr.sliceBounds, run_sliceBound, Result.andThen, Try.sizeOf5, hk, this]
theorem WaitV.len {w : World} {V : Value} {x : List UInt8} (h : WaitV w V x) (T : TypeId) (w' : World) : (Builtin.len_ #[38] T #[V]).run Try.prog w' = .ok (.int .i64 (x.length : Int)) w' := by
  obtain ⟨a, c, rfl, _⟩ := h
  simp [Builtin.len_, run_underlying Try.underlying38, Result.andThen, goInt]
theorem WaitV.take {w : World} {V : Value} {x : List UInt8} (h : WaitV w V x) (k : Nat) (hk : k ≤ x.length) :
    ∃ V', (∀ w', (Instr.slice 38 V none (some (.int .i64 (k : Int))) none).run Try.prog w' = .ok V' w') ∧ ∀ w', Drawn w w' → (convert 38 9 V').run Try.prog w' = .ok (S (x.take k)) w' := by
  obtain ⟨a, c, rfl, hc, _, hcell⟩ := h
  refine ⟨.slice a k c, fun w' => slice_upto w' _ x.length c k (by omega), fun w' hd => ?_⟩
  have hl : (x.take k).length = k := by rw [List.length_take]; omega
  cases a with
  | none =>
    have h0 : x.length = 0 := by
      rcases Nat.eq_zero_or_pos x.length with h | h
      · exact h
      · obtain ⟨_, _, h, _⟩ := hcell 0 h; cases h
    obtain rfl : k = 0 := by omega
    exact run_convert_bytes_nil (w := w') 38 5 Try.underlying38 Try.underlying5 0 c 9 Try.underlying9
  | some a =>
    have := run_convert_bytes_back (P := Try.prog) w' 38 9 5 a c (x.take k) Try.underlying38 Try.underlying5 Try.underlying9 (fun j hj => by
      obtain ⟨b, o, ha, hcl⟩ := hcell j (by omega)
      cases ha
      rw [Addr.add_mid, hd.cell, hcl, List.getElem_take]
      rfl)
    rw [hl] at this
    exact this
theorem LooseAt.slice {w : World} {g : Nat} {mk : Bool} {m : Nat} {v : Value} {pre x : List UInt8} (h : LooseAt w g mk m v pre x) :
    ∃ V, (∀ W, (Instr.slice 38 v (some (.int .i64 (pre.length : Int))) none none).run Try.prog W = .ok V W) ∧ WaitV w V x := by
  obtain ⟨_, ho⟩ := h
  have hl : (pre ++ x).length - pre.length = x.length := by rw [List.length_append, Nat.add_sub_cancel_left]
  have hle : pre.length ≤ (pre ++ x).length := by rw [List.length_append]; omega
  by_cases hx : x.length = 0
  · rcases ho.2 with ⟨rfl, h0⟩ | ⟨k, c, cur, rfl, _, _, hc, _⟩
    · have hp0 : pre.length = 0 := by omega
      have hs := fun W => slice_from W none 0 0 pre.length (by omega) (Nat.le_refl _)
      refine ⟨_, hs, none, 0, ?_, by omega, fun _ => rfl, fun i hi => by omega⟩
      rw [hp0, if_pos rfl, hx]
    · refine ⟨_, fun W => slice_from W _ _ _ _ hle hc, _, c - pre.length, by rw [hl], by omega, fun h => (by split at h <;> cases h), fun i hi => by omega⟩
  · obtain ⟨k, c, cur, rfl, _, hc, hcell⟩ := own38 ho (by rw [List.length_append]; omega)
    refine ⟨_, fun W => slice_from W _ _ _ _ hle hc, _, c - pre.length, by rw [hl], by omega, fun h => (by split at h <;> cases h), fun i hi => ?_⟩
    refine ⟨k, pre.length, by rw [if_neg (by omega)]; simp [Addr.add_lit], ?_⟩
    apply hcell
    rw [List.getElem?_map, List.getElem?_append_right (by omega), Nat.add_sub_cancel_left, List.getElem?_eq_getElem hi]; rfl

set_option maxRecDepth 100000 in
set_option maxHeartbeats 400000 in
theorem waiting_loose (g : Nat) (mk : Bool) (m : Nat) (v : Value) (pre x : List UInt8) (w : World) (h : LooseAt w g mk m v pre x) :
    Calls Try.prog 22 #[.pointer (some ⟨g, 0, none⟩)] w fun e w' => ∃ V, e = .returned V ∧ WaitV w V x ∧ Drawn w w' := by
  have c2 : w.cell? ⟨g, 2, none⟩ = some v := cell_of_row w _ 2 _ 40 (0, 0) h.1
  have c3 : w.cell? ⟨g, 3, none⟩ = some (.int .i64 (pre.length : Int)) := cell_of_row w _ 3 _ 40 (0, 0) h.1
  obtain ⟨V, hsl, hV⟩ := h.slice
  have HV := Lib.hid hV
  clear hV h
  go_enter Try.func22, Try.ntmps22
  go_wp2
  go_quiet (fail)
  go_wp2
  go_ret
  exact ⟨V, rfl, HV.out, ⟨_, rfl⟩⟩
theorem waiting_any (g : Nat) (A : Nat → Prop) (mk : Bool) (m : Nat) (x : List UInt8) (w : World) (h : BufAt w g A mk m x) :
    Calls Try.prog 22 #[.pointer (some ⟨g, 0, none⟩)] w fun e w' => ∃ V, e = .returned V ∧ WaitV w V x ∧ Drawn w w' := by
  obtain ⟨⟨v, pre, hl, _⟩, _⟩ := h
  exact waiting_loose g mk m v pre x w hl
set_option maxRecDepth 100000 in
set_option maxHeartbeats 400000 in
theorem len_loose (g : Nat) (mk : Bool) (m : Nat) (v : Value) (pre x : List UInt8) (w : World) (h : LooseAt w g mk m v pre x) :
    Calls Try.prog 20 #[.pointer (some ⟨g, 0, none⟩)] w fun e w' => e = .returned (.int .i64 (x.length : Int)) ∧ Drawn w w' := by
  go_enter Try.func20, Try.ntmps20
  go_wp2_with fail
  refine (waiting_loose g mk m v pre x w h).mono ?_
  rintro e W1 ⟨V, rfl, hV, hD⟩
  have hl := hV.len 3
  clear hV
  go_wp2
  go_ret
  exact ⟨rfl, hD⟩
end Go.Proofs.Ytgkinbichiahjaa
