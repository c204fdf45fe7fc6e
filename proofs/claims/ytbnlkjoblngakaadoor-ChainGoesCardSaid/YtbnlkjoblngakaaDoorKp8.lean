/- The landed package of chains: steps put around a handler. (mkkp8.py writes it.) -/
import Derived.Test.YtbnlkjoblngakaaDoorKp5
namespace Go.Proofs.YtbnlkjoblngakaaDoor
open Go.RowKit Go.Shelf
attribute [local go_sem] store_one S_match S_store

set_option maxRecDepth 100000 in
set_option maxHeartbeats 1000000 in
theorem apart_made (g : Nat) (lb : Array Value) (w : World) : Calls Tryd.prog 30 #[hV g lb] w fun e w' => e = .returned (hV 43 #[.pointer (some ⟨w.heap.size, 0, none⟩)]) ∧ Row w' (w.heap.size) #[hV g lb] 40 ∧ w'.heap.size = w.heap.size + 1 ∧ Below w.heap.size w w' := by
  obtain ⟨W1, hW1⟩ : ∃ W, W = World.alloc w (.cells #[hV g lb] 40) := ⟨_, rfl⟩
  have hs1 : W1.heap.size = w.heap.size + 1 := by rw [hW1, alloc_size]
  have hB1 : Below w.heap.size w W1 := by rw [hW1]; exact (Below.refl _ _).alloc (by omega) _
  have hr1 : Row W1 (w.heap.size) #[hV g lb] 40 := by rw [hW1]; exact row_new _ _ _
  have HE := Lib.hid (And.intro hr1 (And.intro hs1 hB1))
  rw [hW1] at HE
  clear hr1 hs1 hB1
  unfold hV at *
  go_enter Tryd.func30, Tryd.ntmps30
  go_wp2
  go_ret
  exact ⟨rfl, HE.out.1, HE.out.2⟩
set_option maxRecDepth 100000 in
set_option maxHeartbeats 1000000 in
theorem need_made (n v : Tx) (g : Nat) (lb : Array Value) (w : World) : Calls Tryd.prog 46 #[S n, S v, hV g lb] w fun e w' => e = .returned (hV 59 #[.pointer (some ⟨w.heap.size, 0, none⟩), .pointer (some ⟨w.heap.size + 1, 0, none⟩), .pointer (some ⟨w.heap.size + 2, 0, none⟩)]) ∧ Row w' (w.heap.size) #[S n] 9 ∧ Row w' (w.heap.size + 1) #[S v] 9 ∧ Row w' (w.heap.size + 2) #[hV g lb] 40 ∧ w'.heap.size = w.heap.size + 3 ∧ Below w.heap.size w w' := by
  obtain ⟨W1, hW1⟩ : ∃ W, W = World.alloc w (.cells #[S n] 9) := ⟨_, rfl⟩
  obtain ⟨W2, hW2⟩ : ∃ W, W = World.alloc W1 (.cells #[S v] 9) := ⟨_, rfl⟩
  obtain ⟨W3, hW3⟩ : ∃ W, W = World.alloc W2 (.cells #[hV g lb] 40) := ⟨_, rfl⟩
  have hs1 : W1.heap.size = w.heap.size + 1 := by rw [hW1, alloc_size]
  have hs2 : W2.heap.size = w.heap.size + 2 := by rw [hW2, alloc_size]; omega
  have hs3 : W3.heap.size = w.heap.size + 3 := by rw [hW3, alloc_size]; omega
  have hB1 : Below w.heap.size w W1 := by rw [hW1]; exact (Below.refl _ _).alloc (by omega) _
  have hB2 : Below w.heap.size w W2 := by rw [hW2]; exact (hB1).alloc (by omega) _
  have hB3 : Below w.heap.size w W3 := by rw [hW3]; exact (hB2).alloc (by omega) _
  have hr1 : Row W1 (w.heap.size) #[S n] 9 := by rw [hW1]; exact row_new _ _ _
  have hr1 : Row W2 (w.heap.size) #[S n] 9 := by rw [hW2]; exact hr1.alloc _
  have hr1 : Row W3 (w.heap.size) #[S n] 9 := by rw [hW3]; exact hr1.alloc _
  have hr2 : Row W2 (w.heap.size + 1) #[S v] 9 := by rw [hW2, ← hs1]; exact row_new _ _ _
  have hr2 : Row W3 (w.heap.size + 1) #[S v] 9 := by rw [hW3]; exact hr2.alloc _
  have hr3 : Row W3 (w.heap.size + 2) #[hV g lb] 40 := by rw [hW3, ← hs2]; exact row_new _ _ _
  have HE := Lib.hid (And.intro (And.intro hr1 (And.intro hr2 hr3)) (And.intro hs3 hB3))
  rw [hW3, hW2, hW1] at HE
  clear hr1 hs1 hB1 hr2 hs2 hB2 hr3 hs3 hB3
  unfold hV at *
  go_enter Tryd.func46, Tryd.ntmps46
  go_wp2
  go_ret
  exact ⟨rfl, HE.out.1.1, HE.out.1.2.1, HE.out.1.2.2, HE.out.2⟩
set_option maxRecDepth 100000 in
set_option maxHeartbeats 1000000 in
theorem limit_made (i : Int) (g : Nat) (lb : Array Value) (w : World) : Calls Tryd.prog 47 #[.int .i64 i, hV g lb] w fun e w' => e = .returned (hV 62 #[.pointer (some ⟨w.heap.size, 0, none⟩), .pointer (some ⟨w.heap.size + 1, 0, none⟩)]) ∧ Row w' (w.heap.size) #[.int .i64 i] 3 ∧ Row w' (w.heap.size + 1) #[hV g lb] 40 ∧ w'.heap.size = w.heap.size + 2 ∧ Below w.heap.size w w' := by
  obtain ⟨W1, hW1⟩ : ∃ W, W = World.alloc w (.cells #[.int .i64 i] 3) := ⟨_, rfl⟩
  obtain ⟨W2, hW2⟩ : ∃ W, W = World.alloc W1 (.cells #[hV g lb] 40) := ⟨_, rfl⟩
  have hs1 : W1.heap.size = w.heap.size + 1 := by rw [hW1, alloc_size]
  have hs2 : W2.heap.size = w.heap.size + 2 := by rw [hW2, alloc_size]; omega
  have hB1 : Below w.heap.size w W1 := by rw [hW1]; exact (Below.refl _ _).alloc (by omega) _
  have hB2 : Below w.heap.size w W2 := by rw [hW2]; exact (hB1).alloc (by omega) _
  have hr1 : Row W1 (w.heap.size) #[.int .i64 i] 3 := by rw [hW1]; exact row_new _ _ _
  have hr1 : Row W2 (w.heap.size) #[.int .i64 i] 3 := by rw [hW2]; exact hr1.alloc _
  have hr2 : Row W2 (w.heap.size + 1) #[hV g lb] 40 := by rw [hW2, ← hs1]; exact row_new _ _ _
  have HE := Lib.hid (And.intro (And.intro hr1 hr2) (And.intro hs2 hB2))
  rw [hW2, hW1] at HE
  clear hr1 hs1 hB1 hr2 hs2 hB2
  unfold hV at *
  go_enter Tryd.func47, Tryd.ntmps47
  go_wp2
  go_ret
  exact ⟨rfl, HE.out.1.1, HE.out.1.2, HE.out.2⟩
set_option maxRecDepth 100000 in
set_option maxHeartbeats 1000000 in
theorem take_made (v : Tx) (g : Nat) (lb : Array Value) (w : World) : Calls Tryd.prog 48 #[S v, hV g lb] w fun e w' => e = .returned (hV 63 #[.pointer (some ⟨w.heap.size, 0, none⟩), .pointer (some ⟨w.heap.size + 1, 0, none⟩)]) ∧ Row w' (w.heap.size) #[S v] 9 ∧ Row w' (w.heap.size + 1) #[hV g lb] 40 ∧ w'.heap.size = w.heap.size + 2 ∧ Below w.heap.size w w' := by
  obtain ⟨W1, hW1⟩ : ∃ W, W = World.alloc w (.cells #[S v] 9) := ⟨_, rfl⟩
  obtain ⟨W2, hW2⟩ : ∃ W, W = World.alloc W1 (.cells #[hV g lb] 40) := ⟨_, rfl⟩
  have hs1 : W1.heap.size = w.heap.size + 1 := by rw [hW1, alloc_size]
  have hs2 : W2.heap.size = w.heap.size + 2 := by rw [hW2, alloc_size]; omega
  have hB1 : Below w.heap.size w W1 := by rw [hW1]; exact (Below.refl _ _).alloc (by omega) _
  have hB2 : Below w.heap.size w W2 := by rw [hW2]; exact (hB1).alloc (by omega) _
  have hr1 : Row W1 (w.heap.size) #[S v] 9 := by rw [hW1]; exact row_new _ _ _
  have hr1 : Row W2 (w.heap.size) #[S v] 9 := by rw [hW2]; exact hr1.alloc _
  have hr2 : Row W2 (w.heap.size + 1) #[hV g lb] 40 := by rw [hW2, ← hs1]; exact row_new _ _ _
  have HE := Lib.hid (And.intro (And.intro hr1 hr2) (And.intro hs2 hB2))
  rw [hW2, hW1] at HE
  clear hr1 hs1 hB1 hr2 hs2 hB2
  unfold hV at *
  go_enter Tryd.func48, Tryd.ntmps48
  go_wp2
  go_ret
  exact ⟨rfl, HE.out.1.1, HE.out.1.2, HE.out.2⟩
set_option maxRecDepth 100000 in
set_option maxHeartbeats 1000000 in
theorem who_made (n v : Tx) (g : Nat) (lb : Array Value) (w : World) : Calls Tryd.prog 49 #[S n, S v, hV g lb] w fun e w' => e = .returned (hV 65 #[.pointer (some ⟨w.heap.size, 0, none⟩), .pointer (some ⟨w.heap.size + 2, 0, none⟩), .pointer (some ⟨w.heap.size + 1, 0, none⟩)]) ∧ Row w' (w.heap.size) #[S n] 9 ∧ Row w' (w.heap.size + 1) #[S v] 9 ∧ Row w' (w.heap.size + 2) #[hV g lb] 40 ∧ w'.heap.size = w.heap.size + 3 ∧ Below w.heap.size w w' := by
  obtain ⟨W1, hW1⟩ : ∃ W, W = World.alloc w (.cells #[S n] 9) := ⟨_, rfl⟩
  obtain ⟨W2, hW2⟩ : ∃ W, W = World.alloc W1 (.cells #[S v] 9) := ⟨_, rfl⟩
  obtain ⟨W3, hW3⟩ : ∃ W, W = World.alloc W2 (.cells #[hV g lb] 40) := ⟨_, rfl⟩
  have hs1 : W1.heap.size = w.heap.size + 1 := by rw [hW1, alloc_size]
  have hs2 : W2.heap.size = w.heap.size + 2 := by rw [hW2, alloc_size]; omega
  have hs3 : W3.heap.size = w.heap.size + 3 := by rw [hW3, alloc_size]; omega
  have hB1 : Below w.heap.size w W1 := by rw [hW1]; exact (Below.refl _ _).alloc (by omega) _
  have hB2 : Below w.heap.size w W2 := by rw [hW2]; exact (hB1).alloc (by omega) _
  have hB3 : Below w.heap.size w W3 := by rw [hW3]; exact (hB2).alloc (by omega) _
  have hr1 : Row W1 (w.heap.size) #[S n] 9 := by rw [hW1]; exact row_new _ _ _
  have hr1 : Row W2 (w.heap.size) #[S n] 9 := by rw [hW2]; exact hr1.alloc _
  have hr1 : Row W3 (w.heap.size) #[S n] 9 := by rw [hW3]; exact hr1.alloc _
  have hr2 : Row W2 (w.heap.size + 1) #[S v] 9 := by rw [hW2, ← hs1]; exact row_new _ _ _
  have hr2 : Row W3 (w.heap.size + 1) #[S v] 9 := by rw [hW3]; exact hr2.alloc _
  have hr3 : Row W3 (w.heap.size + 2) #[hV g lb] 40 := by rw [hW3, ← hs2]; exact row_new _ _ _
  have HE := Lib.hid (And.intro (And.intro hr1 (And.intro hr2 hr3)) (And.intro hs3 hB3))
  rw [hW3, hW2, hW1] at HE
  clear hr1 hs1 hB1 hr2 hs2 hB2 hr3 hs3 hB3
  unfold hV at *
  go_enter Tryd.func49, Tryd.ntmps49
  go_wp2
  go_ret
  exact ⟨rfl, HE.out.1.1, HE.out.1.2.1, HE.out.1.2.2, HE.out.2⟩
set_option maxRecDepth 100000 in
set_option maxHeartbeats 1000000 in
theorem add_made (n v : Tx) (g : Nat) (lb : Array Value) (w : World) : Calls Tryd.prog 50 #[.agg #[S n, S v], hV g lb] w fun e w' => e = .returned (hV 67 #[.pointer (some ⟨w.heap.size + 1, 0, none⟩), .pointer (some ⟨w.heap.size, 0, none⟩)]) ∧ Row w' (w.heap.size) #[S n, S v] 53 ∧ Row w' (w.heap.size + 1) #[hV g lb] 40 ∧ w'.heap.size = w.heap.size + 2 ∧ Below w.heap.size w w' := by
  obtain ⟨W1, hW1⟩ : ∃ W, W = World.alloc w (.cells #[S n, S v] 53) := ⟨_, rfl⟩
  obtain ⟨W2, hW2⟩ : ∃ W, W = World.alloc W1 (.cells #[hV g lb] 40) := ⟨_, rfl⟩
  have hs1 : W1.heap.size = w.heap.size + 1 := by rw [hW1, alloc_size]
  have hs2 : W2.heap.size = w.heap.size + 2 := by rw [hW2, alloc_size]; omega
  have hB1 : Below w.heap.size w W1 := by rw [hW1]; exact (Below.refl _ _).alloc (by omega) _
  have hB2 : Below w.heap.size w W2 := by rw [hW2]; exact (hB1).alloc (by omega) _
  have hr1 : Row W1 (w.heap.size) #[S n, S v] 53 := by rw [hW1]; exact row_new _ _ _
  have hr1 : Row W2 (w.heap.size) #[S n, S v] 53 := by rw [hW2]; exact hr1.alloc _
  have hr2 : Row W2 (w.heap.size + 1) #[hV g lb] 40 := by rw [hW2, ← hs1]; exact row_new _ _ _
  have HE := Lib.hid (And.intro (And.intro hr1 hr2) (And.intro hs2 hB2))
  rw [hW2, hW1] at HE
  clear hr1 hs1 hB1 hr2 hs2 hB2
  unfold hV at *
  go_enter Tryd.func50, Tryd.ntmps50
  go_wp2
  go_ret
  exact ⟨rfl, HE.out.1.1, HE.out.1.2, HE.out.2⟩
theorem right_kind {s : Stp} (h : rightS s = true) : s.kind = 1 ∨ s.kind = 2 ∨ s.kind = 3 ∨ s.kind = 4 ∨ s.kind = 5 := by
  unfold rightS at h
  repeat' split at h
  all_goals first | omega | (cases h; done)
/-- What a step put around makes its own: the blocks that it made. -/
def KK (K : Nat → Prop) (a b : Nat) (k : Nat) : Prop := K k ∨ (a ≤ k ∧ k < b)
set_option maxRecDepth 100000 in
set_option maxHeartbeats 1000000 in
theorem around_any {K1 : Nat → Prop} {W0 : World} {s : Stp} {g gh : Nat} {lb lbh : Array Value} {l : List Stp} (hen : Entering g) (hd : DoesB K1 W0 g lb l gh lbh) (hK1 : ∀ k, K1 k → k < W0.heap.size) (hl : l.length ≤ 100) (hr : rightS s = true) (hln : s.name.length ≤ 100) (hlv : s.val.length ≤ 100) :
    Calls Tryd.prog 32 #[stV s, hV g lb] W0 fun e w' => Below W0.heap.size W0 w' ∧ ∃ g' lb', e = .returned (hV g' lb') ∧ Entering g' ∧ DoesB (KK K1 W0.heap.size w'.heap.size) w' g' lb' (s :: l) gh lbh := by
  have hk := right_kind hr
  obtain ⟨W1, hW1⟩ : ∃ W, W = W0.alloc (.cells (stC s) 35) := ⟨_, rfl⟩
  have hs1 : W1.heap.size = W0.heap.size + 1 := by rw [hW1, alloc_size]
  have hB1 : Below W0.heap.size W0 W1 := by rw [hW1]; exact (Below.refl _ _).alloc (Nat.le_refl _) _
  have fin : ∀ w2 : World, Below W1.heap.size W1 w2 → Below W0.heap.size W0 w2 ∧ W0.heap.size ≤ w2.heap.size ∧ (∀ k, K1 k → w2.heap[k]? = W0.heap[k]?) ∧ (∀ k, K1 k → KK K1 W0.heap.size w2.heap.size k) ∧ (∀ k, KK K1 W0.heap.size w2.heap.size k → k < w2.heap.size) := fun w2 hb => by
    have h := hB1.trans (hb.mono hB1.size)
    have hsz := h.size
    refine ⟨h, hsz, fun k hk => h.block k (hK1 k hk), fun k hk => .inl hk, fun k hk => ?_⟩
    rcases hk with hk | hk
    · have := hK1 k hk; omega
    · exact hk.2
  have HF := Lib.hid fin
  have HK := Lib.hid (And.intro hen (And.intro hd (And.intro hl (And.intro hln (And.intro hlv hs1)))))
  obtain ⟨kd, nm, vl, sn⟩ := s
  dsimp only at hk
  unfold stV stC
  unfold stC at hW1
  dsimp only at hW1 ⊢
  clear fin hen hd hl hr hln hlv hs1 hK1
  rcases hk with hk | hk | hk | hk | hk
  · have HC := Lib.hid (add_made nm vl g lb W1)
    have e2 : (kd == 2) = false := by rw [beq_eq_false_iff_ne]; omega
    have e3 : (kd == 3) = false := by rw [beq_eq_false_iff_ne]; omega
    have e4 : (kd == 4) = false := by rw [beq_eq_false_iff_ne]; omega
    have e5 : (kd == 5) = false := by rw [beq_eq_false_iff_ne]; omega
    have HKD := Lib.hid hk
    rw [hW1] at HC
    unfold hV at HC ⊢
    clear hk
    go_enter Tryd.func32, Tryd.ntmps32
    go_wp2_with fail
    refine HC.out.mono ?_
    rintro e w2 ⟨rfl, hr1, hr2, hs2, hB2⟩
    rw [← hW1] at hr1 hr2 hs2 hB2
    rw [← hW1]
    have HE := Lib.hid (And.intro hs2 (And.intro hB2 (And.intro hr1 hr2)))
    clear hs2 hB2 HC hr1 hr2
    go_wp2
    go_ret
    obtain ⟨f1, f2, f3, f4, f5⟩ := HF.out w2 HE.out.2.1
    obtain ⟨hen, hd, hl, hln, hlv, hs1⟩ := HK.out
    have hs2 := HE.out.1
    have q0 := HE.out.2.2.1
    rw [hs1] at q0
    have q1 := HE.out.2.2.2
    rw [hs1] at q1
    exact ⟨f1, 67, _, rfl, enters_of Tryd.func67 (by kernel_rfl) rfl, add_does f2 f3 f4 f5 hen hd hl HKD.out hln hlv (.inr ⟨by omega, by omega⟩) q1 (.inr ⟨by omega, by omega⟩) q0⟩
  · have HC := Lib.hid (need_made nm vl g lb W1)
    have e2 : (kd == 2) = true := by rw [beq_iff_eq]; omega
    have e3 : (kd == 3) = false := by rw [beq_eq_false_iff_ne]; omega
    have e4 : (kd == 4) = false := by rw [beq_eq_false_iff_ne]; omega
    have e5 : (kd == 5) = false := by rw [beq_eq_false_iff_ne]; omega
    have HKD := Lib.hid hk
    rw [hW1] at HC
    unfold hV at HC ⊢
    clear hk
    go_enter Tryd.func32, Tryd.ntmps32
    go_wp2_with fail
    refine HC.out.mono ?_
    rintro e w2 ⟨rfl, hr1, hr2, hr3, hs2, hB2⟩
    rw [← hW1] at hr1 hr2 hr3 hs2 hB2
    rw [← hW1]
    have HE := Lib.hid (And.intro hs2 (And.intro hB2 (And.intro hr1 (And.intro hr2 hr3))))
    clear hs2 hB2 HC hr1 hr2 hr3
    go_wp2
    go_ret
    obtain ⟨f1, f2, f3, f4, f5⟩ := HF.out w2 HE.out.2.1
    obtain ⟨hen, hd, hl, hln, hlv, hs1⟩ := HK.out
    have hs2 := HE.out.1
    have q0 := HE.out.2.2.1
    rw [hs1] at q0
    have q1 := HE.out.2.2.2.1
    rw [hs1] at q1
    have q2 := HE.out.2.2.2.2
    rw [hs1] at q2
    exact ⟨f1, 59, _, rfl, enters_of Tryd.func59 (by kernel_rfl) rfl, need_does f2 f3 f4 f5 hen hd hl HKD.out hln hlv (.inr ⟨by omega, by omega⟩) q0 (.inr ⟨by omega, by omega⟩) q1 (.inr ⟨by omega, by omega⟩) q2⟩
  · have HC := Lib.hid (limit_made sn g lb W1)
    have e2 : (kd == 2) = false := by rw [beq_eq_false_iff_ne]; omega
    have e3 : (kd == 3) = true := by rw [beq_iff_eq]; omega
    have e4 : (kd == 4) = false := by rw [beq_eq_false_iff_ne]; omega
    have e5 : (kd == 5) = false := by rw [beq_eq_false_iff_ne]; omega
    have HKD := Lib.hid hk
    rw [hW1] at HC
    unfold hV at HC ⊢
    clear hk
    go_enter Tryd.func32, Tryd.ntmps32
    go_wp2_with fail
    refine HC.out.mono ?_
    rintro e w2 ⟨rfl, hr1, hr2, hs2, hB2⟩
    rw [← hW1] at hr1 hr2 hs2 hB2
    rw [← hW1]
    have HE := Lib.hid (And.intro hs2 (And.intro hB2 (And.intro hr1 hr2)))
    clear hs2 hB2 HC hr1 hr2
    go_wp2
    go_ret
    obtain ⟨f1, f2, f3, f4, f5⟩ := HF.out w2 HE.out.2.1
    obtain ⟨hen, hd, hl, hln, hlv, hs1⟩ := HK.out
    have hs2 := HE.out.1
    have q0 := HE.out.2.2.1
    rw [hs1] at q0
    have q1 := HE.out.2.2.2
    rw [hs1] at q1
    exact ⟨f1, 62, _, rfl, enters_of Tryd.func62 (by kernel_rfl) rfl, limit_does f2 f3 f4 f5 hen hd hl HKD.out hln hlv (.inr ⟨by omega, by omega⟩) q0 (.inr ⟨by omega, by omega⟩) q1⟩
  · have HC := Lib.hid (take_made vl g lb W1)
    have e2 : (kd == 2) = false := by rw [beq_eq_false_iff_ne]; omega
    have e3 : (kd == 3) = false := by rw [beq_eq_false_iff_ne]; omega
    have e4 : (kd == 4) = true := by rw [beq_iff_eq]; omega
    have e5 : (kd == 5) = false := by rw [beq_eq_false_iff_ne]; omega
    have HKD := Lib.hid hk
    rw [hW1] at HC
    unfold hV at HC ⊢
    clear hk
    go_enter Tryd.func32, Tryd.ntmps32
    go_wp2_with fail
    refine HC.out.mono ?_
    rintro e w2 ⟨rfl, hr1, hr2, hs2, hB2⟩
    rw [← hW1] at hr1 hr2 hs2 hB2
    rw [← hW1]
    have HE := Lib.hid (And.intro hs2 (And.intro hB2 (And.intro hr1 hr2)))
    clear hs2 hB2 HC hr1 hr2
    go_wp2
    go_ret
    obtain ⟨f1, f2, f3, f4, f5⟩ := HF.out w2 HE.out.2.1
    obtain ⟨hen, hd, hl, hln, hlv, hs1⟩ := HK.out
    have hs2 := HE.out.1
    have q0 := HE.out.2.2.1
    rw [hs1] at q0
    have q1 := HE.out.2.2.2
    rw [hs1] at q1
    exact ⟨f1, 63, _, rfl, enters_of Tryd.func63 (by kernel_rfl) rfl, take_does f2 f3 f4 f5 hen hd hl HKD.out hln hlv (.inr ⟨by omega, by omega⟩) q0 (.inr ⟨by omega, by omega⟩) q1⟩
  · have HC := Lib.hid (who_made nm vl g lb W1)
    have e2 : (kd == 2) = false := by rw [beq_eq_false_iff_ne]; omega
    have e3 : (kd == 3) = false := by rw [beq_eq_false_iff_ne]; omega
    have e4 : (kd == 4) = false := by rw [beq_eq_false_iff_ne]; omega
    have e5 : (kd == 5) = true := by rw [beq_iff_eq]; omega
    have HKD := Lib.hid hk
    rw [hW1] at HC
    unfold hV at HC ⊢
    clear hk
    go_enter Tryd.func32, Tryd.ntmps32
    go_wp2_with fail
    refine HC.out.mono ?_
    rintro e w2 ⟨rfl, hr1, hr2, hr3, hs2, hB2⟩
    rw [← hW1] at hr1 hr2 hr3 hs2 hB2
    rw [← hW1]
    have HE := Lib.hid (And.intro hs2 (And.intro hB2 (And.intro hr1 (And.intro hr2 hr3))))
    clear hs2 hB2 HC hr1 hr2 hr3
    go_wp2
    go_ret
    obtain ⟨f1, f2, f3, f4, f5⟩ := HF.out w2 HE.out.2.1
    obtain ⟨hen, hd, hl, hln, hlv, hs1⟩ := HK.out
    have hs2 := HE.out.1
    have q0 := HE.out.2.2.1
    rw [hs1] at q0
    have q1 := HE.out.2.2.2.1
    rw [hs1] at q1
    have q2 := HE.out.2.2.2.2
    rw [hs1] at q2
    exact ⟨f1, 65, _, rfl, enters_of Tryd.func65 (by kernel_rfl) rfl, who_does f2 f3 f4 f5 hen hd hl HKD.out hln hlv (.inr ⟨by omega, by omega⟩) q0 (.inr ⟨by omega, by omega⟩) q2 (.inr ⟨by omega, by omega⟩) q1⟩
end Go.Proofs.YtbnlkjoblngakaaDoor
