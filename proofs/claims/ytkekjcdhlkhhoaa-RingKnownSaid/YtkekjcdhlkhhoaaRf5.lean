/- All walked, and its iterator. -/
import Derived.Test.YtkekjcdhlkhhoaaRf4
namespace Go.Proofs.Ytkekjcdhlkhhoaa
namespace Rf
open Go.RowKit Go.Shelf
attribute [local go_sem] store_one S_match S_store Oper.semAt_some

set_option maxRecDepth 100000 in
set_option maxHeartbeats 1000000 in
theorem all_seq (p : Option Addr) (B : Nat → Prop) (xs : List (List UInt8)) (Bx n : Nat) :
    SeqL Try.prog n 41 #[.pointer (some ⟨Bx, 0, none⟩)] enc 1 (fun _ => False) (pl xs) (fun W => Row W Bx #[.pointer p] 22 ∧ Look W p B xs ∧ ∀ k, B k → k < W.heap.size) := fun l J Jx W hOk hJ hJx hY h0 => by
  obtain ⟨hB, hL, hlt⟩ := hOk
  have hmx : Try.prog.follows .mixedOrders = true := by kernel_rfl
  have hfew := hL.few
  have hpl : (pl xs).length = xs.length := plc_len _ _
  have hd0 : Drawn W W.drew := ⟨1, rfl⟩
  have hcd : ∀ W', Drawn W W' ∨ Below W.heap.size W W' → W'.cell? ⟨Bx, 0, none⟩ = some (.pointer p) := fun W' h => by
    have hb : Below W.heap.size W W' := h.elim Drawn.below id
    exact cell_of_row W' Bx 0 _ 22 (0, 0) (hB.below hb hB.lt)
  refine callsIn_of_wp Try.func41 rfl trivial ?_ rfl
  simp only [Try.ntmps41, List.size_toArray, List.length_cons, List.length_nil, Nat.reduceAdd, Nat.reduceSub, Array.replicate_succ, Array.replicate_zero, List.push_toArray, List.append_toArray, List.nil_append, List.cons_append]
  obtain ⟨N, hN⟩ : ∃ N, N = xs.length := ⟨_, rfl⟩
  obtain ⟨b, hb⟩ : ∃ b, b = W.heap.size := ⟨_, rfl⟩
  have hln : Calls Try.prog 16 #[.pointer p] W.drew fun e w' => e = .returned (.int .i64 (N : Int)) ∧ w' = W.drew := by rw [hN]; exact (hL.drawn hd0).len
  have hth : Calls Try.prog 42 #[.pointer p, .int .i64 (N : Int)] W.drew fun e w' => e = .returned (.slice (some ⟨b, 0, none⟩) N N) ∧ LiesK K w' (.slice (some ⟨b, 0, none⟩) N N) xs ∧ b < w'.heap.size ∧ Below b W.drew w' := by
    have := things_core p B xs W.drew (hL.drawn hd0) hlt N (by omega) (by omega)
    rw [show N - xs.length = 0 by omega, List.replicate_zero, List.append_nil] at this
    rw [hb]; exact this
  have hlen : ∀ W, (Builtin.len_ #[83] 3 #[.slice (some ⟨b, 0, none⟩) N N]).run Try.prog W = .ok (.int .i64 (N : Int)) W := fun W => by simp [Builtin.len_, run_underlying Try.underlying83, Result.andThen, goInt]
  have hix : ∀ i, i < N → ∀ W, (Instr.indexAt 83 (.slice (some ⟨b, 0, none⟩) N N) (.int .i64 (i : Int))).run Try.prog W = .ok (.pointer (some ⟨b, 0 + i * K.sz, none⟩)) W := fun i hi W => LiesK.idx K b 0 N N i hi W
  have hnf : ∀ w, (binOp .eql 87 (.func (.yield l) #[] #[]) .nilFunc).run Try.prog w = .ok (.bool false) w := eql_nilFunc Try.underlying87 _ _ _
  have HC := Lib.hid hcd
  have HJ := Lib.hid (And.intro hJ (And.intro hJx h0))
  have HY := Lib.hid hY
  have HT := Lib.hid hth
  have HLN := Lib.hid hln
  have HI := Lib.hid hix
  have HB := Lib.hid (And.intro hb hN)
  clear hcd hJ hJx hY hth hln hL hB hlt h0 hb hix
  rw [hN.symm] at hfew hpl
  clear hN
  gi_wp2
  refine wide_region (fun wx => wx.cell? ⟨Bx, 0, none⟩ = some (.pointer p)) hmx ?_
  refine takeW (i := 0) (d := some 7) (v := .pointer p) rfl (by kernel_rfl) (by kernel_rfl) (by kernel_rfl) (fun _ _ _ h => h) (fun oi ho => ?_) (HC.out _ (.inl hd0)) ?_
  · obtain rfl := Option.some.inj ho
    exact Or.inl ⟨by rfl, fun wx k0 => by go_simp⟩
  simp only [Act.put, List.setIfInBounds_toArray, List.set_cons_zero, List.set_cons_succ]
  refine takeW (i := 1) (d := some 8) (v := .pointer p) rfl (by kernel_rfl) (by kernel_rfl) (by kernel_rfl) (fun _ _ _ h => h) (fun oi ho => ?_) (HC.out _ (.inl hd0)) ?_
  · obtain rfl := Option.some.inj ho
    exact Or.inl ⟨by rfl, fun wx k0 => by go_simp⟩
  simp only [Act.put, List.setIfInBounds_toArray, List.set_cons_zero, List.set_cons_succ]
  refine takeW (i := 5) (d := some 12) (v := .int .i64 0) rfl (by kernel_rfl) (by kernel_rfl) (by kernel_rfl) (fun _ _ _ h => h) (fun oi ho => ?_) (HC.out _ (.inl hd0)) ?_
  · obtain rfl := Option.some.inj ho
    exact Or.inl ⟨by rfl, fun wx k0 => by go_simp⟩
  simp only [Act.put, List.setIfInBounds_toArray, List.set_cons_zero, List.set_cons_succ]
  refine ready_callW (i := 2) (d := some 9) (f := 16) (args := #[.pointer p]) rfl (by kernel_rfl) (fun oi ho => ?_) ?_
  · obtain rfl := Option.some.inj ho
    exact ⟨by rfl, by go_simp⟩
  refine (HLN.out).mono ?_
  rintro e W0 ⟨rfl, hW0⟩
  obtain rfl := hW0.symm
  refine ⟨_, rfl, (HC.out _ (.inl hd0)), ?_⟩
  simp only [Act.put, List.setIfInBounds_toArray, List.set_cons_zero, List.set_cons_succ]
  refine ready_callW (i := 3) (d := some 10) (f := 42) (args := #[.pointer p, .int .i64 (N : Int)]) rfl (by kernel_rfl) (fun oi ho => ?_) ?_
  · obtain rfl := Option.some.inj ho
    exact ⟨by rfl, by go_simp⟩
  refine (HT.out).mono ?_
  rintro e W1 ⟨rfl, hl1, hz1, hb1⟩
  have hb1' : Below W.heap.size W W1 := by rw [← HB.out.1]; exact ((below_drewN W 1).mono (by have := HB.out.1; omega)).trans hb1
  have hJ1 : J [] W1 := HJ.out.1 [] W W1 none HJ.out.2.2 ⟨hb1'.os, hb1'.tape, hb1'.output, hb1'.size, fun k hk _ => hb1'.block k hk⟩ (fun r e => by cases e)
  refine ⟨_, rfl, (HC.out _ (.inr hb1')), ?_⟩
  simp only [Act.put, List.setIfInBounds_toArray, List.set_cons_zero, List.set_cons_succ]
  refine ready_valueW (i := 4) (d := some 11) (v := .int .i64 (N : Int)) (w' := W1) rfl (by kernel_rfl) (fun oi ho => ?_) (HC.out _ (.inr hb1')) ?_
  · obtain rfl := Option.some.inj ho
    exact ⟨by rfl, by go_simp⟩
  simp only [Act.put, List.setIfInBounds_toArray, List.set_cons_zero, List.set_cons_succ]
  refine wideW_done (by kernel_rfl) ?_ _
  have H1 := Lib.hid (And.intro hl1 (And.intro hz1 hJ1))
  clear hl1 hz1 hb1 hJ1 hb1'
  gi_wp2
  gi_loopw [12] (fun iv wr => ∃ (i : Nat), i ≤ N ∧ iv = .int .i64 (i : Int) ∧ b < wr.heap.size ∧ LiesK K wr (.slice (some ⟨b, 0, none⟩) N N) xs ∧ J ((pl xs).take i) wr) (fun iv _ => N - (intOf iv).toNat)
  case atStart => exact ⟨0, Nat.zero_le _, rfl, H1.out.2.1, H1.out.1, H1.out.2.2⟩
  case round =>
    obtain ⟨i, hi, rfl, hz, hLk, hJp⟩ := hrel
    by_cases hlt : i < N
    · obtain ⟨x, hx⟩ : ∃ x, xs[i]? = some x := ⟨xs[i]'(by have := HB.out.2; omega), List.getElem?_eq_getElem _⟩
      have hnx := plc_next [] xs i x hx
      have hpf : (pl xs).take i ++ [(i, x)] <+: pl xs := by
        rw [show (pl xs).take i ++ [(i, x)] = (pl xs).take (i + 1) from hnx]; exact List.take_prefix _ _
      have hixi := HI.out i hlt
      have h2 : LiesK K wr (.slice (some ⟨b, 0, none⟩) xs.length N) xs := by rw [← HB.out.2]; exact hLk
      have hcx : wr.cell? ⟨b, 0 + i * K.sz, none⟩ = some (S x) := by
        have := h2.rng i x hx 0 (S x) rfl
        rwa [Nat.add_zero] at this
      have hcy : wr.cell? ⟨b, 0 + i * K.sz + 1, none⟩ = some (S []) := h2.rng i x hx 1 (S []) rfl
      obtain ⟨W3, hW3⟩ : ∃ W3, W3 = wr.alloc (.cells #[S x, S []] 27) := ⟨_, rfl⟩
      have hb3 : Below wr.heap.size wr W3 := by rw [hW3]; exact (Below.refl _ wr).alloc (Nat.le_refl _) _
      have hn3 : Row W3 wr.heap.size #[S x, S []] 27 := by rw [hW3]; exact row_new wr _ _
      have hl3 : LiesK K W3 (.slice (some ⟨b, 0, none⟩) N N) xs := hLk.same hb3.size (fun j hj => hb3.block j (hLk.lt j hj))
      have hz3 : b < W3.heap.size := by have := hb3.size; omega
      have hj3 : J ((pl xs).take i) W3 := HJ.out.1 _ wr W3 none hJp ⟨hb3.os, hb3.tape, hb3.output, hb3.size, fun k hk _ => hb3.block k hk⟩ (fun r e => by cases e)
      obtain ⟨fn, tmps, assign, body, hy, hRd⟩ := HY.out _ (i, x) W3 hpf hj3 (by have := HB.out.1; omega)
      rw [show (pl xs).take i ++ [(i, x)] = (pl xs).take (i + 1) from hnx] at hRd
      have hy : (Instr.yield l #[.int .i64 (i : Int), (Value.agg #[S x, S []])]).run Try.prog W3 = .ok (.round l fn tmps assign body) W3 := hy
      have n0 : W3.cell? ⟨wr.heap.size, 0, none⟩ = some (S x) := cell_of_row W3 _ 0 _ 27 (0, 0) hn3
      have n1 : W3.cell? ⟨wr.heap.size, 1, none⟩ = some (S []) := cell_of_row W3 _ 1 _ 27 (0, 0) hn3
      rw [hW3] at n0 n1 hy
      generalize 0 + i * K.sz = q at *
      have HR := Lib.hid hRd
      have HK := Lib.hid hl3
      have hz := hz3
      clear hRd hLk hJp hnx hpf hx hpl h2 hb3 hn3 hl3 hj3 hz3
      gi_wp2_with fail
      rw [← hW3]
      clear hW3 n0 n1 hy
      refine ⟨fun h => absurd h (by simp [Fence.wide]), HR.out.mono ?_⟩
      rintro e W4 (⟨rfl, hJ4, hk4⟩ | ⟨rfl, hJx4, _⟩)
      · have hl4 : LiesK K W4 (.slice (some ⟨b, 0, none⟩) N N) xs := HK.out.same hk4.size (fun k hk => hk4.same k (.inr (by have h5 : b = k := Option.some.inj hk; have := HB.out.1; omega)))
        have hz4 : b < W4.heap.size := Nat.lt_of_lt_of_le hz hk4.size
        have H4 := Lib.hid (And.intro hz4 (And.intro hl4 hJ4))
        clear hz4 hl4 hJ4 hk4
        gi_wp2
        exact ⟨⟨i + 1, by omega, by go_num, H4.out⟩, by simp [intOf]; omega⟩
      · have H4 := Lib.hid hJx4
        clear hJx4
        gi_wp2
        refine bodyPost_ret (results_none rfl _ _ _) rfl ?_
        exact ⟨⟨_, rfl⟩, .inr ⟨(pl xs).take (i + 1), List.take_prefix _ _, H4.out⟩⟩
    · obtain rfl : i = N := by omega
      have H2 := Lib.hid hJp
      clear hLk hJp
      gi_wp2
      go_end0
      exact ⟨⟨_, rfl⟩, .inl (by have := H2.out; rwa [List.take_of_length_le (by omega)] at this)⟩
set_option maxRecDepth 100000 in
set_option maxHeartbeats 400000 in
theorem all_any (p : Option Addr) (B : Nat → Prop) (xs : List (List UInt8)) (w : World) (hL : Look w p B xs) (hB : ∀ k, B k → k < w.heap.size) :
    Calls Try.prog 11 #[.pointer p] w fun e w' => ∃ gf lb k Kb, e = .returned (.func (.func gf) #[] lb) ∧ Below w.heap.size w w' ∧ (∀ r, Kb r → w.heap.size ≤ r ∧ r < w'.heap.size) ∧
    (∀ args W, (callFunc gf args).run Try.prog W = .ok (.enter gf args) W) ∧ ∀ n, SeqL Try.prog n gf lb enc k Kb (pl xs) (fun W => Below w'.heap.size w' W) := by
  have HH := Lib.hid (And.intro hL hB)
  clear hL hB
  go_enter Try.func11, Try.ntmps11
  go_wp2
  go_ret
  obtain ⟨hL, hB⟩ := HH.out
  refine ⟨_, _, 1, fun _ => False, rfl, (Below.refl _ w).alloc (Nat.le_refl _) _, fun r h => h.elim, enters_of Try.func41 (by kernel_rfl) rfl, fun n l J Jx W hOk => all_seq p B xs w.heap.size n l J Jx W ⟨?_, ?_, ?_⟩⟩
  · exact (row_new w #[.pointer p] 22).below hOk (by simp)
  · exact (hL.same (by simp) (fun k hk => heap_alloc_old w _ (hB k hk))).same hOk.size (fun k hk => hOk.block k (by have := hB k hk; simp; omega))
  · intro k hk
    have := hB k hk
    have := hOk.size
    simp at this
    omega
end Rf
end Go.Proofs.Ytkekjcdhlkhhoaa
