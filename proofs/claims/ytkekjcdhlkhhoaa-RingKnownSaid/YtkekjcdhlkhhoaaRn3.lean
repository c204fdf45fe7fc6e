/- A ring, or none, looked at; the iterator of those that stand. -/
import Derived.Test.YtkekjcdhlkhhoaaRn2
import Derived.Shelf.Abstract
import Derived.Shelf.RegionOpen
namespace Go.Proofs.Ytkekjcdhlkhhoaa
namespace Rn
open Go.RowKit Go.Shelf
attribute [local go_sem] store_one S_match S_store Oper.semAt_some

/-- What p points to holds xs (none: nothing), in blocks of B. -/
def Look (w : World) (p : Option Addr) (B : Nat → Prop) (xs : List (Int)) : Prop :=
  (p = none ∧ xs = []) ∨ ∃ g m v f cs, p = some ⟨g, 0, none⟩ ∧ Core w g m v f cs xs ∧ B g ∧ ∀ k, v.ownBlock = some k → B k
section
variable {w w' : World} {p : Option Addr} {B : Nat → Prop} {xs : List (Int)}
theorem Look.same (h : Look w p B xs) (hs : w.heap.size ≤ w'.heap.size) (hb : ∀ k, B k → w'.heap[k]? = w.heap[k]?) : Look w' p B xs := by
  rcases h with h | ⟨g, m, v, f, cs, hp, hc, hg, hv⟩
  · exact .inl h
  · exact .inr ⟨g, m, v, f, cs, hp, hc.same hs (hb g hg) (fun k hk => hb k (hv k hk)), hg, hv⟩
theorem Look.drawn (h : Look w p B xs) (hd : Drawn w w') : Look w' p B xs := by
  obtain ⟨n, rfl⟩ := hd
  exact h.same (Nat.le_refl _) (fun _ _ => rfl)
theorem Look.len (h : Look w p B xs) : Calls Try.prog 28 #[.pointer p] w fun e w' => e = .returned (.int .i64 (xs.length : Int)) ∧ w' = w := by
  rcases h with ⟨rfl, rfl⟩ | ⟨g, m, v, f, cs, rfl, hc, _⟩
  · exact len_nil w
  · exact len_core hc
theorem Look.few (h : Look w p B xs) : xs.length ≤ 65536 := by
  rcases h with ⟨_, rfl⟩ | ⟨g, m, v, f, cs, _, hc, _⟩
  · exact Nat.zero_le _
  · have := hc.few; omega
end
def enc (x : Nat × (Int)) : Array Value := #[.int .i64 (x.1 : Int), (Value.int .i64 x.2)]
def pl (xs : List (Int)) : List (Nat × (Int)) := plc 0 xs

set_option maxRecDepth 100000 in
set_option maxHeartbeats 1000000 in
theorem standing_seq (p : Option Addr) (B : Nat → Prop) (xs : List (Int)) (Bx n : Nat) :
    SeqL Try.prog n 69 #[.pointer (some ⟨Bx, 0, none⟩)] enc 0 (fun r => r = Bx ∨ B r) (pl xs) (fun W => Row W Bx #[.pointer p] 35 ∧ Look W p B xs ∧ ∀ k, B k → k < W.heap.size) := fun l J Jx W hOk hJ hJx hY h0 => by
  obtain ⟨hB, hL, hlt⟩ := hOk
  have cB := cell_of_row W Bx 0 _ 35 (0, 0) hB
  have hmx : Try.prog.follows .mixedOrders = true := by kernel_rfl
  have hfew := hL.few
  have hpl : (pl xs).length = xs.length := plc_len _ _
  have hBlt := hB.lt
  refine callsIn_of_wp Try.func69 rfl trivial ?_ rfl
  simp only [Try.ntmps69, List.size_toArray, List.length_cons, List.length_nil, Nat.reduceAdd, Nat.reduceSub, Array.replicate_succ, Array.replicate_zero, List.push_toArray, List.append_toArray, List.nil_append, List.cons_append]
  have H0 := Lib.hid (And.intro hB (And.intro hL h0))
  have HJ := Lib.hid (And.intro hJ hJx)
  have HY := Lib.hid hY
  have HT := Lib.hid hlt
  clear hB hL h0 hJ hJx hY hlt
  gi_wp2_with fail
  refine ⟨trivial, fun h => absurd h (by simp [Fence.wide]), (callsIn_wide.2 H0.out.2.1.len).mono ?_⟩
  rintro e W0 ⟨rfl, hW0⟩
  obtain rfl := hW0.symm
  obtain ⟨N, hN⟩ : ∃ N, N = xs.length := ⟨_, rfl⟩
  rw [← hN] at hfew hpl ⊢
  have HN := Lib.hid hN
  clear hN
  gi_wp2
  gi_loopw [6] (fun iv wr => ∃ (i : Nat), i ≤ N ∧ iv = .int .i64 (i : Int) ∧ W.heap.size ≤ wr.heap.size ∧ Row wr Bx #[.pointer p] 35 ∧ Look wr p B xs ∧ J ((pl xs).take i) wr) (fun iv _ => N - (intOf iv).toNat)
  case atStart => exact ⟨0, Nat.zero_le _, rfl, Nat.le_refl _, H0.out.1, H0.out.2.1, H0.out.2.2⟩
  case round =>
    obtain ⟨i, hi, rfl, hz, hR, hLk, hJp⟩ := hrel
    by_cases hlt : i < N
    · obtain ⟨x, hx⟩ : ∃ x, xs[i]? = some x := ⟨xs[i]'(by have := HN.out; omega), List.getElem?_eq_getElem _⟩
      have hnx := plc_next 0 xs i x hx
      have hpf : (pl xs).take i ++ [(i, x)] <+: pl xs := by
        rw [show (pl xs).take i ++ [(i, x)] = (pl xs).take (i + 1) from hnx]; exact List.take_prefix _ _
      rcases hLk with ⟨_, rfl⟩ | ⟨g, m, v, f, cs, hp, hC, hBg, hBv⟩
      · simp at hx
      · subst hp
        have hx1 := (List.getElem?_eq_some_iff.1 hx).1
        have hfw := hC.few
        obtain ⟨k, o, c, rfl, hnc, hk⟩ := hC.lies.shape (by omega)
        have hpl2 : (f + i) % cs.length < cs.length := Nat.mod_lt _ (by omega)
        have hix := fun W => LiesK.idx K k o cs.length c _ hpl2 W
        have hld : ∀ W, Drawn wr W → (loadVar 3 ⟨k, o + (f + i) % cs.length * K.sz, none⟩).run Try.prog W = .ok (Value.int .i64 x) W := fun W hd => K.load x W k _ ((hC.drawn hd).lies.rng _ x (hC.turned.2.2 i x hx))
        have hpc := fun W (hd : Drawn wr W) => place_core (hC.drawn hd) i (by omega) (by omega)
        have hS : ∀ W3, Drawn wr W3 ∨ Kept (fun r => (r = Bx ∨ B r) ∨ (W.heap.size ≤ r ∧ r < W.heap.size + 0)) wr W3 → R4 g (.int .i64 (m : Int)) (.slice (some ⟨k, o, none⟩) cs.length c) (.int .i64 (f : Int)) (.int .i64 (xs.length : Int)) W3 ∧ W3.cell? ⟨Bx, 0, none⟩ = some (.pointer (some ⟨g, 0, none⟩)) := by
          rintro W3 (hd | hk3)
          · exact ⟨(hC.drawn hd).r4, by rw [hd.cell]; exact cell_of_row wr Bx 0 _ 35 (0, 0) hR⟩
          · exact ⟨(hC.same hk3.size (hk3.same g (.inl (.inr hBg))) (fun k hk => hk3.same k (.inl (.inr (hBv k hk))))).r4, by rw [World.cell?_of_block (hk3.same Bx (.inl (.inl rfl)))]; exact cell_of_row wr Bx 0 _ 35 (0, 0) hR⟩
        have hyl : ∀ W3, Drawn wr W3 → ∃ fn tmps assign body, (Instr.yield l #[.int .i64 (i : Int), (Value.int .i64 x)]).run Try.prog W3 = .ok (.round l fn tmps assign body) W3 ∧
            ∀ q, RoundIn Fence.wide q Try.prog l fn tmps assign body W3 fun e W' => ∃ okb, e = .returned (.bool okb) ∧ Kept (fun r => (r = Bx ∨ B r) ∨ (W.heap.size ≤ r ∧ r < W.heap.size + 0)) wr W' ∧ (okb = true → J ((pl xs).take (i + 1)) W') ∧ (okb = false → Jx ((pl xs).take (i + 1)) W') := by
          intro W3 hD
          obtain ⟨fn, tmps, assign, body, hy, hRd⟩ := HY.out _ (i, x) W3 hpf (HJ.out.1 _ wr W3 none hJp (hD.grown none) (fun r e => by cases e)) (by rw [hD.heap]; omega)
          rw [show (pl xs).take i ++ [(i, x)] = (pl xs).take (i + 1) from hnx] at hRd
          refine ⟨fn, tmps, assign, body, hy, fun q => (roundIn_wide0 q hRd).mono ?_⟩
          have hkd : ∀ W', Kept (fun r => (r = Bx ∨ B r) ∨ (W.heap.size ≤ r ∧ r < W.heap.size + 0)) W3 W' → Kept (fun r => (r = Bx ∨ B r) ∨ (W.heap.size ≤ r ∧ r < W.heap.size + 0)) wr W' := fun W' hk' => ⟨by rw [← hD.heap]; exact hk'.size, fun r hr => by rw [← hD.heap]; exact hk'.same r hr⟩
          rintro e W' (⟨rfl, hj, hk'⟩ | ⟨rfl, hj, hk'⟩)
          · exact ⟨true, rfl, hkd W' hk', fun _ => hj, fun h => Bool.noConfusion h⟩
          · exact ⟨false, rfl, hkd W' hk', fun h => Bool.noConfusion h, fun _ => hj⟩
        have hend : ∀ W4, Kept (fun r => (r = Bx ∨ B r) ∨ (W.heap.size ≤ r ∧ r < W.heap.size + 0)) wr W4 → W.heap.size ≤ W4.heap.size ∧ Row W4 Bx #[.pointer (some ⟨g, 0, none⟩)] 35 ∧ Look W4 (some ⟨g, 0, none⟩) B xs := fun W4 hk4 =>
          ⟨Nat.le_trans hz hk4.size, by unfold Row; rw [hk4.same Bx (.inl (.inl rfl))]; exact hR, Look.same (.inr ⟨g, m, _, f, cs, rfl, hC, hBg, hBv⟩) hk4.size (fun r hr => hk4.same r (.inl (.inr hr)))⟩
        generalize (f + i) % cs.length = q at *
        have HLD := Lib.hid hld
        have HP := Lib.hid hpc
        have HS := Lib.hid hS
        have HYL := Lib.hid hyl
        have HE := Lib.hid hend
        have HX := Lib.hid hpf
        clear hld hpc hS hyl hend hC hR hJp hpf hnx hx hx1 hfw hpl2 hnc hk hBg hBv hpl
        gi_wp2
        refine wide_region (fun wx => R4 g (.int .i64 (m : Int)) (.slice (some ⟨k, o, none⟩) cs.length c) (.int .i64 (f : Int)) (.int .i64 (xs.length : Int)) wx ∧ wx.cell? ⟨Bx, 0, none⟩ = some (.pointer (some ⟨g, 0, none⟩))) hmx ?_
        have hd0 : Drawn wr wr.drew := ⟨1, rfl⟩
        refine takeW (i := 0) (d := some 9) (v := .func (.yield l) #[] #[]) rfl (by kernel_rfl) (by kernel_rfl) (by kernel_rfl) (fun _ _ _ h => h) (fun oi ho => ?_) (HS.out _ (.inl hd0)) ?_
        · obtain rfl := Option.some.inj ho
          exact Or.inl ⟨by rfl, fun wx ⟨⟨k0, k1, k2, k3⟩, k4⟩ => by go_simp⟩
        simp only [Act.put, List.setIfInBounds_toArray, List.set_cons_zero, List.set_cons_succ]
        refine takeW (i := 1) (d := some 10) (v := .int .i64 (i : Int)) rfl (by kernel_rfl) (by kernel_rfl) (by kernel_rfl) (fun _ _ _ h => h) (fun oi ho => ?_) (HS.out _ (.inl hd0)) ?_
        · obtain rfl := Option.some.inj ho
          exact Or.inl ⟨by rfl, fun wx ⟨⟨k0, k1, k2, k3⟩, k4⟩ => by go_simp⟩
        simp only [Act.put, List.setIfInBounds_toArray, List.set_cons_zero, List.set_cons_succ]
        refine takeW (i := 2) (d := some 11) (v := .pointer (some ⟨g, 0, none⟩)) rfl (by kernel_rfl) (by kernel_rfl) (by kernel_rfl) (fun _ _ _ h => h) (fun oi ho => ?_) (HS.out _ (.inl hd0)) ?_
        · obtain rfl := Option.some.inj ho
          exact Or.inl ⟨by rfl, fun wx ⟨⟨k0, k1, k2, k3⟩, k4⟩ => by go_simp⟩
        simp only [Act.put, List.setIfInBounds_toArray, List.set_cons_zero, List.set_cons_succ]
        refine takeW (i := 3) (d := some 12) (v := .pointer (some ⟨g, 0, none⟩)) rfl (by kernel_rfl) (by kernel_rfl) (by kernel_rfl) (fun _ _ _ h => h) (fun oi ho => ?_) (HS.out _ (.inl hd0)) ?_
        · obtain rfl := Option.some.inj ho
          exact Or.inl ⟨by rfl, fun wx ⟨⟨k0, k1, k2, k3⟩, k4⟩ => by go_simp⟩
        simp only [Act.put, List.setIfInBounds_toArray, List.set_cons_zero, List.set_cons_succ]
        refine takeW (i := 4) (d := some 13) (v := .pointer (some ⟨g, 1, none⟩)) rfl (by kernel_rfl) (by kernel_rfl) (by kernel_rfl) (fun _ _ _ h => h) (fun oi ho => ?_) (HS.out _ (.inl hd0)) ?_
        · obtain rfl := Option.some.inj ho
          exact Or.inl ⟨by rfl, fun wx ⟨⟨k0, k1, k2, k3⟩, k4⟩ => by go_simp⟩
        simp only [Act.put, List.setIfInBounds_toArray, List.set_cons_zero, List.set_cons_succ]
        refine takeW (i := 5) (d := some 14) (v := .slice (some ⟨k, o, none⟩) cs.length c) rfl (by kernel_rfl) (by kernel_rfl) (by kernel_rfl) (fun _ _ _ h => h) (fun oi ho => ?_) (HS.out _ (.inl hd0)) ?_
        · obtain rfl := Option.some.inj ho
          exact Or.inl ⟨by rfl, fun wx ⟨⟨k0, k1, k2, k3⟩, k4⟩ => by go_simp⟩
        simp only [Act.put, List.setIfInBounds_toArray, List.set_cons_zero, List.set_cons_succ]
        refine takeW (i := 6) (d := some 15) (v := .pointer (some ⟨g, 0, none⟩)) rfl (by kernel_rfl) (by kernel_rfl) (by kernel_rfl) (fun _ _ _ h => h) (fun oi ho => ?_) (HS.out _ (.inl hd0)) ?_
        · obtain rfl := Option.some.inj ho
          exact Or.inl ⟨by rfl, fun wx ⟨⟨k0, k1, k2, k3⟩, k4⟩ => by go_simp⟩
        simp only [Act.put, List.setIfInBounds_toArray, List.set_cons_zero, List.set_cons_succ]
        refine takeW (i := 7) (d := some 16) (v := .int .i64 (i : Int)) rfl (by kernel_rfl) (by kernel_rfl) (by kernel_rfl) (fun _ _ _ h => h) (fun oi ho => ?_) (HS.out _ (.inl hd0)) ?_
        · obtain rfl := Option.some.inj ho
          exact Or.inl ⟨by rfl, fun wx ⟨⟨k0, k1, k2, k3⟩, k4⟩ => by go_simp⟩
        simp only [Act.put, List.setIfInBounds_toArray, List.set_cons_zero, List.set_cons_succ]
        refine ready_callW (i := 8) (d := some 17) (f := 51) (args := #[.pointer (some ⟨g, 0, none⟩), .int .i64 (i : Int)]) rfl (by kernel_rfl) (fun oi ho => ?_) ?_
        · obtain rfl := Option.some.inj ho
          exact ⟨by rfl, by go_simp⟩
        refine (HP.out _ hd0).mono ?_
        rintro e W3 ⟨rfl, hd1⟩
        have hd2 := hd0.trans hd1
        refine ⟨_, rfl, (HS.out _ (.inl hd2)), ?_⟩
        simp only [Act.put, List.setIfInBounds_toArray, List.set_cons_zero, List.set_cons_succ]
        refine takeW (i := 9) (d := some 18) (v := .pointer (some ⟨k, o + q * K.sz, none⟩)) rfl (by kernel_rfl) (by kernel_rfl) (by kernel_rfl) (fun _ _ _ h => h) (fun oi ho => ?_) (HS.out _ (.inl hd2)) ?_
        · obtain rfl := Option.some.inj ho
          exact Or.inl ⟨by rfl, fun wx ⟨⟨k0, k1, k2, k3⟩, k4⟩ => by exact exec_index_by _ _ _ rfl _ _ rfl rfl _ (hix wx)⟩
        simp only [Act.put, List.setIfInBounds_toArray, List.set_cons_zero, List.set_cons_succ]
        refine ready_valueW (i := 10) (d := some 19) (v := (Value.int .i64 x)) (w' := W3) rfl (by kernel_rfl) (fun oi ho => ?_) (HS.out _ (.inl hd2)) ?_
        · obtain rfl := Option.some.inj ho
          exact ⟨by rfl, exec_load_by _ _ rfl _ rfl (HLD.out _ hd2)⟩
        simp only [Act.put, List.setIfInBounds_toArray, List.set_cons_zero, List.set_cons_succ]
        obtain ⟨fn, tmps, assign, body, hy, hRd⟩ := HYL.out W3 hd2
        refine ready_roundW (i := 11) (d := some 20) (l := l) (f := fn) (tmps := tmps) (assign := assign) (body := body) rfl (by kernel_rfl) (fun oi ho => ?_) ?_
        · obtain rfl := Option.some.inj ho
          exact ⟨by rfl, by go_simp⟩
        refine (hRd _).mono ?_
        rintro e W4 ⟨okb, rfl, hk4, hj4⟩
        refine ⟨_, rfl, HS.out _ (.inr hk4), ?_⟩
        simp only [Act.put, List.setIfInBounds_toArray, List.set_cons_zero, List.set_cons_succ]
        have hE := HE.out W4 hk4
        have HE4 := Lib.hid (And.intro hE hj4)
        refine takeW (i := 12) (d := some 21) (v := .bool (!okb)) rfl (by kernel_rfl) (by kernel_rfl) (by kernel_rfl) (fun _ _ _ h => h) (fun oi ho => ?_) (HS.out _ (.inr hk4)) ?_
        · obtain rfl := Option.some.inj ho
          exact Or.inl ⟨by rfl, fun wx ⟨⟨k0, k1, k2, k3⟩, k4⟩ => by go_simp⟩
        simp only [Act.put, List.setIfInBounds_toArray, List.set_cons_zero, List.set_cons_succ]
        refine wideW_done (by kernel_rfl) ?_ _
        clear hE hj4 hk4 hy hRd
        cases okb with
        | true =>
          gi_wp2
          exact ⟨⟨i + 1, by omega, by go_num, HE4.out.1.1, HE4.out.1.2.1, HE4.out.1.2.2, HE4.out.2.1 (by simp)⟩, by simp [intOf]; omega⟩
        | false =>
          gi_wp2
          refine bodyPost_ret (results_none rfl _ _ _) rfl ?_
          exact ⟨⟨_, rfl⟩, .inr ⟨(pl xs).take (i + 1), List.take_prefix _ _, HE4.out.2.2 (by simp)⟩⟩
    · obtain rfl : i = N := by omega
      have H2 := Lib.hid hJp
      clear hR hLk hJp
      gi_wp2
      go_end0
      exact ⟨⟨_, rfl⟩, .inl (by have := H2.out; rwa [List.take_of_length_le (by omega)] at this)⟩
end Rn
end Go.Proofs.Ytkekjcdhlkhhoaa
